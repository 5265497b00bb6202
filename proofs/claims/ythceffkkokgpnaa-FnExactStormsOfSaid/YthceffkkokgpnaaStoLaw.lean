/- The walk of the law FnExactStormsOf. -/
import Derived.Test.YthceffkkokgpnaaStoRI
import Derived.Test.YthceffkkokgpnaaStoRS
import Derived.Test.YthceffkkokgpnaaStLaw
namespace Go.Proofs.Ythceffkkokgpnaa
open Go.RowKit
set_option linter.unusedVariables false
set_option linter.unusedSimpArgs false
theorem OwnSt.pick {w : World} {B : Nat} {a : Option Addr} {l : List StT} (h : OwnSt w B a l) (hB : B ≤ w.heap.size) : ∃ g, B ≤ g ∧ g ≠ w.heap.size ∧ AtSt w a g l := by
  obtain ⟨g, h1, h2⟩ := h
  rcases h2 with rfl | ⟨e, hr⟩
  · exact ⟨w.heap.size + 1, by omega, by omega, .inl rfl⟩
  · exact ⟨g, h1, by have := hr.lt; omega, .inr ⟨e, hr⟩⟩
theorem Sts.turn {w w' : World} {a : Option Addr} {g B : Nat} {l : List StT} (h : Sts w B a l) (o : w.grownBy w' (some g)) (hB : B ≤ g) (hw : B ≤ w.heap.size) : Sts w' B a l :=
  h.keep fun q hq => by
    have hb : q.block < w.heap.size := by omega
    unfold World.cell?
    rw [o.block q.block hb (by intro e; injection e with e; omega)]
theorem AtSt.turn {w w' : World} {a : Option Addr} {g g' : Nat} {l : List StT} (h : AtSt w a g l) (o : w.grownBy w' (some g')) (hne : g ≠ g') : AtSt w' a g l := h.keep fun hg => o.block g hg (by intro e; injection e with e; exact hne e)
set_option maxRecDepth 100000 in
set_option maxHeartbeats 4000000 in
theorem walk_StoLaw (wd hg : Int) (a : Option Addr) (l : List Int) (c : Nat) (lim : Int) (w : World) (hl : Ints .i64 w w.heap.size a l) (hm : l.length ≤ maxLen) :
    Calls Try.prog 7 #[.agg #[.int .i64 wd, .int .i64 hg, .slice a l.length c], .int .i64 lim] w fun e w' => e = .returned (.bool true) ∧ Below w.heap.size w w' := by
  have HZ := Lib.hid (fun o => szField_any wd hg a l.length c 1048576 (w.alloc o) hm (by omega) (by omega))
  unfold maxLen at hm
  by_cases hn : (l.length : Int) ≤ 1048576
  · have hn1 : l.length ≤ 1048576 := by omega
    rw [if_pos hn] at HZ
    have HA0 := Lib.hid hl
    have hL0 := Lib.hid (Lw.new (wd := wd) (hg := hg) (c := c) hl)
    have HV := Lib.hid (fun b W h => specSO_any wd hg (some ⟨b, 0, none⟩) l l.length lim W h hn1)
    have HI := Lib.hid (fun b W h => implSO_any wd hg (some ⟨b, 0, none⟩) l l.length lim W h hn1)
    have hr1 : (stoR wd hg l lim).length ≤ 1048576 := by have := stoR_len wd hg l lim; omega
    generalize stoR wd hg l lim = r at *
    generalize stoB wd hg l lim = rb at *
    unfold StRet at HV HI
    have hh : ¬ (1 + 4 * (r.length : Int) < 0) := by omega
    clear hl
    go_enter Try.func7, Try.ntmps7
    go_wp2_with fail
    refine (HZ.out _).mono ?_
    rintro e w1 ⟨rfl, b1⟩
    have z1 := b1.size
    simp only [World.size_alloc] at z1
    have hL1 := Lib.hid (hL0.out.step b1)
    obtain ⟨k0, k1, k2⟩ := hL1.out.2.2.cells
    clear b1 HZ hL0
    go_wp2_with fail
    refine (toField_any wd hg a l c _ hL1.out.2.1 hn1).mono ?_
    rintro e w2 ⟨g2, hg2, hz2, rfl, at2, b2⟩
    have z2 := b2.size
    have A2 := Lib.hid at2
    have hL2 := Lib.hid (hL1.out.step b2)
    clear at2 b2 hL1 k0 k1 k2
    go_wp2_with fail
    refine (HV.out _ _ A2.out.ints).mono ?_
    rintro e w3 ⟨a3, c3, rfl, t3, b3⟩
    have z3 := b3.size
    have hL3 := Lib.hid (hL2.out.step b3)
    have hD3 := Lib.hid t3.reads
    obtain ⟨k0, k1, k2⟩ := hL3.out.2.2.cells
    clear b3 t3 hL2 A2
    go_wp2_with fail
    refine (toField_any wd hg a l c _ hL3.out.2.1 hn1).mono ?_
    rintro e w4 ⟨g4, hg4, hz4, rfl, at4, b4⟩
    have z4 := b4.size
    obtain ⟨W4, hW4⟩ : ∃ x, w4.alloc (.cells #[.int .i64 wd, .int .i64 hg, .slice (some ⟨g4, 0, none⟩) l.length l.length] 54) = x := ⟨_, rfl⟩
    have sW4 : W4.heap.size = w4.heap.size + 1 := by rw [← hW4]; simp
    have BW4 : Box W4 w4.heap.size 54 (.int .i64 wd) (.int .i64 hg) (.slice (some ⟨g4, 0, none⟩) l.length l.length) := by rw [← hW4]; exact Box.new _ _ _ _ _
    have aW4 : Below w4.heap.size w4 W4 := by rw [← hW4]; exact below_all _ _
    have b4' := below_then b4 aW4
    have hLW4 := Lib.hid (hL3.out.step b4')
    have hDW4 := Lib.hid (hD3.out.below b4' (by omega))
    have hXW4 := Lib.hid BW4
    have hXAW4 := Lib.hid (at4.below aW4)
    have HW4 := Lib.hid hW4
    clear k0 k1 k2 b4 b4' at4 aW4 BW4 hW4 hL3 hD3
    go_wp2_with fail
    rw [HW4.out]
    refine (HI.out _ _ hXAW4.out.ints).mono ?_
    rintro e w5 ⟨a5, c5, rfl, t5, b5⟩
    have z5 := b5.size
    have hL5 := Lib.hid (hLW4.out.step b5)
    have hD5 := Lib.hid (hDW4.out.below b5 (by omega))
    have hX5 := Lib.hid (hXW4.out.below b5)
    have hXA5 := Lib.hid (hXAW4.out.below b5)
    obtain ⟨g5, hg5, hgn5, at5⟩ := t5.pick b5.size
    have hG5 := Lib.hid at5
    clear at5
    clear HW4 b5 t5
    clear hLW4 hDW4 hXW4 hXAW4
    go_wp2_with fail
    refine (eqSts_yes _ _ r _ _ _ hG5.out.reads (hD5.out.more (by omega)) hr1).mono ?_
    rintro e w6 ⟨rfl, b6⟩
    have z6 := b6.size
    have hL6 := Lib.hid (hL5.out.step b6)
    have hD6 := Lib.hid (hD5.out.below b6 (by omega))
    have hX6 := Lib.hid (hX5.out.below b6)
    have hXA6 := Lib.hid (hXA5.out.below b6)
    have hG6 := Lib.hid (hG5.out.below b6)
    clear hL5 hD5 hX5 hXA5 hG5 b6
    cases rb <;> go_wp2_with fail
    all_goals
      obtain ⟨k0, k1, k2⟩ := hL6.out.2.2.cells
      obtain ⟨x0, x1, x2⟩ := hX6.out.cells
      have bd : Below w6.heap.size w6 w6.drew := ⟨rfl, rfl, rfl, Nat.le_refl _, fun _ _ => rfl⟩
      have hL7 := Lib.hid (hL6.out.step bd)
      have hD7 := Lib.hid (hD6.out.below bd (by omega))
      have hX7 := Lib.hid (hX6.out.below bd)
      have hXA7 := Lib.hid (hXA6.out.below bd)
      have hG7 := Lib.hid (hG6.out.below bd)
      clear hL6 hD6 hX6 hXA6 hG6 bd
      have z7 : w6.drew.heap.size = w6.heap.size := rfl
      go_region_held3 (fun w' => (w'.cell? ⟨w.heap.size, 0, none⟩ = some (.int .i64 wd) ∧ w'.cell? ⟨w.heap.size, 1, none⟩ = some (.int .i64 hg) ∧ w'.cell? ⟨w.heap.size, 2, none⟩ = some (.slice a l.length c)) ∧
          (w'.cell? ⟨w4.heap.size, 0, none⟩ = some (.int .i64 wd) ∧ w'.cell? ⟨w4.heap.size, 1, none⟩ = some (.int .i64 hg) ∧ w'.cell? ⟨w4.heap.size, 2, none⟩ = some (.slice (some ⟨g4, 0, none⟩) l.length l.length)))
        (first | exact ⟨hL9.out.2.2.cells, hX9.out.cells⟩ | exact ⟨hL8.out.2.2.cells, hX8.out.cells⟩ | go_keep)
        (first
          | (go_at_call 36; refine (toField_any wd hg a l c _ hL7.out.2.1 hn1).mono ?_; rintro e w8 ⟨g8, hg8, hz8, rfl, at8, b8⟩; have z8 := b8.size; have hL8 := Lib.hid (hL7.out.step b8); have hD8 := Lib.hid (hD7.out.below b8 (by omega)); have hX8 := Lib.hid (hX7.out.below b8); have hXA8 := Lib.hid (hXA7.out.below b8); have hG8 := Lib.hid (hG7.out.below b8); have F8 := Lib.hid at8; clear at8 b8)
          | (go_at_call 38; refine (eqField_yes wd hg _ _ l _ _ _ hXA8.out.ints F8.out.ints hn1).mono ?_; rintro e w9 ⟨rfl, b9⟩; have z9 := b9.size; have hL9 := Lib.hid (hL8.out.step b9); have hD9 := Lib.hid (hD8.out.below b9 (by omega)); have hX9 := Lib.hid (hX8.out.below b9); have hXA9 := Lib.hid (hXA8.out.below b9); have hG9 := Lib.hid (hG8.out.below b9); clear b9))
      clear hL7 hD7 hX7 hXA7 hG7
      clear hL8 hD8 hX8 hXA8 hG8
      clear k0 k1 k2 x0 x1 x2
      rename_i hHeld
      clear hHeld
      obtain ⟨x0, x1, x2⟩ := hX9.out.cells
      go_wp2_with fail
      refine (markField_any wd hg _ l _ g4 1 _ hXA9.out hn1 (by omega) (by omega)).mono ?_
      rintro e w10 ⟨rfl, at10, t10⟩
      have z10 := t10.size
      have hG10 := Lib.hid (hG9.out.turn t10 (by omega))
      have hL10 := Lib.hid (hL9.out.turn t10 (by omega) HA0.out)
      have hD10 := Lib.hid (hD9.out.turn t10 (by omega) (by omega))
      clear hL9 hD9 hX9 hXA9 hG9 at10 t10 F8 x0 x1 x2
      go_wp2_with fail
      refine (eqSts_yes _ _ r _ _ _ hG10.out.reads (hD10.out.more (by omega)) hr1).mono ?_
      rintro e w11 ⟨rfl, b11⟩
      have z11 := b11.size
      have hL11 := Lib.hid (hL10.out.step b11)
      have hD11 := Lib.hid (hD10.out.below b11 (by omega))
      have hG11 := Lib.hid (hG10.out.below b11)
      clear hL10 hD10 hG10 b11
      go_wp2_with fail
      refine (markSts_any _ r _ g5 1 _ hG11.out hr1 (by omega) (by omega)).mono ?_
      rintro e w12 ⟨rfl, t12, o12⟩
      have z12 := o12.1.size
      have hL12 := Lib.hid (hL11.out.turn o12.1 (by omega) HA0.out)
      have hD12 := Lib.hid (hD11.out.turn o12.1 (by omega) (by omega))
      have hG12 := Lib.hid t12
      clear hL11 hD11 hG11 t12 o12
      go_wp2_with fail
      refine (heldSts_any _ r.length _ 1 _ hG12.out.reads hr1 (by omega) (by omega)).mono ?_
      rintro e w13 ⟨rfl, rfl⟩
      obtain ⟨k0, k1, k2⟩ := hL12.out.2.2.cells
      go_wp2_with fail
      refine (toField_any wd hg a l c _ hL12.out.2.1 hn1).mono ?_
      rintro e w14 ⟨g14, hg14, hz14, rfl, at14, b14⟩
      have z14 := b14.size
      have A14 := Lib.hid at14
      have hL14 := Lib.hid (hL12.out.step b14)
      have hD14 := Lib.hid (hD12.out.below b14 (by omega))
      have hG14 := Lib.hid (hG12.out.below b14)
      clear hL12 hD12 hG12 at14 b14 k0 k1 k2
      go_wp2_with fail
      refine (HI.out _ _ A14.out.ints).mono ?_
      rintro e w15 ⟨a15, c15, rfl, t15, b15⟩
      have z15 := b15.size
      have hL15 := Lib.hid (hL14.out.step b15)
      have hD15 := Lib.hid (hD14.out.below b15 (by omega))
      have hG15 := Lib.hid (hG14.out.below b15)
      have hJ15 := Lib.hid t15.reads
      clear hL14 hD14 hG14 A14 t15 b15
      go_wp2_with fail
      refine (eqSts_yes _ _ r _ _ _ hJ15.out (hD15.out.more (by omega)) hr1).mono ?_
      rintro e w16 ⟨rfl, b16⟩
      have z16 := b16.size
      have hL16 := Lib.hid (hL15.out.step b16)
      have hD16 := Lib.hid (hD15.out.below b16 (by omega))
      have hG16 := Lib.hid (hG15.out.below b16)
      clear hL15 hD15 hG15 b16 hJ15
      go_wp2_with fail
      refine (heldSts_any _ r.length _ 1 _ hG16.out.reads hr1 (by omega) (by omega)).mono ?_
      rintro e w17 ⟨rfl, rfl⟩
      go_wp2
      go_ret
      exact ⟨rfl, hL16.out.1⟩
  · rw [if_neg hn] at HZ
    clear hl
    go_enter Try.func7, Try.ntmps7
    go_wp2_with (go_at_call 34; refine (HZ.out _).mono ?_; rintro e w1 ⟨rfl, b⟩; have HB := Lib.hid b; clear b)
    go_ret
    exact ⟨rfl, below_then (below_all _ _) HB.out⟩
end Go.Proofs.Ythceffkkokgpnaa
