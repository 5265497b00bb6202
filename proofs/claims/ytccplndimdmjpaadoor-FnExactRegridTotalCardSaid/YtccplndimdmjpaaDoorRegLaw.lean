/- The walk of the law FnExactRegridTotal. -/
import Derived.Test.YtccplndimdmjpaaDoorLws
import Derived.Test.YtccplndimdmjpaaDoorRtSpec
import Derived.Test.YtccplndimdmjpaaDoorRtImpl
namespace Go.Proofs.YtccplndimdmjpaaDoor
open Go.RowKit
set_option linter.unusedVariables false
set_option linter.unusedSimpArgs false
set_option maxRecDepth 100000 in
set_option maxHeartbeats 4000000 in
theorem walk_RegLaw (wd hg : Int) (a : Option Addr) (l : List Int) (c : Nat) (p : Int) (q : Int) (w : World) (hl : Ints .i64 w w.heap.size a l) (hm : l.length ≤ maxLen) (ht : BlockIs w 0 deBruijn64tabCells.toArray) :
    Calls Tryd.prog 4 #[.agg #[.int .i64 wd, .int .i64 hg, .slice a l.length c], .int .i64 p, .int .i64 q] w fun e w' => e = .returned (.bool true) ∧ Below w.heap.size w w' := by
  have HZ := Lib.hid (fun o => szField_any wd hg a l.length c 1048576 (w.alloc o) hm (by omega) (by omega))
  unfold maxLen at hm
  by_cases hn : (l.length : Int) ≤ 1048576
  · have hn1 : l.length ≤ 1048576 := by omega
    rw [if_pos hn] at HZ
    have HA0 := Lib.hid hl
    have hL0 := Lib.hid (Lw.new (wd := wd) (hg := hg) (c := c) hl)
    have HV := Lib.hid (fun b W h => specReg_any wd hg (some ⟨b, 0, none⟩) l l.length p q W h hn1)
    have HI := Lib.hid (fun b W h h9 => implReg_any wd hg (some ⟨b, 0, none⟩) l l.length p q W h hn1 h9)
    have HT := Lib.hid ht
    clear ht
    have hlen := regR_len wd hg l p q
    generalize regR wd hg l p q = r at *
    obtain ⟨rw', hrW⟩ : ∃ x, rW r = x := ⟨_, rfl⟩
    obtain ⟨rh, hrH⟩ : ∃ x, rH r = x := ⟨_, rfl⟩
    obtain ⟨rl, hrL⟩ : ∃ x, rL r = x := ⟨_, rfl⟩
    obtain ⟨rb, hrB⟩ : ∃ x, rB r = x := ⟨_, rfl⟩
    unfold FRet at HV HI
    rw [hrW, hrH, hrL, hrB] at HV HI
    rw [hrL] at hlen
    clear hrW hrH hrL hrB hl
    go_enter Tryd.func4, Tryd.ntmps4
    go_wp2_with fail
    refine (HZ.out _).mono ?_
    rintro e w1 ⟨rfl, b1⟩
    have z1 := b1.size
    simp only [World.size_alloc] at z1
    have hL1 := Lib.hid (hL0.out.step b1)
    obtain ⟨k0, k1, k2⟩ := hL1.out.2.2.cells
    clear b1 HZ hL0
    go_wp2_with fail
    refine (toField_any wd hg a l c _ hL1.out.2.1 hn1).mono ?_
    rintro e w2 ⟨g2, hg2, hz2, rfl, at2, b2⟩
    have z2 := b2.size
    have A2 := Lib.hid at2
    have hL2 := Lib.hid (hL1.out.step b2)
    clear at2 b2 hL1 k0 k1 k2
    go_wp2_with fail
    refine (HV.out _ _ A2.out.ints).mono ?_
    rintro e w3 ⟨a3, c3, rfl, o3, b3⟩
    obtain ⟨W3, hW3⟩ : ∃ x, w3.alloc (.cells #[.int .i64 rw', .int .i64 rh, .slice a3 rl.length c3] 32) = x := ⟨_, rfl⟩
    have sW3 : W3.heap.size = w3.heap.size + 1 := by rw [← hW3]; simp
    have BW3 : Box W3 w3.heap.size 32 (.int .i64 rw') (.int .i64 rh) (.slice a3 rl.length c3) := by rw [← hW3]; exact Box.new _ _ _ _ _
    have aW3 : Below w3.heap.size w3 W3 := by rw [← hW3]; exact below_all _ _
    have z3 := b3.size
    have hLW3 := Lib.hid ((hL2.out.step b3).step aW3)
    have hDW3 := Lib.hid BW3
    have hDIW3 : Hid (Ints .i64 W3 (w3.heap.size + 1) a3 rl) := Lib.hid (by rw [← sW3]; exact ints_below o3.ints aW3)
    obtain ⟨k0, k1, k2⟩ := (hL2.out.step b3).2.2.cells
    have q31 : w.heap.size < w3.heap.size := by omega
    have q32 : ¬ w.heap.size = w3.heap.size := by omega
    have HW3 := Lib.hid hW3
    clear b3 o3 aW3 BW3 hL2 A2 hW3
    go_wp2_with fail
    rw [HW3.out]
    refine (toField_any wd hg a l c _ hLW3.out.2.1 hn1).mono ?_
    rintro e w4 ⟨g4, hg4, hz4, rfl, at4, b4⟩
    have z4 := b4.size
    obtain ⟨W4, hW4⟩ : ∃ x, w4.alloc (.cells #[.int .i64 wd, .int .i64 hg, .slice (some ⟨g4, 0, none⟩) l.length l.length] 32) = x := ⟨_, rfl⟩
    have sW4 : W4.heap.size = w4.heap.size + 1 := by rw [← hW4]; simp
    have BW4 : Box W4 w4.heap.size 32 (.int .i64 wd) (.int .i64 hg) (.slice (some ⟨g4, 0, none⟩) l.length l.length) := by rw [← hW4]; exact Box.new _ _ _ _ _
    have aW4 : Below w4.heap.size w4 W4 := by rw [← hW4]; exact below_all _ _
    have b4' := below_then b4 aW4
    have hLW4 := Lib.hid (hLW3.out.step b4')
    have hDW4 := Lib.hid (hDW3.out.below b4')
    have hDIW4 := Lib.hid (hDIW3.out.below b4' (by omega))
    have hXW4 := Lib.hid BW4
    have hXAW4 := Lib.hid (at4.below aW4)
    have HW4 := Lib.hid hW4
    clear k0 k1 k2 q31 q32 HW3 b4 b4' at4 aW4 BW4 hW4 hLW3 hDW3 hDIW3
    go_wp2_with fail
    rw [HW4.out]
    refine (HI.out _ _ hXAW4.out.ints (HT.out.below hLW4.out.1)).mono ?_
    rintro e w5 ⟨a5, c5, rfl, o5, b5⟩
    have z5 := b5.size
    obtain ⟨g5, hg5, hgn5, at5⟩ := o5.pick b5.size
    obtain ⟨W5, hW5⟩ : ∃ x, w5.alloc (.cells #[.int .i64 rw', .int .i64 rh, .slice a5 rl.length c5] 32) = x := ⟨_, rfl⟩
    have sW5 : W5.heap.size = w5.heap.size + 1 := by rw [← hW5]; simp
    have BW5 : Box W5 w5.heap.size 32 (.int .i64 rw') (.int .i64 rh) (.slice a5 rl.length c5) := by rw [← hW5]; exact Box.new _ _ _ _ _
    have aW5 : Below w5.heap.size w5 W5 := by rw [← hW5]; exact below_all _ _
    have b5' := below_then b5 aW5
    have hLW5 := Lib.hid (hLW4.out.step b5')
    have hDW5 := Lib.hid (hDW4.out.below b5')
    have hDIW5 := Lib.hid (hDIW4.out.below b5' (by omega))
    have hXW5 := Lib.hid (hXW4.out.below b5')
    have hXAW5 := Lib.hid (hXAW4.out.below b5')
    have hGW5 := Lib.hid BW5
    have hGAW5 := Lib.hid (at5.below aW5)
    obtain ⟨y0, y1, y2⟩ := (hDW4.out.below b5).cells
    have q1 : w3.heap.size < w5.heap.size := by omega
    have q2 : ¬ w3.heap.size = w5.heap.size := by omega
    have HW5 := Lib.hid hW5
    clear HW4 b5 b5' at5 o5 aW5 BW5 hW5 hLW4 hDW4 hDIW4 hXW4 hXAW4
    go_wp2_with fail
    rw [HW5.out]
    refine (eqField_yes rw' rh _ _ rl _ _ _ hGAW5.out.ints (hDIW5.out.more (by omega)) (by omega)).mono ?_
    rintro e w6 ⟨rfl, b6⟩
    have z6 := b6.size
    have hL6 := Lib.hid (hLW5.out.step b6)
    have hD6 := Lib.hid (hDW5.out.below b6)
    have hDI6 := Lib.hid (hDIW5.out.below b6 (by omega))
    have hX6 := Lib.hid (hXW5.out.below b6)
    have hXA6 := Lib.hid (hXAW5.out.below b6)
    have hG6 := Lib.hid (hGW5.out.below b6)
    have hGA6 := Lib.hid (hGAW5.out.below b6)
    clear hLW5 hDW5 hDIW5 hXW5 hXAW5 hGW5 hGAW5 b6 y0 y1 y2 q1 q2 HW5
    cases rb <;> go_wp2_with fail
    all_goals
      obtain ⟨k0, k1, k2⟩ := hL6.out.2.2.cells
      obtain ⟨x0, x1, x2⟩ := hX6.out.cells
      have bd : Below w6.heap.size w6 w6.drew := ⟨rfl, rfl, rfl, Nat.le_refl _, fun _ _ => rfl⟩
      have hL7 := Lib.hid (hL6.out.step bd)
      have hD7 := Lib.hid (hD6.out.below bd)
      have hDI7 := Lib.hid (hDI6.out.below bd (by omega))
      have hX7 := Lib.hid (hX6.out.below bd)
      have hXA7 := Lib.hid (hXA6.out.below bd)
      have hG7 := Lib.hid (hG6.out.below bd)
      have hGA7 := Lib.hid (hGA6.out.below bd)
      clear hL6 hD6 hDI6 hX6 hXA6 hG6 hGA6 bd
      have z7 : w6.drew.heap.size = w6.heap.size := rfl
      go_region_held3 (fun w' => (w'.cell? ⟨w.heap.size, 0, none⟩ = some (.int .i64 wd) ∧ w'.cell? ⟨w.heap.size, 1, none⟩ = some (.int .i64 hg) ∧ w'.cell? ⟨w.heap.size, 2, none⟩ = some (.slice a l.length c)) ∧
          (w'.cell? ⟨w4.heap.size, 0, none⟩ = some (.int .i64 wd) ∧ w'.cell? ⟨w4.heap.size, 1, none⟩ = some (.int .i64 hg) ∧ w'.cell? ⟨w4.heap.size, 2, none⟩ = some (.slice (some ⟨g4, 0, none⟩) l.length l.length)))
        (first | exact ⟨hL9.out.2.2.cells, hX9.out.cells⟩ | exact ⟨hL8.out.2.2.cells, hX8.out.cells⟩ | go_keep)
        (first
          | (go_at_call 14; refine (toField_any wd hg a l c _ hL7.out.2.1 hn1).mono ?_; rintro e w8 ⟨g8, hg8, hz8, rfl, at8, b8⟩; have z8 := b8.size; have hL8 := Lib.hid (hL7.out.step b8); have hD8 := Lib.hid (hD7.out.below b8); have hDI8 := Lib.hid (hDI7.out.below b8 (by omega)); have hX8 := Lib.hid (hX7.out.below b8); have hXA8 := Lib.hid (hXA7.out.below b8); have hG8 := Lib.hid (hG7.out.below b8); have hGA8 := Lib.hid (hGA7.out.below b8); have F8 := Lib.hid at8; clear at8 b8)
          | (go_at_call 16; refine (eqField_yes wd hg _ _ l _ _ _ hXA8.out.ints F8.out.ints hn1).mono ?_; rintro e w9 ⟨rfl, b9⟩; have z9 := b9.size; have hL9 := Lib.hid (hL8.out.step b9); have hD9 := Lib.hid (hD8.out.below b9); have hDI9 := Lib.hid (hDI8.out.below b9 (by omega)); have hX9 := Lib.hid (hX8.out.below b9); have hXA9 := Lib.hid (hXA8.out.below b9); have hG9 := Lib.hid (hG8.out.below b9); have hGA9 := Lib.hid (hGA8.out.below b9); clear b9))
      clear hL7 hD7 hDI7 hX7 hXA7 hG7 hGA7
      clear hL8 hD8 hDI8 hX8 hXA8 hG8 hGA8
      clear k0 k1 k2 x0 x1 x2
      rename_i hHeld
      clear hHeld
      obtain ⟨x0, x1, x2⟩ := hX9.out.cells
      go_wp2_with fail
      refine (markField_any wd hg _ l _ g4 1 _ hXA9.out hn1 (by omega) (by omega)).mono ?_
      rintro e w10 ⟨rfl, at10, t10⟩
      have z10 := t10.size
      have hL10 := Lib.hid (hL9.out.turn t10 (by omega) HA0.out)
      have hD10 := Lib.hid (hD9.out.turn t10 (by omega))
      have hDI10 := Lib.hid (hDI9.out.turn t10 (by omega) (by omega))
      have hG10 := Lib.hid (hG9.out.turn t10 (by omega))
      have hGA10 := Lib.hid (hGA9.out.turn t10 (by omega))
      clear hL9 hD9 hDI9 hX9 hXA9 hG9 hGA9 at10 t10 F8
      clear x0 x1 x2
      obtain ⟨y0, y1, y2⟩ := hD10.out.cells
      obtain ⟨x0, x1, x2⟩ := hG10.out.cells
      go_wp2_with fail
      refine (eqField_yes rw' rh _ _ rl _ _ _ hGA10.out.ints (hDI10.out.more (by omega)) (by omega)).mono ?_
      rintro e w11 ⟨rfl, b11⟩
      have z11 := b11.size
      have hL11 := Lib.hid (hL10.out.step b11)
      have hD11 := Lib.hid (hD10.out.below b11)
      have hDI11 := Lib.hid (hDI10.out.below b11 (by omega))
      have hG11 := Lib.hid (hG10.out.below b11)
      have hGA11 := Lib.hid (hGA10.out.below b11)
      clear hL10 hD10 hDI10 hG10 hGA10 b11
      clear x0 x1 x2 y0 y1 y2
      obtain ⟨x0, x1, x2⟩ := hG11.out.cells
      go_wp2_with fail
      refine (markField_any rw' rh a5 rl c5 g5 1 _ hGA11.out (by omega) (by omega) (by omega)).mono ?_
      rintro e w12 ⟨rfl, at12, t12⟩
      have z12 := t12.size
      have hL12 := Lib.hid (hL11.out.turn t12 (by omega) HA0.out)
      have hD12 := Lib.hid (hD11.out.turn t12 (by omega))
      have hDI12 := Lib.hid (hDI11.out.turn t12 (by omega) (by omega))
      have hG12 := Lib.hid (hG11.out.turn t12 (by omega))
      have hGA12 := Lib.hid at12
      clear hL11 hD11 hDI11 hG11 hGA11 at12 t12
      clear x0 x1 x2
      obtain ⟨x0, x1, x2⟩ := hG12.out.cells
      go_wp2_with fail
      refine (heldField_any rw' rh a5 rl.length c5 1 _ hGA12.out.ints (by omega) (by omega) (by omega)).mono ?_
      rintro e w13 ⟨rfl, b13⟩
      have z13 := b13.size
      have hL13 := Lib.hid (hL12.out.step b13)
      have hD13 := Lib.hid (hD12.out.below b13)
      have hDI13 := Lib.hid (hDI12.out.below b13 (by omega))
      have hG13 := Lib.hid (hG12.out.below b13)
      have hGA13 := Lib.hid (hGA12.out.below b13)
      clear hL12 hD12 hDI12 hG12 hGA12 b13
      clear x0 x1 x2
      obtain ⟨k0, k1, k2⟩ := hL13.out.2.2.cells
      go_wp2_with fail
      refine (toField_any wd hg a l c _ hL13.out.2.1 hn1).mono ?_
      rintro e w14 ⟨g14, hg14, hz14, rfl, at14, b14⟩
      have z14 := b14.size
      have A14 := Lib.hid at14
      have hL14 := Lib.hid (hL13.out.step b14)
      have hD14 := Lib.hid (hD13.out.below b14)
      have hDI14 := Lib.hid (hDI13.out.below b14 (by omega))
      have hG14 := Lib.hid (hG13.out.below b14)
      have hGA14 := Lib.hid (hGA13.out.below b14)
      clear hL13 hD13 hDI13 hG13 hGA13 at14 b14
      clear k0 k1 k2
      go_wp2_with fail
      refine (HI.out _ _ A14.out.ints (HT.out.below hL14.out.1)).mono ?_
      rintro e w15 ⟨a15, c15, rfl, o15, b15⟩
      have z15 := b15.size
      obtain ⟨W15, hW15⟩ : ∃ x, w15.alloc (.cells #[.int .i64 rw', .int .i64 rh, .slice a15 rl.length c15] 32) = x := ⟨_, rfl⟩
      have sW15 : W15.heap.size = w15.heap.size + 1 := by rw [← hW15]; simp
      have BW15 : Box W15 w15.heap.size 32 (.int .i64 rw') (.int .i64 rh) (.slice a15 rl.length c15) := by rw [← hW15]; exact Box.new _ _ _ _ _
      have aW15 : Below w15.heap.size w15 W15 := by rw [← hW15]; exact below_all _ _
      have b15' := below_then b15 aW15
      have J15 : Ints .i64 W15 W15.heap.size a15 rl := ints_below o15.ints aW15
      have hJ15 := Lib.hid J15
      obtain ⟨y0, y1, y2⟩ := (hD14.out.below b15).cells
      have q3 : w3.heap.size < w15.heap.size := by omega
      have q4 : ¬ w3.heap.size = w15.heap.size := by omega
      have HW15 := Lib.hid hW15
      have hL15 := Lib.hid (hL14.out.step b15')
      have hD15 := Lib.hid (hD14.out.below b15')
      have hDI15 := Lib.hid (hDI14.out.below b15' (by omega))
      have hG15 := Lib.hid (hG14.out.below b15')
      have hGA15 := Lib.hid (hGA14.out.below b15')
      clear hL14 hD14 hDI14 hG14 hGA14 A14 o15 b15 b15' J15 aW15 BW15 hW15
      go_wp2_with fail
      rw [HW15.out]
      refine (eqField_yes rw' rh _ _ rl _ _ _ hJ15.out (hDI15.out.more (by omega)) (by omega)).mono ?_
      rintro e w16 ⟨rfl, b16⟩
      have z16 := b16.size
      have hL16 := Lib.hid (hL15.out.step b16)
      have hD16 := Lib.hid (hD15.out.below b16)
      have hDI16 := Lib.hid (hDI15.out.below b16 (by omega))
      have hG16 := Lib.hid (hG15.out.below b16)
      have hGA16 := Lib.hid (hGA15.out.below b16)
      clear hL15 hD15 hDI15 hG15 hGA15 b16 hJ15 HW15 q3 q4
      clear y0 y1 y2
      obtain ⟨x0, x1, x2⟩ := hG16.out.cells
      go_wp2_with fail
      refine (heldField_any rw' rh a5 rl.length c5 1 _ hGA16.out.ints (by omega) (by omega) (by omega)).mono ?_
      rintro e w17 ⟨rfl, b17⟩
      have hL17 := Lib.hid (hL16.out.step b17)
      clear b17
      go_wp2
      go_ret
      exact ⟨rfl, hL17.out.1⟩
  · rw [if_neg hn] at HZ
    clear hl
    go_enter Tryd.func4, Tryd.ntmps4
    go_wp2_with (go_at_call 12; refine (HZ.out _).mono ?_; rintro e w1 ⟨rfl, b⟩; have HB := Lib.hid b; clear b)
    go_ret
    exact ⟨rfl, below_then (below_all _ _) HB.out⟩
end Go.Proofs.YtccplndimdmjpaaDoor
