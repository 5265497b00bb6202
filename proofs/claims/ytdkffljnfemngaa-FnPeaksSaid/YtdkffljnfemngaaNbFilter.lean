/- The program's filters: filterValues and what rests on it. -/
import Derived.Test.YtdkffljnfemngaaNbEach
import Derived.Test.YtdkffljnfemngaaAlgImpl
namespace Go.Proofs.Ytdkffljnfemngaa
open Go.RowKit
set_option linter.unusedVariables false
set_option linter.unusedSimpArgs false
theorem ent_fv1 : Entered 86 := enters_of Try.func86 (by kernel_rfl) rfl
set_option maxHeartbeats 1000000 in
theorem fv1_rule {B g : Nat} {lb : Array Value} {F : List Int → Int} {w : World} (hB : B < w.heap.size) (hc : w.cell? ⟨B, 0, none⟩ = some (.func (.func g) #[] lb)) (eg : Entered g) (hr : VsRule g lb F w) :
    NbRule (fun x => Value.int .i64 x) 86 #[.pointer (some ⟨B, 0, none⟩)] (gapC F) w := by
  intro W z vs a c h1 h2 h3 hb
  show Calls Try.prog 86 #[.int .i64 z, .slice a vs.length c, .pointer (some ⟨B, 0, none⟩)] W fun e w' => e = .returned (.int .i64 (gapC F z vs)) ∧ Below W.heap.size W w'
  have hc' : W.cell? ⟨B, 0, none⟩ = some (.func (.func g) #[] lb) := (hb.cell (p := ⟨B, 0, none⟩) hB).trans hc
  unfold Entered at eg
  rcases Nat.eq_zero_or_pos vs.length with h0 | h0
  · obtain rfl := List.eq_nil_of_length_eq_zero h0
    rw [gapC_none]
    clear hc hr hb h2 h3
    go_enter Try.func86, Try.ntmps86
    go_wp2
    go_ret
    exact ⟨rfl, Below.refl _ _⟩
  · rw [gapC_some (List.length_pos_iff.1 h0)]
    have HC := Lib.hid (hr W vs a c h0 h1 h2 h3 hb)
    have e0 : ((vs.length : Int) == 0) = false := by rw [beq_eq_false_iff_ne]; omega
    have e1 : ¬ vs.length = 0 := by omega
    clear hc hr hb h2 h3
    generalize F vs = y at *
    generalize vs.length = n at *
    go_enter Try.func86, Try.ntmps86
    go_wp2_with (first | (go_at_fn g; refine HC.out.mono ?_; rintro e w1 ⟨rfl, bb⟩; have BB := Lib.hid bb; clear bb))
    go_ret
    exact ⟨rfl, BB.out⟩
/-- a field or none, in memory of the call's own, with room for its cells -/
def FRetC (r : Option (Int × Int × List Int)) (w : World) (e : Ending) (w' : World) : Prop :=
  ∃ a c, (rL r).length ≤ c ∧ e = .returned (.tuple #[.agg #[.int .i64 (rW r), .int .i64 (rH r), .slice a (rL r).length c], .bool (rB r)]) ∧ OwnI w' w.heap.size a (rL r) ∧ Below w.heap.size w w'
theorem FRetC.ret {r : Option (Int × Int × List Int)} {w : World} {e : Ending} {w' : World} (h : FRetC r w e w') : FRet r w e w' := by
  obtain ⟨a, c, _, h1, h2, h3⟩ := h; exact ⟨a, c, h1, h2, h3⟩
set_option maxRecDepth 100000 in
set_option maxHeartbeats 4000000 in
theorem filterV_any (wd hg : Int) (a : Option Addr) (l : List Int) (c : Nat) (r : Int) (g : Nat) (lb : Array Value) (F : List Int → Int) (w : World) (hl : Ints .i64 w w.heap.size a l) (hn : l.length ≤ 1048576) (hcap : l.length ≤ c) (eg : Entered g) (hr : VsRule g lb F w) (hF : FitF F) :
    Calls Try.prog 51 #[.agg #[.int .i64 wd, .int .i64 hg, .slice a l.length c], .int .i64 r, .func (.func g) #[] lb] w (FRetC (filtR F wd hg l r) w) := by
  have I0 := ints_alloc (ints_alloc (ints_alloc hl (.cells #[.int .i64 wd, .int .i64 hg, .slice a l.length c] 26)) (.cells #[.func (.func g) #[] lb] 55)) (.cells #[.int .i64 0, .int .i64 0, .slice none 0 0] 26)
  have K0 := ((Box.new w 26 (.int .i64 wd) (.int .i64 hg) (.slice a l.length c)).alloc (.cells #[.func (.func g) #[] lb] 55)).alloc (.cells #[.int .i64 0, .int .i64 0, .slice none 0 0] 26)
  have C0 : (((w.alloc (.cells #[.int .i64 wd, .int .i64 hg, .slice a l.length c] 26)).alloc (.cells #[.func (.func g) #[] lb] 55)).alloc (.cells #[.int .i64 0, .int .i64 0, .slice none 0 0] 26)).cell? ⟨w.heap.size + 1, 0, none⟩ = some (.func (.func g) #[] lb) := by
    rw [World.cell?_alloc_past _ _ _ (by simp), World.cell?_alloc_at _ _ _ _ (by simp)]; rfl
  have R0 := Box.new ((w.alloc (.cells #[.int .i64 wd, .int .i64 hg, .slice a l.length c] 26)).alloc (.cells #[.func (.func g) #[] lb] 55)) 26 (.int .i64 0) (.int .i64 0) (.slice none 0 0)
  simp only [World.size_alloc] at R0
  have b3 : ∀ o1 o2 o3, Below w.heap.size w (((w.alloc o1).alloc o2).alloc o3) := fun o1 o2 o3 => (((Below.refl _ _).alloc (Nat.le_refl _) _).alloc (by simp) _).alloc (by simp; omega) _
  have B0 := b3 (.cells #[.int .i64 wd, .int .i64 hg, .slice a l.length c] 26) (.cells #[.func (.func g) #[] lb] 55) (.cells #[.int .i64 0, .int .i64 0, .slice none 0 0] 26)
  obtain ⟨W0, hW0⟩ : ∃ x, ((w.alloc (.cells #[.int .i64 wd, .int .i64 hg, .slice a l.length c] 26)).alloc (.cells #[.func (.func g) #[] lb] 55)).alloc (.cells #[.int .i64 0, .int .i64 0, .slice none 0 0] 26) = x := ⟨_, rfl⟩
  have zw : W0.heap.size = w.heap.size + 1 + 1 + 1 := by rw [← hW0]; simp
  rw [hW0] at I0 K0 C0 R0 B0
  have HRU := Lib.hid (fv1_rule (F := F) (by omega) C0 eg (hr.later B0))
  have HW := Lib.hid hW0
  have HK := Lib.hid K0
  have HR := Lib.hid R0
  have HB := Lib.hid B0
  have HI := Lib.hid I0
  have HZ := Lib.hid zw
  obtain ⟨k0, k1, k2⟩ := K0.cells
  clear K0 C0 R0 B0 b3 hW0 eg hr
  cases hb : nbB wd hg l r with
  | false =>
    rw [filtR_no hb]
    have HE := Lib.hid (eachN_no wd hg a l c r (.func (.func 86) #[] #[.pointer (some ⟨w.heap.size + 1, 0, none⟩)]) W0 I0 hn hb)
    clear hb hl I0 HRU
    go_enter Try.func51, Try.ntmps51
    go_wp2_with fail
    rw [HW.out]
    refine HE.out.mono ?_
    rintro e w1 ⟨rfl, b1⟩
    have R1 := HR.out.below b1
    have B1 := Lib.hid (below_then HB.out b1)
    obtain ⟨r0, r1, r2⟩ := R1.cells
    have g0 := R1.frozen 0
    have g1 := R1.frozen 1
    have g2 := R1.frozen 2
    clear b1 R1 HE HR HK HW k0 k1 k2
    go_wp2
    refine bodyPost_ret (v := .tuple #[.agg #[.int .i64 0, .int .i64 0, .slice none 0 0], .bool false]) (by simp [results, Try.results51, go_sem, r0, r1, r2]) rfl ⟨none, 0, Nat.le_refl _, rfl, OwnI.none_, ?_⟩
    exact ((B1.out.setCell (p := ⟨w.heap.size + 1 + 1, 0, none⟩) (by show w.heap.size ≤ w.heap.size + 1 + 1; omega) _).setCell (p := ⟨w.heap.size + 1 + 1, 1, none⟩) (by show w.heap.size ≤ w.heap.size + 1 + 1; omega) _).setCell (p := ⟨w.heap.size + 1 + 1, 2, none⟩) (by show w.heap.size ≤ w.heap.size + 1 + 1; omega) _
  | true =>
    rw [filtR_yes hb]
    obtain ⟨hgd, hrd⟩ := nbB_iff.1 hb
    have hrb := radB_iff.1 hrd
    have hG := filt_good hF hgd r.toNat
    obtain ⟨W, H, rfl, rfl, n1, n2, n3, n4, hLL⟩ := good_nat hgd
    obtain ⟨rn, hrn⟩ : ∃ q : Nat, (q : Int) = r := ⟨r.toNat, by omega⟩
    have hrt : r.toNat = rn := by omega
    have hpos := (good_le hgd).1
    obtain ⟨b, o, rfl⟩ : ∃ b o, a = some ⟨b, o, none⟩ := by
      obtain ⟨b, o, h, _⟩ := hl.at_ hpos
      exact ⟨b, o, h⟩
    have hFL := filtL_len (gapC F) W H rn l
    have HE := Lib.hid (eachN_yes W H b o c rn 86 l r #[.pointer (some ⟨w.heap.size + 1, 0, none⟩)] (gapC F) W0 hrn hgd (by omega) hcap I0 ent_fv1 HRU.out)
    simp only [Int.toNat_natCast] at hG ⊢
    rw [hrt] at hG ⊢
    have HWC := Lib.hid (fun a2 c2 Wx h => withCells_yes (W : Int) (H : Int) (some ⟨b, o, none⟩) l.length c a2 (filtL (gapC F) W H rn l) c2 Wx h (by rw [hFL]; exact hn) hG)
    have HMA := Lib.hid (madeN_all (filtL (gapC F) W H rn l))
    rw [hFL] at HWC
    have HFL := Lib.hid hFL
    clear hb hgd hrd hrb hl I0 HRU hF hG hrn hrt hLL hFL hpos
    generalize filtL (gapC F) W H rn l = L at *
    go_enter Try.func51, Try.ntmps51
    go_wp2_with fail
    rw [HW.out]
    refine HE.out.mono ?_
    rintro e w1 ⟨g', hg', rfl, hrow, b1⟩
    have o1 : OwnI w1 W0.heap.size (some ⟨g', 0, none⟩) L := OwnI.of_row hrow HFL.out (fun k hk => HMA.out _ (by rw [HFL.out]; exact Nat.le_refl _) k hk) hg'
    have z1 := b1.size
    have O1 := Lib.hid o1
    have K1 := Lib.hid (HK.out.below b1)
    have R1 := Lib.hid (HR.out.below b1)
    have B1 := Lib.hid (below_then HB.out b1)
    obtain ⟨k3, k4, k5⟩ := K1.out.cells
    clear b1 o1 hrow HE HR HK HW HB k0 k1 k2
    go_wp2_with fail
    refine (HWC.out _ _ _ O1.out.ints).mono ?_
    rintro e w2 ⟨rfl, b2⟩
    have R2 := R1.out.below b2
    have B2 := Lib.hid (below_then B1.out b2)
    have O2 := Lib.hid ((O1.out.below b2).more (C := w.heap.size + 1 + 1 + 1) (by have := HZ.out; omega))
    obtain ⟨r0, r1, r2⟩ := R2.cells
    have g0 := R2.frozen 0
    have g1 := R2.frozen 1
    have g2 := R2.frozen 2
    clear b2 R2 R1 B1 O1 K1 k3 k4 k5 HWC
    go_wp2
    refine bodyPost_ret (v := .tuple #[.agg #[.int .i64 W, .int .i64 H, .slice (some ⟨g', 0, none⟩) l.length l.length], .bool true]) (by simp [results, Try.results51, go_sem, r0, r1, r2]) rfl ⟨some ⟨g', 0, none⟩, l.length, ?_, ?_, ?_, ?_⟩
    · show L.length ≤ l.length
      rw [HFL.out]
      exact Nat.le_refl _
    · show _ = Ending.returned (.tuple #[.agg #[.int .i64 W, .int .i64 H, .slice (some ⟨g', 0, none⟩) L.length l.length], .bool true])
      rw [HFL.out]
    · exact (ownI_set (ownI_set (ownI_set O2.out (by show w.heap.size + 1 + 1 < _; omega) _) (by show w.heap.size + 1 + 1 < _; omega) _) (by show w.heap.size + 1 + 1 < _; omega) _).more (by omega)
    · exact ((B2.out.setCell (by show w.heap.size ≤ w.heap.size + 1 + 1; omega) _).setCell (by show w.heap.size ≤ w.heap.size + 1 + 1; omega) _).setCell (by show w.heap.size ≤ w.heap.size + 1 + 1; omega) _
end Go.Proofs.Ytdkffljnfemngaa
