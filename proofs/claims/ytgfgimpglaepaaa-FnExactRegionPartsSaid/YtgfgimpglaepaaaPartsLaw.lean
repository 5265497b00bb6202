/- The walk of the law FnExactRegionParts. -/
import Derived.Test.YtgfgimpglaepaaaRpImpl
import Derived.Test.YtgfgimpglaepaaaRpSpec3
import Derived.Test.YtgfgimpglaepaaaTabl
namespace Go.Proofs.Ytgfgimpglaepaaa
open Go.RowKit
set_option linter.unusedVariables false
set_option linter.unusedSimpArgs false
set_option maxRecDepth 100000 in
set_option maxHeartbeats 8000000 in
theorem walk_PartsLaw (x0 : Int) (x1 : Int) (a2 : Option Addr) (l2 : List Int) (c2 : Nat) (w : World) (hl : Ints .i64 w w.heap.size a2 l2) (hm : l2.length ≤ maxLen) :
    Calls Try.prog 6 #[.int .i64 x0, .int .i64 x1, .slice a2 l2.length c2] w fun e w' => e = .returned (.bool true) ∧ Below w.heap.size w w' := by
  unfold maxLen at hm
  by_cases hn : (1048576 : Int) < (l2.length : Int)
  · clear hl
    go_enter Try.func6, Try.ntmps6
    go_wp2
    go_ret
    exact ⟨rfl, Below.refl _ _⟩
  · have hn1 : l2.length ≤ 1048576 := by omega
    have HL := Lib.hid hl
    have HV := Lib.hid (fun W a c h => specParts_any x0 x1 a l2 c W h hn1)
    have HI := Lib.hid (fun W a c h => implParts_any x0 x1 a l2 c W h hn1)
    have HROW := Lib.hid ((show ∀ s ∈ partsR x0 x1 l2, 0 < s.length ∧ s.length ≤ 1048576 from fun s hs => ⟨parts_pos s hs, parts_small.1 s hs⟩))
    have hflat : (partsR x0 x1 l2).flatten.length ≤ 1048575 := parts_small.2.2
    have hrn : (partsR x0 x1 l2).length ≤ 1048576 := parts_small.2.1
    generalize partsR x0 x1 l2 = R at *
    generalize regB x0 x1 l2 = rb at *
    unfold TabPost at HV HI
    obtain ⟨tot, htot⟩ : ∃ q, R.flatten.length = q := ⟨_, rfl⟩
    have HTOT := Lib.hid htot
    rw [htot] at hflat
    clear htot
    have er : (rb != rb) = false := by simp
    have G0 := Lib.hid (Below.refl w.heap.size w)
    clear hl hn hm
    go_enter Try.func6, Try.ntmps6
    go_wp2_with fail
    refine (toInts_any a2 l2 c2 _ ((HL.out.below G0.out (Nat.le_refl _)).more G0.out.size) hn1).mono ?_
    rintro e w1 ⟨rfl, at1, b1, z1⟩
    have G1 := Lib.hid (below_then G0.out b1)
    have P1 := Lib.hid at1
    clear at1 b1 G0
    go_wp2_with fail
    refine (HV.out _ _ _ P1.out.ints).mono ?_
    rintro e w2 ⟨aV, cV, EV, rfl, t2, b2⟩
    have s2 := b2.size
    have G2 := Lib.hid (below_then G1.out b2)
    have P2 := Lib.hid (P1.out.below b2)
    have V2 := Lib.hid t2
    clear t2 b2 G1 P1
    clear P2
    go_wp2_with fail
    refine (toInts_any a2 l2 c2 _ ((HL.out.below G2.out (Nat.le_refl _)).more G2.out.size) hn1).mono ?_
    rintro e w3 ⟨rfl, at3, b3, z3⟩
    have G3 := Lib.hid (below_then G2.out b3)
    have V3 := Lib.hid (V2.out.below b3 (by omega))
    have X3 := Lib.hid at3
    clear at3 b3 G2 V2
    go_wp2_with fail
    refine (HI.out _ _ _ X3.out.ints).mono ?_
    rintro e w4 ⟨aR_, cR_, ER_, rfl, t4, b4⟩
    have s4 := b4.size
    have G4 := Lib.hid (below_then G3.out b4)
    have V4 := Lib.hid (V3.out.below b4 (by omega))
    have X4 := Lib.hid (X3.out.below b4)
    have R_4 := Lib.hid t4
    clear t4 b4 G3 V3 X3
    go_wp2_with fail
    refine (eqIntSS_yes _ _ _ _ R _ _ _ _ _ _ _ R_4.out V4.out hrn (fun s hs => (HROW.out s hs).2)).mono ?_
    rintro e w5 ⟨rfl, d5⟩
    have b5 := d5.below w4.heap.size
    have s5 := b5.size
    have G5 := Lib.hid (below_then G4.out b5)
    have V5 := Lib.hid (V4.out.below b5 (by omega))
    have X5 := Lib.hid (X4.out.below b5)
    have R_5 := Lib.hid (R_4.out.below b5 (by omega))
    clear b5 d5 G4 V4 X4 R_4
    go_wp2_with fail
    refine (toInts_any a2 l2 c2 _ ((HL.out.below G5.out (Nat.le_refl _)).more G5.out.size) hn1).mono ?_
    rintro e w6 ⟨rfl, at6, b6, z6⟩
    have G6 := Lib.hid (below_then G5.out b6)
    have V6 := Lib.hid (V5.out.below b6 (by omega))
    have X6 := Lib.hid (X5.out.below b6)
    have R_6 := Lib.hid (R_5.out.below b6 (by omega))
    have Y6 := Lib.hid at6
    clear at6 b6 G5 V5 X5 R_5
    go_wp2_with fail
    refine (eqInts_yes _ _ l2 _ _ _ _ _ X6.out.ints Y6.out.ints hn1).mono ?_
    rintro e w7 ⟨rfl, d7⟩
    have b7 := d7.below w6.heap.size
    have s7 := b7.size
    have G7 := Lib.hid (below_then G6.out b7)
    have V7 := Lib.hid (V6.out.below b7 (by omega))
    have X7 := Lib.hid (X6.out.below b7)
    have R_7 := Lib.hid (R_6.out.below b7 (by omega))
    have Y7 := Lib.hid (Y6.out.below b7)
    clear b7 d7 G6 V6 X6 R_6 Y6
    clear Y7
    go_wp2_with fail
    refine (markInts_any _ l2 _ w2.heap.size 1 _ X7.out hn1 (by omega) (by omega)).mono ?_
    rintro e w8 ⟨rfl, _, o8⟩
    have s8 := o8.1.size
    clear X7
    have G8 := Lib.hid (below_turn G7.out o8.1 G7.out.size (by omega))
    have V8 := Lib.hid (V7.out.turn o8.1 (by omega))
    have R_8 := Lib.hid (R_7.out.past o8.1 (by omega))
    clear o8 G7 V7 R_7
    go_wp2_with fail
    refine (eqIntSS_yes _ _ _ _ R _ _ _ _ _ _ _ R_8.out V8.out hrn (fun s hs => (HROW.out s hs).2)).mono ?_
    rintro e w9 ⟨rfl, d9⟩
    have b9 := d9.below w8.heap.size
    have s9 := b9.size
    have G9 := Lib.hid (below_then G8.out b9)
    have V9 := Lib.hid (V8.out.below b9 (by omega))
    have R_9 := Lib.hid (R_8.out.below b9 (by omega))
    clear b9 d9 G8 V8 R_8
    go_wp2_with fail
    refine (markIntSS_any _ _ R _ _ _ 1 _ R_9.out (fun s hs => (HROW.out s hs).1) (by omega) (by omega) (by rw [HTOT.out]; omega)).mono ?_
    rintro e w10 ⟨rfl, t10, b10⟩
    have s10 := b10.size
    rw [HTOT.out]
    have G10 := Lib.hid (G9.out.trans (b10.mono (by have := G9.out.size; omega)))
    have V10 := Lib.hid (V9.out.below b10 (by omega))
    have M10 := Lib.hid t10
    clear t10 b10 G9 V9 R_9
    go_wp2_with fail
    refine (heldIntSS_any _ _ R _ _ _ 1 _ M10.out hrn (by omega) (by rw [HTOT.out]; omega)).mono ?_
    rintro e w10h ⟨rfl, rfl⟩
    rw [HTOT.out]
    go_wp2_with fail
    refine (toInts_any a2 l2 c2 _ ((HL.out.below G10.out (Nat.le_refl _)).more G10.out.size) hn1).mono ?_
    rintro e w11 ⟨rfl, at11, b11, z11⟩
    have G11 := Lib.hid (below_then G10.out b11)
    have V11 := Lib.hid (V10.out.below b11 (by omega))
    have M11 := Lib.hid (M10.out.below b11 (by omega))
    have P11 := Lib.hid at11
    clear at11 b11 G10 V10 M10
    go_wp2_with fail
    refine (HI.out _ _ _ P11.out.ints).mono ?_
    rintro e w12 ⟨aH, cH, EH, rfl, t12, b12⟩
    have s12 := b12.size
    have G12 := Lib.hid (below_then G11.out b12)
    have V12 := Lib.hid (V11.out.below b12 (by omega))
    have M12 := Lib.hid (M11.out.below b12 (by omega))
    have P12 := Lib.hid (P11.out.below b12)
    have H12 := Lib.hid t12
    clear t12 b12 G11 V11 M11 P11
    clear P12
    go_wp2_with fail
    refine (eqIntSS_yes _ _ _ _ R _ _ _ _ _ _ _ H12.out V12.out hrn (fun s hs => (HROW.out s hs).2)).mono ?_
    rintro e w13 ⟨rfl, d13⟩
    have b13 := d13.below w12.heap.size
    have s13 := b13.size
    have G13 := Lib.hid (below_then G12.out b13)
    have V13 := Lib.hid (V12.out.below b13 (by omega))
    have M13 := Lib.hid (M12.out.below b13 (by omega))
    have H13 := Lib.hid (H12.out.below b13 (by omega))
    clear b13 d13 G12 V12 M12 H12
    go_wp2_with fail
    refine (heldIntSS_any _ _ R _ _ _ 1 _ M13.out hrn (by omega) (by rw [HTOT.out]; omega)).mono ?_
    rintro e w13h ⟨rfl, rfl⟩
    rw [HTOT.out]
    go_wp2
    go_ret
    exact ⟨rfl, G13.out⟩
end Go.Proofs.Ytgfgimpglaepaaa
