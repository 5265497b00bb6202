/- The walk of the law FnExactLoopArea. -/
import Derived.Test.YtgfgimpglaepaaaAreaS
namespace Go.Proofs.Ytgfgimpglaepaaa
open Go.RowKit
set_option linter.unusedVariables false
set_option linter.unusedSimpArgs false
set_option maxRecDepth 100000 in
set_option maxHeartbeats 4000000 in
theorem walk_AreaLaw (a0 : Option Addr) (l0 : List Pt) (c0 : Nat) (w : World) (hl : Pts w w.heap.size a0 l0) (hm : l0.length ≤ maxLen) :
    Calls Try.prog 8 #[.slice a0 l0.length c0] w fun e w' => e = .returned (.bool true) ∧ Below w.heap.size w w' := by
  have HZ := Lib.hid (fun W => szPoints_any a0 l0.length c0 1048576 W hm (by omega) (by omega))
  unfold maxLen at hm
  by_cases hn : (l0.length : Int) ≤ 1048576
  · have hn1 : l0.length ≤ 1048576 := by omega
    rw [if_pos hn] at HZ
    have HL := Lib.hid hl
    have HV := Lib.hid (fun W a c h => specArea_any a l0 c W h hn1)
    have HI := Lib.hid (fun W a c h => implArea_any a l0 c W h hn1)
    unfold ArPost at HV HI
    generalize areaV l0 = v at *
    generalize lpB l0 = rb at *
    have er : (rb != rb) = false := by simp
    have ev : (v != v) = false := by simp
    have G0 := Lib.hid (Below.refl w.heap.size w)
    have HLB := Lib.hid (fun W (h : Below w.heap.size w W) => (HL.out.below h (Nat.le_refl _)).more h.size)
    clear hl hm
    go_enter Try.func8, Try.ntmps8
    go_wp2_with fail
    refine (HZ.out _).mono ?_
    rintro e w0_ ⟨rfl, rfl⟩
    go_wp2_with fail
    refine (toPoints_any a0 l0 c0 _ HL.out hn1).mono ?_
    rintro e w1 ⟨rfl, r1, b1, z1⟩
    have P1 := Lib.hid (Pts.of_row r1)
    have G1 := Lib.hid b1
    clear r1 b1
    go_wp2_with fail
    refine (HV.out _ _ _ P1.out).mono ?_
    rintro e w2 ⟨rfl, b2⟩
    have G2 := Lib.hid (below_then G1.out b2)
    clear b2 P1 G1
    go_wp2_with fail
    refine (toPoints_any a0 l0 c0 _ (HLB.out _ G2.out) hn1).mono ?_
    rintro e w3 ⟨rfl, r3, b3, z3⟩
    have P3 := Lib.hid (Pts.of_row r3)
    have G3 := Lib.hid (below_then G2.out b3)
    clear r3 b3 G2
    go_wp2_with fail
    refine (HI.out _ _ _ P3.out).mono ?_
    rintro e w4 ⟨rfl, b4⟩
    have P4 := Lib.hid (pts_below P3.out b4)
    have G4 := Lib.hid (below_then G3.out b4)
    clear b4 P3 G3
    go_wp2_with fail
    refine (toPoints_any a0 l0 c0 _ (HLB.out _ G4.out) hn1).mono ?_
    rintro e w5 ⟨rfl, r5, b5, z5⟩
    have P5 := Lib.hid (pts_below P4.out b5)
    have Q5 := Lib.hid (Pts.of_row r5)
    have G5 := Lib.hid (below_then G4.out b5)
    clear r5 b5 P4 G4
    go_wp2_with fail
    refine (eqPoints_yes _ _ l0 _ _ _ P5.out Q5.out hn1).mono ?_
    rintro e w6 ⟨rfl, b6⟩
    have G6 := Lib.hid (below_then G5.out b6)
    clear b6
    go_wp2
    go_ret
    exact ⟨rfl, G6.out⟩
  · rw [if_neg hn] at HZ
    clear hl
    go_enter Try.func8, Try.ntmps8
    go_wp2_with fail
    refine (HZ.out _).mono ?_
    rintro e w0_ ⟨rfl, rfl⟩
    go_wp2
    go_ret
    exact ⟨rfl, Below.refl _ _⟩
end Go.Proofs.Ytgfgimpglaepaaa
