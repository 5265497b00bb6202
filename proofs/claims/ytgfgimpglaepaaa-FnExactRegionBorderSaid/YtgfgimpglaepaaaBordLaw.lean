/- The walk of the law FnExactRegionBorder. -/
import Derived.Test.YtgfgimpglaepaaaBordR
namespace Go.Proofs.Ytgfgimpglaepaaa
open Go.RowKit
set_option linter.unusedVariables false
set_option linter.unusedSimpArgs false
set_option maxRecDepth 100000 in
set_option maxHeartbeats 8000000 in
theorem walk_BordLaw (x0 : Int) (x1 : Int) (a2 : Option Addr) (l2 : List Int) (c2 : Nat) (w : World) (hl : Ints .i64 w w.heap.size a2 l2) (hm : l2.length ≤ maxLen) :
    Calls Try.prog 10 #[.int .i64 x0, .int .i64 x1, .slice a2 l2.length c2] w fun e w' => e = .returned (.bool true) ∧ Below w.heap.size w w' := by
  unfold maxLen at hm
  by_cases hn : (1048576 : Int) < (l2.length : Int)
  · clear hl
    go_enter Try.func10, Try.ntmps10
    go_wp2
    go_ret
    exact ⟨rfl, Below.refl _ _⟩
  · have hn1 : l2.length ≤ 1048576 := by omega
    have HL := Lib.hid hl
    have HV := Lib.hid (fun W a c h => specBord_any x0 x1 a l2 c W h hn1)
    have HI := Lib.hid (fun W a c h => implBord_any x0 x1 a l2 c W h hn1)
    generalize bordN x0 x1 l2 = v at *
    generalize regB x0 x1 l2 = rb at *
    have ev : (v != v) = false := by simp
    have er : (rb != rb) = false := by simp
    have G0 := Lib.hid (Below.refl w.heap.size w)
    clear hl hn hm
    go_enter Try.func10, Try.ntmps10
    go_wp2_with fail
    refine (toInts_any a2 l2 c2 _ ((HL.out.below G0.out (Nat.le_refl _)).more G0.out.size) hn1).mono ?_
    rintro e w1 ⟨rfl, at1, b1, z1⟩
    have G1 := Lib.hid (below_then G0.out b1)
    have P1 := Lib.hid at1
    clear at1 b1 G0
    go_wp2_with fail
    refine (HV.out _ _ _ P1.out.ints).mono ?_
    rintro e w2 ⟨rfl, b2⟩
    have s2 := b2.size
    have G2 := Lib.hid (below_then G1.out b2)
    have P2 := Lib.hid (P1.out.below b2)
    clear b2 G1 P1
    clear P2
    go_wp2_with fail
    refine (toInts_any a2 l2 c2 _ ((HL.out.below G2.out (Nat.le_refl _)).more G2.out.size) hn1).mono ?_
    rintro e w3 ⟨rfl, at3, b3, z3⟩
    have G3 := Lib.hid (below_then G2.out b3)
    have X3 := Lib.hid at3
    clear at3 b3 G2
    go_wp2_with fail
    refine (HI.out _ _ _ X3.out.ints).mono ?_
    rintro e w4 ⟨rfl, b4⟩
    have s4 := b4.size
    have G4 := Lib.hid (below_then G3.out b4)
    have X4 := Lib.hid (X3.out.below b4)
    clear b4 G3 X3
    go_wp2_with fail
    refine (toInts_any a2 l2 c2 _ ((HL.out.below G4.out (Nat.le_refl _)).more G4.out.size) hn1).mono ?_
    rintro e w5 ⟨rfl, at5, b5, z5⟩
    have G5 := Lib.hid (below_then G4.out b5)
    have X5 := Lib.hid (X4.out.below b5)
    have Y5 := Lib.hid at5
    clear at5 b5 G4 X4
    go_wp2_with fail
    refine (eqInts_yes _ _ l2 _ _ _ _ _ X5.out.ints Y5.out.ints hn1).mono ?_
    rintro e w6 ⟨rfl, d6⟩
    have b6 := d6.below w5.heap.size
    have s6 := b6.size
    have G6 := Lib.hid (below_then G5.out b6)
    have X6 := Lib.hid (X5.out.below b6)
    have Y6 := Lib.hid (Y5.out.below b6)
    clear b6 d6 G5 X5 Y5
    clear Y6
    go_wp2
    go_ret
    exact ⟨rfl, G6.out⟩
end Go.Proofs.Ytgfgimpglaepaaa
