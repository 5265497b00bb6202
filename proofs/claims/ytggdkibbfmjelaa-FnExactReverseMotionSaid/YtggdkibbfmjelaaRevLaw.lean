/- The walk of FnExactReverseMotion. -/
import Derived.Test.YtggdkibbfmjelaaMvSmall
namespace Go.Proofs.Ytggdkibbfmjelaa
open Go.RowKit
set_option linter.unusedVariables false
set_option linter.unusedSimpArgs false
set_option maxRecDepth 100000 in
set_option maxHeartbeats 4000000 in
theorem walk_RevLaw (x y : Int) (w : World) :
    Calls Try.prog 3 #[.agg #[.int .i64 x, .int .i64 y]] w fun e w' => e = .returned (.bool true) ∧ Below w.heap.size w w' := by
  have HT := Lib.hid (fun W => toMo_is x y W)
  have HV := Lib.hid (fun W => specRev_any x y W)
  have HI := Lib.hid (fun W => implRev_any x y W)
  have M0 := Lib.hid (MBox.new w 23 x y)
  have B0 := Lib.hid (below_all w (.cells #[.int .i64 x, .int .i64 y] 23))
  generalize rvX x y = u at *
  generalize rvY x y = v at *
  generalize motB x y = r at *
  have er : (r != r) = false := by simp
  go_enter Try.func3, Try.ntmps3
  go_wp2_with fail
  refine (HT.out _).mono ?_
  rintro e w1 ⟨rfl, b1⟩
  have M1 := Lib.hid (M0.out.below b1)
  have B1 := Lib.hid (below_then B0.out b1)
  clear M0 B0 b1
  go_wp2_with fail
  refine (HV.out _).mono ?_
  rintro e w2 ⟨rfl, b2⟩
  have M2 := Lib.hid (M1.out.below b2)
  have B2 := Lib.hid (below_then B1.out b2)
  have zm := M2.out.lt
  clear M1 B1 b2
  have Q2 := Lib.hid (MBox.new w2 24 u v)
  have M3 := Lib.hid (M2.out.below (below_all w2 (.cells #[.int .i64 u, .int .i64 v] 24)))
  have B3 := Lib.hid (below_then B2.out (below_all w2 (.cells #[.int .i64 u, .int .i64 v] 24)))
  obtain ⟨m0, m1⟩ := M2.out.cells
  have q1 : w.heap.size < w2.heap.size := zm
  have q2 : ¬ w.heap.size = w2.heap.size := by omega
  go_wp2_with fail
  refine (HT.out _).mono ?_
  rintro e w4 ⟨rfl, b4⟩
  have B4 := Lib.hid (below_then B3.out b4)
  have Q4 := Lib.hid (Q2.out.below b4)
  clear b4 m0 m1 B3 Q2
  go_wp2_with fail
  refine (HI.out _).mono ?_
  rintro e w5 ⟨rfl, b5⟩
  have B5 := Lib.hid (below_then B4.out b5)
  have Q5 := Lib.hid (Q4.out.below b5)
  have B6 := Lib.hid (below_then B5.out (below_all w5 (.cells #[.int .i64 u, .int .i64 v] 24)))
  obtain ⟨n0, n1⟩ := Q5.out.cells
  have q3 : w2.heap.size < w5.heap.size := Q5.out.lt
  have q4 : ¬ w2.heap.size = w5.heap.size := by omega
  clear b5 B4 Q4
  go_wp2_with (go_at_call 17; (with_reducible refine (eqMo_yes u v _).mono ?_); rintro e w6 ⟨rfl, b6⟩; have B7 := Lib.hid (below_then B6.out b6); clear b6)
  go_ret
  exact ⟨rfl, B7.out⟩
end Go.Proofs.Ytggdkibbfmjelaa
