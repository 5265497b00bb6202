/- The walk of the law FnExactOverlapUnits. -/
import Derived.Test.YtccplndimdmjpaaRgOv
namespace Go.Proofs.Ytccplndimdmjpaa
open Go.RowKit
set_option maxHeartbeats 1000000 in
theorem walk_OvLaw (a c i k : Int) (w : World) : Calls Try.prog 3 #[.int .i64 a, .int .i64 c, .int .i64 i, .int .i64 k] w fun e w' => e = .returned (.bool true) ∧ Below w.heap.size w w' := by
  have HV := Lib.hid (fun W => specOv_any a c i k W)
  have HI := Lib.hid (fun W => implOv_any a c i k W)
  generalize ovN a c i k = r at *
  generalize ovB a c i k = b at *
  have e1 : (r != r) = false := by simp
  have e2 : (b != b) = false := by simp
  go_enter Try.func3, Try.ntmps3
  go_wp2_with fail
  refine (HV.out _).mono ?_
  rintro e w1 ⟨rfl, rfl⟩
  go_wp2_with fail
  refine (HI.out _).mono ?_
  rintro e w1 ⟨rfl, rfl⟩
  go_wp2
  go_ret
  exact ⟨rfl, Below.refl _ _⟩
end Go.Proofs.Ytccplndimdmjpaa
