/- The cell beside a cell, by its number. -/
import Derived.Test.YthceffkkokgpnaaGrow
namespace Go.Proofs.Ythceffkkokgpnaa
open Go.RowKit
set_option linter.unusedVariables false
set_option linter.unusedSimpArgs false
theorem nb_index (x y : Int) (j : Nat) (hj : j < 4) (W : World) :
    (Instr.index 180 (.agg #[.int .i64 x, .int .i64 (y - 1), .int .i64 (x + 1), .int .i64 y, .int .i64 x, .int .i64 (y + 1), .int .i64 (x - 1), .int .i64 y]) (.int .i64 (j : Int))).run Try.prog W = .ok (.agg #[.int .i64 (nbX x j), .int .i64 (nbY y j)]) W := by
  rcases (by omega : j = 0 ∨ j = 1 ∨ j = 2 ∨ j = 3) with rfl | rfl | rfl | rfl <;> kernel_rfl
end Go.Proofs.Ythceffkkokgpnaa
