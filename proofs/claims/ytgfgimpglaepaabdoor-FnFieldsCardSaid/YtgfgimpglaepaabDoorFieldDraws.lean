/- The draws of FnTotals: DrawFieldRange, DrawSubField. -/
import Derived.Test.YtgfgimpglaepaabDoorLike
namespace Go.Proofs.YtgfgimpglaepaabDoor
open Go.RowKit
set_option linter.unusedVariables false
set_option linter.unusedSimpArgs false
/-- behind a step that turned a block of the call's own -/
theorem below_grown {w w1 w2 : World} {g : Nat} (h : Below w.heap.size w w1) (t : w1.grownBy w2 (some g)) (hg : w.heap.size ≤ g) : Below w.heap.size w w2 := h.grown t h.size (fun j e => by injection e with e; omega)
end Go.Proofs.YtgfgimpglaepaabDoor
