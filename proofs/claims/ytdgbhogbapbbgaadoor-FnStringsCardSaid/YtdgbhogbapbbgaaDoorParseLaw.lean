/- FnExactParseInt: model and program read a text alike. -/
import Derived.Test.YtdgbhogbapbbgaaDoorParse
import Derived.Test.YtdgbhogbapbbgaaDoorRead
namespace Go.Proofs.YtdgbhogbapbbgaaDoor
open Go.RowKit
set_option linter.unusedVariables false
theorem Errs.drew {w w' : World} (h : Errs w) (d : Drew w w') : Errs w' := by obtain ⟨k, rfl⟩ := d; exact h
end Go.Proofs.YtdgbhogbapbbgaaDoor
