/- The model's DifferentCells. -/
import Derived.Test.YtglpkfkbbjbjjaaSame
import Derived.Test.YtglpkfkbbjbjjaaFr
namespace Go.Proofs.Ytglpkfkbbjbjjaa
open Go.RowKit
set_option linter.unusedVariables false
set_option linter.unusedSimpArgs false
end Go.Proofs.Ytglpkfkbbjbjjaa
