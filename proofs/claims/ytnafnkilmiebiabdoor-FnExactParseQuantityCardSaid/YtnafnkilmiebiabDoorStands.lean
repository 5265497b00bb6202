/- spec.l1Stands: whether a byte stands in a text. -/
import Derived.Test.YtnafnkilmiebiabDoorChecked
import Derived.Test.YtnafnkilmiebiabDoorJoinMath
import Derived.WalkKit
import Derived.WalkLawsBesides
import Derived.WalkSpells
import Derived.Below
import Derived.Lib.Hide
namespace Go.Proofs.YtnafnkilmiebiabDoor
open Go.RowKit
set_option linter.unusedVariables false

end Go.Proofs.YtnafnkilmiebiabDoor
