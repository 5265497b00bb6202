/- spec.l1Stands: whether a byte stands in a text. -/
import Derived.Test.YtnomcnlmlignbaaDoorChecked
import Derived.Test.YtnomcnlmlignbaaDoorJoinMath
import Derived.WalkKit
import Derived.WalkLawsBesides
import Derived.WalkSpells
import Derived.Below
import Derived.Lib.Hide
namespace Go.Proofs.YtnomcnlmlignbaaDoor
open Go.RowKit
set_option linter.unusedVariables false

end Go.Proofs.YtnomcnlmlignbaaDoor
