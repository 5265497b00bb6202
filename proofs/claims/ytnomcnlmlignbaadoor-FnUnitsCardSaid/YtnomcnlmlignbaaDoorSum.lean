/- Contracts of spec.l1Sum and impl.Checksum. -/
import Derived.Test.YtnomcnlmlignbaaDoorChecked
import Derived.Test.YtnomcnlmlignbaaDoorMath
import Derived.WalkKit
import Derived.WalkLawsBesides
import Derived.WalkSpells
import Derived.Below
import Derived.Lib.Hide
namespace Go.Proofs.YtnomcnlmlignbaaDoor
open Go.RowKit
set_option linter.unusedVariables false

end Go.Proofs.YtnomcnlmlignbaaDoor
