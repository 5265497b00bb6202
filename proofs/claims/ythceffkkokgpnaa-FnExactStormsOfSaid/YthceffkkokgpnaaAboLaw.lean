/- The walk of the law FnExactRegionAbove. -/
import Derived.Test.YthceffkkokgpnaaAbo
namespace Go.Proofs.Ythceffkkokgpnaa
open Go.RowKit
set_option linter.unusedVariables false
set_option linter.unusedSimpArgs false
end Go.Proofs.Ythceffkkokgpnaa
