/- ConvertTenths, the model's and the program's, and the walk of FnExactConvertTenths. -/
import Derived.Test.YtnomcnlmlignbaaDoorParts
namespace Go.Proofs.YtnomcnlmlignbaaDoor
open Go.RowKit
set_option linter.unusedVariables false
set_option linter.unusedSimpArgs false
def basN (x u : Int) : Int := if u = 2 then (x - 320) * 5 else if u = 3 then 2 * x - 5463 else if u = 5 then x * 1852 else if u = 6 then x * 5 else if u = 8 then x * 127 else x
def basD (u : Int) : Int := if u = 2 then 9 else if u = 3 then 2 else if u = 5 then 3600 else if u = 6 then 18 else if u = 8 then 5 else 1
end Go.Proofs.YtnomcnlmlignbaaDoor
