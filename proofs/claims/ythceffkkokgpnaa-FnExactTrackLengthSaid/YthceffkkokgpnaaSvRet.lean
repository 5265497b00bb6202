/- A list of numbers and a bool, returned. -/
import Derived.Test.YthceffkkokgpnaaMake
namespace Go.Proofs.Ythceffkkokgpnaa
open Go.RowKit
/-- the list r and v are returned, the list in memory of the call's own -/
def SvRet (r : List Int) (v : Bool) (w : World) (e : Ending) (w' : World) : Prop := ∃ a c, e = .returned (.tuple #[.slice a r.length c, .bool v]) ∧ OwnI w' w.heap.size a r ∧ Below w.heap.size w w'
end Go.Proofs.Ythceffkkokgpnaa
