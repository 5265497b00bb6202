/- What the functions of storms hand back. -/
import Derived.Test.YthceffkkokgpnaaSvRet
namespace Go.Proofs.Ythceffkkokgpnaa
open Go.RowKit
/-- a list of numbers, a number and a bool, the list in memory of the call's own -/
def KvRet (r : List Int) (z : Int) (v : Bool) (w : World) (e : Ending) (w' : World) : Prop := ∃ a c, e = .returned (.tuple #[.slice a r.length c, .int .i64 z, .bool v]) ∧ OwnI w' w.heap.size a r ∧ Below w.heap.size w w'
end Go.Proofs.Ythceffkkokgpnaa
