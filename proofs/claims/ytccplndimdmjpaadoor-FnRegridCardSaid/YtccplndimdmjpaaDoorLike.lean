/- The model's draw of a field like another one. -/
import Derived.Test.YtccplndimdmjpaaDoorAnyField
import Derived.Test.YtccplndimdmjpaaDoorSet
namespace Go.Proofs.YtccplndimdmjpaaDoor
open Go.RowKit
set_option linter.unusedVariables false
set_option linter.unusedSimpArgs false
/-- a field is drawn (of its room nothing is said), its cursor further -/
def LDraw (g : Nat) (a : Option Addr) (l : List Int) (c K : Nat) (w : World) (e : Ending) (w' : World) : Prop :=
  ∃ (wd hg : Int) (L : List Int) (a1 : Option Addr) (c1 : Nat), L.length ≤ 64 ∧ e = .returned (.agg #[.int .i64 wd, .int .i64 hg, .slice a1 L.length c1]) ∧ Own2 w' w.heap.size a1 L ∧ CurIs w' g a l c K ∧ w.grownBy w' (some g)

end Go.Proofs.YtccplndimdmjpaaDoor
