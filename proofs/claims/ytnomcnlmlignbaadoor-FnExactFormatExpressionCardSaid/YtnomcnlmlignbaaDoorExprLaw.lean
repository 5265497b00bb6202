/- IsExpression, the model's and the program's; the walk of FnExactIsExpression. -/
import Derived.Test.YtnomcnlmlignbaaDoorTree
import Derived.Test.YtnomcnlmlignbaaDoorArity
import Derived.Test.YtnomcnlmlignbaaDoorNodeLaw
namespace Go.Proofs.YtnomcnlmlignbaaDoor
open Go.RowKit
set_option linter.unusedVariables false
set_option linter.unusedSimpArgs false
/-- what a law of one list of nodes knows of a later world -/
structure Ln (w : World) (a : Option Addr) (l : List Nd) (w' : World) : Prop where
  b : Below w.heap.size w w'
  i : Nds w' w'.heap.size a l
  t : NTab w'
theorem Ln.step {w w1 w2 : World} {a : Option Addr} {l : List Nd} (h : Ln w a l w1) (hb : Below w1.heap.size w1 w2) : Ln w a l w2 := ⟨below_thenN h.b hb, nds_below h.i hb, h.t.below hb⟩
end Go.Proofs.YtnomcnlmlignbaaDoor
