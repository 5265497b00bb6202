/- IsExpression, the model's and the program's; the walk of FnExactIsExpression. -/
import Derived.Test.YtikglddifoalfaaDoorTree
import Derived.Test.YtikglddifoalfaaDoorArity
import Derived.Test.YtikglddifoalfaaDoorNodeLaw
namespace Go.Proofs.YtikglddifoalfaaDoor
open Go.RowKit
set_option linter.unusedVariables false
set_option linter.unusedSimpArgs false
theorem implExpr_any (a : Option Addr) (l : List Nd) (c : Nat) (w : World) (hl : Nds w w.heap.size a l) (hn : l.length ≤ 1048576) (ht : NTab w) :
    Calls Tryd.prog 25 #[.slice a l.length c] w fun e w' => e = .returned (.bool (exprB l)) ∧ Below w.heap.size w w' := by
  have HC := Lib.hid (fun W h t => treeOf_any a l c W h hn t)
  have HL := Lib.hid hl
  have HT := Lib.hid ht
  have HE := Lib.hid (exprB_tree l)
  clear hl ht
  go_enter Tryd.func25, Tryd.ntmps25
  go_wp2_with fail
  refine (HC.out _ HL.out HT.out).mono ?_
  rintro e w1 ⟨b1, ⟨h1, rfl⟩ | ⟨t, b, h1, rfl, h2⟩⟩
  · have HB := Lib.hid b1
    have R := Lib.hid (HE.out.trans (by rw [h1]; rfl) : exprB l = false)
    clear b1 h1
    go_wp2
    go_ret
    exact ⟨by rw [R.out]; rfl, HB.out⟩
  · have HB := Lib.hid b1
    have R := Lib.hid (HE.out.trans (by rw [h1]; rfl) : exprB l = true)
    clear b1 h1 h2
    go_wp2
    go_ret
    exact ⟨by rw [R.out]; rfl, HB.out⟩
/-- what a law of one list of nodes knows of a later world -/
structure Ln (w : World) (a : Option Addr) (l : List Nd) (w' : World) : Prop where
  b : Below w.heap.size w w'
  i : Nds w' w'.heap.size a l
  t : NTab w'
theorem Ln.step {w w1 w2 : World} {a : Option Addr} {l : List Nd} (h : Ln w a l w1) (hb : Below w1.heap.size w1 w2) : Ln w a l w2 := ⟨below_thenN h.b hb, nds_below h.i hb, h.t.below hb⟩
end Go.Proofs.YtikglddifoalfaaDoor
