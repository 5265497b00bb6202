/- A drawn answer whose cells are the call's own. -/
import Derived.Test.YtggdkibbfmjelaaLws
import Derived.Test.YtggdkibbfmjelaaMBox
namespace Go.Proofs.Ytggdkibbfmjelaa
open Go.RowKit
set_option linter.unusedVariables false
/-- a drawn answer: a field in a box of its own with cells of its own, and a bool; what else is known: P -/
def GotA (P : World → Prop) (lo : Nat) (rw' rh : Int) (rl : List Int) (rb : Bool) (s t : Value) (wx : World) : Prop :=
  ∃ (bD : Nat) (a : Option Addr) (c g : Nat), s = .pointer (some ⟨bD, 0, none⟩) ∧ t = .bool rb ∧ Box wx bD 34 (.int .i64 rw') (.int .i64 rh) (.slice a rl.length c) ∧ At wx a g rl ∧ lo ≤ g ∧ g ≠ bD ∧ (rl.length = 0 ∨ g < wx.heap.size) ∧ lo ≤ bD ∧ bD < wx.heap.size ∧ P wx
end Go.Proofs.Ytggdkibbfmjelaa
