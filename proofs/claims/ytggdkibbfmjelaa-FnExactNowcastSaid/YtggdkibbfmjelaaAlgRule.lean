/- Rules handed over as function values: what is asked of one; the closures of the field algebra. -/
import Derived.Test.YtggdkibbfmjelaaAlgMath
import Derived.Test.YtggdkibbfmjelaaMake
import Derived.Shelf.Abstract
namespace Go.Proofs.Ytggdkibbfmjelaa
open Go.RowKit
set_option linter.unusedVariables false
set_option linter.unusedSimpArgs false
/-- a call of function value g is a call of the function -/
def Entered (g : Nat) : Prop := ∀ (args : Array Value) (w : World), (callFunc g args).run Try.prog w = .ok (.enter g args) w
/-- at two cells it hands back r of them, whatever was made since -/
def RuleAt (g : Nat) (lb : Array Value) (r : Int → Int → Int) (w : World) : Prop :=
  ∀ (W : World) (x y : Int), cellB x = true → cellB y = true → Below w.heap.size w W → Calls Try.prog g (#[.int .i64 x, .int .i64 y] ++ lb) W fun e w' => e = .returned (.int .i64 (r x y)) ∧ Below W.heap.size W w'
theorem RuleAt.later {g : Nat} {lb : Array Value} {r : Int → Int → Int} {w W : World} (h : RuleAt g lb r w) (hb : Below w.heap.size w W) : RuleAt g lb r W :=
  fun W' x y hx hy hb' => h W' x y hx hy (below_then hb hb')
theorem RuleAt.congr {g : Nat} {lb : Array Value} {r s : Int → Int → Int} {w : World} (h : RuleAt g lb r w) (e : ∀ x y, cellB x = true → cellB y = true → r x y = s x y) : RuleAt g lb s w :=
  fun W x y hx hy hb => by rw [← e x y hx hy]; exact h W x y hx hy hb
theorem cell_bd {x : Int} (h : cellB x = true) : -9999 ≤ x ∧ x ≤ 9000 := by rcases cellB_iff.1 h with h | h <;> omega
/-- a rule of two values that looks at nothing in memory -/
theorem rule_of {g : Nat} {r : Int → Int → Int} {w : World} (h : ∀ (W : World) (x y : Int), cellB x = true → cellB y = true → Calls Try.prog g #[.int .i64 x, .int .i64 y] W fun e w' => e = .returned (.int .i64 (r x y)) ∧ W = w') : RuleAt g #[] r w :=
  fun W x y hx hy _ => by
    have h1 := h W x y hx hy
    rw [show (#[.int .i64 x, .int .i64 y] ++ #[] : Array Value) = #[.int .i64 x, .int .i64 y] from rfl]
    exact h1.mono fun e w' ⟨h2, h3⟩ => ⟨h2, by subst h3; exact Below.refl _ _⟩
end Go.Proofs.Ytggdkibbfmjelaa
