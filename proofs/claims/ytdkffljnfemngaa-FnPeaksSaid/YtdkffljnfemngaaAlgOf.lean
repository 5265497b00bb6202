/- Rules for values made rules for cells: ofValues, changeValues. -/
import Derived.Test.YtdkffljnfemngaaComb
namespace Go.Proofs.Ytdkffljnfemngaa
open Go.RowKit
set_option linter.unusedVariables false
set_option linter.unusedSimpArgs false
def isV (x : Int) : Prop := -9000 ≤ x ∧ x ≤ 9000
/-- at two values it hands back r of them -/
def ValAt (g : Nat) (lb : Array Value) (r : Int → Int → Int) (w : World) : Prop :=
  ∀ (W : World) (x y : Int), isV x → isV y → Below w.heap.size w W → Calls Try.prog g (#[.int .i64 x, .int .i64 y] ++ lb) W fun e w' => e = .returned (.int .i64 (r x y)) ∧ Below W.heap.size W w'
/-- at a value it hands back f of it -/
def OneAt (g : Nat) (lb : Array Value) (f : Int → Int) (w : World) : Prop :=
  ∀ (W : World) (x : Int), isV x → Below w.heap.size w W → Calls Try.prog g (#[.int .i64 x] ++ lb) W fun e w' => e = .returned (.int .i64 (f x)) ∧ Below W.heap.size W w'
theorem RuleAt.vals {g : Nat} {lb : Array Value} {r : Int → Int → Int} {w : World} (h : RuleAt g lb r w) : ValAt g lb r w :=
  fun W x y hx hy hb => h W x y (cellB_iff.2 (.inr hx)) (cellB_iff.2 (.inr hy)) hb
theorem ValAt.later {g : Nat} {lb : Array Value} {r : Int → Int → Int} {w W : World} (h : ValAt g lb r w) (hb : Below w.heap.size w W) : ValAt g lb r W :=
  fun W' x y hx hy hb' => h W' x y hx hy (below_then hb hb')
theorem OneAt.later {g : Nat} {lb : Array Value} {f : Int → Int} {w W : World} (h : OneAt g lb f w) (hb : Below w.heap.size w W) : OneAt g lb f W :=
  fun W' x hx hb' => h W' x hx (below_then hb hb')
end Go.Proofs.Ytdkffljnfemngaa
