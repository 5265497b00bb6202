/- Rules handed over as function values: what is asked of one; the closures of the field algebra. -/
import Derived.Test.YtikglddifoalfaaDoorAlgMath
import Derived.Test.YtikglddifoalfaaDoorMake
import Derived.Shelf.Abstract
namespace Go.Proofs.YtikglddifoalfaaDoor
open Go.RowKit
set_option linter.unusedVariables false
set_option linter.unusedSimpArgs false
/-- a call of function value g is a call of the function -/
def Entered (g : Nat) : Prop := ∀ (args : Array Value) (w : World), (callFunc g args).run Tryd.prog w = .ok (.enter g args) w
/-- at two cells it hands back r of them, whatever was made since -/
def RuleAt (g : Nat) (lb : Array Value) (r : Int → Int → Int) (w : World) : Prop :=
  ∀ (W : World) (x y : Int), cellB x = true → cellB y = true → Below w.heap.size w W → Calls Tryd.prog g (#[.int .i64 x, .int .i64 y] ++ lb) W fun e w' => e = .returned (.int .i64 (r x y)) ∧ Below W.heap.size W w'
theorem RuleAt.later {g : Nat} {lb : Array Value} {r : Int → Int → Int} {w W : World} (h : RuleAt g lb r w) (hb : Below w.heap.size w W) : RuleAt g lb r W :=
  fun W' x y hx hy hb' => h W' x y hx hy (below_then hb hb')
theorem RuleAt.congr {g : Nat} {lb : Array Value} {r s : Int → Int → Int} {w : World} (h : RuleAt g lb r w) (e : ∀ x y, cellB x = true → cellB y = true → r x y = s x y) : RuleAt g lb s w :=
  fun W x y hx hy hb => by rw [← e x y hx hy]; exact h W x y hx hy hb
theorem cell_bd {x : Int} (h : cellB x = true) : -9999 ≤ x ∧ x ≤ 9000 := by rcases cellB_iff.1 h with h | h <;> omega
/-- a rule of two values that looks at nothing in memory -/
theorem rule_of {g : Nat} {r : Int → Int → Int} {w : World} (h : ∀ (W : World) (x y : Int), cellB x = true → cellB y = true → Calls Tryd.prog g #[.int .i64 x, .int .i64 y] W fun e w' => e = .returned (.int .i64 (r x y)) ∧ W = w') : RuleAt g #[] r w :=
  fun W x y hx hy _ => by
    have h1 := h W x y hx hy
    rw [show (#[.int .i64 x, .int .i64 y] ++ #[] : Array Value) = #[.int .i64 x, .int .i64 y] from rfl]
    exact h1.mono fun e w' ⟨h2, h3⟩ => ⟨h2, by subst h3; exact Below.refl _ _⟩
theorem add_rule (w : World) : RuleAt 67 #[] (opF 1) w := rule_of fun W x y hx hy => by
  have h1 := cell_bd hx
  have h2 := cell_bd hy
  have e : opF 1 x y = x + y := rfl
  rw [e]
  clear hx hy e
  obtain ⟨a1, a2⟩ := h1
  obtain ⟨b1, b2⟩ := h2
  go_enter Tryd.func67, Tryd.ntmps67
  go_wp2
  go_ret
  exact ⟨rfl, rfl⟩
theorem sub_rule (w : World) : RuleAt 68 #[] (opF 2) w := rule_of fun W x y hx hy => by
  have h1 := cell_bd hx
  have h2 := cell_bd hy
  have e : opF 2 x y = x - y := rfl
  rw [e]
  clear hx hy e
  obtain ⟨a1, a2⟩ := h1
  obtain ⟨b1, b2⟩ := h2
  go_enter Tryd.func68, Tryd.ntmps68
  go_wp2
  go_ret
  exact ⟨rfl, rfl⟩
theorem least_rule (w : World) : RuleAt 69 #[] (opF 3) w := rule_of fun W x y hx hy => by
  have e : opF 3 x y = min x y := rfl
  rw [e]
  clear hx hy e
  by_cases h : x ≤ y
  · have e : min x y = x := by omega
    rw [e]
    clear e
    go_enter Tryd.func69, Tryd.ntmps69
    go_wp2
    all_goals go_ret
    all_goals first | exact ⟨rfl, rfl⟩ | exact ⟨ret_int (by omega), rfl⟩
  · have e : min x y = y := by omega
    rw [e]
    clear e
    go_enter Tryd.func69, Tryd.ntmps69
    go_wp2
    all_goals go_ret
    all_goals first | exact ⟨rfl, rfl⟩ | exact ⟨ret_int (by omega), rfl⟩
theorem most_rule (w : World) : RuleAt 70 #[] (opF 4) w := rule_of fun W x y hx hy => by
  have e : opF 4 x y = max x y := rfl
  rw [e]
  clear hx hy e
  by_cases h : x ≤ y
  · have e : max x y = y := by omega
    rw [e]
    clear e
    go_enter Tryd.func70, Tryd.ntmps70
    go_wp2
    all_goals go_ret
    all_goals first | exact ⟨rfl, rfl⟩ | exact ⟨ret_int (by omega), rfl⟩
  · have e : max x y = x := by omega
    rw [e]
    clear e
    go_enter Tryd.func70, Tryd.ntmps70
    go_wp2
    all_goals go_ret
    all_goals first | exact ⟨rfl, rfl⟩ | exact ⟨ret_int (by omega), rfl⟩
end Go.Proofs.YtikglddifoalfaaDoor
