/- Rules for values made rules for cells: ofValues, changeValues. -/
import Derived.Test.YtdkffljnfemngabDoorComb
namespace Go.Proofs.YtdkffljnfemngabDoor
open Go.RowKit
set_option linter.unusedVariables false
set_option linter.unusedSimpArgs false
def isV (x : Int) : Prop := -9000 ≤ x ∧ x ≤ 9000
/-- at two values it hands back r of them -/
def ValAt (g : Nat) (lb : Array Value) (r : Int → Int → Int) (w : World) : Prop :=
  ∀ (W : World) (x y : Int), isV x → isV y → Below w.heap.size w W → Calls Tryd.prog g (#[.int .i64 x, .int .i64 y] ++ lb) W fun e w' => e = .returned (.int .i64 (r x y)) ∧ Below W.heap.size W w'
/-- at a value it hands back f of it -/
def OneAt (g : Nat) (lb : Array Value) (f : Int → Int) (w : World) : Prop :=
  ∀ (W : World) (x : Int), isV x → Below w.heap.size w W → Calls Tryd.prog g (#[.int .i64 x] ++ lb) W fun e w' => e = .returned (.int .i64 (f x)) ∧ Below W.heap.size W w'
theorem RuleAt.vals {g : Nat} {lb : Array Value} {r : Int → Int → Int} {w : World} (h : RuleAt g lb r w) : ValAt g lb r w :=
  fun W x y hx hy hb => h W x y (cellB_iff.2 (.inr hx)) (cellB_iff.2 (.inr hy)) hb
theorem ValAt.later {g : Nat} {lb : Array Value} {r : Int → Int → Int} {w W : World} (h : ValAt g lb r w) (hb : Below w.heap.size w W) : ValAt g lb r W :=
  fun W' x y hx hy hb' => h W' x y hx hy (below_then hb hb')
theorem OneAt.later {g : Nat} {lb : Array Value} {f : Int → Int} {w W : World} (h : OneAt g lb f w) (hb : Below w.heap.size w W) : OneAt g lb f W :=
  fun W' x hx hb' => h W' x hx (below_then hb hb')
theorem ent_ofV : Entered 100 := enters_of Tryd.func100 (by kernel_rfl) rfl
theorem ent_chV : Entered 94 := enters_of Tryd.func94 (by kernel_rfl) rfl

set_option maxHeartbeats 1000000 in
theorem ofV_rule {B g : Nat} {lb : Array Value} {r : Int → Int → Int} {w : World} (hB : B < w.heap.size) (hc : w.cell? ⟨B, 0, none⟩ = some (.func (.func g) #[] lb)) (eg : Entered g) (hr : ValAt g lb r w) :
    RuleAt 100 #[.pointer (some ⟨B, 0, none⟩)] (ofV r) w := by
  intro W x y hx hy hb
  show Calls Tryd.prog 100 #[.int .i64 x, .int .i64 y, .pointer (some ⟨B, 0, none⟩)] W _
  have hc' : W.cell? ⟨B, 0, none⟩ = some (.func (.func g) #[] lb) := (hb.cell (p := ⟨B, 0, none⟩) hB).trans hc
  unfold Entered at eg
  have HX := Lib.hid hx
  have HY := Lib.hid hy
  have HBW := Lib.hid hb
  have HR := Lib.hid hr
  clear hx hy hc hr hb
  by_cases h1 : x = -9999
  · rw [ofV_gone (.inl h1)]
    subst h1
    go_enter Tryd.func100, Tryd.ntmps100
    go_wp2
    go_ret
    exact ⟨rfl, Below.refl _ _⟩
  · have e1 : (x == -9999) = false := by rw [beq_eq_false_iff_ne]; exact h1
    by_cases h2 : y = -9999
    · rw [ofV_gone (.inr h2)]
      subst h2
      clear h1
      go_enter Tryd.func100, Tryd.ntmps100
      go_wp2
      go_ret
      exact ⟨rfl, Below.refl _ _⟩
    · have e2 : (y == -9999) = false := by rw [beq_eq_false_iff_ne]; exact h2
      have vx : isV x := by rcases cellB_iff.1 HX.out with h | h; exact absurd h h1; exact h
      have vy : isV y := by rcases cellB_iff.1 HY.out with h | h; exact absurd h h2; exact h
      have hcall := HR.out W x y vx vy HBW.out
      have HN := Lib.hid (show ¬ (x = -9999 ∨ y = -9999) by omega)
      have HC := Lib.hid hcall
      clear h1 h2 vx vy hcall HR
      cases hv : valB (r x y) with
      | true =>
        rw [ofV_yes HN.out hv]
        have HVV := Lib.hid (fun W => implValue_is (r x y) true W hv)
        clear hv
        generalize r x y = z at *
        go_enter Tryd.func100, Tryd.ntmps100
        go_wp2_with (first | (go_at_fn g; refine HC.out.mono ?_; rintro e w1 ⟨rfl, bb⟩; have BB := Lib.hid bb; clear bb) | (go_at_call 93; refine (HVV.out _).mono ?_; rintro e w2 ⟨rfl, rfl⟩))
        go_ret
        exact ⟨rfl, BB.out⟩
      | false =>
        rw [ofV_no HN.out hv]
        have HVV := Lib.hid (fun W => implValue_is (r x y) false W hv)
        clear hv
        generalize r x y = z at *
        go_enter Tryd.func100, Tryd.ntmps100
        go_wp2_with (first | (go_at_fn g; refine HC.out.mono ?_; rintro e w1 ⟨rfl, bb⟩; have BB := Lib.hid bb; clear bb) | (go_at_call 93; refine (HVV.out _).mono ?_; rintro e w2 ⟨rfl, rfl⟩))
        go_ret
        exact ⟨rfl, BB.out⟩

set_option maxHeartbeats 1000000 in
theorem one_rule {B g : Nat} {lb : Array Value} {f : Int → Int} {w : World} (hB : B < w.heap.size) (hc : w.cell? ⟨B, 0, none⟩ = some (.func (.func g) #[] lb)) (eg : Entered g) (hr : OneAt g lb f w) :
    ValAt 94 #[.pointer (some ⟨B, 0, none⟩)] (fun a _ => f a) w := by
  intro W x y hx hy hb
  show Calls Tryd.prog 94 #[.int .i64 x, .int .i64 y, .pointer (some ⟨B, 0, none⟩)] W fun e w' => e = .returned (.int .i64 (f x)) ∧ Below W.heap.size W w'
  have hc' : W.cell? ⟨B, 0, none⟩ = some (.func (.func g) #[] lb) := (hb.cell (p := ⟨B, 0, none⟩) hB).trans hc
  unfold Entered at eg
  have HC := Lib.hid (hr W x hx hb)
  clear hx hy hc hr hb
  generalize f x = z at *
  go_enter Tryd.func94, Tryd.ntmps94
  go_wp2_with (first | (go_at_fn g; refine HC.out.mono ?_; rintro e w1 ⟨rfl, bb⟩; have BB := Lib.hid bb; clear bb))
  go_ret
  exact ⟨rfl, BB.out⟩

theorem ofValues_any (g : Nat) (lb : Array Value) (w : World) :
    Calls Tryd.prog 89 #[.func (.func g) #[] lb] w fun e w' => e = .returned (.func (.func 100) #[] #[.pointer (some ⟨w.heap.size, 0, none⟩)]) ∧ w' = w.alloc (.cells #[.func (.func g) #[] lb] 113) := by
  go_enter Tryd.func89, Tryd.ntmps89
  go_wp2
  go_ret
  exact ⟨rfl, rfl⟩
end Go.Proofs.YtdkffljnfemngabDoor
