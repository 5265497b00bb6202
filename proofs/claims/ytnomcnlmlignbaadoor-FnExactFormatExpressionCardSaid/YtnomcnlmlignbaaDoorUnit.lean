/- The small functions of chapter 3, the model's and the program's. -/
import Derived.Test.YtnomcnlmlignbaaDoorChecked
import Derived.Test.YtnomcnlmlignbaaDoorUnitMath
import Derived.WalkKit
import Derived.WalkLawsBesides
import Derived.WalkSpells
import Derived.Below
import Derived.Lib.Hide
import Derived.IntWalk
namespace Go.Proofs.YtnomcnlmlignbaaDoor
open Go.RowKit
set_option linter.unusedVariables false
set_option linter.unusedSimpArgs false
theorem in_at (x a b : Int) (v : Bool) (w : World) (h : decide (a ≤ x ∧ x ≤ b) = v) :
    Calls Tryd.prog 100 #[.int .i64 x, .int .i64 a, .int .i64 b] w fun e w' => e = .returned (.bool v) ∧ w = w' := by
  by_cases h1 : a ≤ x
  · by_cases h2 : x ≤ b
    · have d1 : decide (a ≤ x) = true := decide_eq_true h1
      have d2 : decide (x ≤ b) = true := decide_eq_true h2
      have h : true = v := by rw [← h]; simp [h1, h2]
      subst h
      go_enter Tryd.func100, Tryd.ntmps100
      go_wp2
      go_ret
      exact ⟨rfl, rfl⟩
    · have d1 : decide (a ≤ x) = true := decide_eq_true h1
      have d2 : decide (x ≤ b) = false := decide_eq_false h2
      have h : false = v := by rw [← h]; simp [h2]
      subst h
      go_enter Tryd.func100, Tryd.ntmps100
      go_wp2
      go_ret
      exact ⟨rfl, rfl⟩
  · have d1 : decide (a ≤ x) = false := decide_eq_false h1
    have h : false = v := by rw [← h]; simp [h1]
    subst h
    go_enter Tryd.func100, Tryd.ntmps100
    go_wp2
    go_ret
    exact ⟨rfl, rfl⟩

theorem specUnit_is (u : Int) (v : Bool) (w : World) (h : unitB u = v) :
    Calls Tryd.prog 73 #[.int .i64 u] w fun e w' => e = .returned (.bool v) ∧ w = w' := by
  have C1 := Lib.hid (fun W => in_at u 1 8 v W h)
  clear h
  go_enter Tryd.func73, Tryd.ntmps73
  go_wp2_with fail
  refine (C1.out _).mono ?_
  rintro e w1 ⟨rfl, rfl⟩
  go_wp2
  go_ret
  exact ⟨rfl, rfl⟩

theorem specTen_is (x : Int) (v : Bool) (w : World) (h : tenB x = v) :
    Calls Tryd.prog 72 #[.int .i64 x] w fun e w' => e = .returned (.bool v) ∧ w = w' := by
  have C1 := Lib.hid (fun W => in_at x (-99999) 99999 v W h)
  clear h
  go_enter Tryd.func72, Tryd.ntmps72
  go_wp2_with fail
  refine (C1.out _).mono ?_
  rintro e w1 ⟨rfl, rfl⟩
  go_wp2
  go_ret
  exact ⟨rfl, rfl⟩

theorem implTen_is (x : Int) (v : Bool) (w : World) (h : tenB x = v) :
    Calls Tryd.prog 70 #[.int .i64 x] w fun e w' => e = .returned (.bool v) ∧ w = w' := by
  by_cases h1 : -99999 ≤ x
  · by_cases h2 : x ≤ 99999
    · have d1 : decide (-99999 ≤ x) = true := decide_eq_true h1
      have d2 : decide (x ≤ 99999) = true := decide_eq_true h2
      have h : true = v := by rw [← h]; simp [tenB, h1, h2]
      subst h
      go_enter Tryd.func70, Tryd.ntmps70
      go_wp2
      go_ret
      exact ⟨rfl, rfl⟩
    · have d1 : decide (-99999 ≤ x) = true := decide_eq_true h1
      have d2 : decide (x ≤ 99999) = false := decide_eq_false h2
      have h : false = v := by rw [← h]; simp [tenB, h2]
      subst h
      go_enter Tryd.func70, Tryd.ntmps70
      go_wp2
      go_ret
      exact ⟨rfl, rfl⟩
  · have d1 : decide (-99999 ≤ x) = false := decide_eq_false h1
    have h : false = v := by rw [← h]; simp [tenB, h1]
    subst h
    go_enter Tryd.func70, Tryd.ntmps70
    go_wp2
    go_ret
    exact ⟨rfl, rfl⟩

theorem specKind_any (u : Int) (w : World) :
    Calls Tryd.prog 84 #[.int .i64 u] w fun e w' => e = .returned (.int .i64 (kindZ u - 1)) ∧ w = w' := by
  unfold kindZ
  by_cases h1 : u ≤ 3
  · rw [if_pos h1]
    have d1 : decide (u ≤ 3) = true := decide_eq_true h1
    go_enter Tryd.func84, Tryd.ntmps84
    go_wp2
    go_ret
    exact ⟨rfl, rfl⟩
  · rw [if_neg h1]
    have d1 : decide (u ≤ 3) = false := decide_eq_false h1
    by_cases h2 : u ≤ 6
    · rw [if_pos h2]
      have d2 : decide (u ≤ 6) = true := decide_eq_true h2
      go_enter Tryd.func84, Tryd.ntmps84
      go_wp2
      go_ret
      exact ⟨rfl, rfl⟩
    · rw [if_neg h2]
      have d2 : decide (u ≤ 6) = false := decide_eq_false h2
      go_enter Tryd.func84, Tryd.ntmps84
      go_wp2
      go_ret
      exact ⟨rfl, rfl⟩

/-- a rounded quotient, the program's and the model's -/
theorem implRound_any (n d : Int) (w : World) (h0 : 1 ≤ d) (h1 : d ≤ 1000000000) (h2 : -1000000000000 ≤ n) (h3 : n ≤ 1000000000000) :
    Calls Tryd.prog 80 #[.int .i64 n, .int .i64 d] w fun e w' => e = .returned (.int .i64 (rdiv n d)) ∧ w = w' := by
  have hd0 : ¬ 2 * d = 0 := by omega
  by_cases h : n < 0
  · rw [rdiv_neg h]
    have e1 : (2 * n - d).tdiv (2 * d) = -((-2 * n + d) / (2 * d)) := by
      have e : 2 * n - d = -(-2 * n + d) := by omega
      rw [e, Int.neg_tdiv, Int.tdiv_eq_ediv_of_nonneg (by omega)]
    have E1 := Lib.hid e1
    clear e1
    go_enter Tryd.func80, Tryd.ntmps80
    go_wp2
    go_ret
    exact ⟨by rw [← E1.out]; rfl, rfl⟩
  · rw [rdiv_pos h]
    have e1 : (2 * n + d).tdiv (2 * d) = (2 * n + d) / (2 * d) := by
      rw [Int.tdiv_eq_ediv_of_nonneg (by omega)]
    have E1 := Lib.hid e1
    clear e1
    go_enter Tryd.func80, Tryd.ntmps80
    go_wp2
    go_ret
    exact ⟨by rw [← E1.out]; rfl, rfl⟩

end Go.Proofs.YtnomcnlmlignbaaDoor
