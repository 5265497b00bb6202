/- The small functions of chapter 3, the model's and the program's. -/
import Derived.Test.YtpmfgghiiocccaaChecked
import Derived.Test.YtpmfgghiiocccaaUnitMath
import Derived.WalkKit
import Derived.WalkLawsBesides
import Derived.WalkSpells
import Derived.Below
import Derived.Lib.Hide
import Derived.IntWalk
namespace Go.Proofs.Ytpmfgghiiocccaa
open Go.RowKit
set_option linter.unusedVariables false
set_option linter.unusedSimpArgs false
theorem in_at (x a b : Int) (v : Bool) (w : World) (h : decide (a ≤ x ∧ x ≤ b) = v) :
    Calls Try.prog 69 #[.int .i64 x, .int .i64 a, .int .i64 b] w fun e w' => e = .returned (.bool v) ∧ w = w' := by
  by_cases h1 : a ≤ x
  · by_cases h2 : x ≤ b
    · have d1 : decide (a ≤ x) = true := decide_eq_true h1
      have d2 : decide (x ≤ b) = true := decide_eq_true h2
      have h : true = v := by rw [← h]; simp [h1, h2]
      subst h
      go_enter Try.func69, Try.ntmps69
      go_wp2
      go_ret
      exact ⟨rfl, rfl⟩
    · have d1 : decide (a ≤ x) = true := decide_eq_true h1
      have d2 : decide (x ≤ b) = false := decide_eq_false h2
      have h : false = v := by rw [← h]; simp [h2]
      subst h
      go_enter Try.func69, Try.ntmps69
      go_wp2
      go_ret
      exact ⟨rfl, rfl⟩
  · have d1 : decide (a ≤ x) = false := decide_eq_false h1
    have h : false = v := by rw [← h]; simp [h1]
    subst h
    go_enter Try.func69, Try.ntmps69
    go_wp2
    go_ret
    exact ⟨rfl, rfl⟩

/-- a rounded quotient, the program's and the model's -/
theorem implRound_any (n d : Int) (w : World) (h0 : 1 ≤ d) (h1 : d ≤ 1000000000) (h2 : -1000000000000 ≤ n) (h3 : n ≤ 1000000000000) :
    Calls Try.prog 82 #[.int .i64 n, .int .i64 d] w fun e w' => e = .returned (.int .i64 (rdiv n d)) ∧ w = w' := by
  have hd0 : ¬ 2 * d = 0 := by omega
  by_cases h : n < 0
  · rw [rdiv_neg h]
    have e1 : (2 * n - d).tdiv (2 * d) = -((-2 * n + d) / (2 * d)) := by
      have e : 2 * n - d = -(-2 * n + d) := by omega
      rw [e, Int.neg_tdiv, Int.tdiv_eq_ediv_of_nonneg (by omega)]
    have E1 := Lib.hid e1
    clear e1
    go_enter Try.func82, Try.ntmps82
    go_wp2
    go_ret
    exact ⟨by rw [← E1.out]; rfl, rfl⟩
  · rw [rdiv_pos h]
    have e1 : (2 * n + d).tdiv (2 * d) = (2 * n + d) / (2 * d) := by
      rw [Int.tdiv_eq_ediv_of_nonneg (by omega)]
    have E1 := Lib.hid e1
    clear e1
    go_enter Try.func82, Try.ntmps82
    go_wp2
    go_ret
    exact ⟨by rw [← E1.out]; rfl, rfl⟩

theorem specRound_any (n d : Int) (w : World) (h0 : 1 ≤ d) (h1 : d ≤ 1000000000) (h2 : -1000000000000 ≤ n) (h3 : n ≤ 1000000000000) :
    Calls Try.prog 81 #[.int .i64 n, .int .i64 d] w fun e w' => e = .returned (.int .i64 (rdiv n d)) ∧ w = w' := by
  have hd0 : ¬ 2 * d = 0 := by omega
  by_cases h : n < 0
  · rw [rdiv_neg h]
    have e1 : wrap64 (-((-2 * n + d) / (2 * d))) = -((-2 * n + d) / (2 * d)) := by
      have h4 : 0 ≤ (-2 * n + d) / (2 * d) := Int.ediv_nonneg (by omega) (by omega)
      have h5 : (-2 * n + d) / (2 * d) ≤ -2 * n + d := Int.ediv_le_self _ (by omega)
      exact IntWalk.wrap64_in _ (by omega)
    have E1 := Lib.hid e1
    clear e1
    go_enter Try.func81, Try.ntmps81
    go_wp2
    go_ret
    exact ⟨by show Ending.returned (.int .i64 (wrap64 (-((-2 * n + d) / (2 * d))))) = _; rw [E1.out], rfl⟩
  · rw [rdiv_pos h]
    have e1 : (2 * n + d).tdiv (2 * d) = (2 * n + d) / (2 * d) := by
      rw [Int.tdiv_eq_ediv_of_nonneg (by omega)]
    have E1 := Lib.hid e1
    clear e1
    go_enter Try.func81, Try.ntmps81
    go_wp2
    go_ret
    exact ⟨by rw [← E1.out]; rfl, rfl⟩
end Go.Proofs.Ytpmfgghiiocccaa
