/- Validity of a field: the model's and the program's answers are goodB; shapes, cells. -/
import Derived.Test.YtjpiiidjocilcaaFieldLaw
namespace Go.Proofs.Ytjpiiidjocilcaa
open Go.RowKit
set_option linter.unusedVariables false
set_option linter.unusedSimpArgs false
theorem l1In_is (x a b : Int) (v : Bool) (w : World) (h : (decide (a ≤ x) && decide (x ≤ b)) = v) :
    Calls Try.prog 84 #[.int .i64 x, .int .i64 a, .int .i64 b] w fun e w' => e = .returned (.bool v) ∧ w = w' := by
  by_cases h1 : a ≤ x
  · by_cases h2 : x ≤ b
    · have d1 : decide (a ≤ x) = true := decide_eq_true h1
      have d2 : decide (x ≤ b) = true := decide_eq_true h2
      rw [d1, d2] at h
      subst h
      go_enter Try.func84, Try.ntmps84
      go_wp2
      go_ret
      exact ⟨rfl, rfl⟩
    · have d1 : decide (a ≤ x) = true := decide_eq_true h1
      have d2 : decide (x ≤ b) = false := decide_eq_false h2
      rw [d1, d2] at h
      subst h
      go_enter Try.func84, Try.ntmps84
      go_wp2
      go_ret
      exact ⟨rfl, rfl⟩
  · have d1 : decide (a ≤ x) = false := decide_eq_false h1
    rw [d1] at h
    subst h
    go_enter Try.func84, Try.ntmps84
    go_wp2
    go_ret
    exact ⟨rfl, rfl⟩

def valB (n : Int) : Bool := decide (-9000 ≤ n) && decide (n ≤ 9000)
theorem cellB_val {n : Int} (h : ¬ n = -9999) : cellB n = valB n := by unfold cellB valB; rw [decide_eq_false h]; rfl

end Go.Proofs.Ytjpiiidjocilcaa
