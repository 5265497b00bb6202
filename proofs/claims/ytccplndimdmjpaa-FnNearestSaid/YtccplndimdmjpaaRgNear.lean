/- The nearest column: the model's l7Near, the program's columnOfCenter. -/
import Derived.Test.YtccplndimdmjpaaRgMath
import Derived.Test.YtccplndimdmjpaaGood
import Derived.Test.YtccplndimdmjpaaMath
import Derived.IntWalk
namespace Go.Proofs.Ytccplndimdmjpaa
open Go.RowKit
set_option linter.unusedVariables false
set_option linter.unusedSimpArgs false
set_option maxHeartbeats 2000000 in
theorem specNear_is (a c k : Nat) (w : World) (a1 : 1 ≤ a) (a8 : a ≤ 8) (c8 : c ≤ 8) (hk : k < c) :
    Calls Try.prog 48 #[.int .i64 a, .int .i64 c, .int .i64 k] w fun e w' => e = .returned (.int .i64 (nr a c k)) ∧ w = w' := by
  have hlt := nr_lt a1 hk
  have HR := Lib.hid (fun i => nr_reach (a := a) (c := c) (k := k) (i := i) a1 hk)
  obtain ⟨p, hp⟩ : ∃ p, (2 * k + 1) * a = p := ⟨_, rfl⟩
  have p8 : p ≤ 200 := by rw [← hp]; exact Nat.le_trans (Nat.mul_le_mul (by omega : 2 * k + 1 ≤ 17) a8) (by omega)
  have EP := Lib.hid (show (2 * (k : Int) + 1) * (a : Int) = (p : Int) by rw [← hp]; push_cast; rfl)
  rw [hp] at HR
  generalize nr a c k = n at *
  clear hp
  go_enter Try.func48, Try.ntmps48
  go_wp2
  go_loop [7] (fun i => ∃ j : Nat, j ≤ n ∧ i = .int .i64 j) (fun i => n + 1 - (intOf i).toNat)
  case atStart => exact ⟨0, Nat.zero_le _, rfl⟩
  case round =>
    obtain ⟨j, hj, rfl⟩ := hrel
    have hja : (j : Int) < (a : Int) := by omega
    obtain ⟨q, hq⟩ : ∃ q, 2 * (j + 1) * c = q := ⟨_, rfl⟩
    have q8 : q ≤ 200 := by rw [← hq]; exact Nat.le_trans (Nat.mul_le_mul (by omega : 2 * (j + 1) ≤ 18) c8) (by omega)
    have EQ : 2 * ((j : Int) + 1) * (c : Int) = (q : Int) := by rw [← hq]; push_cast; rfl
    have HRj := HR.out j
    rw [hq] at HRj
    have ep := EP.out
    clear hq
    by_cases hge : n ≤ j
    · obtain rfl : j = n := by omega
      have hle := HRj.2 (Nat.le_refl _)
      have hd : decide (p ≤ q) = true := decide_eq_true hle
      clear HRj
      go_wp2
      go_ret
      exact ⟨rfl, rfl⟩
    · have hle : ¬ p ≤ q := fun h => hge (HRj.1 h)
      have hd : decide (p ≤ q) = false := decide_eq_false hle
      clear HRj
      go_wp2
      go_round
      case rel => exact ⟨j + 1, by omega, by go_num⟩
      case measure => simp [intOf]; omega
set_option maxHeartbeats 2000000 in
theorem implNear_is (a c k : Nat) (w : World) (a1 : 1 ≤ a) (a8 : a ≤ 8) (c8 : c ≤ 8) (hk : k < c) :
    Calls Try.prog 51 #[.int .i64 a, .int .i64 c, .int .i64 k] w fun e w' => e = .returned (.int .i64 (nr a c k)) ∧ w = w' := by
  have hlt := nr_lt a1 hk
  have hn : nr a c k = ((2 * k + 1) * a - 1) / (2 * c) := rfl
  have h0 : 1 ≤ (2 * k + 1) * a := Nat.mul_le_mul (by omega : 1 ≤ 2 * k + 1) a1
  obtain ⟨p, hp⟩ : ∃ p, (2 * k + 1) * a = p := ⟨_, rfl⟩
  have p8 : p ≤ 200 := by rw [← hp]; exact Nat.le_trans (Nat.mul_le_mul (by omega : 2 * k + 1 ≤ 17) a8) (by omega)
  have EP : (2 * (k : Int) + 1) * (a : Int) = (p : Int) := by rw [← hp]; push_cast; rfl
  rw [hp] at hn h0
  obtain ⟨m, hm⟩ : ∃ m, p - 1 = m := ⟨_, rfl⟩
  have EM : (p : Int) - 1 = (m : Int) := by omega
  obtain ⟨d, hd⟩ : ∃ d, 2 * c = d := ⟨_, rfl⟩
  have ED : 2 * (c : Int) = (d : Int) := by omega
  have d1 : 0 < d := by omega
  have d2 : d ≤ 16 := by omega
  have m2 : m ≤ 200 := by omega
  rw [hm, hd] at hn
  have EN : (m : Int) / (d : Int) = ((nr a c k : Nat) : Int) := by rw [hn]; exact (Int.natCast_ediv m d).symm
  generalize nr a c k = n at *
  clear hp hm hd hn
  go_enter Try.func51, Try.ntmps51
  go_wp2
  go_ret
  exact ⟨rfl, rfl⟩
end Go.Proofs.Ytccplndimdmjpaa
