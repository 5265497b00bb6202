/- Division rounded down, the model's and the program's, at greater divisors. -/
import Derived.Test.YtccplndimdmjpaaDoorGood
import Derived.Test.YtccplndimdmjpaaDoorMath
import Derived.IntWalk
namespace Go.Proofs.YtccplndimdmjpaaDoor
open Go.RowKit
set_option linter.unusedVariables false
set_option linter.unusedSimpArgs false
theorem floor_up' {x y : Int} (hy : 0 < y) : -((-x + y - 1) / y) = x / y := by
  have h1 := Int.emod_add_mul_ediv x y
  have h2 := Int.emod_nonneg x (by omega : y ≠ 0)
  have h3 := Int.emod_lt_of_pos x hy
  have h4 : -x + y - 1 = (y - 1 - x % y) + (-(x / y)) * y := by rw [Int.neg_mul, Int.mul_comm (x / y)]; omega
  rw [h4, Int.add_mul_ediv_right _ _ (by omega), Int.ediv_eq_zero_of_lt (by omega) (by omega)]
  omega
set_option maxHeartbeats 1000000 in
theorem floorW_is (x y : Int) (w : World) (x1 : -1000000 ≤ x) (x2 : x ≤ 1000000) (y1 : 1 ≤ y) (y2 : y ≤ 10000) :
    Calls Tryd.prog 54 #[.int .i64 x, .int .i64 y] w fun e w' => e = .returned (.int .i64 (x / y)) ∧ w = w' := by
  have hb1 : 0 ≤ (-x + y - 1) / y ∨ 0 ≤ x := by
    rcases Int.lt_or_le x 0 with h | h
    · exact .inl (Int.ediv_nonneg (by omega) (by omega))
    · exact .inr h
  have hb2 : (-x + y - 1) / y ≤ 1010000 := by
    rcases Int.lt_or_le (-x + y - 1) 0 with h | h
    · have := Int.ediv_lt_of_lt_mul (a := -x + y - 1) (b := 0) (c := y) (by omega) (by omega); omega
    · have := Int.ediv_le_self y h; omega
  by_cases h : x < 0
  · have hb1' : 0 ≤ (-x + y - 1) / y := by omega
    have HF := Lib.hid (floor_up' (x := x) (y := y) (by omega))
    clear hb1
    go_enter Tryd.func54, Tryd.ntmps54
    go_wp2
    go_ret
    exact ⟨ret_int HF.out, rfl⟩
  · have h0 : 0 ≤ x := by omega
    clear hb1 hb2
    go_enter Tryd.func54, Tryd.ntmps54
    go_wp2
    go_ret
    exact ⟨rfl, rfl⟩
theorem floor_low' {n d : Int} (hd : 0 < d) (h : n.tmod d < 0) : n.tdiv d - 1 = n / d := by
  have h1 := Int.tmod_add_mul_tdiv n d
  have h2 := Int.lt_tmod_of_pos n hd
  have h3 : n = (n.tmod d + d) + (n.tdiv d - 1) * d := by rw [Int.sub_mul, Int.one_mul, Int.mul_comm (n.tdiv d)]; omega
  conv => rhs; rw [h3, Int.add_mul_ediv_right _ _ (by omega), Int.ediv_eq_zero_of_lt (by omega) (by omega)]
  omega
theorem floor_at' {n d : Int} (hd : 0 < d) (h : 0 ≤ n.tmod d) : n.tdiv d = n / d := by
  have h1 := Int.tmod_add_mul_tdiv n d
  have h2 := Int.tmod_lt_of_pos n hd
  have h3 : n = n.tmod d + n.tdiv d * d := by rw [Int.mul_comm (n.tdiv d)]; omega
  conv => rhs; rw [h3, Int.add_mul_ediv_right _ _ (by omega), Int.ediv_eq_zero_of_lt (by omega) (by omega)]
  omega
set_option maxHeartbeats 1000000 in
theorem quotW_is (n d : Int) (w : World) (n1 : -1000000 ≤ n) (n2 : n ≤ 1000000) (d1 : 1 ≤ d) (d2 : d ≤ 10000) :
    Calls Tryd.prog 34 #[.int .i64 n, .int .i64 d] w fun e w' => e = .returned (.int .i64 (n / d)) ∧ w = w' := by
  have b1 : -1000000 ≤ n.tdiv d := by
    rcases Int.lt_or_le n 0 with h | h
    · have := Int.neg_tdiv (a := n) (b := d); have h3 := Int.tdiv_le_self (a := -n) d (by omega); omega
    · have := Int.tdiv_nonneg h (by omega : 0 ≤ d); omega
  have b2 : n.tdiv d ≤ 1000000 := by
    rcases Int.lt_or_le n 0 with h | h
    · have h4 := Int.tdiv_nonneg (a := -n) (b := d) (by omega) (by omega); have := Int.neg_tdiv (a := n) (b := d); omega
    · have := Int.tdiv_le_self d h; omega
  by_cases h : n.tmod d < 0
  · have HF := Lib.hid (floor_low' (by omega) h)
    have e1 : decide (n.tmod d < 0) = true := decide_eq_true h
    go_enter Tryd.func34, Tryd.ntmps34
    go_wp2
    go_ret
    exact ⟨ret_int HF.out, rfl⟩
  · have HF := Lib.hid (floor_at' (n := n) (d := d) (by omega) (by omega))
    have e1 : decide (n.tmod d < 0) = false := decide_eq_false h
    go_enter Tryd.func34, Tryd.ntmps34
    go_wp2
    go_ret
    exact ⟨ret_int HF.out, rfl⟩
end Go.Proofs.YtccplndimdmjpaaDoor
