/- The model's l4Checked, l4Op, l4Floor. -/
import Derived.Test.YtikglddifoalfaaDoorSame
import Derived.Test.YtikglddifoalfaaDoorAlgRule
import Derived.IntWalk
namespace Go.Proofs.YtikglddifoalfaaDoor
open Go.RowKit
set_option linter.unusedVariables false
set_option linter.unusedSimpArgs false
theorem floor_up {x y : Int} (hy : 0 < y) : -((-x + y - 1) / y) = x / y := by
  have h1 := Int.emod_add_mul_ediv x y
  have h2 := Int.emod_nonneg x (by omega : y ≠ 0)
  have h3 := Int.emod_lt_of_pos x hy
  have h4 : -x + y - 1 = (y - 1 - x % y) + (-(x / y)) * y := by rw [Int.neg_mul, Int.mul_comm (x / y)]; omega
  rw [h4, Int.add_mul_ediv_right _ _ (by omega), Int.ediv_eq_zero_of_lt (by omega) (by omega)]
  omega
set_option maxHeartbeats 1000000 in
theorem l4Op_is (op x y : Int) (w : World) (ho : opB op = true) (hx : cellB x = true) (hy : cellB y = true) :
    Calls Tryd.prog 44 #[.int .i64 op, .int .i64 x, .int .i64 y] w fun e w' => e = .returned (.int .i64 (opF op x y)) ∧ w = w' := by
  obtain ⟨x1, x2⟩ := cell_bd hx
  obtain ⟨y1, y2⟩ := cell_bd hy
  unfold opB at ho
  simp only [Bool.and_eq_true, decide_eq_true_eq] at ho
  obtain ⟨o1, o2⟩ := ho
  clear hx hy
  have HM1 := Lib.hid (fun W => l1Least_is x y W)
  have HM2 := Lib.hid (fun W => l1Most_is x y W)
  rcases (by omega : op = 1 ∨ op = 2 ∨ op = 3 ∨ op = 4) with rfl | rfl | rfl | rfl
  · rw [show opF 1 x y = x + y from rfl]
    go_enter Tryd.func44, Tryd.ntmps44
    go_wp2
    go_ret
    exact ⟨rfl, rfl⟩
  · rw [show opF 2 x y = x - y from rfl]
    go_enter Tryd.func44, Tryd.ntmps44
    go_wp2
    go_ret
    exact ⟨rfl, rfl⟩
  · rw [show opF 3 x y = min x y from rfl]
    go_enter Tryd.func44, Tryd.ntmps44
    go_wp2_with (go_at_call 48; refine (HM1.out _).mono ?_; rintro e w1 ⟨rfl, rfl⟩)
    go_ret
    exact ⟨rfl, rfl⟩
  · rw [show opF 4 x y = max x y from rfl]
    go_enter Tryd.func44, Tryd.ntmps44
    go_wp2_with (go_at_call 40; refine (HM2.out _).mono ?_; rintro e w1 ⟨rfl, rfl⟩)
    go_ret
    exact ⟨rfl, rfl⟩
end Go.Proofs.YtikglddifoalfaaDoor
