/- RegionBorder: the sides of a region, the model's and the program's. -/
import Derived.Test.YtgfgimpglaepaaaGrow
import Derived.Test.YtgfgimpglaepaaaGrowS
namespace Go.Proofs.Ytgfgimpglaepaaa
open Go.RowKit
set_option linter.unusedVariables false
set_option linter.unusedSimpArgs false
theorem mul_bd8 {a b : Int} (h1 : 0 ≤ a ∧ a ≤ 8) (h2 : 0 ≤ b ∧ b ≤ 8) : 0 ≤ a * b ∧ a * b ≤ 64 :=
  ⟨Int.mul_nonneg h1.1 h2.1, by have := Int.mul_le_mul h1.2 h2.2 h2.1 (by omega : (0 : Int) ≤ 8); omega⟩
theorem hasR_guard {wd hg : Int} {l : List Int} {x y : Int} (h : ¬ ((0 ≤ x ∧ x ≤ wd - 1) ∧ (0 ≤ y ∧ y ≤ hg - 1))) : hasR wd hg l x y = false := by
  unfold hasR
  by_cases h1 : 0 ≤ x ∧ x ≤ wd - 1
  · rw [decide_eq_false (fun h2 : 0 ≤ y ∧ y ≤ hg - 1 => h ⟨h1, h2⟩)]; simp
  · rw [decide_eq_false h1]; rfl
set_option maxHeartbeats 1000000 in
theorem specHasR_is (wd hg : Int) (a : Option Addr) (l : List Int) (c B : Nat) (x y : Int) (v : Bool) (w : World) (hl : Ints .i64 w B a l) (hn : l.length ≤ 1048576) (hs : shapeB wd hg = true) (hx : -1 ≤ x ∧ x ≤ 9) (hy : -1 ≤ y ∧ y ≤ 9) (h : hasR wd hg l x y = v) :
    Calls Try.prog 100 #[.int .i64 wd, .int .i64 hg, .slice a l.length c, .int .i64 x, .int .i64 y] w fun e w' => e = .returned (.bool v) ∧ w = w' := by
  have HL := Lib.hid hl
  have hb := shapeB_iff.1 hs
  by_cases h1 : 0 ≤ x ∧ x ≤ wd - 1
  · have C1 := Lib.hid (fun W => l1In_is x 0 (wd - 1) true W (by simp; omega))
    by_cases h2 : 0 ≤ y ∧ y ≤ hg - 1
    · have C2 := Lib.hid (fun W => l1In_is y 0 (hg - 1) true W (by simp; omega))
      have hv : decide (y * wd + x ∈ l) = v := by rw [← h]; unfold hasR; rw [decide_eq_true h1, decide_eq_true h2]; rfl
      have C3 := Lib.hid (fun W => has_is a l c B (y * wd + x) v W)
      have hyw : 0 ≤ y * wd ∧ y * wd ≤ 64 := mul_bd8 (by omega) (by omega)
      obtain ⟨m, hm⟩ : ∃ m, y * wd = m := ⟨_, rfl⟩
      rw [hm] at C3 hyw hv
      have HM := Lib.hid hm
      have HV := Lib.hid hv
      clear hl hs h hv hm
      have hmul := HM.out
      go_enter Try.func100, Try.ntmps100
      go_wp2_with fail
      refine (C1.out _).mono ?_
      rintro e w1 ⟨rfl, rfl⟩
      go_wp2_with fail
      refine (C2.out _).mono ?_
      rintro e w1 ⟨rfl, rfl⟩
      go_wp2_with fail
      refine (C3.out _ HL.out hn HV.out).mono ?_
      rintro e w1 ⟨rfl, rfl⟩
      go_wp2
      go_ret
      exact ⟨rfl, rfl⟩
    · have C2 := Lib.hid (fun W => l1In_is y 0 (hg - 1) false W (by rw [Bool.and_eq_false_iff]; rcases (by omega : y < 0 ∨ hg - 1 < y) with h | h; (left; simp; omega); (right; simp; omega)))
      obtain rfl : v = false := by rw [← h]; exact hasR_guard (fun h => h2 h.2)
      clear hl hs h h2
      go_enter Try.func100, Try.ntmps100
      go_wp2_with fail
      refine (C1.out _).mono ?_
      rintro e w1 ⟨rfl, rfl⟩
      go_wp2_with fail
      refine (C2.out _).mono ?_
      rintro e w1 ⟨rfl, rfl⟩
      go_wp2
      go_ret
      exact ⟨rfl, rfl⟩
  · have C1 := Lib.hid (fun W => l1In_is x 0 (wd - 1) false W (by rw [Bool.and_eq_false_iff]; rcases (by omega : x < 0 ∨ wd - 1 < x) with h | h; (left; simp; omega); (right; simp; omega)))
    obtain rfl : v = false := by rw [← h]; exact hasR_guard (fun h => h1 h.1)
    clear hl hs h h1
    go_enter Try.func100, Try.ntmps100
    go_wp2_with fail
    refine (C1.out _).mono ?_
    rintro e w1 ⟨rfl, rfl⟩
    go_wp2
    go_ret
    exact ⟨rfl, rfl⟩
end Go.Proofs.Ytgfgimpglaepaaa
