/- One cell of a field: hasCell, l2Has, l2At. -/
import Derived.Test.YtpmfgghiiocccaaBox
namespace Go.Proofs.Ytpmfgghiiocccaa
open Go.RowKit
set_option linter.unusedVariables false
set_option linter.unusedSimpArgs false
def inB (wd hg x y : Int) : Bool := decide (0 ≤ x) && decide (x < wd) && (decide (0 ≤ y) && decide (y < hg))
theorem inB_iff {wd hg x y : Int} : inB wd hg x y = true ↔ (0 ≤ x ∧ x < wd) ∧ 0 ≤ y ∧ y < hg := by unfold inB; simp
theorem inB_not {wd hg x y : Int} : inB wd hg x y = false ↔ x < 0 ∨ wd ≤ x ∨ y < 0 ∨ hg ≤ y := by
  cases h : inB wd hg x y with
  | true => have := inB_iff.1 h; constructor; (intro h; cases h); (intro h; omega)
  | false => refine ⟨fun _ => ?_, fun _ => rfl⟩; rcases Classical.em (x < 0 ∨ wd ≤ x ∨ y < 0 ∨ hg ≤ y) with h1 | h1; exact h1; have := (inB_iff (wd := wd) (hg := hg) (x := x) (y := y)).2 (by omega); rw [h] at this; cases this
/-- a cell's place -/
def place (wd x y : Int) : Nat := (y * wd + x).toNat
theorem place_int {wd hg x y : Int} (hs : shapeB wd hg = true) (h : inB wd hg x y = true) : y * wd + x = (place wd x y : Int) ∧ (place wd x y : Int) < wd * hg ∧ 0 ≤ y * wd ∧ y * wd ≤ 64 := by
  obtain ⟨⟨h1, h2⟩, h3, h4⟩ := shapeB_iff.1 hs
  obtain ⟨⟨g1, g2⟩, g3, g4⟩ := inB_iff.1 h
  have e1 : 0 ≤ y * wd := Int.mul_nonneg g3 (by omega)
  have e2 : y * wd ≤ (hg - 1) * wd := Int.mul_le_mul_of_nonneg_right (by omega) (by omega)
  have e3 : (hg - 1) * wd = wd * hg - wd := by rw [Int.sub_mul, Int.one_mul, Int.mul_comm]
  have e4 := prod_bd hs
  unfold place
  omega
theorem place_lt {wd hg x y : Int} {l : List Int} (hg' : goodB wd hg l = true) (h : inB wd hg x y = true) : place wd x y < l.length := by
  have := place_int (good_shape hg') h
  have := good_len hg'
  omega
set_option maxHeartbeats 400000 in
theorem implHas_is (wd hg : Int) (a : Option Addr) (n c : Nat) (x y : Int) (v : Bool) (w : World) (h : inB wd hg x y = v) :
    Calls Try.prog 80 #[.agg #[.int .i64 wd, .int .i64 hg, .slice a n c], .int .i64 x, .int .i64 y] w fun e w' => e = .returned (.bool v) ∧ Below w.heap.size w w' := by
  by_cases h1 : 0 ≤ x
  · by_cases h2 : x < wd
    · by_cases h3 : 0 ≤ y
      · by_cases h4 : y < hg
        · obtain rfl : v = true := by rw [← h]; exact inB_iff.2 ⟨⟨h1, h2⟩, h3, h4⟩
          clear h
          go_enter Try.func80, Try.ntmps80
          go_wp2
          go_ret
          exact ⟨rfl, below_all _ _⟩
        · obtain rfl : v = false := by rw [← h]; exact inB_not.2 (by omega)
          clear h
          go_enter Try.func80, Try.ntmps80
          go_wp2
          go_ret
          exact ⟨rfl, below_all _ _⟩
      · obtain rfl : v = false := by rw [← h]; exact inB_not.2 (by omega)
        clear h
        go_enter Try.func80, Try.ntmps80
        go_wp2
        go_ret
        exact ⟨rfl, below_all _ _⟩
    · obtain rfl : v = false := by rw [← h]; exact inB_not.2 (by omega)
      clear h
      go_enter Try.func80, Try.ntmps80
      go_wp2
      go_ret
      exact ⟨rfl, below_all _ _⟩
  · obtain rfl : v = false := by rw [← h]; exact inB_not.2 (by omega)
    clear h
    go_enter Try.func80, Try.ntmps80
    go_wp2
    go_ret
    exact ⟨rfl, below_all _ _⟩

end Go.Proofs.Ytpmfgghiiocccaa
