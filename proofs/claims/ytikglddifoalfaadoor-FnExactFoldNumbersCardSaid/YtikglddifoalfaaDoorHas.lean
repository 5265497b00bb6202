/- One cell of a field: hasCell, l2Has, l2At. -/
import Derived.Test.YtikglddifoalfaaDoorBox
namespace Go.Proofs.YtikglddifoalfaaDoor
open Go.RowKit
set_option linter.unusedVariables false
set_option linter.unusedSimpArgs false
def inB (wd hg x y : Int) : Bool := decide (0 ≤ x) && decide (x < wd) && (decide (0 ≤ y) && decide (y < hg))
theorem inB_iff {wd hg x y : Int} : inB wd hg x y = true ↔ (0 ≤ x ∧ x < wd) ∧ 0 ≤ y ∧ y < hg := by unfold inB; simp
theorem inB_not {wd hg x y : Int} : inB wd hg x y = false ↔ x < 0 ∨ wd ≤ x ∨ y < 0 ∨ hg ≤ y := by
  cases h : inB wd hg x y with
  | true => have := inB_iff.1 h; constructor; (intro h; cases h); (intro h; omega)
  | false => refine ⟨fun _ => ?_, fun _ => rfl⟩; rcases Classical.em (x < 0 ∨ wd ≤ x ∨ y < 0 ∨ hg ≤ y) with h1 | h1; exact h1; have := (inB_iff (wd := wd) (hg := hg) (x := x) (y := y)).2 (by omega); rw [h] at this; cases this
/-- a cell's place -/
def place (wd x y : Int) : Nat := (y * wd + x).toNat
theorem place_int {wd hg x y : Int} (hs : shapeB wd hg = true) (h : inB wd hg x y = true) : y * wd + x = (place wd x y : Int) ∧ (place wd x y : Int) < wd * hg ∧ 0 ≤ y * wd ∧ y * wd ≤ 64 := by
  obtain ⟨⟨h1, h2⟩, h3, h4⟩ := shapeB_iff.1 hs
  obtain ⟨⟨g1, g2⟩, g3, g4⟩ := inB_iff.1 h
  have e1 : 0 ≤ y * wd := Int.mul_nonneg g3 (by omega)
  have e2 : y * wd ≤ (hg - 1) * wd := Int.mul_le_mul_of_nonneg_right (by omega) (by omega)
  have e3 : (hg - 1) * wd = wd * hg - wd := by rw [Int.sub_mul, Int.one_mul, Int.mul_comm]
  have e4 := prod_bd hs
  unfold place
  omega
theorem place_lt {wd hg x y : Int} {l : List Int} (hg' : goodB wd hg l = true) (h : inB wd hg x y = true) : place wd x y < l.length := by
  have := place_int (good_shape hg') h
  have := good_len hg'
  omega
end Go.Proofs.YtikglddifoalfaaDoor
