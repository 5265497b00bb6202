/- Plain mathematics of fields on grids: what a valid field is. -/
namespace Go.Proofs.Ythceffkkokgpnaa
/-- a value, or the number that stands for none -/
def cellB (n : Int) : Bool := decide (n = -9999) || (decide (-9000 ≤ n) && decide (n ≤ 9000))
def shapeB (wd hg : Int) : Bool := decide (1 ≤ wd) && decide (wd ≤ 8) && (decide (1 ≤ hg) && decide (hg ≤ 8))
def goodB (wd hg : Int) (l : List Int) : Bool := shapeB wd hg && decide ((l.length : Int) = wd * hg) && l.all cellB
theorem cellB_iff {n : Int} : cellB n = true ↔ n = -9999 ∨ (-9000 ≤ n ∧ n ≤ 9000) := by unfold cellB; simp
theorem cellB_not {n : Int} : cellB n = false ↔ n ≠ -9999 ∧ (n < -9000 ∨ 9000 < n) := by
  cases h : cellB n with
  | true => have := cellB_iff.1 h; constructor; (intro h; cases h); (intro h; omega)
  | false => refine ⟨fun _ => ?_, fun _ => rfl⟩; rcases Classical.em (n ≠ -9999 ∧ (n < -9000 ∨ 9000 < n)) with h1 | h1; exact h1; have := (cellB_iff (n := n)).2 (by omega); rw [h] at this; cases this
theorem shapeB_iff {wd hg : Int} : shapeB wd hg = true ↔ (1 ≤ wd ∧ wd ≤ 8) ∧ 1 ≤ hg ∧ hg ≤ 8 := by unfold shapeB; simp
theorem shapeB_not {wd hg : Int} : shapeB wd hg = false ↔ wd < 1 ∨ 8 < wd ∨ hg < 1 ∨ 8 < hg := by
  cases h : shapeB wd hg with
  | true => have := shapeB_iff.1 h; constructor; (intro h; cases h); (intro h; omega)
  | false => refine ⟨fun _ => ?_, fun _ => rfl⟩; rcases Classical.em (wd < 1 ∨ 8 < wd ∨ hg < 1 ∨ 8 < hg) with h1 | h1; exact h1; have := (shapeB_iff (wd := wd) (hg := hg)).2 (by omega); rw [h] at this; cases this
theorem prod_bd {a b : Int} (h : shapeB a b = true) : 1 ≤ a * b ∧ a * b ≤ 64 := by
  obtain ⟨⟨h1, h2⟩, h3, h4⟩ := shapeB_iff.1 h
  have e1 : 1 * 1 ≤ a * b := Int.mul_le_mul h1 h3 (by omega) (by omega)
  have e2 : a * b ≤ 8 * 8 := Int.mul_le_mul h2 h4 (by omega) (by omega)
  omega
theorem good_shape {wd hg : Int} {l : List Int} (h : goodB wd hg l = true) : shapeB wd hg = true := by unfold goodB at h; simp at h; exact h.1.1
theorem good_len {wd hg : Int} {l : List Int} (h : goodB wd hg l = true) : (l.length : Int) = wd * hg := by unfold goodB at h; simp at h; exact h.1.2
theorem good_cell {wd hg : Int} {l : List Int} (h : goodB wd hg l = true) : ∀ z ∈ l, cellB z = true := by unfold goodB at h; simp at h; exact h.2
theorem good_bd {wd hg : Int} {l : List Int} (h : goodB wd hg l = true) : ∀ z ∈ l, -9999 ≤ z ∧ z ≤ 9000 := fun z hz => by have := cellB_iff.1 (good_cell h z hz); omega
theorem good_le {wd hg : Int} {l : List Int} (h : goodB wd hg l = true) : 1 ≤ l.length ∧ l.length ≤ 64 := by
  have := good_len h; have := prod_bd (good_shape h); omega
theorem good_no_shape {wd hg : Int} {l : List Int} (h : shapeB wd hg = false) : goodB wd hg l = false := by unfold goodB; rw [h]; rfl
theorem good_no_len {wd hg : Int} {l : List Int} (h : ¬ (l.length : Int) = wd * hg) : goodB wd hg l = false := by unfold goodB; simp [h]
theorem good_no_cell {wd hg : Int} {l : List Int} {k : Nat} (hk : k < l.length) (h : cellB l[k] = false) : goodB wd hg l = false := by
  have : l.all cellB = false := by
    rw [List.all_eq_false]; exact ⟨l[k], List.getElem_mem hk, by simp [h]⟩
  unfold goodB; rw [this]; simp
theorem good_yes {wd hg : Int} {l : List Int} (hs : shapeB wd hg = true) (hl : (l.length : Int) = wd * hg) (h : ∀ k (hk : k < l.length), cellB l[k] = true) : goodB wd hg l = true := by
  have : l.all cellB = true := by
    rw [List.all_eq_true]; intro x hx; obtain ⟨k, hk, rfl⟩ := List.getElem_of_mem hx; exact h k hk
  unfold goodB; rw [this, hs]; simp [hl]
/-- a field, or none -/
def rW (r : Option (Int × Int × List Int)) : Int := match r with | none => 0 | some x => x.1
def rH (r : Option (Int × Int × List Int)) : Int := match r with | none => 0 | some x => x.2.1
def rL (r : Option (Int × Int × List Int)) : List Int := match r with | none => [] | some x => x.2.2
def rB (r : Option (Int × Int × List Int)) : Bool := match r with | none => false | some _ => true
end Go.Proofs.Ythceffkkokgpnaa
