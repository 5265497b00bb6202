/- The model's RegionParts. -/
import Derived.Test.YthceffkkokgpnaaRpSpec2
namespace Go.Proofs.Ythceffkkokgpnaa
open Go.RowKit
set_option linter.unusedVariables false
set_option linter.unusedSimpArgs false
theorem parts_small {wd hg : Int} {l : List Int} : (∀ r ∈ partsR wd hg l, r.length ≤ 1048576) ∧ (partsR wd hg l).length ≤ 1048576 ∧ (partsR wd hg l).flatten.length ≤ 1048575 := by
  cases hr : regB wd hg l with
  | false => rw [partsR_no hr]; simp
  | true =>
    rw [partsR_yes hr]
    have hl := reg_len hr
    have hp := parts_len (wd := wd) (l := l) l.length
    have hrow : ∀ r ∈ partsP wd l l.length, r.length ≤ 64 := fun r hr' => by
      obtain ⟨f, rfl⟩ := parts_each l.length r hr'
      exact Nat.le_trans (List.length_filter_le _ _) hl
    have hfl : ∀ (R : List (List Int)), (∀ r ∈ R, r.length ≤ 64) → R.flatten.length ≤ 64 * R.length := by
      intro R
      induction R with
      | nil => intro _; simp
      | cons r R ih =>
        intro h
        have h1 := h r (by simp)
        have h2 := ih fun x hx => h x (by simp [hx])
        simp only [List.flatten_cons, List.length_append, List.length_cons]
        omega
    have := hfl _ hrow
    exact ⟨fun r h => by have := hrow r h; omega, by omega, by omega⟩
theorem parts_pos {wd hg : Int} {l : List Int} : ∀ r ∈ partsR wd hg l, 0 < r.length := by
  cases hr : regB wd hg l with
  | false => rw [partsR_no hr]; simp
  | true =>
    rw [partsR_yes hr]
    have key : ∀ k, k ≤ l.length → ∀ r ∈ partsP wd l k, 0 < r.length := by
      intro k
      induction k with
      | zero => intro _ r h; cases h
      | succ k ih =>
        intro hk r h
        rw [partsP] at h
        split at h
        · exact ih (by omega) r h
        · rcases List.mem_append.1 h with h | h
          · exact ih (by omega) r h
          · rw [List.mem_singleton] at h
            subst h
            have e : l.getD k 0 = l[k]'(by omega) := by simp [show k < l.length by omega]
            rw [e]
            exact List.length_pos_of_mem (mem_comp.2 (.here (List.getElem_mem (by omega))))
    exact key _ (Nat.le_refl _)
end Go.Proofs.Ythceffkkokgpnaa
