/- Plain mathematics: the total lies between the least and the greatest value times their number. -/
import Derived.Test.YthceffkkokgpnaaValMath
namespace Go.Proofs.Ythceffkkokgpnaa
theorem fold_lo (r : List Int) : ∀ x, r.foldl (fun a b => if b < a then b else a) x ≤ x ∧ ∀ v ∈ r, r.foldl (fun a b => if b < a then b else a) x ≤ v := by
  induction r with
  | nil => intro x; exact ⟨Int.le_refl _, fun _ h => by simp at h⟩
  | cons y s ih =>
    intro x
    have h := ih (if y < x then y else x)
    rw [List.foldl_cons]
    refine ⟨by have := h.1; split at this <;> omega, fun v hv => ?_⟩
    rcases List.mem_cons.1 hv with rfl | hv
    · have := h.1; split at this <;> omega
    · exact h.2 v hv
theorem fold_hi (r : List Int) : ∀ x, x ≤ r.foldl (fun a b => if a < b then b else a) x ∧ ∀ v ∈ r, v ≤ r.foldl (fun a b => if a < b then b else a) x := by
  induction r with
  | nil => intro x; exact ⟨Int.le_refl _, fun _ h => by simp at h⟩
  | cons y s ih =>
    intro x
    have h := ih (if x < y then y else x)
    rw [List.foldl_cons]
    refine ⟨by have := h.1; split at this <;> omega, fun v hv => ?_⟩
    rcases List.mem_cons.1 hv with rfl | hv
    · have := h.1; split at this <;> omega
    · exact h.2 v hv
theorem loV_le {l : List Int} {v : Int} (h : v ∈ l) : loV l ≤ v := by
  cases l with
  | nil => simp at h
  | cons x r =>
    rcases List.mem_cons.1 h with rfl | h
    · exact (fold_lo r _).1
    · exact (fold_lo r x).2 v h
theorem hiV_ge {l : List Int} {v : Int} (h : v ∈ l) : v ≤ hiV l := by
  cases l with
  | nil => simp at h
  | cons x r =>
    rcases List.mem_cons.1 h with rfl | h
    · exact (fold_hi r _).1
    · exact (fold_hi r x).2 v h
theorem tot_ge {l : List Int} {m : Int} (h : ∀ v ∈ l, m ≤ v) : m * (l.length : Int) ≤ tot l := by
  induction l with
  | nil => simp [tot]
  | cons x r ih =>
    have h1 := h x (by simp)
    have h2 := ih (fun v hv => h v (by simp [hv]))
    simp only [tot, List.length_cons]
    have e : m * ((r.length + 1 : Nat) : Int) = m * (r.length : Int) + m := by push_cast; rw [Int.mul_add, Int.mul_one]
    rw [e]
    omega
theorem tot_le {l : List Int} {m : Int} (h : ∀ v ∈ l, v ≤ m) : tot l ≤ m * (l.length : Int) := by
  induction l with
  | nil => simp [tot]
  | cons x r ih =>
    have h1 := h x (by simp)
    have h2 := ih (fun v hv => h v (by simp [hv]))
    simp only [tot, List.length_cons]
    have e : m * ((r.length + 1 : Nat) : Int) = m * (r.length : Int) + m := by push_cast; rw [Int.mul_add, Int.mul_one]
    rw [e]
    omega
theorem tot_between (l : List Int) : loV l * (l.length : Int) ≤ tot l ∧ tot l ≤ hiV l * (l.length : Int) := ⟨tot_ge fun _ h => loV_le h, tot_le fun _ h => hiV_ge h⟩
end Go.Proofs.Ythceffkkokgpnaa
