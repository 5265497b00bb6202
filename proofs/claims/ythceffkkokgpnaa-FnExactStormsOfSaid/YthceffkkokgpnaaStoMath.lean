/- The storms of a field: plain mathematics. -/
import Derived.Test.YthceffkkokgpnaaStMath
import Derived.Test.YthceffkkokgpnaaRpMath
namespace Go.Proofs.Ythceffkkokgpnaa
set_option linter.unusedVariables false
set_option linter.unusedSimpArgs false
theorem ris_snoc {l : List Int} {n : Nat} (h : ∀ j (h : j < l.length), prevL l j < l[j] ∧ l[j] < (n : Int)) : ∀ j (h : j < (l ++ [(n : Int)]).length), prevL (l ++ [(n : Int)]) j < (l ++ [(n : Int)])[j] ∧ (l ++ [(n : Int)])[j] < ((n + 1 : Nat) : Int) := by
  intro j hj
  rw [List.length_append, List.length_singleton] at hj
  by_cases hlt : j < l.length
  · have := h j hlt
    rw [List.getElem_append_left hlt]
    refine ⟨?_, by omega⟩
    have e : prevL (l ++ [(n : Int)]) j = prevL l j := by
      unfold prevL
      by_cases h0 : j = 0
      · rw [if_pos h0, if_pos h0]
      · rw [if_neg h0, if_neg h0, List.getD_eq_getElem?_getD, List.getD_eq_getElem?_getD, List.getElem?_append_left (by omega)]
    rw [e]; exact this.1
  · obtain rfl : j = l.length := by omega
    rw [List.getElem_append_right (Nat.le_refl _)]
    simp only [Nat.sub_self, List.getElem_cons_zero]
    refine ⟨?_, by omega⟩
    by_cases h0 : l.length = 0
    · unfold prevL; rw [if_pos h0]; omega
    · have e : prevL (l ++ [(n : Int)]) l.length = l[l.length - 1]'(by omega) := by
        unfold prevL
        rw [if_neg h0, List.getD_eq_getElem?_getD, List.getElem?_append_left (by omega), List.getElem?_eq_getElem (by omega)]
        rfl
      rw [e]
      exact (h (l.length - 1) (by omega)).2
theorem abo_ris (l : List Int) (lim : Int) : ∀ n : Nat, n ≤ l.length → ∀ j (h : j < (aboP l lim n).length), prevL (aboP l lim n) j < (aboP l lim n)[j] ∧ (aboP l lim n)[j] < (n : Int) := by
  intro n
  induction n with
  | zero => intro _ j h; exact absurd h (by rw [aboP_zero]; simp)
  | succ n ih =>
    intro hn
    have h0 := ih (by omega)
    by_cases hc : l[n] = -9999 ∨ ¬ lim < l[n]
    · intro j hj
      have e := aboP_no (lim := lim) (show n < l.length by omega) hc
      simp only [e] at hj ⊢
      have := h0 j hj
      exact ⟨this.1, by omega⟩
    · intro j hj
      have e := aboP_yes (lim := lim) (show n < l.length by omega) (fun h => hc (.inl h)) (Classical.byContradiction fun h => hc (.inr h))
      simp only [e] at hj ⊢
      exact ris_snoc h0 j hj
theorem abo_reg {wd hg : Int} {l : List Int} {lim : Int} (h : goodB wd hg l = true) : regB wd hg (aboP l lim l.length) = true :=
  reg_yes (good_shape h) fun j hj => by
    have := abo_ris l lim l.length (Nat.le_refl _) j hj
    rw [← good_len h]
    exact this
theorem abo_mem {l : List Int} {lim : Int} : ∀ (n : Nat), n ≤ l.length → ∀ z ∈ aboP l lim n, ∃ k : Nat, z = (k : Int) ∧ ∃ h : k < l.length, ¬ l[k] = -9999 ∧ lim < l[k] := by
  intro n
  induction n with
  | zero => intro _ z hz; rw [aboP_zero] at hz; cases hz
  | succ n ih =>
    intro hn z hz
    by_cases hc : l[n] = -9999 ∨ ¬ lim < l[n]
    · rw [aboP_no (by omega) hc] at hz; exact ih (by omega) z hz
    · rw [aboP_yes (by omega) (fun h => hc (.inl h)) (Classical.byContradiction fun h => hc (.inr h))] at hz
      rcases List.mem_append.1 hz with h | h
      · exact ih (by omega) z h
      · rw [List.mem_singleton] at h
        exact ⟨n, h, by omega, fun h => hc (.inl h), Classical.byContradiction fun h => hc (.inr h)⟩
/-- the place of the greatest of the first k + 1 cells of a part, the first of equals -/
def pkI (l r : List Int) : Nat → Int
  | 0 => r.getD 0 0
  | k + 1 => if l.getD (pkI l r k).toNat 0 < l.getD (r.getD (k + 1) 0).toNat 0 then r.getD (k + 1) 0 else pkI l r k
theorem pkI_mem {l r : List Int} : ∀ k : Nat, k < r.length → pkI l r k ∈ r := by
  intro k
  induction k with
  | zero => intro h; show r.getD 0 0 ∈ r; rw [List.getD_eq_getElem?_getD, List.getElem?_eq_getElem h]; exact List.getElem_mem h
  | succ k ih =>
    intro h
    unfold pkI
    split
    · rw [List.getD_eq_getElem?_getD, List.getElem?_eq_getElem h]; exact List.getElem_mem h
    · exact ih (by omega)
theorem pkI_gt {l r : List Int} {k : Nat} {x y : Nat} (h : k + 1 < r.length) (e1 : pkI l r k = (x : Int)) (e2 : r[k + 1] = (y : Int)) (hx : x < l.length) (hy : y < l.length) (hc : l[x] < l[y]) : pkI l r (k + 1) = (y : Int) := by
  unfold pkI
  have g1 : l.getD (pkI l r k).toNat 0 = l[x] := by rw [e1, show ((x : Int)).toNat = x from rfl, List.getD_eq_getElem?_getD, List.getElem?_eq_getElem hx]; rfl
  have g2 : r.getD (k + 1) 0 = (y : Int) := by rw [List.getD_eq_getElem?_getD, List.getElem?_eq_getElem h]; exact e2
  have g3 : l.getD ((y : Int)).toNat 0 = l[y] := by rw [show ((y : Int)).toNat = y from rfl, List.getD_eq_getElem?_getD, List.getElem?_eq_getElem hy]; rfl
  rw [g1, g2, g3, if_pos hc]
theorem pkI_le {l r : List Int} {k : Nat} {x y : Nat} (h : k + 1 < r.length) (e1 : pkI l r k = (x : Int)) (e2 : r[k + 1] = (y : Int)) (hx : x < l.length) (hy : y < l.length) (hc : ¬ l[x] < l[y]) : pkI l r (k + 1) = (x : Int) := by
  unfold pkI
  have g1 : l.getD (pkI l r k).toNat 0 = l[x] := by rw [e1, show ((x : Int)).toNat = x from rfl, List.getD_eq_getElem?_getD, List.getElem?_eq_getElem hx]; rfl
  have g2 : r.getD (k + 1) 0 = (y : Int) := by rw [List.getD_eq_getElem?_getD, List.getElem?_eq_getElem h]; exact e2
  have g3 : l.getD ((y : Int)).toNat 0 = l[y] := by rw [show ((y : Int)).toNat = y from rfl, List.getD_eq_getElem?_getD, List.getElem?_eq_getElem hy]; rfl
  rw [g1, g2, g3, if_neg hc, e1]
/-- the storm of a part -/
def stO (wd : Int) (l r : List Int) : StT := (pkI l r (r.length - 1) % wd, pkI l r (r.length - 1) / wd, (r.length : Int), l.getD (pkI l r (r.length - 1)).toNat 0)
/-- the parts of a field above a limit, its storms -/
noncomputable def prtR (wd : Int) (l : List Int) (lim : Int) : List (List Int) := partsP wd (aboP l lim l.length) (aboP l lim l.length).length
noncomputable def stoB (wd hg : Int) (l : List Int) (lim : Int) : Bool := goodB wd hg l && decide ((prtR wd l lim).length ≤ 5)
noncomputable def stoR (wd hg : Int) (l : List Int) (lim : Int) : List StT := if stoB wd hg l lim = true then (prtR wd l lim).map (stO wd l) else []
theorem stoR_no {wd hg : Int} {l : List Int} {lim : Int} (h : stoB wd hg l lim = false) : stoR wd hg l lim = [] := if_neg (by rw [h]; simp)
theorem stoR_yes {wd hg : Int} {l : List Int} {lim : Int} (h : stoB wd hg l lim = true) : stoR wd hg l lim = (prtR wd l lim).map (stO wd l) := if_pos h
theorem stoB_bad {wd hg : Int} {l : List Int} {lim : Int} (h : goodB wd hg l = false) : stoB wd hg l lim = false := by unfold stoB; rw [h]; rfl
theorem stoB_many {wd hg : Int} {l : List Int} {lim : Int} (h : ¬ (prtR wd l lim).length ≤ 5) : stoB wd hg l lim = false := by unfold stoB; rw [decide_eq_false h, Bool.and_false]
theorem stoB_yes {wd hg : Int} {l : List Int} {lim : Int} (h : goodB wd hg l = true) (h2 : (prtR wd l lim).length ≤ 5) : stoB wd hg l lim = true := by unfold stoB; rw [h, decide_eq_true h2]; rfl
theorem stoR_len (wd hg : Int) (l : List Int) (lim : Int) : (stoR wd hg l lim).length ≤ 5 := by
  cases h : stoB wd hg l lim with
  | false => rw [stoR_no h]; simp
  | true =>
    rw [stoR_yes h, List.length_map]
    unfold stoB at h
    rw [Bool.and_eq_true] at h
    exact of_decide_eq_true h.2
theorem prt_mem {wd : Int} {l : List Int} {lim : Int} {r : List Int} (hr : r ∈ prtR wd l lim) : ∀ z ∈ r, z ∈ aboP l lim l.length := by
  obtain ⟨f, rfl⟩ := parts_each _ r hr
  intro z hz
  exact (mem_comp.1 hz).mem
theorem prt_bd {wd : Int} {l : List Int} {lim : Int} {r : List Int} (hr : r ∈ prtR wd l lim) : ∀ z ∈ r, 0 ≤ z ∧ z < (l.length : Int) := by
  intro z hz
  obtain ⟨k, rfl, hk, _⟩ := abo_mem l.length (Nat.le_refl _) z (prt_mem hr z hz)
  omega
end Go.Proofs.Ythceffkkokgpnaa
