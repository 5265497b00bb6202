/- The mathematics of FnRegions: the parts make up the region, a part is its own only part, the field of a region gives it back, the grown region holds it. -/
import Derived.Test.YtgfgimpglaepaaaRpSpec3
import Derived.Test.YtgfgimpglaepaaaRgnFld
import Derived.Test.YtgfgimpglaepaaaAbo
namespace Go.Proofs.Ytgfgimpglaepaaa
set_option linter.unusedVariables false
set_option linter.unusedSimpArgs false
theorem Ch.trans {wd f b c : Int} {l : List Int} (h1 : Ch wd l f b) (h2 : Ch wd l b c) : Ch wd l f c := by
  induction h2 with
  | here _ => exact h1
  | step _ hc hb ih => exact .step ih hc hb
theorem Ch.first {wd f b : Int} {l : List Int} (h : Ch wd l f b) : f ∈ l := by
  induction h with
  | here h => exact h
  | step _ _ _ ih => exact ih
theorem Ch.symm {wd f b : Int} {l : List Int} (h : Ch wd l f b) : Ch wd l b f := by
  induction h with
  | here h => exact .here h
  | step h1 hc hb ih =>
    rw [bes_comm] at hb
    exact (Ch.step (.here hc) h1.mem hb).trans ih
/-- a chain lies in the part -/
theorem Ch.inside {wd f b : Int} {l : List Int} (h : Ch wd l f b) : Ch wd (compL wd l f) f b := by
  induction h with
  | here h => exact .here (mem_comp.2 (.here h))
  | step h1 hc hb ih => exact .step ih (mem_comp.2 (.step h1 hc hb)) hb
theorem comp_self {wd f g : Int} {l : List Int} (ha : l.Pairwise (· < ·)) (hg : g ∈ compL wd l f) : compL wd (compL wd l f) g = compL wd l f := by
  refine asc_ext (comp_asc (comp_asc ha)) (comp_asc ha) fun b => ?_
  rw [mem_comp]
  constructor
  · intro h; exact h.mem
  · intro h
    exact (mem_comp.1 hg).inside.symm.trans (mem_comp.1 h).inside
theorem reg_of {wd hg : Int} {l : List Int} (hs : shapeB wd hg = true) (ha : l.Pairwise (· < ·)) (hb : ∀ z ∈ l, 0 ≤ z ∧ z < wd * hg) : regB wd hg l = true := by
  refine reg_yes hs fun j hj => ?_
  have h1 := hb _ (List.getElem_mem hj)
  refine ⟨?_, h1.2⟩
  cases j with
  | zero => rw [prevL_zero]; omega
  | succ j =>
    rw [prevL_succ (by omega)]
    exact List.pairwise_iff_getElem.1 ha j (j + 1) (by omega) hj (by omega)
theorem comp_reg {wd hg f : Int} {l : List Int} (h : regB wd hg l = true) : regB wd hg (compL wd l f) = true :=
  reg_of (reg_shape h) (comp_asc (reg_asc h)) fun z hz => reg_bd h z (mem_comp.1 hz).mem
/-- a part has one part: itself -/
theorem parts_one {wd hg f : Int} {l : List Int} (h : regB wd hg l = true) (hf : f ∈ l) : partsR wd hg (compL wd l f) = [compL wd l f] := by
  rw [partsR_yes (comp_reg h)]
  have ha := reg_asc h
  have hpos : 0 < (compL wd l f).length := List.length_pos_of_mem (mem_comp.2 (.here hf))
  have key : ∀ k, 1 ≤ k → k ≤ (compL wd l f).length → partsP wd (compL wd l f) k = [compL wd l f] := by
    intro k
    induction k with
    | zero => intro h; omega
    | succ k ih =>
      intro _ hk
      rcases Nat.eq_zero_or_pos k with rfl | h1
      · rw [partsP_new hk (by simp [partsP])]
        rw [comp_self ha (List.getElem_mem hk)]
        rfl
      · rw [partsP_old hk (by rw [ih h1 (by omega)]; simp), ih h1 (by omega)]
  exact key _ hpos (Nat.le_refl _)
theorem parts_each' {wd hg : Int} {l : List Int} (h : regB wd hg l = true) : ∀ r ∈ partsR wd hg l, ∃ f ∈ l, r = compL wd l f := by
  rw [partsR_yes h]
  have key : ∀ k, k ≤ l.length → ∀ r ∈ partsP wd l k, ∃ f ∈ l, r = compL wd l f := by
    intro k
    induction k with
    | zero => intro _ r h; cases h
    | succ k ih =>
      intro hk r h
      rw [partsP] at h
      split at h
      · exact ih (by omega) r h
      · rcases List.mem_append.1 h with h | h
        · exact ih (by omega) r h
        · rw [List.mem_singleton] at h
          have e : l.getD k 0 = l[k]'(by omega) := by simp [show k < l.length by omega]
          rw [e] at h
          exact ⟨_, List.getElem_mem (by omega), h⟩
  exact key _ (Nat.le_refl _)
theorem parts_flat {wd hg : Int} {l : List Int} (h : regB wd hg l = true) : (partsR wd hg l).flatten.length = l.length := by
  rw [partsR_yes h]
  have ha := reg_asc h
  have key : ∀ k, k ≤ l.length → (partsP wd l k).flatten.Nodup ∧ (∀ b ∈ (partsP wd l k).flatten, b ∈ l) ∧ ∀ j (hj : j < l.length), j < k → l[j] ∈ (partsP wd l k).flatten := by
    intro k
    induction k with
    | zero => intro _; exact ⟨by simp [partsP], fun b hb => by simp [partsP] at hb, fun j _ hj => by omega⟩
    | succ k ih =>
      intro hk
      obtain ⟨i1, i2, i3⟩ := ih (by omega)
      by_cases hm : l[k]'(by omega) ∈ (partsP wd l k).flatten
      · rw [partsP_old (by omega) hm]
        refine ⟨i1, i2, fun j hj hlt => ?_⟩
        rcases Nat.lt_or_ge j k with h1 | h1
        · exact i3 j hj h1
        · have e : j = k := by omega
          subst e; exact hm
      · rw [partsP_new (by omega) hm]
        simp only [List.flatten_append, List.flatten_cons, List.flatten_nil, List.append_nil]
        refine ⟨?_, fun b hb => ?_, fun j hj hlt => ?_⟩
        · rw [List.nodup_append]
          refine ⟨i1, asc_nodup (comp_asc ha), fun a ha' b hb e => ?_⟩
          subst e
          exact hm (parts_back (mem_comp.1 hb) ha')
        · rcases List.mem_append.1 hb with h1 | h1
          · exact i2 b h1
          · exact (mem_comp.1 h1).mem
        · rw [List.mem_append]
          rcases Nat.lt_or_ge j k with h1 | h1
          · exact .inl (i3 j hj h1)
          · have e : j = k := by omega
            subst e
            exact .inr (mem_comp.2 (.here (List.getElem_mem hj)))
  obtain ⟨k1, k2, k3⟩ := key l.length (Nat.le_refl _)
  have h1 := nodup_sub_len k1 k2
  have h2 := nodup_sub_len (asc_nodup ha) fun x hx => by
    obtain ⟨j, hj, rfl⟩ := List.getElem_of_mem hx
    exact k3 j hj hj
  omega
theorem ones_good {wd hg : Int} {l : List Int} (hs : shapeB wd hg = true) : goodB wd hg (onesL (wd * hg).toNat l) = true := by
  have hp := prod_bd hs
  unfold goodB
  rw [hs, onesL_len]
  simp only [Bool.true_and, Bool.and_eq_true, decide_eq_true_eq]
  refine ⟨by omega, List.all_eq_true.2 fun z hz => ?_⟩
  unfold onesL at hz
  obtain ⟨j, _, rfl⟩ := List.mem_map.1 hz
  split <;> rfl
/-- the field of a region, above 0, is the region -/
theorem above_field {wd hg : Int} {l : List Int} (h : regB wd hg l = true) : aboR wd hg (onesL (wd * hg).toNat l) 0 = l := by
  have hp := prod_bd (reg_shape h)
  rw [aboR_yes (ones_good (reg_shape h)), onesL_len]
  have e : ∀ j, j < (wd * hg).toNat → (onesL (wd * hg).toNat l).getD j 0 = if (j : Int) ∈ l then 1 else 0 := fun j hj => by
    simp [onesL, hj]
  refine asc_ext ?_ (reg_asc h) fun x => ?_
  · unfold aboP
    rw [List.pairwise_map]
    refine (List.Pairwise.filter _ List.pairwise_lt_range).imp fun h => ?_
    omega
  · unfold aboP
    simp only [List.mem_map, List.mem_filter, List.mem_range, Bool.and_eq_true, decide_eq_true_eq]
    constructor
    · rintro ⟨j, ⟨hj, h1, h2⟩, rfl⟩
      rw [e j hj] at h2
      split at h2
      · assumption
      · omega
    · intro hx
      have hb := reg_bd h x hx
      refine ⟨x.toNat, ⟨by omega, ?_, ?_⟩, by omega⟩ <;> rw [e _ (by omega), if_pos (by rw [Int.toNat_of_nonneg hb.1]; exact hx)] <;> omega
theorem grow_has {wd hg : Int} {l : List Int} (h : regB wd hg l = true) : ∀ z ∈ l, z ∈ growR wd hg l := by
  intro z hz
  have hb := reg_bd h z hz
  have hp := prod_bd (reg_shape h)
  rw [growR_yes h]
  unfold growP
  refine List.mem_map.2 ⟨z.toNat, List.mem_filter.2 ⟨List.mem_range.2 (by omega), ?_⟩, by omega⟩
  rw [Int.toNat_of_nonneg hb.1]
  unfold nearB
  rw [decide_eq_true hz]; rfl
end Go.Proofs.Ytgfgimpglaepaaa
