/- Plain mathematics of FnMasks: what is masked and filled again; what is chosen; the range of what is clipped. -/
import Derived.Test.YtglpkfkbbjbjjaaAlgMath
import Derived.Test.YtglpkfkbbjbjjaaRange
namespace Go.Proofs.Ytglpkfkbbjbjjaa
theorem fl_mk (x m : Int) : flF (mkF x m) x = x := by
  unfold flF mkF
  split <;> split <;> simp_all
theorem diff_self (l : List Int) : diffN l l = 0 := by
  unfold diffN
  induction l with
  | nil => rfl
  | cons x r ih => simp only [List.zipWith_cons_cons]; simp at ih ⊢
theorem mask_back {wd hg wd2 hg2 : Int} {a b : List Int} (h : rB (maskR wd hg a wd2 hg2 b) = true) :
    rW (maskR wd hg a wd2 hg2 b) = wd ∧ rH (maskR wd hg a wd2 hg2 b) = hg ∧ fillR wd hg (rL (maskR wd hg a wd2 hg2 b)) wd hg a = some (wd, hg, a) ∧ diffR wd hg a wd hg a = 0 ∧ sameB wd hg a wd hg a = true := by
  unfold maskR fillR at *
  cases hs : sameB wd hg a wd2 hg2 b with
  | false => rw [combR_no hs] at h; cases h
  | true =>
    obtain ⟨g1, g2, rfl, rfl⟩ := same_iff.1 hs
    have e := comb_cells mkF_cell hs
    have hgm := zip_cells mkF_cell hs
    have hl := same_len hs
    have hz := zipR_len mkF hl
    rw [e]
    have hs2 : sameB wd hg (zipR mkF a b) wd hg a = true := same_yes hgm g1
    have e2 := comb_cells flF_cell hs2
    have ha : zipR flF (zipR mkF a b) a = a := by
      apply List.ext_getElem (by rw [zipR_len flF hz, hz])
      intro k h1 h2
      rw [zipR_get flF k h1 (by rw [hz]; exact h2) h2, zipR_get mkF k (by rw [hz]; exact h2) h2 (by omega)]
      exact fl_mk _ _
    rw [ha] at e2
    refine ⟨rfl, rfl, e2, ?_, same_self g1⟩
    unfold diffR
    rw [if_pos (same_self g1), diff_self]
    rfl
theorem choose_from (wt ht : Int) (lt : List Int) (wa ha : Int) (la : List Int) (wb hb : Int) (lb : List Int) :
    ∀ k (h : k < (rL (chooseR wt ht lt wa ha la wb hb lb)).length), ∃ (h1 : k < lt.length) (h2 : k < la.length) (h3 : k < lb.length), (rL (chooseR wt ht lt wa ha la wb hb lb))[k] = la[k] ∨ (rL (chooseR wt ht lt wa ha la wb hb lb))[k] = lb[k] ∨ lt[k] = -9999 := by
  cases hs : same3 wt ht lt wa ha la wb hb lb with
  | false => rw [chooseR_no hs]; intro k h; simp [rL] at h
  | true =>
    rw [chooseR_yes hs]
    have hs' := hs
    unfold same3 at hs'
    simp only [Bool.and_eq_true] at hs'
    have l1 := same_len hs'.1
    have l2 := same_len hs'.2
    have hz : lt.length = (la.zip lb).length := by rw [List.length_zip]; omega
    intro k h
    have h' : k < (zipR chP lt (la.zip lb)).length := h
    rw [zipR_len chP hz] at h'
    refine ⟨h', by omega, by omega, ?_⟩
    have e : (rL (some (wt, ht, zipR chP lt (la.zip lb))))[k] = chP lt[k] (la[k], lb[k]) := by
      show (zipR chP lt (la.zip lb))[k] = _
      rw [zipR_get chP k h h' (by omega), List.getElem_zip]
    rw [e]
    unfold chP chF
    split
    · exact .inr (.inr ‹_›)
    · split
      · exact .inr (.inl rfl)
      · exact .inl rfl
theorem fold_lo (r : List Int) (x b : Int) (hx : b ≤ x) (h : ∀ z ∈ r, b ≤ z) : b ≤ r.foldl (fun a b => if b < a then b else a) x := by
  induction r generalizing x with
  | nil => exact hx
  | cons y s ih =>
    rw [List.foldl_cons]
    apply ih
    · split
      · exact h y (by simp)
      · exact hx
    · exact fun z hz => h z (by simp [hz])
theorem fold_hi (r : List Int) (x b : Int) (hx : x ≤ b) (h : ∀ z ∈ r, z ≤ b) : r.foldl (fun a b => if a < b then b else a) x ≤ b := by
  induction r generalizing x with
  | nil => exact hx
  | cons y s ih =>
    rw [List.foldl_cons]
    apply ih
    · split
      · exact h y (by simp)
      · exact hx
    · exact fun z hz => h z (by simp [hz])
theorem clip_range {wd hg low high : Int} {l : List Int} (h : rB (clipR wd hg l low high) = true) (k : rngB (rW (clipR wd hg l low high)) (rH (clipR wd hg l low high)) (rL (clipR wd hg l low high)) = true) :
    low ≤ rngLo (rW (clipR wd hg l low high)) (rH (clipR wd hg l low high)) (rL (clipR wd hg l low high)) ∧ rngHi (rW (clipR wd hg l low high)) (rH (clipR wd hg l low high)) (rL (clipR wd hg l low high)) ≤ high := by
  unfold clipR at *
  cases hc : clB low high with
  | false => rw [hc] at h; simp [rB] at h
  | true =>
    rw [hc] at h k
    rw [if_pos rfl] at h k ⊢
    cases hgd : goodB wd hg l with
    | false => rw [mapR_no hgd] at h; cases h
    | true =>
      have e := mapR_cells (clF_bd hc) hgd
      rw [e] at k ⊢
      have hgz := zip_cells (one_cell (clF_bd hc)) (same_self hgd)
      have hlh : low ≤ high := by
        unfold clB at hc
        simp only [Bool.and_eq_true, decide_eq_true_eq] at hc
        exact hc.1
      obtain ⟨r1, r2, r3⟩ := rng_yes hgz
      have hz := zipR_len (ofV fun a _ => clF low high a) (a := l) (b := l) rfl
      have hv : ∀ z ∈ vals (zipR (ofV fun a _ => clF low high a) l l), low ≤ z ∧ z ≤ high := by
        intro z hm
        obtain ⟨h1, h2⟩ := vals_mem hm
        have hcell := good_cell hgz z h1
        obtain ⟨i, hi, rfl⟩ := List.getElem_of_mem h1
        have hi' : i < l.length := by rw [hz] at hi; exact hi
        rw [zipR_get _ i hi hi' hi'] at h2 hcell ⊢
        by_cases hm : l[i] = -9999
        · exact absurd (ofV_gone (.inl hm)) h2
        · have hno : ¬ (l[i] = -9999 ∨ l[i] = -9999) := by intro q; rcases q with q | q <;> exact hm q
          rw [(ofV_cell _ _ _).1, fitV_val hno] at hcell
          rw [ofV_yes hno hcell]
          show low ≤ min (max l[i] low) high ∧ min (max l[i] low) high ≤ high
          omega
      show low ≤ rngLo wd hg (zipR (ofV fun a _ => clF low high a) l l) ∧ rngHi wd hg (zipR (ofV fun a _ => clF low high a) l l) ≤ high
      have k' : rngB wd hg (zipR (ofV fun a _ => clF low high a) l l) = true := k
      rw [r1] at k'
      rw [r2, r3]
      have hne := anyB_yes k'
      generalize vals (zipR (ofV fun a _ => clF low high a) l l) = V at *
      cases V with
      | nil => exact absurd rfl hne
      | cons x r => exact ⟨fold_lo r x low (hv x (by simp)).1 (fun z hz => (hv z (by simp [hz])).1), fold_hi r x high (hv x (by simp)).2 (fun z hz => (hv z (by simp [hz])).2)⟩
end Go.Proofs.Ytglpkfkbbjbjjaa
