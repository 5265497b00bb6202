/- Plain mathematics of FnAlgebra: what is added is taken away again; the smaller and the greater values. -/
import Derived.Test.YtglpkfkbbjbjjaaAlgMath
namespace Go.Proofs.Ytglpkfkbbjbjjaa
theorem cell_cases {x : Int} (h : cellB x = true) : x = -9999 ∨ (¬ x = -9999 ∧ valB x = true) := by
  rcases cellB_iff.1 h with h | h
  · exact .inl h
  · exact .inr ⟨by omega, valB_iff.2 h⟩
theorem back_cell {x y : Int} (hx : cellB x = true) (hy : cellB y = true) (hc : cellB (ofV (opF 1) x y) = true) :
    cellB (ofV (opF 2) (ofV (opF 1) x y) y) = true ∧ cellB (ofV (opF 3) x (ofV (opF 1) x y)) = true ∧
    ((ofV (opF 2) (ofV (opF 1) x y) y = -9999 ∧ ofV (opF 3) x (ofV (opF 1) x y) = -9999) ∨ (¬ ofV (opF 2) (ofV (opF 1) x y) y = -9999 ∧ ¬ ofV (opF 3) x (ofV (opF 1) x y) = -9999 ∧ ofV (opF 2) (ofV (opF 1) x y) y = x)) := by
  rcases cell_cases hx with rfl | ⟨hx1, hx2⟩
  · rw [ofV_gone (.inl rfl), ofV_gone (.inl rfl), ofV_gone (.inl rfl)]
    exact ⟨rfl, rfl, .inl ⟨rfl, rfl⟩⟩
  · rcases cell_cases hy with rfl | ⟨hy1, hy2⟩
    · rw [show ofV (opF 1) x (-9999) = -9999 from ofV_gone (.inr rfl), show ofV (opF 2) (-9999) (-9999) = -9999 from ofV_gone (.inl rfl), show ofV (opF 3) x (-9999) = -9999 from ofV_gone (.inr rfl)]
      exact ⟨rfl, rfl, .inl ⟨rfl, rfl⟩⟩
    · have hno : ¬ (x = -9999 ∨ y = -9999) := by intro h; rcases h with h | h; exact hx1 h; exact hy1 h
      rw [(ofV_cell _ _ _).1, fitV_val hno] at hc
      have e : ofV (opF 1) x y = x + y := by rw [ofV_yes hno hc]; rfl
      have hv := valB_iff.1 (show valB (x + y) = true from hc)
      have hvx := valB_iff.1 hx2
      rw [e]
      have hno2 : ¬ (x + y = -9999 ∨ y = -9999) := by intro h; rcases h with h | h; omega; exact hy1 h
      have hno3 : ¬ (x = -9999 ∨ x + y = -9999) := by intro h; rcases h with h | h; exact hx1 h; omega
      have v2 : valB (opF 2 (x + y) y) = true := valB_iff.2 (by show -9000 ≤ x + y - y ∧ x + y - y ≤ 9000; omega)
      have v3 : valB (opF 3 x (x + y)) = true := valB_iff.2 (by show -9000 ≤ min x (x + y) ∧ min x (x + y) ≤ 9000; omega)
      rw [(ofV_cell _ _ _).1, (ofV_cell _ _ _).1, fitV_val hno2, fitV_val hno3, ofV_yes hno2 v2, ofV_yes hno3 v3]
      refine ⟨v2, v3, .inr ⟨?_, ?_, ?_⟩⟩
      · show ¬ x + y - y = -9999; omega
      · show ¬ min x (x + y) = -9999; omega
      · show x + y - y = x; omega
theorem both_cell {x y : Int} (hx : cellB x = true) (hy : cellB y = true) :
    cellB (ofV (opF 3) x y) = true ∧ cellB (ofV (opF 4) x y) = true ∧ (ofV (opF 3) x y = -9999 ∨ (¬ ofV (opF 3) x y = -9999 ∧ ofV (opF 3) x y + ofV (opF 4) x y = x + y ∧ -20000 ≤ x + y ∧ x + y ≤ 20000)) := by
  rcases cell_cases hx with rfl | ⟨hx1, hx2⟩
  · rw [ofV_gone (.inl rfl), ofV_gone (.inl rfl)]
    exact ⟨rfl, rfl, .inl rfl⟩
  · rcases cell_cases hy with rfl | ⟨hy1, hy2⟩
    · rw [ofV_gone (.inr rfl), ofV_gone (.inr rfl)]
      exact ⟨rfl, rfl, .inl rfl⟩
    · have hno : ¬ (x = -9999 ∨ y = -9999) := by intro h; rcases h with h | h; exact hx1 h; exact hy1 h
      have hvx := valB_iff.1 hx2
      have hvy := valB_iff.1 hy2
      have v3 : valB (opF 3 x y) = true := valB_iff.2 (by show -9000 ≤ min x y ∧ min x y ≤ 9000; omega)
      have v4 : valB (opF 4 x y) = true := valB_iff.2 (by show -9000 ≤ max x y ∧ max x y ≤ 9000; omega)
      rw [(ofV_cell _ _ _).1, (ofV_cell _ _ _).1, fitV_val hno, ofV_yes hno v3]
      rw [fitV_val hno, ofV_yes hno v4]
      refine ⟨v3, v4, .inr ⟨?_, ?_, by omega, by omega⟩⟩
      · show ¬ min x y = -9999; omega
      · show min x y + max x y = x + y; omega
theorem zip_all {r : Int → Int → Int} {wd hg : Int} {a b : List Int} (h : sameB wd hg a wd hg b = true) (hc : ∀ k (h1 : k < a.length) (h2 : k < b.length), cellB (r a[k] b[k]) = true) : combR r wd hg a wd hg b = some (wd, hg, zipR r a b) ∧ goodB wd hg (zipR r a b) = true := by
  have hl := same_len h
  have hz := zipR_len r hl
  obtain ⟨h1, h2, -, -⟩ := same_iff.1 h
  have hg : goodB wd hg (zipR r a b) = true := by
    rw [good_of h1 hz, all_get]
    intro k hk
    rw [hz] at hk
    rw [zipR_get r k (by rw [hz]; exact hk) hk (by omega)]
    exact hc k hk (by omega)
  exact ⟨by rw [combR_yes h, cellsR_yes hg], hg⟩
theorem combine_no {op wa ha wb hb : Int} {la lb : List Int} (h : sameB wa ha la wb hb lb = false) : combineR op wa ha la wb hb lb = none := by
  unfold combineR
  split
  · exact combR_no h
  · rfl
theorem combine_some {op wd hg : Int} {a b : List Int} {p q : Int} {c : List Int} (hop : op = 1) (h : combineR op wd hg a wd hg b = some (p, q, c)) (hs : sameB wd hg a wd hg b = true) : p = wd ∧ q = hg ∧ c = zipR (ofV (opF 1)) a b ∧ goodB wd hg c = true := by
  subst hop
  unfold combineR at h
  rw [if_pos (by decide), combR_yes hs] at h
  unfold cellsR at h
  by_cases hgd : goodB wd hg (zipR (ofV (opF 1)) a b) = true
  · rw [if_pos hgd] at h
    injection h with h
    injection h with e1 h
    injection h with e2 e3
    subst e1 e2 e3
    exact ⟨rfl, rfl, rfl, hgd⟩
  · rw [if_neg hgd] at h
    cases h
/-- adding and taking away again -/
theorem add_back {wd hg : Int} {a b c : List Int} (hs : sameB wd hg a wd hg b = true) (hc : c = zipR (ofV (opF 1)) a b) (hg' : goodB wd hg c = true) :
    ∃ bk mk : List Int, combineR 2 wd hg c wd hg b = some (wd, hg, bk) ∧ combineR 3 wd hg a wd hg c = some (wd, hg, mk) ∧ bk.length = a.length ∧ mk.length = a.length ∧
      ∀ k (h1 : k < bk.length) (h2 : k < mk.length) (h3 : k < a.length), (bk[k] = -9999 ∧ mk[k] = -9999) ∨ (¬ bk[k] = -9999 ∧ ¬ mk[k] = -9999 ∧ bk[k] = a[k]) := by
  subst hc
  obtain ⟨ga, gb, -, -⟩ := same_iff.1 hs
  have hl := same_len hs
  have hz := zipR_len (ofV (opF 1)) hl
  have s2 := same_yes hg' gb
  have s3 := same_yes ga hg'
  have key : ∀ k (h : k < a.length), cellB (ofV (opF 2) (ofV (opF 1) a[k] (b[k]'(by omega))) (b[k]'(by omega))) = true ∧ cellB (ofV (opF 3) a[k] (ofV (opF 1) a[k] (b[k]'(by omega)))) = true ∧
      ((ofV (opF 2) (ofV (opF 1) a[k] (b[k]'(by omega))) (b[k]'(by omega)) = -9999 ∧ ofV (opF 3) a[k] (ofV (opF 1) a[k] (b[k]'(by omega))) = -9999) ∨ (¬ ofV (opF 2) (ofV (opF 1) a[k] (b[k]'(by omega))) (b[k]'(by omega)) = -9999 ∧ ¬ ofV (opF 3) a[k] (ofV (opF 1) a[k] (b[k]'(by omega))) = -9999 ∧ ofV (opF 2) (ofV (opF 1) a[k] (b[k]'(by omega))) (b[k]'(by omega)) = a[k])) := by
    intro k h
    refine back_cell (good_cell ga _ (List.getElem_mem h)) (good_cell gb _ (List.getElem_mem _)) ?_
    have h1 := good_cell hg' _ (List.getElem_mem (show k < (zipR (ofV (opF 1)) a b).length by omega))
    rwa [zipR_get _ k (by omega) h (by omega)] at h1
  have g2 : ∀ k (h1 : k < (zipR (ofV (opF 1)) a b).length) (h2 : k < b.length), cellB (ofV (opF 2) (zipR (ofV (opF 1)) a b)[k] b[k]) = true := by
    intro k h1 h2
    rw [zipR_get _ k h1 (by omega) h2]
    exact (key k (by omega)).1
  have g3 : ∀ k (h1 : k < a.length) (h2 : k < (zipR (ofV (opF 1)) a b).length), cellB (ofV (opF 3) a[k] (zipR (ofV (opF 1)) a b)[k]) = true := by
    intro k h1 h2
    rw [zipR_get _ k h2 h1 (by omega)]
    exact (key k h1).2.1
  refine ⟨_, _, (by unfold combineR; rw [if_pos (by decide)]; exact (zip_all s2 g2).1), (by unfold combineR; rw [if_pos (by decide)]; exact (zip_all s3 g3).1), by rw [zipR_len _ (by omega)]; omega, by rw [zipR_len _ (by omega)], ?_⟩
  intro k h1 h2 h3
  rw [zipR_get _ k h1 (by omega) (by omega), zipR_get _ k h2 h3 (by omega), zipR_get (ofV (opF 1)) k (by omega) h3 (by omega)]
  exact (key k h3).2.2
/-- the smaller and the greater values -/
theorem low_high {wd hg : Int} {a b : List Int} (hs : sameB wd hg a wd hg b = true) :
    ∃ x y : List Int, combineR 3 wd hg a wd hg b = some (wd, hg, x) ∧ combineR 4 wd hg a wd hg b = some (wd, hg, y) ∧ x.length = a.length ∧ y.length = a.length ∧ b.length = a.length ∧
      ∀ k (h1 : k < x.length) (h2 : k < y.length) (h3 : k < a.length) (h4 : k < b.length), x[k] = -9999 ∨ (¬ x[k] = -9999 ∧ x[k] + y[k] = a[k] + b[k] ∧ -20000 ≤ a[k] + b[k] ∧ a[k] + b[k] ≤ 20000) := by
  obtain ⟨ga, gb, -, -⟩ := same_iff.1 hs
  have hl := same_len hs
  have key := fun k (h : k < a.length) => both_cell (good_cell ga _ (List.getElem_mem h)) (good_cell gb _ (List.getElem_mem (show k < b.length by omega)))
  refine ⟨_, _, (by unfold combineR; rw [if_pos (by decide)]; exact (zip_all hs (fun k h1 h2 => (key k h1).1)).1), (by unfold combineR; rw [if_pos (by decide)]; exact (zip_all hs (fun k h1 h2 => (key k h1).2.1)).1), zipR_len _ hl, zipR_len _ hl, hl.symm, ?_⟩
  intro k h1 h2 h3 h4
  rw [zipR_get _ k h1 h3 h4, zipR_get _ k h2 h3 h4]
  exact (key k h3).2.2
end Go.Proofs.Ytglpkfkbbjbjjaa
