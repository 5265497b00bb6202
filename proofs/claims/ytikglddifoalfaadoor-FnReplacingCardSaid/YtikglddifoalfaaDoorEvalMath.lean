/- The value of a tree for fields, as a plain function. -/
import Derived.Test.YtikglddifoalfaaDoorAlgMath
import Derived.Test.YtikglddifoalfaaDoorNodeMath
import Derived.Test.YtikglddifoalfaaDoorMake
import Derived.Test.YtikglddifoalfaaDoorNew
namespace Go.Proofs.YtikglddifoalfaaDoor
abbrev Fv := Int × Int × List Int
def evalT (fs : List Fv) : ET → Option Fv
  | .n0 k v => if k = 1 then fs[v.toNat]? else newR (fs.headD (0, 0, [])).1 (fs.headD (0, 0, [])).2.1 v
  | .n1 _ v x => (evalT fs x).bind fun f => exceedsR f.1 f.2.1 f.2.2 v
  | .n2 k _ x y => (evalT fs x).bind fun a => (evalT fs y).bind fun b => combineR (k - 2) a.1 a.2.1 a.2.2 b.1 b.2.1 b.2.2
theorem arity0 {k v : Int} (h : arity k v = some 0) : (k = 1 ∧ 0 ≤ v ∧ v ≤ 3) ∨ (k = 2 ∧ 0 ≤ v ∧ v ≤ 9000) := by
  unfold arity at h
  repeat' split at h
  all_goals first | omega | (exfalso; simp at h)
theorem arity1 {k v : Int} (h : arity k v = some 1) : k = 7 ∧ 0 ≤ v ∧ v ≤ 9000 := by
  unfold arity at h
  repeat' split at h
  all_goals first | omega | (exfalso; simp at h)
theorem arity2 {k v : Int} (h : arity k v = some 2) : 3 ≤ k ∧ k ≤ 6 ∧ v = 0 := by
  unfold arity at h
  repeat' split at h
  all_goals first | omega | (exfalso; simp at h)
/-- all valid, of the sizes given -/
def allF (wd hg : Int) (fs : List Fv) : Prop := ∀ f ∈ fs, f.1 = wd ∧ f.2.1 = hg ∧ goodB wd hg f.2.2 = true
theorem combine_good {op wa ha wb hb : Int} {la lb : List Int} {r : Fv} (h : combineR op wa ha la wb hb lb = some r) : r.1 = wa ∧ r.2.1 = ha ∧ goodB wa ha r.2.2 = true := by
  unfold combineR at h
  split at h
  · cases hs : sameB wa ha la wb hb lb with
    | false => rw [combR_no hs] at h; cases h
    | true =>
      rw [combR_yes hs] at h
      cases hg : goodB wa ha (zipR (ofV (opF op)) la lb) with
      | false => rw [cellsR_no hg] at h; cases h
      | true => rw [cellsR_yes hg] at h; injection h with h; subst h; exact ⟨rfl, rfl, hg⟩
  · cases h
theorem exceeds_is {wd hg : Int} {l : List Int} (v : Int) (h : goodB wd hg l = true) : exceedsR wd hg l v = some (wd, hg, zipR (ofV fun a _ => exF v a) l l) ∧ goodB wd hg (zipR (ofV fun a _ => exF v a) l l) = true := by
  have hs := same_yes h h
  have hc := one_cell (exF_bd v)
  exact ⟨comb_cells hc hs, zip_cells hc hs⟩
theorem eval_good {fs : List Fv} {wd hg : Int} (hn : fs ≠ []) (hf : allF wd hg fs) : ∀ (t : ET), t.ok → ∀ r, evalT fs t = some r → r.1 = wd ∧ r.2.1 = hg ∧ goodB wd hg r.2.2 = true := by
  obtain ⟨f0, fr, rfl⟩ := List.exists_cons_of_ne_nil hn
  intro t
  induction t with
  | n0 k v =>
    intro hok r h
    unfold evalT at h
    by_cases hk : k = 1
    · rw [if_pos hk] at h
      exact hf r (List.mem_of_getElem? h)
    · rw [if_neg hk] at h
      have h0 := hf f0 (by simp)
      simp only [List.headD_cons] at h
      unfold newR at h
      split at h
      · rename_i hc
        injection h with h
        subst h
        rw [h0.1, h0.2.1]
        simp only [Bool.and_eq_true] at hc
        rw [h0.1, h0.2.1] at hc
        refine ⟨rfl, rfl, ?_⟩
        have hl := good_len h0.2.2
        unfold goodB
        simp only [Bool.and_eq_true, decide_eq_true_eq, List.length_replicate, List.all_eq_true]
        refine ⟨⟨hc.1, by omega⟩, fun z hz => ?_⟩
        rw [List.mem_replicate] at hz
        rw [hz.2]; exact hc.2
      · cases h
  | n1 k v x ih =>
    intro hok r h
    unfold evalT at h
    rw [Option.bind_eq_some_iff] at h
    obtain ⟨f, h1, h2⟩ := h
    obtain ⟨g1, g2, g3⟩ := ih hok.2 f h1
    rw [g1, g2, (exceeds_is v g3).1] at h2
    injection h2 with h2
    subst h2
    exact ⟨rfl, rfl, (exceeds_is v g3).2⟩
  | n2 k v x y ih1 ih2 =>
    intro hok r h
    unfold evalT at h
    rw [Option.bind_eq_some_iff] at h
    obtain ⟨a, h1, h2⟩ := h
    rw [Option.bind_eq_some_iff] at h2
    obtain ⟨b, h3, h4⟩ := h2
    obtain ⟨g1, g2, g3⟩ := ih1 hok.2.1 a h1
    have h5 := combine_good h4
    rw [g1, g2] at h5
    exact h5
/-- what Evaluate answers -/
def fieldsB (fs : List Fv) : Bool := decide (1 ≤ fs.length) && decide (fs.length ≤ 4) && fs.all fun f => sameB f.1 f.2.1 f.2.2 (fs.headD (0, 0, [])).1 (fs.headD (0, 0, [])).2.1 (fs.headD (0, 0, [])).2.2
theorem fieldsB_iff {fs : List Fv} : fieldsB fs = true ↔ (1 ≤ fs.length ∧ fs.length ≤ 4) ∧ ∀ f ∈ fs, sameB f.1 f.2.1 f.2.2 (fs.headD (0, 0, [])).1 (fs.headD (0, 0, [])).2.1 (fs.headD (0, 0, [])).2.2 = true := by
  unfold fieldsB; simp
theorem fieldsB_short {fs : List Fv} (h : fs.length < 1 ∨ 4 < fs.length) : fieldsB fs = false := by
  cases hb : fieldsB fs with
  | false => rfl
  | true => have := (fieldsB_iff.1 hb).1; omega
theorem fieldsB_bad {fs : List Fv} {j : Nat} (hj : j < fs.length) (h : sameB fs[j].1 fs[j].2.1 fs[j].2.2 (fs.headD (0, 0, [])).1 (fs.headD (0, 0, [])).2.1 (fs.headD (0, 0, [])).2.2 = false) : fieldsB fs = false := by
  cases hb : fieldsB fs with
  | false => rfl
  | true => have := (fieldsB_iff.1 hb).2 _ (List.getElem_mem hj); rw [h] at this; cases this
theorem fieldsB_all {fs : List Fv} (h : ∀ j (hj : j < fs.length), sameB fs[j].1 fs[j].2.1 fs[j].2.2 (fs.headD (0, 0, [])).1 (fs.headD (0, 0, [])).2.1 (fs.headD (0, 0, [])).2.2 = true) : fieldsB fs = (decide (1 ≤ fs.length) && decide (fs.length ≤ 4)) := by
  unfold fieldsB
  have : (fs.all fun f => sameB f.1 f.2.1 f.2.2 (fs.headD (0, 0, [])).1 (fs.headD (0, 0, [])).2.1 (fs.headD (0, 0, [])).2.2) = true := by
    rw [List.all_eq_true]
    intro f hf
    obtain ⟨j, hj, rfl⟩ := List.getElem_of_mem hf
    exact h j hj
  rw [this, Bool.and_true]
theorem fields_allF {fs : List Fv} (h : fieldsB fs = true) : fs ≠ [] ∧ allF (fs.headD (0, 0, [])).1 (fs.headD (0, 0, [])).2.1 fs := by
  obtain ⟨⟨h1, _⟩, h2⟩ := fieldsB_iff.1 h
  refine ⟨by rintro rfl; simp at h1, fun f hf => ?_⟩
  obtain ⟨g1, g2, g3, g4⟩ := same_iff.1 (h2 f hf)
  exact ⟨g3, g4, by rw [← g3, ← g4]; exact g1⟩
def evalR (l : List Nd) (fs : List Fv) : Option Fv := if fieldsB fs = true then (treeT l).bind (evalT fs) else none
end Go.Proofs.YtikglddifoalfaaDoor
