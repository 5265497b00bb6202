/- Folding numbers, as plain mathematics. -/
import Derived.Test.YtikglddifoalfaaDoorEvalMath
import Derived.Test.YtikglddifoalfaaDoorUsedSpec2
namespace Go.Proofs.YtikglddifoalfaaDoor
set_option linter.unusedVariables false
def lastN (f : List Nd) (j : Nat) : Nd := f.getD (f.length - j) (0, 0)
/-- what a node with numbers before it becomes, and how many nodes before it go -/
def foldV (f : List Nd) (p : Nd) : Option (Int × Nat) :=
  if p.1 = 7 then (if 1 ≤ f.length ∧ (lastN f 1).1 = 2 then some (if p.2 < (lastN f 1).2 then 1 else 0, 1) else none)
  else if arity p.1 p.2 = some 2 ∧ 2 ≤ f.length ∧ (lastN f 1).1 = 2 ∧ (lastN f 2).1 = 2 ∧ 0 ≤ opF (p.1 - 2) (lastN f 2).2 (lastN f 1).2 ∧ opF (p.1 - 2) (lastN f 2).2 (lastN f 1).2 ≤ 9000 then some (opF (p.1 - 2) (lastN f 2).2 (lastN f 1).2, 2) else none
def foldX (f : List Nd) (p : Nd) : List Nd := match foldV f p with
  | some (n, m) => f.take (f.length - m) ++ [(2, n)]
  | none => f ++ [p]
def foldL (l : List Nd) : List Nd := l.foldl foldX []
theorem foldL_step {l : List Nd} {k : Nat} (h : k < l.length) : foldL (l.take (k + 1)) = foldX (foldL (l.take k)) l[k] := by
  unfold foldL; rw [List.take_succ_eq_append_getElem h, List.foldl_append]; rfl
theorem foldX_some {f : List Nd} {p : Nd} {n : Int} {m : Nat} (h : foldV f p = some (n, m)) : foldX f p = f.take (f.length - m) ++ [(2, n)] := by unfold foldX; rw [h]
theorem foldX_none {f : List Nd} {p : Nd} (h : foldV f p = none) : foldX f p = f ++ [p] := by unfold foldX; rw [h]
theorem foldV_facts {f : List Nd} {p : Nd} {n : Int} {m : Nat} (h : foldV f p = some (n, m)) : 1 ≤ m ∧ m ≤ 2 ∧ m ≤ f.length ∧ 0 ≤ n ∧ n ≤ 9000 ∧ (p.1 = 7 ∧ m = 1 ∨ arity p.1 p.2 = some 2 ∧ m = 2) ∧ ∀ j, 1 ≤ j → j ≤ m → (lastN f j).1 = 2 := by
  unfold foldV at h
  split at h
  · rename_i h7
    split at h
    · rename_i h1
      injection h with h
      injection h with h2 h3
      subst h3
      refine ⟨by omega, by omega, h1.1, ?_, ?_, .inl ⟨h7, rfl⟩, fun j j1 j2 => ?_⟩
      · rw [← h2]; split <;> omega
      · rw [← h2]; split <;> omega
      · obtain rfl : j = 1 := by omega
        exact h1.2
    · cases h
  · split at h
    · rename_i h1
      obtain ⟨a1, a2, a3, a4, a5, a6⟩ := h1
      injection h with h
      injection h with h2 h3
      subst h3
      rw [h2] at a5 a6
      refine ⟨by omega, by omega, a2, a5, a6, .inr ⟨a1, rfl⟩, fun j j1 j2 => ?_⟩
      have : j = 1 ∨ j = 2 := by omega
      rcases this with rfl | rfl
      · exact a3
      · exact a4
    · cases h
theorem foldV_num (f : List Nd) (n : Int) : foldV f (2, n) = none := by
  unfold foldV
  rw [if_neg (by show ¬ (2 : Int) = 7; omega), if_neg]
  rintro ⟨h, _⟩
  have := arity2 h
  omega
theorem foldX_len (f : List Nd) (p : Nd) : (foldX f p).length ≤ f.length + 1 := by
  cases h : foldV f p with
  | none => rw [foldX_none h]; simp
  | some r => obtain ⟨n, m⟩ := r; rw [foldX_some h]; simp only [List.length_append, List.length_take, List.length_singleton]; omega
/-- nothing in f is left to fold -/
def Unf (f : List Nd) : Prop := ∀ i (h : i < f.length), foldV (f.take i) f[i] = none
theorem unf_nil : Unf [] := fun i h => by simp at h
theorem unf_step {f : List Nd} (h : Unf f) (p : Nd) : Unf (foldX f p) := by
  cases hv : foldV f p with
  | none =>
    rw [foldX_none hv]
    intro i hi
    rw [List.length_append, List.length_singleton] at hi
    by_cases e : i < f.length
    · rw [List.getElem_append_left e, List.take_append_of_le_length (by omega)]
      exact h i e
    · obtain rfl : i = f.length := by omega
      rw [List.getElem_append_right (Nat.le_refl _)]
      simp only [Nat.sub_self, List.getElem_cons_zero]
      rw [List.take_append_of_le_length (Nat.le_refl _), List.take_length]
      exact hv
  | some r =>
    obtain ⟨n, m⟩ := r
    rw [foldX_some hv]
    obtain ⟨h1, h2, h3, _⟩ := foldV_facts hv
    have hl : (f.take (f.length - m)).length = f.length - m := by rw [List.length_take]; omega
    intro i hi
    rw [List.length_append, List.length_singleton, hl] at hi
    by_cases e : i < f.length - m
    · rw [List.getElem_append_left (by omega), List.take_append_of_le_length (by omega), List.getElem_take, List.take_take, Nat.min_eq_left (by omega)]
      exact h i (by omega)
    · obtain rfl : i = f.length - m := by omega
      rw [List.getElem_append_right (by omega)]
      simp only [hl, Nat.sub_self, List.getElem_cons_zero]
      exact foldV_num _ _
theorem opens_take {l : List Nd} {k m : Nat} (h : opens l 0 = some m) : ∃ n, opens (l.take k) 0 = some n ∧ opens (l.drop k) n = some m := by
  rw [← List.take_append_drop k l, opens_append] at h
  cases ho : opens (l.take k) 0 with
  | none => rw [ho] at h; cases h
  | some n => rw [ho] at h; exact ⟨n, rfl, h⟩
/-- behind one node as many expressions stand, folded or not -/
theorem fold_opens {f : List Nd} {p : Nd} {o a : Nat} (h : opens f 0 = some o) (ha : arity p.1 p.2 = some a) (hle : a ≤ o) : opens (foldX f p) 0 = some (o - a + 1) := by
  cases hv : foldV f p with
  | none =>
    rw [foldX_none hv, opens_append, h]
    show opens [p] o = _
    rw [opens_one, ha]
    exact if_pos hle
  | some r =>
    obtain ⟨n, m⟩ := r
    rw [foldX_some hv]
    obtain ⟨h1, h2, h3, h4, h5, h6, h7⟩ := foldV_facts hv
    have hn : arity 2 n = some 0 := by unfold arity; rw [if_neg (by omega), if_pos rfl, if_pos ⟨h4, h5⟩]
    have ham : a = m := by
      rcases h6 with ⟨e1, e2⟩ | ⟨e1, e2⟩
      · have : arity 7 p.2 = some a := by rw [← e1]; exact ha
        unfold arity at this
        rw [if_neg (by omega), if_neg (by omega), if_pos rfl] at this
        split at this
        · injection this with this; omega
        · cases this
      · rw [e1] at ha; injection ha with ha; omega
    subst ham
    have hall := opens_all f 0 o h
    have num : ∀ q ∈ f, q.1 = 2 → arity q.1 q.2 = some 0 := by
      intro q hq h2
      have h9 := hall q hq
      rw [h2] at h9 ⊢
      unfold arity at h9 ⊢
      rw [if_neg (by omega), if_pos rfl] at h9 ⊢
      split at h9
      · rename_i hc; rw [if_pos hc]
      · exact absurd rfl h9
    have one : ∀ (g : List Nd) (q : Nd) (x : Nat), arity q.1 q.2 = some 0 → opens (g ++ [q]) 0 = some x → 1 ≤ x ∧ opens g 0 = some (x - 1) := by
      intro g q x hq hg
      rw [opens_append] at hg
      cases hy : opens g 0 with
      | none => rw [hy] at hg; cases hg
      | some y =>
        rw [hy] at hg
        have hg2 : opens [q] y = some x := hg
        rw [opens_one, hq] at hg2
        simp only [Nat.zero_le, if_true, Nat.sub_zero] at hg2
        injection hg2 with hg2
        exact ⟨by omega, by congr 1; omega⟩
    have back : ∀ (g : List Nd) (x : Nat), g ≠ [] → (g.getD (g.length - 1) (0, 0)).1 = 2 → (∀ q ∈ g, q ∈ f) → opens g 0 = some x → 1 ≤ x ∧ opens (g.take (g.length - 1)) 0 = some (x - 1) := by
      intro g x hg hl hs ho
      have hp := List.length_pos_iff.2 hg
      have e : g = g.take (g.length - 1) ++ [g.getD (g.length - 1) (0, 0)] := by
        have h9 := List.take_succ_eq_append_getElem (l := g) (i := g.length - 1) (by omega)
        rw [show g.length - 1 + 1 = g.length by omega, List.take_length] at h9
        conv => lhs; rw [h9]
        congr 2
        simp [List.getD_eq_getElem?_getD, show g.length - 1 < g.length by omega]
      have hm : g.getD (g.length - 1) (0, 0) ∈ g := by
        rw [List.getD_eq_getElem?_getD, List.getElem?_eq_getElem (by omega), Option.getD_some]
        exact List.getElem_mem _
      rw [e] at ho
      exact one _ _ x (num _ (hs _ hm) hl) ho
    have fin : ∀ x, opens (f.take (f.length - a)) 0 = some x → opens (f.take (f.length - a) ++ [(2, n)]) 0 = some (x + 1) := by
      intro x hx
      rw [opens_append, hx]
      show opens [(2, n)] x = _
      rw [opens_one, hn]
      simp
    have hne : f ≠ [] := by intro e; rw [e] at h3; simp at h3; omega
    obtain ⟨x1, hx⟩ := back f o hne (h7 1 (by omega) h1) (fun q hq => hq) h
    have hma : a = 1 ∨ a = 2 := by omega
    rcases hma with rfl | rfl
    · exact fin _ hx
    · have hl1 : (f.take (f.length - 1)).length = f.length - 1 := by rw [List.length_take]; omega
      have h72 := h7 2 (by omega) (by omega)
      obtain ⟨x2, hy⟩ := back (f.take (f.length - 1)) (o - 1) (by intro e; have := congrArg List.length e; rw [hl1, List.length_nil] at this; omega) (by
        rw [hl1]
        unfold lastN at h72
        rw [List.getD_eq_getElem?_getD, List.getElem?_take, if_pos (by omega)]
        rw [List.getD_eq_getElem?_getD] at h72
        exact h72) (fun q hq => List.mem_of_mem_take hq) hx
      rw [hl1, List.take_take, Nat.min_eq_left (by omega), show f.length - 1 - 1 = f.length - 2 by omega] at hy
      have h8 := fin _ hy
      rw [h8]
      congr 1
      try omega
theorem foldL_opens {l : List Nd} {m : Nat} (h : opens l 0 = some m) : ∀ k, k ≤ l.length → opens (foldL (l.take k)) 0 = opens (l.take k) 0
  | 0, _ => rfl
  | k + 1, hk => by
    obtain ⟨n, hn, hn2⟩ := opens_take (k := k) h
    have ih := foldL_opens h k (by omega)
    rw [hn] at ih
    have hlt : k < l.length := by omega
    rw [List.drop_eq_getElem_cons hlt] at hn2
    have h1 : opens ([l[k]] ++ l.drop (k + 1)) n = some m := hn2
    rw [opens_append, opens_one] at h1
    cases ha : arity l[k].1 l[k].2 with
    | none => rw [ha] at h1; cases h1
    | some a =>
      rw [ha] at h1
      by_cases hle : a ≤ n
      · rw [foldL_step hlt, fold_opens ih ha hle, opens_step hlt hn ha hle]
      · simp only [hle, if_false] at h1; cases h1
def foldR (l : List Nd) : List Nd := if exprB l = true then foldL l else []
theorem foldL_len (l : List Nd) : ∀ k, (foldL (l.take k)).length ≤ k
  | 0 => by simp [foldL]
  | k + 1 => by
    by_cases h : k < l.length
    · rw [foldL_step h]
      have := foldX_len (foldL (l.take k)) l[k]
      have := foldL_len l k
      omega
    · have : l.take (k + 1) = l.take k := by rw [List.take_of_length_le (by omega), List.take_of_length_le (by omega)]
      rw [this]
      have := foldL_len l k
      omega
theorem foldR_len (l : List Nd) : (foldR l).length ≤ 15 := by
  unfold foldR
  split
  · rename_i h
    have h1 := foldL_len l l.length
    rw [List.take_length] at h1
    unfold exprB at h
    simp only [Bool.and_eq_true, decide_eq_true_eq] at h
    omega
  · simp
end Go.Proofs.YtikglddifoalfaaDoor
