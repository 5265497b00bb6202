/- The mathematics of the model's RegionParts: a group that grows, its cells inserted in order. -/
import Derived.Test.YthceffkkokgpnaaRpMath
namespace Go.Proofs.Ythceffkkokgpnaa
set_option linter.unusedVariables false
set_option linter.unusedSimpArgs false
theorem nodup_sub_len : ∀ {a b : List Int}, a.Nodup → (∀ x ∈ a, x ∈ b) → a.length ≤ b.length
  | [], _, _, _ => Nat.zero_le _
  | x :: a, b, hn, h => by
    rw [List.nodup_cons] at hn
    have hx := h x (by simp)
    have h1 := nodup_sub_len (b := b.erase x) hn.2 fun y hy => by
      have hne : y ≠ x := by rintro rfl; exact hn.1 hy
      exact (List.mem_erase_of_ne hne).2 (h y (by simp [hy]))
    rw [List.length_erase_of_mem hx] at h1
    have := List.length_pos_of_mem hx
    simp only [List.length_cons]
    omega
/-- a group: the cells before 'at' are closed, of the cell at 'at' the first kk cells of l are asked -/
structure Gp (wd : Int) (l : List Int) (f : Int) (G : List Int) (p kk : Nat) : Prop where
  nd : G.Nodup
  ch : ∀ b ∈ G, Ch wd l f b
  fst : f ∈ G
  clo : ∀ i (hi : i < G.length), i < p → ∀ c ∈ l, besB wd G[i] c = true → c ∈ G
  cur : ∀ (h : p < G.length) j (hj : j < l.length), j < kk → besB wd G[p] l[j] = true → l[j] ∈ G
section
variable {wd f : Int} {l G : List Int} {p kk : Nat}
theorem Gp.start (h : f ∈ l) : Gp wd l f [f] 0 0 :=
  ⟨by simp, fun b hb => by rw [List.mem_singleton] at hb; subst hb; exact .here h, by simp, fun i _ hi => by omega, fun _ j _ hj => by omega⟩
theorem Gp.len (h : Gp wd l f G p kk) : G.length ≤ l.length := nodup_sub_len h.nd fun b hb => (h.ch b hb).mem
theorem Gp.skip (h : Gp wd l f G p kk) (hp : p < G.length) (hk : kk < l.length) (hno : l[kk] ∈ G ∨ besB wd G[p] l[kk] = false) : Gp wd l f G p (kk + 1) :=
  ⟨h.nd, h.ch, h.fst, h.clo, fun hp' j hj hlt hb => by
    rcases Nat.lt_or_ge j kk with h1 | h1
    · exact h.cur hp' j hj h1 hb
    · have e : j = kk := by omega
      subst e
      rcases hno with h2 | h2
      · exact h2
      · rw [h2] at hb; cases hb⟩
theorem Gp.add (h : Gp wd l f G p kk) (hp : p < G.length) (hk : kk < l.length) (hno : l[kk] ∉ G) (hb : besB wd G[p] l[kk] = true) : Gp wd l f (G ++ [l[kk]]) p (kk + 1) := by
  refine ⟨?_, fun b hb' => ?_, List.mem_append_left _ h.fst, fun i hi hlt c hc hbc => ?_, fun hp' j hj hlt hbj => ?_⟩
  · rw [List.nodup_append]
    refine ⟨h.nd, by simp, fun a ha b hb' => ?_⟩
    rw [List.mem_singleton] at hb'
    subst hb'
    intro e; subst e; exact hno ha
  · rcases List.mem_append.1 hb' with h1 | h1
    · exact h.ch b h1
    · rw [List.mem_singleton] at h1
      subst h1
      exact .step (h.ch _ (List.getElem_mem hp)) (List.getElem_mem hk) hb
  · have hi2 : i < G.length := by omega
    rw [List.getElem_append_left hi2] at hbc
    exact List.mem_append_left _ (h.clo i hi2 hlt c hc hbc)
  · rw [List.getElem_append_left hp] at hbj
    rcases Nat.lt_or_ge j kk with h1 | h1
    · exact List.mem_append_left _ (h.cur hp j hj h1 hbj)
    · have e : j = kk := by omega
      subst e; simp
theorem Gp.next (h : Gp wd l f G p l.length) (hp : p < G.length) : Gp wd l f G (p + 1) 0 :=
  ⟨h.nd, h.ch, h.fst, fun i hi hlt c hc hbc => by
    rcases Nat.lt_or_ge i p with h1 | h1
    · exact h.clo i hi h1 c hc hbc
    · have e : i = p := by omega
      subst e
      obtain ⟨j, hj, rfl⟩ := List.getElem_of_mem hc
      exact h.cur hi j hj hj hbc, fun _ j _ hj => by omega⟩
theorem Gp.all (h : Gp wd l f G G.length kk) (b : Int) : b ∈ G ↔ b ∈ compL wd l f :=
  comp_of h.ch h.fst (fun b hb c hc hbc => by
    obtain ⟨i, hi, rfl⟩ := List.getElem_of_mem hb
    exact h.clo i hi hi c hc hbc) b
end
/-- the next cell of a group inserted -/
theorem so_put {G S L : List Int} {k k' : Nat} (hS : S.Pairwise (· < ·)) (hm : ∀ b, b ∈ S ↔ b ∈ G.take k) (nd : G.Nodup) (hk : k < G.length) (hk' : k' ≤ S.length) (h1 : ∀ j (h : j < S.length), j < k' → S[j] < G[k])
    (h2 : (∃ h : k' < S.length, S[k'] = G[k] ∧ L = S) ∨ ((∀ h : k' < S.length, ¬ S[k'] < G[k] ∧ ¬ S[k'] = G[k]) ∧ L = S.take k' ++ [G[k]] ++ S.drop k')) :
    L = S.take k' ++ [G[k]] ++ S.drop k' ∧ ¬ (L = S) ∧ L.Pairwise (· < ·) ∧ ∀ b, b ∈ L ↔ b ∈ G.take (k + 1) := by
  have hno : G[k] ∉ S := by
    rw [hm]
    intro h
    obtain ⟨j, hj, e⟩ := List.getElem_of_mem h
    rw [List.length_take] at hj
    rw [List.getElem_take] at e
    exact List.pairwise_iff_getElem.1 nd j k (by omega) hk (by omega) e
  rcases h2 with ⟨h, e, _⟩ | ⟨h2, rfl⟩
  · exact absurd (e ▸ List.getElem_mem h) hno
  · refine ⟨rfl, fun e => ?_, ?_, fun b => ?_⟩
    · have := congrArg List.length e
      simp at this; omega
    · have hsp := hS
      rw [← List.take_append_drop k' S, List.pairwise_append] at hsp
      obtain ⟨p1, p2, p3⟩ := hsp
      have q1 : ∀ a ∈ S.take k', a < G[k] := fun a ha => by
        obtain ⟨j, hj, rfl⟩ := List.getElem_of_mem ha
        rw [List.length_take] at hj
        rw [List.getElem_take]
        exact h1 j (by omega) (by omega)
      have q2 : ∀ a ∈ S.drop k', G[k] < a := fun a ha => by
        obtain ⟨j, hj, rfl⟩ := List.getElem_of_mem ha
        rw [List.length_drop] at hj
        rw [List.getElem_drop]
        have h3 := h2 (by omega)
        rcases Nat.eq_zero_or_pos j with rfl | hj0
        · simp only [Nat.add_zero]; omega
        · have := List.pairwise_iff_getElem.1 hS k' (k' + j) (by omega) (by omega) (by omega)
          omega
      rw [List.append_assoc, List.pairwise_append]
      refine ⟨p1, ?_, fun a ha b hb => ?_⟩
      · rw [List.singleton_append, List.pairwise_cons]
        exact ⟨q2, p2⟩
      · rw [List.singleton_append] at hb
        rcases List.mem_cons.1 hb with rfl | hb
        · exact q1 a ha
        · exact p3 a ha b hb
    · rw [List.take_succ_eq_append_getElem hk, List.mem_append (t := [G[k]]), ← hm b]
      have e : (b ∈ S) ↔ (b ∈ S.take k' ∨ b ∈ S.drop k') := by
        rw [← List.mem_append, List.take_append_drop]
      simp only [List.mem_append, List.mem_singleton]
      rw [e]
      constructor
      · rintro ((h | h) | h)
        · exact .inl (.inl h)
        · exact .inr h
        · exact .inl (.inr h)
      · rintro ((h | h) | h)
        · exact .inl (.inl h)
        · exact .inr h
        · exact .inl (.inr h)
end Go.Proofs.Ythceffkkokgpnaa
