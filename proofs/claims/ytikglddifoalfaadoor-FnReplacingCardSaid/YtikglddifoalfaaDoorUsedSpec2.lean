/- The model's FieldsUsed: the walk. -/
import Derived.Test.YtikglddifoalfaaDoorUsedSpec
namespace Go.Proofs.YtikglddifoalfaaDoor
open Go.RowKit
set_option linter.unusedVariables false
set_option linter.unusedSimpArgs false
theorem opens_all : ∀ (l : List Nd) (n m : Nat), opens l n = some m → ∀ p ∈ l, arity p.1 p.2 ≠ none := by
  intro l
  induction l with
  | nil => intro n m _ p hp; simp at hp
  | cons q r ih =>
    intro n m h p hp
    unfold opens at h
    cases ha : arity q.1 q.2 with
    | none => rw [ha] at h; cases h
    | some a =>
      rw [ha] at h
      simp only at h
      by_cases hn : a ≤ n
      · rw [if_pos hn] at h
        rcases List.mem_cons.1 hp with rfl | hp
        · rw [ha]; simp
        · exact ih _ _ h p hp
      · rw [if_neg hn] at h; cases h
theorem expr_field {l : List Nd} (h : exprB l = true) {k : Nat} (hk : k < l.length) (h1 : l[k].1 = 1) : 0 ≤ l[k].2 ∧ l[k].2 ≤ 3 := by
  unfold exprB at h
  simp only [Bool.and_eq_true, decide_eq_true_eq] at h
  have e := opens_all l 0 1 h.2 l[k] (List.getElem_mem hk)
  rw [h1] at e
  unfold arity at e
  rw [if_pos rfl] at e
  by_cases q : 0 ≤ l[k].2 ∧ l[k].2 ≤ 3
  · exact q
  · rw [if_neg q] at e; exact absurd rfl e
theorem own_less {w : World} {b b' e n : Nat} {v : Value} {xs : List Value} (h : w.ownsRow b e 1 v n xs) (hb : b' ≤ b) : w.ownsRow b' e 1 v n xs :=
  ⟨h.1, h.2.imp id (fun ⟨g, cap, cur, x, y, r⟩ => ⟨g, cap, cur, x, Nat.le_trans hb y, r⟩)⟩
theorem own_facts {w : World} {B g c : Nat} {L : List Int} (h : w.ownsRow B 3 1 (.slice (some ⟨g, 0, none⟩) L.length c) L.length (iv L)) : g < w.heap.size ∧ L.length ≤ c ∧ ∀ j (hj : j < L.length), w.cell? ⟨g, j, none⟩ = some (.int .i64 L[j]) := by
  have hlt := (h.lt g rfl).2
  have hc := fun j u => h.cells (g := g) rfl j u
  obtain ⟨_, ⟨e, _⟩ | ⟨g', cap, cur, e, _, _, hcap, _⟩⟩ := h
  · cases e
  · injection e with e1 e2 e3
    subst e3
    refine ⟨hlt, hcap, fun j hj => ?_⟩
    have h1 := hc j (.int .i64 L[j]) (by rw [List.getElem?_eq_getElem (by rw [iv_length]; exact hj), iv_get])
    have hadd : (⟨g, 0, none⟩ : Addr).add j = ⟨g, j, none⟩ := by unfold Addr.add; split <;> simp_all
    rw [hadd] at h1
    exact h1
end Go.Proofs.YtikglddifoalfaaDoor
