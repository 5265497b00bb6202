/- A slice of slices of storms, opened. -/
import Derived.Test.YthceffkkokgpnaaLs
import Derived.Test.YthceffkkokgpnaaStsOpen
namespace Go.Proofs.Ythceffkkokgpnaa
open Go.ChangeShapes Go.WideShapes Go.RowKit
set_option linter.unusedVariables false
theorem open_rows {H : Type} {enc : TypeId × Value → H} {P : Program} {w : World} {base : Nat} {spare : Nat → Bool} {held : Bool} {t e : TypeId} {fuel : Nat} {cs : List Value} {x : DataW H × List MemPlace}
    (ht : P.underlying t = some (.slice e)) (ce : P.cellsOf e = 1) (h : DataW.trod enc P w base spare held fuel t cs = some x) :
    cs = [.slice none 0 0] ∨ ∃ (a : Addr) (len cap n : Nat), cs = [.slice (some a) len cap] ∧ len ≤ cap ∧ cap ≤ maxLen ∧
      ∀ i, i < len → ∃ (v : Value) (y : DataW H × List MemPlace), w.cell? (a.add i) = some v ∧ DataW.trod enc P w base spare held n e [v] = some y := by
  rcases Go.Deep.open_slice ht h with h0 | ⟨a, len, cap, m, n, D, Pl, rfl, hb, hl, hm, hmm, rfl, hx⟩
  · exact Or.inl h0.1
  right
  have hlm : len ≤ m := by rw [hmm]; split <;> omega
  refine ⟨a, len, cap, n, rfl, hl, hm, fun i hi => ?_⟩
  obtain ⟨cs', h1, h2⟩ := hx i (by omega)
  rw [ce, Nat.mul_one] at h1
  obtain ⟨_, hlen, hcell⟩ := World.cells?_some h1
  match cs', hlen with
  | [v], _ =>
    have e0 := hcell 0 (by omega)
    rw [Go.Deep.add_add] at e0
    exact ⟨v, _, by simpa using e0, h2⟩
theorem lss_of {W : World} {x : Addr} {len : Nat} (h : ∀ i, i < len → ∃ E : LE, W.cell? (x.add i) = some (.slice E.a E.l.length E.c) ∧ Sts W W.heap.size E.a E.l ∧ E.l.length ≤ maxLen) :
    ∃ L : List LE, L.length = len ∧ Lss W W.heap.size (some x) L ∧ ∀ e ∈ L, e.l.length ≤ maxLen := by
  have key : ∃ L : List LE, L.length = len ∧ ∀ j (hj : j < L.length), W.cell? (x.add j) = some (.slice L[j].a L[j].l.length L[j].c) ∧ Sts W W.heap.size L[j].a L[j].l ∧ L[j].l.length ≤ maxLen := by
    induction len with
    | zero => exact ⟨[], rfl, fun j hj => by simp at hj⟩
    | succ n ih =>
      obtain ⟨l, h1, h2⟩ := ih (fun i hi => h i (by omega))
      obtain ⟨p, hp⟩ := h n (by omega)
      refine ⟨l ++ [p], by simp [h1], fun j hj => ?_⟩
      rw [List.length_append, List.length_singleton] at hj
      by_cases hjn : j < l.length
      · rw [List.getElem_append_left hjn]
        exact h2 j hjn
      · have : j = l.length := by omega
        subst this
        rw [List.getElem_append_right (Nat.le_refl _)]
        simp only [Nat.sub_self, List.getElem_cons_zero]
        rw [h1]
        exact hp
  obtain ⟨l, h1, h2⟩ := key
  refine ⟨l, h1, ?_, fun e he => ?_⟩
  · rcases Nat.eq_zero_or_pos len with h0 | h0
    · subst h0; exact .inl (List.eq_nil_of_length_eq_zero h1)
    · obtain ⟨b, off, spot⟩ := x
      obtain ⟨hp0, _⟩ := h2 0 (by omega)
      have hspot : spot = none := by simpa [Addr.add] using World.cell?_spot hp0
      subst hspot
      have e2 : ∀ i, (⟨b, off, none⟩ : Addr).add i = ⟨b, off + i, none⟩ := fun i => by unfold Addr.add; split <;> simp_all
      have hb : b < W.heap.size := by
        rw [e2] at hp0
        rcases Nat.lt_or_ge b W.heap.size with h | h
        · exact h
        · simp [World.cell?, Array.getElem?_eq_none h] at hp0
      exact .inr ⟨b, off, rfl, hb, fun j hj => by
        obtain ⟨c1, c2, _⟩ := h2 j hj
        rw [e2] at c1
        exact ⟨c1, c2⟩⟩
  · obtain ⟨j, hj, rfl⟩ := List.getElem_of_mem he
    exact (h2 j hj).2.2
end Go.Proofs.Ythceffkkokgpnaa
