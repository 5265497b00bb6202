/- A slice of structs of three one-cell fields, opened; a list of fields read out of it. -/
import Derived.Test.YtggdkibbfmjelaaFlds
import Derived.Deep.Slices
import Derived.ChangeSame
namespace Go.Proofs.Ytggdkibbfmjelaa
open Go.ChangeShapes Go.WideShapes Go.RowKit
set_option linter.unusedVariables false
theorem open_threes {H : Type} {enc : TypeId × Value → H} {P : Program} {w : World} {base : Nat} {spare : Nat → Bool} {held : Bool} {t e : TypeId} {f0 f1 f2 : Field} {fuel : Nat} {cs : List Value} {x : DataW H × List MemPlace}
    (ht : P.underlying t = some (.slice e)) (he : P.underlying e = some (.struct #[f0, f1, f2])) (ce : P.cellsOf e = 3) (o0 : f0.offset = 0) (o1 : f1.offset = 1) (o2 : f2.offset = 2) (c0 : P.cellsOf f0.type = 1) (c1 : P.cellsOf f1.type = 1) (c2 : P.cellsOf f2.type = 1)
    (h : DataW.trod enc P w base spare held fuel t cs = some x) :
    cs = [.slice none 0 0] ∨ ∃ (a : Addr) (len cap n : Nat), cs = [.slice (some a) len cap] ∧ len ≤ cap ∧ cap ≤ maxLen ∧
      ∀ i, i < len → ∃ (v0 v1 v2 : Value) (y0 y1 y2 : DataW H × List MemPlace), w.cell? (a.add (i * 3)) = some v0 ∧ w.cell? (a.add (i * 3 + 1)) = some v1 ∧ w.cell? (a.add (i * 3 + 2)) = some v2 ∧
        DataW.trod enc P w base spare held n f0.type [v0] = some y0 ∧ DataW.trod enc P w base spare held n f1.type [v1] = some y1 ∧ DataW.trod enc P w base spare held n f2.type [v2] = some y2 := by
  rcases Go.Deep.open_slice ht h with h0 | ⟨a, len, cap, m, n, D, Pl, rfl, hb, hl, hm, hmm, rfl, hx⟩
  · exact Or.inl h0.1
  right
  have hlm : len ≤ m := by rw [hmm]; split <;> omega
  refine ⟨a, len, cap, n - 1, rfl, hl, hm, fun i hi => ?_⟩
  obtain ⟨cs', h1, h2⟩ := hx i (by omega)
  rw [ce] at h1
  obtain ⟨_, hlen, hcell⟩ := World.cells?_some h1
  obtain ⟨xs, k, hk, hxy, _, hxl, hf⟩ := DataW.trod_struct he h2
  have hk' : k = n - 1 := by omega
  subst hk'
  match xs, hxl, cs', hlen with
  | [y0, y1, y2], _, [v0, v1, v2], _ =>
    have g0 := hf 0 f0 rfl
    have g1 := hf 1 f1 rfl
    have g2 := hf 2 f2 rfl
    simp [o0, o1, o2, c0, c1, c2] at g0 g1 g2
    have e0 := hcell 0 (by omega)
    have e1 := hcell 1 (by omega)
    have e2 := hcell 2 (by omega)
    rw [Go.Deep.add_add] at e0 e1 e2
    exact ⟨v0, v1, v2, y0, y1, y2, by simpa using e0, by simpa using e1, by simpa using e2, g0, g1, g2⟩
theorem flds_of {W : World} {x : Addr} {len : Nat} (h : ∀ i, i < len → ∃ e : FE, W.cell? (x.add (i * 3)) = some (.int .i64 e.wd) ∧ W.cell? (x.add (i * 3 + 1)) = some (.int .i64 e.hg) ∧ W.cell? (x.add (i * 3 + 2)) = some (.slice e.ad e.l.length e.c) ∧ Ints .i64 W W.heap.size e.ad e.l ∧ e.l.length ≤ maxLen) :
    ∃ l : List FE, l.length = len ∧ Flds W W.heap.size (some x) l ∧ ∀ e ∈ l, e.l.length ≤ maxLen := by
  have key : ∃ l : List FE, l.length = len ∧ ∀ j (hj : j < l.length), W.cell? (x.add (j * 3)) = some (.int .i64 l[j].wd) ∧ W.cell? (x.add (j * 3 + 1)) = some (.int .i64 l[j].hg) ∧ W.cell? (x.add (j * 3 + 2)) = some (.slice l[j].ad l[j].l.length l[j].c) ∧ Ints .i64 W W.heap.size l[j].ad l[j].l ∧ l[j].l.length ≤ maxLen := by
    induction len with
    | zero => exact ⟨[], rfl, fun j hj => by simp at hj⟩
    | succ n ih =>
      obtain ⟨l, h1, h2⟩ := ih (fun i hi => h i (by omega))
      obtain ⟨p, hp⟩ := h n (by omega)
      refine ⟨l ++ [p], by simp [h1], fun j hj => ?_⟩
      rw [List.length_append, List.length_singleton] at hj
      by_cases hjn : j < l.length
      · rw [List.getElem_append_left hjn]
        exact h2 j hjn
      · have : j = l.length := by omega
        subst this
        rw [List.getElem_append_right (Nat.le_refl _)]
        simp only [Nat.sub_self, List.getElem_cons_zero]
        rw [h1]
        exact hp
  obtain ⟨l, h1, h2⟩ := key
  refine ⟨l, h1, ?_, fun e he => ?_⟩
  · rcases Nat.eq_zero_or_pos len with h0 | h0
    · subst h0; exact .inl (List.eq_nil_of_length_eq_zero h1)
    · obtain ⟨b, off, spot⟩ := x
      obtain ⟨hp0, _⟩ := h2 0 (by omega)
      have hspot : spot = none := by simpa [Addr.add] using World.cell?_spot hp0
      subst hspot
      have e2 : ∀ i, (⟨b, off, none⟩ : Addr).add i = ⟨b, off + i, none⟩ := fun i => by unfold Addr.add; split <;> simp_all
      have hb : b < W.heap.size := by
        rw [e2] at hp0
        rcases Nat.lt_or_ge b W.heap.size with h | h
        · exact h
        · simp [World.cell?, Array.getElem?_eq_none h] at hp0
      refine .inr ⟨b, off, rfl, hb, fun j hj => ?_⟩
      obtain ⟨k0, k1, k2, k3, _⟩ := h2 j hj
      rw [e2] at k0 k1 k2
      exact ⟨k0, k1, k2, k3⟩
  · obtain ⟨j, hj, rfl⟩ := List.getElem_of_mem he
    exact (h2 j hj).2.2.2.2
end Go.Proofs.Ytggdkibbfmjelaa
