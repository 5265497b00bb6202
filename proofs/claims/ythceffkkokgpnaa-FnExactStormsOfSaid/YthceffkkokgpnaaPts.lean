/- Rows of points in memory. -/
import Derived.Test.YthceffkkokgpnaaIntRow
import Derived.Test.YthceffkkokgpnaaPtMath
namespace Go.Proofs.Ythceffkkokgpnaa
open Go.RowKit
set_option linter.unusedVariables false
set_option linter.unusedSimpArgs false
/-- the cells of points, two a point -/
def pv (l : List Pt) : List Value := l.flatMap fun p => [.int .i64 p.1, .int .i64 p.2]
theorem pv_cons (p : Pt) (l : List Pt) : pv (p :: l) = .int .i64 p.1 :: .int .i64 p.2 :: pv l := rfl
theorem pv_append (l r : List Pt) : pv (l ++ r) = pv l ++ pv r := by unfold pv; rw [List.flatMap_append]
theorem pv_length (l : List Pt) : (pv l).length = l.length * 2 := by
  induction l with
  | nil => rfl
  | cons p r ih => rw [pv_cons]; simp [ih]; omega
theorem pv_get (l : List Pt) : ∀ (k : Nat) (h : k < l.length), (pv l)[k * 2]? = some (.int .i64 l[k].1) ∧ (pv l)[k * 2 + 1]? = some (.int .i64 l[k].2) := by
  induction l with
  | nil => intro k h; simp at h
  | cons p r ih =>
    intro k h
    rw [pv_cons]
    cases k with
    | zero => exact ⟨rfl, rfl⟩
    | succ k =>
      have h1 := ih k (by simpa using h)
      have e : (k + 1) * 2 = k * 2 + 1 + 1 := by omega
      rw [e]
      exact ⟨by simpa using h1.1, by simpa using h1.2⟩
theorem pv_one (l : List Pt) : ∀ u ∈ pv l, u.oneCell' = true := by
  intro u hu
  unfold pv at hu
  rw [List.mem_flatMap] at hu
  obtain ⟨p, _, hp⟩ := hu
  simp at hp
  rcases hp with rfl | rfl <;> rfl
/-- the slice's address leads to the points l, in a block below B; of an empty list nothing is asked -/
def Pts (w : World) (B : Nat) (a : Option Addr) (l : List Pt) : Prop :=
  l = [] ∨ ∃ b o, a = some ⟨b, o, none⟩ ∧ b < B ∧ ∀ j (h : j < l.length), w.cell? ⟨b, o + j * 2, none⟩ = some (.int .i64 l[j].1) ∧ w.cell? ⟨b, o + j * 2 + 1, none⟩ = some (.int .i64 l[j].2)
section
variable {w w' : World} {B C : Nat} {a : Option Addr} {l : List Pt}
theorem Pts.at_ (h : Pts w B a l) {j : Nat} (hj : j < l.length) :
    ∃ b o, a = some ⟨b, o, none⟩ ∧ b < B ∧ w.cell? ⟨b, o + j * 2, none⟩ = some (.int .i64 l[j].1) ∧ w.cell? ⟨b, o + j * 2 + 1, none⟩ = some (.int .i64 l[j].2) := by
  rcases h with rfl | ⟨b, o, e, hb, hc⟩
  · simp at hj
  · exact ⟨b, o, e, hb, hc j hj⟩
theorem Pts.keep (h : Pts w B a l) (hk : ∀ p : Addr, p.block < B → w'.cell? p = w.cell? p) : Pts w' B a l := by
  rcases h with rfl | ⟨b, o, e, hb, hc⟩
  · exact .inl rfl
  · exact .inr ⟨b, o, e, hb, fun j hj => ⟨(hk ⟨b, o + j * 2, none⟩ hb).trans (hc j hj).1, (hk ⟨b, o + j * 2 + 1, none⟩ hb).trans (hc j hj).2⟩⟩
theorem Pts.below (h : Pts w B a l) (hb : Below C w w') (hB : B ≤ C) : Pts w' B a l := h.keep fun p hp => hb.cell (by omega)
theorem Pts.more (h : Pts w B a l) (hB : B ≤ C) : Pts w C a l := by
  rcases h with rfl | ⟨b, o, e, hb, hc⟩
  · exact .inl rfl
  · exact .inr ⟨b, o, e, by omega, hc⟩
theorem Pts.drew (h : Pts w B a l) (d : Drew w w') : Pts w' B a l := h.keep fun p _ => d.cell p
theorem pts_below (h : Pts w w.heap.size a l) (hb : Below w.heap.size w w') : Pts w' w'.heap.size a l := (h.below hb (Nat.le_refl _)).more hb.size
theorem pts_alloc (h : Pts w w.heap.size a l) (o : Obj) : Pts (w.alloc o) (w.alloc o).heap.size a l := pts_below h ((Below.refl _ _).alloc (Nat.le_refl _) o)
end
theorem pts_at {W : World} {b off len : Nat} (h : ∀ i, i < len → ∃ p : Pt, W.cell? ⟨b, off + i * 2, none⟩ = some (.int .i64 p.1) ∧ W.cell? ⟨b, off + i * 2 + 1, none⟩ = some (.int .i64 p.2)) :
    ∃ l : List Pt, l.length = len ∧ ∀ j (hj : j < l.length), W.cell? ⟨b, off + j * 2, none⟩ = some (.int .i64 l[j].1) ∧ W.cell? ⟨b, off + j * 2 + 1, none⟩ = some (.int .i64 l[j].2) := by
  induction len with
  | zero => exact ⟨[], rfl, fun j hj => by simp at hj⟩
  | succ n ih =>
    obtain ⟨l, h1, h2⟩ := ih (fun i hi => h i (by omega))
    obtain ⟨p, hp⟩ := h n (by omega)
    refine ⟨l ++ [p], by simp [h1], fun j hj => ?_⟩
    rw [List.length_append, List.length_singleton] at hj
    by_cases hjn : j < l.length
    · rw [List.getElem_append_left hjn]
      exact h2 j hjn
    · have : j = l.length := by omega
      subst this
      rw [List.getElem_append_right (Nat.le_refl _)]
      simp only [Nat.sub_self, List.getElem_cons_zero]
      rw [h1]
      exact hp
theorem pts_of {W : World} {x : Addr} {len : Nat} (h : ∀ i, i < len → ∃ p : Pt, W.cell? (x.add (i * 2)) = some (.int .i64 p.1) ∧ W.cell? (x.add (i * 2 + 1)) = some (.int .i64 p.2)) :
    ∃ l : List Pt, l.length = len ∧ Pts W W.heap.size (some x) l := by
  rcases Nat.eq_zero_or_pos len with h0 | h0
  · subst h0; exact ⟨[], rfl, .inl rfl⟩
  · obtain ⟨b, off, spot⟩ := x
    obtain ⟨p, hp0, hp1⟩ := h 0 h0
    have hspot : spot = none := by simpa [Addr.add] using World.cell?_spot hp0
    subst hspot
    have e2 : ∀ i, (⟨b, off, none⟩ : Addr).add i = ⟨b, off + i, none⟩ := fun i => by unfold Addr.add; split <;> simp_all
    have hb : b < W.heap.size := by
      rw [e2] at hp0
      rcases Nat.lt_or_ge b W.heap.size with h | h
      · exact h
      · simp [World.cell?, Array.getElem?_eq_none h] at hp0
    obtain ⟨l, h1, h2⟩ := pts_at (W := W) (b := b) (off := off) (len := len) (fun i hi => by
      obtain ⟨p, hp0, hp1⟩ := h i hi
      rw [e2] at hp0 hp1
      exact ⟨p, hp0, by rw [Nat.add_assoc]; exact hp1⟩)
    exact ⟨l, h1, .inr ⟨b, off, rfl, hb, h2⟩⟩
theorem Pts.of_row {w : World} {g : Nat} {t : TypeId} {l : List Pt} (h : Row w g t (pv l)) : Pts w w.heap.size (some ⟨g, 0, none⟩) l :=
  .inr ⟨g, 0, rfl, h.lt, fun j hj => by
    have hl := pv_length l
    have h1 := h.cell (k := j * 2) (by omega)
    have h2 := h.cell (k := j * 2 + 1) (by omega)
    have e := pv_get l j hj
    rw [List.getElem?_eq_getElem (by omega)] at e
    rw [Nat.zero_add, h1, h2]
    refine ⟨e.1, ?_⟩
    have e2 := e.2
    rw [List.getElem?_eq_getElem (by omega)] at e2
    exact e2⟩
end Go.Proofs.Ythceffkkokgpnaa
