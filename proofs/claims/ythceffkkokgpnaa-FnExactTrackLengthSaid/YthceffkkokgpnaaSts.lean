/- Rows of structs of 4 numbers (Storm) in memory. -/
import Derived.Test.YthceffkkokgpnaaIntRow
namespace Go.Proofs.Ythceffkkokgpnaa
open Go.RowKit
set_option linter.unusedVariables false
set_option linter.unusedSimpArgs false
abbrev StT := Int × Int × Int × Int
/-- their cells -/
def stv (l : List StT) : List Value := l.flatMap fun p => [.int .i64 p.1, .int .i64 p.2.1, .int .i64 p.2.2.1, .int .i64 p.2.2.2]
theorem stv_cons (q : StT) (l : List StT) : stv (q :: l) = .int .i64 q.1 :: .int .i64 q.2.1 :: .int .i64 q.2.2.1 :: .int .i64 q.2.2.2 :: stv l := rfl
theorem stv_append (l r : List StT) : stv (l ++ r) = stv l ++ stv r := by unfold stv; rw [List.flatMap_append]
theorem stv_length (l : List StT) : (stv l).length = l.length * 4 := by
  induction l with
  | nil => rfl
  | cons q r ih => rw [stv_cons]; simp [ih]; omega
theorem stv_get (l : List StT) : ∀ (k : Nat) (h : k < l.length), (stv l)[k * 4]? = some (.int .i64 l[k].1) ∧ (stv l)[k * 4 + 1]? = some (.int .i64 l[k].2.1) ∧ (stv l)[k * 4 + 2]? = some (.int .i64 l[k].2.2.1) ∧ (stv l)[k * 4 + 3]? = some (.int .i64 l[k].2.2.2) := by
  induction l with
  | nil => intro k h; simp at h
  | cons q r ih =>
    intro k h
    rw [stv_cons]
    cases k with
    | zero => exact ⟨rfl, rfl, rfl, rfl⟩
    | succ k =>
      have h1 := ih k (by simpa using h)
      have e : (k + 1) * 4 = k * 4 + 1 + 1 + 1 + 1 := by omega
      rw [e]
      exact ⟨by simpa using h1.1, by simpa using h1.2.1, by simpa using h1.2.2.1, by simpa using h1.2.2.2⟩
theorem stv_one (l : List StT) : ∀ u ∈ stv l, u.oneCell' = true := by
  intro u hu
  unfold stv at hu
  rw [List.mem_flatMap] at hu
  obtain ⟨q, _, hp⟩ := hu
  simp at hp
  rcases hp with rfl | rfl | rfl | rfl <;> rfl
/-- the slice's address leads to the elements l, in a block below B; of an empty list nothing is asked -/
def Sts (w : World) (B : Nat) (a : Option Addr) (l : List StT) : Prop :=
  l = [] ∨ ∃ b o, a = some ⟨b, o, none⟩ ∧ b < B ∧ ∀ j (h : j < l.length), w.cell? ⟨b, o + j * 4, none⟩ = some (.int .i64 l[j].1) ∧ w.cell? ⟨b, o + j * 4 + 1, none⟩ = some (.int .i64 l[j].2.1) ∧ w.cell? ⟨b, o + j * 4 + 2, none⟩ = some (.int .i64 l[j].2.2.1) ∧ w.cell? ⟨b, o + j * 4 + 3, none⟩ = some (.int .i64 l[j].2.2.2)
section
variable {w w' : World} {B D : Nat} {a : Option Addr} {l : List StT}
theorem Sts.at_ (h : Sts w B a l) {j : Nat} (hj : j < l.length) :
    ∃ b o, a = some ⟨b, o, none⟩ ∧ b < B ∧ w.cell? ⟨b, o + j * 4, none⟩ = some (.int .i64 l[j].1) ∧ w.cell? ⟨b, o + j * 4 + 1, none⟩ = some (.int .i64 l[j].2.1) ∧ w.cell? ⟨b, o + j * 4 + 2, none⟩ = some (.int .i64 l[j].2.2.1) ∧ w.cell? ⟨b, o + j * 4 + 3, none⟩ = some (.int .i64 l[j].2.2.2) := by
  rcases h with rfl | ⟨b, o, e, hb, hc⟩
  · simp at hj
  · exact ⟨b, o, e, hb, hc j hj⟩
theorem Sts.keep (h : Sts w B a l) (hk : ∀ q : Addr, q.block < B → w'.cell? q = w.cell? q) : Sts w' B a l := by
  rcases h with rfl | ⟨b, o, e, hb, hc⟩
  · exact .inl rfl
  · exact .inr ⟨b, o, e, hb, fun j hj => ⟨(hk ⟨b, o + j * 4, none⟩ hb).trans (hc j hj).1, (hk ⟨b, o + j * 4 + 1, none⟩ hb).trans (hc j hj).2.1, (hk ⟨b, o + j * 4 + 2, none⟩ hb).trans (hc j hj).2.2.1, (hk ⟨b, o + j * 4 + 3, none⟩ hb).trans (hc j hj).2.2.2⟩⟩
theorem Sts.below (h : Sts w B a l) (hb : Below D w w') (hB : B ≤ D) : Sts w' B a l := h.keep fun q hp => hb.cell (by omega)
theorem Sts.more (h : Sts w B a l) (hB : B ≤ D) : Sts w D a l := by
  rcases h with rfl | ⟨b, o, e, hb, hc⟩
  · exact .inl rfl
  · exact .inr ⟨b, o, e, by omega, hc⟩
theorem Sts.drew (h : Sts w B a l) (d : Drew w w') : Sts w' B a l := h.keep fun q _ => d.cell q
theorem sts_below (h : Sts w w.heap.size a l) (hb : Below w.heap.size w w') : Sts w' w'.heap.size a l := (h.below hb (Nat.le_refl _)).more hb.size
theorem sts_alloc (h : Sts w w.heap.size a l) (o : Obj) : Sts (w.alloc o) (w.alloc o).heap.size a l := sts_below h ((Below.refl _ _).alloc (Nat.le_refl _) o)
end
theorem sts_at {W : World} {b off len : Nat} (h : ∀ i, i < len → ∃ q : StT, W.cell? ⟨b, off + i * 4, none⟩ = some (.int .i64 q.1) ∧ W.cell? ⟨b, off + i * 4 + 1, none⟩ = some (.int .i64 q.2.1) ∧ W.cell? ⟨b, off + i * 4 + 2, none⟩ = some (.int .i64 q.2.2.1) ∧ W.cell? ⟨b, off + i * 4 + 3, none⟩ = some (.int .i64 q.2.2.2)) :
    ∃ l : List StT, l.length = len ∧ ∀ j (hj : j < l.length), W.cell? ⟨b, off + j * 4, none⟩ = some (.int .i64 l[j].1) ∧ W.cell? ⟨b, off + j * 4 + 1, none⟩ = some (.int .i64 l[j].2.1) ∧ W.cell? ⟨b, off + j * 4 + 2, none⟩ = some (.int .i64 l[j].2.2.1) ∧ W.cell? ⟨b, off + j * 4 + 3, none⟩ = some (.int .i64 l[j].2.2.2) := by
  induction len with
  | zero => exact ⟨[], rfl, fun j hj => by simp at hj⟩
  | succ n ih =>
    obtain ⟨l, h1, h2⟩ := ih (fun i hi => h i (by omega))
    obtain ⟨q, hp⟩ := h n (by omega)
    refine ⟨l ++ [q], by simp [h1], fun j hj => ?_⟩
    rw [List.length_append, List.length_singleton] at hj
    by_cases hjn : j < l.length
    · rw [List.getElem_append_left hjn]
      exact h2 j hjn
    · have : j = l.length := by omega
      subst this
      rw [List.getElem_append_right (Nat.le_refl _)]
      simp only [Nat.sub_self, List.getElem_cons_zero]
      rw [h1]
      exact hp
theorem sts_of {W : World} {x : Addr} {len : Nat} (h : ∀ i, i < len → ∃ q : StT, W.cell? (x.add (i * 4)) = some (.int .i64 q.1) ∧ W.cell? (x.add (i * 4 + 1)) = some (.int .i64 q.2.1) ∧ W.cell? (x.add (i * 4 + 2)) = some (.int .i64 q.2.2.1) ∧ W.cell? (x.add (i * 4 + 3)) = some (.int .i64 q.2.2.2)) :
    ∃ l : List StT, l.length = len ∧ Sts W W.heap.size (some x) l := by
  rcases Nat.eq_zero_or_pos len with h0 | h0
  · subst h0; exact ⟨[], rfl, .inl rfl⟩
  · obtain ⟨b, off, spot⟩ := x
    obtain ⟨q, hp0, hp1, hp2, hp3⟩ := h 0 h0
    have hspot : spot = none := by simpa [Addr.add] using World.cell?_spot hp0
    subst hspot
    have e2 : ∀ i, (⟨b, off, none⟩ : Addr).add i = ⟨b, off + i, none⟩ := fun i => by unfold Addr.add; split <;> simp_all
    have hb : b < W.heap.size := by
      rw [e2] at hp0
      rcases Nat.lt_or_ge b W.heap.size with h | h
      · exact h
      · simp [World.cell?, Array.getElem?_eq_none h] at hp0
    obtain ⟨l, h1, h2⟩ := sts_at (W := W) (b := b) (off := off) (len := len) (fun i hi => by
      obtain ⟨q, hp0, hp1, hp2, hp3⟩ := h i hi
      rw [e2] at hp0 hp1 hp2 hp3
      exact ⟨q, hp0, by rw [Nat.add_assoc]; exact hp1, by rw [Nat.add_assoc]; exact hp2, by rw [Nat.add_assoc]; exact hp3⟩)
    exact ⟨l, h1, .inr ⟨b, off, rfl, hb, h2⟩⟩
theorem Sts.of_row {w : World} {g : Nat} {t : TypeId} {l : List StT} (h : Row w g t (stv l)) : Sts w w.heap.size (some ⟨g, 0, none⟩) l :=
  .inr ⟨g, 0, rfl, h.lt, fun j hj => by
    have hl := stv_length l
    have e := stv_get l j hj
    have c0 := h.cell (k := j * 4) (by omega)
    have c1 := h.cell (k := j * 4 + 1) (by omega)
    have c2 := h.cell (k := j * 4 + 2) (by omega)
    have c3 := h.cell (k := j * 4 + 3) (by omega)
    rw [List.getElem?_eq_getElem (by omega), List.getElem?_eq_getElem (by omega), List.getElem?_eq_getElem (by omega), List.getElem?_eq_getElem (by omega)] at e
    rw [Nat.zero_add, c0, c1, c2, c3]
    exact e⟩
/-- the slice at a is the row of block g, from its beginning, and holds l -/
def AtSt (w : World) (a : Option Addr) (g : Nat) (l : List StT) : Prop := l = [] ∨ (a = some ⟨g, 0, none⟩ ∧ Row w g 26 (stv l))
/-- .. and the block is not below B -/
def OwnSt (w : World) (B : Nat) (a : Option Addr) (l : List StT) : Prop := ∃ g, B ≤ g ∧ AtSt w a g l
/-- own memory below U -/
def OwnUSt (w : World) (B U : Nat) (a : Option Addr) (l : List StT) : Prop := ∃ g, B ≤ g ∧ (l = [] ∨ g < U) ∧ AtSt w a g l
section
variable {w w' : World} {a : Option Addr} {g B U : Nat} {l : List StT}
theorem AtSt.keep (h : AtSt w a g l) (e : g < w.heap.size → w'.heap[g]? = w.heap[g]?) : AtSt w' a g l := by
  rcases h with rfl | ⟨h1, h2⟩
  · exact .inl rfl
  · exact .inr ⟨h1, h2.of_block (e h2.lt)⟩
theorem AtSt.below (h : AtSt w a g l) (hb : Below w.heap.size w w') : AtSt w' a g l := h.keep fun hg => hb.block g hg
theorem AtSt.only {g' : Nat} (h : AtSt w a g l) (o : Only g' w w') (hne : g ≠ g') : AtSt w' a g l := h.keep fun hg => o.1.block g hg (by intro e; injection e with e; exact hne e)
theorem AtSt.reads (h : AtSt w a g l) : Sts w w.heap.size a l := by
  rcases h with rfl | ⟨rfl, h2⟩
  · exact .inl rfl
  · exact Sts.of_row h2
theorem OwnSt.below (h : OwnSt w B a l) (hb : Below w.heap.size w w') : OwnSt w' B a l := by obtain ⟨g, h1, h2⟩ := h; exact ⟨g, h1, h2.below hb⟩
theorem OwnSt.more {D : Nat} (h : OwnSt w B a l) (hc : D ≤ B) : OwnSt w D a l := by obtain ⟨g, h1, h2⟩ := h; exact ⟨g, by omega, h2⟩
theorem OwnSt.only {g' : Nat} (h : OwnSt w B a l) (o : Only g' w w') (hne : g' < B) : OwnSt w' B a l := by obtain ⟨g, h1, h2⟩ := h; exact ⟨g, h1, h2.only o (by omega)⟩
theorem OwnSt.reads (h : OwnSt w B a l) : Sts w w.heap.size a l := by obtain ⟨g, h1, h2⟩ := h; exact h2.reads
theorem OwnSt.none_ : OwnSt w B a [] := ⟨B, Nat.le_refl _, .inl rfl⟩
theorem OwnUSt.of (h : OwnSt w B a l) : OwnUSt w B w.heap.size a l := by
  obtain ⟨g, h1, h2⟩ := h
  refine ⟨g, h1, ?_, h2⟩
  rcases h2 with h2 | ⟨_, h2⟩
  · exact .inl h2
  · exact .inr h2.lt
theorem OwnUSt.below (h : OwnUSt w B U a l) (hb : Below w.heap.size w w') : OwnUSt w' B U a l := by
  obtain ⟨g, h1, h2, h3⟩ := h
  exact ⟨g, h1, h2, h3.below hb⟩
theorem OwnUSt.only {g' : Nat} (h : OwnUSt w B U a l) (o : Only g' w w') (hg : U ≤ g') : OwnUSt w' B U a l := by
  obtain ⟨g, h1, h2, h3⟩ := h
  rcases h2 with h2 | h2
  · exact ⟨g, h1, .inl h2, .inl h2⟩
  · exact ⟨g, h1, .inr h2, h3.only o (by omega)⟩
theorem OwnUSt.reads (h : OwnUSt w B U a l) : Sts w w.heap.size a l := by
  obtain ⟨g, _, _, h⟩ := h
  exact h.reads
end
end Go.Proofs.Ythceffkkokgpnaa
