/- Rows of structs of 4 numbers (match) in memory. -/
import Derived.Test.YtggdkibbfmjelaaIntRow
namespace Go.Proofs.Ytggdkibbfmjelaa
open Go.RowKit
set_option linter.unusedVariables false
set_option linter.unusedSimpArgs false
abbrev MtT := Int × Int × Int × Int
/-- their cells -/
def mtv (l : List MtT) : List Value := l.flatMap fun p => [.int .i64 p.1, .int .i64 p.2.1, .int .i64 p.2.2.1, .int .i64 p.2.2.2]
theorem mtv_cons (q : MtT) (l : List MtT) : mtv (q :: l) = .int .i64 q.1 :: .int .i64 q.2.1 :: .int .i64 q.2.2.1 :: .int .i64 q.2.2.2 :: mtv l := rfl
theorem mtv_append (l r : List MtT) : mtv (l ++ r) = mtv l ++ mtv r := by unfold mtv; rw [List.flatMap_append]
theorem mtv_length (l : List MtT) : (mtv l).length = l.length * 4 := by
  induction l with
  | nil => rfl
  | cons q r ih => rw [mtv_cons]; simp [ih]; omega
theorem mtv_get (l : List MtT) : ∀ (k : Nat) (h : k < l.length), (mtv l)[k * 4]? = some (.int .i64 l[k].1) ∧ (mtv l)[k * 4 + 1]? = some (.int .i64 l[k].2.1) ∧ (mtv l)[k * 4 + 2]? = some (.int .i64 l[k].2.2.1) ∧ (mtv l)[k * 4 + 3]? = some (.int .i64 l[k].2.2.2) := by
  induction l with
  | nil => intro k h; simp at h
  | cons q r ih =>
    intro k h
    rw [mtv_cons]
    cases k with
    | zero => exact ⟨rfl, rfl, rfl, rfl⟩
    | succ k =>
      have h1 := ih k (by simpa using h)
      have e : (k + 1) * 4 = k * 4 + 1 + 1 + 1 + 1 := by omega
      rw [e]
      exact ⟨by simpa using h1.1, by simpa using h1.2.1, by simpa using h1.2.2.1, by simpa using h1.2.2.2⟩
theorem mtv_one (l : List MtT) : ∀ u ∈ mtv l, u.oneCell' = true := by
  intro u hu
  unfold mtv at hu
  rw [List.mem_flatMap] at hu
  obtain ⟨q, _, hp⟩ := hu
  simp at hp
  rcases hp with rfl | rfl | rfl | rfl <;> rfl
/-- the slice's address leads to the elements l, in a block below B; of an empty list nothing is asked -/
def Mts (w : World) (B : Nat) (a : Option Addr) (l : List MtT) : Prop :=
  l = [] ∨ ∃ b o, a = some ⟨b, o, none⟩ ∧ b < B ∧ ∀ j (h : j < l.length), w.cell? ⟨b, o + j * 4, none⟩ = some (.int .i64 l[j].1) ∧ w.cell? ⟨b, o + j * 4 + 1, none⟩ = some (.int .i64 l[j].2.1) ∧ w.cell? ⟨b, o + j * 4 + 2, none⟩ = some (.int .i64 l[j].2.2.1) ∧ w.cell? ⟨b, o + j * 4 + 3, none⟩ = some (.int .i64 l[j].2.2.2)
section
variable {w w' : World} {B D : Nat} {a : Option Addr} {l : List MtT}
theorem Mts.at_ (h : Mts w B a l) {j : Nat} (hj : j < l.length) :
    ∃ b o, a = some ⟨b, o, none⟩ ∧ b < B ∧ w.cell? ⟨b, o + j * 4, none⟩ = some (.int .i64 l[j].1) ∧ w.cell? ⟨b, o + j * 4 + 1, none⟩ = some (.int .i64 l[j].2.1) ∧ w.cell? ⟨b, o + j * 4 + 2, none⟩ = some (.int .i64 l[j].2.2.1) ∧ w.cell? ⟨b, o + j * 4 + 3, none⟩ = some (.int .i64 l[j].2.2.2) := by
  rcases h with rfl | ⟨b, o, e, hb, hc⟩
  · simp at hj
  · exact ⟨b, o, e, hb, hc j hj⟩
theorem Mts.keep (h : Mts w B a l) (hk : ∀ q : Addr, q.block < B → w'.cell? q = w.cell? q) : Mts w' B a l := by
  rcases h with rfl | ⟨b, o, e, hb, hc⟩
  · exact .inl rfl
  · exact .inr ⟨b, o, e, hb, fun j hj => ⟨(hk ⟨b, o + j * 4, none⟩ hb).trans (hc j hj).1, (hk ⟨b, o + j * 4 + 1, none⟩ hb).trans (hc j hj).2.1, (hk ⟨b, o + j * 4 + 2, none⟩ hb).trans (hc j hj).2.2.1, (hk ⟨b, o + j * 4 + 3, none⟩ hb).trans (hc j hj).2.2.2⟩⟩
theorem Mts.below (h : Mts w B a l) (hb : Below D w w') (hB : B ≤ D) : Mts w' B a l := h.keep fun q hp => hb.cell (by omega)
theorem Mts.more (h : Mts w B a l) (hB : B ≤ D) : Mts w D a l := by
  rcases h with rfl | ⟨b, o, e, hb, hc⟩
  · exact .inl rfl
  · exact .inr ⟨b, o, e, by omega, hc⟩
theorem Mts.drew (h : Mts w B a l) (d : Drew w w') : Mts w' B a l := h.keep fun q _ => d.cell q
theorem mts_below (h : Mts w w.heap.size a l) (hb : Below w.heap.size w w') : Mts w' w'.heap.size a l := (h.below hb (Nat.le_refl _)).more hb.size
theorem mts_alloc (h : Mts w w.heap.size a l) (o : Obj) : Mts (w.alloc o) (w.alloc o).heap.size a l := mts_below h ((Below.refl _ _).alloc (Nat.le_refl _) o)
end
theorem mts_at {W : World} {b off len : Nat} (h : ∀ i, i < len → ∃ q : MtT, W.cell? ⟨b, off + i * 4, none⟩ = some (.int .i64 q.1) ∧ W.cell? ⟨b, off + i * 4 + 1, none⟩ = some (.int .i64 q.2.1) ∧ W.cell? ⟨b, off + i * 4 + 2, none⟩ = some (.int .i64 q.2.2.1) ∧ W.cell? ⟨b, off + i * 4 + 3, none⟩ = some (.int .i64 q.2.2.2)) :
    ∃ l : List MtT, l.length = len ∧ ∀ j (hj : j < l.length), W.cell? ⟨b, off + j * 4, none⟩ = some (.int .i64 l[j].1) ∧ W.cell? ⟨b, off + j * 4 + 1, none⟩ = some (.int .i64 l[j].2.1) ∧ W.cell? ⟨b, off + j * 4 + 2, none⟩ = some (.int .i64 l[j].2.2.1) ∧ W.cell? ⟨b, off + j * 4 + 3, none⟩ = some (.int .i64 l[j].2.2.2) := by
  induction len with
  | zero => exact ⟨[], rfl, fun j hj => by simp at hj⟩
  | succ n ih =>
    obtain ⟨l, h1, h2⟩ := ih (fun i hi => h i (by omega))
    obtain ⟨q, hp⟩ := h n (by omega)
    refine ⟨l ++ [q], by simp [h1], fun j hj => ?_⟩
    rw [List.length_append, List.length_singleton] at hj
    by_cases hjn : j < l.length
    · rw [List.getElem_append_left hjn]
      exact h2 j hjn
    · have : j = l.length := by omega
      subst this
      rw [List.getElem_append_right (Nat.le_refl _)]
      simp only [Nat.sub_self, List.getElem_cons_zero]
      rw [h1]
      exact hp
theorem mts_of {W : World} {x : Addr} {len : Nat} (h : ∀ i, i < len → ∃ q : MtT, W.cell? (x.add (i * 4)) = some (.int .i64 q.1) ∧ W.cell? (x.add (i * 4 + 1)) = some (.int .i64 q.2.1) ∧ W.cell? (x.add (i * 4 + 2)) = some (.int .i64 q.2.2.1) ∧ W.cell? (x.add (i * 4 + 3)) = some (.int .i64 q.2.2.2)) :
    ∃ l : List MtT, l.length = len ∧ Mts W W.heap.size (some x) l := by
  rcases Nat.eq_zero_or_pos len with h0 | h0
  · subst h0; exact ⟨[], rfl, .inl rfl⟩
  · obtain ⟨b, off, spot⟩ := x
    obtain ⟨q, hp0, hp1, hp2, hp3⟩ := h 0 h0
    have hspot : spot = none := by simpa [Addr.add] using World.cell?_spot hp0
    subst hspot
    have e2 : ∀ i, (⟨b, off, none⟩ : Addr).add i = ⟨b, off + i, none⟩ := fun i => by unfold Addr.add; split <;> simp_all
    have hb : b < W.heap.size := by
      rw [e2] at hp0
      rcases Nat.lt_or_ge b W.heap.size with h | h
      · exact h
      · simp [World.cell?, Array.getElem?_eq_none h] at hp0
    obtain ⟨l, h1, h2⟩ := mts_at (W := W) (b := b) (off := off) (len := len) (fun i hi => by
      obtain ⟨q, hp0, hp1, hp2, hp3⟩ := h i hi
      rw [e2] at hp0 hp1 hp2 hp3
      exact ⟨q, hp0, by rw [Nat.add_assoc]; exact hp1, by rw [Nat.add_assoc]; exact hp2, by rw [Nat.add_assoc]; exact hp3⟩)
    exact ⟨l, h1, .inr ⟨b, off, rfl, hb, h2⟩⟩
theorem Mts.of_row {w : World} {g : Nat} {t : TypeId} {l : List MtT} (h : Row w g t (mtv l)) : Mts w w.heap.size (some ⟨g, 0, none⟩) l :=
  .inr ⟨g, 0, rfl, h.lt, fun j hj => by
    have hl := mtv_length l
    have e := mtv_get l j hj
    have c0 := h.cell (k := j * 4) (by omega)
    have c1 := h.cell (k := j * 4 + 1) (by omega)
    have c2 := h.cell (k := j * 4 + 2) (by omega)
    have c3 := h.cell (k := j * 4 + 3) (by omega)
    rw [List.getElem?_eq_getElem (by omega), List.getElem?_eq_getElem (by omega), List.getElem?_eq_getElem (by omega), List.getElem?_eq_getElem (by omega)] at e
    rw [Nat.zero_add, c0, c1, c2, c3]
    exact e⟩
/-- the slice at a is the row of block g, from its beginning, and holds l -/
def AtMt (w : World) (a : Option Addr) (g : Nat) (l : List MtT) : Prop := l = [] ∨ (a = some ⟨g, 0, none⟩ ∧ Row w g 97 (mtv l))
/-- .. and the block is not below B -/
def OwnMt (w : World) (B : Nat) (a : Option Addr) (l : List MtT) : Prop := ∃ g, B ≤ g ∧ AtMt w a g l
/-- own memory below U -/
def OwnUMt (w : World) (B U : Nat) (a : Option Addr) (l : List MtT) : Prop := ∃ g, B ≤ g ∧ (l = [] ∨ g < U) ∧ AtMt w a g l
section
variable {w w' : World} {a : Option Addr} {g B U : Nat} {l : List MtT}
theorem AtMt.keep (h : AtMt w a g l) (e : g < w.heap.size → w'.heap[g]? = w.heap[g]?) : AtMt w' a g l := by
  rcases h with rfl | ⟨h1, h2⟩
  · exact .inl rfl
  · exact .inr ⟨h1, h2.of_block (e h2.lt)⟩
theorem AtMt.below (h : AtMt w a g l) (hb : Below w.heap.size w w') : AtMt w' a g l := h.keep fun hg => hb.block g hg
theorem AtMt.only {g' : Nat} (h : AtMt w a g l) (o : Only g' w w') (hne : g ≠ g') : AtMt w' a g l := h.keep fun hg => o.1.block g hg (by intro e; injection e with e; exact hne e)
theorem AtMt.reads (h : AtMt w a g l) : Mts w w.heap.size a l := by
  rcases h with rfl | ⟨rfl, h2⟩
  · exact .inl rfl
  · exact Mts.of_row h2
theorem OwnMt.below (h : OwnMt w B a l) (hb : Below w.heap.size w w') : OwnMt w' B a l := by obtain ⟨g, h1, h2⟩ := h; exact ⟨g, h1, h2.below hb⟩
theorem OwnMt.more {D : Nat} (h : OwnMt w B a l) (hc : D ≤ B) : OwnMt w D a l := by obtain ⟨g, h1, h2⟩ := h; exact ⟨g, by omega, h2⟩
theorem OwnMt.only {g' : Nat} (h : OwnMt w B a l) (o : Only g' w w') (hne : g' < B) : OwnMt w' B a l := by obtain ⟨g, h1, h2⟩ := h; exact ⟨g, h1, h2.only o (by omega)⟩
theorem OwnMt.reads (h : OwnMt w B a l) : Mts w w.heap.size a l := by obtain ⟨g, h1, h2⟩ := h; exact h2.reads
theorem OwnMt.none_ : OwnMt w B a [] := ⟨B, Nat.le_refl _, .inl rfl⟩
theorem OwnUMt.of (h : OwnMt w B a l) : OwnUMt w B w.heap.size a l := by
  obtain ⟨g, h1, h2⟩ := h
  refine ⟨g, h1, ?_, h2⟩
  rcases h2 with h2 | ⟨_, h2⟩
  · exact .inl h2
  · exact .inr h2.lt
theorem OwnUMt.below (h : OwnUMt w B U a l) (hb : Below w.heap.size w w') : OwnUMt w' B U a l := by
  obtain ⟨g, h1, h2, h3⟩ := h
  exact ⟨g, h1, h2, h3.below hb⟩
theorem OwnUMt.only {g' : Nat} (h : OwnUMt w B U a l) (o : Only g' w w') (hg : U ≤ g') : OwnUMt w' B U a l := by
  obtain ⟨g, h1, h2, h3⟩ := h
  rcases h2 with h2 | h2
  · exact ⟨g, h1, .inl h2, .inl h2⟩
  · exact ⟨g, h1, .inr h2, h3.only o (by omega)⟩
theorem OwnUMt.reads (h : OwnUMt w B U a l) : Mts w w.heap.size a l := by
  obtain ⟨g, _, _, h⟩ := h
  exact h.reads
end
end Go.Proofs.Ytggdkibbfmjelaa
