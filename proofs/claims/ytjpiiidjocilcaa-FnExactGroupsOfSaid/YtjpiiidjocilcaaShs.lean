/- Rows of structs of 2 numbers (Share) in memory. -/
import Derived.Test.YtjpiiidjocilcaaIntRow
namespace Go.Proofs.Ytjpiiidjocilcaa
open Go.RowKit
set_option linter.unusedVariables false
set_option linter.unusedSimpArgs false
abbrev ShT := Int × Int
/-- their cells -/
def shv (l : List ShT) : List Value := l.flatMap fun p => [.int .i64 p.1, .int .i64 p.2]
theorem shv_cons (q : ShT) (l : List ShT) : shv (q :: l) = .int .i64 q.1 :: .int .i64 q.2 :: shv l := rfl
theorem shv_append (l r : List ShT) : shv (l ++ r) = shv l ++ shv r := by unfold shv; rw [List.flatMap_append]
theorem shv_length (l : List ShT) : (shv l).length = l.length * 2 := by
  induction l with
  | nil => rfl
  | cons q r ih => rw [shv_cons]; simp [ih]; omega
theorem shv_get (l : List ShT) : ∀ (k : Nat) (h : k < l.length), (shv l)[k * 2]? = some (.int .i64 l[k].1) ∧ (shv l)[k * 2 + 1]? = some (.int .i64 l[k].2) := by
  induction l with
  | nil => intro k h; simp at h
  | cons q r ih =>
    intro k h
    rw [shv_cons]
    cases k with
    | zero => exact ⟨rfl, rfl⟩
    | succ k =>
      have h1 := ih k (by simpa using h)
      have e : (k + 1) * 2 = k * 2 + 1 + 1 := by omega
      rw [e]
      exact ⟨by simpa using h1.1, by simpa using h1.2⟩
theorem shv_one (l : List ShT) : ∀ u ∈ shv l, u.oneCell' = true := by
  intro u hu
  unfold shv at hu
  rw [List.mem_flatMap] at hu
  obtain ⟨q, _, hp⟩ := hu
  simp at hp
  rcases hp with rfl | rfl <;> rfl
/-- the slice's address leads to the elements l, in a block below B; of an empty list nothing is asked -/
def Shs (w : World) (B : Nat) (a : Option Addr) (l : List ShT) : Prop :=
  l = [] ∨ ∃ b o, a = some ⟨b, o, none⟩ ∧ b < B ∧ ∀ j (h : j < l.length), w.cell? ⟨b, o + j * 2, none⟩ = some (.int .i64 l[j].1) ∧ w.cell? ⟨b, o + j * 2 + 1, none⟩ = some (.int .i64 l[j].2)
section
variable {w w' : World} {B D : Nat} {a : Option Addr} {l : List ShT}
theorem Shs.at_ (h : Shs w B a l) {j : Nat} (hj : j < l.length) :
    ∃ b o, a = some ⟨b, o, none⟩ ∧ b < B ∧ w.cell? ⟨b, o + j * 2, none⟩ = some (.int .i64 l[j].1) ∧ w.cell? ⟨b, o + j * 2 + 1, none⟩ = some (.int .i64 l[j].2) := by
  rcases h with rfl | ⟨b, o, e, hb, hc⟩
  · simp at hj
  · exact ⟨b, o, e, hb, hc j hj⟩
theorem Shs.keep (h : Shs w B a l) (hk : ∀ q : Addr, q.block < B → w'.cell? q = w.cell? q) : Shs w' B a l := by
  rcases h with rfl | ⟨b, o, e, hb, hc⟩
  · exact .inl rfl
  · exact .inr ⟨b, o, e, hb, fun j hj => ⟨(hk ⟨b, o + j * 2, none⟩ hb).trans (hc j hj).1, (hk ⟨b, o + j * 2 + 1, none⟩ hb).trans (hc j hj).2⟩⟩
theorem Shs.below (h : Shs w B a l) (hb : Below D w w') (hB : B ≤ D) : Shs w' B a l := h.keep fun q hp => hb.cell (by omega)
theorem Shs.more (h : Shs w B a l) (hB : B ≤ D) : Shs w D a l := by
  rcases h with rfl | ⟨b, o, e, hb, hc⟩
  · exact .inl rfl
  · exact .inr ⟨b, o, e, by omega, hc⟩
theorem Shs.drew (h : Shs w B a l) (d : Drew w w') : Shs w' B a l := h.keep fun q _ => d.cell q
theorem shs_below (h : Shs w w.heap.size a l) (hb : Below w.heap.size w w') : Shs w' w'.heap.size a l := (h.below hb (Nat.le_refl _)).more hb.size
theorem shs_alloc (h : Shs w w.heap.size a l) (o : Obj) : Shs (w.alloc o) (w.alloc o).heap.size a l := shs_below h ((Below.refl _ _).alloc (Nat.le_refl _) o)
end
theorem shs_at {W : World} {b off len : Nat} (h : ∀ i, i < len → ∃ q : ShT, W.cell? ⟨b, off + i * 2, none⟩ = some (.int .i64 q.1) ∧ W.cell? ⟨b, off + i * 2 + 1, none⟩ = some (.int .i64 q.2)) :
    ∃ l : List ShT, l.length = len ∧ ∀ j (hj : j < l.length), W.cell? ⟨b, off + j * 2, none⟩ = some (.int .i64 l[j].1) ∧ W.cell? ⟨b, off + j * 2 + 1, none⟩ = some (.int .i64 l[j].2) := by
  induction len with
  | zero => exact ⟨[], rfl, fun j hj => by simp at hj⟩
  | succ n ih =>
    obtain ⟨l, h1, h2⟩ := ih (fun i hi => h i (by omega))
    obtain ⟨q, hp⟩ := h n (by omega)
    refine ⟨l ++ [q], by simp [h1], fun j hj => ?_⟩
    rw [List.length_append, List.length_singleton] at hj
    by_cases hjn : j < l.length
    · rw [List.getElem_append_left hjn]
      exact h2 j hjn
    · have : j = l.length := by omega
      subst this
      rw [List.getElem_append_right (Nat.le_refl _)]
      simp only [Nat.sub_self, List.getElem_cons_zero]
      rw [h1]
      exact hp
theorem shs_of {W : World} {x : Addr} {len : Nat} (h : ∀ i, i < len → ∃ q : ShT, W.cell? (x.add (i * 2)) = some (.int .i64 q.1) ∧ W.cell? (x.add (i * 2 + 1)) = some (.int .i64 q.2)) :
    ∃ l : List ShT, l.length = len ∧ Shs W W.heap.size (some x) l := by
  rcases Nat.eq_zero_or_pos len with h0 | h0
  · subst h0; exact ⟨[], rfl, .inl rfl⟩
  · obtain ⟨b, off, spot⟩ := x
    obtain ⟨q, hp0, hp1⟩ := h 0 h0
    have hspot : spot = none := by simpa [Addr.add] using World.cell?_spot hp0
    subst hspot
    have e2 : ∀ i, (⟨b, off, none⟩ : Addr).add i = ⟨b, off + i, none⟩ := fun i => by unfold Addr.add; split <;> simp_all
    have hb : b < W.heap.size := by
      rw [e2] at hp0
      rcases Nat.lt_or_ge b W.heap.size with h | h
      · exact h
      · simp [World.cell?, Array.getElem?_eq_none h] at hp0
    obtain ⟨l, h1, h2⟩ := shs_at (W := W) (b := b) (off := off) (len := len) (fun i hi => by
      obtain ⟨q, hp0, hp1⟩ := h i hi
      rw [e2] at hp0 hp1
      exact ⟨q, hp0, by rw [Nat.add_assoc]; exact hp1⟩)
    exact ⟨l, h1, .inr ⟨b, off, rfl, hb, h2⟩⟩
theorem Shs.of_row {w : World} {g : Nat} {t : TypeId} {l : List ShT} (h : Row w g t (shv l)) : Shs w w.heap.size (some ⟨g, 0, none⟩) l :=
  .inr ⟨g, 0, rfl, h.lt, fun j hj => by
    have hl := shv_length l
    have e := shv_get l j hj
    have c0 := h.cell (k := j * 2) (by omega)
    have c1 := h.cell (k := j * 2 + 1) (by omega)
    rw [List.getElem?_eq_getElem (by omega), List.getElem?_eq_getElem (by omega)] at e
    rw [Nat.zero_add, c0, c1]
    exact e⟩
/-- the slice at a is the row of block g, from its beginning, and holds l -/
def AtSh (w : World) (a : Option Addr) (g : Nat) (l : List ShT) : Prop := l = [] ∨ (a = some ⟨g, 0, none⟩ ∧ Row w g 38 (shv l))
/-- .. and the block is not below B -/
def OwnSh (w : World) (B : Nat) (a : Option Addr) (l : List ShT) : Prop := ∃ g, B ≤ g ∧ AtSh w a g l
/-- own memory below U -/
def OwnUSh (w : World) (B U : Nat) (a : Option Addr) (l : List ShT) : Prop := ∃ g, B ≤ g ∧ (l = [] ∨ g < U) ∧ AtSh w a g l
section
variable {w w' : World} {a : Option Addr} {g B U : Nat} {l : List ShT}
theorem AtSh.keep (h : AtSh w a g l) (e : g < w.heap.size → w'.heap[g]? = w.heap[g]?) : AtSh w' a g l := by
  rcases h with rfl | ⟨h1, h2⟩
  · exact .inl rfl
  · exact .inr ⟨h1, h2.of_block (e h2.lt)⟩
theorem AtSh.below (h : AtSh w a g l) (hb : Below w.heap.size w w') : AtSh w' a g l := h.keep fun hg => hb.block g hg
theorem AtSh.only {g' : Nat} (h : AtSh w a g l) (o : Only g' w w') (hne : g ≠ g') : AtSh w' a g l := h.keep fun hg => o.1.block g hg (by intro e; injection e with e; exact hne e)
theorem AtSh.reads (h : AtSh w a g l) : Shs w w.heap.size a l := by
  rcases h with rfl | ⟨rfl, h2⟩
  · exact .inl rfl
  · exact Shs.of_row h2
theorem OwnSh.below (h : OwnSh w B a l) (hb : Below w.heap.size w w') : OwnSh w' B a l := by obtain ⟨g, h1, h2⟩ := h; exact ⟨g, h1, h2.below hb⟩
theorem OwnSh.more {D : Nat} (h : OwnSh w B a l) (hc : D ≤ B) : OwnSh w D a l := by obtain ⟨g, h1, h2⟩ := h; exact ⟨g, by omega, h2⟩
theorem OwnSh.only {g' : Nat} (h : OwnSh w B a l) (o : Only g' w w') (hne : g' < B) : OwnSh w' B a l := by obtain ⟨g, h1, h2⟩ := h; exact ⟨g, h1, h2.only o (by omega)⟩
theorem OwnSh.reads (h : OwnSh w B a l) : Shs w w.heap.size a l := by obtain ⟨g, h1, h2⟩ := h; exact h2.reads
theorem OwnSh.none_ : OwnSh w B a [] := ⟨B, Nat.le_refl _, .inl rfl⟩
theorem OwnUSh.of (h : OwnSh w B a l) : OwnUSh w B w.heap.size a l := by
  obtain ⟨g, h1, h2⟩ := h
  refine ⟨g, h1, ?_, h2⟩
  rcases h2 with h2 | ⟨_, h2⟩
  · exact .inl h2
  · exact .inr h2.lt
theorem OwnUSh.below (h : OwnUSh w B U a l) (hb : Below w.heap.size w w') : OwnUSh w' B U a l := by
  obtain ⟨g, h1, h2, h3⟩ := h
  exact ⟨g, h1, h2, h3.below hb⟩
theorem OwnUSh.only {g' : Nat} (h : OwnUSh w B U a l) (o : Only g' w w') (hg : U ≤ g') : OwnUSh w' B U a l := by
  obtain ⟨g, h1, h2, h3⟩ := h
  rcases h2 with h2 | h2
  · exact ⟨g, h1, .inl h2, .inl h2⟩
  · exact ⟨g, h1, .inr h2, h3.only o (by omega)⟩
theorem OwnUSh.reads (h : OwnUSh w B U a l) : Shs w w.heap.size a l := by
  obtain ⟨g, _, _, h⟩ := h
  exact h.reads
end
end Go.Proofs.Ytjpiiidjocilcaa
