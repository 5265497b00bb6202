/- Rows of structs of 3 numbers (classGroup) in memory. -/
import Derived.Test.YtjpiiidjocilcaaIntRow
namespace Go.Proofs.Ytjpiiidjocilcaa
open Go.RowKit
set_option linter.unusedVariables false
set_option linter.unusedSimpArgs false
abbrev CgT := Int × Int × Int
/-- their cells -/
def cgv (l : List CgT) : List Value := l.flatMap fun p => [.int .i64 p.1, .int .i64 p.2.1, .int .i64 p.2.2]
theorem cgv_cons (q : CgT) (l : List CgT) : cgv (q :: l) = .int .i64 q.1 :: .int .i64 q.2.1 :: .int .i64 q.2.2 :: cgv l := rfl
theorem cgv_append (l r : List CgT) : cgv (l ++ r) = cgv l ++ cgv r := by unfold cgv; rw [List.flatMap_append]
theorem cgv_length (l : List CgT) : (cgv l).length = l.length * 3 := by
  induction l with
  | nil => rfl
  | cons q r ih => rw [cgv_cons]; simp [ih]; omega
theorem cgv_get (l : List CgT) : ∀ (k : Nat) (h : k < l.length), (cgv l)[k * 3]? = some (.int .i64 l[k].1) ∧ (cgv l)[k * 3 + 1]? = some (.int .i64 l[k].2.1) ∧ (cgv l)[k * 3 + 2]? = some (.int .i64 l[k].2.2) := by
  induction l with
  | nil => intro k h; simp at h
  | cons q r ih =>
    intro k h
    rw [cgv_cons]
    cases k with
    | zero => exact ⟨rfl, rfl, rfl⟩
    | succ k =>
      have h1 := ih k (by simpa using h)
      have e : (k + 1) * 3 = k * 3 + 1 + 1 + 1 := by omega
      rw [e]
      exact ⟨by simpa using h1.1, by simpa using h1.2.1, by simpa using h1.2.2⟩
theorem cgv_one (l : List CgT) : ∀ u ∈ cgv l, u.oneCell' = true := by
  intro u hu
  unfold cgv at hu
  rw [List.mem_flatMap] at hu
  obtain ⟨q, _, hp⟩ := hu
  simp at hp
  rcases hp with rfl | rfl | rfl <;> rfl
/-- the slice's address leads to the elements l, in a block below B; of an empty list nothing is asked -/
def Cgs (w : World) (B : Nat) (a : Option Addr) (l : List CgT) : Prop :=
  l = [] ∨ ∃ b o, a = some ⟨b, o, none⟩ ∧ b < B ∧ ∀ j (h : j < l.length), w.cell? ⟨b, o + j * 3, none⟩ = some (.int .i64 l[j].1) ∧ w.cell? ⟨b, o + j * 3 + 1, none⟩ = some (.int .i64 l[j].2.1) ∧ w.cell? ⟨b, o + j * 3 + 2, none⟩ = some (.int .i64 l[j].2.2)
section
variable {w w' : World} {B D : Nat} {a : Option Addr} {l : List CgT}
theorem Cgs.at_ (h : Cgs w B a l) {j : Nat} (hj : j < l.length) :
    ∃ b o, a = some ⟨b, o, none⟩ ∧ b < B ∧ w.cell? ⟨b, o + j * 3, none⟩ = some (.int .i64 l[j].1) ∧ w.cell? ⟨b, o + j * 3 + 1, none⟩ = some (.int .i64 l[j].2.1) ∧ w.cell? ⟨b, o + j * 3 + 2, none⟩ = some (.int .i64 l[j].2.2) := by
  rcases h with rfl | ⟨b, o, e, hb, hc⟩
  · simp at hj
  · exact ⟨b, o, e, hb, hc j hj⟩
theorem Cgs.keep (h : Cgs w B a l) (hk : ∀ q : Addr, q.block < B → w'.cell? q = w.cell? q) : Cgs w' B a l := by
  rcases h with rfl | ⟨b, o, e, hb, hc⟩
  · exact .inl rfl
  · exact .inr ⟨b, o, e, hb, fun j hj => ⟨(hk ⟨b, o + j * 3, none⟩ hb).trans (hc j hj).1, (hk ⟨b, o + j * 3 + 1, none⟩ hb).trans (hc j hj).2.1, (hk ⟨b, o + j * 3 + 2, none⟩ hb).trans (hc j hj).2.2⟩⟩
theorem Cgs.below (h : Cgs w B a l) (hb : Below D w w') (hB : B ≤ D) : Cgs w' B a l := h.keep fun q hp => hb.cell (by omega)
theorem Cgs.more (h : Cgs w B a l) (hB : B ≤ D) : Cgs w D a l := by
  rcases h with rfl | ⟨b, o, e, hb, hc⟩
  · exact .inl rfl
  · exact .inr ⟨b, o, e, by omega, hc⟩
theorem Cgs.drew (h : Cgs w B a l) (d : Drew w w') : Cgs w' B a l := h.keep fun q _ => d.cell q
theorem cgs_below (h : Cgs w w.heap.size a l) (hb : Below w.heap.size w w') : Cgs w' w'.heap.size a l := (h.below hb (Nat.le_refl _)).more hb.size
theorem cgs_alloc (h : Cgs w w.heap.size a l) (o : Obj) : Cgs (w.alloc o) (w.alloc o).heap.size a l := cgs_below h ((Below.refl _ _).alloc (Nat.le_refl _) o)
end
theorem cgs_at {W : World} {b off len : Nat} (h : ∀ i, i < len → ∃ q : CgT, W.cell? ⟨b, off + i * 3, none⟩ = some (.int .i64 q.1) ∧ W.cell? ⟨b, off + i * 3 + 1, none⟩ = some (.int .i64 q.2.1) ∧ W.cell? ⟨b, off + i * 3 + 2, none⟩ = some (.int .i64 q.2.2)) :
    ∃ l : List CgT, l.length = len ∧ ∀ j (hj : j < l.length), W.cell? ⟨b, off + j * 3, none⟩ = some (.int .i64 l[j].1) ∧ W.cell? ⟨b, off + j * 3 + 1, none⟩ = some (.int .i64 l[j].2.1) ∧ W.cell? ⟨b, off + j * 3 + 2, none⟩ = some (.int .i64 l[j].2.2) := by
  induction len with
  | zero => exact ⟨[], rfl, fun j hj => by simp at hj⟩
  | succ n ih =>
    obtain ⟨l, h1, h2⟩ := ih (fun i hi => h i (by omega))
    obtain ⟨q, hp⟩ := h n (by omega)
    refine ⟨l ++ [q], by simp [h1], fun j hj => ?_⟩
    rw [List.length_append, List.length_singleton] at hj
    by_cases hjn : j < l.length
    · rw [List.getElem_append_left hjn]
      exact h2 j hjn
    · have : j = l.length := by omega
      subst this
      rw [List.getElem_append_right (Nat.le_refl _)]
      simp only [Nat.sub_self, List.getElem_cons_zero]
      rw [h1]
      exact hp
theorem cgs_of {W : World} {x : Addr} {len : Nat} (h : ∀ i, i < len → ∃ q : CgT, W.cell? (x.add (i * 3)) = some (.int .i64 q.1) ∧ W.cell? (x.add (i * 3 + 1)) = some (.int .i64 q.2.1) ∧ W.cell? (x.add (i * 3 + 2)) = some (.int .i64 q.2.2)) :
    ∃ l : List CgT, l.length = len ∧ Cgs W W.heap.size (some x) l := by
  rcases Nat.eq_zero_or_pos len with h0 | h0
  · subst h0; exact ⟨[], rfl, .inl rfl⟩
  · obtain ⟨b, off, spot⟩ := x
    obtain ⟨q, hp0, hp1, hp2⟩ := h 0 h0
    have hspot : spot = none := by simpa [Addr.add] using World.cell?_spot hp0
    subst hspot
    have e2 : ∀ i, (⟨b, off, none⟩ : Addr).add i = ⟨b, off + i, none⟩ := fun i => by unfold Addr.add; split <;> simp_all
    have hb : b < W.heap.size := by
      rw [e2] at hp0
      rcases Nat.lt_or_ge b W.heap.size with h | h
      · exact h
      · simp [World.cell?, Array.getElem?_eq_none h] at hp0
    obtain ⟨l, h1, h2⟩ := cgs_at (W := W) (b := b) (off := off) (len := len) (fun i hi => by
      obtain ⟨q, hp0, hp1, hp2⟩ := h i hi
      rw [e2] at hp0 hp1 hp2
      exact ⟨q, hp0, by rw [Nat.add_assoc]; exact hp1, by rw [Nat.add_assoc]; exact hp2⟩)
    exact ⟨l, h1, .inr ⟨b, off, rfl, hb, h2⟩⟩
theorem Cgs.of_row {w : World} {g : Nat} {t : TypeId} {l : List CgT} (h : Row w g t (cgv l)) : Cgs w w.heap.size (some ⟨g, 0, none⟩) l :=
  .inr ⟨g, 0, rfl, h.lt, fun j hj => by
    have hl := cgv_length l
    have e := cgv_get l j hj
    have c0 := h.cell (k := j * 3) (by omega)
    have c1 := h.cell (k := j * 3 + 1) (by omega)
    have c2 := h.cell (k := j * 3 + 2) (by omega)
    rw [List.getElem?_eq_getElem (by omega), List.getElem?_eq_getElem (by omega), List.getElem?_eq_getElem (by omega)] at e
    rw [Nat.zero_add, c0, c1, c2]
    exact e⟩
/-- the slice at a is the row of block g, from its beginning, and holds l -/
def AtCg (w : World) (a : Option Addr) (g : Nat) (l : List CgT) : Prop := l = [] ∨ (a = some ⟨g, 0, none⟩ ∧ Row w g 83 (cgv l))
/-- .. and the block is not below B -/
def OwnCg (w : World) (B : Nat) (a : Option Addr) (l : List CgT) : Prop := ∃ g, B ≤ g ∧ AtCg w a g l
/-- own memory below U -/
def OwnUCg (w : World) (B U : Nat) (a : Option Addr) (l : List CgT) : Prop := ∃ g, B ≤ g ∧ (l = [] ∨ g < U) ∧ AtCg w a g l
section
variable {w w' : World} {a : Option Addr} {g B U : Nat} {l : List CgT}
theorem AtCg.keep (h : AtCg w a g l) (e : g < w.heap.size → w'.heap[g]? = w.heap[g]?) : AtCg w' a g l := by
  rcases h with rfl | ⟨h1, h2⟩
  · exact .inl rfl
  · exact .inr ⟨h1, h2.of_block (e h2.lt)⟩
theorem AtCg.below (h : AtCg w a g l) (hb : Below w.heap.size w w') : AtCg w' a g l := h.keep fun hg => hb.block g hg
theorem AtCg.only {g' : Nat} (h : AtCg w a g l) (o : Only g' w w') (hne : g ≠ g') : AtCg w' a g l := h.keep fun hg => o.1.block g hg (by intro e; injection e with e; exact hne e)
theorem AtCg.reads (h : AtCg w a g l) : Cgs w w.heap.size a l := by
  rcases h with rfl | ⟨rfl, h2⟩
  · exact .inl rfl
  · exact Cgs.of_row h2
theorem OwnCg.below (h : OwnCg w B a l) (hb : Below w.heap.size w w') : OwnCg w' B a l := by obtain ⟨g, h1, h2⟩ := h; exact ⟨g, h1, h2.below hb⟩
theorem OwnCg.more {D : Nat} (h : OwnCg w B a l) (hc : D ≤ B) : OwnCg w D a l := by obtain ⟨g, h1, h2⟩ := h; exact ⟨g, by omega, h2⟩
theorem OwnCg.only {g' : Nat} (h : OwnCg w B a l) (o : Only g' w w') (hne : g' < B) : OwnCg w' B a l := by obtain ⟨g, h1, h2⟩ := h; exact ⟨g, h1, h2.only o (by omega)⟩
theorem OwnCg.reads (h : OwnCg w B a l) : Cgs w w.heap.size a l := by obtain ⟨g, h1, h2⟩ := h; exact h2.reads
theorem OwnCg.none_ : OwnCg w B a [] := ⟨B, Nat.le_refl _, .inl rfl⟩
theorem OwnUCg.of (h : OwnCg w B a l) : OwnUCg w B w.heap.size a l := by
  obtain ⟨g, h1, h2⟩ := h
  refine ⟨g, h1, ?_, h2⟩
  rcases h2 with h2 | ⟨_, h2⟩
  · exact .inl h2
  · exact .inr h2.lt
theorem OwnUCg.below (h : OwnUCg w B U a l) (hb : Below w.heap.size w w') : OwnUCg w' B U a l := by
  obtain ⟨g, h1, h2, h3⟩ := h
  exact ⟨g, h1, h2, h3.below hb⟩
theorem OwnUCg.only {g' : Nat} (h : OwnUCg w B U a l) (o : Only g' w w') (hg : U ≤ g') : OwnUCg w' B U a l := by
  obtain ⟨g, h1, h2, h3⟩ := h
  rcases h2 with h2 | h2
  · exact ⟨g, h1, .inl h2, .inl h2⟩
  · exact ⟨g, h1, .inr h2, h3.only o (by omega)⟩
theorem OwnUCg.reads (h : OwnUCg w B U a l) : Cgs w w.heap.size a l := by
  obtain ⟨g, _, _, h⟩ := h
  exact h.reads
end
end Go.Proofs.Ytjpiiidjocilcaa
