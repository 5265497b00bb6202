/- Rows of structs of 2 numbers (Motion) in memory. -/
import Derived.Test.YthceffkkokgpnaaIntRow
namespace Go.Proofs.Ythceffkkokgpnaa
open Go.RowKit
set_option linter.unusedVariables false
set_option linter.unusedSimpArgs false
abbrev MoT := Int × Int
/-- their cells -/
def mov (l : List MoT) : List Value := l.flatMap fun p => [.int .i64 p.1, .int .i64 p.2]
theorem mov_cons (q : MoT) (l : List MoT) : mov (q :: l) = .int .i64 q.1 :: .int .i64 q.2 :: mov l := rfl
theorem mov_append (l r : List MoT) : mov (l ++ r) = mov l ++ mov r := by unfold mov; rw [List.flatMap_append]
theorem mov_length (l : List MoT) : (mov l).length = l.length * 2 := by
  induction l with
  | nil => rfl
  | cons q r ih => rw [mov_cons]; simp [ih]; omega
theorem mov_get (l : List MoT) : ∀ (k : Nat) (h : k < l.length), (mov l)[k * 2]? = some (.int .i64 l[k].1) ∧ (mov l)[k * 2 + 1]? = some (.int .i64 l[k].2) := by
  induction l with
  | nil => intro k h; simp at h
  | cons q r ih =>
    intro k h
    rw [mov_cons]
    cases k with
    | zero => exact ⟨rfl, rfl⟩
    | succ k =>
      have h1 := ih k (by simpa using h)
      have e : (k + 1) * 2 = k * 2 + 1 + 1 := by omega
      rw [e]
      exact ⟨by simpa using h1.1, by simpa using h1.2⟩
theorem mov_one (l : List MoT) : ∀ u ∈ mov l, u.oneCell' = true := by
  intro u hu
  unfold mov at hu
  rw [List.mem_flatMap] at hu
  obtain ⟨q, _, hp⟩ := hu
  simp at hp
  rcases hp with rfl | rfl <;> rfl
/-- the slice's address leads to the elements l, in a block below B; of an empty list nothing is asked -/
def Mos (w : World) (B : Nat) (a : Option Addr) (l : List MoT) : Prop :=
  l = [] ∨ ∃ b o, a = some ⟨b, o, none⟩ ∧ b < B ∧ ∀ j (h : j < l.length), w.cell? ⟨b, o + j * 2, none⟩ = some (.int .i64 l[j].1) ∧ w.cell? ⟨b, o + j * 2 + 1, none⟩ = some (.int .i64 l[j].2)
section
variable {w w' : World} {B D : Nat} {a : Option Addr} {l : List MoT}
theorem Mos.at_ (h : Mos w B a l) {j : Nat} (hj : j < l.length) :
    ∃ b o, a = some ⟨b, o, none⟩ ∧ b < B ∧ w.cell? ⟨b, o + j * 2, none⟩ = some (.int .i64 l[j].1) ∧ w.cell? ⟨b, o + j * 2 + 1, none⟩ = some (.int .i64 l[j].2) := by
  rcases h with rfl | ⟨b, o, e, hb, hc⟩
  · simp at hj
  · exact ⟨b, o, e, hb, hc j hj⟩
theorem Mos.keep (h : Mos w B a l) (hk : ∀ q : Addr, q.block < B → w'.cell? q = w.cell? q) : Mos w' B a l := by
  rcases h with rfl | ⟨b, o, e, hb, hc⟩
  · exact .inl rfl
  · exact .inr ⟨b, o, e, hb, fun j hj => ⟨(hk ⟨b, o + j * 2, none⟩ hb).trans (hc j hj).1, (hk ⟨b, o + j * 2 + 1, none⟩ hb).trans (hc j hj).2⟩⟩
theorem Mos.below (h : Mos w B a l) (hb : Below D w w') (hB : B ≤ D) : Mos w' B a l := h.keep fun q hp => hb.cell (by omega)
theorem Mos.more (h : Mos w B a l) (hB : B ≤ D) : Mos w D a l := by
  rcases h with rfl | ⟨b, o, e, hb, hc⟩
  · exact .inl rfl
  · exact .inr ⟨b, o, e, by omega, hc⟩
theorem Mos.drew (h : Mos w B a l) (d : Drew w w') : Mos w' B a l := h.keep fun q _ => d.cell q
theorem mos_below (h : Mos w w.heap.size a l) (hb : Below w.heap.size w w') : Mos w' w'.heap.size a l := (h.below hb (Nat.le_refl _)).more hb.size
theorem mos_alloc (h : Mos w w.heap.size a l) (o : Obj) : Mos (w.alloc o) (w.alloc o).heap.size a l := mos_below h ((Below.refl _ _).alloc (Nat.le_refl _) o)
end
theorem mos_at {W : World} {b off len : Nat} (h : ∀ i, i < len → ∃ q : MoT, W.cell? ⟨b, off + i * 2, none⟩ = some (.int .i64 q.1) ∧ W.cell? ⟨b, off + i * 2 + 1, none⟩ = some (.int .i64 q.2)) :
    ∃ l : List MoT, l.length = len ∧ ∀ j (hj : j < l.length), W.cell? ⟨b, off + j * 2, none⟩ = some (.int .i64 l[j].1) ∧ W.cell? ⟨b, off + j * 2 + 1, none⟩ = some (.int .i64 l[j].2) := by
  induction len with
  | zero => exact ⟨[], rfl, fun j hj => by simp at hj⟩
  | succ n ih =>
    obtain ⟨l, h1, h2⟩ := ih (fun i hi => h i (by omega))
    obtain ⟨q, hp⟩ := h n (by omega)
    refine ⟨l ++ [q], by simp [h1], fun j hj => ?_⟩
    rw [List.length_append, List.length_singleton] at hj
    by_cases hjn : j < l.length
    · rw [List.getElem_append_left hjn]
      exact h2 j hjn
    · have : j = l.length := by omega
      subst this
      rw [List.getElem_append_right (Nat.le_refl _)]
      simp only [Nat.sub_self, List.getElem_cons_zero]
      rw [h1]
      exact hp
theorem mos_of {W : World} {x : Addr} {len : Nat} (h : ∀ i, i < len → ∃ q : MoT, W.cell? (x.add (i * 2)) = some (.int .i64 q.1) ∧ W.cell? (x.add (i * 2 + 1)) = some (.int .i64 q.2)) :
    ∃ l : List MoT, l.length = len ∧ Mos W W.heap.size (some x) l := by
  rcases Nat.eq_zero_or_pos len with h0 | h0
  · subst h0; exact ⟨[], rfl, .inl rfl⟩
  · obtain ⟨b, off, spot⟩ := x
    obtain ⟨q, hp0, hp1⟩ := h 0 h0
    have hspot : spot = none := by simpa [Addr.add] using World.cell?_spot hp0
    subst hspot
    have e2 : ∀ i, (⟨b, off, none⟩ : Addr).add i = ⟨b, off + i, none⟩ := fun i => by unfold Addr.add; split <;> simp_all
    have hb : b < W.heap.size := by
      rw [e2] at hp0
      rcases Nat.lt_or_ge b W.heap.size with h | h
      · exact h
      · simp [World.cell?, Array.getElem?_eq_none h] at hp0
    obtain ⟨l, h1, h2⟩ := mos_at (W := W) (b := b) (off := off) (len := len) (fun i hi => by
      obtain ⟨q, hp0, hp1⟩ := h i hi
      rw [e2] at hp0 hp1
      exact ⟨q, hp0, by rw [Nat.add_assoc]; exact hp1⟩)
    exact ⟨l, h1, .inr ⟨b, off, rfl, hb, h2⟩⟩
theorem Mos.of_row {w : World} {g : Nat} {t : TypeId} {l : List MoT} (h : Row w g t (mov l)) : Mos w w.heap.size (some ⟨g, 0, none⟩) l :=
  .inr ⟨g, 0, rfl, h.lt, fun j hj => by
    have hl := mov_length l
    have e := mov_get l j hj
    have c0 := h.cell (k := j * 2) (by omega)
    have c1 := h.cell (k := j * 2 + 1) (by omega)
    rw [List.getElem?_eq_getElem (by omega), List.getElem?_eq_getElem (by omega)] at e
    rw [Nat.zero_add, c0, c1]
    exact e⟩
/-- the slice at a is the row of block g, from its beginning, and holds l -/
def AtMo (w : World) (a : Option Addr) (g : Nat) (l : List MoT) : Prop := l = [] ∨ (a = some ⟨g, 0, none⟩ ∧ Row w g 83 (mov l))
/-- .. and the block is not below B -/
def OwnMo (w : World) (B : Nat) (a : Option Addr) (l : List MoT) : Prop := ∃ g, B ≤ g ∧ AtMo w a g l
/-- own memory below U -/
def OwnUMo (w : World) (B U : Nat) (a : Option Addr) (l : List MoT) : Prop := ∃ g, B ≤ g ∧ (l = [] ∨ g < U) ∧ AtMo w a g l
section
variable {w w' : World} {a : Option Addr} {g B U : Nat} {l : List MoT}
theorem AtMo.keep (h : AtMo w a g l) (e : g < w.heap.size → w'.heap[g]? = w.heap[g]?) : AtMo w' a g l := by
  rcases h with rfl | ⟨h1, h2⟩
  · exact .inl rfl
  · exact .inr ⟨h1, h2.of_block (e h2.lt)⟩
theorem AtMo.below (h : AtMo w a g l) (hb : Below w.heap.size w w') : AtMo w' a g l := h.keep fun hg => hb.block g hg
theorem AtMo.only {g' : Nat} (h : AtMo w a g l) (o : Only g' w w') (hne : g ≠ g') : AtMo w' a g l := h.keep fun hg => o.1.block g hg (by intro e; injection e with e; exact hne e)
theorem AtMo.reads (h : AtMo w a g l) : Mos w w.heap.size a l := by
  rcases h with rfl | ⟨rfl, h2⟩
  · exact .inl rfl
  · exact Mos.of_row h2
theorem OwnMo.below (h : OwnMo w B a l) (hb : Below w.heap.size w w') : OwnMo w' B a l := by obtain ⟨g, h1, h2⟩ := h; exact ⟨g, h1, h2.below hb⟩
theorem OwnMo.more {D : Nat} (h : OwnMo w B a l) (hc : D ≤ B) : OwnMo w D a l := by obtain ⟨g, h1, h2⟩ := h; exact ⟨g, by omega, h2⟩
theorem OwnMo.only {g' : Nat} (h : OwnMo w B a l) (o : Only g' w w') (hne : g' < B) : OwnMo w' B a l := by obtain ⟨g, h1, h2⟩ := h; exact ⟨g, h1, h2.only o (by omega)⟩
theorem OwnMo.reads (h : OwnMo w B a l) : Mos w w.heap.size a l := by obtain ⟨g, h1, h2⟩ := h; exact h2.reads
theorem OwnMo.none_ : OwnMo w B a [] := ⟨B, Nat.le_refl _, .inl rfl⟩
theorem OwnUMo.of (h : OwnMo w B a l) : OwnUMo w B w.heap.size a l := by
  obtain ⟨g, h1, h2⟩ := h
  refine ⟨g, h1, ?_, h2⟩
  rcases h2 with h2 | ⟨_, h2⟩
  · exact .inl h2
  · exact .inr h2.lt
theorem OwnUMo.below (h : OwnUMo w B U a l) (hb : Below w.heap.size w w') : OwnUMo w' B U a l := by
  obtain ⟨g, h1, h2, h3⟩ := h
  exact ⟨g, h1, h2, h3.below hb⟩
theorem OwnUMo.only {g' : Nat} (h : OwnUMo w B U a l) (o : Only g' w w') (hg : U ≤ g') : OwnUMo w' B U a l := by
  obtain ⟨g, h1, h2, h3⟩ := h
  rcases h2 with h2 | h2
  · exact ⟨g, h1, .inl h2, .inl h2⟩
  · exact ⟨g, h1, .inr h2, h3.only o (by omega)⟩
theorem OwnUMo.reads (h : OwnUMo w B U a l) : Mos w w.heap.size a l := by
  obtain ⟨g, _, _, h⟩ := h
  exact h.reads
end
end Go.Proofs.Ythceffkkokgpnaa
