/- Rows of fields in memory, each field with its cells. -/
import Derived.Test.YthceffkkokgpnaaFieldLaw
import Derived.Test.YthceffkkokgpnaaBox
namespace Go.Proofs.Ythceffkkokgpnaa
open Go.RowKit
set_option linter.unusedVariables false
set_option linter.unusedSimpArgs false
/-- a field in memory: its sizes, its cells' slice, what that reads, and the block where it lies if it is of the call's own -/
structure FE where
  wd : Int
  hg : Int
  ad : Option Addr
  l : List Int
  c : Nat
  g : Nat
def FE.flat (e : FE) : List Value := [.int .i64 e.wd, .int .i64 e.hg, .slice e.ad e.l.length e.c]
def FE.plain (e : FE) : Int × Int × List Int := (e.wd, e.hg, e.l)
def fvs (es : List FE) : List Value := es.flatMap FE.flat
theorem fvs_cons (e : FE) (es : List FE) : fvs (e :: es) = .int .i64 e.wd :: .int .i64 e.hg :: .slice e.ad e.l.length e.c :: fvs es := rfl
theorem fvs_append (l r : List FE) : fvs (l ++ r) = fvs l ++ fvs r := by unfold fvs; rw [List.flatMap_append]
theorem fvs_length (l : List FE) : (fvs l).length = l.length * 3 := by
  induction l with
  | nil => rfl
  | cons p r ih => rw [fvs_cons]; simp [ih]; omega
theorem fvs_get (l : List FE) : ∀ (k : Nat) (h : k < l.length), (fvs l)[k * 3]? = some (.int .i64 l[k].wd) ∧ (fvs l)[k * 3 + 1]? = some (.int .i64 l[k].hg) ∧ (fvs l)[k * 3 + 2]? = some (.slice l[k].ad l[k].l.length l[k].c) := by
  induction l with
  | nil => intro k h; simp at h
  | cons p r ih =>
    intro k h
    rw [fvs_cons]
    cases k with
    | zero => exact ⟨rfl, rfl, rfl⟩
    | succ k =>
      have h1 := ih k (by simpa using h)
      have e : (k + 1) * 3 = k * 3 + 1 + 1 + 1 := by omega
      rw [e]
      exact ⟨by simpa using h1.1, by simpa using h1.2.1, by simpa using h1.2.2⟩
theorem fvs_one (l : List FE) : ∀ u ∈ fvs l, u.oneCell' = true := by
  intro u hu
  unfold fvs at hu
  rw [List.mem_flatMap] at hu
  obtain ⟨p, _, hp⟩ := hu
  simp [FE.flat] at hp
  rcases hp with rfl | rfl | rfl <;> rfl
theorem fvs_set (l : List FE) : ∀ (k : Nat) (e : FE), k < l.length → (((fvs l).set (k * 3) (.int .i64 e.wd)).set (k * 3 + 1) (.int .i64 e.hg)).set (k * 3 + 2) (.slice e.ad e.l.length e.c) = fvs (l.set k e) := by
  induction l with
  | nil => intro k e h; simp at h
  | cons p r ih =>
    intro k e h
    cases k with
    | zero => rfl
    | succ k =>
      have e3 : (k + 1) * 3 = k * 3 + 1 + 1 + 1 := by omega
      rw [fvs_cons, e3]
      show Value.int .i64 p.wd :: Value.int .i64 p.hg :: Value.slice p.ad p.l.length p.c :: (((fvs r).set (k * 3) (.int .i64 e.wd)).set (k * 3 + 1) (.int .i64 e.hg)).set (k * 3 + 2) (.slice e.ad e.l.length e.c) = _
      rw [ih k e (by simpa using h)]
      rfl
/-- the slice's address leads to the fields es, in a block below B, and so do their cells -/
def Flds (w : World) (B : Nat) (a : Option Addr) (es : List FE) : Prop :=
  es = [] ∨ ∃ b o, a = some ⟨b, o, none⟩ ∧ b < B ∧ ∀ j (h : j < es.length), w.cell? ⟨b, o + j * 3, none⟩ = some (.int .i64 es[j].wd) ∧ w.cell? ⟨b, o + j * 3 + 1, none⟩ = some (.int .i64 es[j].hg) ∧ w.cell? ⟨b, o + j * 3 + 2, none⟩ = some (.slice es[j].ad es[j].l.length es[j].c) ∧ Ints .i64 w B es[j].ad es[j].l
section
variable {w w' : World} {B C : Nat} {a : Option Addr} {es : List FE}
theorem Flds.at_ (h : Flds w B a es) {j : Nat} (hj : j < es.length) :
    ∃ b o, a = some ⟨b, o, none⟩ ∧ b < B ∧ w.cell? ⟨b, o + j * 3, none⟩ = some (.int .i64 es[j].wd) ∧ w.cell? ⟨b, o + j * 3 + 1, none⟩ = some (.int .i64 es[j].hg) ∧ w.cell? ⟨b, o + j * 3 + 2, none⟩ = some (.slice es[j].ad es[j].l.length es[j].c) ∧ Ints .i64 w B es[j].ad es[j].l := by
  rcases h with rfl | ⟨b, o, e, hb, hc⟩
  · simp at hj
  · exact ⟨b, o, e, hb, hc j hj⟩
theorem Flds.keep (h : Flds w B a es) (hk : ∀ p : Addr, p.block < B → w'.cell? p = w.cell? p) : Flds w' B a es := by
  rcases h with rfl | ⟨b, o, e, hb, hc⟩
  · exact .inl rfl
  · refine .inr ⟨b, o, e, hb, fun j hj => ?_⟩
    obtain ⟨h1, h2, h3, h4⟩ := hc j hj
    exact ⟨(hk ⟨b, _, none⟩ hb).trans h1, (hk ⟨b, _, none⟩ hb).trans h2, (hk ⟨b, _, none⟩ hb).trans h3, h4.keep hk⟩
theorem Flds.below (h : Flds w B a es) (hb : Below C w w') (hB : B ≤ C) : Flds w' B a es := h.keep fun p hp => hb.cell (by omega)
theorem Flds.more (h : Flds w B a es) (hB : B ≤ C) : Flds w C a es := by
  rcases h with rfl | ⟨b, o, e, hb, hc⟩
  · exact .inl rfl
  · refine .inr ⟨b, o, e, by omega, fun j hj => ?_⟩
    obtain ⟨h1, h2, h3, h4⟩ := hc j hj
    exact ⟨h1, h2, h3, h4.more hB⟩
theorem Flds.drew (h : Flds w B a es) (d : Drew w w') : Flds w' B a es := h.keep fun p _ => d.cell p
theorem Flds.turn {g : Nat} (h : Flds w B a es) (o : w.grownBy w' (some g)) (hB : B ≤ g) (hw : B ≤ w.heap.size) : Flds w' B a es :=
  h.keep fun p hp => World.cell?_of_block (o.block p.block (by omega) (by intro e; injection e with e; omega))
theorem flds_below (h : Flds w w.heap.size a es) (hb : Below w.heap.size w w') : Flds w' w'.heap.size a es := (h.below hb (Nat.le_refl _)).more hb.size
theorem flds_alloc (h : Flds w w.heap.size a es) (o : Obj) : Flds (w.alloc o) (w.alloc o).heap.size a es := flds_below h ((Below.refl _ _).alloc (Nat.le_refl _) o)
end
theorem flds_at {W : World} {B b off len : Nat} (h : ∀ i, i < len → ∃ e : FE, W.cell? ⟨b, off + i * 3, none⟩ = some (.int .i64 e.wd) ∧ W.cell? ⟨b, off + i * 3 + 1, none⟩ = some (.int .i64 e.hg) ∧ W.cell? ⟨b, off + i * 3 + 2, none⟩ = some (.slice e.ad e.l.length e.c) ∧ Ints .i64 W B e.ad e.l) :
    ∃ l : List FE, l.length = len ∧ ∀ j (hj : j < l.length), W.cell? ⟨b, off + j * 3, none⟩ = some (.int .i64 l[j].wd) ∧ W.cell? ⟨b, off + j * 3 + 1, none⟩ = some (.int .i64 l[j].hg) ∧ W.cell? ⟨b, off + j * 3 + 2, none⟩ = some (.slice l[j].ad l[j].l.length l[j].c) ∧ Ints .i64 W B l[j].ad l[j].l := by
  induction len with
  | zero => exact ⟨[], rfl, fun j hj => by simp at hj⟩
  | succ n ih =>
    obtain ⟨l, h1, h2⟩ := ih (fun i hi => h i (by omega))
    obtain ⟨p, hp⟩ := h n (by omega)
    refine ⟨l ++ [p], by simp [h1], fun j hj => ?_⟩
    rw [List.length_append, List.length_singleton] at hj
    by_cases hjn : j < l.length
    · rw [List.getElem_append_left hjn]
      exact h2 j hjn
    · have : j = l.length := by omega
      subst this
      rw [List.getElem_append_right (Nat.le_refl _)]
      simp only [Nat.sub_self, List.getElem_cons_zero]
      rw [h1]
      exact hp
/-- the row of fields at block g, from its beginning -/
theorem Flds.of_row {w : World} {g B : Nat} {t : TypeId} {es : List FE} (h : Row w g t (fvs es)) (hg : g < B) (hi : ∀ e ∈ es, Ints .i64 w B e.ad e.l) : Flds w B (some ⟨g, 0, none⟩) es :=
  .inr ⟨g, 0, rfl, hg, fun j hj => by
    have hl := fvs_length es
    have h1 := h.cell (k := j * 3) (by omega)
    have h2 := h.cell (k := j * 3 + 1) (by omega)
    have h3 := h.cell (k := j * 3 + 2) (by omega)
    have e := fvs_get es j hj
    rw [List.getElem?_eq_getElem (by omega), List.getElem?_eq_getElem (by omega), List.getElem?_eq_getElem (by omega)] at e
    rw [Nat.zero_add, h1, h2, h3]
    exact ⟨e.1, e.2.1, e.2.2, hi _ (List.getElem_mem hj)⟩⟩
/-- fields whose cells are rows of their own, in blocks from B on, below U, no two in one -/
structure Fb (w : World) (B U : Nat) (es : List FE) : Prop where
  row : ∀ j (h : j < es.length), B ≤ es[j].g ∧ es[j].g < U ∧ At w es[j].ad es[j].g es[j].l
  ne : ∀ i j (hi : i < es.length) (hj : j < es.length), i ≠ j → es[i].g ≠ es[j].g
section
variable {w w' : World} {B U : Nat} {es : List FE}
theorem Fb.nil : Fb w B U [] := ⟨fun j h => by simp at h, fun i j h => by simp at h⟩
theorem Fb.keep (h : Fb w B U es) (k : ∀ g, B ≤ g → g < U → g < w.heap.size → w'.heap[g]? = w.heap[g]?) : Fb w' B U es :=
  ⟨fun j h1 => by obtain ⟨a, b, c⟩ := h.row j h1; exact ⟨a, b, c.keep fun hl => k _ a b hl⟩, h.ne⟩
theorem Fb.below {C : Nat} (h : Fb w B U es) (hb : Below C w w') (hC : U ≤ C) : Fb w' B U es := h.keep fun g _ h2 _ => hb.block g (by omega)
theorem Fb.turn {g : Nat} (h : Fb w B U es) (o : w.grownBy w' (some g)) (hg : U ≤ g) : Fb w' B U es := h.keep fun k _ h2 h3 => o.block k h3 (by intro e; injection e with e; omega)
theorem Fb.past {g : Nat} (h : Fb w B U es) (o : w.grownBy w' (some g)) (hg : g < B) : Fb w' B U es := h.keep fun k h1 _ h3 => o.block k h3 (by intro e; injection e with e; omega)
theorem Fb.more {C V : Nat} (h : Fb w B U es) (hB : C ≤ B) (hV : U ≤ V) : Fb w C V es := ⟨fun j h1 => by obtain ⟨a, b, c⟩ := h.row j h1; exact ⟨by omega, by omega, c⟩, h.ne⟩
theorem Fb.snoc {e : FE} (h : Fb w B U es) (hB : B ≤ e.g) (hU : U ≤ e.g) (hr : At w e.ad e.g e.l) : Fb w B (e.g + 1) (es ++ [e]) := by
  refine ⟨fun j h1 => ?_, fun i j hi hj hne => ?_⟩
  · rw [List.length_append, List.length_singleton] at h1
    by_cases e1 : j < es.length
    · rw [List.getElem_append_left e1]
      obtain ⟨a, b, c⟩ := h.row j e1
      exact ⟨a, by omega, c⟩
    · rw [List.getElem_append_right (by omega)]
      simp only [show j - es.length = 0 by omega, List.getElem_singleton]
      exact ⟨hB, Nat.lt_succ_self _, hr⟩
  · rw [List.length_append, List.length_singleton] at hi hj
    have get : ∀ k (hk : k < (es ++ [e]).length), k < es.length → (es ++ [e])[k].g < U := by
      intro k hk h1
      rw [List.getElem_append_left h1]
      exact (h.row k h1).2.1
    have last : ∀ k (hk : k < (es ++ [e]).length), ¬ k < es.length → (es ++ [e])[k].g = e.g := by
      intro k hk h1
      have hk2 : k < es.length + 1 := by simpa using hk
      rw [List.getElem_append_right (by omega)]
      simp only [show k - es.length = 0 by omega, List.getElem_singleton]
    by_cases e1 : i < es.length <;> by_cases e2 : j < es.length
    · rw [List.getElem_append_left e1, List.getElem_append_left e2]; exact h.ne i j e1 e2 hne
    · have := get i (by simp; omega) e1; have := last j (by simp; omega) e2; omega
    · have := get j (by simp; omega) e2; have := last i (by simp; omega) e1; omega
    · omega
theorem Fb.ints (h : Fb w B U es) {j : Nat} (h1 : j < es.length) : Ints .i64 w U es[j].ad es[j].l := by
  obtain ⟨_, h4, h5⟩ := h.row j h1
  exact h5.intsB h4
end
/-- a list of fields of the call's own: the row at block g, and the cells -/
structure OwnFs (w : World) (B U g : Nat) (es : List FE) : Prop where
  r : Row w g 54 (fvs es)
  b : B ≤ g
  u : g < U
  f : Fb w B U es
  n : ∀ j (h : j < es.length), es[j].g ≠ g
section
variable {w w' : World} {B U g : Nat} {es : List FE}
theorem OwnFs.below {C : Nat} (h : OwnFs w B U g es) (hb : Below C w w') (hC : U ≤ C) : OwnFs w' B U g es := ⟨h.r.of_block (hb.block g (by have := h.u; omega)), h.b, h.u, h.f.below hb hC, h.n⟩
theorem OwnFs.turn {k : Nat} (h : OwnFs w B U g es) (o : w.grownBy w' (some k)) (hg : U ≤ k) : OwnFs w' B U g es :=
  ⟨h.r.of_block (o.block g h.r.lt (by intro e; injection e with e; have := h.u; omega)), h.b, h.u, h.f.turn o hg, h.n⟩
theorem OwnFs.past {k : Nat} (h : OwnFs w B U g es) (o : w.grownBy w' (some k)) (hg : k < B) : OwnFs w' B U g es :=
  ⟨h.r.of_block (o.block g h.r.lt (by intro e; injection e with e; have := h.b; omega)), h.b, h.u, h.f.past o hg, h.n⟩
theorem OwnFs.drew (h : OwnFs w B U g es) (d : Drew w w') : OwnFs w' B U g es := h.below (d.below U) (Nat.le_refl _)
theorem OwnFs.more {C V : Nat} (h : OwnFs w B U g es) (hB : C ≤ B) (hV : U ≤ V) : OwnFs w C V g es := ⟨h.r, by have := h.b; omega, by have := h.u; omega, h.f.more hB hV, h.n⟩
theorem OwnFs.flds (h : OwnFs w B U g es) : Flds w U (some ⟨g, 0, none⟩) es :=
  Flds.of_row h.r h.u fun e he => by obtain ⟨j, hj, rfl⟩ := List.getElem_of_mem he; exact h.f.ints hj
end
end Go.Proofs.Ythceffkkokgpnaa
