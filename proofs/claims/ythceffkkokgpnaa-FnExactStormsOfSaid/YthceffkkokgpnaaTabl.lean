/- Tables: a list of rows of numbers, each row and the list in memory of their own; what the laws do with them: eqIntSS, markIntSS, heldIntSS. -/
import Derived.Test.YthceffkkokgpnaaFieldLaw
import Derived.Test.YthceffkkokgpnaaBox
import Derived.Test.YthceffkkokgpnaaMake
import Derived.Deep.RegionHeld3
namespace Go.Proofs.Ythceffkkokgpnaa
open Go.RowKit
set_option linter.unusedVariables false
set_option linter.unusedSimpArgs false
/-- a row's slice: its block and its capacity -/
def entV (e : Nat × Nat) (l : List Int) : Value := .slice (some ⟨e.1, 0, none⟩) l.length e.2
def tabV (E : List (Nat × Nat)) (R : List (List Int)) : List Value := List.zipWith entV E R
theorem tabV_len {E : List (Nat × Nat)} {R : List (List Int)} (h : E.length = R.length) : (tabV E R).length = R.length := by unfold tabV; rw [List.length_zipWith]; omega
theorem tabV_snoc {E : List (Nat × Nat)} {R : List (List Int)} (h : E.length = R.length) (e : Nat × Nat) (l : List Int) : tabV (E ++ [e]) (R ++ [l]) = tabV E R ++ [entV e l] := by
  unfold tabV; rw [List.zipWith_append h]; rfl
/-- the rows of a table, in blocks from B on, below U, no two in one -/
structure Tb (w : World) (B U : Nat) (E : List (Nat × Nat)) (R : List (List Int)) : Prop where
  len : E.length = R.length
  row : ∀ j (h1 : j < E.length) (h2 : j < R.length), B ≤ E[j].1 ∧ E[j].1 < U ∧ Row w E[j].1 3 (iv R[j])
  ne : ∀ i j (hi : i < E.length) (hj : j < E.length), i ≠ j → E[i].1 ≠ E[j].1
section
variable {w w' : World} {B U : Nat} {E : List (Nat × Nat)} {R : List (List Int)}
theorem Tb.nil : Tb w B U [] [] := ⟨rfl, fun j h => by simp at h, fun i j h => by simp at h⟩
theorem Tb.keep (h : Tb w B U E R) (k : ∀ g, B ≤ g → g < U → g < w.heap.size → (∃ vs, Row w g 3 vs) → w'.heap[g]? = w.heap[g]?) : Tb w' B U E R :=
  ⟨h.len, fun j h1 h2 => by obtain ⟨a, b, c⟩ := h.row j h1 h2; exact ⟨a, b, c.of_block (k _ a b c.lt ⟨_, c⟩)⟩, h.ne⟩
theorem Tb.below {C : Nat} (h : Tb w B U E R) (hb : Below C w w') (hC : U ≤ C) : Tb w' B U E R := h.keep fun g _ h2 _ _ => hb.block g (by omega)
theorem Tb.turn {g : Nat} (h : Tb w B U E R) (o : w.grownBy w' (some g)) (hg : U ≤ g) : Tb w' B U E R := h.keep fun k _ h2 h3 _ => o.block k h3 (by intro e; injection e with e; omega)
theorem Tb.more {C V : Nat} (h : Tb w B U E R) (hB : C ≤ B) (hV : U ≤ V) : Tb w C V E R := ⟨h.len, fun j h1 h2 => by obtain ⟨a, b, c⟩ := h.row j h1 h2; exact ⟨by omega, by omega, c⟩, h.ne⟩
theorem Tb.snoc {g c : Nat} {l : List Int} (h : Tb w B U E R) (hB : B ≤ g) (hU : U ≤ g) (hr : Row w g 3 (iv l)) : Tb w B (g + 1) (E ++ [(g, c)]) (R ++ [l]) := by
  refine ⟨by simp [h.len], fun j h1 h2 => ?_, fun i j hi hj hne => ?_⟩
  · rw [List.length_append, List.length_singleton] at h1 h2
    by_cases e : j < E.length
    · have e2 : j < R.length := by have := h.len; omega
      rw [List.getElem_append_left e, List.getElem_append_left e2]
      obtain ⟨a, b, c⟩ := h.row j e e2
      exact ⟨a, by omega, c⟩
    · have e2 : j = E.length := by omega
      have e3 : j = R.length := by have := h.len; omega
      rw [List.getElem_append_right (by omega), List.getElem_append_right (by omega)]
      simp only [show j - E.length = 0 by omega, show j - R.length = 0 by omega, List.getElem_singleton]
      exact ⟨hB, Nat.lt_succ_self _, hr⟩
  · rw [List.length_append, List.length_singleton] at hi hj
    have get : ∀ k (hk : k < (E ++ [(g, c)]).length), k < E.length → (E ++ [(g, c)])[k].1 < U := by
      intro k hk h1
      rw [List.getElem_append_left h1]
      exact (h.row k h1 (by have := h.len; omega)).2.1
    have last : ∀ k (hk : k < (E ++ [(g, c)]).length), ¬ k < E.length → (E ++ [(g, c)])[k].1 = g := by
      intro k hk h1
      have hk2 : k < E.length + 1 := by simpa using hk
      rw [List.getElem_append_right (by omega)]
      simp only [show k - E.length = 0 by omega, List.getElem_singleton]
    by_cases e : i < E.length <;> by_cases e2 : j < E.length
    · rw [List.getElem_append_left e, List.getElem_append_left e2]; exact h.ne i j e e2 hne
    · have := get i (by simp; omega) e; have := last j (by simp; omega) e2; omega
    · have := get j (by simp; omega) e2; have := last i (by simp; omega) e; omega
    · omega
end
/-- a table: the list of its rows' slices, and its rows -/
structure Tabl (w : World) (B U : Nat) (a : Option Addr) (E : List (Nat × Nat)) (R : List (List Int)) : Prop where
  t : Tb w B U E R
  o : R = [] ∨ ∃ g, a = some ⟨g, 0, none⟩ ∧ B ≤ g ∧ g < U ∧ Row w g 30 (tabV E R)
section
variable {w w' : World} {B U : Nat} {a : Option Addr} {E : List (Nat × Nat)} {R : List (List Int)}
theorem Tabl.below {C : Nat} (h : Tabl w B U a E R) (hb : Below C w w') (hC : U ≤ C) : Tabl w' B U a E R :=
  ⟨h.t.below hb hC, h.o.imp_right fun ⟨g, h1, h2, h3, h4⟩ => ⟨g, h1, h2, h3, h4.of_block (hb.block g (by omega))⟩⟩
theorem Tabl.turn {g : Nat} (h : Tabl w B U a E R) (o : w.grownBy w' (some g)) (hg : U ≤ g) : Tabl w' B U a E R :=
  ⟨h.t.turn o hg, h.o.imp_right fun ⟨k, h1, h2, h3, h4⟩ => ⟨k, h1, h2, h3, h4.of_block (o.block k h4.lt (by intro e; injection e with e; omega))⟩⟩
theorem Tabl.past {g : Nat} (h : Tabl w B U a E R) (o : w.grownBy w' (some g)) (hg : g < B) : Tabl w' B U a E R :=
  ⟨h.t.keep fun k h1 _ h3 _ => o.block k h3 (by intro e; injection e with e; omega), h.o.imp_right fun ⟨k, h1, h2, h3, h4⟩ => ⟨k, h1, h2, h3, h4.of_block (o.block k h4.lt (by intro e; injection e with e; omega))⟩⟩
theorem Tabl.more {C V : Nat} (h : Tabl w B U a E R) (hB : C ≤ B) (hV : U ≤ V) : Tabl w C V a E R :=
  ⟨h.t.more hB hV, h.o.imp_right fun ⟨g, h1, h2, h3, h4⟩ => ⟨g, h1, by omega, by omega, h4⟩⟩
theorem Tabl.drew (h : Tabl w B U a E R) (d : Drew w w') : Tabl w' B U a E R := h.below (d.below U) (Nat.le_refl _)
theorem Tabl.at_ (h : Tabl w B U a E R) {j : Nat} (h2 : j < R.length) : ∃ g h1, a = some ⟨g, 0, none⟩ ∧ g < U ∧ w.cell? ⟨g, j, none⟩ = some (entV (E[j]'h1) R[j]) := by
  rcases h.o with e | ⟨g, h1, h3, h4, h5⟩
  · rw [e] at h2; simp at h2
  · have he : j < E.length := by have := h.t.len; omega
    refine ⟨g, he, h1, h4, ?_⟩
    rw [h5.cell (k := j) (by rw [tabV_len h.t.len]; exact h2)]
    simp only [tabV, List.getElem_zipWith]
theorem Tabl.ints (h : Tabl w B U a E R) {j : Nat} (h1 : j < E.length) (h2 : j < R.length) : Ints .i64 w U (some ⟨E[j].1, 0, none⟩) R[j] := by
  obtain ⟨h3, h4, h5⟩ := h.t.row j h1 h2
  exact (show At w (some ⟨E[j].1, 0, none⟩) E[j].1 R[j] from .inr ⟨rfl, h5⟩).intsB h4
theorem tabl_of {v : Value} (ho : w.ownsRow B 30 1 v R.length (tabV E R)) (ht : Tb w B U E R) (hU : w.heap.size ≤ U) : ∃ a c, v = .slice a R.length c ∧ Tabl w B U a E R := by
  rcases Nat.eq_zero_or_pos R.length with h0 | h0
  · have e := List.eq_nil_of_length_eq_zero h0
    rcases ho.2 with ⟨h1, h2⟩ | ⟨g, cap, cur, h1, _⟩
    · exact ⟨none, 0, by rw [h1, h2], ht, .inl e⟩
    · exact ⟨_, cap, h1, ht, .inl e⟩
  · obtain ⟨c, g, h1, h2, h3, h4⟩ := Row.of_own ho h0
    exact ⟨_, c, h1, ht, .inr ⟨g, rfl, h2, by have := h3.lt; omega, h3⟩⟩
end
theorem Lw.past {w w1 w2 : World} {wd hg : Int} {a : Option Addr} {l : List Int} {c B : Nat} (h : Lw w wd hg a l c w1) (b : Below B w1 w2) (hB : w.heap.size < B) (ha : Ints .i64 w w.heap.size a l) : Lw w wd hg a l c w2 := by /- 50 -/
  have hb := h.1.trans (b.mono (Nat.le_of_lt hB))
  exact ⟨hb, (ha.below hb (Nat.le_refl _)).more hb.size, (b.block _ hB).trans h.2.2⟩
/-- how many numbers stand ahead of row k -/
def offs (R : List (List Int)) (k : Nat) : Nat := (R.take k).flatten.length
theorem offs_zero (R : List (List Int)) : offs R 0 = 0 := by simp [offs]
theorem offs_step {R : List (List Int)} {k : Nat} (h : k < R.length) : offs R (k + 1) = offs R k + R[k].length := by
  unfold offs; rw [List.take_succ_eq_append_getElem h, List.flatten_append, List.length_append]; simp
theorem offs_all (R : List (List Int)) : offs R R.length = R.flatten.length := by simp [offs]
theorem offs_le (R : List (List Int)) (k : Nat) : offs R k ≤ R.flatten.length := by
  unfold offs
  conv => rhs; rw [← List.take_append_drop k R]
  rw [List.flatten_append, List.length_append]; omega
/-- the first k rows marked with numbers from k0 on -/
def partT (k0 : Int) (R : List (List Int)) (k : Nat) : List (List Int) := (List.range R.length).map fun j => if j < k then marks (k0 + (offs R j : Int)) (R.getD j []).length else R.getD j []
theorem partT_len (k0 : Int) (R : List (List Int)) (k : Nat) : (partT k0 R k).length = R.length := by simp [partT]
theorem getDL {R : List (List Int)} {j : Nat} (h : j < R.length) : R.getD j [] = R[j] := by simp [h]
theorem partT_get {k0 : Int} {R : List (List Int)} {k j : Nat} (h : j < (partT k0 R k).length) (h2 : j < R.length) : (partT k0 R k)[j] = if j < k then marks (k0 + (offs R j : Int)) R[j].length else R[j] := by
  simp only [partT, List.getElem_map, List.getElem_range, getDL h2]
theorem partT_zero (k0 : Int) (R : List (List Int)) : partT k0 R 0 = R := by
  refine List.ext_getElem (partT_len _ _ _) fun j h1 h2 => ?_
  rw [partT_get h1 h2, if_neg (by omega)]
theorem partT_lens {k0 : Int} {R : List (List Int)} {k j : Nat} (h : j < (partT k0 R k).length) (h2 : j < R.length) : (partT k0 R k)[j].length = R[j].length := by
  rw [partT_get h h2]; split
  · rw [marks_length]
  · rfl
theorem partT_tab (E : List (Nat × Nat)) (k0 : Int) (R : List (List Int)) (k : Nat) : tabV E (partT k0 R k) = tabV E R := by
  unfold tabV
  refine List.ext_getElem (by simp [partT_len]) fun j h1 h2 => ?_
  rw [List.getElem_zipWith, List.getElem_zipWith]
  rw [List.length_zipWith] at h2
  unfold entV
  rw [partT_lens (by rw [partT_len]; omega) (by omega)]
def marksT (k0 : Int) (R : List (List Int)) : List (List Int) := partT k0 R R.length
theorem marksT_get {k0 : Int} {R : List (List Int)} {j : Nat} (h : j < (marksT k0 R).length) (h2 : j < R.length) : (marksT k0 R)[j] = marks (k0 + (offs R j : Int)) R[j].length :=
  (partT_get (k0 := k0) (k := R.length) h h2).trans (if_pos h2)
theorem marksT_len (k0 : Int) (R : List (List Int)) : (marksT k0 R).length = R.length := partT_len _ _ _
end Go.Proofs.Ythceffkkokgpnaa
