/- The laws' helpers on lists of fields: szFieldS, toFieldS, eqFieldS, markFieldS, heldFieldS. -/
import Derived.Test.YtikglddifoalfaaDoorFlds
import Derived.Laws.MakeOwn
import Derived.StillTailTactics
namespace Go.Proofs.YtikglddifoalfaaDoor
open Go.RowKit
set_option linter.unusedVariables false
set_option linter.unusedSimpArgs false
def lenF (es : List FE) (k : Nat) : Nat := ((es.take k).map fun e => e.l.length).sum
def lenFs (es : List FE) : Nat := (es.map fun e => e.l.length).sum
theorem lenF_zero (es : List FE) : lenF es 0 = 0 := rfl
theorem lenF_step {es : List FE} {k : Nat} (h : k < es.length) : lenF es (k + 1) = lenF es k + es[k].l.length := by
  unfold lenF; rw [List.take_succ_eq_append_getElem h, List.map_append, List.sum_append]; simp
theorem lenF_all (es : List FE) : lenF es es.length = lenFs es := by simp [lenF, lenFs]
theorem lenF_le (es : List FE) (k : Nat) : lenF es k ≤ lenFs es := by
  unfold lenF lenFs
  conv => rhs; rw [← List.take_append_drop k es, List.map_append, List.sum_append]
  omega
/-- how many numbers stand ahead of field k when all are marked -/
def offF (es : List FE) (k : Nat) : Nat := 2 * k + lenF es k
theorem offF_step {es : List FE} {k : Nat} (h : k < es.length) : offF es (k + 1) = offF es k + 2 + es[k].l.length := by
  unfold offF; rw [lenF_step h]; omega
def szF (es : List FE) (left : Int) : Int := if ((es.length + lenFs es : Nat) : Int) ≤ left then left - ((es.length + lenFs es : Nat) : Int) else -1
theorem szF_over (es : List FE) (left : Int) (k : Nat) (h : left < (es.length : Int) + (lenF es k : Int)) : szF es left = -1 := by
  have := lenF_le es k
  exact if_neg (by omega)
theorem szF_fit (es : List FE) (left : Int) (h : (es.length : Int) + (lenFs es : Int) ≤ left) : szF es left = left - (es.length : Int) - (lenFs es : Int) := by
  unfold szF; rw [if_pos (by omega)]; omega
theorem infoField : (Tryd.prog.info? 80).map (fun i => (i.zero, i.size, i.bytes)) = some (some (.agg #[.int .i64 0, .int .i64 0, .slice none 0 0]), 3, 40) := by kernel_rfl
theorem run_make_fields (n : Nat) (h : n ≤ 1048576) (W : World) :
    (Instr.makeSlice 83 (.int .i64 (n : Int)) (.int .i64 (n : Int))).run Tryd.prog W = .ok (.slice (some ⟨W.heap.size, 0, none⟩) n n) (W.alloc (.cells (madeCells #[.int .i64 0, .int .i64 0, .slice none 0 0] (n * 3)) 80)) := by
  obtain ⟨i, hi, hzz⟩ := Option.map_eq_some_iff.1 infoField
  simp only [Prod.mk.injEq] at hzz
  obtain ⟨hz, hs, hb⟩ := hzz
  have hr := run_make (P := Tryd.prog) W 83 80 i (.agg #[.int .i64 0, .int .i64 0, .slice none 0 0]) Tryd.underlying83 hi hz .i64 .i64 n n (by omega) (Int.le_refl _) (by rw [hb]; omega) (by omega)
  simp only [Int.toNat_natCast, hs] at hr
  exact hr
def zeroF : FE := ⟨0, 0, none, [], 0, 0⟩
theorem fvs_zero (n k : Nat) (h : k < n * 3) : (fvs (List.replicate n zeroF))[k]? = (#[Value.int .i64 0, .int .i64 0, .slice none 0 0] : Array Value)[k % 3]? := by
  have hl : (k / 3) < (List.replicate n zeroF).length := by rw [List.length_replicate]; omega
  have e := fvs_get (List.replicate n zeroF) (k / 3) hl
  rw [List.getElem_replicate] at e
  have hm : k % 3 = 0 ∨ k % 3 = 1 ∨ k % 3 = 2 := by omega
  rcases hm with hm | hm | hm
  · rw [show k = k / 3 * 3 by omega, e.1]; simp; rfl
  · rw [show k = k / 3 * 3 + 1 by omega, e.2.1, show (k / 3 * 3 + 1) % 3 = 1 by omega]; rfl
  · rw [show k = k / 3 * 3 + 2 by omega, e.2.2, show (k / 3 * 3 + 2) % 3 = 2 by omega]; rfl
theorem row_made_fields (n : Nat) (W : World) : Row (W.alloc (.cells (madeCells #[.int .i64 0, .int .i64 0, .slice none 0 0] (n * 3)) 80)) W.heap.size 80 (fvs (List.replicate n zeroF)) := by
  refine ⟨_, heap_alloc_new W _, fun k hk => ?_⟩
  have hk2 := hk
  rw [fvs_length, List.length_replicate] at hk2
  have e := fvs_zero n k hk2
  rw [List.getElem?_eq_getElem hk] at e
  rw [e]
  have hm : k % 3 = 0 ∨ k % 3 = 1 ∨ k % 3 = 2 := by omega
  rcases hm with hm | hm | hm <;> simp [madeCells, hk2, hm]
/-- the first fields copied, the others nothing -/
def mixF (es : List FE) (n : Nat) : List FE := es ++ List.replicate (n - es.length) zeroF
theorem mixF_len (es : List FE) (n : Nat) (h : es.length ≤ n) : (mixF es n).length = n := by simp [mixF]; omega
theorem mixF_step (es : List FE) (n : Nat) (e : FE) (h : es.length < n) : (mixF es n).set es.length e = mixF (es ++ [e]) n := by
  unfold mixF
  rw [List.set_append_right _ _ (Nat.le_refl _), Nat.sub_self, show n - es.length = (n - (es ++ [e]).length) + 1 by simp; omega, List.replicate_succ, List.set_cons_zero, List.append_assoc]
  rfl
theorem mixF_all (es : List FE) : mixF es es.length = es := by simp [mixF]
/-- es' reads as the first fields of es -/
def LikeF (es' es : List FE) : Prop := es'.length ≤ es.length ∧ ∀ j (h : j < es'.length) (h2 : j < es.length), es'[j].wd = es[j].wd ∧ es'[j].hg = es[j].hg ∧ es'[j].l = es[j].l ∧ es'[j].l.length ≤ es'[j].c
theorem LikeF.nil (es : List FE) : LikeF [] es := ⟨Nat.zero_le _, fun j h => by simp at h⟩
theorem LikeF.snoc {es' es : List FE} (h : LikeF es' es) (hlt : es'.length < es.length) {e : FE} (h1 : e.wd = es[es'.length].wd) (h2 : e.hg = es[es'.length].hg) (h3 : e.l = es[es'.length].l) (h4 : e.l.length ≤ e.c) : LikeF (es' ++ [e]) es := by
  refine ⟨by simp; omega, fun j h5 h6 => ?_⟩
  rw [List.length_append, List.length_singleton] at h5
  by_cases e1 : j < es'.length
  · rw [List.getElem_append_left e1]; exact h.2 j e1 h6
  · obtain rfl : j = es'.length := by omega
    rw [List.getElem_append_right (Nat.le_refl _)]
    simp only [Nat.sub_self, List.getElem_cons_zero]
    exact ⟨h1, h2, h3, h4⟩
theorem LikeF.plain {es' es : List FE} (h : LikeF es' es) (hl : es'.length = es.length) : es'.map FE.plain = es.map FE.plain := by
  refine List.ext_getElem (by simp [hl]) fun j h1 h2 => ?_
  rw [List.length_map] at h1 h2
  obtain ⟨e1, e2, e3, _⟩ := h.2 j h1 h2
  rw [List.getElem_map, List.getElem_map]
  unfold FE.plain
  rw [e1, e2, e3]
def ToFsPost (es : List FE) (w : World) (e : Ending) (w' : World) : Prop :=
  ∃ es', es'.length = es.length ∧ LikeF es' es ∧ e = .returned (.slice (some ⟨w.heap.size, 0, none⟩) es.length es.length) ∧ OwnFs w' w.heap.size w'.heap.size w.heap.size es' ∧ Below w.heap.size w w'
/-- a field marked with numbers from k on -/
def FE.mark (e : FE) (k : Int) : FE := ⟨k, k + 1, e.ad, marks (k + 2) e.l.length, e.c, e.g⟩
def partF (k0 : Int) (es : List FE) (k : Nat) : List FE := es.mapIdx fun j e => if j < k then e.mark (k0 + (offF es j : Int)) else e
theorem partF_len (k0 : Int) (es : List FE) (k : Nat) : (partF k0 es k).length = es.length := by simp [partF]
theorem partF_get {k0 : Int} {es : List FE} {k j : Nat} (h : j < (partF k0 es k).length) (h2 : j < es.length) : (partF k0 es k)[j] = if j < k then es[j].mark (k0 + (offF es j : Int)) else es[j] := by
  simp [partF]
theorem partF_g {k0 : Int} {es : List FE} {k j : Nat} (h : j < (partF k0 es k).length) : (partF k0 es k)[j].g = (es[j]'(by rwa [partF_len] at h)).g := by
  rw [partF_get h (by rwa [partF_len] at h)]
  split <;> rfl
theorem partF_zero (k0 : Int) (es : List FE) : partF k0 es 0 = es := by
  refine List.ext_getElem (partF_len _ _ _) fun j h1 h2 => ?_
  rw [partF_get h1 h2, if_neg (by omega)]
theorem partF_step {k0 : Int} {es : List FE} {k : Nat} (h : k < es.length) : (partF k0 es k).set k (es[k].mark (k0 + (offF es k : Int))) = partF k0 es (k + 1) := by
  refine List.ext_getElem (by rw [List.length_set, partF_len, partF_len]) fun j h1 h2 => ?_
  have h3 : j < es.length := by rwa [partF_len] at h2
  rw [List.getElem_set]
  by_cases e : k = j
  · subst e
    rw [if_pos rfl, partF_get h2 h3, if_pos (by omega)]
  · rw [if_neg e, partF_get (by rw [partF_len]; exact h3) h3, partF_get h2 h3]
    by_cases e2 : j < k
    · rw [if_pos e2, if_pos (by omega)]
    · rw [if_neg e2, if_neg (by omega)]
theorem fvs_set2 (l : List FE) (k : Nat) (e : FE) (h : k < l.length) (h1 : e.ad = l[k].ad) (h2 : e.l.length = l[k].l.length) (h3 : e.c = l[k].c) : ((fvs l).set (k * 3) (.int .i64 e.wd)).set (k * 3 + 1) (.int .i64 e.hg) = fvs (l.set k e) := by
  rw [← fvs_set l k e h]
  have hl := fvs_length l
  have e3 := (fvs_get l k h).2.2
  refine (List.ext_getElem (by simp) fun j j1 j2 => ?_).symm
  rw [List.getElem_set]
  split
  · rename_i ej
    subst ej
    rw [List.getElem_set_ne (by omega), List.getElem_set_ne (by omega), h1, h2, h3]
    rw [List.getElem?_eq_getElem (by omega)] at e3
    injection e3 with e3
    exact e3.symm
  · rfl
theorem fld_ne_ints {w : World} {g g' : Nat} {vs us : List Value} (h : Row w g 80 vs) (h' : Row w g' 3 us) : g ≠ g' := by
  rintro rfl
  obtain ⟨c1, hc1, _⟩ := h
  obtain ⟨c2, hc2, _⟩ := h'
  rw [hc2] at hc1
  injection hc1 with hc1
  injection hc1 with _ hty
  exact absurd hty (by decide)
theorem le_lenFs {es : List FE} : ∀ e ∈ es, e.l.length ≤ lenFs es := by
  induction es with
  | nil => intro e h; simp at h
  | cons x r ih =>
    intro e h
    have h9 : lenFs (x :: r) = x.l.length + lenFs r := rfl
    rcases List.mem_cons.1 h with rfl | h
    · omega
    · have := ih e h; omega
theorem lenFs_plain {es es' : List FE} (h : es'.map FE.plain = es.map FE.plain) : lenFs es' = lenFs es := by
  have key : ∀ l : List FE, lenFs l = ((l.map FE.plain).map fun p => p.2.2.length).sum := by intro l; unfold lenFs; rw [List.map_map]; rfl
  rw [key, key, h]
theorem offF_all (es : List FE) : offF es es.length = 2 * es.length + lenFs es := by unfold offF; rw [lenF_all]
end Go.Proofs.YtikglddifoalfaaDoor
