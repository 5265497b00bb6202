/- The program's rows of a field, and the field of rows. -/
import Derived.Test.YthceffkkokgpnaaMake
import Derived.Laws.CopyOwn
namespace Go.Proofs.Ythceffkkokgpnaa
open Go.RowKit
set_option linter.unusedVariables false
set_option linter.unusedSimpArgs false
theorem infoRow : (Try.prog.info? 30).map (fun i => (i.zero, i.size, i.bytes)) = some (some (.slice none 0 0), 1, 24) := by kernel_rfl
/-- the rows of a field of W by H cells at (b, o), k of them laid -/
def rowV (b o W c k j : Nat) : Value := if j < k then .slice (some ⟨b, o + j * W, none⟩) W (c - j * W) else .slice none 0 0
def RowsPost (b o W H c : Nat) (w : World) (e : Ending) (w' : World) : Prop :=
  ∃ g, w.heap.size ≤ g ∧ e = .returned (.slice (some ⟨g, 0, none⟩) H H) ∧ w'.rowIs g 30 H (rowV b o W c H) ∧ Below w.heap.size w w'

theorem rowV_step (b o W c k j p : Nat) (hp : k * W = p) : (if j = k then Value.slice (some ⟨b, o + p, none⟩) W (c - p) else rowV b o W c k j) = rowV b o W c (k + 1) j := by
  subst hp
  unfold rowV
  by_cases e : j = k
  · subst e; simp
  · rw [if_neg e]
    by_cases e2 : j < k
    · rw [if_pos e2, if_pos (by omega)]
    · rw [if_neg e2, if_neg (by omega)]

/-- the cells of a field of rows, k of them copied -/
def laidC (R : List (List Int)) (W n k : Nat) : List Value := iv ((R.take k).flatten ++ List.replicate ((n - k) * W) 0)
theorem flat_len {R : List (List Int)} {W : Nat} (h : ∀ r ∈ R, r.length = W) : R.flatten.length = R.length * W := by
  induction R with
  | nil => simp
  | cons x r ih =>
    have h1 := h x (by simp)
    have h2 := ih (fun z hz => h z (by simp [hz]))
    simp only [List.flatten_cons, List.length_append, List.length_cons, h1, h2, Nat.add_mul]
    omega
theorem laidC_length {R : List (List Int)} {W n k : Nat} (h : ∀ r ∈ R, r.length = W) (hn : R.length = n) (hk : k ≤ n) : (laidC R W n k).length = n * W := by
  unfold laidC
  rw [iv_length, List.length_append, List.length_replicate, flat_len (W := W) (fun r hr => h r (List.mem_of_mem_take hr)), List.length_take, Nat.min_eq_left (by omega), ← Nat.add_mul]
  congr 1
  omega
theorem laidC_zero (R : List (List Int)) (W n : Nat) : laidC R W n 0 = iv (List.replicate (n * W) 0) := by simp [laidC]
theorem laidC_all {R : List (List Int)} {W n : Nat} (hn : R.length = n) : laidC R W n n = iv R.flatten := by
  unfold laidC
  rw [List.take_of_length_le (by omega), Nat.sub_self, Nat.zero_mul]
  simp
theorem laidC_step {R : List (List Int)} {W n k : Nat} (h : ∀ r ∈ R, r.length = W) (hn : R.length = n) (hk : k < R.length) : splice (laidC R W n k) (k * W) (iv R[k]) = laidC R W n (k + 1) := by
  have hl : (iv R[k]).length = W := by rw [iv_length]; exact h _ (List.getElem_mem hk)
  have hf : (iv (R.take k).flatten).length = k * W := by rw [iv_length, flat_len (W := W) (fun r hr => h r (List.mem_of_mem_take hr)), List.length_take, Nat.min_eq_left (by omega)]
  unfold splice laidC
  rw [hl]
  have e : iv ((R.take k).flatten ++ List.replicate ((n - k) * W) 0) = iv (R.take k).flatten ++ iv (List.replicate ((n - k) * W) 0) := by simp only [iv, List.map_append]
  have e2 : iv ((R.take (k + 1)).flatten ++ List.replicate ((n - (k + 1)) * W) 0) = iv (R.take k).flatten ++ (iv R[k] ++ iv (List.replicate ((n - (k + 1)) * W) 0)) := by
    have ft : (R.take (k + 1)).flatten = (R.take k).flatten ++ R[k] := by rw [List.take_succ_eq_append_getElem hk, List.flatten_append]; simp
    rw [ft]
    simp only [iv, List.map_append, List.append_assoc]
  have e3 : (n - k) * W = W + (n - (k + 1)) * W := by
    have : n - k = 1 + (n - (k + 1)) := by omega
    rw [this, Nat.add_mul]; omega
  rw [e, e2, List.take_left' hf, List.drop_append, hf, List.drop_of_length_le (by omega), List.nil_append, Nat.add_sub_cancel_left, e3]
  simp [iv]
theorem made_iv (n : Nat) : madeCells #[Value.int .i64 0] n = (iv (List.replicate n 0)).toArray := by
  have := toList_madeCells_one (.int .i64 0) n
  apply Array.ext'
  rw [this]
  simp [iv]

/-- a field in memory of the call's own, with room for its cells -/
def FOneC (wd hg : Int) (l : List Int) (w : World) (e : Ending) (w' : World) : Prop :=
  ∃ a c, l.length ≤ c ∧ e = .returned (.agg #[.int .i64 wd, .int .i64 hg, .slice a l.length c]) ∧ OwnI w' w.heap.size a l ∧ Below w.heap.size w w'
theorem FOneC.one {wd hg : Int} {l : List Int} {w : World} {e : Ending} {w' : World} (h : FOneC wd hg l w e w') : FOne wd hg l w e w' := by
  obtain ⟨a, c, _, h1, h2, h3⟩ := h; exact ⟨a, c, h1, h2, h3⟩
/-- a list cut into H rows of W -/
def chunks (l : List Int) (W H : Nat) : List (List Int) := (List.range H).map fun j => (l.drop (j * W)).take W
theorem chunks_length (l : List Int) (W H : Nat) : (chunks l W H).length = H := by simp [chunks]
theorem chunks_get (l : List Int) (W H j : Nat) (h : j < (chunks l W H).length) : (chunks l W H)[j] = (l.drop (j * W)).take W := by simp [chunks]
theorem chunk_fits {W H j n : Nat} (hj : j < H) (hn : n = W * H) : j * W + W ≤ n := by
  have h2 : (j + 1) * W ≤ H * W := Nat.mul_le_mul_right _ (by omega)
  rw [Nat.mul_comm H W, ← hn, Nat.add_mul] at h2
  omega
theorem chunks_each {l : List Int} {W H : Nat} (hl : l.length = W * H) : ∀ r ∈ chunks l W H, r.length = W := by
  intro r hr
  obtain ⟨j, hj, rfl⟩ := List.mem_map.1 hr
  have hj' : j < H := by simpa using hj
  have := chunk_fits hj' hl
  rw [List.length_take, List.length_drop]
  omega
theorem chunks_flat (l : List Int) (W H : Nat) : (chunks l W H).flatten = l.take (H * W) := by
  induction H with
  | zero => simp [chunks]
  | succ H ih =>
    have : chunks l W (H + 1) = chunks l W H ++ [(l.drop (H * W)).take W] := by simp [chunks, List.range_succ]
    rw [this, List.flatten_append, ih, Nat.add_mul, Nat.one_mul, List.take_add]
    simp
theorem chunks_all {l : List Int} {W H : Nat} (hl : l.length = W * H) : (chunks l W H).flatten = l := by
  rw [chunks_flat, List.take_of_length_le (by rw [hl, Nat.mul_comm]; exact Nat.le_refl _)]
theorem chunk_ints {w : World} {B b o W H c : Nat} {l : List Int} (h : Ints .i64 w B (some ⟨b, o, none⟩) l) (hl : l.length = W * H) (j : Nat) (hj : j < (chunks l W H).length) : Ints .i64 w B (some ⟨b, o + j * W, none⟩) (chunks l W H)[j] := by
  rw [chunks_length] at hj
  have hf := chunk_fits hj hl
  rw [chunks_get]
  rcases h with rfl | ⟨b', o', e, hb, hc⟩
  · exact .inl (by simp)
  · injection e with e
    injection e with e1 e2
    subst e1 e2
    refine .inr ⟨b, o + j * W, rfl, hb, fun i hi => ?_⟩
    rw [List.length_take, List.length_drop] at hi
    have := hc (j * W + i) (by omega)
    rw [Nat.add_assoc, this]
    simp
theorem good_nat {wd hg : Int} {l : List Int} (h : goodB wd hg l = true) : ∃ W H : Nat, wd = (W : Int) ∧ hg = (H : Int) ∧ 1 ≤ W ∧ W ≤ 8 ∧ 1 ≤ H ∧ H ≤ 8 ∧ l.length = W * H := by
  obtain ⟨⟨h1, h2⟩, h3, h4⟩ := shapeB_iff.1 (good_shape h)
  refine ⟨wd.toNat, hg.toNat, by omega, by omega, by omega, by omega, by omega, by omega, ?_⟩
  have := good_len h
  have e : ((wd.toNat * hg.toNat : Nat) : Int) = wd * hg := by push_cast; rw [Int.toNat_of_nonneg (by omega), Int.toNat_of_nonneg (by omega)]
  omega
end Go.Proofs.Ythceffkkokgpnaa
