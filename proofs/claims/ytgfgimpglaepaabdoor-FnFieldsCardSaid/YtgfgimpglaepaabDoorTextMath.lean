/- Plain mathematics of a field's text. -/
import Derived.Test.YtgfgimpglaepaabDoorGrid
import Derived.Test.YtgfgimpglaepaabDoorNum
import Derived.Lib.ItoaLen
namespace Go.Proofs.YtgfgimpglaepaabDoor
def cellT (v : Int) : List UInt8 := if v = -9999 then [46] else Lib.itoa v
theorem cellT_gone {v : Int} (h : v = -9999) : cellT v = [46] := if_pos h
theorem cellT_val {v : Int} (h : ¬ v = -9999) : cellT v = Lib.itoa v := if_neg h
theorem cellT_len {v : Int} (h0 : -9999 ≤ v) (h1 : v ≤ 9000) : (cellT v).length ≤ 21 := by
  unfold cellT
  split
  · simp
  · exact Lib.itoa_length_le v (by omega) (by omega)
/-- the cells of a row, blanks between them -/
def rowT : List Int → List UInt8
  | [] => []
  | v :: r => cellT v ++ (r.map fun z => 32 :: cellT z).flatten
theorem rowT_snoc (r : List Int) (v : Int) : rowT (r ++ [v]) = if r = [] then cellT v else rowT r ++ [32] ++ cellT v := by
  cases r with
  | nil => simp [rowT]
  | cons x r => rw [if_neg (by simp)]; simp [rowT]
theorem rowT_len {r : List Int} (h : ∀ v ∈ r, -9999 ≤ v ∧ v ≤ 9000) : (rowT r).length ≤ 22 * r.length := by
  cases r with
  | nil => simp [rowT]
  | cons x r =>
    have hx := cellT_len (h x (by simp)).1 (h x (by simp)).2
    have hr : ((r.map fun z => 32 :: cellT z).flatten).length ≤ 22 * r.length := by
      have h' : ∀ v ∈ r, -9999 ≤ v ∧ v ≤ 9000 := fun v hv => h v (by simp [hv])
      clear hx h
      induction r with
      | nil => simp
      | cons y s ih =>
        have hy := cellT_len (h' y (by simp)).1 (h' y (by simp)).2
        have := ih (fun v hv => h' v (by simp [hv]))
        simp only [List.map_cons, List.flatten_cons, List.length_append, List.length_cons]
        omega
    simp only [rowT, List.length_append, List.length_cons]
    omega
/-- the rows, each with its end -/
def textT (R : List (List Int)) : List UInt8 := (R.map fun r => rowT r ++ [10]).flatten
theorem textT_snoc (R : List (List Int)) (r : List Int) : textT (R ++ [r]) = textT R ++ (rowT r ++ [10]) := by simp [textT]
theorem textT_len {R : List (List Int)} (h : ∀ r ∈ R, r.length ≤ 8 ∧ ∀ v ∈ r, -9999 ≤ v ∧ v ≤ 9000) : (textT R).length ≤ 177 * R.length := by
  induction R with
  | nil => simp [textT]
  | cons r R ih =>
    have h1 := h r (by simp)
    have h2 := rowT_len h1.2
    have h3 := ih (fun x hx => h x (by simp [hx]))
    have : textT (r :: R) = (rowT r ++ [10]) ++ textT R := by simp [textT]
    rw [this]
    simp only [List.length_append, List.length_cons, List.length_nil]
    omega
/-- the text when y rows and x cells of the next are written -/
def partT (l : List Int) (W H y x : Nat) : List UInt8 := textT ((chunks l W H).take y) ++ rowT ((l.drop (y * W)).take x)
theorem partT_zero (l : List Int) (W H : Nat) : partT l W H 0 0 = [] := by simp [partT, textT, rowT]
theorem partT_first {l : List Int} {W H y : Nat} (h : y * W < l.length) : partT l W H y 1 = partT l W H y 0 ++ cellT l[y * W] := by
  have e : (l.drop (y * W)).take 1 = [] ++ [l[y * W]] := by rw [List.drop_eq_getElem_cons h, List.take_succ_cons, List.take_zero, List.nil_append]
  unfold partT
  rw [e, rowT_snoc, if_pos rfl]
  simp [rowT]
theorem partT_next {l : List Int} {W H y x : Nat} (h0 : 0 < x) (h : y * W + x < l.length) : partT l W H y (x + 1) = partT l W H y x ++ [32] ++ cellT l[y * W + x] := by
  unfold partT
  rw [List.take_succ_eq_append_getElem (by rw [List.length_drop]; omega), List.getElem_drop, rowT_snoc, if_neg (by
    intro e
    have := congrArg List.length e
    rw [List.length_take, List.length_drop] at this
    simp at this
    omega)]
  simp
theorem partT_row {l : List Int} {W H y : Nat} (h : y < H) : partT l W H y W ++ [10] = partT l W H (y + 1) 0 := by
  unfold partT
  rw [List.take_succ_eq_append_getElem (by rw [chunks_length]; exact h), textT_snoc, chunks_get]
  simp [rowT]
theorem partT_all (l : List Int) (W H : Nat) : partT l W H H 0 = textT (chunks l W H) := by
  unfold partT
  rw [List.take_of_length_le (by rw [chunks_length]; exact Nat.le_refl _)]
  simp [rowT]
theorem partT_len {l : List Int} {W H y x : Nat} (hb : ∀ v ∈ l, -9999 ≤ v ∧ v ≤ 9000) (hW : W ≤ 8) (hy : y ≤ 8) (hx : x ≤ 8) : (partT l W H y x).length ≤ 2000 := by
  unfold partT
  rw [List.length_append]
  have h1 := textT_len (R := (chunks l W H).take y) (fun r hr => by
    obtain ⟨j, _, rfl⟩ := List.mem_map.1 (List.mem_of_mem_take hr)
    exact ⟨by rw [List.length_take]; omega, fun v hv => hb v (List.mem_of_mem_drop (List.mem_of_mem_take hv))⟩)
  have h2 := rowT_len (r := (l.drop (y * W)).take x) (fun v hv => hb v (List.mem_of_mem_drop (List.mem_of_mem_take hv)))
  rw [List.length_take] at h1 h2
  omega
theorem cat_mk (J : List UInt8) (s : ByteArray) : (⟨J.toArray⟩ : ByteArray) ++ s = ⟨(J ++ s.data.toList).toArray⟩ := by
  apply ByteArray.ext; simp
/-- what FieldText answers -/
def ftS (wd hg : Int) (l : List Int) : ByteArray := if goodB wd hg l = true then ⟨(textT (chunks l wd.toNat hg.toNat)).toArray⟩ else ⟨#[]⟩
theorem ftS_yes {wd hg : Int} {l : List Int} (h : goodB wd hg l = true) : ftS wd hg l = ⟨(textT (chunks l wd.toNat hg.toNat)).toArray⟩ := if_pos h
theorem ftS_no {wd hg : Int} {l : List Int} (h : goodB wd hg l = false) : ftS wd hg l = ⟨#[]⟩ := if_neg (by rw [h]; simp)
end Go.Proofs.YtgfgimpglaepaabDoor
