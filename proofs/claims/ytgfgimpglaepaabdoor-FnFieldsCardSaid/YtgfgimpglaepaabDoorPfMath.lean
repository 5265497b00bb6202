/- ParseField as plain mathematics: the rows of a text, and that a field's text gives them back. -/
import Derived.Test.YtgfgimpglaepaabDoorTextMath
import Derived.Test.YtgfgimpglaepaabDoorSplitMath
import Derived.Test.YtgfgimpglaepaabDoorParseMath
import Derived.Test.YtgfgimpglaepaabDoorFieldMath
import Derived.Test.YtgfgimpglaepaabDoorGood
namespace Go.Proofs.YtgfgimpglaepaabDoor
set_option linter.unusedVariables false
set_option linter.unusedSimpArgs false
def baL (w : List UInt8) : ByteArray := ⟨w.toArray⟩
theorem baL_list (w : List UInt8) : (baL w).data.toList = w := by simp [baL]
/-- a word read as a cell -/
def rdC (w : List UInt8) : Option Int := if w = [46] then some (-9999) else if pB (baL w) = true ∧ valB (pN (baL w)) = true then some (pN (baL w)) else none
def rdAll : List (List UInt8) → Option (List Int)
  | [] => some []
  | w :: r => match rdC w with
    | none => none
    | some v => match rdAll r with
      | none => none
      | some vs => some (v :: vs)
def rdRow (line : List UInt8) : Option (List Int) := if (splitL line 32).length ≤ 8 then rdAll (splitL line 32) else none
def rdRows : List (List UInt8) → Option (List (List Int))
  | [] => some []
  | w :: r => match rdRow w with
    | none => none
    | some v => match rdRows r with
      | none => none
      | some vs => some (v :: vs)
def sameW (R : List (List Int)) : Bool := R.all fun r => decide (r.length = (R.headD []).length)
/-- the lines of a text that ends with a line's end -/
def linesP (s : List UInt8) : List (List UInt8) := (splitL s 10).dropLast
def endsP (s : List UInt8) : Bool := decide ((splitL s 10).getLast? = some [])
def pfR (s : List UInt8) : Option (Int × Int × List Int) :=
  if endsP s = true ∧ 1 ≤ (linesP s).length ∧ (linesP s).length ≤ 8 then (match rdRows (linesP s) with
    | some R => if sameW R = true then some (((R.headD []).length : Int), (R.length : Int), R.flatten) else none
    | none => none) else none
theorem val_ok {n : Int} (h : valB n = true) : -9000 ≤ n ∧ n ≤ 9000 := by unfold valB at h; simpa using h
theorem rdC_cell {w : List UInt8} {v : Int} (h : rdC w = some v) : cellT v = w ∧ cellB v = true := by
  unfold rdC at h
  split at h
  · rename_i e
    injection h with h
    subst h e
    exact ⟨cellT_gone rfl, rfl⟩
  · split at h
    · rename_i hc
      injection h with h
      obtain ⟨n, h0, h1, h2, h3⟩ := pB_get hc.1
      have hv := val_ok hc.2
      rw [h] at hv
      rw [h3] at h
      subst h
      rw [baL_list] at h2
      exact ⟨by rw [cellT_val (by omega)]; exact h2, cellB_iff.2 (.inr hv)⟩
    · cases h
theorem itoa_ne_dot (n : Int) : Lib.itoa n ≠ [46] := by
  intro e
  by_cases hn : n < 0
  · obtain ⟨u, rfl⟩ : ∃ u : Nat, n = -(u : Int) := ⟨n.natAbs, by omega⟩
    rw [Lib.itoa_neg u (by omega)] at e
    have := (dec_val u).2.2
    cases hd : Lib.decDigits u with
    | nil => rw [hd] at this; simp at this
    | cons c r => rw [hd] at e; simp at e
  · obtain ⟨u, rfl⟩ : ∃ u : Nat, n = (u : Int) := ⟨n.toNat, by omega⟩
    rw [Lib.itoa_nonneg] at e
    have := (dec_val u).2.1 46 (by rw [e]; simp)
    revert this
    decide
theorem rdC_back {v : Int} (h : cellB v = true) : rdC (cellT v) = some v := by
  unfold rdC
  rcases cellB_iff.1 h with h1 | h1
  · rw [cellT_gone h1, if_pos rfl, h1]
  · have hne : ¬ v = -9999 := by omega
    rw [cellT_val hne, if_neg (itoa_ne_dot v)]
    obtain ⟨k1, k2⟩ := pB_of (s := baL (Lib.itoa v)) (n := v) (by omega) (by omega) (by rw [baL_list])
    rw [if_pos ⟨k1, by rw [k2]; unfold valB; simp; omega⟩, k2]
theorem cell_no {v : Int} {b : UInt8} (hb : b = 32 ∨ b = 10) : b ∉ cellT v := by
  unfold cellT
  split
  · rcases hb with rfl | rfl <;> decide
  · by_cases hn : v < 0
    · obtain ⟨u, rfl⟩ : ∃ u : Nat, v = -(u : Int) := ⟨v.natAbs, by omega⟩
      rw [Lib.itoa_neg u (by omega)]
      intro h
      rw [List.mem_cons] at h
      rcases h with h | h
      · rcases hb with rfl | rfl <;> exact absurd h (by decide)
      · have := (dec_val u).2.1 b h
        rcases hb with rfl | rfl <;> revert this <;> decide
    · obtain ⟨u, rfl⟩ : ∃ u : Nat, v = (u : Int) := ⟨v.toNat, by omega⟩
      rw [Lib.itoa_nonneg]
      intro h
      have := (dec_val u).2.1 b h
      rcases hb with rfl | rfl <;> revert this <;> decide
/-- the pieces joined again -/
def joinB (b : UInt8) : List (List UInt8) → List UInt8
  | [] => []
  | w :: r => w ++ (r.map fun z => b :: z).flatten
theorem join_pc (b : UInt8) (l : List UInt8) : ∀ cur, joinB b (pc (b.toNat : Int) cur l) = cur ++ l := by
  induction l with
  | nil => intro cur; simp [pc, joinB]
  | cons x r ih =>
    intro cur
    unfold pc
    by_cases e : (x.toNat : Int) = (b.toNat : Int)
    · have hx : x = b := UInt8.toNat_inj.1 (by omega)
      subst hx
      rw [if_pos rfl]
      have h := ih []
      rw [List.nil_append] at h
      have hne : pc (x.toNat : Int) [] r ≠ [] := by
        have := pc_head (x.toNat : Int) r []
        intro e; rw [e] at this; simp at this
      obtain ⟨y, ys, hy⟩ := List.exists_cons_of_ne_nil hne
      rw [hy] at h ⊢
      unfold joinB at h ⊢
      rw [← h]
      simp
    · rw [if_neg e, ih]; simp
theorem join_split (b : UInt8) (l : List UInt8) : joinB b (splitL l (b.toNat : Int)) = l := by rw [splitL_pc, join_pc]; rfl
theorem pcs_none (c : Int) (l : List UInt8) : ∀ cur, (∀ x ∈ l, (x.toNat : Int) ≠ c) → pc c cur l = [cur ++ l] := by
  induction l with
  | nil => intro cur _; simp [pc]
  | cons b r ih =>
    intro cur h
    unfold pc
    rw [if_neg (h b (by simp)), ih _ (fun x hx => h x (by simp [hx]))]
    simp
theorem pcs_cut (c : Int) (b : UInt8) (hb : (b.toNat : Int) = c) (r l : List UInt8) : ∀ cur, (∀ x ∈ l, (x.toNat : Int) ≠ c) → pc c cur (l ++ b :: r) = (cur ++ l) :: pc c [] r := by
  induction l with
  | nil => intro cur _; rw [List.nil_append]; conv => lhs; unfold pc
           rw [if_pos hb]; simp
  | cons x t ih =>
    intro cur h
    rw [List.cons_append]
    conv => lhs; unfold pc
    rw [if_neg (h x (by simp)), ih _ (fun y hy => h y (by simp [hy]))]
    simp
theorem bytes_ne {b : UInt8} {l : List UInt8} (h : b ∉ l) : ∀ x ∈ l, (x.toNat : Int) ≠ (b.toNat : Int) := fun x hx e => h (by
  have : x = b := UInt8.toNat_inj.1 (by omega)
  rw [← this]; exact hx)
theorem split_row (b : UInt8) (ws : List (List UInt8)) (hne : ws ≠ []) (h : ∀ w ∈ ws, b ∉ w) : splitL (joinB b ws) (b.toNat : Int) = ws := by
  rw [splitL_pc]
  obtain ⟨w, r, rfl⟩ := List.exists_cons_of_ne_nil hne
  induction r generalizing w with
  | nil => simp only [joinB, List.map_nil, List.flatten_nil, List.append_nil]; rw [pcs_none _ _ _ (bytes_ne (h w (by simp)))]; rfl
  | cons x r ih =>
    have e : joinB b (w :: x :: r) = w ++ b :: joinB b (x :: r) := by simp [joinB]
    rw [e, pcs_cut _ b rfl _ _ _ (bytes_ne (h w (by simp))), ih x (by simp) (fun z hz => h z (by simp [hz]))]
    rfl
theorem rdAll_some : ∀ {ws : List (List UInt8)} {vs : List Int}, rdAll ws = some vs → vs.map cellT = ws ∧ (∀ v ∈ vs, cellB v = true)
  | [], vs, h => by injection h with h; subst h; exact ⟨rfl, fun v hv => by cases hv⟩
  | w :: r, vs, h => by
    unfold rdAll at h
    cases hc : rdC w with
    | none => rw [hc] at h; cases h
    | some v =>
      rw [hc] at h
      simp only at h
      cases hr : rdAll r with
      | none => rw [hr] at h; cases h
      | some us =>
        rw [hr] at h
        injection h with h
        subst h
        obtain ⟨h1, h2⟩ := rdAll_some hr
        obtain ⟨h3, h4⟩ := rdC_cell hc
        refine ⟨by rw [List.map_cons, h1, h3], fun z hz => ?_⟩
        rw [List.mem_cons] at hz
        rcases hz with rfl | hz
        · exact h4
        · exact h2 z hz
theorem rdAll_back : ∀ {vs : List Int}, (∀ v ∈ vs, cellB v = true) → rdAll (vs.map cellT) = some vs
  | [], _ => rfl
  | v :: r, h => by
    rw [List.map_cons]
    unfold rdAll
    rw [rdC_back (h v (by simp)), rdAll_back (fun z hz => h z (by simp [hz]))]
theorem rowT_join (vs : List Int) : rowT vs = joinB 32 (vs.map cellT) := by
  cases vs with
  | nil => rfl
  | cons v r => simp [rowT, joinB, Function.comp_def]
theorem rdRow_some {line : List UInt8} {vs : List Int} (h : rdRow line = some vs) : rowT vs = line ∧ 1 ≤ vs.length ∧ vs.length ≤ 8 ∧ (∀ v ∈ vs, cellB v = true) := by
  unfold rdRow at h
  split at h
  · rename_i h8
    obtain ⟨h1, h2⟩ := rdAll_some h
    have hl : vs.length = (splitL line 32).length := by rw [← h1, List.length_map]
    refine ⟨by rw [rowT_join, h1]; exact join_split 32 line, ?_, by omega, h2⟩
    have := splitL_pos line 32
    omega
  · cases h
theorem rdRow_back {vs : List Int} (h1 : 1 ≤ vs.length) (h8 : vs.length ≤ 8) (h : ∀ v ∈ vs, cellB v = true) : rdRow (rowT vs) = some vs := by
  have e : splitL (rowT vs) 32 = vs.map cellT := by
    rw [rowT_join]
    refine split_row 32 _ ?_ ?_
    · intro e; rw [List.map_eq_nil_iff] at e; subst e; simp at h1
    · intro w hw
      obtain ⟨v, _, rfl⟩ := List.mem_map.1 hw
      exact cell_no (.inl rfl)
  unfold rdRow
  rw [e, if_pos (by rw [List.length_map]; exact h8)]
  exact rdAll_back h
theorem rdRows_some : ∀ {ls : List (List UInt8)} {R : List (List Int)}, rdRows ls = some R → R.map rowT = ls ∧ ∀ r ∈ R, 1 ≤ r.length ∧ r.length ≤ 8 ∧ ∀ v ∈ r, cellB v = true
  | [], R, h => by injection h with h; subst h; exact ⟨rfl, fun v hv => by cases hv⟩
  | w :: r, R, h => by
    unfold rdRows at h
    cases hc : rdRow w with
    | none => rw [hc] at h; cases h
    | some v =>
      rw [hc] at h
      simp only at h
      cases hr : rdRows r with
      | none => rw [hr] at h; cases h
      | some us =>
        rw [hr] at h
        injection h with h
        subst h
        obtain ⟨h1, h2⟩ := rdRows_some hr
        obtain ⟨h3, h4⟩ := rdRow_some hc
        refine ⟨by rw [List.map_cons, h1, h3], fun z hz => ?_⟩
        rw [List.mem_cons] at hz
        rcases hz with rfl | hz
        · exact h4
        · exact h2 z hz
theorem rdRows_back : ∀ {R : List (List Int)}, (∀ r ∈ R, 1 ≤ r.length ∧ r.length ≤ 8 ∧ ∀ v ∈ r, cellB v = true) → rdRows (R.map rowT) = some R
  | [], _ => rfl
  | v :: r, h => by
    rw [List.map_cons]
    unfold rdRows
    obtain ⟨h1, h2, h3⟩ := h v (by simp)
    rw [rdRow_back h1 h2 h3, rdRows_back (fun z hz => h z (by simp [hz]))]
theorem row_no {r : List Int} : (10 : UInt8) ∉ rowT r := by
  cases r with
  | nil => simp [rowT]
  | cons v r =>
    simp only [rowT, List.mem_append, not_or]
    refine ⟨cell_no (.inr rfl), ?_⟩
    intro h
    rw [List.mem_flatten] at h
    obtain ⟨w, hw, hb⟩ := h
    obtain ⟨z, _, rfl⟩ := List.mem_map.1 hw
    rw [List.mem_cons] at hb
    rcases hb with hb | hb
    · exact absurd hb (by decide)
    · exact cell_no (.inr rfl) hb
theorem text_join (R : List (List Int)) : textT R = joinB 10 (R.map rowT ++ [[]]) := by
  induction R with
  | nil => rfl
  | cons r R ih =>
    have e : textT (r :: R) = (rowT r ++ [10]) ++ textT R := by simp [textT]
    rw [e, ih]
    cases R with
    | nil => simp [joinB]
    | cons x R => simp [joinB]
theorem text_split (R : List (List Int)) : splitL (textT R) 10 = R.map rowT ++ [[]] := by
  rw [text_join]
  refine split_row 10 _ (by simp) ?_
  intro w hw
  rw [List.mem_append] at hw
  rcases hw with hw | hw
  · obtain ⟨z, _, rfl⟩ := List.mem_map.1 hw
    exact row_no
  · simp at hw; subst hw; simp
theorem lines_join {s : List UInt8} (h : endsP s = true) : splitL s 10 = linesP s ++ [[]] := by
  unfold endsP at h
  have h2 := of_decide_eq_true h
  unfold linesP
  obtain ⟨ys, hy⟩ := List.getLast?_eq_some_iff.1 h2
  rw [hy]; simp
theorem same_iffW {R : List (List Int)} : sameW R = true ↔ ∀ r ∈ R, r.length = (R.headD []).length := by unfold sameW; simp
/-- what is read is a field whose text it is -/
theorem pf_some {s : List UInt8} {f : Int × Int × List Int} (h : pfR s = some f) : ∃ R, rdRows (linesP s) = some R ∧ sameW R = true ∧ f = (((R.headD []).length : Int), (R.length : Int), R.flatten) ∧ textT R = s ∧ 1 ≤ R.length ∧ R.length ≤ 8 ∧ endsP s = true := by
  unfold pfR at h
  split at h
  · rename_i hc
    cases hr : rdRows (linesP s) with
    | none => rw [hr] at h; cases h
    | some R =>
      rw [hr] at h
      simp only at h
      split at h
      · rename_i hs
        injection h with h
        obtain ⟨h1, h2⟩ := rdRows_some hr
        have hl : R.length = (linesP s).length := by rw [← h1, List.length_map]
        refine ⟨R, rfl, hs, h.symm, ?_, by omega, by omega, hc.1⟩
        rw [text_join, h1, ← lines_join hc.1]
        exact join_split 10 s
      · cases h
  · cases h
theorem pf_back {R : List (List Int)} (h1 : 1 ≤ R.length) (h8 : R.length ≤ 8) (h : ∀ r ∈ R, 1 ≤ r.length ∧ r.length ≤ 8 ∧ ∀ v ∈ r, cellB v = true) (hw : sameW R = true) : pfR (textT R) = some (((R.headD []).length : Int), (R.length : Int), R.flatten) := by
  have e := text_split R
  have e1 : endsP (textT R) = true := by unfold endsP; rw [e]; simp
  have e2 : linesP (textT R) = R.map rowT := by unfold linesP; rw [e]; simp
  unfold pfR
  rw [e2, rdRows_back h, if_pos ⟨e1, by rw [List.length_map]; exact h1, by rw [List.length_map]; exact h8⟩]
  simp only
  rw [if_pos hw]
/-- a valid field's text is read back -/
theorem pf_good {W H : Nat} {l : List Int} (hW : 1 ≤ W) (hW8 : W ≤ 8) (hH : 1 ≤ H) (hH8 : H ≤ 8) (hl : l.length = W * H) (hc : ∀ v ∈ l, cellB v = true) : pfR (textT (chunks l W H)) = some ((W : Int), (H : Int), l) := by
  have he := chunks_each hl
  have hln := chunks_length l W H
  have hd : ((chunks l W H).headD []).length = W := by
    cases hch : chunks l W H with
    | nil => rw [hch] at hln; simp at hln; omega
    | cons r R => exact he r (by rw [hch]; simp)
  have h := pf_back (R := chunks l W H) (by omega) (by omega) (fun r hr => ⟨by rw [he r hr]; exact hW, by rw [he r hr]; exact hW8, fun v hv => hc v (by
    have : v ∈ (chunks l W H).flatten := List.mem_flatten.2 ⟨r, hr, hv⟩
    rwa [chunks_all hl] at this)⟩) (same_iffW.2 (fun r hr => by rw [he r hr, hd]))
  rw [h, hd, hln, chunks_all hl]
end Go.Proofs.YtgfgimpglaepaabDoor
