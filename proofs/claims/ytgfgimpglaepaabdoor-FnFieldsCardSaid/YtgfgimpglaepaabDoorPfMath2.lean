/- ParseField as plain mathematics: the ends, the lengths, the rows one after another. -/
import Derived.Test.YtgfgimpglaepaabDoorPfMath
namespace Go.Proofs.YtgfgimpglaepaabDoor
set_option linter.unusedVariables false
set_option linter.unusedSimpArgs false
theorem split_end (b : List UInt8) : splitL (b ++ [10]) 10 = splitL b 10 ++ [[]] := by
  unfold splitL
  rw [spSt_hit (by decide)]
theorem pf_end (b : List UInt8) : pfR (b ++ [10]) = if (splitL b 10).length ≤ 8 then (match rdRows (splitL b 10) with
    | some R => if sameW R = true then some (((R.headD []).length : Int), (R.length : Int), R.flatten) else none
    | none => none) else none := by
  have e := split_end b
  have e1 : endsP (b ++ [10]) = true := by unfold endsP; rw [e]; simp
  have e2 : linesP (b ++ [10]) = splitL b 10 := by unfold linesP; rw [e]; simp
  have hp := splitL_pos b 10
  unfold pfR
  rw [e1, e2]
  by_cases h : (splitL b 10).length ≤ 8
  · rw [if_pos ⟨rfl, by omega, h⟩, if_pos h]
    cases rdRows (splitL b 10) <;> rfl
  · rw [if_neg (fun h' => h h'.2.2), if_neg h]
theorem pf_noend {l : List UInt8} (h : ∀ b, l ≠ b ++ [10]) : pfR l = none := by
  rcases List.eq_nil_or_concat l with rfl | ⟨b, x, rfl⟩
  · unfold pfR
    rw [if_neg]
    rintro ⟨_, h1, _⟩
    simp [linesP, splitL, spSt] at h1
  · have hx : ¬ (x.toNat : Int) = 10 := by
      intro e
      have : x = 10 := UInt8.toNat_inj.1 (by show x.toNat = 10; omega)
      subst this
      exact h b (by simp)
    have e : splitL (b ++ [x]) 10 = (spSt b 10).1 ++ [(spSt b 10).2 ++ [x]] := by unfold splitL; rw [spSt_miss hx]
    unfold pfR
    rw [if_neg]
    rintro ⟨h1, _⟩
    unfold endsP at h1
    have e9 : b.concat x = b ++ [x] := by simp
    rw [e9, e] at h1
    simp at h1
theorem cell_len5 {v : Int} (h : cellB v = true) : (cellT v).length ≤ 5 := by
  rcases cellB_iff.1 h with h1 | h1
  · rw [cellT_gone h1]; simp
  · rw [cellT_val (by omega)]
    by_cases hn : v < 0
    · obtain ⟨u, rfl⟩ : ∃ u : Nat, v = -(u : Int) := ⟨v.natAbs, by omega⟩
      rw [Lib.itoa_neg u (by omega), List.length_cons, Lib.decDigits_length]
      have := nDig_le 4 u (by omega) (by omega)
      omega
    · obtain ⟨u, rfl⟩ : ∃ u : Nat, v = (u : Int) := ⟨v.toNat, by omega⟩
      rw [Lib.itoa_nonneg, Lib.decDigits_length]
      have := nDig_le 4 u (by omega) (by omega)
      omega
theorem row_len6 {r : List Int} (h : ∀ v ∈ r, cellB v = true) : (rowT r).length ≤ 6 * r.length := by
  cases r with
  | nil => simp [rowT]
  | cons x r =>
    have hx := cell_len5 (h x (by simp))
    have hr : ((r.map fun z => 32 :: cellT z).flatten).length ≤ 6 * r.length := by
      have h' : ∀ v ∈ r, cellB v = true := fun v hv => h v (by simp [hv])
      clear hx h
      induction r with
      | nil => simp
      | cons y s ih =>
        have hy := cell_len5 (h' y (by simp))
        have := ih (fun v hv => h' v (by simp [hv]))
        simp only [List.map_cons, List.flatten_cons, List.length_append, List.length_cons]
        omega
    simp only [rowT, List.length_append, List.length_cons]
    omega
theorem text_len {R : List (List Int)} (h : ∀ r ∈ R, 1 ≤ r.length ∧ r.length ≤ 8 ∧ ∀ v ∈ r, cellB v = true) : (textT R).length ≤ 49 * R.length := by
  induction R with
  | nil => simp [textT]
  | cons r R ih =>
    have h1 := h r (by simp)
    have h2 := row_len6 h1.2.2
    have h3 := ih (fun x hx => h x (by simp [hx]))
    have : textT (r :: R) = (rowT r ++ [10]) ++ textT R := by simp [textT]
    rw [this]
    simp only [List.length_append, List.length_cons, List.length_nil]
    omega
theorem pf_len {s : List UInt8} {f : Int × Int × List Int} (h : pfR s = some f) : s.length ≤ 500 := by
  obtain ⟨R, h1, _, _, h2, _, h3, _⟩ := pf_some h
  have := text_len (rdRows_some h1).2
  rw [h2] at this
  omega
theorem pf_long {s : List UInt8} (h : 500 < s.length) : pfR s = none := by
  cases hp : pfR s with
  | none => rfl
  | some f => have := pf_len hp; omega
theorem rdRows_len {ls : List (List UInt8)} {R : List (List Int)} (h : rdRows ls = some R) : R.length = ls.length := by
  rw [← (rdRows_some h).1, List.length_map]
theorem rdRows_snoc {ls : List (List UInt8)} {R : List (List Int)} {x : List UInt8} {v : List Int} (h : rdRows ls = some R) (hx : rdRow x = some v) : rdRows (ls ++ [x]) = some (R ++ [v]) := by
  induction ls generalizing R with
  | nil => injection h with h; subst h; show rdRows [x] = _; unfold rdRows; rw [hx]; rfl
  | cons y r ih =>
    unfold rdRows at h
    rw [List.cons_append]
    unfold rdRows
    cases hc : rdRow y with
    | none => rw [hc] at h; cases h
    | some u =>
      rw [hc] at h
      simp only at h ⊢
      cases hr : rdRows r with
      | none => rw [hr] at h; cases h
      | some us =>
        rw [hr] at h
        injection h with h
        subst h
        rw [ih hr]
        rfl
theorem rdRows_step {ls : List (List UInt8)} {k : Nat} {R : List (List Int)} {v : List Int} (hk : k < ls.length) (h : rdRows (ls.take k) = some R) (hx : rdRow ls[k] = some v) : rdRows (ls.take (k + 1)) = some (R ++ [v]) := by
  rw [List.take_succ_eq_append_getElem hk]; exact rdRows_snoc h hx
theorem rdRows_fail : ∀ {ls : List (List UInt8)} {k : Nat} (hk : k < ls.length), rdRow ls[k] = none → rdRows ls = none
  | y :: r, 0, _, h => by unfold rdRows; rw [show rdRow y = none from h]
  | y :: r, k + 1, hk, h => by
    have ih := rdRows_fail (ls := r) (k := k) (by simpa using hk) (by simpa using h)
    unfold rdRows
    cases rdRow y with
    | none => rfl
    | some u => simp only; rw [ih]
/-- a whole reading begins with the reading of the first lines -/
theorem rdRows_pre : ∀ {ls : List (List UInt8)} {S : List (List Int)} (k : Nat), rdRows ls = some S → rdRows (ls.take k) = some (S.take k)
  | [], S, k, h => by injection h with h; subst h; simp [rdRows]
  | y :: r, S, 0, h => by simp [rdRows]
  | y :: r, S, k + 1, h => by
    unfold rdRows at h
    cases hc : rdRow y with
    | none => rw [hc] at h; cases h
    | some u =>
      rw [hc] at h
      simp only at h
      cases hr : rdRows r with
      | none => rw [hr] at h; cases h
      | some us =>
        rw [hr] at h
        injection h with h
        subst h
        rw [List.take_succ_cons, List.take_succ_cons]
        unfold rdRows
        rw [hc, rdRows_pre k hr]
/-- rows of two lengths are no field -/
theorem rows_uneven {ls : List (List UInt8)} {R : List (List Int)} {r0 v : List Int} (h : rdRows ls = some R) (h0 : r0 ∈ R) (hv : v ∈ R) (hne : r0.length ≠ v.length) : sameW R = false := by
  cases hs : sameW R with
  | false => rfl
  | true =>
    have h9 := same_iffW.1 hs
    exact absurd ((h9 r0 h0).trans (h9 v hv).symm) hne
end Go.Proofs.YtgfgimpglaepaabDoor
