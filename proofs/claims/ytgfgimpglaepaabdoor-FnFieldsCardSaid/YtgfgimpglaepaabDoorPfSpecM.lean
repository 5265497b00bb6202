/- The model's reading of a field, as plain mathematics. -/
import Derived.Test.YtgfgimpglaepaabDoorPfMath2
namespace Go.Proofs.YtgfgimpglaepaabDoor
set_option linter.unusedVariables false
set_option linter.unusedSimpArgs false
/-- a word as the model reads it: any number but the mark -/
def rdS (w : List UInt8) : Option Int := if w = [46] then some (-9999) else if pB (baL w) = true ∧ pN (baL w) ≠ -9999 then some (pN (baL w)) else none
def spAll : List (List UInt8) → Option (List Int)
  | [] => some []
  | w :: r => match rdS w with
    | none => none
    | some v => match spAll r with
      | none => none
      | some vs => some (v :: vs)
def spRows : List (List UInt8) → Option (List (List Int))
  | [] => some []
  | w :: r => match spAll (splitL w 32) with
    | none => none
    | some v => match spRows r with
      | none => none
      | some vs => some (v :: vs)
theorem rdS_of {w : List UInt8} {v : Int} (h : rdC w = some v) : rdS w = some v := by
  unfold rdC at h
  unfold rdS
  split at h
  · rename_i e; rw [if_pos e]; exact h
  · rename_i e
    rw [if_neg e]
    split at h
    · rename_i hc
      have := val_ok hc.2
      rw [if_pos ⟨hc.1, by omega⟩]
      exact h
    · cases h
theorem spAll_of : ∀ {ws : List (List UInt8)} {vs : List Int}, rdAll ws = some vs → spAll ws = some vs
  | [], vs, h => h
  | w :: r, vs, h => by
    unfold rdAll at h
    unfold spAll
    cases hc : rdC w with
    | none => rw [hc] at h; cases h
    | some v =>
      rw [hc] at h
      simp only at h
      rw [rdS_of hc]
      cases hr : rdAll r with
      | none => rw [hr] at h; cases h
      | some us => rw [hr] at h; rw [spAll_of hr]; exact h
theorem spRow_of {line : List UInt8} {vs : List Int} (h : rdRow line = some vs) : spAll (splitL line 32) = some vs := by
  unfold rdRow at h
  split at h
  · exact spAll_of h
  · cases h
theorem spRows_of : ∀ {ls : List (List UInt8)} {R : List (List Int)}, rdRows ls = some R → spRows ls = some R
  | [], R, h => h
  | w :: r, R, h => by
    unfold rdRows at h
    unfold spRows
    cases hc : rdRow w with
    | none => rw [hc] at h; cases h
    | some v =>
      rw [hc] at h
      simp only at h
      rw [spRow_of hc]
      cases hr : rdRows r with
      | none => rw [hr] at h; cases h
      | some us => rw [hr] at h; rw [spRows_of hr]; exact h
theorem spAll_snoc {ws : List (List UInt8)} {vs : List Int} {x : List UInt8} {v : Int} (h : spAll ws = some vs) (hx : rdS x = some v) : spAll (ws ++ [x]) = some (vs ++ [v]) := by
  induction ws generalizing vs with
  | nil => injection h with h; subst h; show spAll [x] = _; unfold spAll; rw [hx]; rfl
  | cons y r ih =>
    unfold spAll at h
    rw [List.cons_append]
    unfold spAll
    cases hc : rdS y with
    | none => rw [hc] at h; cases h
    | some u =>
      rw [hc] at h
      simp only at h ⊢
      cases hr : spAll r with
      | none => rw [hr] at h; cases h
      | some us =>
        rw [hr] at h
        injection h with h
        subst h
        rw [ih hr]
        rfl
theorem spAll_fail : ∀ {ws : List (List UInt8)} {k : Nat} (hk : k < ws.length), rdS ws[k] = none → spAll ws = none
  | y :: r, 0, _, h => by unfold spAll; rw [show rdS y = none from h]
  | y :: r, k + 1, hk, h => by
    have ih := spAll_fail (ws := r) (k := k) (by simpa using hk) (by simpa using h)
    unfold spAll
    cases rdS y with
    | none => rfl
    | some u => simp only; rw [ih]
theorem spAll_step {ws : List (List UInt8)} {k : Nat} {vs : List Int} {v : Int} (hk : k < ws.length) (h : spAll (ws.take k) = some vs) (hx : rdS ws[k] = some v) : spAll (ws.take (k + 1)) = some (vs ++ [v]) := by
  rw [List.take_succ_eq_append_getElem hk]; exact spAll_snoc h hx
theorem spAll_len : ∀ {ws : List (List UInt8)} {vs : List Int}, spAll ws = some vs → vs.length = ws.length
  | [], vs, h => by injection h with h; subst h; rfl
  | w :: r, vs, h => by
    unfold spAll at h
    cases hc : rdS w with
    | none => rw [hc] at h; cases h
    | some v =>
      rw [hc] at h
      simp only at h
      cases hr : spAll r with
      | none => rw [hr] at h; cases h
      | some us => rw [hr] at h; injection h with h; subst h; simp [spAll_len hr]
theorem spRows_snoc {ls : List (List UInt8)} {R : List (List Int)} {x : List UInt8} {v : List Int} (h : spRows ls = some R) (hx : spAll (splitL x 32) = some v) : spRows (ls ++ [x]) = some (R ++ [v]) := by
  induction ls generalizing R with
  | nil => injection h with h; subst h; show spRows [x] = _; unfold spRows; rw [hx]; rfl
  | cons y r ih =>
    unfold spRows at h
    rw [List.cons_append]
    unfold spRows
    cases hc : spAll (splitL y 32) with
    | none => rw [hc] at h; cases h
    | some u =>
      rw [hc] at h
      simp only at h ⊢
      cases hr : spRows r with
      | none => rw [hr] at h; cases h
      | some us =>
        rw [hr] at h
        injection h with h
        subst h
        rw [ih hr]
        rfl
theorem spRows_step {ls : List (List UInt8)} {k : Nat} {R : List (List Int)} {v : List Int} (hk : k < ls.length) (h : spRows (ls.take k) = some R) (hx : spAll (splitL ls[k] 32) = some v) : spRows (ls.take (k + 1)) = some (R ++ [v]) := by
  rw [List.take_succ_eq_append_getElem hk]; exact spRows_snoc h hx
theorem spRows_fail : ∀ {ls : List (List UInt8)} {k : Nat} (hk : k < ls.length), spAll (splitL ls[k] 32) = none → spRows ls = none
  | y :: r, 0, _, h => by unfold spRows; rw [show spAll (splitL y 32) = none from h]
  | y :: r, k + 1, hk, h => by
    have ih := spRows_fail (ls := r) (k := k) (by simpa using hk) (by simpa using h)
    unfold spRows
    cases spAll (splitL y 32) with
    | none => rfl
    | some u => simp only; rw [ih]
/-- a word that the model can't read: there is no field -/
theorem pfS_fail {s : List UInt8} (h : spRows (linesP s) = none) : pfR s = none := by
  cases hp : pfR s with
  | none => rfl
  | some f =>
    obtain ⟨R, h1, _⟩ := pf_some hp
    rw [spRows_of h1] at h
    cases h
theorem drop_flat {W : Nat} : ∀ (R : List (List Int)), (∀ r ∈ R, r.length = W) → ∀ j, R.flatten.drop (j * W) = (R.drop j).flatten
  | R, h, 0 => by simp
  | [], h, j + 1 => by simp
  | r :: R, h, j + 1 => by
    have hr := h r (by simp)
    have e : (j + 1) * W = r.length + j * W := by rw [Nat.add_mul, hr]; omega
    rw [List.flatten_cons, e, List.drop_append, List.drop_of_length_le (by omega), List.nil_append, show r.length + j * W - r.length = j * W by omega, drop_flat R (fun z hz => h z (by simp [hz])) j]
    rfl
theorem chunks_of {R : List (List Int)} {W : Nat} (h : ∀ r ∈ R, r.length = W) : chunks R.flatten W R.length = R := by
  apply List.ext_getElem (chunks_length _ _ _)
  intro j h1 h2
  rw [chunks_get, drop_flat R h j, List.drop_eq_getElem_cons h2, List.flatten_cons, List.take_append_of_le_length (by rw [h _ (List.getElem_mem h2)]; exact Nat.le_refl _), List.take_of_length_le (by rw [h _ (List.getElem_mem h2)]; exact Nat.le_refl _)]
def lastW (R : List (List Int)) : Nat := match R.getLast? with | some r => r.length | none => 0
theorem lastW_snoc (R : List (List Int)) (v : List Int) : lastW (R ++ [v]) = v.length := by simp [lastW]
/-- the field that the model has read, if the last check lets it pass -/
theorem pfS_check {s : List UInt8} {R : List (List Int)} (hr : spRows (linesP s) = some R) :
    (pfR s = none ∧ (goodB (lastW R : Int) ((linesP s).length : Int) R.flatten = false ∨ textT (chunks R.flatten (lastW R) (linesP s).length) ≠ s)) ∨
    (pfR s = some ((lastW R : Int), ((linesP s).length : Int), R.flatten) ∧ goodB (lastW R : Int) ((linesP s).length : Int) R.flatten = true ∧ textT (chunks R.flatten (lastW R) (linesP s).length) = s) := by
  cases hp : pfR s with
  | some f =>
    right
    obtain ⟨R', h1, h2, h3, h4, h5, h6, _⟩ := pf_some hp
    have e := spRows_of h1
    rw [hr] at e
    injection e with e
    subst e
    have hl := rdRows_len h1
    have hw := same_iffW.1 h2
    obtain ⟨_, hrow⟩ := rdRows_some h1
    have hlast : lastW R = (R.headD []).length := by
      unfold lastW
      cases hg : R.getLast? with
      | none => rw [List.getLast?_eq_none_iff] at hg; subst hg; simp at h5
      | some r => exact hw r (List.mem_of_getLast? hg)
    rw [hlast, ← hl]
    have hwid : ∀ r ∈ R, r.length = (R.headD []).length := hw
    have hch := chunks_of hwid
    obtain ⟨r0, R0, hR⟩ := List.exists_cons_of_ne_nil (l := R) (by intro e; subst e; simp at h5)
    have h0 := hrow r0 (by rw [hR]; simp)
    have hd : (R.headD []).length = r0.length := by rw [hR]; rfl
    refine ⟨by rw [h3], ?_, by rw [hch]; exact h4⟩
    have hfl := flat_len hwid
    refine good_yes ?_ ?_ ?_
    · unfold shapeB; simp only [Bool.and_eq_true, decide_eq_true_eq]; rw [hd]; omega
    · rw [hfl]; push_cast; rw [Int.mul_comm]
    · intro k hk
      obtain ⟨r, hr9, hv⟩ := List.mem_flatten.1 (List.getElem_mem hk)
      exact (hrow r hr9).2.2 _ hv
  | none =>
    left
    refine ⟨rfl, ?_⟩
    cases hg : goodB (lastW R : Int) ((linesP s).length : Int) R.flatten with
    | false => exact .inl rfl
    | true =>
      right
      intro e
      obtain ⟨W, H, e1, e2, a1, a2, a3, a4, a5⟩ := good_nat hg
      have e1 : lastW R = W := by omega
      have e2 : (linesP s).length = H := by omega
      have h9 := pf_good a1 a2 a3 a4 a5 (good_cell hg)
      rw [e1, e2] at e
      rw [e, hp] at h9
      cases h9
end Go.Proofs.YtgfgimpglaepaabDoor
