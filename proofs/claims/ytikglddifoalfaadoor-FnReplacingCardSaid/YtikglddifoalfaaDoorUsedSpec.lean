/- The model's FieldsUsed. -/
import Derived.Test.YtikglddifoalfaaDoorPut
namespace Go.Proofs.YtikglddifoalfaaDoor
open Go.RowKit
set_option linter.unusedVariables false
set_option linter.unusedSimpArgs false
/-- the numbers of 0..3 that are told by four bools -/
def four (b0 b1 b2 b3 : Bool) : List Int := (if b0 then [0] else []) ++ (if b1 then [1] else []) ++ (if b2 then [2] else []) ++ (if b3 then [3] else [])
def putsB (l L : List Int) (n : Int) (k : Nat) : Bool := decide (k ≤ l.length) && (l.take k).all (fun z => decide (z < n)) && ((decide (l[k]? = some n) && decide (L = l)) || (((l[k]?).all fun z => decide (¬ z < n ∧ ¬ z = n)) && decide (L = l.take k ++ [n] ++ l.drop k)))
def putF (l : List Int) (n : Int) : List Int := let k := (l.takeWhile fun z => decide (z < n)).length; if l[k]? = some n then l else l.take k ++ [n] ++ l.drop k
theorem takeWhile_at {p : Int → Bool} : ∀ (l : List Int) (k : Nat), k ≤ l.length → (∀ j (h : j < l.length), j < k → p l[j] = true) → (∀ h : k < l.length, p l[k] = false) → (l.takeWhile p).length = k
  | [], k, hk, _, _ => by simp at hk ⊢; omega
  | x :: r, 0, _, _, h2 => by
    have := h2 (by simp)
    simp at this
    simp [List.takeWhile, this]
  | x :: r, k + 1, hk, h1, h2 => by
    have hx := h1 0 (by simp) (by omega)
    simp at hx
    rw [List.takeWhile_cons_of_pos hx, List.length_cons, takeWhile_at r k (by simpa using hk) (fun j h hj => by have := h1 (j + 1) (by simp; omega) (by omega); simpa using this) (fun h => by have := h2 (by simp; omega); simpa using this)]
theorem put_is {l L : List Int} {n : Int} {k : Nat} (hk : k ≤ l.length) (h1 : ∀ j (h : j < l.length), j < k → l[j] < n) (h2 : (∃ h : k < l.length, l[k] = n ∧ L = l) ∨ ((∀ h : k < l.length, ¬ l[k] < n ∧ ¬ l[k] = n) ∧ L = l.take k ++ [n] ++ l.drop k)) : L = putF l n := by
  have e : (l.takeWhile fun z => decide (z < n)).length = k := by
    apply takeWhile_at l k hk
    · intro j h hj; exact decide_eq_true (h1 j h hj)
    · intro h
      apply decide_eq_false
      rcases h2 with ⟨_, h3, _⟩ | ⟨h3, _⟩
      · omega
      · exact (h3 h).1
  unfold putF
  simp only [e]
  rcases h2 with ⟨h, h3, h4⟩ | ⟨h3, h4⟩
  · rw [if_pos (by rw [List.getElem?_eq_getElem h, h3]), h4]
  · rw [if_neg, h4]
    intro q
    obtain ⟨h, q⟩ := List.getElem?_eq_some_iff.1 q
    exact (h3 h).2 q
theorem put_four (b0 b1 b2 b3 : Bool) (n : Int) (h0 : 0 ≤ n) (h3 : n ≤ 3) : putF (four b0 b1 b2 b3) n = four (b0 || decide (n = 0)) (b1 || decide (n = 1)) (b2 || decide (n = 2)) (b3 || decide (n = 3)) := by
  have h : n = 0 ∨ n = 1 ∨ n = 2 ∨ n = 3 := by omega
  rcases h with rfl | rfl | rfl | rfl <;> cases b0 <;> cases b1 <;> cases b2 <;> cases b3 <;> decide
theorem four_len (b0 b1 b2 b3 : Bool) : (four b0 b1 b2 b3).length ≤ 4 := by cases b0 <;> cases b1 <;> cases b2 <;> cases b3 <;> decide
theorem used_four (l : List Nd) : usedU l 4 = four (hasN l 1 0) (hasN l 1 1) (hasN l 1 2) (hasN l 1 3) := by
  unfold usedU
  rw [show List.range 4 = [0, 1, 2, 3] from rfl]
  have e0 : ((0 : Nat) : Int) = 0 := rfl
  have e1 : ((1 : Nat) : Int) = 1 := rfl
  have e2 : ((2 : Nat) : Int) = 2 := rfl
  have e3 : ((3 : Nat) : Int) = 3 := rfl
  simp only [List.filter_cons, List.filter_nil, e0, e1, e2, e3]
  cases hasN l 1 0 <;> cases hasN l 1 1 <;> cases hasN l 1 2 <;> cases hasN l 1 3 <;> rfl
theorem hasN_step {l : List Nd} {k : Nat} (h : k < l.length) (x y : Int) : hasN (l.take (k + 1)) x y = (hasN (l.take k) x y || (l[k].1 == x && l[k].2 == y)) := by
  unfold hasN
  rw [takeN_snoc l k h, List.any_append]
  simp
/-- one more node -/
theorem used_step {l : List Nd} {k : Nat} (h : k < l.length) : (l[k].1 = 1 → 0 ≤ l[k].2 → l[k].2 ≤ 3 → usedU (l.take (k + 1)) 4 = putF (usedU (l.take k) 4) l[k].2) ∧ (¬ l[k].1 = 1 → usedU (l.take (k + 1)) 4 = usedU (l.take k) 4) := by
  rw [used_four, used_four, hasN_step h, hasN_step h, hasN_step h, hasN_step h]
  constructor
  · intro e h0 h3
    rw [put_four _ _ _ _ _ h0 h3, e]
    congr 1 <;> simp [beq_eq_decide]
  · intro e
    have : (l[k].1 == 1) = false := by rw [beq_eq_false_iff_ne]; exact e
    rw [this]; simp
end Go.Proofs.YtikglddifoalfaaDoor
