/- Plain mathematics of a part of a field. -/
import Derived.Test.YtglpkfkbbjbjjaaGrid
import Derived.Test.YtglpkfkbbjbjjaaHas
namespace Go.Proofs.Ytglpkfkbbjbjjaa
/-- the rows of the part of P by Q cells from (X, Y) on, of a field of width W -/
def subRows (l : List Int) (W X Y P Q : Nat) : List (List Int) := (List.range Q).map fun v => (l.drop ((Y + v) * W + X)).take P
def subOk (wd hg : Int) (l : List Int) (x y p q : Int) : Bool := goodB wd hg l && inB wd hg x y && shapeB p q && inB wd hg (x + p - 1) (y + q - 1)
def subR (wd hg : Int) (l : List Int) (x y p q : Int) : Option (Int × Int × List Int) :=
  if subOk wd hg l x y p q = true then some (p, q, (subRows l wd.toNat x.toNat y.toNat p.toNat q.toNat).flatten) else none
theorem subR_no {wd hg : Int} {l : List Int} {x y p q : Int} (h : subOk wd hg l x y p q = false) : subR wd hg l x y p q = none := if_neg (by rw [h]; simp)
theorem subR_yes {wd hg : Int} {l : List Int} {x y p q : Int} (h : subOk wd hg l x y p q = true) : subR wd hg l x y p q = some (p, q, (subRows l wd.toNat x.toNat y.toNat p.toNat q.toNat).flatten) := if_pos h
theorem subOk_parts {wd hg : Int} {l : List Int} {x y p q : Int} (h : subOk wd hg l x y p q = true) : goodB wd hg l = true ∧ inB wd hg x y = true ∧ shapeB p q = true ∧ inB wd hg (x + p - 1) (y + q - 1) = true := by
  unfold subOk at h
  simp only [Bool.and_eq_true] at h
  exact ⟨h.1.1.1, h.1.1.2, h.1.2, h.2⟩
/-- the part's numbers as naturals -/
theorem sub_nat {wd hg : Int} {l : List Int} {x y p q : Int} (h : subOk wd hg l x y p q = true) : ∃ W H X Y P Q : Nat, wd = (W : Int) ∧ hg = (H : Int) ∧ x = (X : Int) ∧ y = (Y : Int) ∧ p = (P : Int) ∧ q = (Q : Int) ∧
    1 ≤ W ∧ W ≤ 8 ∧ 1 ≤ H ∧ H ≤ 8 ∧ 1 ≤ P ∧ P ≤ 8 ∧ 1 ≤ Q ∧ Q ≤ 8 ∧ X + P ≤ W ∧ Y + Q ≤ H ∧ l.length = W * H := by
  obtain ⟨h1, h2, h3, h4⟩ := subOk_parts h
  obtain ⟨W, H, rfl, rfl, w1, w2, w3, w4, hl⟩ := good_nat h1
  obtain ⟨⟨a1, a2⟩, a3, a4⟩ := inB_iff.1 h2
  obtain ⟨⟨b1, b2⟩, b3, b4⟩ := shapeB_iff.1 h3
  obtain ⟨⟨c1, c2⟩, c3, c4⟩ := inB_iff.1 h4
  exact ⟨W, H, x.toNat, y.toNat, p.toNat, q.toNat, rfl, rfl, by omega, by omega, by omega, by omega, w1, w2, w3, w4, by omega, by omega, by omega, by omega, by omega, by omega, hl⟩
theorem subRows_length (l : List Int) (W X Y P Q : Nat) : (subRows l W X Y P Q).length = Q := by simp [subRows]
theorem subRows_get (l : List Int) (W X Y P Q v : Nat) (h : v < (subRows l W X Y P Q).length) : (subRows l W X Y P Q)[v] = (l.drop ((Y + v) * W + X)).take P := by simp [subRows]
theorem sub_fits {W H X Y P Q v n : Nat} (hX : X + P ≤ W) (hY : Y + Q ≤ H) (hv : v < Q) (hn : n = W * H) : (Y + v) * W + X + P ≤ n := by
  have h2 : (Y + v + 1) * W ≤ H * W := Nat.mul_le_mul_right _ (by omega)
  rw [Nat.mul_comm H W, ← hn, Nat.add_mul] at h2
  omega
theorem subRows_each {l : List Int} {W H X Y P Q : Nat} (hX : X + P ≤ W) (hY : Y + Q ≤ H) (hl : l.length = W * H) : ∀ r ∈ subRows l W X Y P Q, r.length = P := by
  intro r hr
  obtain ⟨v, hv, rfl⟩ := List.mem_map.1 hr
  have hv' : v < Q := by simpa using hv
  have := sub_fits hX hY hv' hl
  rw [List.length_take, List.length_drop]
  omega
theorem subR_len (wd hg : Int) (l : List Int) (x y p q : Int) : (rL (subR wd hg l x y p q)).length ≤ 64 := by
  cases h : subOk wd hg l x y p q with
  | false => rw [subR_no h]; simp [rL]
  | true =>
    rw [subR_yes h]
    obtain ⟨W, H, X, Y, P, Q, rfl, rfl, rfl, rfl, rfl, rfl, h1, h2, h3, h4, h5, h6, h7, h8, h9, h10, hl⟩ := sub_nat h
    show (subRows l _ _ _ _ _).flatten.length ≤ 64
    simp only [Int.toNat_natCast]
    rw [flat_len (subRows_each h9 h10 hl), subRows_length]
    exact Nat.mul_le_mul h8 h6
/-- what has come when v rows and u cells of the next are laid -/
def laidS (l : List Int) (W X Y P Q v u : Nat) : List Int := ((subRows l W X Y P Q).take v).flatten ++ (l.drop ((Y + v) * W + X)).take u
theorem laidS_zero (l : List Int) (W X Y P Q : Nat) : laidS l W X Y P Q 0 0 = [] := by simp [laidS]
theorem laidS_cell {l : List Int} {W X Y P Q v u : Nat} (h : (Y + v) * W + X + u < l.length) : laidS l W X Y P Q v (u + 1) = laidS l W X Y P Q v u ++ [l[(Y + v) * W + X + u]] := by
  unfold laidS
  rw [List.take_succ_eq_append_getElem (by rw [List.length_drop]; omega), List.append_assoc, List.getElem_drop]
theorem laidS_row {l : List Int} {W X Y P Q v : Nat} (h : v < Q) : laidS l W X Y P Q v P = laidS l W X Y P Q (v + 1) 0 := by
  unfold laidS
  rw [List.take_succ_eq_append_getElem (by rw [subRows_length]; exact h), List.flatten_append, subRows_get]
  simp
theorem laidS_all (l : List Int) (W X Y P Q : Nat) : laidS l W X Y P Q Q 0 = (subRows l W X Y P Q).flatten := by
  unfold laidS
  rw [List.take_of_length_le (by rw [subRows_length]; exact Nat.le_refl _)]
  simp
theorem laidS_length {l : List Int} {W H X Y P Q v u : Nat} (hX : X + P ≤ W) (hY : Y + Q ≤ H) (hl : l.length = W * H) (hv : v < Q) (hu : u ≤ P) : (laidS l W X Y P Q v u).length = v * P + u := by
  unfold laidS
  have := sub_fits hX hY hv hl
  rw [List.length_append, flat_len (W := P) (fun r hr => subRows_each hX hY hl r (List.mem_of_mem_take hr)), List.length_take, subRows_length, Nat.min_eq_left (by omega), List.length_take, List.length_drop]
  omega
end Go.Proofs.Ytglpkfkbbjbjjaa
