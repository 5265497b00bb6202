/- Plain mathematics of regions: lists of cells in rising order, the cells as points, neighbors. -/
import Derived.Test.YthceffkkokgpnaaFieldMath
namespace Go.Proofs.Ythceffkkokgpnaa
/-- the number ahead of place j, or -1 -/
def prevL (l : List Int) (j : Nat) : Int := if j = 0 then -1 else l.getD (j - 1) 0
def risB (hi : Int) (l : List Int) : Bool := (List.range l.length).all fun j => decide (prevL l j < l.getD j 0) && decide (l.getD j 0 < hi)
def regB (wd hg : Int) (l : List Int) : Bool := shapeB wd hg && risB (wd * hg) l
theorem ris_iff {hi : Int} {l : List Int} : risB hi l = true ↔ ∀ j (h : j < l.length), prevL l j < l[j] ∧ l[j] < hi := by
  unfold risB
  rw [List.all_eq_true]
  constructor
  · intro h j hj
    have := h j (List.mem_range.2 hj)
    simp only [Bool.and_eq_true, decide_eq_true_eq] at this
    simpa [hj] using this
  · intro h j hj
    have hj := List.mem_range.1 hj
    have := h j hj
    simp only [Bool.and_eq_true, decide_eq_true_eq]
    simpa [hj] using this
theorem ris_no {hi : Int} {l : List Int} {j : Nat} (hj : j < l.length) (h : ¬ (prevL l j < l[j] ∧ l[j] < hi)) : risB hi l = false := by
  cases e : risB hi l with
  | false => rfl
  | true => exact absurd (ris_iff.1 e j hj) h
theorem prevL_zero (l : List Int) : prevL l 0 = -1 := rfl
theorem prevL_succ {l : List Int} {j : Nat} (h : j < l.length) : prevL l (j + 1) = l[j] := by unfold prevL; simp [h]
theorem reg_shape {wd hg : Int} {l : List Int} (h : regB wd hg l = true) : shapeB wd hg = true := by unfold regB at h; simp at h; exact h.1
theorem reg_ris {wd hg : Int} {l : List Int} (h : regB wd hg l = true) : ∀ j (h : j < l.length), prevL l j < l[j] ∧ l[j] < wd * hg := by
  unfold regB at h; simp at h; exact ris_iff.1 h.2
theorem reg_no_shape {wd hg : Int} {l : List Int} (h : shapeB wd hg = false) : regB wd hg l = false := by unfold regB; rw [h]; rfl
theorem reg_no_at {wd hg : Int} {l : List Int} {j : Nat} (hj : j < l.length) (h : ¬ (prevL l j < l[j] ∧ l[j] < wd * hg)) : regB wd hg l = false := by
  unfold regB; rw [ris_no hj h]; simp
theorem reg_yes {wd hg : Int} {l : List Int} (hs : shapeB wd hg = true) (h : ∀ j (h : j < l.length), prevL l j < l[j] ∧ l[j] < wd * hg) : regB wd hg l = true := by
  unfold regB; rw [hs, ris_iff.2 h]; rfl
/-- each number is not less than its place -/
theorem reg_ge {wd hg : Int} {l : List Int} (h : regB wd hg l = true) : ∀ (j : Nat) (hj : j < l.length), (j : Int) ≤ l[j] := by
  intro j
  induction j with
  | zero => intro hj; have := (reg_ris h 0 hj).1; rw [prevL_zero] at this; omega
  | succ j ih =>
    intro hj
    have h1 := ih (by omega)
    have h2 := (reg_ris h (j + 1) hj).1
    rw [prevL_succ (by omega)] at h2
    omega
theorem reg_bd {wd hg : Int} {l : List Int} (h : regB wd hg l = true) : ∀ z ∈ l, 0 ≤ z ∧ z < wd * hg := fun z hz => by
  obtain ⟨j, hj, rfl⟩ := List.getElem_of_mem hz
  have := reg_ge h j hj
  have := (reg_ris h j hj).2
  omega
theorem reg_len {wd hg : Int} {l : List Int} (h : regB wd hg l = true) : l.length ≤ 64 := by
  have hp := prod_bd (reg_shape h)
  rcases Nat.eq_zero_or_pos l.length with h0 | h0
  · omega
  · have h1 := reg_ge h (l.length - 1) (by omega)
    have h2 := (reg_ris h (l.length - 1) (by omega)).2
    omega
theorem reg_lt {wd hg : Int} {l : List Int} (h : regB wd hg l = true) : ∀ (i j : Nat) (hij : i < j) (hj : j < l.length), l[i]'(by omega) < l[j] := by
  intro i j
  induction j with
  | zero => intro hij; omega
  | succ j ih =>
    intro hij hj
    have h2 := (reg_ris h (j + 1) hj).1
    rw [prevL_succ (by omega)] at h2
    rcases Nat.lt_or_ge i j with h3 | h3
    · have := ih h3 (by omega); omega
    · obtain rfl : i = j := by omega
      exact h2
theorem ris_prev {hi : Int} {l : List Int} : ∀ (k : Nat), k ≤ l.length → (∀ j (h : j < l.length), j < k → prevL l j < l[j] ∧ l[j] < hi) → -1 ≤ prevL l k := by
  intro k
  induction k with
  | zero => intro _ _; rw [prevL_zero]; omega
  | succ k ih =>
    intro hk h
    have h1 := ih (by omega) (fun j hj hjk => h j hj (by omega))
    have h2 := (h k (by omega) (by omega)).1
    rw [prevL_succ (by omega)]; omega
theorem reg_take {wd hg : Int} {l : List Int} (h : regB wd hg l = true) (k : Nat) : regB wd hg (l.take k) = true := by
  refine reg_yes (reg_shape h) fun j hj => ?_
  rw [List.length_take] at hj
  have := reg_ris h j (by omega)
  rw [List.getElem_take]
  refine ⟨?_, this.2⟩
  cases j with
  | zero => exact this.1
  | succ j => rw [prevL_succ (by rw [List.length_take]; omega), List.getElem_take]; rw [prevL_succ (by omega)] at this; exact this.1
/-- whether the cell at (x, y) is one of l -/
def inP (wd : Int) (l : List Int) (x y : Int) : Bool := l.any fun i => decide (i % wd = x) && decide (i / wd = y)
theorem inP_iff {wd : Int} {l : List Int} {x y : Int} : inP wd l x y = true ↔ ∃ i ∈ l, i % wd = x ∧ i / wd = y := by
  unfold inP; rw [List.any_eq_true]; simp
theorem inP_nil (wd x y : Int) : inP wd [] x y = false := rfl
theorem inP_snoc (wd : Int) (l : List Int) (z x y : Int) : inP wd (l ++ [z]) x y = (inP wd l x y || (decide (z % wd = x) && decide (z / wd = y))) := by
  unfold inP; rw [List.any_append]; simp
/-- whether the number of the cell at (x, y) stands in l, the cell being one of the grid -/
def hasR (wd hg : Int) (l : List Int) (x y : Int) : Bool := decide (0 ≤ x ∧ x ≤ wd - 1) && (decide (0 ≤ y ∧ y ≤ hg - 1) && decide (y * wd + x ∈ l))
theorem cell_back {wd i : Int} : i / wd * wd + i % wd = i := by have := Int.emod_add_mul_ediv i wd; rw [Int.mul_comm wd] at this; omega
theorem cell_mod {wd x y : Int} (h0 : 0 ≤ x) (h1 : x < wd) : (y * wd + x) % wd = x := by
  rw [Int.add_comm, Int.add_mul_emod_self_right, Int.emod_eq_of_lt h0 h1]
theorem cell_div {wd x y : Int} (h0 : 0 ≤ x) (h1 : x < wd) : (y * wd + x) / wd = y := by
  rw [Int.add_comm, Int.add_mul_ediv_right _ _ (by omega), Int.ediv_eq_zero_of_lt h0 h1]; omega
theorem cell_in {wd hg i : Int} (hs : shapeB wd hg = true) (h0 : 0 ≤ i) (h1 : i < wd * hg) : (0 ≤ i % wd ∧ i % wd < wd) ∧ 0 ≤ i / wd ∧ i / wd < hg := by
  obtain ⟨⟨a, b⟩, c, d⟩ := shapeB_iff.1 hs
  exact ⟨⟨Int.emod_nonneg _ (by omega), Int.emod_lt_of_pos _ (by omega)⟩, Int.ediv_nonneg h0 (by omega), Int.ediv_lt_of_lt_mul (by omega) (by rw [Int.mul_comm]; exact h1)⟩
theorem inP_has {wd hg : Int} {l : List Int} (h : regB wd hg l = true) (x y : Int) : inP wd l x y = hasR wd hg l x y := by
  have hs := reg_shape h
  rw [Bool.eq_iff_iff, inP_iff]
  unfold hasR
  simp only [Bool.and_eq_true, decide_eq_true_eq]
  constructor
  · rintro ⟨i, hi, rfl, rfl⟩
    obtain ⟨h0, h1⟩ := reg_bd h i hi
    obtain ⟨⟨a, b⟩, c, d⟩ := cell_in hs h0 h1
    exact ⟨⟨a, by omega⟩, ⟨c, by omega⟩, by rw [cell_back]; exact hi⟩
  · rintro ⟨⟨a, b⟩, ⟨c, d⟩, e⟩
    exact ⟨_, e, cell_mod a (by omega), cell_div a (by omega)⟩
/-- the neighbor of (x, y): above, right, below, left -/
def nbX (x : Int) (d : Nat) : Int := if d = 1 then x + 1 else if d = 3 then x - 1 else x
def nbY (y : Int) (d : Nat) : Int := if d = 0 then y - 1 else if d = 2 then y + 1 else y
/-- the sides of a cell towards the first n neighbors that belong to no cell of l -/
def sidesOne (wd : Int) (l : List Int) (i : Int) (n : Nat) : List (Int × Nat) :=
  ((List.range n).filter fun d => !inP wd l (nbX (i % wd) d) (nbY (i / wd) d)).map fun d => (i, d)
def sidesL (wd : Int) (l q : List Int) : List (Int × Nat) := q.flatMap fun i => sidesOne wd l i 4
theorem sidesOne_zero (wd : Int) (l : List Int) (i : Int) : sidesOne wd l i 0 = [] := rfl
theorem sidesOne_yes {wd : Int} {l : List Int} {i : Int} {n : Nat} (h : inP wd l (nbX (i % wd) n) (nbY (i / wd) n) = true) : sidesOne wd l i (n + 1) = sidesOne wd l i n := by
  unfold sidesOne; rw [List.range_succ, List.filter_append, List.map_append]; simp [h]
theorem sidesOne_no {wd : Int} {l : List Int} {i : Int} {n : Nat} (h : inP wd l (nbX (i % wd) n) (nbY (i / wd) n) = false) : sidesOne wd l i (n + 1) = sidesOne wd l i n ++ [(i, n)] := by
  unfold sidesOne; rw [List.range_succ, List.filter_append, List.map_append]; simp [h]
theorem sidesL_snoc (wd : Int) (l q : List Int) (i : Int) : sidesL wd l (q ++ [i]) = sidesL wd l q ++ sidesOne wd l i 4 := by simp [sidesL]
theorem sidesL_nil (wd : Int) (l : List Int) : sidesL wd l [] = [] := rfl
theorem sidesOne_len (wd : Int) (l : List Int) (i : Int) (n : Nat) : (sidesOne wd l i n).length ≤ n := by
  unfold sidesOne; rw [List.length_map]; exact Nat.le_trans (List.length_filter_le _ _) (by simp)
theorem sidesL_len (wd : Int) (l q : List Int) : (sidesL wd l q).length ≤ 4 * q.length := by
  induction q with
  | nil => simp [sidesL]
  | cons i q ih =>
    have := sidesOne_len wd l i 4
    unfold sidesL at *
    rw [List.flatMap_cons, List.length_append, List.length_cons]; omega
/-- the number of sides, 0 for what is no region -/
def bordN (wd hg : Int) (l : List Int) : Int := if regB wd hg l = true then ((sidesL wd l l).length : Int) else 0
/-- the field of a region -/
def onesL (n : Nat) (l : List Int) : List Int := (List.range n).map fun (j : Nat) => if (j : Int) ∈ l then 1 else 0
theorem onesL_len (n : Nat) (l : List Int) : (onesL n l).length = n := by simp [onesL]
theorem onesL_nil (n : Nat) : onesL n [] = List.replicate n 0 := by
  refine List.ext_getElem (by simp [onesL]) fun j h1 h2 => ?_
  simp [onesL]
theorem onesL_snoc (n : Nat) (l : List Int) (z : Int) (k : Nat) (hz : z = (k : Int)) : (onesL n l).set k 1 = onesL n (l ++ [z]) := by
  refine List.ext_getElem (by simp [onesL]) fun j h1 h2 => ?_
  rw [List.getElem_set]
  unfold onesL
  simp only [List.getElem_map, List.getElem_range, List.mem_append, List.mem_singleton, hz]
  by_cases e : k = j
  · subst e; simp
  · rw [if_neg e]
    have : ¬ (j : Int) = (k : Int) := by omega
    simp [this]
def fldR (wd hg : Int) (l : List Int) : Option (Int × Int × List Int) := if regB wd hg l = true then some (wd, hg, onesL (wd * hg).toNat l) else none
theorem fldR_no {wd hg : Int} {l : List Int} (h : regB wd hg l = false) : fldR wd hg l = none := if_neg (by rw [h]; simp)
theorem fldR_yes {wd hg : Int} {l : List Int} (h : regB wd hg l = true) : fldR wd hg l = some (wd, hg, onesL (wd * hg).toNat l) := if_pos h
theorem fldR_len (wd hg : Int) (l : List Int) : (rL (fldR wd hg l)).length ≤ 64 := by
  cases h : regB wd hg l with
  | false => rw [fldR_no h]; simp [rL]
  | true =>
    rw [fldR_yes h]
    have := prod_bd (reg_shape h)
    show (onesL _ _).length ≤ 64
    rw [onesL_len]; omega
/-- whether two cells have a side in common -/
def besB (wd a b : Int) : Bool := decide ((a % wd - b % wd) * (a % wd - b % wd) + (a / wd - b / wd) * (a / wd - b / wd) = 1)
/-- whether a cell belongs to the region that has grown -/
def nearB (wd : Int) (l : List Int) (i : Int) : Bool := decide (i ∈ l) || l.any fun k => besB wd i k
/-- .. asked at the four neighbors and at the cell itself, of which the first n -/
def nearP (wd : Int) (l : List Int) (i : Int) (n : Nat) : Bool := (List.range n).any fun d => inP wd l (nbX (i % wd) d) (nbY (i / wd) d)
theorem sq_one {x y : Int} (h : x * x + y * y = 1) : (x = 0 ∧ (y = 1 ∨ y = -1)) ∨ (y = 0 ∧ (x = 1 ∨ x = -1)) := by
  have hx : x * x = 0 ∨ 1 ≤ x * x := by
    rcases Int.lt_trichotomy x 0 with h | h | h
    · exact .inr (by have := Int.mul_le_mul (a := 1) (b := 1) (c := -x) (d := -x) (by omega) (by omega) (by omega) (by omega); rw [Int.neg_mul_neg] at this; omega)
    · subst h; exact .inl rfl
    · exact .inr (by have := Int.mul_le_mul (a := 1) (b := 1) (c := x) (d := x) (by omega) (by omega) (by omega) (by omega); omega)
  have key : ∀ z : Int, z * z ≤ 1 → -1 ≤ z ∧ z ≤ 1 := by
    intro z hz
    constructor
    · rcases Int.lt_or_le z (-1) with h | h
      · have := Int.mul_le_mul (a := 2) (b := 2) (c := -z) (d := -z) (by omega) (by omega) (by omega) (by omega); rw [Int.neg_mul_neg] at this; omega
      · exact h
    · rcases Int.lt_or_le 1 z with h | h
      · have := Int.mul_le_mul (a := 2) (b := 2) (c := z) (d := z) (by omega) (by omega) (by omega) (by omega); omega
      · exact h
  have px : 0 ≤ x * x := by omega
  have hy : 0 ≤ y * y := by
    rcases Int.lt_or_le y 0 with h | h
    · have := Int.mul_nonneg (a := -y) (b := -y) (by omega) (by omega); rw [Int.neg_mul_neg] at this; exact this
    · exact Int.mul_nonneg h h
  obtain ⟨x1, x2⟩ := key x (by omega)
  obtain ⟨y1, y2⟩ := key y (by omega)
  have hx3 : x = -1 ∨ x = 0 ∨ x = 1 := by omega
  have hy3 : y = -1 ∨ y = 0 ∨ y = 1 := by omega
  rcases hx3 with rfl | rfl | rfl <;> rcases hy3 with rfl | rfl | rfl <;> first | (exact .inl ⟨rfl, .inl rfl⟩) | (exact .inl ⟨rfl, .inr rfl⟩) | (exact .inr ⟨rfl, .inl rfl⟩) | (exact .inr ⟨rfl, .inr rfl⟩) | (simp at h)
theorem near_is {wd : Int} (l : List Int) (i : Int) : nearB wd l i = nearP wd l i 5 := by
  have e5 : nearP wd l i 5 = (inP wd l (i % wd) (i / wd - 1) || (inP wd l (i % wd + 1) (i / wd) || (inP wd l (i % wd) (i / wd + 1) || (inP wd l (i % wd - 1) (i / wd) || inP wd l (i % wd) (i / wd))))) := by
    unfold nearP; simp [List.range_succ, nbX, nbY]
  rw [e5, Bool.eq_iff_iff]
  unfold nearB
  simp only [Bool.or_eq_true, decide_eq_true_eq, inP_iff, List.any_eq_true]
  constructor
  · rintro (h | ⟨k, hk, hb⟩)
    · exact .inr (.inr (.inr (.inr ⟨i, h, rfl, rfl⟩)))
    · unfold besB at hb
      rw [decide_eq_true_eq] at hb
      rcases sq_one hb with ⟨h1, h2 | h2⟩ | ⟨h1, h2 | h2⟩
      · exact .inl ⟨k, hk, by omega, by omega⟩
      · exact .inr (.inr (.inl ⟨k, hk, by omega, by omega⟩))
      · exact .inr (.inr (.inr (.inl ⟨k, hk, by omega, by omega⟩)))
      · exact .inr (.inl ⟨k, hk, by omega, by omega⟩)
  · have bes : ∀ k x y, k ∈ l → i % wd - k % wd = x → i / wd - k / wd = y → x * x + y * y = 1 → (i ∈ l ∨ ∃ x, x ∈ l ∧ besB wd i x = true) := fun k x y hk h1 h2 h3 =>
      .inr ⟨k, hk, by unfold besB; rw [decide_eq_true_eq, h1, h2]; exact h3⟩
    rintro (⟨k, hk, h1, h2⟩ | ⟨k, hk, h1, h2⟩ | ⟨k, hk, h1, h2⟩ | ⟨k, hk, h1, h2⟩ | ⟨k, hk, h1, h2⟩)
    · exact bes k 0 1 hk (by omega) (by omega) (by decide)
    · exact bes k (-1) 0 hk (by omega) (by omega) (by decide)
    · exact bes k 0 (-1) hk (by omega) (by omega) (by decide)
    · exact bes k 1 0 hk (by omega) (by omega) (by decide)
    · refine .inl ?_
      have a := cell_back (wd := wd) (i := i)
      have b := cell_back (wd := wd) (i := k)
      rw [← h1, ← h2] at a
      rw [← a, b]; exact hk
/-- the region that has grown, of the first n cells -/
def growP (wd : Int) (l : List Int) (n : Nat) : List Int := ((List.range n).filter fun (j : Nat) => nearB wd l (j : Int)).map fun (j : Nat) => (j : Int)
theorem growP_zero (wd : Int) (l : List Int) : growP wd l 0 = [] := rfl
theorem growP_yes {wd : Int} {l : List Int} {k : Nat} (h : nearB wd l (k : Int) = true) : growP wd l (k + 1) = growP wd l k ++ [(k : Int)] := by
  unfold growP; rw [List.range_succ, List.filter_append, List.map_append]; simp [h]
theorem growP_no {wd : Int} {l : List Int} {k : Nat} (h : nearB wd l (k : Int) = false) : growP wd l (k + 1) = growP wd l k := by
  unfold growP; rw [List.range_succ, List.filter_append, List.map_append]; simp [h]
theorem growP_len (wd : Int) (l : List Int) (n : Nat) : (growP wd l n).length ≤ n := by
  unfold growP; rw [List.length_map]; exact Nat.le_trans (List.length_filter_le _ _) (by simp)
def growR (wd hg : Int) (l : List Int) : List Int := if regB wd hg l = true then growP wd l (wd * hg).toNat else []
theorem growR_no {wd hg : Int} {l : List Int} (h : regB wd hg l = false) : growR wd hg l = [] := if_neg (by rw [h]; simp)
theorem growR_yes {wd hg : Int} {l : List Int} (h : regB wd hg l = true) : growR wd hg l = growP wd l (wd * hg).toNat := if_pos h
theorem growR_len (wd hg : Int) (l : List Int) : (growR wd hg l).length ≤ 64 := by
  cases h : regB wd hg l with
  | false => rw [growR_no h]; simp
  | true => rw [growR_yes h]; have := growP_len wd l (wd * hg).toNat; have := prod_bd (reg_shape h); omega
/-- the cells above a limit, of the first n -/
def aboP (l : List Int) (lim : Int) (n : Nat) : List Int := ((List.range n).filter fun (j : Nat) => decide (l.getD j 0 ≠ -9999) && decide (lim < l.getD j 0)).map fun (j : Nat) => (j : Int)
theorem aboP_zero (l : List Int) (lim : Int) : aboP l lim 0 = [] := rfl
theorem aboP_yes {l : List Int} {lim : Int} {k : Nat} (hk : k < l.length) (h1 : ¬ l[k] = -9999) (h2 : lim < l[k]) : aboP l lim (k + 1) = aboP l lim k ++ [(k : Int)] := by
  unfold aboP; rw [List.range_succ, List.filter_append, List.map_append]; simp [hk, h1, h2]
theorem aboP_no {l : List Int} {lim : Int} {k : Nat} (hk : k < l.length) (h : l[k] = -9999 ∨ ¬ lim < l[k]) : aboP l lim (k + 1) = aboP l lim k := by
  unfold aboP; rw [List.range_succ, List.filter_append, List.map_append]
  have : (decide (l.getD k 0 ≠ -9999) && decide (lim < l.getD k 0)) = false := by
    rw [Bool.and_eq_false_iff]
    rcases h with h | h
    · left; simp [hk, h]
    · right; simpa [hk] using h
  simp only [List.filter_cons, this]; simp
theorem aboP_len (l : List Int) (lim : Int) (n : Nat) : (aboP l lim n).length ≤ n := by
  unfold aboP; rw [List.length_map]; exact Nat.le_trans (List.length_filter_le _ _) (by simp)
def aboR (wd hg : Int) (l : List Int) (lim : Int) : List Int := if goodB wd hg l = true then aboP l lim l.length else []
theorem aboR_no {wd hg : Int} {l : List Int} {lim : Int} (h : goodB wd hg l = false) : aboR wd hg l lim = [] := if_neg (by rw [h]; simp)
theorem aboR_yes {wd hg : Int} {l : List Int} {lim : Int} (h : goodB wd hg l = true) : aboR wd hg l lim = aboP l lim l.length := if_pos h
theorem aboR_len (wd hg : Int) (l : List Int) (lim : Int) : (aboR wd hg l lim).length ≤ 64 := by
  cases h : goodB wd hg l with
  | false => rw [aboR_no h]; simp
  | true => rw [aboR_yes h]; have := aboP_len l lim l.length; have := good_le h; omega
/-- twice the area that a loop encloses, over its first n points -/
def twP (p : List (Int × Int)) (b : Int × Int) (n : Nat) : Int := ((List.range n).map fun j => let a := if j = 0 then b else p.getD (j - 1) (0, 0); let c := p.getD j (0, 0); a.1 * c.2 - c.1 * a.2).sum
end Go.Proofs.Ythceffkkokgpnaa
