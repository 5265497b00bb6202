/- Tracking storm cells: plain mathematics. -/
import Derived.Test.YthceffkkokgpnaaSts
namespace Go.Proofs.Ythceffkkokgpnaa
set_option linter.unusedVariables false
set_option linter.unusedSimpArgs false
/-- a storm: its place, its size, its peak -/
def stB (x y n p : Int) : Bool := (decide (0 ≤ x) && decide (x ≤ 7)) && ((decide (0 ≤ y) && decide (y ≤ 7)) && ((decide (1 ≤ n) && decide (n ≤ 64)) && (decide (-9000 ≤ p) && decide (p ≤ 9000))))
theorem stB_iff {x y n p : Int} : stB x y n p = true ↔ (0 ≤ x ∧ x ≤ 7) ∧ (0 ≤ y ∧ y ≤ 7) ∧ (1 ≤ n ∧ n ≤ 64) ∧ -9000 ≤ p ∧ p ≤ 9000 := by unfold stB; simp
theorem stB_not {x y n p : Int} (h : ¬ ((0 ≤ x ∧ x ≤ 7) ∧ (0 ≤ y ∧ y ≤ 7) ∧ (1 ≤ n ∧ n ≤ 64) ∧ -9000 ≤ p ∧ p ≤ 9000)) : stB x y n p = false := by
  cases e : stB x y n p with
  | false => rfl
  | true => exact absurd (stB_iff.1 e) h
def stOk (s : StT) : Bool := stB s.1 s.2.1 s.2.2.1 s.2.2.2
/-- a list of at most five storms -/
def stsB (l : List StT) : Bool := decide (l.length ≤ 5) && l.all stOk
theorem sts_len {l : List StT} (h : stsB l = true) : l.length ≤ 5 := by unfold stsB at h; rw [Bool.and_eq_true] at h; exact of_decide_eq_true h.1
theorem sts_ok {l : List StT} (h : stsB l = true) {k : Nat} (hk : k < l.length) : stOk l[k] = true := by
  unfold stsB at h; rw [Bool.and_eq_true, List.all_eq_true] at h; exact h.2 _ (List.getElem_mem hk)
theorem sts_long {l : List StT} (h : 5 < l.length) : stsB l = false := by unfold stsB; rw [decide_eq_false (by omega)]; rfl
theorem sts_bad {l : List StT} {k : Nat} (hk : k < l.length) (h : stOk l[k] = false) : stsB l = false := by
  cases e : stsB l with
  | false => rfl
  | true => rw [sts_ok e hk] at h; cases h
theorem sts_all {l : List StT} (h0 : l.length ≤ 5) (h : ∀ j (x : j < l.length), stOk l[j] = true) : stsB l = true := by
  unfold stsB
  rw [Bool.and_eq_true, List.all_eq_true]
  refine ⟨decide_eq_true h0, fun p hp => ?_⟩
  obtain ⟨j, hj, rfl⟩ := List.getElem_of_mem hp
  exact h j hj
/-- the distance of two storms -/
def dsB (s t : StT) : Int := max (s.1 - t.1) (-(s.1 - t.1)) + max (s.2.1 - t.2.1) (-(s.2.1 - t.2.1))
theorem dsB_bd {s t : StT} (hs : stOk s = true) (ht : stOk t = true) : 0 ≤ dsB s t ∧ dsB s t ≤ 14 := by
  obtain ⟨h1, h2, h3, h4⟩ := stB_iff.1 hs
  obtain ⟨g1, g2, g3, g4⟩ := stB_iff.1 ht
  unfold dsB
  omega
/-- an index that may stand behind those of q -/
def feB (q : List Int) (x : Int) : Bool := decide (x = -1) || !decide (x ∈ q)
theorem feB_none (q : List Int) : feB q (-1) = true := by unfold feB; simp
theorem feB_in {q : List Int} {x : Int} (h1 : x ≠ -1) (h : x ∈ q) : feB q x = false := by unfold feB; simp [h1, h]
theorem feB_out {q : List Int} {x : Int} (h : ¬ x ∈ q) : feB q x = true := by unfold feB; simp [h]
/-- the j-th index of a tracking is well -/
def okJ (n : Nat) (t : List Int) (j : Nat) : Bool := decide (-1 ≤ t.getD j 0) && decide (t.getD j 0 < (n : Int)) && feB (t.take j) (t.getD j 0)
def trsB (n : Nat) (t : List Int) : Bool := (List.range t.length).all (okJ n t)
/-- a tracking of the storms a to the storms b -/
def trB (a b : List StT) (t : List Int) : Bool := stsB a && (stsB b && (decide (t.length = a.length) && trsB b.length t))
theorem getD_int (t : List Int) {k : Nat} (h : k < t.length) : t.getD k 0 = t[k] := by rw [List.getD_eq_getElem?_getD, List.getElem?_eq_getElem h]; rfl
theorem okJ_at {n : Nat} {t : List Int} {j : Nat} (h : j < t.length) : okJ n t j = (decide (-1 ≤ t[j]) && decide (t[j] < (n : Int)) && feB (t.take j) t[j]) := by unfold okJ; rw [getD_int t h]
theorem trs_bad {n : Nat} {t : List Int} {k : Nat} (hk : k < t.length) (h : okJ n t k = false) : trsB n t = false := by
  cases e : trsB n t with
  | false => rfl
  | true => unfold trsB at e; rw [List.all_eq_true] at e; rw [e k (List.mem_range.2 hk)] at h; cases h
theorem trs_all {n : Nat} {t : List Int} (h : ∀ j, j < t.length → okJ n t j = true) : trsB n t = true := by
  unfold trsB; rw [List.all_eq_true]; intro j hj; exact h j (List.mem_range.1 hj)
theorem trs_at {n : Nat} {t : List Int} (h : trsB n t = true) {j : Nat} (hj : j < t.length) : (-1 ≤ t[j] ∧ t[j] < (n : Int)) ∧ feB (t.take j) t[j] = true := by
  unfold trsB at h
  rw [List.all_eq_true] at h
  have := h j (List.mem_range.2 hj)
  rw [okJ_at hj] at this
  simpa [and_assoc] using this
theorem tr_parts {a b : List StT} {t : List Int} (h : trB a b t = true) : stsB a = true ∧ stsB b = true ∧ t.length = a.length ∧ trsB b.length t = true := by
  unfold trB at h
  simp only [Bool.and_eq_true, decide_eq_true_eq] at h
  exact ⟨h.1, h.2.1, h.2.2.1, h.2.2.2⟩
theorem tr_no_a {a b : List StT} {t : List Int} (h : stsB a = false) : trB a b t = false := by unfold trB; rw [h]; rfl
theorem tr_no_b {a b : List StT} {t : List Int} (h : stsB b = false) : trB a b t = false := by unfold trB; rw [h]; simp
theorem tr_no_len {a b : List StT} {t : List Int} (h : ¬ (t.length : Int) = (a.length : Int)) : trB a b t = false := by unfold trB; rw [decide_eq_false (by omega)]; simp
theorem tr_same {a b : List StT} {t : List Int} (h1 : stsB a = true) (h2 : stsB b = true) (h3 : (t.length : Int) = (a.length : Int)) : trB a b t = trsB b.length t := by unfold trB; rw [h1, h2, decide_eq_true (by omega)]; simp
def dSt : StT := (0, 0, 0, 0)
theorem getD_st (l : List StT) {k : Nat} (h : k < l.length) : l.getD k dSt = l[k] := by rw [List.getD_eq_getElem?_getD, List.getElem?_eq_getElem h]; rfl
/-- what the j-th index costs: the model's sum, and what it turns the penalties of all storms by -/
def oneC (a b : List StT) (t : List Int) (p : Int) (j : Nat) : Int := if t.getD j 0 < 0 then p else dsB (a.getD j dSt) (b.getD (t.getD j 0).toNat dSt) - p
def tcK (a b : List StT) (t : List Int) (p : Int) : Nat → Int
  | 0 => p * (b.length : Int)
  | k + 1 => tcK a b t p k + oneC a b t p k
def tiK (a b : List StT) (t : List Int) (p : Int) : Nat → Int
  | 0 => ((a.length : Int) + (b.length : Int)) * p
  | k + 1 => tiK a b t p k + (oneC a b t p k - p)
theorem ti_tc (a b : List StT) (t : List Int) (p : Int) : ∀ k : Nat, tiK a b t p k = tcK a b t p k + ((a.length : Int) - (k : Int)) * p := by
  intro k
  induction k with
  | zero => show ((a.length : Int) + (b.length : Int)) * p = p * (b.length : Int) + ((a.length : Int) - 0) * p; rw [Int.add_mul, Int.mul_comm p, Int.sub_zero]; omega
  | succ k ih =>
    show tiK a b t p k + (oneC a b t p k - p) = tcK a b t p k + oneC a b t p k + ((a.length : Int) - ((k + 1 : Nat) : Int)) * p
    rw [ih, show (a.length : Int) - ((k + 1 : Nat) : Int) = ((a.length : Int) - (k : Int)) - 1 by omega, Int.sub_mul ((a.length : Int) - (k : Int)) 1 p, Int.one_mul]
    omega
/-- the cost of a tracking -/
def tcC (a b : List StT) (t : List Int) (p : Int) : Int := tcK a b t p t.length
theorem ti_end {a b : List StT} {t : List Int} {p : Int} (h : t.length = a.length) : tiK a b t p a.length = tcC a b t p := by
  rw [ti_tc, tcC, h, show (a.length : Int) - (a.length : Int) = 0 by omega, Int.zero_mul, Int.add_zero]
theorem oneC_bd {a b : List StT} {t : List Int} {p : Int} (ha : stsB a = true) (hb : stsB b = true) (hp : 0 ≤ p ∧ p ≤ 20) {k : Nat} (hk : k < a.length) (hi : t.getD k 0 < (b.length : Int)) : -20 ≤ oneC a b t p k ∧ oneC a b t p k ≤ 20 := by
  unfold oneC
  by_cases h : t.getD k 0 < 0
  · rw [if_pos h]; omega
  · rw [if_neg h]
    have hb1 : (t.getD k 0).toNat < b.length := by omega
    have := dsB_bd (sts_ok ha hk) (sts_ok hb hb1)
    rw [getD_st a hk, getD_st b hb1]
    omega
theorem tcK_bd {a b : List StT} {t : List Int} {p : Int} (ha : stsB a = true) (hb : stsB b = true) (hp : 0 ≤ p ∧ p ≤ 20) (ht : ∀ j, j < a.length → t.getD j 0 < (b.length : Int)) : ∀ k : Nat, k ≤ a.length → -(20 * (k : Int)) ≤ tcK a b t p k ∧ tcK a b t p k ≤ 100 + 20 * (k : Int) := by
  intro k
  induction k with
  | zero =>
    intro _
    have h1 := sts_len hb
    have h2 : 0 ≤ p * (b.length : Int) := Int.mul_nonneg hp.1 (by omega)
    have h3 : p * (b.length : Int) ≤ 20 * 5 := Int.mul_le_mul hp.2 (by omega) (by omega) (by omega)
    show -(20 * ((0 : Nat) : Int)) ≤ p * (b.length : Int) ∧ p * (b.length : Int) ≤ _
    omega
  | succ k ih =>
    intro hk
    have h1 := ih (by omega)
    have h2 := oneC_bd ha hb hp (k := k) (by omega) (ht k (by omega))
    show -(20 * ((k + 1 : Nat) : Int)) ≤ tcK a b t p k + oneC a b t p k ∧ tcK a b t p k + oneC a b t p k ≤ _
    omega
/-- a penalty -/
def pnB (p : Int) : Bool := decide (0 ≤ p) && decide (p ≤ 20)
theorem pnB_iff {p : Int} : pnB p = true ↔ 0 ≤ p ∧ p ≤ 20 := by unfold pnB; simp
theorem pnB_not {p : Int} (h : ¬ (0 ≤ p ∧ p ≤ 20)) : pnB p = false := by
  cases e : pnB p with
  | false => rfl
  | true => exact absurd (pnB_iff.1 e) h
/-- the first k indices that a tracking does not hold -/
def nwK (t : List Int) : Nat → List Int
  | 0 => []
  | k + 1 => if (k : Int) ∈ t then nwK t k else nwK t k ++ [(k : Int)]
theorem nwK_len (t : List Int) : ∀ k : Nat, (nwK t k).length ≤ k := by
  intro k
  induction k with
  | zero => exact Nat.le_refl _
  | succ k ih =>
    unfold nwK
    split
    · omega
    · rw [List.length_append, List.length_singleton]; omega
theorem nwK_bd (t : List Int) : ∀ (k : Nat) (z : Int), z ∈ nwK t k ↔ 0 ≤ z ∧ z < (k : Int) ∧ ¬ z ∈ t := by
  intro k
  induction k with
  | zero => intro z; unfold nwK; constructor; (intro h; cases h); (rintro ⟨h1, h2, _⟩; omega)
  | succ k ih =>
    intro z
    unfold nwK
    by_cases h : (k : Int) ∈ t
    · rw [if_pos h, ih]
      constructor
      · rintro ⟨h1, h2, h3⟩; exact ⟨h1, by omega, h3⟩
      · rintro ⟨h1, h2, h3⟩
        refine ⟨h1, ?_, h3⟩
        have : z ≠ (k : Int) := by intro e; exact h3 (e ▸ h)
        omega
    · rw [if_neg h, List.mem_append, List.mem_singleton, ih]
      constructor
      · rintro (⟨h1, h2, h3⟩ | rfl)
        · exact ⟨h1, by omega, h3⟩
        · exact ⟨by omega, by omega, h⟩
      · rintro ⟨h1, h2, h3⟩
        by_cases e : z = (k : Int)
        · exact .inr e
        · exact .inl ⟨h1, by omega, h3⟩
end Go.Proofs.Ythceffkkokgpnaa
