/- Plain mathematics of lists of points: when they are a loop, the area that it encloses. -/
namespace Go.Proofs.Ythceffkkokgpnaa
abbrev Pt := Int × Int
theorem takeP_snoc {α : Type} (l : List α) (k : Nat) (h : k < l.length) : l.take (k + 1) = l.take k ++ [l[k]] := List.take_succ_eq_append_getElem h
def gP (p : List Pt) (j : Nat) : Pt := p.getD j (0, 0)
theorem gP_get {p : List Pt} {j : Nat} (h : j < p.length) : gP p j = p[j] := by unfold gP; simp [h]
def crs (a b : Pt) : Int := a.1 * b.2 - b.1 * a.2
/-- the sum over the first k points, each with the one before it -/
def twI (p : List Pt) : Nat → Int
  | 0 => 0
  | k + 1 => twI p k + crs (gP p (if k = 0 then p.length - 1 else k - 1)) (gP p k)
/-- the sum over the first k points, each with the one behind it -/
def twS (p : List Pt) : Nat → Int
  | 0 => 0
  | k + 1 => twS p k + crs (gP p k) (gP p (if k + 1 = p.length then 0 else k + 1))
theorem tw_step (p : List Pt) : ∀ k, k < p.length → twI p (k + 1) = crs (gP p (p.length - 1)) (gP p 0) + twS p k := by
  intro k
  induction k with
  | zero => intro _; simp [twI, twS]
  | succ k ih =>
    intro h
    have h1 := ih (by omega)
    show twI p (k + 1) + crs (gP p (if k + 1 = 0 then p.length - 1 else k + 1 - 1)) (gP p (k + 1)) = _
    rw [h1, if_neg (by omega), Nat.add_sub_cancel]
    show _ = _ + (twS p k + crs (gP p k) (gP p (if k + 1 = p.length then 0 else k + 1)))
    rw [if_neg (by omega)]; omega
theorem tw_all (p : List Pt) (h : 0 < p.length) : twI p p.length = twS p p.length := by
  obtain ⟨k, hk⟩ : ∃ k, p.length = k + 1 := ⟨p.length - 1, by omega⟩
  have h1 := tw_step p k (by omega)
  rw [hk, h1]
  show _ = twS p k + crs (gP p k) (gP p (if k + 1 = p.length then 0 else k + 1))
  rw [if_pos hk.symm, hk, Nat.add_sub_cancel]; omega
def corB (a : Pt) : Bool := decide (0 ≤ a.1) && decide (a.1 ≤ 8) && (decide (0 ≤ a.2) && decide (a.2 ≤ 8))
theorem corB_iff {a : Pt} : corB a = true ↔ (0 ≤ a.1 ∧ a.1 ≤ 8) ∧ 0 ≤ a.2 ∧ a.2 ≤ 8 := by unfold corB; simp
def diB (a b : Pt) : Bool := (a.1 == b.1) != (a.2 == b.2)
/-- one step of the check: the point and the one before it -/
def stI (p : List Pt) (k : Nat) : Bool := corB (gP p k) && diB (gP p k) (gP p (if k = 0 then p.length - 1 else k - 1))
/-- .. and the one behind it -/
def stS (p : List Pt) (k : Nat) : Bool := corB (gP p k) && diB (gP p k) (gP p (if k + 1 = p.length then 0 else k + 1))
def lpB (p : List Pt) : Bool := decide (4 ≤ p.length) && decide (p.length ≤ 100) && (List.range p.length).all (stI p)
theorem diB_comm (a b : Pt) : diB a b = diB b a := by unfold diB; rw [Bool.beq_comm (a := a.1), Bool.beq_comm (a := a.2)]
theorem st_all (p : List Pt) : (∀ k, k < p.length → stI p k = true) ↔ ∀ k, k < p.length → stS p k = true := by
  unfold stI stS
  simp only [Bool.and_eq_true]
  constructor
  · intro h k hk
    refine ⟨(h k hk).1, ?_⟩
    by_cases e : k + 1 = p.length
    · rw [if_pos e]
      have := (h 0 (by omega)).2
      rw [if_pos rfl, ← e, Nat.add_sub_cancel] at this
      rw [diB_comm]; exact this
    · rw [if_neg e]
      have := (h (k + 1) (by omega)).2
      rw [if_neg (by omega), Nat.add_sub_cancel] at this
      rw [diB_comm]; exact this
  · intro h k hk
    refine ⟨(h k hk).1, ?_⟩
    by_cases e : k = 0
    · subst e
      rw [if_pos rfl]
      have := (h (p.length - 1) (by omega)).2
      rw [if_pos (by omega)] at this
      rw [diB_comm]; exact this
    · rw [if_neg e]
      have := (h (k - 1) (by omega)).2
      rw [if_neg (by omega), Nat.sub_add_cancel (by omega)] at this
      rw [diB_comm]; exact this
theorem lp_iff {p : List Pt} : lpB p = true ↔ (4 ≤ p.length ∧ p.length ≤ 100) ∧ ∀ k, k < p.length → stI p k = true := by
  unfold lpB; simp only [Bool.and_eq_true, decide_eq_true_eq, List.all_eq_true, List.mem_range]
theorem lp_noI {p : List Pt} {k : Nat} (hk : k < p.length) (h : stI p k = false) : lpB p = false := by
  cases e : lpB p with
  | false => rfl
  | true => rw [(lp_iff.1 e).2 k hk] at h; cases h
theorem lp_noS {p : List Pt} {k : Nat} (hk : k < p.length) (h : stS p k = false) : lpB p = false := by
  cases e : lpB p with
  | false => rfl
  | true => rw [(st_all p).1 (lp_iff.1 e).2 k hk] at h; cases h
theorem lp_noL {p : List Pt} (h : p.length < 4 ∨ 100 < p.length) : lpB p = false := by
  cases e : lpB p with
  | false => rfl
  | true => have := (lp_iff.1 e).1; omega
theorem mul_bd {a b : Int} (h1 : 0 ≤ a ∧ a ≤ 8) (h2 : 0 ≤ b ∧ b ≤ 8) : 0 ≤ a * b ∧ a * b ≤ 64 :=
  ⟨Int.mul_nonneg h1.1 h2.1, by have := Int.mul_le_mul h1.2 h2.2 h2.1 (by omega : (0 : Int) ≤ 8); omega⟩
theorem crs_bd {a b : Pt} (h1 : corB a = true) (h2 : corB b = true) : -64 ≤ crs a b ∧ crs a b ≤ 64 := by
  have := corB_iff.1 h1
  have := corB_iff.1 h2
  have := mul_bd (a := a.1) (b := b.2) (by omega) (by omega)
  have := mul_bd (a := b.1) (b := a.2) (by omega) (by omega)
  unfold crs; omega
theorem lp_cor {p : List Pt} (h : lpB p = true) {k : Nat} (hk : k < p.length) : corB (gP p k) = true := by
  have := (lp_iff.1 h).2 k hk
  unfold stI at this; rw [Bool.and_eq_true] at this; exact this.1
theorem twI_bd {p : List Pt} (h : lpB p = true) : ∀ k, k ≤ p.length → -(64 * (k : Int)) ≤ twI p k ∧ twI p k ≤ 64 * (k : Int) := by
  intro k
  induction k with
  | zero => intro _; simp [twI]
  | succ k ih =>
    intro hk
    have h1 := ih (by omega)
    have h2 := crs_bd (lp_cor h (k := if k = 0 then p.length - 1 else k - 1) (by split <;> omega)) (lp_cor h (k := k) (by omega))
    show _ ≤ twI p k + crs _ _ ∧ twI p k + crs _ _ ≤ _
    omega
theorem twS_bd {p : List Pt} (h : lpB p = true) : ∀ k, k ≤ p.length → -(64 * (k : Int)) ≤ twS p k ∧ twS p k ≤ 64 * (k : Int) := by
  intro k
  induction k with
  | zero => intro _; simp [twS]
  | succ k ih =>
    intro hk
    have h1 := ih (by omega)
    have h2 := crs_bd (lp_cor h (k := k) (by omega)) (lp_cor h (k := if k + 1 = p.length then 0 else k + 1) (by split <;> omega))
    show _ ≤ twS p k + crs _ _ ∧ twS p k + crs _ _ ≤ _
    omega
/-- the area that a list of points encloses, 0 for what is no loop -/
def areaV (p : List Pt) : Int := if lpB p = true then (twI p p.length).tdiv 2 else 0
end Go.Proofs.Ythceffkkokgpnaa
