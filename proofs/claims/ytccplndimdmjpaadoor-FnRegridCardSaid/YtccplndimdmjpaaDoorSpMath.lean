/- Plain mathematics of splitting a value in proportion to weights. -/
import Derived.Test.YtccplndimdmjpaaDoorValMath
import Derived.Test.YtccplndimdmjpaaDoorGd
namespace Go.Proofs.YtccplndimdmjpaaDoor
set_option linter.unusedVariables false
/-- the first place with the greatest of the first k numbers -/
def bestN (R : List Int) : Nat → Nat
  | 0 => 0
  | k + 1 => if R.getD (bestN R k) 0 < R.getD k 0 then k else bestN R k
theorem bestN_one (R : List Int) : bestN R 1 = 0 := by simp [bestN]
theorem bestN_lt (R : List Int) : ∀ k, 0 < k → bestN R k < k
  | 0, h => by omega
  | k + 1, _ => by
    unfold bestN
    split
    · omega
    · rcases Nat.eq_zero_or_pos k with rfl | h
      · simp [bestN]
      · have := bestN_lt R k h; omega
theorem bestN_max (R : List Int) : ∀ k i, i < k → R.getD i 0 ≤ R.getD (bestN R k) 0
  | 0, i, h => by omega
  | k + 1, i, h => by
    unfold bestN
    rcases Nat.lt_or_ge i k with h1 | h1
    · have := bestN_max R k i h1
      split <;> omega
    · obtain rfl : i = k := by omega
      split <;> omega
theorem bestN_stay {R : List Int} {p : Nat} (hpos : 0 < R.getD (bestN R p) 0) : ∀ q, p ≤ q → (∀ i, p ≤ i → i < q → R.getD i 0 ≤ 0) → bestN R q = bestN R p
  | 0, h, _ => by have : p = 0 := by omega
                  rw [this]
  | q + 1, h, hno => by
    rcases Nat.lt_or_ge q p with h1 | h1
    · have : p = q + 1 := by omega
      rw [this]
    · have ih := bestN_stay hpos q h1 (fun i a b => hno i a (by omega))
      have h2 := hno q h1 (by omega)
      conv => lhs; unfold bestN
      rw [ih, if_neg (by omega)]
theorem bestN_first {R : List Int} {b : Nat} (hpos : 0 < R.getD b 0) (hno : ∀ i, i < b → R.getD i 0 ≤ 0) : bestN R (b + 1) = b := by
  unfold bestN
  rcases Nat.eq_zero_or_pos b with rfl | h
  · simp [bestN]
  · rw [if_pos (by have := hno _ (bestN_lt R b h); omega)]
/-- the places with something left -/
def cntP (R : List Int) : Nat := (R.filter fun z => decide (0 < z)).length
theorem cntP_cons (x : Int) (r : List Int) : cntP (x :: r) = (if 0 < x then 1 else 0) + cntP r := by
  unfold cntP
  rw [List.filter_cons]
  by_cases h : 0 < x
  · simp [h]; omega
  · simp [h]
theorem cntP_set {R : List Int} : ∀ {b : Nat} (h : b < R.length), 0 < R[b] → cntP (R.set b (-1)) + 1 = cntP R := by
  induction R with
  | nil => intro b h; simp at h
  | cons x r ih =>
    intro b h hp
    cases b with
    | zero =>
      simp only [List.getElem_cons_zero] at hp
      rw [List.set_cons_zero, cntP_cons, cntP_cons, if_pos hp, if_neg (by omega)]; omega
    | succ b =>
      simp only [List.length_cons] at h
      simp only [List.getElem_cons_succ] at hp
      rw [List.set_cons_succ, cntP_cons, cntP_cons]
      have := ih (by omega) hp
      omega
theorem cntP_pos {R : List Int} (h : 0 < cntP R) : ∃ i, i < R.length ∧ 0 < R.getD i 0 := by
  unfold cntP at h
  obtain ⟨z, hz⟩ := List.exists_mem_of_length_pos h
  rw [List.mem_filter] at hz
  obtain ⟨i, hi, e⟩ := List.getElem_of_mem hz.1
  refine ⟨i, hi, ?_⟩
  rw [gd_at hi, e]
  simpa using hz.2
theorem tot_le_cnt {R : List Int} {S : Int} (hR : ∀ z ∈ R, z < S) (hS : 0 < S) : tot R ≤ S * (cntP R : Int) := by
  induction R with
  | nil => simp [tot, cntP]
  | cons x r ih =>
    have h1 := hR x (by simp)
    have h2 := ih (fun z hz => hR z (by simp [hz]))
    rw [cntP_cons]
    simp only [tot]
    by_cases hx : 0 < x
    · rw [if_pos hx]
      have : S * ((1 + cntP r : Nat) : Int) = S + S * (cntP r : Int) := by push_cast; rw [Int.mul_add, Int.mul_one]
      omega
    · rw [if_neg hx]
      have : S * ((0 + cntP r : Nat) : Int) = S * (cntP r : Int) := by rw [Nat.zero_add]
      omega
/-- the parts rounded down, and what each leaves -/
def partsD (v S : Int) (ws : List Int) : List Int := ws.map fun x => v * x / S
def restsD (v S : Int) (ws : List Int) : List Int := ws.map fun x => v * x - v * x / S * S
theorem restsD_bd {v S : Int} (hS : 0 < S) (ws : List Int) : ∀ z ∈ restsD v S ws, 0 ≤ z ∧ z < S := by
  intro z hz
  obtain ⟨x, _, rfl⟩ := List.mem_map.1 hz
  have h1 := Int.emod_add_mul_ediv (v * x) S
  have h2 := Int.emod_nonneg (v * x) (by omega : S ≠ 0)
  have h3 := Int.emod_lt_of_pos (v * x) hS
  rw [Int.mul_comm (v * x / S) S]
  omega
theorem tot_scale (v S : Int) (ws : List Int) : tot (restsD v S ws) = v * tot ws - tot (partsD v S ws) * S := by
  induction ws with
  | nil => simp [restsD, partsD, tot]
  | cons x r ih =>
    have e1 : restsD v S (x :: r) = (v * x - v * x / S * S) :: restsD v S r := rfl
    have e2 : partsD v S (x :: r) = (v * x / S) :: partsD v S r := rfl
    rw [e1, e2]
    simp only [tot]
    rw [ih, Int.mul_add, Int.add_mul]
    omega
/-- what is missing to the value -/
def leftD (v S : Int) (ws : List Int) : Int := v - tot (partsD v S ws)
theorem left_scale {v S : Int} {ws : List Int} (h : tot ws = S) : leftD v S ws * S = tot (restsD v S ws) := by
  rw [tot_scale, h]; unfold leftD; rw [Int.sub_mul]
theorem tot_nonneg {R : List Int} (h : ∀ z ∈ R, 0 ≤ z) : 0 ≤ tot R := by
  induction R with
  | nil => simp [tot]
  | cons x r ih => have := h x (by simp); have := ih (fun z hz => h z (by simp [hz])); simp only [tot]; omega
theorem left_bd {v S : Int} {ws : List Int} (hS : 0 < S) (h : tot ws = S) : 0 ≤ leftD v S ws ∧ leftD v S ws ≤ (cntP (restsD v S ws) : Int) := by
  have h1 := left_scale (v := v) h
  have h2 := tot_nonneg (fun z hz => (restsD_bd hS ws z hz).1 : ∀ z ∈ restsD v S ws, 0 ≤ z)
  have h3 := tot_le_cnt (fun z hz => (restsD_bd hS ws z hz).2 : ∀ z ∈ restsD v S ws, z < S) hS
  constructor
  · rcases Int.lt_or_le (leftD v S ws) 0 with h4 | h4
    · have := Int.mul_neg_of_neg_of_pos h4 hS; omega
    · exact h4
  · rw [← h1, Int.mul_comm S] at h3
    exact Int.le_of_mul_le_mul_right h3 hS
theorem cntP_le (R : List Int) : cntP R ≤ R.length := List.length_filter_le _ _
/-- the parts and what is left behind k additions -/
def addsD (P R : List Int) : Nat → List Int × List Int
  | 0 => (P, R)
  | k + 1 =>
    let s := addsD P R k
    let b := bestN s.2 s.2.length
    (s.1.set b (s.1.getD b 0 + 1), s.2.set b (-1))
theorem addsD_len (P R : List Int) : ∀ k, (addsD P R k).1.length = P.length ∧ (addsD P R k).2.length = R.length
  | 0 => ⟨rfl, rfl⟩
  | k + 1 => by have := addsD_len P R k; simp [addsD, this]
theorem adds_inv {P R : List Int} (hR : ∀ z ∈ R, 0 ≤ z) : ∀ k, k ≤ cntP R → cntP (addsD P R k).2 + k = cntP R ∧ ∀ i, i < R.length → (addsD P R k).2.getD i 0 = R.getD i 0 ∨ (addsD P R k).2.getD i 0 = -1
  | 0, _ => ⟨rfl, fun i _ => .inl rfl⟩
  | k + 1, h => by
    obtain ⟨h1, h2⟩ := adds_inv (P := P) hR k (by omega)
    have hl := (addsD_len P R k).2
    obtain ⟨i, hi, hp⟩ := cntP_pos (R := (addsD P R k).2) (by omega)
    have hn : 0 < (addsD P R k).2.length := by omega
    have hb := bestN_lt (addsD P R k).2 _ hn
    have hm := bestN_max (addsD P R k).2 _ i hi
    have hpos : 0 < (addsD P R k).2[bestN (addsD P R k).2 (addsD P R k).2.length] := by
      rw [gd_at hb] at hm; omega
    have hc := cntP_set hb hpos
    constructor
    · show cntP ((addsD P R k).2.set _ (-1)) + (k + 1) = _
      omega
    · intro j hj
      have hj' : j < (addsD P R k).2.length := by omega
      show ((addsD P R k).2.set (bestN (addsD P R k).2 (addsD P R k).2.length) (-1)).getD j 0 = R.getD j 0 ∨ ((addsD P R k).2.set (bestN (addsD P R k).2 (addsD P R k).2.length) (-1)).getD j 0 = -1
      rw [gd_at (by rw [List.length_set]; exact hj'), List.getElem_set]
      split
      · exact .inr rfl
      · rw [← gd_at hj']; exact h2 j hj
/-- the place that is chosen next has something left -/
theorem adds_pos {P R : List Int} (hR : ∀ z ∈ R, 0 ≤ z) {k : Nat} (h : k < cntP R) : bestN (addsD P R k).2 (addsD P R k).2.length < R.length ∧ 0 < (addsD P R k).2.getD (bestN (addsD P R k).2 (addsD P R k).2.length) 0 := by
  obtain ⟨h1, h2⟩ := adds_inv (P := P) hR k (by omega)
  have hl := (addsD_len P R k).2
  obtain ⟨i, hi, hp⟩ := cntP_pos (R := (addsD P R k).2) (by omega)
  have hn : 0 < (addsD P R k).2.length := by omega
  have hb := bestN_lt (addsD P R k).2 _ hn
  have hm := bestN_max (addsD P R k).2 _ i hi
  exact ⟨by omega, by omega⟩
theorem adds_bd {P R : List Int} {m : Int} (hP : ∀ z ∈ P, -m ≤ z ∧ z ≤ m) : ∀ k : Nat, ∀ z ∈ (addsD P R k).1, -m ≤ z ∧ z ≤ m + (k : Int)
  | 0 => fun z hz => by have := hP z hz; omega
  | k + 1 => fun z hz => by
    have ih := adds_bd hP (R := R) k
    have hz' : z ∈ (addsD P R k).1.set (bestN (addsD P R k).2 (addsD P R k).2.length) ((addsD P R k).1.getD (bestN (addsD P R k).2 (addsD P R k).2.length) 0 + 1) := hz
    by_cases hb : bestN (addsD P R k).2 (addsD P R k).2.length < (addsD P R k).1.length
    · rcases List.mem_or_eq_of_mem_set hz' with h | rfl
      · have := ih z h; omega
      · have := ih _ (List.getElem_mem hb)
        rw [gd_at hb]; omega
    · rw [List.set_eq_of_length_le (by omega)] at hz'
      have := ih z hz'; omega
/-- a value split in proportion to weights -/
def splitD (v S : Int) (ws : List Int) : List Int := (addsD (partsD v S ws) (restsD v S ws) (leftD v S ws).toNat).1
theorem splitD_len (v S : Int) (ws : List Int) : (splitD v S ws).length = ws.length := by unfold splitD; rw [(addsD_len _ _ _).1]; simp [partsD]
def wB (x : Int) : Bool := decide (0 ≤ x) && decide (x ≤ 64)
theorem wB_iff {x : Int} : wB x = true ↔ 0 ≤ x ∧ x ≤ 64 := by unfold wB; simp
/-- weights that can be taken -/
def wsB (ws : List Int) : Bool := decide (1 ≤ ws.length) && decide (ws.length ≤ 64) && ws.all wB && decide (0 < tot ws)
def vB (v : Int) : Bool := decide (-9000 ≤ v) && decide (v ≤ 9000)
def spB (v : Int) (ws : List Int) : Bool := vB v && wsB ws
def spR (v : Int) (ws : List Int) : List Int := if spB v ws = true then splitD v (tot ws) ws else []
theorem spR_yes {v : Int} {ws : List Int} (h : spB v ws = true) : spR v ws = splitD v (tot ws) ws := if_pos h
theorem spR_no {v : Int} {ws : List Int} (h : spB v ws = false) : spR v ws = [] := if_neg (by rw [h]; simp)
theorem spB_iff {v : Int} {ws : List Int} : spB v ws = true ↔ (-9000 ≤ v ∧ v ≤ 9000) ∧ (1 ≤ ws.length ∧ ws.length ≤ 64) ∧ (∀ x ∈ ws, 0 ≤ x ∧ x ≤ 64) ∧ 0 < tot ws := by
  unfold spB wsB vB
  simp only [Bool.and_eq_true, decide_eq_true_eq, List.all_eq_true, wB_iff]
  constructor
  · rintro ⟨h1, ⟨h2, h3⟩, h4⟩; exact ⟨h1, h2, h3, h4⟩
  · rintro ⟨h1, h2, h3, h4⟩; exact ⟨h1, ⟨h2, h3⟩, h4⟩
theorem spB_not {v : Int} {ws : List Int} (h : ¬ ((-9000 ≤ v ∧ v ≤ 9000) ∧ (1 ≤ ws.length ∧ ws.length ≤ 64) ∧ (∀ x ∈ ws, 0 ≤ x ∧ x ≤ 64) ∧ 0 < tot ws)) : spB v ws = false := by
  cases e : spB v ws with
  | false => rfl
  | true => exact absurd (spB_iff.1 e) h
theorem spR_len (v : Int) (ws : List Int) : (spR v ws).length ≤ 64 := by
  cases h : spB v ws with
  | false => rw [spR_no h]; simp
  | true => rw [spR_yes h, splitD_len]; exact (spB_iff.1 h).2.1.2
theorem tot_snocI (l : List Int) (z : Int) : tot (l ++ [z]) = tot l + z := by
  induction l with
  | nil => simp [tot]
  | cons x r ih => rw [List.cons_append]; simp only [tot]; omega
/-- the parts add up to the value -/
theorem tot_set {l : List Int} : ∀ {b : Nat} (h : b < l.length) (z : Int), tot (l.set b z) = tot l - l[b] + z := by
  induction l with
  | nil => intro b h; simp at h
  | cons x r ih =>
    intro b h z
    cases b with
    | zero => simp only [List.set_cons_zero, tot, List.getElem_cons_zero]; omega
    | succ b =>
      simp only [List.length_cons] at h
      simp only [List.set_cons_succ, tot, List.getElem_cons_succ]
      rw [ih (by omega)]; omega
theorem adds_tot {P R : List Int} (hl : P.length = R.length) (hR : ∀ z ∈ R, 0 ≤ z) : ∀ k : Nat, k ≤ cntP R → tot (addsD P R k).1 = tot P + (k : Int)
  | 0, _ => by simp [addsD]
  | k + 1, h => by
    have ih := adds_tot hl hR k (by omega)
    have hb := (adds_pos (P := P) hR (k := k) (by omega)).1
    have h1 := (addsD_len P R k).1
    show tot ((addsD P R k).1.set _ _) = _
    rw [tot_set (by omega), gd_at (by omega)]
    omega
theorem split_tot {v S : Int} {ws : List Int} (hS : 0 < S) (h : tot ws = S) : tot (splitD v S ws) = v := by
  obtain ⟨h1, h2⟩ := left_bd (v := v) hS h
  unfold splitD
  rw [adds_tot (by simp [partsD, restsD]) (fun z hz => (restsD_bd hS ws z hz).1) _ (by omega)]
  have : ((leftD v S ws).toNat : Int) = leftD v S ws := by omega
  rw [this]
  unfold leftD
  omega
end Go.Proofs.YtccplndimdmjpaaDoor
