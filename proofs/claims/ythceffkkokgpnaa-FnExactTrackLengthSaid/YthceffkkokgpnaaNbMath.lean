/- Plain mathematics of neighborhoods: the values of one, how they are put in order, and what a filter makes of them. -/
import Derived.Test.YthceffkkokgpnaaValMath
import Derived.Test.YthceffkkokgpnaaTotMath
import Derived.Test.YthceffkkokgpnaaFieldMath
import Derived.Test.YthceffkkokgpnaaUnitMath
namespace Go.Proofs.Ythceffkkokgpnaa
/-- the row s with a gap g at m -/
def gap (s : List Int) (g : Int) (m : Nat) : List Int := s.take m ++ g :: s.drop m
theorem gap_len {s : List Int} {g : Int} {m : Nat} (h : m ≤ s.length) : (gap s g m).length = s.length + 1 := by simp [gap]; omega
theorem gap_end (s : List Int) (g : Int) : gap s g s.length = s ++ [g] := by simp [gap]
theorem gap_fill {s : List Int} {g : Int} {m : Nat} (h : m ≤ s.length) (n : Int) : (gap s g m).set m n = gap s n m := by
  unfold gap; rw [List.set_append_right _ _ (by rw [List.length_take]; omega), List.length_take, Nat.min_eq_left h, Nat.sub_self]; rfl
theorem gap_step {s : List Int} {g : Int} {m : Nat} (h : m < s.length) : (gap s g (m + 1)).set (m + 1) s[m] = gap s s[m] m := by
  rw [gap_fill (by omega)]
  unfold gap
  rw [List.take_succ_eq_append_getElem h, List.append_assoc]
  conv => rhs; rw [List.drop_eq_getElem_cons h]
  rfl
theorem gap_get {s : List Int} {g : Int} {m : Nat} (h : m < s.length) (h2 : m < (gap s g (m + 1)).length) : (gap s g (m + 1))[m] = s[m] := by
  simp only [gap]; rw [List.getElem_append_left (by rw [List.length_take]; omega)]; simp [List.getElem_take]
/-- where n belongs among the first k of s, looked for from the end -/
def spotN (s : List Int) (n : Int) : Nat → Nat
  | 0 => 0
  | k + 1 => if n < s.getD k 0 then spotN s n k else k + 1
theorem spotN_le (s : List Int) (n : Int) (k : Nat) : spotN s n k ≤ k := by
  induction k with
  | zero => exact Nat.le_refl _
  | succ k ih => unfold spotN; split <;> omega
theorem getD_at {s : List Int} {k : Nat} (h : k < s.length) : s.getD k 0 = s[k] := by simp [h]
theorem spotN_down {s : List Int} {n : Int} {k : Nat} (h : k < s.length) (h2 : n < s[k]) : spotN s n (k + 1) = spotN s n k := by
  show (if n < s.getD k 0 then spotN s n k else k + 1) = _
  rw [getD_at h, if_pos h2]
theorem spotN_stop {s : List Int} {n : Int} {k : Nat} (h : k < s.length) (h2 : ¬ n < s[k]) : spotN s n (k + 1) = k + 1 := by
  show (if n < s.getD k 0 then spotN s n k else k + 1) = _
  rw [getD_at h, if_neg h2]
theorem spotN_above (s : List Int) (n : Int) (m : Nat) : ∀ j, spotN s n m ≤ j → j < m → n < s.getD j 0 := by
  induction m with
  | zero => intro j _ h; omega
  | succ m ih =>
    intro j h1 h2
    unfold spotN at h1
    by_cases h : n < s.getD m 0
    · rw [if_pos h] at h1
      by_cases e : j = m
      · subst e; exact h
      · exact ih j h1 (by omega)
    · rw [if_neg h] at h1; omega
theorem spotN_under (s : List Int) (n : Int) (m : Nat) : spotN s n m = 0 ∨ ¬ n < s.getD (spotN s n m - 1) 0 := by
  induction m with
  | zero => exact .inl rfl
  | succ m ih =>
    unfold spotN
    by_cases h : n < s.getD m 0
    · rw [if_pos h]; exact ih
    · rw [if_neg h]; exact .inr h
/-- n put in its place -/
def ins (s : List Int) (n : Int) : List Int := gap s n (spotN s n s.length)
def insAll (vs : List Int) : List Int := vs.foldl ins []
theorem insAll_nil : insAll [] = [] := rfl
theorem insAll_snoc (vs : List Int) (z : Int) : insAll (vs ++ [z]) = ins (insAll vs) z := by unfold insAll; rw [List.foldl_append]; rfl
theorem ins_perm (s : List Int) (n : Int) : (ins s n).Perm (s ++ [n]) := by
  unfold ins gap
  refine List.perm_middle.trans ?_
  rw [List.take_append_drop]
  exact (List.perm_append_singleton n s).symm
theorem insFold_perm (vs : List Int) : ∀ s, (vs.foldl ins s).Perm (s ++ vs) := by
  induction vs with
  | nil => intro s; simp
  | cons x r ih =>
    intro s
    have h1 := ih (ins s x)
    have h2 := (ins_perm s x).append_right r
    rw [List.append_assoc] at h2
    exact h1.trans h2
theorem insAll_perm (vs : List Int) : (insAll vs).Perm vs := by show (vs.foldl ins []).Perm vs; have := insFold_perm vs []; rwa [List.nil_append] at this
theorem insAll_len (vs : List Int) : (insAll vs).length = vs.length := (insAll_perm vs).length_eq
theorem insAll_mem {vs : List Int} {z : Int} : z ∈ insAll vs ↔ z ∈ vs := (insAll_perm vs).mem_iff
theorem ins_sorted {s : List Int} (n : Int) (h : s.Pairwise (· ≤ ·)) : (ins s n).Pairwise (· ≤ ·) := by
  have hk := spotN_le s n s.length
  have ha := spotN_above s n s.length
  have hu := spotN_under s n s.length
  unfold ins gap
  generalize spotN s n s.length = k at *
  have hs : (s.take k ++ s.drop k).Pairwise (· ≤ ·) := by rw [List.take_append_drop]; exact h
  rw [List.pairwise_append] at hs
  obtain ⟨h1, h2, h3⟩ := hs
  rw [List.pairwise_append]
  have hg := List.pairwise_iff_getElem.1 h
  have low : ∀ a ∈ s.take k, a ≤ n := by
    intro a ha'
    obtain ⟨i, hi, rfl⟩ := List.getElem_of_mem ha'
    rw [List.length_take] at hi
    rw [List.getElem_take]
    rcases hu with hu | hu
    · omega
    · rw [getD_at (by omega)] at hu
      by_cases e : i = k - 1
      · subst e; omega
      · have := hg i (k - 1) (by omega) (by omega) (by omega); omega
  have high : ∀ b ∈ s.drop k, n < b := by
    intro b hb
    obtain ⟨i, hi, rfl⟩ := List.getElem_of_mem hb
    rw [List.length_drop] at hi
    rw [List.getElem_drop]
    have := ha (k + i) (by omega) (by omega)
    rw [getD_at (by omega)] at this
    exact this
  refine ⟨h1, ?_, ?_⟩
  · rw [List.pairwise_cons]; exact ⟨fun b hb => Int.le_of_lt (high b hb), h2⟩
  · intro a ha' b hb
    rcases List.mem_cons.1 hb with rfl | hb
    · exact low a ha'
    · have := low a ha'; have := high b hb; omega
theorem insFold_sorted (vs : List Int) : ∀ s : List Int, s.Pairwise (· ≤ ·) → (vs.foldl ins s).Pairwise (· ≤ ·) := by
  induction vs with
  | nil => intro s h; exact h
  | cons x r ih => intro s h; exact ih _ (ins_sorted x h)
theorem insAll_sorted (vs : List Int) : (insAll vs).Pairwise (· ≤ ·) := insFold_sorted vs [] List.Pairwise.nil
theorem hiV_in {l : List Int} (h : l ≠ []) : hiV l ∈ l := by
  have key : ∀ (r : List Int) (x : Int), r.foldl (fun a b => if a < b then b else a) x = x ∨ r.foldl (fun a b => if a < b then b else a) x ∈ r := by
    intro r
    induction r with
    | nil => intro x; exact .inl rfl
    | cons y r ih =>
      intro x
      simp only [List.foldl_cons, List.mem_cons]
      rcases ih (if x < y then y else x) with h | h
      · rw [h]; by_cases e : x < y
        · rw [if_pos e]; exact .inr (.inl rfl)
        · rw [if_neg e]; exact .inl rfl
      · exact .inr (.inr h)
  cases l with
  | nil => exact absurd rfl h
  | cons x r => unfold hiV; rcases key r x with e | e <;> simp [e]
theorem loV_in {l : List Int} (h : l ≠ []) : loV l ∈ l := by
  have key : ∀ (r : List Int) (x : Int), r.foldl (fun a b => if b < a then b else a) x = x ∨ r.foldl (fun a b => if b < a then b else a) x ∈ r := by
    intro r
    induction r with
    | nil => intro x; exact .inl rfl
    | cons y r ih =>
      intro x
      simp only [List.foldl_cons, List.mem_cons]
      rcases ih (if y < x then y else x) with h | h
      · rw [h]; by_cases e : y < x
        · rw [if_pos e]; exact .inr (.inl rfl)
        · rw [if_neg e]; exact .inl rfl
      · exact .inr (.inr h)
  cases l with
  | nil => exact absurd rfl h
  | cons x r => unfold loV; rcases key r x with e | e <;> simp [e]
theorem ins_last {vs : List Int} (h : vs ≠ []) (hk : vs.length - 1 < (insAll vs).length) : (insAll vs)[vs.length - 1] = hiV vs := by
  have hl := insAll_len vs
  have hn : 0 < vs.length := List.length_pos_iff.2 h
  have h1 : (insAll vs)[vs.length - 1] ∈ vs := insAll_mem.1 (List.getElem_mem hk)
  have h2 := hiV_ge h1
  obtain ⟨i, hi, e⟩ := List.getElem_of_mem (insAll_mem.2 (hiV_in h))
  have hs := List.pairwise_iff_getElem.1 (insAll_sorted vs)
  by_cases e2 : i = vs.length - 1
  · subst e2; exact e
  · have := hs i (vs.length - 1) hi hk (by omega); omega
theorem ins_first {vs : List Int} (h : vs ≠ []) (hk : 0 < (insAll vs).length) : (insAll vs)[0] = loV vs := by
  have h1 : (insAll vs)[0] ∈ vs := insAll_mem.1 (List.getElem_mem hk)
  have h2 := loV_le h1
  obtain ⟨i, hi, e⟩ := List.getElem_of_mem (insAll_mem.2 (loV_in h))
  have hs := List.pairwise_iff_getElem.1 (insAll_sorted vs)
  by_cases e2 : i = 0
  · subst e2; exact e
  · have := hs 0 i hk hi (by omega); omega
theorem tot_perm {a b : List Int} (h : a.Perm b) : tot a = tot b := by
  induction h with
  | nil => rfl
  | cons x _ ih => simp [tot, ih]
  | swap x y l => simp [tot]; omega
  | trans _ _ i1 i2 => exact i1.trans i2
/-- how many reach t -/
def cntN (t : Int) (vs : List Int) : Nat := (vs.filter (fun z => decide (t ≤ z))).length
theorem cnt_perm {t : Int} {a b : List Int} (h : a.Perm b) : cntN t a = cntN t b := (h.filter _).length_eq
theorem cnt_hit {t : Int} {l : List Int} {z : Int} (h : t ≤ z) : cntN t (l ++ [z]) = cntN t l + 1 := by unfold cntN; rw [List.filter_append]; simp [h]
theorem cnt_miss {t : Int} {l : List Int} {z : Int} (h : ¬ t ≤ z) : cntN t (l ++ [z]) = cntN t l := by unfold cntN; rw [List.filter_append]; simp [h]
theorem cnt_le (t : Int) (l : List Int) : cntN t l ≤ l.length := List.length_filter_le _ _
theorem cnt_zero {t : Int} {l : List Int} : cntN t l = 0 ↔ ∀ z ∈ l, ¬ t ≤ z := by
  unfold cntN
  rw [List.length_eq_zero_iff, List.filter_eq_nil_iff]
  simp
/-- a value is the only one as great as it exactly if it is the last in order and the one before it is smaller -/
theorem peak_iff {vs : List Int} {n : Int} (hn : n ∈ vs) (h1 : vs.length - 1 < (insAll vs).length) :
    cntN n vs = 1 ↔ (n = (insAll vs)[vs.length - 1] ∧ (vs.length = 1 ∨ ∃ h2 : vs.length - 2 < (insAll vs).length, (insAll vs)[vs.length - 2] < n)) := by
  have hl := insAll_len vs
  have hpos : 0 < vs.length := List.length_pos_of_mem hn
  rw [← cnt_perm (insAll_perm vs)]
  have hm : n ∈ insAll vs := insAll_mem.2 hn
  have hs := List.pairwise_iff_getElem.1 (insAll_sorted vs)
  generalize insAll vs = L at *
  generalize vs.length = N at *
  have hsplit : L = L.take (N - 1) ++ [L[N - 1]] := by
    have := List.take_succ_eq_append_getElem h1
    rw [← this, List.take_of_length_le (by omega)]
  have hle : n ≤ L[N - 1] := by
    obtain ⟨i, hi, rfl⟩ := List.getElem_of_mem hm
    by_cases e : i = N - 1
    · subst e; exact Int.le_refl _
    · exact hs i (N - 1) hi h1 (by omega)
  have hc : cntN n L = cntN n (L.take (N - 1)) + 1 := by
    conv => lhs; rw [hsplit]
    exact cnt_hit hle
  rw [hc]
  constructor
  · intro h
    have h0 : cntN n (L.take (N - 1)) = 0 := by omega
    have hz := cnt_zero.1 h0
    constructor
    · rw [hsplit] at hm
      rcases List.mem_append.1 hm with h' | h'
      · exact absurd (Int.le_refl n) (hz n h')
      · exact List.mem_singleton.1 h'
    · by_cases e : N = 1
      · exact .inl e
      · refine .inr ⟨by omega, ?_⟩
        have : L[N - 2] ∈ L.take (N - 1) := by
          rw [List.mem_take_iff_getElem]
          exact ⟨N - 2, by omega, rfl⟩
        have := hz _ this
        omega
  · rintro ⟨h, h'⟩
    have h0 : cntN n (L.take (N - 1)) = 0 := by
      rw [cnt_zero]
      intro z hz
      obtain ⟨i, hi, rfl⟩ := List.getElem_of_mem hz
      rw [List.length_take] at hi
      rw [List.getElem_take]
      rcases h' with h' | ⟨h2, h'⟩
      · omega
      · by_cases e : i = N - 2
        · subst e; omega
        · have := hs i (N - 2) (by omega) h2 (by omega); omega
    omega
/-- a part of a row -/
def cutR (l : List Int) (W x0 x1 y : Nat) : List Int := (l.drop (y * W + x0)).take (x1 - x0)
/-- the values of the parts x0..x1 of k rows from y0 on -/
def nbRows (l : List Int) (W x0 x1 y0 k : Nat) : List Int := ((List.range k).map fun j => vals (cutR l W x0 x1 (y0 + j))).flatten
theorem nbRows_zero (l : List Int) (W x0 x1 y0 : Nat) : nbRows l W x0 x1 y0 0 = [] := rfl
theorem nbRows_step (l : List Int) (W x0 x1 y0 k : Nat) : nbRows l W x0 x1 y0 (k + 1) = nbRows l W x0 x1 y0 k ++ vals (cutR l W x0 x1 (y0 + k)) := by
  simp [nbRows, List.range_succ]
/-- .. and m cells of the next row -/
def nbPart (l : List Int) (W x0 x1 y0 k m : Nat) : List Int := nbRows l W x0 x1 y0 k ++ vals ((cutR l W x0 x1 (y0 + k)).take m)
theorem nbPart_zero (l : List Int) (W x0 x1 y0 k : Nat) : nbPart l W x0 x1 y0 k 0 = nbRows l W x0 x1 y0 k := by simp [nbPart, vals]
theorem nbPart_all (l : List Int) (W x0 x1 y0 k m : Nat) (h : (cutR l W x0 x1 (y0 + k)).length ≤ m) : nbPart l W x0 x1 y0 k m = nbRows l W x0 x1 y0 (k + 1) := by
  rw [nbRows_step, nbPart, List.take_of_length_le h]
theorem nbPart_hit {l : List Int} {W x0 x1 y0 k m : Nat} (h : m < (cutR l W x0 x1 (y0 + k)).length) (hz : (cutR l W x0 x1 (y0 + k))[m] = -9999) : nbPart l W x0 x1 y0 k (m + 1) = nbPart l W x0 x1 y0 k m := by
  unfold nbPart; rw [List.take_succ_eq_append_getElem h, vals_hit hz]
theorem nbPart_miss {l : List Int} {W x0 x1 y0 k m : Nat} (h : m < (cutR l W x0 x1 (y0 + k)).length) (hz : ¬ (cutR l W x0 x1 (y0 + k))[m] = -9999) : nbPart l W x0 x1 y0 k (m + 1) = nbPart l W x0 x1 y0 k m ++ [(cutR l W x0 x1 (y0 + k))[m]] := by
  unfold nbPart; rw [List.take_succ_eq_append_getElem h, vals_miss hz, List.append_assoc]
theorem cut_fits {W H x1 y n : Nat} (hn : n = W * H) (hx : x1 ≤ W) (hy : y < H) : y * W + x1 ≤ n := by
  have h2 : (y + 1) * W ≤ H * W := Nat.mul_le_mul_right _ (by omega)
  rw [Nat.mul_comm H W, ← hn, Nat.add_mul] at h2
  omega
theorem cutR_len {l : List Int} {W H x0 x1 y : Nat} (hl : l.length = W * H) (hx : x0 ≤ x1) (h1 : x1 ≤ W) (hy : y < H) : (cutR l W x0 x1 y).length = x1 - x0 := by
  have := cut_fits hl h1 hy
  unfold cutR
  rw [List.length_take, List.length_drop]
  omega
theorem cutR_get {l : List Int} {W x0 x1 y m : Nat} (h : m < (cutR l W x0 x1 y).length) (h2 : y * W + x0 + m < l.length) : (cutR l W x0 x1 y)[m] = l[y * W + x0 + m] := by
  simp [cutR]
theorem nbRows_mem {l : List Int} {W x0 x1 y0 k : Nat} {z : Int} (h : z ∈ nbRows l W x0 x1 y0 k) : z ∈ l ∧ ¬ z = -9999 := by
  unfold nbRows at h
  rw [List.mem_flatten] at h
  obtain ⟨r, hr, hz⟩ := h
  obtain ⟨j, _, rfl⟩ := List.mem_map.1 hr
  have h1 := vals_mem hz
  exact ⟨List.mem_of_mem_drop (List.mem_of_mem_take h1.1), h1.2⟩
theorem nbRows_le (l : List Int) (W x0 x1 y0 k : Nat) : (nbRows l W x0 x1 y0 k).length ≤ k * (x1 - x0) := by
  induction k with
  | zero => simp [nbRows_zero]
  | succ k ih =>
    rw [nbRows_step, List.length_append]
    have h1 := vals_le (cutR l W x0 x1 (y0 + k))
    have h2 : (cutR l W x0 x1 (y0 + k)).length ≤ x1 - x0 := by unfold cutR; rw [List.length_take]; omega
    rw [Nat.add_mul]
    omega
theorem nbPart_le (l : List Int) (W x0 x1 y0 k m : Nat) : (nbPart l W x0 x1 y0 k m).length ≤ (k + 1) * (x1 - x0) := by
  unfold nbPart
  rw [List.length_append]
  have h0 := nbRows_le l W x0 x1 y0 k
  have h1 := vals_le ((cutR l W x0 x1 (y0 + k)).take m)
  have h2 : ((cutR l W x0 x1 (y0 + k)).take m).length ≤ x1 - x0 := by unfold cutR; rw [List.length_take, List.length_take]; omega
  rw [Nat.add_mul]
  omega
/-- the values of a neighborhood, row by row -/
def nbv (l : List Int) (W H x y r : Nat) : List Int := nbRows l W (x - r) (min (x + r + 1) W) (y - r) (min (y + r + 1) H - (y - r))
theorem nbv_mem {l : List Int} {W H x y r : Nat} {z : Int} (h : z ∈ nbv l W H x y r) : z ∈ l ∧ ¬ z = -9999 := nbRows_mem h
theorem nbv_le {l : List Int} {W H x y r : Nat} (hW : W ≤ 8) (hH : H ≤ 8) : (nbv l W H x y r).length ≤ 64 := by
  have h1 := nbRows_le l W (x - r) (min (x + r + 1) W) (y - r) (min (y + r + 1) H - (y - r))
  have h2 : (min (y + r + 1) H - (y - r)) * (min (x + r + 1) W - (x - r)) ≤ 8 * 8 := Nat.mul_le_mul (by omega) (by omega)
  unfold nbv
  omega
theorem nbv_bd {l : List Int} {wd hg : Int} {W H x y r : Nat} (h : goodB wd hg l = true) : ∀ z ∈ nbv l W H x y r, -9000 ≤ z ∧ z ≤ 9000 := by
  intro z hz
  obtain ⟨h1, h2⟩ := nbv_mem hz
  have := cellB_iff.1 (good_cell h z h1)
  omega
/-- a cell that is not missing is among the values of its neighborhood -/
theorem nbv_self {l : List Int} {W H r i : Nat} (hl : l.length = W * H) (hi : i < l.length) (hz : ¬ l[i] = -9999) : l[i] ∈ nbv l W H (i % W) (i / W) r := by
  have hW : 0 < W := by rcases Nat.eq_zero_or_pos W with h | h; (rw [h] at hl; simp at hl; rw [hl] at hi; simp at hi); exact h
  have hx := Nat.mod_lt i hW
  have hy : i / W < H := by rw [Nat.div_lt_iff_lt_mul hW, Nat.mul_comm H W, ← hl]; exact hi
  have he := Nat.div_add_mod i W
  have hm : i / W * W = W * (i / W) := Nat.mul_comm _ _
  generalize i / W = q at *
  generalize i % W = p at *
  unfold nbv nbRows
  rw [List.mem_flatten]
  refine ⟨_, List.mem_map.2 ⟨q - (q - r), by rw [List.mem_range]; omega, rfl⟩, ?_⟩
  have e1 : q - r + (q - (q - r)) = q := by omega
  rw [e1]
  unfold vals
  rw [List.mem_filter]
  refine ⟨?_, by simpa using hz⟩
  have hk : p - (p - r) < (cutR l W (p - r) (min (p + r + 1) W) q).length := by rw [cutR_len hl (by omega) (by omega) hy]; omega
  have hp : q * W + (p - r) + (p - (p - r)) = i := by omega
  have := cutR_get hk (by rw [hp]; exact hi)
  simp only [hp] at this
  rw [← this]
  exact List.getElem_mem hk
/-- the cells that a rule for a cell and its neighborhood makes -/
def filtL {β : Type} (F : Int → List Int → β) (W H r : Nat) (l : List Int) : List β := (List.range l.length).map fun i => F (l.getD i 0) (nbv l W H (i % W) (i / W) r)
theorem filtL_len {β : Type} (F : Int → List Int → β) (W H r : Nat) (l : List Int) : (filtL F W H r l).length = l.length := by simp [filtL]
theorem filtL_get {β : Type} (F : Int → List Int → β) (W H r : Nat) (l : List Int) (i : Nat) (h : i < (filtL F W H r l).length) : (filtL F W H r l)[i] = F (l.getD i 0) (nbv l W H (i % W) (i / W) r) := by simp [filtL]
/-- .. the first k of them -/
theorem filtL_take {β : Type} (F : Int → List Int → β) (W H r : Nat) (l : List Int) (k : Nat) (h : k < l.length) : (filtL F W H r l).take (k + 1) = (filtL F W H r l).take k ++ [F (l.getD k 0) (nbv l W H (k % W) (k / W) r)] := by
  rw [List.take_succ_eq_append_getElem (by rw [filtL_len]; exact h), filtL_get]
/-- a rule for at least one value -/
def gapC (F : List Int → Int) (_ : Int) (vs : List Int) : Int := if vs = [] then -9999 else F vs
theorem gapC_none (F : List Int → Int) (c : Int) : gapC F c [] = -9999 := if_pos rfl
theorem gapC_some {F : List Int → Int} {c : Int} {vs : List Int} (h : vs ≠ []) : gapC F c vs = F vs := if_neg h
/-- such a rule keeps to values -/
def FitF (F : List Int → Int) : Prop := ∀ vs : List Int, vs ≠ [] → vs.length ≤ 64 → (∀ z ∈ vs, -9000 ≤ z ∧ z ≤ 9000) → -9000 ≤ F vs ∧ F vs ≤ 9000
theorem filt_good {F : List Int → Int} (hF : FitF F) {wd hg : Int} {l : List Int} (h : goodB wd hg l = true) (r : Nat) : goodB wd hg (filtL (gapC F) wd.toNat hg.toNat r l) = true := by
  have hs := shapeB_iff.1 (good_shape h)
  refine good_yes (good_shape h) (by rw [filtL_len]; exact good_len h) fun k hk => ?_
  rw [filtL_get, cellB_iff]
  by_cases e : nbv l wd.toNat hg.toNat (k % wd.toNat) (k / wd.toNat) r = []
  · rw [e, gapC_none]; exact .inl rfl
  · rw [gapC_some e]; exact .inr (hF _ e (nbv_le (by omega) (by omega)) (nbv_bd h))
def radB (r : Int) : Bool := decide (0 ≤ r) && decide (r ≤ 3)
theorem radB_iff {r : Int} : radB r = true ↔ 0 ≤ r ∧ r ≤ 3 := by unfold radB; simp
theorem radB_low {r : Int} (h : ¬ 0 ≤ r) : radB r = false := by unfold radB; simp [h]
theorem radB_high {r : Int} (h : ¬ r ≤ 3) : radB r = false := by unfold radB; simp [h]
/-- a field with neighborhoods of a radius -/
def nbB (wd hg : Int) (l : List Int) (r : Int) : Bool := goodB wd hg l && radB r
theorem nbB_iff {wd hg : Int} {l : List Int} {r : Int} : nbB wd hg l r = true ↔ goodB wd hg l = true ∧ radB r = true := by unfold nbB; simp
/-- what a filter answers -/
def filtR (F : List Int → Int) (wd hg : Int) (l : List Int) (r : Int) : Option (Int × Int × List Int) := if nbB wd hg l r = true then some (wd, hg, filtL (gapC F) wd.toNat hg.toNat r.toNat l) else none
theorem filtR_yes {F : List Int → Int} {wd hg : Int} {l : List Int} {r : Int} (h : nbB wd hg l r = true) : filtR F wd hg l r = some (wd, hg, filtL (gapC F) wd.toNat hg.toNat r.toNat l) := if_pos h
theorem filtR_no {F : List Int → Int} {wd hg : Int} {l : List Int} {r : Int} (h : nbB wd hg l r = false) : filtR F wd hg l r = none := if_neg (by rw [h]; simp)
theorem filtR_len (F : List Int → Int) (wd hg : Int) (l : List Int) (r : Int) : (rL (filtR F wd hg l r)).length ≤ 64 := by
  cases h : nbB wd hg l r with
  | false => rw [filtR_no h]; simp [rL]
  | true => rw [filtR_yes h]; have := good_le (nbB_iff.1 h).1; simp only [rL, filtL_len]; omega
/-- the filters' rules -/
def meanF (vs : List Int) : Int := rdiv (tot vs) (vs.length : Int)
def medF (vs : List Int) : Int := (insAll vs).getD ((vs.length - 1) / 2) 0
def covF (t : Int) (vs : List Int) : Int := rdiv (100 * (cntN t vs : Int)) (vs.length : Int)
theorem rdiv_between {n d m : Int} (hd : 1 ≤ d) (hm : 0 ≤ m) (h1 : -m * d ≤ n) (h2 : n ≤ m * d) : -m ≤ rdiv n d ∧ rdiv n d ≤ m := by
  have hs : (0 : Int) < 2 * d := by omega
  have e1 : -m * d = -(m * d) := Int.neg_mul m d
  have e2 : m * (2 * d) = 2 * (m * d) := by rw [Int.mul_left_comm]
  have e3 : (m + 1) * (2 * d) = 2 * (m * d) + 2 * d := by rw [Int.add_mul, e2, Int.one_mul]
  rw [e1] at h1
  by_cases h : n < 0
  · rw [rdiv_neg h]
    have a : 0 ≤ (-2 * n + d) / (2 * d) := Int.ediv_nonneg (by omega) (by omega)
    have b : (-2 * n + d) / (2 * d) < m + 1 := by rw [Int.ediv_lt_iff_lt_mul hs, e3]; omega
    omega
  · rw [rdiv_pos h]
    have a : 0 ≤ (2 * n + d) / (2 * d) := Int.ediv_nonneg (by omega) (by omega)
    have b : (2 * n + d) / (2 * d) < m + 1 := by rw [Int.ediv_lt_iff_lt_mul hs, e3]; omega
    omega
theorem fit_hi : FitF hiV := fun _ h _ hb => hb _ (hiV_in h)
theorem fit_lo : FitF loV := fun _ h _ hb => hb _ (loV_in h)
theorem fit_mean : FitF meanF := by
  intro vs h _ hb
  have hn : 0 < vs.length := List.length_pos_iff.2 h
  exact rdiv_between (by omega) (by omega) (tot_ge fun z hz => (hb z hz).1) (tot_le fun z hz => (hb z hz).2)
theorem fit_med : FitF medF := by
  intro vs h _ hb
  have hn : 0 < vs.length := List.length_pos_iff.2 h
  have hl := insAll_len vs
  have hk : (vs.length - 1) / 2 < (insAll vs).length := by omega
  unfold medF
  rw [getD_at hk]
  exact hb _ (insAll_mem.1 (List.getElem_mem hk))
theorem fit_cov (t : Int) : FitF (covF t) := by
  intro vs h _ _
  have hn : 0 < vs.length := List.length_pos_iff.2 h
  have hc := cnt_le t vs
  have := rdiv_between (n := 100 * (cntN t vs : Int)) (d := (vs.length : Int)) (m := 100) (by omega) (by omega) (by omega) (by omega)
  unfold covF
  omega
end Go.Proofs.Ythceffkkokgpnaa
