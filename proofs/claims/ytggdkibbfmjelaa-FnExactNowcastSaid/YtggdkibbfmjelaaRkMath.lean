/- Ranking matches: the order, and putting in place; mathematics. -/
import Derived.Test.YtggdkibbfmjelaaMvSpM
import Derived.Sort.Statements
namespace Go.Proofs.Ytggdkibbfmjelaa
open Go.Sort
set_option linter.unusedVariables false
set_option linter.unusedSimpArgs false
/-- a match: x, y, error, count -/
abbrev MtV := Int × Int × Int × Int
def mX (p : MtV) : Int := p.1
def mY (p : MtV) : Int := p.2.1
def mG (p : MtV) : Int := p.2.2.1
def mN (p : MtV) : Int := p.2.2.2
def sz2 (x y : Int) : Int := max x (-x) + max y (-y)
/-- what the program compares by -/
def cmpM (p q : MtV) : Int :=
  if mG p * mN q - mG q * mN p ≠ 0 then mG p * mN q - mG q * mN p
  else if sz2 (mX p) (mY p) - sz2 (mX q) (mY q) ≠ 0 then sz2 (mX p) (mY p) - sz2 (mX q) (mY q)
  else if mY p - mY q ≠ 0 then mY p - mY q else mX p - mX q
def ltM (p q : MtV) : Bool := decide (cmpM p q < 0)
/-- a match that may be compared -/
def okM (p : MtV) : Prop := (1 ≤ mN p ∧ mN p ≤ 64) ∧ (0 ≤ mG p ∧ mG p ≤ 1280000) ∧ (-2 ≤ mX p ∧ mX p ≤ 2) ∧ -2 ≤ mY p ∧ mY p ≤ 2
theorem ltM_iff (p q : MtV) : ltM p q = true ↔ mG p * mN q < mG q * mN p ∨ (mG p * mN q = mG q * mN p ∧ (sz2 (mX p) (mY p) < sz2 (mX q) (mY q) ∨ (sz2 (mX p) (mY p) = sz2 (mX q) (mY q) ∧ (mY p < mY q ∨ (mY p = mY q ∧ mX p < mX q))))) := by
  unfold ltM cmpM
  rw [decide_eq_true_iff]
  generalize mG p * mN q = a
  generalize mG q * mN p = b
  generalize sz2 (mX p) (mY p) = c
  generalize sz2 (mX q) (mY q) = d
  split
  · omega
  · split
    · omega
    · split <;> omega
theorem frac_le {a1 n1 a2 n2 a3 n3 : Int} (h1 : 0 < n1) (h2 : 0 < n2) (h3 : 0 < n3) (k1 : a1 * n2 ≤ a2 * n1) (k2 : a2 * n3 ≤ a3 * n2) : a1 * n3 ≤ a3 * n1 := by
  have e1 := Int.mul_le_mul_of_nonneg_right k1 (Int.le_of_lt h3)
  have e2 := Int.mul_le_mul_of_nonneg_right k2 (Int.le_of_lt h1)
  have e3 : a1 * n3 * n2 ≤ a3 * n1 * n2 := by
    have x1 : a1 * n2 * n3 = a1 * n3 * n2 := by ac_rfl
    have x2 : a2 * n1 * n3 = a2 * n3 * n1 := by ac_rfl
    have x3 : a3 * n2 * n1 = a3 * n1 * n2 := by ac_rfl
    omega
  exact Int.le_of_mul_le_mul_right e3 h2
/-- the three that are compared, one after another -/
theorem ltM_trans {p q r : MtV} (hp : okM p) (hq : okM q) (hr : okM r) (h1 : ltM p q = true) (h2 : ltM q r = true) : ltM p r = true := by
  rw [ltM_iff] at *
  have a1 : 0 < mN p := by have := hp.1; omega
  have a2 : 0 < mN q := by have := hq.1; omega
  have a3 : 0 < mN r := by have := hr.1; omega
  have f1 := fun k1 k2 => frac_le (a1 := mG p) (a2 := mG q) (a3 := mG r) a1 a2 a3 k1 k2
  have f2 := fun k1 k2 => frac_le (a1 := mG q) (a2 := mG r) (a3 := mG p) a2 a3 a1 k1 k2
  have f3 := fun k1 k2 => frac_le (a1 := mG r) (a2 := mG p) (a3 := mG q) a3 a1 a2 k1 k2
  generalize mG p * mN q = pq at *
  generalize mG q * mN p = qp at *
  generalize mG q * mN r = qr at *
  generalize mG r * mN q = rq at *
  generalize mG p * mN r = pr at *
  generalize mG r * mN p = rp at *
  generalize sz2 (mX p) (mY p) = sp at *
  generalize sz2 (mX q) (mY q) = sq at *
  generalize sz2 (mX r) (mY r) = sr at *
  have g1 := f1 (by omega) (by omega)
  by_cases e : pr = rp
  · right
    have e1 : pq = qp := by have := f3 (by omega) (by omega); have := f2; omega
    have e2 : qr = rq := by have := f2 (by omega) (by omega); omega
    omega
  · left; omega
theorem ltM_ntrans {p q r : MtV} (hp : okM p) (hq : okM q) (hr : okM r) (h1 : ltM p q = false) (h2 : ltM q r = false) : ltM p r = false := by
  cases h3 : ltM p r with
  | false => rfl
  | true =>
    exfalso
    have n1 : ¬ ltM p q = true := by rw [h1]; simp
    have n2 : ¬ ltM q r = true := by rw [h2]; simp
    rw [ltM_iff] at h3 n1 n2
    have a1 : 0 < mN p := by have := hp.1; omega
    have a2 : 0 < mN q := by have := hq.1; omega
    have a3 : 0 < mN r := by have := hr.1; omega
    have f1 := fun k1 k2 => frac_le (a1 := mG r) (a2 := mG q) (a3 := mG p) a3 a2 a1 k1 k2
    have f2 := fun k1 k2 => frac_le (a1 := mG p) (a2 := mG r) (a3 := mG q) a1 a3 a2 k1 k2
    have f3 := fun k1 k2 => frac_le (a1 := mG q) (a2 := mG p) (a3 := mG r) a2 a1 a3 k1 k2
    generalize mG p * mN q = pq at *
    generalize mG q * mN p = qp at *
    generalize mG q * mN r = qr at *
    generalize mG r * mN q = rq at *
    generalize mG p * mN r = pr at *
    generalize mG r * mN p = rp at *
    generalize sz2 (mX p) (mY p) = sp at *
    generalize sz2 (mX q) (mY q) = sq at *
    generalize sz2 (mX r) (mY r) = sr at *
    have g1 := f1 (by omega) (by omega)
    have e : pr = rp := by omega
    have e1 : pq = qp := by have := f2 (by omega) (by omega); omega
    have e2 : qr = rq := by have := f3 (by omega) (by omega); omega
    omega
theorem ltM_irrefl (p : MtV) : ltM p p = false := by
  cases h : ltM p p with
  | false => rfl
  | true => rw [ltM_iff] at h; omega
theorem ltM_total {p q : MtV} (h : mX p ≠ mX q ∨ mY p ≠ mY q) : ltM p q = true ∨ ltM q p = true := by
  rw [ltM_iff, ltM_iff]
  omega
theorem ltM_asymm {p q : MtV} (h : ltM p q = true) : ltM q p = false := by
  cases h2 : ltM q p with
  | false => rfl
  | true => rw [ltM_iff] at h h2; omega
/-- in order: no later one is better -/
def SortM (l : List MtV) : Prop := l.Pairwise (fun p q => ltM q p = false)
/-- where p belongs among the first k of s, looked for from the end -/
def spotM (s : List MtV) (p : MtV) : Nat → Nat
  | 0 => 0
  | k + 1 => if ltM p (s.getD k (0, 0, 0, 0)) = true then spotM s p k else k + 1
theorem spotM_le (s : List MtV) (p : MtV) (k : Nat) : spotM s p k ≤ k := by
  induction k with
  | zero => exact Nat.le_refl _
  | succ k ih => unfold spotM; split <;> omega
theorem gM_at {s : List MtV} {k : Nat} (h : k < s.length) : s.getD k (0, 0, 0, 0) = s[k] := by simp [List.getD, h]
theorem spotM_down {s : List MtV} {p : MtV} {k : Nat} (h : k < s.length) (h2 : ltM p s[k] = true) : spotM s p (k + 1) = spotM s p k := by
  show (if ltM p (s.getD k (0, 0, 0, 0)) = true then spotM s p k else k + 1) = _
  rw [gM_at h, if_pos h2]
theorem spotM_stop {s : List MtV} {p : MtV} {k : Nat} (h : k < s.length) (h2 : ltM p s[k] = false) : spotM s p (k + 1) = k + 1 := by
  show (if ltM p (s.getD k (0, 0, 0, 0)) = true then spotM s p k else k + 1) = _
  rw [gM_at h, if_neg (by rw [h2]; simp)]
def insM (s : List MtV) (p : MtV) : List MtV := s.take (spotM s p s.length) ++ p :: s.drop (spotM s p s.length)
theorem insM_perm (s : List MtV) (p : MtV) : (insM s p).Perm (s ++ [p]) := by
  unfold insM
  refine List.perm_middle.trans ?_
  rw [List.take_append_drop]
  exact (List.perm_append_singleton p s).symm
theorem insM_len (s : List MtV) (p : MtV) : (insM s p).length = s.length + 1 := by rw [(insM_perm s p).length_eq]; simp
theorem spotM_above (s : List MtV) (p : MtV) (m : Nat) : ∀ j, spotM s p m ≤ j → j < m → ltM p (s.getD j (0, 0, 0, 0)) = true := by
  induction m with
  | zero => intro j _ h; omega
  | succ m ih =>
    intro j h1 h2
    unfold spotM at h1
    by_cases h : ltM p (s.getD m (0, 0, 0, 0)) = true
    · rw [if_pos h] at h1
      by_cases e : j = m
      · subst e; exact h
      · exact ih j h1 (by omega)
    · rw [if_neg h] at h1; omega
theorem spotM_under (s : List MtV) (p : MtV) (m : Nat) : spotM s p m = 0 ∨ ltM p (s.getD (spotM s p m - 1) (0, 0, 0, 0)) = false := by
  induction m with
  | zero => exact .inl rfl
  | succ m ih =>
    unfold spotM
    by_cases h : ltM p (s.getD m (0, 0, 0, 0)) = true
    · rw [if_pos h]; exact ih
    · rw [if_neg h]; exact .inr (by simpa using h)
theorem insM_sorted {s : List MtV} {p : MtV} (hs : SortM s) (ho : ∀ q ∈ s, okM q) (hp : okM p) : SortM (insM s p) := by
  have hk := spotM_le s p s.length
  have ha := spotM_above s p s.length
  have hu := spotM_under s p s.length
  unfold SortM at *
  unfold insM
  generalize spotM s p s.length = k at *
  rw [List.pairwise_append]
  have hsplit := List.take_append_drop k s
  have hs2 := hs
  rw [← hsplit, List.pairwise_append] at hs2
  refine ⟨hs2.1, List.pairwise_cons.2 ⟨?_, hs2.2.1⟩, ?_⟩
  · intro q hq
    obtain ⟨j, hj, rfl⟩ := List.getElem_of_mem hq
    rw [List.getElem_drop]
    rw [List.length_drop] at hj
    have h := ha (k + j) (by omega) (by omega)
    rw [gM_at (by omega)] at h
    exact ltM_asymm h
  · intro a ha1 b hb1
    rcases List.mem_cons.1 hb1 with rfl | hb2
    · rcases hu with h0 | h0
      · rw [h0] at ha1; simp at ha1
      · obtain ⟨j, hj, rfl⟩ := List.getElem_of_mem ha1
        rw [List.length_take] at hj
        rw [List.getElem_take]
        rw [gM_at (by omega)] at h0
        by_cases e : j = k - 1
        · subst e; exact h0
        · have h9 := List.pairwise_iff_getElem.1 hs j (k - 1) (by omega) (by omega) (by omega)
          exact ltM_ntrans hp (ho _ (List.getElem_mem _)) (ho _ (List.getElem_mem _)) h0 h9
    · exact hs2.2.2 a ha1 b hb2
/-- two lists in order with the same members are the same -/
theorem sortM_unique : ∀ {l m : List MtV}, l.Perm m → SortM l → SortM m → (∀ p ∈ l, ∀ q ∈ l, p ≠ q → mX p ≠ mX q ∨ mY p ≠ mY q) → l = m := by
  intro l
  induction l with
  | nil => intro m h _ _ _; exact (List.Perm.nil_eq h)
  | cons a r ih =>
    intro m h h1 h2 hd
    cases m with
    | nil => exact absurd h.symm.nil_eq (by simp)
    | cons b t =>
      have e : a = b := by
        rcases Classical.em (a = b) with e | e
        · exact e
        · exfalso
          have hb : b ∈ r := by have : b ∈ a :: r := h.mem_iff.2 (by simp); rcases List.mem_cons.1 this with h9 | h9; exact absurd h9.symm e; exact h9
          have ha : a ∈ t := by have : a ∈ b :: t := h.mem_iff.1 (by simp); rcases List.mem_cons.1 this with h9 | h9; exact absurd h9 e; exact h9
          have x1 := (List.pairwise_cons.1 h1).1 b hb
          have x2 := (List.pairwise_cons.1 h2).1 a ha
          rcases ltM_total (hd a (by simp) b (by simp [hb]) e) with x | x
          · rw [x2] at x; cases x
          · rw [x1] at x; cases x
      subst e
      rw [ih (List.Perm.cons_inv h) (List.pairwise_cons.1 h1).2 (List.pairwise_cons.1 h2).2 (fun p hp q hq => hd p (by simp [hp]) q (by simp [hq]))]
/-- all motions, in order -/
def moX (n : Nat) : Int := ((n % 5 : Nat) : Int) - 2
def moY (n : Nat) : Int := ((n / 5 : Nat) : Int) - 2
def moL (n : Nat) : List (Int × Int) := (List.range n).map fun i => (moX i, moY i)
theorem moL_zero : moL 0 = [] := rfl
theorem moL_len (n : Nat) : (moL n).length = n := by simp [moL]
theorem moL_step (n : Nat) : moL (n + 1) = moL n ++ [(moX n, moY n)] := by unfold moL; rw [List.range_succ, List.map_append]; rfl
theorem moL_get {n k : Nat} (h : k < (moL n).length) : (moL n)[k] = (moX k, moY k) := by simp [moL]
theorem mo_at {j i : Nat} (h : i < 5) : moX (5 * j + i) = (i : Int) - 2 ∧ moY (5 * j + i) = (j : Int) - 2 := by unfold moX moY; omega
theorem mo_bd {n : Nat} (h : n < 25) : (-2 ≤ moX n ∧ moX n ≤ 2) ∧ -2 ≤ moY n ∧ moY n ≤ 2 := by unfold moX moY; omega
theorem mo_inj {n m : Nat} (h1 : moX n = moX m) (h2 : moY n = moY m) : n = m := by unfold moX at h1; unfold moY at h2; omega
section
variable (G N : Int → Int → Int) (len : Int)
def mtAt (n : Nat) : MtV := (moX n, moY n, G (moX n) (moY n), N (moX n) (moY n))
/-- the matches that qualify among the first n, as they come -/
def qlL : Nat → List MtV
  | 0 => []
  | n + 1 => if len ≤ 2 * N (moX n) (moY n) then qlL n ++ [mtAt G N n] else qlL n
/-- .. and put in order -/
def rkL : Nat → List MtV
  | 0 => []
  | n + 1 => if len ≤ 2 * N (moX n) (moY n) then insM (rkL n) (mtAt G N n) else rkL n
end
section
variable {G N : Int → Int → Int} {len : Int}
theorem qlL_yes {n : Nat} (h : len ≤ 2 * N (moX n) (moY n)) : qlL G N len (n + 1) = qlL G N len n ++ [mtAt G N n] := if_pos h
theorem qlL_no {n : Nat} (h : ¬ len ≤ 2 * N (moX n) (moY n)) : qlL G N len (n + 1) = qlL G N len n := if_neg h
theorem rkL_yes {n : Nat} (h : len ≤ 2 * N (moX n) (moY n)) : rkL G N len (n + 1) = insM (rkL G N len n) (mtAt G N n) := if_pos h
theorem rkL_no {n : Nat} (h : ¬ len ≤ 2 * N (moX n) (moY n)) : rkL G N len (n + 1) = rkL G N len n := if_neg h
theorem rk_perm (n : Nat) : (rkL G N len n).Perm (qlL G N len n) := by
  induction n with
  | zero => exact List.Perm.refl _
  | succ n ih =>
    by_cases h : len ≤ 2 * N (moX n) (moY n)
    · rw [rkL_yes h, qlL_yes h]; exact (insM_perm _ _).trans (ih.append_right _)
    · rw [rkL_no h, qlL_no h]; exact ih
theorem ql_len (n : Nat) : (qlL G N len n).length ≤ n := by
  induction n with
  | zero => exact Nat.le_refl _
  | succ n ih => unfold qlL; split
                 · rw [List.length_append, List.length_singleton]; omega
                 · omega
theorem rk_len (n : Nat) : (rkL G N len n).length ≤ n := by rw [(rk_perm n).length_eq]; exact ql_len n
theorem ql_mem {n : Nat} {p : MtV} (h : p ∈ qlL G N len n) : ∃ k, k < n ∧ p = mtAt G N k ∧ len ≤ 2 * N (moX k) (moY k) := by
  induction n with
  | zero => cases h
  | succ n ih =>
    unfold qlL at h
    split at h
    · rename_i h1
      rcases List.mem_append.1 h with h | h
      · obtain ⟨k, h2, h3⟩ := ih h; exact ⟨k, by omega, h3⟩
      · exact ⟨n, by omega, List.mem_singleton.1 h, h1⟩
    · obtain ⟨k, h2, h3⟩ := ih h; exact ⟨k, by omega, h3⟩
/-- what may be compared -/
def FineM (G N : Int → Int → Int) (len : Int) : Prop := ∀ x y, (-2 ≤ x ∧ x ≤ 2) → (-2 ≤ y ∧ y ≤ 2) → len ≤ 2 * N x y → (1 ≤ N x y ∧ N x y ≤ 64) ∧ 0 ≤ G x y ∧ G x y ≤ 1280000
theorem ql_ok (hf : FineM G N len) {n : Nat} (hn : n ≤ 25) {p : MtV} (h : p ∈ qlL G N len n) : okM p := by
  obtain ⟨k, h1, rfl, h2⟩ := ql_mem h
  have hb := mo_bd (show k < 25 by omega)
  exact ⟨(hf _ _ hb.1 hb.2 h2).1, (hf _ _ hb.1 hb.2 h2).2, hb.1, hb.2⟩
theorem rk_ok (hf : FineM G N len) {n : Nat} (hn : n ≤ 25) {p : MtV} (h : p ∈ rkL G N len n) : okM p := ql_ok hf hn ((rk_perm n).mem_iff.1 h)
theorem rk_sorted (hf : FineM G N len) (n : Nat) (hn : n ≤ 25) : SortM (rkL G N len n) := by
  induction n with
  | zero => exact List.Pairwise.nil
  | succ n ih =>
    by_cases h : len ≤ 2 * N (moX n) (moY n)
    · rw [rkL_yes h]
      have hb := mo_bd (show n < 25 by omega)
      exact insM_sorted (ih (by omega)) (fun q hq => rk_ok hf (by omega) hq) ⟨(hf _ _ hb.1 hb.2 h).1, (hf _ _ hb.1 hb.2 h).2, hb.1, hb.2⟩
    · rw [rkL_no h]; exact ih (by omega)
theorem ql_apart {n : Nat} : ∀ p ∈ qlL G N len n, ∀ q ∈ qlL G N len n, p ≠ q → mX p ≠ mX q ∨ mY p ≠ mY q := by
  intro p hp q hq hne
  obtain ⟨k, _, rfl, _⟩ := ql_mem hp
  obtain ⟨j, _, rfl, _⟩ := ql_mem hq
  rcases Classical.em (moX k = moX j) with h1 | h1
  · rcases Classical.em (moY k = moY j) with h2 | h2
    · obtain rfl := mo_inj h1 h2; exact absurd rfl hne
    · exact .inr h2
  · exact .inl h1
/-- what is in order and has the matches that qualify is the ranking -/
theorem rk_only (hf : FineM G N len) {n : Nat} (hn : n ≤ 25) {m : List MtV} (hp : m.Perm (qlL G N len n)) (hs : SortM m) : m = rkL G N len n :=
  sortM_unique (hp.trans (rk_perm n).symm) hs (rk_sorted hf n hn) (fun p h1 q h2 => ql_apart p (hp.mem_iff.1 h1) q (hp.mem_iff.1 h2))
end
/-- the motion of a match -/
def moOf (p : MtV) : Int × Int := (mX p, mY p)
end Go.Proofs.Ytggdkibbfmjelaa
