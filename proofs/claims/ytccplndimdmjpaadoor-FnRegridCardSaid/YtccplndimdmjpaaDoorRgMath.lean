/- Plain mathematics of regridding: overlaps, complete fields, sums of blocks, nearest columns. -/
import Derived.Test.YtccplndimdmjpaaDoorGrid
import Derived.Test.YtccplndimdmjpaaDoorHas
import Derived.Test.YtccplndimdmjpaaDoorValMath
import Derived.Test.YtccplndimdmjpaaDoorGd
namespace Go.Proofs.YtccplndimdmjpaaDoor
set_option linter.unusedVariables false
/-- the units that two columns have in common -/
def ovl (a c i k : Int) : Int := max 0 (min ((i + 1) * c) ((k + 1) * a) - max (i * c) (k * a))
def ovB (a c i k : Int) : Bool := shapeB a c && inB a c i k
def ovN (a c i k : Int) : Int := if ovB a c i k = true then ovl a c i k else 0
theorem ovN_no {a c i k : Int} (h : ovB a c i k = false) : ovN a c i k = 0 := if_neg (by rw [h]; simp)
theorem ovN_yes {a c i k : Int} (h : ovB a c i k = true) : ovN a c i k = ovl a c i k := if_pos h
/-- a product of small numbers -/
theorem small_prod {i c m n : Int} (h0 : 0 ≤ i) (h1 : i ≤ m) (h2 : 0 ≤ c) (h3 : c ≤ n) : ∃ p : Nat, i * c = (p : Int) ∧ (p : Int) ≤ m * n := by
  have e0 : 0 ≤ i * c := Int.mul_nonneg h0 h2
  have e1 : i * c ≤ m * n := Int.mul_le_mul h1 h3 h2 (by omega)
  exact ⟨(i * c).toNat, by omega, by omega⟩
theorem ov_nat {a c i k : Int} (h : ovB a c i k = true) : ∃ p1 p2 p3 p4 : Nat, i * c = (p1 : Int) ∧ (i + 1) * c = (p2 : Int) ∧ k * a = (p3 : Int) ∧ (k + 1) * a = (p4 : Int) ∧ p1 ≤ 64 ∧ p2 ≤ 64 ∧ p3 ≤ 64 ∧ p4 ≤ 64 := by
  unfold ovB at h
  simp only [Bool.and_eq_true] at h
  obtain ⟨⟨a1, a2⟩, c1, c2⟩ := shapeB_iff.1 h.1
  obtain ⟨⟨i1, i2⟩, k1, k2⟩ := inB_iff.1 h.2
  obtain ⟨p1, e1, b1⟩ := small_prod (i := i) (c := c) (m := 8) (n := 8) i1 (by omega) (by omega) c2
  obtain ⟨p2, e2, b2⟩ := small_prod (i := i + 1) (c := c) (m := 8) (n := 8) (by omega) (by omega) (by omega) c2
  obtain ⟨p3, e3, b3⟩ := small_prod (i := k) (c := a) (m := 8) (n := 8) k1 (by omega) (by omega) a2
  obtain ⟨p4, e4, b4⟩ := small_prod (i := k + 1) (c := a) (m := 8) (n := 8) (by omega) (by omega) (by omega) a2
  exact ⟨p1, p2, p3, p4, e1, e2, e3, e4, by omega, by omega, by omega, by omega⟩
/-- valid, and no cell without a value -/
def fullB (wd hg : Int) (l : List Int) : Bool := goodB wd hg l && l.all (fun z => z != -9999)
theorem full_good {wd hg : Int} {l : List Int} (h : fullB wd hg l = true) : goodB wd hg l = true := by unfold fullB at h; simp only [Bool.and_eq_true] at h; exact h.1
theorem full_all {wd hg : Int} {l : List Int} (h : fullB wd hg l = true) : l.all (fun z => z != -9999) = true := by unfold fullB at h; simp only [Bool.and_eq_true] at h; exact h.2
theorem full_cell {wd hg : Int} {l : List Int} (h : fullB wd hg l = true) : ∀ z ∈ l, -9000 ≤ z ∧ z ≤ 9000 := fun z hz => by
  have h1 := cellB_iff.1 (good_cell (full_good h) z hz)
  have h2 := List.all_eq_true.1 (full_all h) z hz
  simp at h2
  omega
theorem gone_all (l : List Int) : l.all (fun z => z != -9999) = decide (gone l = 0) := by
  unfold gone vals
  rw [Bool.eq_iff_iff, decide_eq_true_eq]
  have h1 := List.length_filter_le (fun z : Int => z != -9999) l
  constructor
  · intro h
    have : (l.filter (fun z => z != -9999)).length = l.length := List.length_filter_eq_length_iff.2 (List.all_eq_true.1 h)
    omega
  · intro h
    exact List.all_eq_true.2 (List.length_filter_eq_length_iff.1 (by omega))
theorem full_no_good {wd hg : Int} {l : List Int} (h : goodB wd hg l = false) : fullB wd hg l = false := by unfold fullB; rw [h]; rfl
theorem full_no_cell {wd hg : Int} {l : List Int} {k : Nat} (hk : k < l.length) (h : l[k] = -9999) : fullB wd hg l = false := by
  have : l.all (fun z => z != -9999) = false := by rw [List.all_eq_false]; exact ⟨l[k], List.getElem_mem hk, by simp [h]⟩
  unfold fullB; rw [this]; simp
theorem full_of {wd hg : Int} {l : List Int} (h : ∀ k (hk : k < l.length), l[k] ≠ -9999) : fullB wd hg l = goodB wd hg l := by
  have : l.all (fun z => z != -9999) = true := by
    rw [List.all_eq_true]; intro x hx; obtain ⟨k, hk, rfl⟩ := List.getElem_of_mem hx; simpa using h k hk
  unfold fullB; rw [this]; simp
/-- the first k numbers of l, each added to its place in s -/
def accK (f : Nat → Nat) (l s : List Int) : Nat → List Int
  | 0 => s
  | k + 1 => (accK f l s k).set (f k) ((accK f l s k).getD (f k) 0 + l.getD k 0)
theorem accK_len (f : Nat → Nat) (l s : List Int) : ∀ k, (accK f l s k).length = s.length
  | 0 => rfl
  | k + 1 => by rw [accK, List.length_set]; exact accK_len f l s k
theorem accK_step {f : Nat → Nat} {l s : List Int} {k : Nat} (h1 : f k < (accK f l s k).length) (h2 : k < l.length) : accK f l s (k + 1) = (accK f l s k).set (f k) ((accK f l s k)[f k] + l[k]) := by
  rw [accK, gd_at h1, gd_at h2]
theorem accK_bd (f : Nat → Nat) {l : List Int} (n : Nat) (hl : ∀ z ∈ l, -9000 ≤ z ∧ z ≤ 9000) : ∀ k : Nat, ∀ z ∈ accK f l (List.replicate n 0) k, -9000 * (k : Int) ≤ z ∧ z ≤ 9000 * (k : Int)
  | 0 => fun z hz => by rw [accK] at hz; obtain ⟨_, rfl⟩ := List.mem_replicate.1 hz; omega
  | k + 1 => fun z hz => by
    have ih := accK_bd f n hl k
    rw [accK] at hz
    rcases List.mem_or_eq_of_mem_set hz with hz | rfl
    · have := ih z hz; omega
    · have e1 : -9000 * (k : Int) ≤ (accK f l (List.replicate n 0) k).getD (f k) 0 ∧ (accK f l (List.replicate n 0) k).getD (f k) 0 ≤ 9000 * (k : Int) := by
        rcases Nat.lt_or_ge (f k) (accK f l (List.replicate n 0) k).length with h | h
        · rw [gd_at h]; exact ih _ (List.getElem_mem h)
        · rw [gd_out h]; omega
      have e2 : -9000 ≤ l.getD k 0 ∧ l.getD k 0 ≤ 9000 := by
        rcases Nat.lt_or_ge k l.length with h | h
        · rw [gd_at h]; exact hl _ (List.getElem_mem h)
        · rw [gd_out h]; omega
      omega
/-- the block in which a cell lies, in a grid of width W with blocks of A by D -/
def blkI (W A D k : Nat) : Nat := k / W / D * (W / A) + k % W / A
theorem blkI_lt {W H A D k : Nat} (hW : 0 < W) (hA : A ∣ W) (hD : D ∣ H) (h : k < W * H) : blkI W A D k < W / A * (H / D) := by
  have h1 : k / W < H := by rw [Nat.div_lt_iff_lt_mul hW, Nat.mul_comm]; exact h
  have h2 : k / W / D < H / D := Nat.div_lt_div_of_lt_of_dvd hD h1
  have h3 : k % W / A < W / A := Nat.div_lt_div_of_lt_of_dvd hA (Nat.mod_lt _ hW)
  unfold blkI
  have h4 : (k / W / D + 1) * (W / A) ≤ H / D * (W / A) := Nat.mul_le_mul_right _ h2
  rw [Nat.mul_comm (W / A), Nat.add_mul] at *
  omega
theorem blkI_row {W A D x y : Nat} (h : x < W) : blkI W A D (y * W + x) = y / D * (W / A) + x / A := by
  have hW : 0 < W := by omega
  have h1 : (y * W + x) % W = x := by rw [Nat.add_comm, Nat.add_mul_mod_self_right, Nat.mod_eq_of_lt h]
  have h2 : (y * W + x) / W = y := by rw [Nat.add_comm, Nat.add_mul_div_right _ _ hW, Nat.div_eq_of_lt h, Nat.zero_add]
  unfold blkI
  rw [h1, h2]
def blkL (W H A D : Nat) (l : List Int) : List Int := accK (blkI W A D) l (List.replicate (W / A * (H / D)) 0) (W * H)
theorem blkL_len (W H A D : Nat) (l : List Int) : (blkL W H A D l).length = W / A * (H / D) := by unfold blkL; rw [accK_len]; simp
/-- a field of complete cells, or none -/
def wholeR (wd hg : Int) (l : List Int) : Option (Int × Int × List Int) := if fullB wd hg l = true then some (wd, hg, l) else none
theorem wholeR_yes {wd hg : Int} {l : List Int} (h : fullB wd hg l = true) : wholeR wd hg l = some (wd, hg, l) := if_pos h
theorem wholeR_no {wd hg : Int} {l : List Int} (h : fullB wd hg l = false) : wholeR wd hg l = none := if_neg (by rw [h]; simp)
theorem wholeR_len (wd hg : Int) (l : List Int) : (rL (wholeR wd hg l)).length ≤ 64 := by
  cases h : fullB wd hg l with
  | false => rw [wholeR_no h]; simp [rL]
  | true => rw [wholeR_yes h]; have := good_le (full_good h); simp [rL]; omega
/-- blocks of p by q cells divide a complete field -/
def divB (wd hg : Int) (l : List Int) (p q : Int) : Bool := fullB wd hg l && ((decide (1 ≤ p) && decide (wd % p = 0)) && (decide (1 ≤ q) && decide (hg % q = 0)))
theorem divB_iff {wd hg : Int} {l : List Int} {p q : Int} : divB wd hg l p q = true ↔ fullB wd hg l = true ∧ (1 ≤ p ∧ wd % p = 0) ∧ 1 ≤ q ∧ hg % q = 0 := by unfold divB; simp
theorem divB_not {wd hg : Int} {l : List Int} {p q : Int} (h : ¬ (fullB wd hg l = true ∧ (1 ≤ p ∧ wd % p = 0) ∧ 1 ≤ q ∧ hg % q = 0)) : divB wd hg l p q = false := by
  cases e : divB wd hg l p q with
  | false => rfl
  | true => exact absurd (divB_iff.1 e) h
theorem le_of_mod {w p : Int} (hw : 1 ≤ w) (hp : 1 ≤ p) (h : w % p = 0) : p ≤ w := Int.le_of_dvd (by omega) (Int.dvd_of_emod_eq_zero h)
theorem div_nat {wd hg : Int} {l : List Int} {p q : Int} (h : divB wd hg l p q = true) : ∃ W H P Q : Nat, wd = (W : Int) ∧ hg = (H : Int) ∧ p = (P : Int) ∧ q = (Q : Int) ∧
    1 ≤ W ∧ W ≤ 8 ∧ 1 ≤ H ∧ H ≤ 8 ∧ 1 ≤ P ∧ P ≤ W ∧ 1 ≤ Q ∧ Q ≤ H ∧ P ∣ W ∧ Q ∣ H ∧ l.length = W * H := by
  obtain ⟨h1, ⟨h2, h3⟩, h4, h5⟩ := divB_iff.1 h
  obtain ⟨W, H, rfl, rfl, w1, w2, w3, w4, hl⟩ := good_nat (full_good h1)
  have p2 := le_of_mod (by omega) h2 h3
  have q2 := le_of_mod (by omega) h4 h5
  refine ⟨W, H, p.toNat, q.toNat, rfl, rfl, by omega, by omega, w1, w2, w3, w4, by omega, by omega, by omega, by omega, ?_, ?_, hl⟩
  · have : ((p.toNat : Nat) : Int) ∣ (W : Int) := by rw [show ((p.toNat : Nat) : Int) = p by omega]; exact Int.dvd_of_emod_eq_zero h3
    exact Int.natCast_dvd_natCast.1 this
  · have : ((q.toNat : Nat) : Int) ∣ (H : Int) := by rw [show ((q.toNat : Nat) : Int) = q by omega]; exact Int.dvd_of_emod_eq_zero h5
    exact Int.natCast_dvd_natCast.1 this
def sumR (wd hg : Int) (l : List Int) (p q : Int) : Option (Int × Int × List Int) :=
  if divB wd hg l p q = true then wholeR (wd / p) (hg / q) (blkL wd.toNat hg.toNat p.toNat q.toNat l) else none
theorem sumR_yes {wd hg : Int} {l : List Int} {p q : Int} (h : divB wd hg l p q = true) : sumR wd hg l p q = wholeR (wd / p) (hg / q) (blkL wd.toNat hg.toNat p.toNat q.toNat l) := if_pos h
theorem sumR_no {wd hg : Int} {l : List Int} {p q : Int} (h : divB wd hg l p q = false) : sumR wd hg l p q = none := if_neg (by rw [h]; simp)
theorem sumR_len (wd hg : Int) (l : List Int) (p q : Int) : (rL (sumR wd hg l p q)).length ≤ 64 := by
  cases h : divB wd hg l p q with
  | false => rw [sumR_no h]; simp [rL]
  | true => rw [sumR_yes h]; exact wholeR_len _ _ _
/-- the first k cells divided, the others as they were -/
def divK (d : Int) (s : List Int) (k : Nat) : List Int := (s.take k).map (· / d) ++ s.drop k
theorem divK_zero (d : Int) (s : List Int) : divK d s 0 = s := by simp [divK]
theorem divK_len (d : Int) (s : List Int) (k : Nat) (h : k ≤ s.length) : (divK d s k).length = s.length := by simp [divK]; omega
theorem divK_all (d : Int) (s : List Int) : divK d s s.length = s.map (· / d) := by simp [divK]
theorem divK_get (d : Int) (s : List Int) (k : Nat) (h : k < s.length) (h2 : k < (divK d s k).length) : (divK d s k)[k] = s[k] := by
  have e : divK d s k = (s.take k).map (· / d) ++ s.drop k := rfl
  simp only [e]
  rw [List.getElem_append_right (by simp; omega)]
  simp [Nat.min_eq_left (Nat.le_of_lt h)]
theorem divK_step (d : Int) (s : List Int) (k : Nat) (h : k < s.length) : (divK d s k).set k (s[k] / d) = divK d s (k + 1) := by
  unfold divK
  have hz : ((s.take k).map (· / d)).length = k := by rw [List.length_map, List.length_take]; omega
  rw [List.set_append_right _ _ (by omega), hz, Nat.sub_self, List.drop_eq_getElem_cons h, List.set_cons_zero, List.take_succ_eq_append_getElem h, List.map_append, List.append_assoc]
  rfl
def meansR (wd hg : Int) (l : List Int) (p q : Int) : Option (Int × Int × List Int) :=
  if divB wd hg l p q = true then some (wd / p, hg / q, (blkL wd.toNat hg.toNat p.toNat q.toNat l).map (· / (p * q))) else none
theorem meansR_yes {wd hg : Int} {l : List Int} {p q : Int} (h : divB wd hg l p q = true) : meansR wd hg l p q = some (wd / p, hg / q, (blkL wd.toNat hg.toNat p.toNat q.toNat l).map (· / (p * q))) := if_pos h
theorem meansR_no {wd hg : Int} {l : List Int} {p q : Int} (h : divB wd hg l p q = false) : meansR wd hg l p q = none := if_neg (by rw [h]; simp)
theorem blk_le {W H A D : Nat} (hW : W ≤ 8) (hH : H ≤ 8) : W / A * (H / D) ≤ 64 := by
  have h1 : W / A ≤ 8 := Nat.le_trans (Nat.div_le_self _ _) hW
  have h2 : H / D ≤ 8 := Nat.le_trans (Nat.div_le_self _ _) hH
  exact Nat.mul_le_mul h1 h2
theorem meansR_len (wd hg : Int) (l : List Int) (p q : Int) : (rL (meansR wd hg l p q)).length ≤ 64 := by
  cases h : divB wd hg l p q with
  | false => rw [meansR_no h]; simp [rL]
  | true =>
    rw [meansR_yes h]
    obtain ⟨W, H, P, Q, rfl, rfl, rfl, rfl, w1, w2, w3, w4, _⟩ := div_nat h
    show (List.map _ _).length ≤ 64
    rw [List.length_map, blkL_len]
    exact blk_le w2 w4
/-- the column in which the center of column k, one of c, lies among a columns -/
def nr (a c k : Nat) : Nat := ((2 * k + 1) * a - 1) / (2 * c)
theorem nr_lt {a c k : Nat} (ha : 1 ≤ a) (h : k < c) : nr a c k < a := by
  unfold nr
  rw [Nat.div_lt_iff_lt_mul (by omega)]
  have h1 : (2 * k + 1) * a ≤ (2 * c - 1) * a := Nat.mul_le_mul_right _ (by omega)
  have h2 : (2 * c - 1) * a + a = a * (2 * c) := by
    have : (2 * c - 1) * a + a = (2 * c - 1 + 1) * a := by rw [Nat.add_mul, Nat.one_mul]
    rw [this, Nat.sub_add_cancel (by omega), Nat.mul_comm]
  omega
/-- the first column that reaches the center -/
theorem nr_reach {a c k i : Nat} (ha : 1 ≤ a) (h : k < c) : (2 * k + 1) * a ≤ 2 * (i + 1) * c ↔ nr a c k ≤ i := by
  unfold nr
  have h0 : 1 ≤ (2 * k + 1) * a := Nat.mul_le_mul (by omega : 1 ≤ 2 * k + 1) ha
  have e : (i + 1) * (2 * c) = 2 * (i + 1) * c := by rw [Nat.mul_comm 2 (i + 1), Nat.mul_assoc]
  have h1 : ((2 * k + 1) * a - 1) / (2 * c) < i + 1 ↔ (2 * k + 1) * a - 1 < (i + 1) * (2 * c) := Nat.div_lt_iff_lt_mul (by omega)
  rw [e] at h1
  constructor
  · intro h2; have := h1.2 (by omega); omega
  · intro h2; have := h1.1 (by omega); omega
def nearL (W H P Q : Nat) (l : List Int) : List Int := (List.range (P * Q)).map fun k => l.getD (nr H Q (k / P) * W + nr W P (k % P)) 0
theorem nearL_len (W H P Q : Nat) (l : List Int) : (nearL W H P Q l).length = P * Q := by simp [nearL]
def nearB (wd hg : Int) (l : List Int) (p q : Int) : Bool := goodB wd hg l && shapeB p q
def nearR (wd hg : Int) (l : List Int) (p q : Int) : Option (Int × Int × List Int) :=
  if nearB wd hg l p q = true then some (p, q, nearL wd.toNat hg.toNat p.toNat q.toNat l) else none
theorem nearR_yes {wd hg : Int} {l : List Int} {p q : Int} (h : nearB wd hg l p q = true) : nearR wd hg l p q = some (p, q, nearL wd.toNat hg.toNat p.toNat q.toNat l) := if_pos h
theorem nearR_no {wd hg : Int} {l : List Int} {p q : Int} (h : nearB wd hg l p q = false) : nearR wd hg l p q = none := if_neg (by rw [h]; simp)
theorem near_nat {wd hg : Int} {l : List Int} {p q : Int} (h : nearB wd hg l p q = true) : ∃ W H P Q : Nat, wd = (W : Int) ∧ hg = (H : Int) ∧ p = (P : Int) ∧ q = (Q : Int) ∧
    1 ≤ W ∧ W ≤ 8 ∧ 1 ≤ H ∧ H ≤ 8 ∧ 1 ≤ P ∧ P ≤ 8 ∧ 1 ≤ Q ∧ Q ≤ 8 ∧ l.length = W * H := by
  unfold nearB at h
  simp only [Bool.and_eq_true] at h
  obtain ⟨W, H, rfl, rfl, w1, w2, w3, w4, hl⟩ := good_nat h.1
  obtain ⟨⟨b1, b2⟩, b3, b4⟩ := shapeB_iff.1 h.2
  exact ⟨W, H, p.toNat, q.toNat, rfl, rfl, by omega, by omega, w1, w2, w3, w4, by omega, by omega, by omega, by omega, hl⟩
theorem nearR_len (wd hg : Int) (l : List Int) (p q : Int) : (rL (nearR wd hg l p q)).length ≤ 64 := by
  cases h : nearB wd hg l p q with
  | false => rw [nearR_no h]; simp [rL]
  | true =>
    rw [nearR_yes h]
    obtain ⟨W, H, P, Q, rfl, rfl, rfl, rfl, _, _, _, _, p1, p2, q1, q2, _⟩ := near_nat h
    show (nearL _ _ _ _ _).length ≤ 64
    rw [nearL_len]
    simp only [Int.toNat_natCast]
    exact Nat.mul_le_mul p2 q2
/-- the place from which a cell of the new grid is taken -/
theorem near_at {W H P Q k : Nat} (hW : 1 ≤ W) (hH : 1 ≤ H) (hP : 1 ≤ P) (h : k < P * Q) : nr H Q (k / P) * W + nr W P (k % P) < W * H := by
  have h1 : k / P < Q := by rw [Nat.div_lt_iff_lt_mul (by omega), Nat.mul_comm]; exact h
  have h2 := nr_lt hH h1
  have h3 := nr_lt hW (Nat.mod_lt k (by omega : P > 0))
  have h4 : (nr H Q (k / P) + 1) * W ≤ H * W := Nat.mul_le_mul_right _ h2
  rw [Nat.add_mul] at h4
  rw [Nat.mul_comm W H]
  omega
/-- the first k cells laid, the others as they were -/
def nearK (W H P Q : Nat) (l s : List Int) (k : Nat) : List Int := (nearL W H P Q l).take k ++ s.drop k
theorem nearK_zero (W H P Q : Nat) (l s : List Int) : nearK W H P Q l s 0 = s := by simp [nearK]
theorem nearK_len {W H P Q : Nat} {l s : List Int} (hs : s.length = P * Q) {k : Nat} (h : k ≤ P * Q) : (nearK W H P Q l s k).length = P * Q := by simp [nearK, nearL_len, hs]; omega
theorem nearK_all {W H P Q : Nat} {l s : List Int} (hs : s.length = P * Q) : nearK W H P Q l s (P * Q) = nearL W H P Q l := by
  unfold nearK; rw [List.take_of_length_le (by rw [nearL_len]; exact Nat.le_refl _), List.drop_eq_nil_of_le (by omega), List.append_nil]
theorem nearK_step {W H P Q : Nat} {l s : List Int} (hs : s.length = P * Q) {k : Nat} (h : k < P * Q) (hk : nr H Q (k / P) * W + nr W P (k % P) < l.length) :
    (nearK W H P Q l s k).set k l[nr H Q (k / P) * W + nr W P (k % P)] = nearK W H P Q l s (k + 1) := by
  unfold nearK
  have hl : k < (nearL W H P Q l).length := by rw [nearL_len]; exact h
  have hz : ((nearL W H P Q l).take k).length = k := by rw [List.length_take]; omega
  rw [List.set_append_right _ _ (by omega), hz, Nat.sub_self, List.drop_eq_getElem_cons (by omega : k < s.length), List.set_cons_zero, List.take_succ_eq_append_getElem hl, List.append_assoc]
  have : (nearL W H P Q l)[k] = l[nr H Q (k / P) * W + nr W P (k % P)] := by
    simp only [nearL, List.getElem_map, List.getElem_range]
    rw [gd_at hk]
  rw [this]
  rfl
end Go.Proofs.YtccplndimdmjpaaDoor
