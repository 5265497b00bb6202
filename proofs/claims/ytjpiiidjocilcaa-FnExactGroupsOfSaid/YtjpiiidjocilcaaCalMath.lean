/- Groups of a calibration: the mathematics. -/
import Derived.Test.YtjpiiidjocilcaaTlGood
import Derived.Test.YtjpiiidjocilcaaFrac
namespace Go.Proofs.Ytjpiiidjocilcaa
open Go.RowKit
set_option linter.unusedVariables false
set_option linter.unusedSimpArgs false
/-- a group: its classes, its cases, its hits -/
structure Gr where
  cs : List Int
  ca : Int
  hi : Int
def Gr.join (p g : Gr) : Gr := ⟨p.cs ++ g.cs, p.ca + g.ca, p.hi + g.hi⟩
/-- the frequency falls from p to g -/
def fallB (p g : Gr) : Bool := decide (g.hi * p.ca < p.hi * g.ca)
/-- a group onto a stack, the last one first -/
def pushG : List Gr → Gr → List Gr
  | [], g => [g]
  | p :: r, g => if fallB p g = true then pushG r (p.join g) else g :: p :: r
def oneG (l r : List Int) (k : Nat) : Gr := ⟨[(k : Int)], l.getD k 0, r.getD k 0⟩
/-- the groups of the first k classes, the last one first -/
def calG (l r : List Int) : Nat → List Gr
  | 0 => []
  | k + 1 => if l.getD k 0 = 0 then calG l r k else pushG (calG l r k) (oneG l r k)
def sumC : List Gr → Int
  | [] => 0
  | g :: r => g.ca + sumC r
def flatC : List Gr → List Int
  | [] => []
  | g :: r => flatC r ++ g.cs
def okG (g : Gr) : Prop := 1 ≤ g.ca ∧ 0 ≤ g.hi ∧ g.hi ≤ g.ca ∧ g.cs ≠ []
theorem ok_join {p g : Gr} (h1 : okG p) (h2 : okG g) : okG (p.join g) := by
  obtain ⟨a1, a2, a3, a4⟩ := h1
  obtain ⟨b1, b2, b3, b4⟩ := h2
  refine ⟨?_, ?_, ?_, ?_⟩
  · show 1 ≤ p.ca + g.ca; omega
  · show 0 ≤ p.hi + g.hi; omega
  · show p.hi + g.hi ≤ p.ca + g.ca; omega
  · show p.cs ++ g.cs ≠ []
    intro h
    exact a4 (List.append_eq_nil_iff.1 h).1
theorem push_ok : ∀ (st : List Gr) (g : Gr), (∀ x ∈ st, okG x) → okG g → ∀ x ∈ pushG st g, okG x
  | [], g, _, hg => by intro x hx; rw [pushG, List.mem_singleton] at hx; subst hx; exact hg
  | p :: r, g, h, hg => by
    intro x hx
    unfold pushG at hx
    by_cases hf : fallB p g = true
    · rw [if_pos hf] at hx
      exact push_ok r (p.join g) (fun y hy => h y (List.mem_cons_of_mem _ hy)) (ok_join (h p (List.mem_cons_self ..)) hg) x hx
    · rw [if_neg hf] at hx
      rcases List.mem_cons.1 hx with rfl | hx
      · exact hg
      · exact h x hx
theorem push_sum : ∀ (st : List Gr) (g : Gr), sumC (pushG st g) = g.ca + sumC st
  | [], g => rfl
  | p :: r, g => by
    unfold pushG
    by_cases hf : fallB p g = true
    · rw [if_pos hf, push_sum r (p.join g)]
      show p.ca + g.ca + sumC r = g.ca + (p.ca + sumC r)
      omega
    · rw [if_neg hf]; rfl
theorem push_flat : ∀ (st : List Gr) (g : Gr), flatC (pushG st g) = flatC st ++ g.cs
  | [], g => rfl
  | p :: r, g => by
    unfold pushG
    by_cases hf : fallB p g = true
    · rw [if_pos hf, push_flat r (p.join g)]
      show flatC r ++ (p.cs ++ g.cs) = flatC r ++ p.cs ++ g.cs
      rw [List.append_assoc]
    · rw [if_neg hf]; rfl
theorem push_len : ∀ (st : List Gr) (g : Gr), (pushG st g).length ≤ st.length + 1
  | [], g => by simp [pushG]
  | p :: r, g => by
    unfold pushG
    by_cases hf : fallB p g = true
    · rw [if_pos hf]
      have := push_len r (p.join g)
      simp only [List.length_cons]
      omega
    · rw [if_neg hf]; simp
theorem push_ne : ∀ (st : List Gr) (g : Gr), pushG st g ≠ []
  | [], g => by simp [pushG]
  | p :: r, g => by
    unfold pushG
    by_cases hf : fallB p g = true
    · rw [if_pos hf]; exact push_ne r (p.join g)
    · rw [if_neg hf]; simp
theorem sum_nonneg : ∀ (st : List Gr), (∀ x ∈ st, okG x) → 0 ≤ sumC st
  | [], _ => Int.le_refl _
  | g :: r, h => by
    have h1 := (h g (List.mem_cons_self ..)).1
    have h2 := sum_nonneg r (fun y hy => h y (List.mem_cons_of_mem _ hy))
    show 0 ≤ g.ca + sumC r
    omega
theorem sum_mem : ∀ (st : List Gr), (∀ x ∈ st, okG x) → ∀ x ∈ st, x.ca ≤ sumC st
  | [], _, x, hx => by simp at hx
  | g :: r, h, x, hx => by
    have h1 := (h g (List.mem_cons_self ..)).1
    have h2 := sum_nonneg r (fun y hy => h y (List.mem_cons_of_mem _ hy))
    show x.ca ≤ g.ca + sumC r
    rcases List.mem_cons.1 hx with rfl | hx
    · omega
    · have := sum_mem r (fun y hy => h y (List.mem_cons_of_mem _ hy)) x hx
      omega
theorem flat_mem : ∀ (st : List Gr), ∀ x ∈ st, x.cs.length ≤ (flatC st).length
  | [], x, hx => by simp at hx
  | g :: r, x, hx => by
    show x.cs.length ≤ (flatC r ++ g.cs).length
    rw [List.length_append]
    rcases List.mem_cons.1 hx with rfl | hx
    · omega
    · have := flat_mem r x hx
      omega
theorem flat_in : ∀ (st : List Gr), ∀ x ∈ st, ∀ z ∈ x.cs, z ∈ flatC st
  | [], x, hx, z, hz => by simp at hx
  | g :: r, x, hx, z, hz => by
    show z ∈ flatC r ++ g.cs
    rcases List.mem_cons.1 hx with rfl | hx
    · exact List.mem_append_right _ hz
    · exact List.mem_append_left _ (flat_in r x hx z hz)
/-- the classes with cases among the first k -/
def usedC (l : List Int) (k : Nat) : List Int := ((List.range k).filter fun i => !(l.getD i 0 == 0)).map fun (i : Nat) => (i : Int)
theorem used_step (l : List Int) (k : Nat) : usedC l (k + 1) = if l.getD k 0 = 0 then usedC l k else usedC l k ++ [(k : Int)] := by
  unfold usedC
  rw [List.range_succ, List.filter_append, List.map_append]
  by_cases h : l.getD k 0 = 0
  · rw [if_pos h]
    have e : List.filter (fun i => !(l.getD i 0 == 0)) [k] = [] := by rw [List.filter_cons, if_neg (by rw [h]; decide)]; rfl
    rw [e]; simp
  · rw [if_neg h]
    have e : List.filter (fun i => !(l.getD i 0 == 0)) [k] = [k] := by rw [List.filter_cons, if_pos (by simpa using h)]; rfl
    rw [e]; rfl
theorem cal_flat (l r : List Int) : ∀ k, flatC (calG l r k) = usedC l k
  | 0 => rfl
  | k + 1 => by
    rw [used_step]
    unfold calG
    by_cases h : l.getD k 0 = 0
    · rw [if_pos h, if_pos h, cal_flat l r k]
    · rw [if_neg h, if_neg h, push_flat, cal_flat l r k]; rfl
theorem used_len (l : List Int) (k : Nat) : (usedC l k).length ≤ k := by
  unfold usedC
  rw [List.length_map]
  exact Nat.le_trans (List.length_filter_le ..) (by simp)
theorem used_mem {l : List Int} {k : Nat} {z : Int} (h : z ∈ usedC l k) : 0 ≤ z ∧ z < (k : Int) ∧ l.getD z.toNat 0 ≠ 0 := by
  unfold usedC at h
  rw [List.mem_map] at h
  obtain ⟨i, hi, rfl⟩ := h
  rw [List.mem_filter, List.mem_range] at hi
  refine ⟨by omega, by omega, ?_⟩
  rw [Int.toNat_natCast]
  simpa using hi.2
theorem used_asc (l : List Int) : ∀ k, (usedC l k).Pairwise (· < ·)
  | 0 => List.Pairwise.nil
  | k + 1 => by
    rw [used_step]
    by_cases h : l.getD k 0 = 0
    · rw [if_pos h]; exact used_asc l k
    · rw [if_neg h, List.pairwise_append]
      refine ⟨used_asc l k, List.pairwise_singleton _ _, fun a ha b hb => ?_⟩
      rw [List.mem_singleton] at hb
      subst hb
      exact (used_mem ha).2.1
theorem one_ok {l r : List Int} {k : Nat} (h : tlB l r = true) (hk : k < 11) (h0 : l.getD k 0 ≠ 0) : okG (oneG l r k) ∧ (oneG l r k).ca ≤ 1000 := by
  obtain ⟨h1, h2⟩ := tl_len h
  have hc := tl_at h (k := k) (by omega) (by omega)
  rw [← getD_at l (by omega), ← getD_at r (by omega)] at hc
  unfold caseB at hc
  simp only [Bool.and_eq_true, decide_eq_true_eq] at hc
  unfold oneG okG
  refine ⟨⟨?_, ?_, ?_, by simp⟩, ?_⟩ <;> simp only <;> omega
theorem cal_ok {l r : List Int} (h : tlB l r = true) : ∀ k, k ≤ 11 → (∀ x ∈ calG l r k, okG x) ∧ sumC (calG l r k) ≤ 1000 * (k : Int)
  | 0, _ => ⟨fun x hx => by simp [calG] at hx, by simp [calG, sumC]⟩
  | k + 1, hk => by
    obtain ⟨i1, i2⟩ := cal_ok h k (by omega)
    unfold calG
    by_cases h0 : l.getD k 0 = 0
    · rw [if_pos h0]; exact ⟨i1, by omega⟩
    · rw [if_neg h0]
      obtain ⟨o1, o2⟩ := one_ok h (by omega) h0
      exact ⟨push_ok _ _ i1 o1, by rw [push_sum]; omega⟩
theorem cal_len (l r : List Int) : ∀ k, (calG l r k).length ≤ k
  | 0 => by simp [calG]
  | k + 1 => by
    have := cal_len l r k
    unfold calG
    by_cases h0 : l.getD k 0 = 0
    · rw [if_pos h0]; omega
    · rw [if_neg h0]
      have := push_len (calG l r k) (oneG l r k)
      omega
/-- no two neighbors fall -/
def upG : List Gr → Prop
  | [] => True
  | [_] => True
  | g :: p :: r => fallB p g = false ∧ upG (p :: r)
theorem push_up : ∀ (st : List Gr) (g : Gr), upG st → upG (pushG st g)
  | [], g, _ => trivial
  | p :: r, g, h => by
    unfold pushG
    by_cases hf : fallB p g = true
    · rw [if_pos hf]
      refine push_up r (p.join g) ?_
      cases r with
      | nil => trivial
      | cons q r => exact h.2
    · rw [if_neg hf]
      exact ⟨by simpa using hf, h⟩
theorem cal_up (l r : List Int) : ∀ k, upG (calG l r k)
  | 0 => trivial
  | k + 1 => by
    unfold calG
    by_cases h0 : l.getD k 0 = 0
    · rw [if_pos h0]; exact cal_up l r k
    · rw [if_neg h0]; exact push_up _ _ (cal_up l r k)
/-- reduced fractions -/
theorem gcdZ_ge {a b : Int} (hb : 0 < b) : 0 < gcdZ a b := by
  unfold gcdZ
  have : 0 < Nat.gcd a.toNat b.toNat := Nat.gcd_pos_of_pos_right _ (by omega)
  omega
theorem gcdZ_dvd1 {a b : Int} (ha : 0 ≤ a) : gcdZ a b ∣ a := by
  unfold gcdZ
  obtain ⟨x, rfl⟩ := Int.eq_ofNat_of_zero_le ha
  rw [Int.toNat_natCast]
  exact Int.natCast_dvd_natCast.2 (Nat.gcd_dvd_left _ _)
theorem gcdZ_dvd2 {a b : Int} (hb : 0 ≤ b) : gcdZ a b ∣ b := by
  unfold gcdZ
  obtain ⟨x, rfl⟩ := Int.eq_ofNat_of_zero_le hb
  rw [Int.toNat_natCast]
  exact Int.natCast_dvd_natCast.2 (Nat.gcd_dvd_right _ _)
theorem red_mul1 {a b : Int} (ha : 0 ≤ a) : redN a b * gcdZ a b = a := Int.ediv_mul_cancel (gcdZ_dvd1 ha)
theorem red_mul2 {a b : Int} (hb : 0 ≤ b) : redD a b * gcdZ a b = b := Int.ediv_mul_cancel (gcdZ_dvd2 hb)
theorem red_pos {a b : Int} (hb : 0 < b) : 0 < redD a b := by
  have h1 := red_mul2 (a := a) (b := b) (by omega)
  have h2 := gcdZ_ge (a := a) hb
  rcases Int.lt_or_le 0 (redD a b) with h | h
  · exact h
  · have := Int.mul_le_mul_of_nonneg_right h (show 0 ≤ gcdZ a b by omega)
    omega
theorem red_nonneg {a b : Int} (ha : 0 ≤ a) (hb : 0 < b) : 0 ≤ redN a b := Int.ediv_nonneg ha (by have := gcdZ_ge (a := a) hb; omega)
theorem red_le {a b : Int} (ha : 0 ≤ a) (hb : 0 < b) (hab : a ≤ b) : redN a b ≤ redD a b := Int.ediv_le_ediv (gcdZ_ge hb) hab
theorem red_small {a b : Int} (hb : 0 < b) : redD a b ≤ b := Int.ediv_le_self _ (by omega)
theorem red_one {a b : Int} (ha : 0 ≤ a) (hb : 0 < b) : gcdZ (redN a b) (redD a b) = 1 := by
  obtain ⟨x, rfl⟩ := Int.eq_ofNat_of_zero_le ha
  obtain ⟨y, rfl⟩ := Int.eq_ofNat_of_zero_le (show 0 ≤ b by omega)
  unfold redN redD gcdZ
  simp only [Int.toNat_natCast]
  rw [← Int.natCast_ediv, ← Int.natCast_ediv, Int.toNat_natCast, Int.toNat_natCast]
  have hp : 0 < Nat.gcd x y := Nat.gcd_pos_of_pos_right _ (by omega)
  rw [Nat.gcd_div (Nat.gcd_dvd_left _ _) (Nat.gcd_dvd_right _ _), Nat.div_self hp]
  rfl
/-- a reduced fraction is a share -/
theorem red_share {a b : Int} (ha : 0 ≤ a) (hb : 0 < b) (hab : a ≤ b) (hm : b ≤ 1000000) : shB (redN a b) (redD a b) = true := by
  unfold shB denB numB
  have h1 := red_pos (a := a) hb
  have h2 := red_small (a := a) hb
  have h3 := red_nonneg ha hb
  have h4 := red_le ha hb hab
  rw [red_one ha hb]
  simp
  omega
/-- less, by the products -/
theorem red_less {a b c d : Int} (ha : 0 ≤ a) (hb : 0 < b) (hc : 0 ≤ c) (hd : 0 < d) : redN a b * redD c d < redN c d * redD a b ↔ a * d < c * b := by
  have g1 := gcdZ_ge (a := a) hb
  have g2 := gcdZ_ge (a := c) hd
  have m1 := red_mul1 (b := b) ha
  have m2 := red_mul2 (a := a) (b := b) (by omega)
  have m3 := red_mul1 (b := d) hc
  have m4 := red_mul2 (a := c) (b := d) (by omega)
  generalize redN a b = n1 at *
  generalize redD a b = d1 at *
  generalize redN c d = n2 at *
  generalize redD c d = d2 at *
  generalize gcdZ a b = x at *
  generalize gcdZ c d = y at *
  have e1 : a * d = n1 * d2 * (x * y) := by rw [← m1, ← m4]; ac_rfl
  have e2 : c * b = n2 * d1 * (x * y) := by rw [← m3, ← m2]; ac_rfl
  have hxy : 0 < x * y := Int.mul_pos g1 g2
  rw [e1, e2]
  constructor
  · intro h; exact Int.mul_lt_mul_of_pos_right h hxy
  · intro h; exact Int.lt_of_mul_lt_mul_right h (Int.le_of_lt hxy)
theorem red_same {a b c d : Int} (ha : 0 ≤ a) (hb : 0 < b) (hc : 0 ≤ c) (hd : 0 < d) : (redN a b = redN c d ∧ redD a b = redD c d) ↔ a * d = c * b := by
  constructor
  · rintro ⟨h1, h2⟩
    have m1 := red_mul1 (b := b) ha
    have m2 := red_mul2 (a := a) (b := b) (by omega)
    have m3 := red_mul1 (b := d) hc
    have m4 := red_mul2 (a := c) (b := d) (by omega)
    rw [h1] at m1
    rw [h2] at m2
    generalize redN c d = n2 at *
    generalize redD c d = d2 at *
    generalize gcdZ a b = p at *
    generalize gcdZ c d = q at *
    rw [← m1, ← m2, ← m3, ← m4]
    ac_rfl
  · intro h
    have hl1 : ¬ (a * d < c * b) := by omega
    have hl2 : ¬ (c * b < a * d) := by omega
    rw [← red_less ha hb hc hd] at hl1
    rw [← red_less hc hd ha hb] at hl2
    have he : redN a b * redD c d = redN c d * redD a b := by omega
    have p1 := red_pos (a := a) hb
    have p2 := red_pos (a := c) hd
    have n1 := red_nonneg ha hb
    have n2 := red_nonneg hc hd
    have o1 := red_one ha hb
    have o2 := red_one hc hd
    generalize redN a b = x at *
    generalize redD a b = y at *
    generalize redN c d = u at *
    generalize redD c d = v at *
    obtain ⟨x, rfl⟩ := Int.eq_ofNat_of_zero_le n1
    obtain ⟨y, rfl⟩ := Int.eq_ofNat_of_zero_le (show 0 ≤ y by omega)
    obtain ⟨u, rfl⟩ := Int.eq_ofNat_of_zero_le n2
    obtain ⟨v, rfl⟩ := Int.eq_ofNat_of_zero_le (show 0 ≤ v by omega)
    unfold gcdZ at o1 o2
    simp only [Int.toNat_natCast] at o1 o2
    have o1 : Nat.Coprime x y := by unfold Nat.Coprime; omega
    have o2 : Nat.Coprime u v := by unfold Nat.Coprime; omega
    have he : x * v = u * y := by exact_mod_cast he
    have hyv : y ∣ v := o1.symm.dvd_of_dvd_mul_left ⟨u, by rw [he, Nat.mul_comm]⟩
    have hvy : v ∣ y := o2.symm.dvd_of_dvd_mul_left ⟨x, by rw [← he, Nat.mul_comm]⟩
    have e := Nat.dvd_antisymm hyv hvy
    subst e
    have : x = u := Nat.eq_of_mul_eq_mul_right (by omega) he
    subst this
    exact ⟨rfl, rfl⟩
end Go.Proofs.Ytjpiiidjocilcaa
