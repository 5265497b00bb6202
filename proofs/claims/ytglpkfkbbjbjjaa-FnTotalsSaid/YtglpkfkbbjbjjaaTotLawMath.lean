/- Plain mathematics of FnTotals: the last cell of a part; the total between the range times the number. -/
import Derived.Test.YtglpkfkbbjbjjaaSubMath
import Derived.Test.YtglpkfkbbjbjjaaCell
import Derived.Test.YtglpkfkbbjbjjaaRange
import Derived.Test.YtglpkfkbbjbjjaaTotMath
namespace Go.Proofs.Ytglpkfkbbjbjjaa
theorem sub_part {wd hg : Int} {l : List Int} {x y p q : Int} (h : subOk wd hg l x y p q = true) :
    cellOk p q (subRows l wd.toNat x.toNat y.toNat p.toNat q.toNat).flatten (p - 1) (q - 1) = true ∧ cellOk wd hg l (x + p - 1) (y + q - 1) = true ∧
    cellN p q (subRows l wd.toNat x.toNat y.toNat p.toNat q.toNat).flatten (p - 1) (q - 1) = cellN wd hg l (x + p - 1) (y + q - 1) := by
  obtain ⟨g1, g2, g3, g4⟩ := subOk_parts h
  have hok : cellOk wd hg l (x + p - 1) (y + q - 1) = true := by unfold cellOk; rw [g1, g4]; rfl
  have hcell := good_cell g1
  have hpl := place_lt g1 g4
  obtain ⟨W, H, X, Y, P, Q, rfl, rfl, rfl, rfl, rfl, rfl, h1, h2, h3, h4, h5, h6, h7, h8, h9, h10, hl⟩ := sub_nat h
  simp only [Int.toNat_natCast]
  have hQ : (Q - 1) + 1 = Q := by omega
  have hP : (P - 1) + 1 = P := by omega
  have hfit := sub_fits (v := Q - 1) h9 h10 (by omega) hl
  have e1 : (subRows l W X Y P Q).flatten = laidS l W X Y P Q (Q - 1) (P - 1) ++ [l[(Y + (Q - 1)) * W + X + (P - 1)]'(by omega)] := by
    rw [← laidS_all, ← laidS_cell (by omega), hP, laidS_row (by omega), hQ]
  have hlen := laidS_length (v := Q - 1) (u := P - 1) h9 h10 hl (by omega) (by omega)
  have hflen : (subRows l W X Y P Q).flatten.length = P * Q := by rw [flat_len (subRows_each h9 h10 hl), subRows_length, Nat.mul_comm]
  have hgood : goodB (P : Int) (Q : Int) (subRows l W X Y P Q).flatten = true := by
    refine good_yes g3 (by rw [hflen]; push_cast; rfl) (fun k hk => ?_)
    have hm := List.getElem_mem hk
    obtain ⟨r, hr, hx⟩ := List.mem_flatten.1 hm
    obtain ⟨v, hv, rfl⟩ := List.mem_map.1 hr
    exact hcell _ (List.mem_of_mem_drop (List.mem_of_mem_take hx))
  have hin : inB (P : Int) (Q : Int) ((P : Int) - 1) ((Q : Int) - 1) = true := inB_iff.2 ⟨⟨by omega, by omega⟩, by omega, by omega⟩
  have hok2 : cellOk (P : Int) (Q : Int) (subRows l W X Y P Q).flatten ((P : Int) - 1) ((Q : Int) - 1) = true := by unfold cellOk; rw [hgood, hin]; rfl
  refine ⟨hok2, hok, ?_⟩
  have hpl2 := place_lt hgood hin
  rw [cellN_yes hok2 hpl2, cellN_yes hok hpl]
  have p1 : place (P : Int) ((P : Int) - 1) ((Q : Int) - 1) = (Q - 1) * P + (P - 1) := by
    unfold place
    have : ((Q : Int) - 1) * (P : Int) + ((P : Int) - 1) = (((Q - 1) * P + (P - 1) : Nat) : Int) := by
      rw [show (Q : Int) - 1 = ((Q - 1 : Nat) : Int) by omega, show (P : Int) - 1 = ((P - 1 : Nat) : Int) by omega]
      simp only [Int.natCast_add, Int.natCast_mul]
    rw [this, Int.toNat_natCast]
  have p2 : place (W : Int) ((X : Int) + (P : Int) - 1) ((Y : Int) + (Q : Int) - 1) = (Y + (Q - 1)) * W + X + (P - 1) := by
    unfold place
    have : ((Y : Int) + (Q : Int) - 1) * (W : Int) + ((X : Int) + (P : Int) - 1) = (((Y + (Q - 1)) * W + X + (P - 1) : Nat) : Int) := by
      rw [show (Y : Int) + (Q : Int) - 1 = ((Y + (Q - 1) : Nat) : Int) by omega, show (X : Int) + (P : Int) - 1 = ((X : Nat) : Int) + ((P - 1 : Nat) : Int) by omega]
      simp only [Int.natCast_add, Int.natCast_mul]
      omega
    rw [this, Int.toNat_natCast]
  have key : ∀ (a b : List Int) (i : Nat) (hi : i < a.length) (z : Int), a = b ++ [z] → i = b.length → a[i] = z := by
    intro a b i hi z e hb
    subst e hb
    simp
  rw [key _ _ _ hpl2 _ e1 (by rw [p1, hlen])]
  congr 1
  exact p2.symm
/-- the numbers of a field with values -/
theorem rng_bd {wd hg : Int} {l : List Int} (h : goodB wd hg l = true) (hv : anyB (vals l) = true) :
    ∃ n : Nat, 1 ≤ n ∧ n ≤ 64 ∧ (l.length : Int) - misN wd hg l = (n : Int) ∧ 0 ≤ misN wd hg l ∧ misN wd hg l ≤ 64 ∧ (-9000 ≤ rngLo wd hg l ∧ rngLo wd hg l ≤ 9000) ∧ (-9000 ≤ rngHi wd hg l ∧ rngHi wd hg l ≤ 9000) ∧
      rngLo wd hg l * (n : Int) ≤ totN wd hg l ∧ totN wd hg l ≤ rngHi wd hg l * (n : Int) ∧ -640000 ≤ rngLo wd hg l * (n : Int) ∧ rngHi wd hg l * (n : Int) ≤ 640000 ∧ rngLo wd hg l * (n : Int) ≤ 640000 ∧ -640000 ≤ rngHi wd hg l * (n : Int) := by
  have hne := anyB_yes hv
  have h64 := good_le h
  have hvl := vals_le l
  have hv1 : 1 ≤ (vals l).length := by
    cases hh : vals l with
    | nil => exact absurd hh hne
    | cons x r => simp
  obtain ⟨-, elo, ehi⟩ := rng_yes h
  have ht := tot_between (vals l)
  have hbd : ∀ v ∈ vals l, -9000 ≤ v ∧ v ≤ 9000 := by
    intro v hv
    obtain ⟨m1, m2⟩ := vals_mem hv
    rcases cellB_iff.1 (good_cell h v m1) with e | e
    · exact absurd e m2
    · exact e
  have hlo : -9000 ≤ loV (vals l) ∧ loV (vals l) ≤ 9000 ∧ -9000 ≤ hiV (vals l) ∧ hiV (vals l) ≤ 9000 := by
    cases hh : vals l with
    | nil => exact absurd hh hne
    | cons x r =>
      rw [hh] at hbd
      have hx := hbd x (by simp)
      have h1 := loV_le (l := x :: r) (v := x) (by simp)
      have h2 := hiV_ge (l := x :: r) (v := x) (by simp)
      refine ⟨?_, by omega, by omega, ?_⟩
      · have : ∀ (r : List Int) (x : Int), -9000 ≤ x → (∀ v ∈ r, -9000 ≤ v) → -9000 ≤ r.foldl (fun a b => if b < a then b else a) x := by
          intro r
          induction r with
          | nil => intro x hx _; exact hx
          | cons y s ih =>
            intro x hx hr
            rw [List.foldl_cons]
            refine ih _ ?_ (fun v hv => hr v (by simp [hv]))
            have := hr y (by simp)
            split <;> omega
        exact this r x hx.1 (fun v hv => (hbd v (by simp [hv])).1)
      · have : ∀ (r : List Int) (x : Int), x ≤ 9000 → (∀ v ∈ r, v ≤ 9000) → r.foldl (fun a b => if a < b then b else a) x ≤ 9000 := by
          intro r
          induction r with
          | nil => intro x hx _; exact hx
          | cons y s ih =>
            intro x hx hr
            rw [List.foldl_cons]
            refine ih _ ?_ (fun v hv => hr v (by simp [hv]))
            have := hr y (by simp)
            split <;> omega
        exact this r x hx.2 (fun v hv => (hbd v (by simp [hv])).2)
  have mulb : ∀ (z : Int) (n : Nat), n ≤ 64 → -9000 ≤ z → z ≤ 9000 → -640000 ≤ z * (n : Int) ∧ z * (n : Int) ≤ 640000 := by
    intro z n hn h1 h2
    have a1 : -9000 * (n : Int) ≤ z * (n : Int) := Int.mul_le_mul_of_nonneg_right h1 (by omega)
    have a2 : z * (n : Int) ≤ 9000 * (n : Int) := Int.mul_le_mul_of_nonneg_right h2 (by omega)
    omega
  have b1 := mulb (loV (vals l)) (vals l).length (by omega) hlo.1 hlo.2.1
  have b2 := mulb (hiV (vals l)) (vals l).length (by omega) hlo.2.2.1 hlo.2.2.2
  refine ⟨(vals l).length, hv1, by omega, ?_, ?_, ?_, ?_, ?_, ?_, ?_, ?_, ?_, ?_, ?_⟩
  · rw [misN_yes h]; unfold gone; omega
  · rw [misN_yes h]; exact (gone_bd l).1
  · rw [misN_yes h]; have := (gone_bd l).2; omega
  · rw [elo]; exact ⟨hlo.1, hlo.2.1⟩
  · rw [ehi]; exact ⟨hlo.2.2.1, hlo.2.2.2⟩
  · rw [elo, totN_yes h]; exact ht.1
  · rw [ehi, totN_yes h]; exact ht.2
  · rw [elo]; exact b1.1
  · rw [ehi]; exact b2.2
  · rw [elo]; exact b1.2
  · rw [ehi]; exact b2.1
theorem rng_none {wd hg : Int} {l : List Int} (h : goodB wd hg l = true) (hv : anyB (vals l) = false) : (l.length : Int) - misN wd hg l = 0 ∧ totN wd hg l = 0 ∧ misN wd hg l = (l.length : Int) := by
  have e := anyB_no hv
  rw [misN_yes h, totN_yes h]
  unfold gone
  rw [e]
  simp [tot]
end Go.Proofs.Ytglpkfkbbjbjjaa
