/- Plain mathematics of RegridTotal. -/
import Derived.Test.YtccplndimdmjpaaDoorRgMath
import Derived.Test.YtccplndimdmjpaaDoorSpMath
import Derived.Test.YtccplndimdmjpaaDoorAlgMath
import Derived.Test.YtccplndimdmjpaaDoorTotMath
namespace Go.Proofs.YtccplndimdmjpaaDoor
set_option linter.unusedVariables false
theorem ovB_nat {a c i k : Nat} (a1 : 1 ≤ a) (a8 : a ≤ 8) (c1 : 1 ≤ c) (c8 : c ≤ 8) (hi : i < a) (hk : k < c) : ovB a c i k = true := by
  unfold ovB
  rw [shapeB_iff.2 (by omega), inB_iff.2 (by omega)]
  rfl
theorem ovl_bd {a c i k : Nat} (hi : i < a) (a8 : a ≤ 8) (c8 : c ≤ 8) : 0 ≤ ovl a c i k ∧ ovl a c i k ≤ 8 := by
  have h12 : ((i : Int) + 1) * (c : Int) = (i : Int) * c + c := by rw [Int.add_mul, Int.one_mul]
  unfold ovl
  rw [h12]
  generalize (i : Int) * c = x at *
  generalize (k : Int) * a = y at *
  omega
/-- some column has a unit in common -/
theorem ovl_some {a c i : Nat} (hi : i < a) (c1 : 1 ≤ c) : ∃ k, k < c ∧ 1 ≤ ovl a c i k := by
  have ha : 0 < a := by omega
  refine ⟨i * c / a, ?_, ?_⟩
  · rw [Nat.div_lt_iff_lt_mul ha]
    have := Nat.mul_le_mul_right c (show i + 1 ≤ a by omega)
    rw [Nat.add_mul, Nat.one_mul, Nat.mul_comm a c] at this
    omega
  · have h1 : i * c / a * a ≤ i * c := Nat.div_mul_le_self _ _
    have h2 : i * c < (i * c / a + 1) * a := by
      have := Nat.div_add_mod (i * c) a
      have h3 := Nat.mod_lt (i * c) ha
      rw [Nat.add_mul, Nat.one_mul, Nat.mul_comm (i * c / a)]
      omega
    generalize i * c / a = u at *
    have e1 : (i : Int) * (c : Int) = ((i * c : Nat) : Int) := by push_cast; rfl
    have e2 : (u : Int) * (a : Int) = ((u * a : Nat) : Int) := by push_cast; rfl
    have e3 : ((u : Int) + 1) * (a : Int) = (((u + 1) * a : Nat) : Int) := by push_cast; rfl
    have e4 : ((i : Int) + 1) * (c : Int) = ((i * c : Nat) : Int) + c := by rw [Int.add_mul, Int.one_mul, e1]
    unfold ovl
    rw [e1, e2, e3, e4]
    omega
/-- the overlaps of a cell with all cells of the new grid -/
def ovW (W H P Q i : Nat) : List Int := (List.range (P * Q)).map fun k => ovl W P (i % W : Nat) (k % P : Nat) * ovl H Q (i / W : Nat) (k / P : Nat)
theorem ovW_len (W H P Q i : Nat) : (ovW W H P Q i).length = P * Q := by simp [ovW]
theorem ovW_get (W H P Q i k : Nat) (h : k < (ovW W H P Q i).length) : (ovW W H P Q i)[k] = ovl W P (i % W : Nat) (k % P : Nat) * ovl H Q (i / W : Nat) (k / P : Nat) := by simp [ovW]
theorem tot_mem {l : List Int} (h : ∀ z ∈ l, 0 ≤ z) {x : Int} (hx : x ∈ l) : x ≤ tot l := by
  induction l with
  | nil => simp at hx
  | cons y r ih =>
    have h1 := h y (by simp)
    have h2 := tot_nonneg (fun z hz => h z (by simp [hz]) : ∀ z ∈ r, 0 ≤ z)
    simp only [tot]
    rcases List.mem_cons.1 hx with rfl | hx
    · omega
    · have := ih (fun z hz => h z (by simp [hz])) hx; omega
theorem ovW_bd {W H P Q i : Nat} (w1 : 1 ≤ W) (w8 : W ≤ 8) (h8 : H ≤ 8) (p8 : P ≤ 8) (q8 : Q ≤ 8) (hi : i < W * H) : ∀ x ∈ ovW W H P Q i, 0 ≤ x ∧ x ≤ 64 := by
  intro x hx
  obtain ⟨k, hk, rfl⟩ := List.mem_map.1 hx
  have hy : i / W < H := by rw [Nat.div_lt_iff_lt_mul (by omega), Nat.mul_comm]; exact hi
  have b1 := ovl_bd (k := k % P) (Nat.mod_lt i (by omega : W > 0)) w8 p8
  have b2 := ovl_bd (k := k / P) hy h8 q8
  have := Int.mul_nonneg b1.1 b2.1
  have := Int.mul_le_mul b1.2 b2.2 b2.1 (by omega)
  omega
theorem ovW_ok {W H P Q i : Nat} (w1 : 1 ≤ W) (w8 : W ≤ 8) (h8 : H ≤ 8) (p1 : 1 ≤ P) (p8 : P ≤ 8) (q1 : 1 ≤ Q) (q8 : Q ≤ 8) (hi : i < W * H) {v : Int} (v1 : -9000 ≤ v) (v2 : v ≤ 9000) : spB v (ovW W H P Q i) = true := by
  have hbd := ovW_bd w1 w8 h8 p8 q8 hi
  have hy : i / W < H := by rw [Nat.div_lt_iff_lt_mul (by omega), Nat.mul_comm]; exact hi
  have hx : i % W < W := Nat.mod_lt i (by omega)
  have hP : 1 ≤ P * Q := Nat.mul_le_mul p1 q1
  have hP8 : P * Q ≤ 64 := Nat.mul_le_mul p8 q8
  refine spB_iff.2 ⟨⟨v1, v2⟩, by rw [ovW_len]; omega, hbd, ?_⟩
  obtain ⟨u, hu, o1⟩ := ovl_some hx p1
  obtain ⟨t, ht, o2⟩ := ovl_some hy q1
  have hk : t * P + u < P * Q := by
    have := Nat.mul_le_mul_right P (show t + 1 ≤ Q by omega)
    rw [Nat.add_mul, Nat.one_mul] at this
    rw [Nat.mul_comm P Q]; omega
  have hm := tot_mem (fun z hz => (hbd z hz).1) (List.getElem_mem (show t * P + u < (ovW W H P Q i).length by rw [ovW_len]; exact hk))
  rw [ovW_get] at hm
  have e1 : (t * P + u) % P = u := by rw [Nat.add_comm, Nat.add_mul_mod_self_right, Nat.mod_eq_of_lt hu]
  have e2 : (t * P + u) / P = t := by rw [Nat.add_comm, Nat.add_mul_div_right _ _ (by omega), Nat.div_eq_of_lt hu, Nat.zero_add]
  rw [e1, e2] at hm
  have := Int.mul_le_mul o1 o2 (by omega) (by omega)
  omega
/-- the parts of one cell, added -/
def addL (S T : List Int) : List Int := zipR (fun x y => x + y) S T
theorem addL_len {S T : List Int} (h : S.length = T.length) : (addL S T).length = S.length := zipR_len _ h
def partsOf (W H P Q : Nat) (l : List Int) (k : Nat) : List Int := splitD (l.getD k 0) (tot (ovW W H P Q k)) (ovW W H P Q k)
theorem partsOf_len (W H P Q : Nat) (l : List Int) (k : Nat) : (partsOf W H P Q l k).length = P * Q := by unfold partsOf; rw [splitD_len, ovW_len]
def regK (W H P Q : Nat) (l : List Int) : Nat → List Int
  | 0 => List.replicate (P * Q) 0
  | k + 1 => addL (regK W H P Q l k) (partsOf W H P Q l k)
theorem regK_len (W H P Q : Nat) (l : List Int) : ∀ k, (regK W H P Q l k).length = P * Q
  | 0 => by simp [regK]
  | k + 1 => by
    rw [regK, addL_len (by rw [regK_len W H P Q l k, partsOf_len])]
    exact regK_len W H P Q l k
theorem quotR_bd {p S : Int} (hS : 0 < S) (h1 : -576000 ≤ p) (h2 : p ≤ 576000) : -576000 ≤ p / S ∧ p / S ≤ 576000 := by
  have e1 := Int.emod_add_mul_ediv p S
  have e2 := Int.emod_nonneg p (by omega : S ≠ 0)
  refine ⟨Int.le_ediv_of_mul_le hS (by omega), ?_⟩
  have := Int.ediv_lt_of_lt_mul hS (show p < 576001 * S by omega)
  omega
theorem splitD_bd {v S : Int} {ws : List Int} (v1 : -9000 ≤ v) (v2 : v ≤ 9000) (hS : 0 < S) (hw : ∀ x ∈ ws, 0 ≤ x ∧ x ≤ 64) (hn : ws.length ≤ 64) (ht : tot ws = S) : ∀ z ∈ splitD v S ws, -576100 ≤ z ∧ z ≤ 576100 := by
  intro z hz
  obtain ⟨l1, l2⟩ := left_bd (v := v) hS ht
  have hc := cntP_le (restsD v S ws)
  rw [show (restsD v S ws).length = ws.length by simp [restsD]] at hc
  have := adds_bd (P := partsD v S ws) (R := restsD v S ws) (m := 576000) (fun y hy => by
    obtain ⟨x, hx, rfl⟩ := List.mem_map.1 hy
    have hx9 := hw x hx
    have a1 := Int.mul_le_mul_of_nonneg_right v2 hx9.1
    have a2 := Int.mul_le_mul_of_nonneg_right v1 hx9.1
    exact quotR_bd hS (by omega) (by omega)) _ z hz
  omega
theorem partsOf_bd {W H P Q : Nat} {l : List Int} (w1 : 1 ≤ W) (w8 : W ≤ 8) (h8 : H ≤ 8) (p1 : 1 ≤ P) (p8 : P ≤ 8) (q1 : 1 ≤ Q) (q8 : Q ≤ 8) (hl : ∀ z ∈ l, -9000 ≤ z ∧ z ≤ 9000) {k : Nat} (hk : k < W * H) : ∀ z ∈ partsOf W H P Q l k, -576100 ≤ z ∧ z ≤ 576100 := by
  have hv : -9000 ≤ l.getD k 0 ∧ l.getD k 0 ≤ 9000 := by
    rcases Nat.lt_or_ge k l.length with h | h
    · rw [gd_at h]; exact hl _ (List.getElem_mem h)
    · rw [gd_out h]; omega
  have hok := spB_iff.1 (ovW_ok w1 w8 h8 p1 p8 q1 q8 hk hv.1 hv.2)
  exact splitD_bd hv.1 hv.2 hok.2.2.2 hok.2.2.1 hok.2.1.2 rfl
theorem zipR_bd {S T : List Int} {m n : Int} (hS : ∀ z ∈ S, -m ≤ z ∧ z ≤ m) (hT : ∀ z ∈ T, -n ≤ z ∧ z ≤ n) : ∀ z ∈ addL S T, -(m + n) ≤ z ∧ z ≤ m + n := by
  intro z hz
  unfold addL zipR at hz
  obtain ⟨i, hi, rfl⟩ := List.getElem_of_mem hz
  rw [List.getElem_zipWith]
  rw [List.length_zipWith] at hi
  have := hS _ (List.getElem_mem (show i < S.length by omega))
  have := hT _ (List.getElem_mem (show i < T.length by omega))
  omega
theorem regK_bd {W H P Q : Nat} {l : List Int} (w1 : 1 ≤ W) (w8 : W ≤ 8) (h8 : H ≤ 8) (p1 : 1 ≤ P) (p8 : P ≤ 8) (q1 : 1 ≤ Q) (q8 : Q ≤ 8) (hl : ∀ z ∈ l, -9000 ≤ z ∧ z ≤ 9000) : ∀ k, k ≤ W * H → ∀ z ∈ regK W H P Q l k, -(576100 * (k : Int)) ≤ z ∧ z ≤ 576100 * (k : Int)
  | 0, _ => fun z hz => by rw [regK] at hz; obtain ⟨_, rfl⟩ := List.mem_replicate.1 hz; omega
  | k + 1, hk => fun z hz => by
    have ih := regK_bd w1 w8 h8 p1 p8 q1 q8 hl k (by omega)
    have hp := partsOf_bd w1 w8 h8 p1 p8 q1 q8 hl (k := k) (by omega)
    rw [regK] at hz
    have := zipR_bd ih hp z hz
    push_cast
    omega
def regB (wd hg : Int) (l : List Int) (p q : Int) : Bool := fullB wd hg l && shapeB p q
def regR (wd hg : Int) (l : List Int) (p q : Int) : Option (Int × Int × List Int) :=
  if regB wd hg l p q = true then wholeR p q (regK wd.toNat hg.toNat p.toNat q.toNat l (wd.toNat * hg.toNat)) else none
theorem regR_yes {wd hg : Int} {l : List Int} {p q : Int} (h : regB wd hg l p q = true) : regR wd hg l p q = wholeR p q (regK wd.toNat hg.toNat p.toNat q.toNat l (wd.toNat * hg.toNat)) := if_pos h
theorem regR_no {wd hg : Int} {l : List Int} {p q : Int} (h : regB wd hg l p q = false) : regR wd hg l p q = none := if_neg (by rw [h]; simp)
theorem regR_len (wd hg : Int) (l : List Int) (p q : Int) : (rL (regR wd hg l p q)).length ≤ 64 := by
  cases h : regB wd hg l p q with
  | false => rw [regR_no h]; simp [rL]
  | true => rw [regR_yes h]; exact wholeR_len _ _ _
theorem reg_nat {wd hg : Int} {l : List Int} {p q : Int} (h : regB wd hg l p q = true) : ∃ W H P Q : Nat, wd = (W : Int) ∧ hg = (H : Int) ∧ p = (P : Int) ∧ q = (Q : Int) ∧
    1 ≤ W ∧ W ≤ 8 ∧ 1 ≤ H ∧ H ≤ 8 ∧ 1 ≤ P ∧ P ≤ 8 ∧ 1 ≤ Q ∧ Q ≤ 8 ∧ l.length = W * H := by
  unfold regB at h
  simp only [Bool.and_eq_true] at h
  obtain ⟨W, H, rfl, rfl, w1, w2, w3, w4, hl⟩ := good_nat (full_good h.1)
  obtain ⟨⟨b1, b2⟩, b3, b4⟩ := shapeB_iff.1 h.2
  exact ⟨W, H, p.toNat, q.toNat, rfl, rfl, by omega, by omega, w1, w2, w3, w4, by omega, by omega, by omega, by omega, hl⟩
end Go.Proofs.YtccplndimdmjpaaDoor
