/- The walk of FnConversions. -/
import Derived.Test.YtnafnkilmiebiaaDoorDraw5
namespace Go.Proofs.YtnafnkilmiebiaaDoor
open Go.RowKit
set_option linter.unusedVariables false
theorem rdiv_mono {n m d : Int} (h : n ≤ m) (hd : 1 ≤ d) : rdiv n d ≤ rdiv m d := by
  by_cases h1 : n < 0
  · by_cases h2 : m < 0
    · rw [rdiv_neg h1, rdiv_neg h2]
      have := Int.ediv_le_ediv (c := 2 * d) (by omega) (show -2 * m + d ≤ -2 * n + d by omega)
      omega
    · rw [rdiv_neg h1, rdiv_pos h2]
      have a : 0 ≤ (-2 * n + d) / (2 * d) := Int.ediv_nonneg (by omega) (by omega)
      have b : 0 ≤ (2 * m + d) / (2 * d) := Int.ediv_nonneg (by omega) (by omega)
      omega
  · rw [rdiv_pos h1, rdiv_pos (by omega)]
    exact Int.ediv_le_ediv (by omega) (by omega)
theorem convOk_out {x f t : Int} (h : convOk x f t = true) : tenB x = true ∧ unitB f = true ∧ unitB t = true ∧ kindZ f = kindZ t := by
  unfold convOk at h
  simp at h
  exact ⟨h.1.1.1.1, h.1.1.1.2, h.1.1.2, h.1.2⟩
theorem conv_mono {x f t : Int} (h1 : convOk x f t = true) (h2 : convOk (x + 1) f t = true) : ¬ convN (x + 1) f t < convN x f t := by
  obtain ⟨a1, a2, a3, a4⟩ := convOk_out h1
  obtain ⟨p1, p2, _⟩ := part_bd a2 a1
  obtain ⟨q1, q2, _⟩ := part_bd a3 a1
  rw [show convN x f t = convZ x f t from if_pos h1, show convN (x + 1) f t = convZ (x + 1) f t from if_pos h2]
  unfold convZ
  have e : (x + 1) * partZ f = x * partZ f + partZ f := by rw [Int.add_mul, Int.one_mul]
  have := rdiv_mono (n := x * partZ f + zeroZ f - zeroZ t) (m := (x + 1) * partZ f + zeroZ f - zeroZ t) (d := partZ t) (by omega) (by omega)
  omega
theorem wt_swap {p a q b : Int} (h : wtB p a q b = true) : wtB q b p a = true := by
  unfold wtB at h ⊢
  rw [Bool.and_comm]; exact h
theorem wt_anti {p a q b : Int} (h1 : wtV p a q b = true) : wtV q b p a = false := by
  unfold wtV at h1 ⊢
  simp only [Bool.and_eq_true, decide_eq_true_eq] at h1
  rw [decide_eq_false (by omega)]; simp
theorem wt_conv {p a q b : Int} (h0 : wtB p a q b = true) (h1 : wtV p a q b = true) (h2 : convOk p a b = true) : ¬ convN p a b < q := by
  unfold wtB at h0
  simp only [Bool.and_eq_true] at h0
  obtain ⟨u1, k1, t1⟩ := qp_out h0.1
  obtain ⟨u2, k2, t2⟩ := qp_out h0.2
  unfold wtV at h1
  simp only [Bool.and_eq_true, decide_eq_true_eq] at h1
  have h3 := h1.2
  rw [show convN p a b = convZ p a b from if_pos h2]
  unfold convZ
  generalize p * partZ a + zeroZ a = n at *
  rcases unit_warm u2 k2 with rfl | rfl | rfl
  all_goals
    simp only [partZ, zeroZ] at *
    simp at h3
    unfold rdiv
    simp
    split <;> omega
theorem force_mono {p q : Int} (h : p ≤ q) (k : Nat) : forceZ p k ≤ forceZ q k := by
  induction k with
  | zero => exact Int.le_refl _
  | succ k ih =>
    by_cases h1 : 900 * speedL.getD k 0 ≤ p
    · rw [force_yes h1, force_yes (show 900 * speedL.getD k 0 ≤ q by omega)]
      exact Int.le_refl _
    · rw [force_no h1]
      by_cases h2 : 900 * speedL.getD k 0 ≤ q
      · rw [force_yes h2]; exact (force_bd p k).2
      · rw [force_no h2]; exact ih
theorem bf_bd {v u : Int} (h : bfB v u = true) : 0 ≤ bfN v u ∧ bfN v u ≤ 12 := by
  rw [show bfN v u = _ from if_pos h]
  refine ⟨(force_bd _ _).1, ?_⟩
  unfold forceZ
  split
  · decide
  · exact (force_bd _ 12).2
theorem bf_mono {v u : Int} (h1 : bfB v u = true) (h2 : bfB (v + 1) u = true) : ¬ bfN (v + 1) u < bfN v u := by
  rw [show bfN v u = _ from if_pos h1, show bfN (v + 1) u = _ from if_pos h2]
  have hq : qpB 2 v u = true := by unfold bfB at h1; simp at h1; exact h1.1
  obtain ⟨a1, a2, a3⟩ := qp_out hq
  obtain ⟨p1, p2, _⟩ := part_bd a1 a3
  have e : (v + 1) * partZ u = v * partZ u + partZ u := by rw [Int.add_mul, Int.one_mul]
  have := force_mono (p := v * partZ u + zeroZ u) (q := (v + 1) * partZ u + zeroZ u) (by omega) 13
  omega
theorem rt_near {r s : Int} (h : rtB r s = true) : 1 ≤ s ∧ s ≤ 1000 ∧ (rtN r s).tmod s = 0 ∧ 2 * (rtN r s - r) ≤ s ∧ 2 * (r - rtN r s) ≤ s ∧ -99999 ≤ r ∧ r ≤ 99999 ∧ -200000 ≤ rtN r s ∧ rtN r s ≤ 200000 := by
  rw [show rtN r s = _ from if_pos h]
  unfold rtB at h
  simp only [Bool.and_eq_true] at h
  have hs : 1 ≤ s ∧ s ≤ 1000 := of_decide_eq_true h.1.2
  have hr := ten_iff.1 h.1.1
  have hbd := rdiv_mul_bd hs.1 hs.2 hr.1 hr.2
  refine ⟨hs.1, hs.2, Int.mul_tmod_left _ _, ?_, ?_, hr.1, hr.2, hbd.1, hbd.2.1⟩
  all_goals
    by_cases hn : r < 0
    · rw [rdiv_neg hn]
      have a := Int.ediv_mul_le (-2 * r + s) (b := 2 * s) (by omega)
      have b := Int.lt_ediv_add_one_mul_self (-2 * r + s) (b := 2 * s) (by omega)
      generalize (-2 * r + s) / (2 * s) = q at *
      have e : q * (2 * s) = 2 * (q * s) := by rw [Int.mul_left_comm]
      have e2 : (q + 1) * (2 * s) = 2 * (q * s) + 2 * s := by rw [Int.add_mul, Int.one_mul, e]
      have f : -q * s = -(q * s) := Int.neg_mul q s
      rw [f]
      rw [e] at a
      rw [e2] at b
      generalize q * s = p at *
      omega
    · rw [rdiv_pos hn]
      have a := Int.ediv_mul_le (2 * r + s) (b := 2 * s) (by omega)
      have b := Int.lt_ediv_add_one_mul_self (2 * r + s) (b := 2 * s) (by omega)
      generalize (2 * r + s) / (2 * s) = q at *
      have e : q * (2 * s) = 2 * (q * s) := by rw [Int.mul_left_comm]
      have e2 : (q + 1) * (2 * s) = 2 * (q * s) + 2 * s := by rw [Int.add_mul, Int.one_mul, e]
      rw [e] at a
      rw [e2] at b
      generalize q * s = p at *
      omega
end Go.Proofs.YtnafnkilmiebiaaDoor
