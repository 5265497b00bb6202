/- Whether two numbers are a reduced fraction, and which of two is less: the model's. -/
import Derived.Test.YtjpiiidjocilcaaGcd
namespace Go.Proofs.Ytjpiiidjocilcaa
open Go.RowKit
set_option linter.unusedVariables false
set_option linter.unusedSimpArgs false
def denB (d : Int) : Bool := decide (1 ≤ d) && decide (d ≤ 1000000)
def numB (n d : Int) : Bool := decide (0 ≤ n) && decide (n ≤ d)
/-- a share -/
def shB (n d : Int) : Bool := denB d && (numB n d && (gcdZ n d == 1))
theorem den_in {d : Int} (h : denB d = true) : 1 ≤ d ∧ d ≤ 1000000 := by unfold denB at h; rw [Bool.and_eq_true] at h; exact ⟨of_decide_eq_true h.1, of_decide_eq_true h.2⟩
theorem num_in {n d : Int} (h : numB n d = true) : 0 ≤ n ∧ n ≤ d := by unfold numB at h; rw [Bool.and_eq_true] at h; exact ⟨of_decide_eq_true h.1, of_decide_eq_true h.2⟩
theorem sh_in {n d : Int} (h : shB n d = true) : 0 ≤ n ∧ n ≤ d ∧ 1 ≤ d ∧ d ≤ 1000000 := by
  unfold shB at h
  rw [Bool.and_eq_true, Bool.and_eq_true] at h
  have h1 := den_in h.1
  have h2 := num_in h.2.1
  exact ⟨h2.1, h2.2, h1.1, h1.2⟩
theorem gcdZ_of {a b : Int} (W : World) (h1 : 0 ≤ a) (h2 : 0 ≤ b) (h3 : a ≤ 1000000) (h4 : b ≤ 1000000) :
    Calls Try.prog 85 #[.int .i64 a, .int .i64 b] W fun e w' => e = .returned (.int .i64 (gcdZ a b)) ∧ W = w' := by
  obtain ⟨x, rfl⟩ := Int.eq_ofNat_of_zero_le h1
  obtain ⟨y, rfl⟩ := Int.eq_ofNat_of_zero_le h2
  exact specGcd_any x y W (by omega) (by omega)

set_option maxHeartbeats 1000000 in
theorem specFrac_any (n d : Int) (w : World) :
    Calls Try.prog 71 #[.agg #[.int .i64 n, .int .i64 d]] w fun e w' => e = .returned (.bool (shB n d)) ∧ Below w.heap.size w w' := by
  cases hd : denB d with
  | false =>
    have C1 := Lib.hid (fun W => l1In_is d 1 1000000 false W hd)
    have e : shB n d = false := by unfold shB; rw [hd]; rfl
    rw [e]
    clear e hd
    go_enter Try.func71, Try.ntmps71
    go_wp2_with (go_at_call 84; (with_reducible refine (C1.out _).mono ?_); rintro e w1 ⟨rfl, rfl⟩)
    go_ret
    exact ⟨rfl, below_all _ _⟩
  | true =>
    have C1 := Lib.hid (fun W => l1In_is d 1 1000000 true W hd)
    have i1 := den_in hd
    cases hn : numB n d with
    | false =>
      have C2 := Lib.hid (fun W => l1In_is n 0 d false W hn)
      have e : shB n d = false := by unfold shB; rw [hd, hn]; rfl
      rw [e]
      clear e hd hn
      go_enter Try.func71, Try.ntmps71
      go_wp2_with (go_at_call 84; first | ((with_reducible refine (C1.out _).mono ?_); rintro e w1 ⟨rfl, rfl⟩) | ((with_reducible refine (C2.out _).mono ?_); rintro e w1 ⟨rfl, rfl⟩))
      go_ret
      exact ⟨rfl, below_all _ _⟩
    | true =>
      have C2 := Lib.hid (fun W => l1In_is n 0 d true W hn)
      have i2 := num_in hn
      have C3 := Lib.hid (fun W => gcdZ_of (a := n) (b := d) W (by omega) (by omega) (by omega) (by omega))
      have e : shB n d = (gcdZ n d == 1) := by unfold shB; rw [hd, hn]; rfl
      rw [e]
      clear e hd hn
      obtain ⟨z, hz⟩ : ∃ z, gcdZ n d = z := ⟨_, rfl⟩
      rw [hz] at C3 ⊢
      clear hz i1 i2
      go_enter Try.func71, Try.ntmps71
      go_wp2_with (first | (go_at_call 84; first | ((with_reducible refine (C1.out _).mono ?_); rintro e w1 ⟨rfl, rfl⟩) | ((with_reducible refine (C2.out _).mono ?_); rintro e w1 ⟨rfl, rfl⟩)) | (go_at_call 85; refine (C3.out _).mono ?_; rintro e w1 ⟨rfl, rfl⟩))
      go_ret
      exact ⟨by simp [go_sem], below_all _ _⟩

def lsB (a b c d : Int) : Bool := decide (a * d < c * b)
set_option maxHeartbeats 1000000 in
theorem specLess_any (a b c d : Int) (w : World) (h1 : shB a b = true) (h2 : shB c d = true) :
    Calls Try.prog 72 #[.agg #[.int .i64 a, .int .i64 b], .agg #[.int .i64 c, .int .i64 d]] w fun e w' => e = .returned (.bool (lsB a b c d)) ∧ Below w.heap.size w w' := by
  have i1 := sh_in h1
  have i2 := sh_in h2
  have p1 : 0 ≤ a * d := Int.mul_nonneg (by omega) (by omega)
  have p2 : 0 ≤ c * b := Int.mul_nonneg (by omega) (by omega)
  have q1 : a * d ≤ 1000000 * 1000000 := Int.mul_le_mul (by omega) (by omega) (by omega) (by omega)
  have q2 : c * b ≤ 1000000 * 1000000 := Int.mul_le_mul (by omega) (by omega) (by omega) (by omega)
  unfold lsB
  obtain ⟨x, hx⟩ : ∃ x, a * d = x := ⟨_, rfl⟩
  obtain ⟨y, hy⟩ : ∃ y, c * b = y := ⟨_, rfl⟩
  rw [hx] at p1 q1
  rw [hy] at p2 q2
  rw [hx, hy]
  have wx : IntKind.i64.wrap x = x := IntWalk.i64_in x (by omega)
  have wy : IntKind.i64.wrap y = y := IntWalk.i64_in y (by omega)
  clear i1 i2 h1 h2
  go_enter Try.func72, Try.ntmps72
  go_wp2
  go_ret
  exact ⟨by simp [go_sem], (below_all _ _).trans ((below_all _ _).mono (by simp))⟩
end Go.Proofs.Ytjpiiidjocilcaa
