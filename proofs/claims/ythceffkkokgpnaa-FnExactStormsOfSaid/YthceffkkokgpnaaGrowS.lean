/- GrowRegion of the model; l1Has, l8Beside. -/
import Derived.Test.YthceffkkokgpnaaRgnVal
import Derived.Test.YthceffkkokgpnaaSvRet
namespace Go.Proofs.Ythceffkkokgpnaa
open Go.RowKit
set_option linter.unusedVariables false
set_option linter.unusedSimpArgs false
theorem mem_take {l : List Int} {k : Nat} {n : Int} (h : k < l.length) : (n ∈ l.take (k + 1)) ↔ (n ∈ l.take k ∨ n = l[k]) := by
  rw [List.take_succ_eq_append_getElem h, List.mem_append, List.mem_singleton]
set_option maxHeartbeats 1000000 in
theorem has_is (a : Option Addr) (l : List Int) (c B : Nat) (n : Int) (v : Bool) (w : World) (hl : Ints .i64 w B a l) (hn : l.length ≤ 1048576) (h : decide (n ∈ l) = v) :
    Calls Try.prog 129 #[.slice a l.length c, .int .i64 n] w fun e w' => e = .returned (.bool v) ∧ w = w' := by
  have HL := Lib.hid hl
  have HV := Lib.hid h
  clear hl h
  go_enter Try.func129, Try.ntmps129
  go_wp2
  go_loop [5] (fun i => ∃ k : Nat, k ≤ l.length ∧ i = .int .i64 k ∧ ¬ n ∈ l.take k) (fun i => l.length - (intOf i).toNat)
  case atStart => exact ⟨0, Nat.zero_le _, rfl, by simp⟩
  case round =>
    obtain ⟨k, hk, rfl, hno⟩ := hrel
    have HN := Lib.hid hno
    clear hno
    by_cases hlt : k < l.length
    · obtain ⟨b, o, rfl, hb, hc⟩ := HL.out.at_ hlt
      have hi : (k : Int) < (l.length : Int) := by omega
      have hi0 : (0 : Int) ≤ (k : Int) := by omega
      have HM := Lib.hid (mem_take (n := n) hlt)
      have HIN := Lib.hid (fun (e : l[k] = n) => (show n ∈ l from e ▸ List.getElem_mem hlt))
      obtain ⟨x, hx⟩ : ∃ x, l[k] = x := ⟨_, rfl⟩
      rw [hx] at hc HM HIN
      clear hx
      by_cases he : x = n
      · obtain rfl : v = true := by rw [← HV.out]; exact decide_eq_true (HIN.out he)
        subst he
        have e1 : (x == x) = true := by simp
        clear HM HIN HN HV
        go_wp2
        go_ret
        exact ⟨rfl, rfl⟩
      · have e1 : (x == n) = false := by rw [beq_eq_false_iff_ne]; exact he
        have HE := Lib.hid he
        clear he
        go_wp2
        go_round
        case rel => exact ⟨k + 1, by omega, by go_num, fun h => by rcases HM.out.1 h with h | h; exact HN.out h; exact HE.out h.symm⟩
        case measure => simp [intOf]; omega
    · obtain rfl : v = false := by
        rw [← HV.out]
        have := HN.out
        rw [List.take_of_length_le (by omega)] at this
        exact decide_eq_false this
      go_wp2
      go_ret
      exact ⟨rfl, rfl⟩
theorem sq_bd (x : Int) (h : -64 ≤ x ∧ x ≤ 64) : 0 ≤ x * x ∧ x * x ≤ 4096 := by
  rcases Int.lt_or_le x 0 with h1 | h1
  · have h2 := Int.mul_nonneg (a := -x) (b := -x) (by omega) (by omega)
    have h3 := Int.mul_le_mul (a := -x) (b := -x) (c := 64) (d := 64) (by omega) (by omega) (by omega) (by omega)
    rw [Int.neg_mul_neg] at h2 h3; omega
  · have h2 := Int.mul_nonneg h1 h1
    have h3 := Int.mul_le_mul (a := x) (b := x) (c := 64) (d := 64) (by omega) (by omega) (by omega) (by omega)
    omega
theorem beq_eq_decide (a b : Int) : (a == b) = decide (a = b) := by
  by_cases h : a = b
  · subst h; simp
  · rw [beq_eq_false_iff_ne.2 h, decide_eq_false h]
set_option maxHeartbeats 1000000 in
theorem beside_is (wd a b : Int) (v : Bool) (w : World) (h1 : 1 ≤ wd) (h2 : wd ≤ 8) (ha : 0 ≤ a ∧ a ≤ 64) (hb : 0 ≤ b ∧ b ≤ 64) (h : besB wd a b = v) :
    Calls Try.prog 134 #[.int .i64 wd, .int .i64 a, .int .i64 b] w (Quiet (.bool v) w) := by
  have hne : ¬ wd = 0 := by omega
  have HV := Lib.hid h
  have a1 := Int.emod_nonneg a (b := wd) (by omega)
  have a2 := Int.emod_lt_of_pos a (b := wd) (by omega)
  have a3 := Int.ediv_nonneg (a := a) (b := wd) (by omega) (by omega)
  have a4 := Int.ediv_le_self (a := a) wd (by omega)
  have b1 := Int.emod_nonneg b (b := wd) (by omega)
  have b2 := Int.emod_lt_of_pos b (b := wd) (by omega)
  have b3 := Int.ediv_nonneg (a := b) (b := wd) (by omega) (by omega)
  have b4 := Int.ediv_le_self (a := b) wd (by omega)
  unfold besB at HV
  clear h
  go_enter Try.func134, Try.ntmps134
  go_wp2
  go_quiet (fail)
  go_wp2
  go_ret
  refine ⟨?_, ⟨_, rfl⟩⟩
  rw [← HV.out]
  obtain ⟨X, hX⟩ : ∃ X, a % wd - b % wd = X := ⟨_, rfl⟩
  obtain ⟨Y, hY⟩ : ∃ Y, a / wd - b / wd = Y := ⟨_, rfl⟩
  rw [hX, hY]
  have x1 := sq_bd X (by omega)
  have x2 := sq_bd Y (by omega)
  rw [IntWalk.wrap64_in (X * X) (by omega), IntWalk.wrap64_in (Y * Y) (by omega), IntWalk.wrap64_in (X * X + Y * Y) (by omega)]
  rw [beq_eq_decide]
  rfl
/-- whether a cell belongs to the grown region, asked at the first m cells -/
def nearGr (wd : Int) (l : List Int) (i : Int) (m : Nat) : Bool := decide (i ∈ l) || (l.take m).any fun k => besB wd i k
theorem nearGr_zero (wd : Int) (l : List Int) (i : Int) : nearGr wd l i 0 = decide (i ∈ l) := by simp [nearGr]
theorem nearGr_all (wd : Int) (l : List Int) (i : Int) : nearGr wd l i l.length = nearB wd l i := by simp [nearGr, nearB]
theorem nearGr_step (wd : Int) (l : List Int) (i : Int) (m : Nat) (h : m < l.length) : nearGr wd l i (m + 1) = (nearGr wd l i m || besB wd i l[m]) := by
  unfold nearGr; rw [List.take_succ_eq_append_getElem h, List.any_append, Bool.or_assoc]; simp
end Go.Proofs.Ythceffkkokgpnaa
