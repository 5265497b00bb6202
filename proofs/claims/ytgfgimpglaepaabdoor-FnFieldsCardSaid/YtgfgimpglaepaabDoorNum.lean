/- spec.l1Num writes a number's decimal text: the library's 'itoa'. -/
import Derived.Test.YtgfgimpglaepaabDoorChecked
import Derived.Test.YtgfgimpglaepaabDoorDrew
import Derived.WalkKit
import Derived.WalkLawsBesides
import Derived.WalkSpells
import Derived.Below
import Derived.Lib.Hide
import Derived.Lib.ItoaNum
import Derived.Lib.ItoaMem
import Derived.Lib.ItoaLen
import Derived.Deep.QuietTactic
import Derived.BigQuiet
import Derived.IntWalk
namespace Go.Proofs.YtgfgimpglaepaabDoor
open Go.RowKit
set_option linter.unusedVariables false
theorem digit_text (u : Nat) (h : u < 10) : (⟨#[48, 49, 50, 51, 52, 53, 54, 55, 56, 57]⟩ : ByteArray).extract u (u + 1) = ⟨(Lib.decDigits u).toArray⟩ := by
  rw [Lib.decDigits_one h]
  match u, h with
  | 0, _ => rfl
  | 1, _ => rfl
  | 2, _ => rfl
  | 3, _ => rfl
  | 4, _ => rfl
  | 5, _ => rfl
  | 6, _ => rfl
  | 7, _ => rfl
  | 8, _ => rfl
  | 9, _ => rfl

theorem digits_len (u : Nat) (h : u ≤ 999999999) : (Lib.decDigits u).length ≤ 20 := by
  rw [Lib.decDigits_length]; exact Lib.nDigits_le20 u (by omega)
theorem cat_digits (a b : List UInt8) : (⟨(a ++ b).toArray⟩ : ByteArray) = ⟨a.toArray⟩ ++ ⟨b.toArray⟩ := by
  apply ByteArray.ext; simp

set_option maxHeartbeats 400000 in
theorem num_small (u : Nat) (w : World) (h : u < 10) :
    Calls Tryd.prog 70 #[.int .i64 u] w (Quiet (.string ⟨(Lib.decDigits u).toArray⟩) w) := by
  have HD := Lib.hid (digit_text u h)
  go_enter Tryd.func70, Tryd.ntmps70
  go_wp2
  go_ret
  exact ⟨by rw [← HD.out]; rfl, Drew.refl w⟩

set_option maxHeartbeats 400000 in
theorem num_big (u q r : Nat) (w : World) (h : 10 ≤ u) (hu : u ≤ 999999999) (hq : u / 10 = q) (hr : u % 10 = r) (ih : ∀ W, Calls Tryd.prog 70 #[.int .i64 q] W (Quiet (.string ⟨(Lib.decDigits q).toArray⟩) W)) :
    Calls Tryd.prog 70 #[.int .i64 u] w (Quiet (.string ⟨(Lib.decDigits u).toArray⟩) w) := by
  have HI := Lib.hid ih
  clear ih
  have hr10 : r < 10 := by omega
  have HD := Lib.hid (digit_text r hr10)
  have HU : Lib.decDigits u = Lib.decDigits q ++ Lib.decDigits r := by
    rw [Lib.decDigits, dif_neg (by omega), hq, hr, Lib.decDigits_one hr10]
  have HUU := Lib.hid HU
  have e1 : IntKind.i64.wrap ((u : Int) / 10) = (q : Int) := by rw [IntWalk.i64_in _ (by omega)]; omega
  have e2 : (u : Int).tmod 10 = (r : Int) := by rw [Int.tmod_eq_emod_of_nonneg (by omega)]; omega
  have e4 : IntKind.i64.wrap ((r : Int) + 1) = (r : Int) + 1 := IntWalk.i64_in _ (by omega)
  have e5 : ∀ W, (Instr.slice 9 (.string ⟨#[48, 49, 50, 51, 52, 53, 54, 55, 56, 57]⟩) (some (.int .i64 (r : Int))) (some (.int .i64 ((r : Int) + 1))) none).run Tryd.prog W = .ok (.string ⟨(Lib.decDigits r).toArray⟩) W := fun W => by
    rw [run_slice_string (P := Tryd.prog) W 9 _ _ _ (r : Int) ((r : Int) + 1) Tryd.underlying9 (by omega) (by omega) (by simp [ByteArray.size]; omega), ← HD.out]
    rfl
  have e6 : ∀ W, (Op.stringOp .add (⟨(Lib.decDigits q).toArray⟩ : ByteArray) ⟨(Lib.decDigits r).toArray⟩).run Tryd.prog W = .ok (.string ⟨(Lib.decDigits u).toArray⟩) W := fun W => by
    have h1 := digits_len q (by omega)
    have h2 := digits_len r (by omega)
    rw [run_string_add_sum W _ _ (by simp only [ByteArray.size, List.size_toArray]; omega), HU, cat_digits]
  clear HU hq hr
  go_enter Tryd.func70, Tryd.ntmps70
  go_wp2
  go_quiet ((go_at_call 70; exact Calls.quiet_of (HI.out _)))
  clear e1 e2 e4 e5 e6
  go_wp2
  go_ret
  exact ⟨rfl, Drew.refl w |>.more _⟩
/-- l1Num of a number that is not negative -/
theorem num_nat (u : Nat) (hu : u ≤ 999999999) : ∀ w, Calls Tryd.prog 70 #[.int .i64 u] w (Quiet (.string ⟨(Lib.decDigits u).toArray⟩) w) := by
  induction u using Nat.strongRecOn with
  | _ u ih =>
    intro w
    by_cases h : u < 10
    · exact num_small u w h
    · exact num_big u (u / 10) (u % 10) w (by omega) hu rfl rfl (ih (u / 10) (by omega) (by omega))

/-- l1In, under what it says -/
theorem in_yes (x a b : Int) (w : World) (h0 : a ≤ x) (h1 : x ≤ b) :
    Calls Tryd.prog 60 #[.int .i64 x, .int .i64 a, .int .i64 b] w fun e w' => e = .returned (.bool true) ∧ w = w' := by
  have e0 : decide (a ≤ x) = true := decide_eq_true h0
  have e1 : decide (x ≤ b) = true := decide_eq_true h1
  go_enter Tryd.func60, Tryd.ntmps60
  go_wp2
  go_ret
  exact ⟨rfl, rfl⟩
theorem in_low (x a b : Int) (w : World) (h0 : x < a) :
    Calls Tryd.prog 60 #[.int .i64 x, .int .i64 a, .int .i64 b] w fun e w' => e = .returned (.bool false) ∧ w = w' := by
  have e0 : decide (a ≤ x) = false := decide_eq_false (by omega)
  go_enter Tryd.func60, Tryd.ntmps60
  go_wp2
  go_ret
  exact ⟨rfl, rfl⟩
theorem in_high (x a b : Int) (w : World) (h0 : a ≤ x) (h1 : b < x) :
    Calls Tryd.prog 60 #[.int .i64 x, .int .i64 a, .int .i64 b] w fun e w' => e = .returned (.bool false) ∧ w = w' := by
  have e0 : decide (a ≤ x) = true := decide_eq_true h0
  have e1 : decide (x ≤ b) = false := decide_eq_false (by omega)
  go_enter Tryd.func60, Tryd.ntmps60
  go_wp2
  go_ret
  exact ⟨rfl, rfl⟩
theorem in_no (x a b : Int) (w : World) (h : x < a ∨ b < x) :
    Calls Tryd.prog 60 #[.int .i64 x, .int .i64 a, .int .i64 b] w fun e w' => e = .returned (.bool false) ∧ w = w' := by
  by_cases h0 : x < a
  · exact in_low x a b w h0
  · exact in_high x a b w (by omega) (by omega)
end Go.Proofs.YtgfgimpglaepaabDoor
