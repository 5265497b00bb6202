/- The lowest bit of a number, and math/bits.TrailingZeros64 over the library's own table. -/
import Derived.Test.YtccplndimdmjpaaDoorChecked
import Derived.Test.YtccplndimdmjpaaDoorFlat
import Derived.Lib.TrailingZeros
import Derived.Lib.Hide
import Derived.Laws.Bits64b
import Derived.Laws.BitsAllLaws
import Derived.WalkKit
import Derived.WalkSpells
import Derived.IntWalk
namespace Go.Proofs.YtccplndimdmjpaaDoor
open Go.RowKit
set_option linter.unusedVariables false
theorem ctz_form {x : Nat} (h0 : x ≠ 0) (h : x < 2 ^ 64) : Lib.ctz 64 x < 64 ∧ ∃ m, x = (2 * m + 1) * 2 ^ Lib.ctz 64 x := by
  obtain ⟨m, h1, h2⟩ := Lib.ctzFrom_spec 64 x (by omega) h
  have e : Lib.ctz 64 x = Lib.ctzFrom 64 x := by simp [Lib.ctz, h0]
  rw [e]
  exact ⟨h2, m, by rw [Nat.mul_comm]; exact h1⟩
theorem ctz_bit {x : Nat} (h0 : x ≠ 0) (h : x < 2 ^ 64) : x.testBit (Lib.ctz 64 x) = true ∧ ∀ i, i < Lib.ctz 64 x → x.testBit i = false := by
  obtain ⟨h1, m, h2⟩ := ctz_form h0 h
  generalize Lib.ctz 64 x = k at *
  subst h2
  constructor
  · rw [Nat.testBit_mul_two_pow]
    simp [Nat.testBit_zero]
  · intro i hi
    rw [Nat.testBit_mul_two_pow]
    simp; omega
/-- a set of places with one more, with one less -/
def putBit (C k : Nat) : Nat := C ||| 2 ^ k
def dropBit (C k : Nat) : Nat := C &&& (18446744073709551615 - 2 ^ k)
theorem put_test (C k i : Nat) : (putBit C k).testBit i = (C.testBit i || decide (k = i)) := by
  unfold putBit
  rw [Nat.testBit_or, Nat.testBit_two_pow]
theorem drop_test {k : Nat} (C i : Nat) (hk : k < 64) (hC : C < 2 ^ 64) : (dropBit C k).testBit i = (C.testBit i && !decide (k = i)) := by
  unfold dropBit
  have e : 18446744073709551615 - 2 ^ k = 2 ^ 64 - (2 ^ k + 1) := by
    have : 2 ^ k < 2 ^ 64 := Nat.pow_lt_pow_right (by decide) hk
    omega
  rw [e, Nat.testBit_and, Nat.testBit_two_pow_sub_succ (Nat.pow_lt_pow_right (by decide) hk), Nat.testBit_two_pow]
  by_cases h : i < 64
  · simp [h]
  · have : C.testBit i = false := Nat.testBit_lt_two_pow (Nat.lt_of_lt_of_le hC (Nat.pow_le_pow_right (by decide) (by omega)))
    simp [this]
theorem put_lt {C k : Nat} (hk : k < 64) (hC : C < 2 ^ 64) : putBit C k < 2 ^ 64 := Nat.or_lt_two_pow hC (Nat.pow_lt_pow_right (by decide) hk)
theorem drop_lt {C k : Nat} (hC : C < 2 ^ 64) : dropBit C k < 2 ^ 64 := Nat.lt_of_le_of_lt Nat.and_le_left hC
theorem drop_zero {C k : Nat} (hk : k < 64) (hC : C < 2 ^ 64) (h : ∀ i, C.testBit i = true → i = k) : dropBit C k = 0 := by
  apply Nat.eq_of_testBit_eq
  intro i
  rw [drop_test C i hk hC, Nat.zero_testBit]
  cases hb : C.testBit i with
  | false => rfl
  | true => simp [h i hb]
theorem pow64 {k : Nat} (hk : k < 64) : 2 ^ k < 18446744073709551616 := by
  have : 2 ^ k < 2 ^ 64 := Nat.pow_lt_pow_right (by decide) hk
  exact this
theorem put_int {C k : Nat} (hk : k < 64) (hC : C < 2 ^ 64) : bits .or .u64 (C : Int) ((2 ^ k : Nat) : Int) = ((putBit C k : Nat) : Int) := bits_or_u64_nat C (2 ^ k) hC (pow64 hk)
theorem drop_int {C k : Nat} (hk : k < 64) (hC : C < 2 ^ 64) : bits .andNot .u64 (C : Int) ((2 ^ k : Nat) : Int) = ((dropBit C k : Nat) : Int) := u64_andNot_nat C (2 ^ k) hC (pow64 hk)
theorem wrap_pow {k : Nat} (hk : k < 64) : IntKind.u64.wrap ((2 ^ k : Nat) : Int) = ((2 ^ k : Nat) : Int) := by
  have h := pow64 hk
  generalize 2 ^ k = q at *
  rw [IntKind.wrap_u64]; omega
def deBruijn64tabCells : List Value := Lib.deBruijn64tab.map fun (k : Nat) => Value.int .u8 (k : Int)
theorem tz_key (x a : Nat) (hx : x < 18446744073709551616) (hlow : x &&& (18446744073709551616 - x) = a) (hx0 : x ≠ 0) :
    IntKind.u64.wrap (bits BinOp.and IntKind.u64 (x : Int) (IntKind.u64.wrap (-(x : Int))) * 285870213051353865) / 288230376151711744 = ((a * 285870213051353865 % 18446744073709551616 / 288230376151711744 : Nat) : Int) := by
  have e1 : IntKind.u64.wrap (-(x : Int)) = ((18446744073709551616 - x : Nat) : Int) := by rw [IntKind.wrap_u64]; omega
  rw [e1, bits_and_u64_nat x _ hx (by omega), hlow, IntKind.wrap_u64]
  omega
theorem BlockIs.get {w : World} {g : Nat} {l : List Value} (h : BlockIs w g l.toArray) (k : Nat) : w.cell? ⟨g, k, none⟩ = l[k]? := by
  obtain ⟨t, h⟩ := h
  simp [World.cell?, h]
theorem tabCells_get (idx c : Nat) (hi : idx < 64) (h : Lib.deBruijn64tab.getD idx 0 = c) : deBruijn64tabCells[idx]? = some (.int .u8 (c : Int)) := by
  have h64 : Lib.deBruijn64tab.length = 64 := by decide
  unfold deBruijn64tabCells
  rw [List.getElem?_map, List.getElem?_eq_getElem (by omega)]
  rw [List.getD_eq_getElem?_getD, List.getElem?_eq_getElem (by omega)] at h
  simp only [Option.getD_some] at h
  rw [Option.map_some, h]
set_option maxHeartbeats 1000000 in
theorem tz_core (x k idx : Nat) (w : World) (hx0 : ((x : Int) == 0) = false)
    (key : IntKind.u64.wrap (bits BinOp.and IntKind.u64 (x : Int) (IntKind.u64.wrap (-(x : Int))) * 285870213051353865) / 288230376151711744 = (idx : Int))
    (hi : idx < 64) (hk : k < 64) (hcell : w.cell? ⟨0, idx, none⟩ = some (.int .u8 k)) :
    Calls Tryd.prog 55 #[.int .u64 x] w fun e w' => e = .returned (.int .i64 k) ∧ w = w' := by
  go_enter Tryd.func55, Tryd.ntmps55
  go_wp2_with (simp only [key])
  go_ret
  exact ⟨rfl, rfl⟩
theorem tz_is (x : Nat) (w : World) (hx : x < 2 ^ 64) (hx0 : x ≠ 0) (ht : BlockIs w 0 deBruijn64tabCells.toArray) :
    Calls Tryd.prog 55 #[.int .u64 x] w fun e w' => e = .returned (.int .i64 (Lib.ctz 64 x)) ∧ w = w' := by
  obtain ⟨hlow, hk⟩ := Lib.lowest_bit 64 x hx0 hx
  obtain ⟨hi, htab⟩ := Lib.deBruijn64_at _ hk
  have hkey := tz_key x _ hx hlow hx0
  generalize Lib.ctz 64 x = c at *
  generalize 2 ^ c * 285870213051353865 % 18446744073709551616 / 288230376151711744 = idx at *
  exact tz_core x c idx w (by simp; omega) hkey hi hk ((ht.get idx).trans (tabCells_get idx c hi htab))
end Go.Proofs.YtccplndimdmjpaaDoor
