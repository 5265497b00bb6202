/- spec.FormatInt and impl.FormatInt: both write the decimal text of a number in range. -/
import Derived.Test.YtgfgimpglaepaabDoorNum
import Derived.Test.YtgfgimpglaepaabDoorShelf
import Derived.Lib.AppendIntMem
namespace Go.Proofs.YtgfgimpglaepaabDoor
open Go.RowKit
set_option linter.unusedVariables false
/-- the table of powers of ten that strconv reads -/
def Tab (w : World) : Prop := Lib.TabIs Tryd.prog w "internal/strconv.uint64pow10" .u64 Lib.pow10Tab
theorem itoa_minus (u : Nat) (h : 1 ≤ u) : (⟨(Lib.itoa (-(u : Int))).toArray⟩ : ByteArray) = ⟨#[45]⟩ ++ ⟨(Lib.decDigits u).toArray⟩ := by
  rw [Lib.itoa_neg u h]; apply ByteArray.ext; simp

set_option maxHeartbeats 400000 in
theorem num_neg (u : Nat) (w : World) (h : 1 ≤ u) (hu : u ≤ 999999999) :
    Calls Tryd.prog 70 #[.int .i64 (-(u : Int))] w (Quiet (.string ⟨(Lib.itoa (-(u : Int))).toArray⟩) w) := by
  have HI := Lib.hid (itoa_minus u h)
  have HN := Lib.hid (num_nat u hu)
  have hl := digits_len u hu
  have e1 : -(-(u : Int)) = (u : Int) := by omega
  go_enter Tryd.func70, Tryd.ntmps70
  go_wp2_with (go_at_call 70; refine (HN.out _).mono ?_; rintro e w' ⟨rfl, d1⟩; have HD := Lib.hid d1; clear d1)
  go_ret
  exact ⟨by rw [HI.out]; rfl, HD.out⟩
/-- l1Num of a number in range -/
theorem num_any (n : Int) (w : World) (h0 : -999999999 ≤ n) (h1 : n ≤ 999999999) : Calls Tryd.prog 70 #[.int .i64 n] w (Quiet (.string ⟨(Lib.itoa n).toArray⟩) w) := by
  by_cases hn : n < 0
  · obtain ⟨u, rfl⟩ : ∃ u : Nat, n = -(u : Int) := ⟨n.natAbs, by omega⟩
    exact num_neg u w (by omega) (by omega)
  · obtain ⟨u, rfl⟩ : ∃ u : Nat, n = (u : Int) := ⟨n.toNat, by omega⟩
    rw [Lib.itoa_nonneg]
    exact num_nat u (by omega) w

/-- whether a number is in range -/
def inR (n : Int) : Bool := decide (-999999 ≤ n ∧ n ≤ 999999)
/-- the text of a number, or none -/
def fmtS (n : Int) : ByteArray := if inR n = true then ⟨(Lib.itoa n).toArray⟩ else ⟨#[]⟩
theorem inR_yes {n : Int} (h0 : -999999 ≤ n) (h1 : n ≤ 999999) : inR n = true := decide_eq_true ⟨h0, h1⟩
theorem inR_no {n : Int} (h : n < -999999 ∨ 999999 < n) : inR n = false := decide_eq_false (by omega)
theorem fmtS_yes {n : Int} (h : inR n = true) : fmtS n = ⟨(Lib.itoa n).toArray⟩ := if_pos h
theorem fmtS_no {n : Int} (h : inR n = false) : fmtS n = ⟨#[]⟩ := if_neg (by rw [h]; simp)

set_option maxHeartbeats 400000 in
theorem implFormat_any (n : Int) (w : World) (ht : Tab w) :
    Calls Tryd.prog 64 #[.int .i64 n] w fun e w' => e = .returned (.tuple #[.string (fmtS n), .bool (inR n)]) ∧ Below w.heap.size w w' := by
  by_cases h0 : n < -999999
  · have hb := inR_no (.inl h0)
    rw [fmtS_no hb, hb]
    clear hb ht
    go_enter Tryd.func64, Tryd.ntmps64
    go_wp2
    go_ret2
    exact ⟨rfl, Below.refl _ _⟩
  · by_cases h1 : 999999 < n
    · have hb := inR_no (.inr h1)
      rw [fmtS_no hb, hb]
      clear hb ht
      go_enter Tryd.func64, Tryd.ntmps64
      go_wp2
      go_ret2
      exact ⟨rfl, Below.refl _ _⟩
    · have hb := inR_yes (n := n) (by omega) (by omega)
      rw [fmtS_yes hb, hb]
      clear hb
      have HN := Lib.hid (Tryd.strconv_Itoa n (by omega) (by omega) w ht)
      clear ht
      go_enter Tryd.func64, Tryd.ntmps64
      go_wp2_with (go_at_call 83; refine HN.out.mono ?_; rintro e w' ⟨rfl, k, os, rfl⟩)
      go_ret2
      exact ⟨rfl, Lib.below_grow _ _ (Nat.le_refl _) k os⟩

end Go.Proofs.YtgfgimpglaepaabDoor
