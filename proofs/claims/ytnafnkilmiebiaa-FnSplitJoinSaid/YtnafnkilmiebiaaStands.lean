/- spec.l1Stands: whether a byte stands in a text. -/
import Derived.Test.YtnafnkilmiebiaaChecked
import Derived.Test.YtnafnkilmiebiaaJoinMath
import Derived.WalkKit
import Derived.WalkLawsBesides
import Derived.WalkSpells
import Derived.Below
import Derived.Lib.Hide
namespace Go.Proofs.Ytnafnkilmiebiaa
open Go.RowKit
set_option linter.unusedVariables false

set_option maxHeartbeats 400000 in
theorem stands_any (s : ByteArray) (c : Int) (w : World) (hs : s.size ≤ maxLen) :
    Calls Try.prog 42 #[.string s, .int .u8 c] w fun e w' => e = .returned (.bool (hasB s.data.toList c)) ∧ w = w' := by
  unfold maxLen at hs
  go_enter Try.func42, Try.ntmps42
  go_wp2
  go_loop [5] (fun i => ∃ k : Nat, k ≤ s.size ∧ i = .int .i64 k ∧ hasB (s.data.toList.take k) c = false) (fun i => s.size - (intOf i).toNat)
  case atStart => exact ⟨0, Nat.zero_le _, rfl, rfl⟩
  case round =>
    obtain ⟨k, hk, rfl, hn⟩ := hrel
    have HN := Lib.hid hn
    clear hn
    by_cases hlt : k < s.size
    · cases hc : ((s[k].toNat : Int) == c) with
      | true =>
        have hf := hasB_of_get s k hlt c (by simpa using hc)
        have HF := Lib.hid hf
        clear hf
        go_wp2
        go_ret
        exact ⟨by rw [HF.out]; rfl, rfl⟩
      | false =>
        have hsn := hasB_snoc (s.data.toList.take k) s[k] c
        rw [← take_snoc s k hlt, HN.out, hc] at hsn
        have HS := Lib.hid hsn
        clear hsn
        go_wp2
        go_round
        case rel => exact ⟨k + 1, by omega, by go_num, by rw [HS.out]; rfl⟩
        case measure => simp [intOf]; omega
    · have hf : hasB s.data.toList c = false := by have := HN.out; rwa [take_all _ _ (by omega)] at this
      have HF := Lib.hid hf
      clear hf
      go_wp2
      go_ret
      exact ⟨by rw [HF.out]; rfl, rfl⟩

/-- the two answers of l1Stands, each under what it says -/
theorem stands_is (s : ByteArray) (c : Int) (w : World) (hs : s.size ≤ maxLen) {v : Bool} (h : hasB s.data.toList c = v) :
    Calls Try.prog 42 #[.string s, .int .u8 c] w fun e w' => e = .returned (.bool v) ∧ w = w' := by
  rw [← h]; exact stands_any s c w hs
end Go.Proofs.Ytnafnkilmiebiaa
