/- The model's l9Least and l13Threshold. -/
import Derived.Test.YtpmfgghiiocccaaNbMath
import Derived.Test.YtpmfgghiiocccaaGood
import Derived.Test.YtpmfgghiiocccaaUnit
namespace Go.Proofs.Ytpmfgghiiocccaa
open Go.RowKit
set_option linter.unusedVariables false
set_option linter.unusedSimpArgs false
set_option maxHeartbeats 1000000 in
theorem specLeast_is (a : Option Addr) (l : List Int) (c B : Nat) (t : Int) (w : World) (hl : Ints .i64 w B a l) (hn : l.length ≤ 64) :
    Calls Try.prog 48 #[.slice a l.length c, .int .i64 t] w fun e w' => e = .returned (.int .i64 (cntN t l : Int)) ∧ w = w' := by
  have HL := Lib.hid hl
  clear hl
  go_enter Try.func48, Try.ntmps48
  go_wp2
  go_loop [5, 6] (fun s i => ∃ k : Nat, k ≤ l.length ∧ i = .int .i64 k ∧ s = .int .i64 (cntN t (l.take k) : Int)) (fun _ i => l.length - (intOf i).toNat)
  case atStart => exact ⟨0, Nat.zero_le _, rfl, rfl⟩
  case round =>
    obtain ⟨k, hk, rfl, rfl⟩ := hrel
    have hbd := cnt_le t (l.take k)
    rw [List.length_take] at hbd
    by_cases hlt : k < l.length
    · have hi : (k : Int) < (l.length : Int) := by omega
      have hi0 : (0 : Int) ≤ (k : Int) := by omega
      obtain ⟨b, o, rfl, hb, hc⟩ := HL.out.at_ hlt
      have HT := Lib.hid (snoc_takeI l k hlt)
      generalize l[k] = z at *
      by_cases hz : t ≤ z
      · have HV := Lib.hid (cnt_hit (l := l.take k) hz)
        rw [← HT.out] at HV
        go_wp2
        go_round
        case rel => exact ⟨k + 1, by omega, by go_num, by rw [HV.out]; push_cast; rfl⟩
        case measure => simp [intOf]; omega
      · have HV := Lib.hid (cnt_miss (l := l.take k) hz)
        rw [← HT.out] at HV
        go_wp2
        go_round
        case rel => exact ⟨k + 1, by omega, by go_num, by rw [HV.out]⟩
        case measure => simp [intOf]; omega
    · obtain rfl : k = l.length := by omega
      have HT := Lib.hid (List.take_of_length_le (Nat.le_refl l.length))
      rw [HT.out]
      go_wp2
      go_ret
      exact ⟨rfl, rfl⟩
theorem specThr_is (t : Int) (v : Bool) (w : World) (h : valB t = v) :
    Calls Try.prog 45 #[.int .i64 t] w fun e w' => e = .returned (.bool v) ∧ w = w' := by
  have HC := Lib.hid (fun W => l1In_is t (-9000) 9000 v W h)
  clear h
  go_enter Try.func45, Try.ntmps45
  go_wp2_with (go_at_call 69; refine (HC.out _).mono ?_; rintro e w1 ⟨rfl, rfl⟩)
  go_ret
  exact ⟨rfl, rfl⟩
end Go.Proofs.Ytpmfgghiiocccaa
