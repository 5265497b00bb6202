/- The laws' vInts and vField on fields that read alike: true. -/
import Derived.Test.YtgfgimpglaepaaaFieldLaw
namespace Go.Proofs.Ytgfgimpglaepaaa
open Go.RowKit
set_option linter.unusedVariables false
set_option linter.unusedSimpArgs false
set_option maxHeartbeats 400000 in
theorem vInts_yes (a a' : Option Addr) (l : List Int) (c c' B B' : Nat) (w : World) (hl : Ints .i64 w B a l) (hl' : Ints .i64 w B' a' l) (hn : l.length ≤ 1048576) :
    Calls Try.prog 22 #[.slice a l.length c, .slice a' l.length c'] w (Quiet (.bool true) w) := by
  have HL := Lib.hid hl
  have HL' := Lib.hid hl'
  clear hl hl'
  go_enter Try.func22, Try.ntmps22
  go_wp2
  go_loopw [5] (fun i wr => ∃ k : Nat, k ≤ l.length ∧ i = .int .i64 k ∧ Drew w wr) (fun i _ => l.length - (intOf i).toNat)
  case atStart => exact ⟨0, Nat.zero_le _, rfl, Drew.refl w⟩
  case round =>
    obtain ⟨k, hk, rfl, hw⟩ := hrel
    by_cases hlt : k < l.length
    · obtain ⟨b, o, rfl, hb, hc⟩ := (HL.out.drew hw).at_ hlt
      obtain ⟨b', o', rfl, hb', hc'⟩ := (HL'.out.drew hw).at_ hlt
      generalize l[k] = x at *
      have hi : (k : Int) < (l.length : Int) := by omega
      have hi0 : (0 : Int) ≤ (k : Int) := by omega
      go_wp2
      go_quiet (fail)
      go_wp2
      go_roundw
      case rel => exact ⟨k + 1, by omega, by go_num, hw.more _⟩
      case measure => simp [intOf]; omega
    · go_wp2
      go_ret
      exact ⟨rfl, hw⟩

end Go.Proofs.Ytgfgimpglaepaaa
