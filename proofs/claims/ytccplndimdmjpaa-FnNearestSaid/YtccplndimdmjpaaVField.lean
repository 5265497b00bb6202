/- The laws' vInts and vField on fields that read alike: true. -/
import Derived.Test.YtccplndimdmjpaaFieldLaw
namespace Go.Proofs.Ytccplndimdmjpaa
open Go.RowKit
set_option linter.unusedVariables false
set_option linter.unusedSimpArgs false
set_option maxHeartbeats 400000 in
theorem vInts_yes (a a' : Option Addr) (l : List Int) (c c' B B' : Nat) (w : World) (hl : Ints .i64 w B a l) (hl' : Ints .i64 w B' a' l) (hn : l.length ≤ 1048576) :
    Calls Try.prog 56 #[.slice a l.length c, .slice a' l.length c'] w (Quiet (.bool true) w) := by
  have HL := Lib.hid hl
  have HL' := Lib.hid hl'
  clear hl hl'
  go_enter Try.func56, Try.ntmps56
  go_wp2
  go_loopw [5] (fun i wr => ∃ k : Nat, k ≤ l.length ∧ i = .int .i64 k ∧ Drew w wr) (fun i _ => l.length - (intOf i).toNat)
  case atStart => exact ⟨0, Nat.zero_le _, rfl, Drew.refl w⟩
  case round =>
    obtain ⟨k, hk, rfl, hw⟩ := hrel
    by_cases hlt : k < l.length
    · obtain ⟨b, o, rfl, hb, hc⟩ := (HL.out.drew hw).at_ hlt
      obtain ⟨b', o', rfl, hb', hc'⟩ := (HL'.out.drew hw).at_ hlt
      generalize l[k] = x at *
      have hi : (k : Int) < (l.length : Int) := by omega
      have hi0 : (0 : Int) ≤ (k : Int) := by omega
      go_wp2
      go_quiet (fail)
      go_wp2
      go_roundw
      case rel => exact ⟨k + 1, by omega, by go_num, hw.more _⟩
      case measure => simp [intOf]; omega
    · go_wp2
      go_ret
      exact ⟨rfl, hw⟩

set_option maxHeartbeats 400000 in
theorem vField_yes (wd hg : Int) (a a' : Option Addr) (l : List Int) (c c' : Nat) (w : World) (hl : Ints .i64 w w.heap.size a l) (hl' : Ints .i64 w w.heap.size a' l) (hn : l.length ≤ 1048576) :
    Calls Try.prog 27 #[.agg #[.int .i64 wd, .int .i64 hg, .slice a l.length c], .agg #[.int .i64 wd, .int .i64 hg, .slice a' l.length c']] w fun e w' => e = .returned (.bool true) ∧ Below w.heap.size w w' := by
  have HL := Lib.hid hl
  have HL' := Lib.hid hl'
  clear hl hl'
  have b2 : ∀ o1 o2, Below w.heap.size w ((w.alloc o1).alloc o2) := fun o1 o2 => ((Below.refl _ _).alloc (Nat.le_refl _) _).alloc (by simp) _
  have HE := Lib.hid (fun o1 o2 => vInts_yes a a' l c c' w.heap.size w.heap.size ((w.alloc o1).alloc o2) (HL.out.below (b2 o1 o2) (Nat.le_refl _)) (HL'.out.below (b2 o1 o2) (Nat.le_refl _)) hn)
  go_enter Try.func27, Try.ntmps27
  go_wp2_with (go_at_call 56; refine (HE.out _ _).mono ?_; rintro e w1 ⟨rfl, d⟩; have HD := Lib.hid d; clear d)
  go_ret
  exact ⟨rfl, (b2 _ _).trans (HD.out.below _)⟩
end Go.Proofs.Ytccplndimdmjpaa
