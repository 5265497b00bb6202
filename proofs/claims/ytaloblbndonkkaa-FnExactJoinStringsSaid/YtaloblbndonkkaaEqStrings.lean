/- laws.eqStringS on two slices that hold the same texts: true; only draws are made. -/
import Derived.Test.YtaloblbndonkkaaStrings
import Derived.Deep.QuietTactic
import Derived.BigQuiet
namespace Go.Proofs.Ytaloblbndonkkaa
open Go.RowKit
set_option linter.unusedVariables false
/-- the call returned v and did nothing but draw -/
def Drew (w w' : World) : Prop := ∃ n, w' = w.drewN n
theorem Drew.refl (w : World) : Drew w w := ⟨0, rfl⟩
theorem Drew.more {w w' : World} (h : Drew w w') (m : Nat) : Drew w (w'.drewN m) := by
  obtain ⟨n, rfl⟩ := h
  exact ⟨n + m, World.drewN_drewN _ _ _⟩
theorem Drew.trans {a b c : World} (h : Drew a b) (k : Drew b c) : Drew a c := by
  obtain ⟨m, rfl⟩ := k
  exact h.more m
theorem Drew.below {w w' : World} (h : Drew w w') (B : Nat) : Below B w w' := by
  obtain ⟨n, rfl⟩ := h
  exact ⟨rfl, rfl, rfl, Nat.le_refl _, fun _ _ => rfl⟩
theorem Drew.cell {w w' : World} (h : Drew w w') (a : Addr) : w'.cell? a = w.cell? a := by
  obtain ⟨n, rfl⟩ := h; rfl
theorem Drew.size {w w' : World} (h : Drew w w') : w'.heap.size = w.heap.size := by
  obtain ⟨n, rfl⟩ := h; rfl
def Quiet (v : Value) (w : World) (e : Ending) (w' : World) : Prop := e = .returned v ∧ Drew w w'
theorem Strs.drew {w w' : World} {B : Nat} {a : Option Addr} {l : List ByteArray} (h : Strs w B a l) (hd : Drew w w') : Strs w' B a l := by
  obtain ⟨n, rfl⟩ := hd; exact h
theorem Strs.drewN {w : World} {B : Nat} {a : Option Addr} {l : List ByteArray} (h : Strs w B a l) (n : Nat) : Strs (w.drewN n) B a l := h

set_option maxHeartbeats 400000 in
theorem eqStrings_yes (a a' : Option Addr) (l : List ByteArray) (c c' B B' : Nat) (w : World) (hl : Strs w B a l) (hl' : Strs w B' a' l) (hn : l.length ≤ 1048576) :
    Calls Try.prog 18 #[.slice a l.length c, .slice a' l.length c'] w (Quiet (.bool true) w) := by
  have HL := Lib.hid hl
  clear hl
  have HL' := Lib.hid hl'
  clear hl'
  go_enter Try.func18, Try.ntmps18
  go_wp2
  go_loopw [5] (fun i wr => ∃ k : Nat, k ≤ l.length ∧ i = .int .i64 k ∧ Drew w wr) (fun i _ => l.length - (intOf i).toNat)
  case atStart => exact ⟨0, Nat.zero_le _, rfl, Drew.refl w⟩
  case round =>
    obtain ⟨k, hk, rfl, hw⟩ := hrel
    by_cases hlt : k < l.length
    · obtain ⟨b, o, rfl, hb, hc⟩ := (HL.out.drew hw).at_ hlt
      obtain ⟨b', o', rfl, hb', hc'⟩ := (HL'.out.drew hw).at_ hlt
      generalize l[k] = x at *
      have hi : (k : Int) < (l.length : Int) := by omega
      have hi0 : (0 : Int) ≤ (k : Int) := by omega
      go_wp2
      go_quiet (fail)
      go_wp2
      go_roundw
      case rel => exact ⟨k + 1, by omega, by go_num, hw.more _⟩
      case measure => simp [intOf]; omega
    · go_wp2
      go_ret
      exact ⟨rfl, hw⟩
end Go.Proofs.Ytaloblbndonkkaa
