/- The laws' own helpers on slices of texts: szStringS, toStringS, eqStringS. -/
import Derived.Test.YtaloblbndonkkaaChecked
import Derived.Test.YtaloblbndonkkaaMem
import Derived.WalkKit
import Derived.WalkLawsBesides
import Derived.WalkSpells
import Derived.Below
import Derived.Lib.Hide
import Derived.Deep.OwnRows
namespace Go.Proofs.Ytaloblbndonkkaa
open Go.RowKit
set_option linter.unusedVariables false

set_option maxHeartbeats 400000 in
theorem szStrings_any (a : Option Addr) (l : List ByteArray) (c B : Nat) (left : Int) (w : World) (hl : Strs w B a l) (hn : l.length ≤ maxLen) (hs : ∀ s ∈ l, s.size ≤ maxLen) (h0 : 0 ≤ left) (h1 : left ≤ 1048576) :
    Calls Try.prog 21 #[.slice a l.length c, .int .i64 left] w fun e w' => e = .returned (.int .i64 (szR l left)) ∧ w = w' := by
  unfold maxLen at hn
  have HL := Lib.hid hl
  clear hl
  have HSZ := Lib.hid hs
  clear hs
  by_cases hlen : left < (l.length : Int)
  · have HF := Lib.hid (szR_over l left 0 (by omega))
    go_enter Try.func21, Try.ntmps21
    go_wp2
    go_ret
    exact ⟨by rw [HF.out]; rfl, rfl⟩
  · go_enter Try.func21, Try.ntmps21
    go_wp2
    go_loop [1, 5] (fun r i => ∃ k : Nat, k ≤ l.length ∧ i = .int .i64 k ∧ r = .int .i64 (left - (l.length : Int) - (lenS (bs (l.take k)) : Int)) ∧ 0 ≤ left - (l.length : Int) - (lenS (bs (l.take k)) : Int)) (fun _ i => l.length - (intOf i).toNat)
    case atStart => exact ⟨0, Nat.zero_le _, rfl, by simp [bs, lenS], by simp [bs, lenS]; omega⟩
    case round =>
      obtain ⟨k, hk, rfl, rfl, hp⟩ := hrel
      by_cases hlt : k < l.length
      · obtain ⟨b, o, rfl, hb, hc⟩ := HL.out.at_ hlt
        have hst := lenS_step l k hlt
        have hss : l[k].size ≤ 9223372036854775807 := HSZ.out _ (List.getElem_mem hlt)
        have HO := Lib.hid (szR_over l left (k + 1))
        have HS := Lib.hid hst
        clear hst
        generalize lenS (bs (l.take k)) = s0 at *
        generalize l[k] = x at *
        by_cases hneg : left - (l.length : Int) - (s0 : Int) - (x.size : Int) < 0
        · have hf := HO.out (by have := HS.out; omega)
          have HF := Lib.hid hf
          clear hf
          go_wp2
          go_ret
          exact ⟨by rw [HF.out]; rfl, rfl⟩
        · go_wp2
          go_round
          case rel => exact ⟨k + 1, by omega, by go_num, by rw [HS.out]; go_num, by have := HS.out; omega⟩
          case measure => simp [intOf]; omega
      · have hf : szR l left = left - (l.length : Int) - (lenS (bs (l.take k)) : Int) := by
          rw [List.take_of_length_le (by omega)] at *; exact szR_fit l left (by omega)
        have HF := Lib.hid hf
        clear hf
        go_wp2
        go_ret
        exact ⟨by rw [HF.out]; rfl, rfl⟩

theorem info_string : (Try.prog.info? 9).map (fun i => (i.zero, i.size, i.bytes)) = some (some (.string ByteArray.empty), 1, 16) := by kernel_rfl

/-- the row of texts that toStringS lays, k of them copied -/
def copied (l : List ByteArray) (k : Nat) (j : Nat) : Value := .string (if j < k then l.getD j ByteArray.empty else ByteArray.empty)
theorem copied_step (l : List ByteArray) (k : Nat) (h : k < l.length) (j : Nat) : (if j = k then Value.string l[k] else copied l k j) = copied l (k + 1) j := by
  unfold copied
  by_cases e : j = k
  · subst e; simp [h]
  · rw [if_neg e]
    by_cases e2 : j < k
    · rw [if_pos e2, if_pos (by omega)]
    · rw [if_neg e2, if_neg (by omega)]
theorem copied_all (l : List ByteArray) (n : Nat) (hn : l.length ≤ n) (k : Nat) (h : k < l.length) : copied l n k = .string l[k] := by
  unfold copied
  rw [if_pos (by omega)]
  simp [h]

set_option maxHeartbeats 400000 in
theorem toStrings_any (a : Option Addr) (l : List ByteArray) (c : Nat) (w : World) (hl : Strs w w.heap.size a l) (hn : l.length ≤ 1048576) :
    Calls Try.prog 22 #[.slice a l.length c] w fun e w' => e = .returned (.slice (some ⟨w.heap.size, 0, none⟩) l.length l.length) ∧ Strs w' (w.heap.size + 1) (some ⟨w.heap.size, 0, none⟩) l ∧ Below w.heap.size w w' ∧ w.heap.size < w'.heap.size := by
  have HL := Lib.hid hl
  clear hl
  have hmk := fun W => run_make_row' (P := Try.prog) 26 9 (.string ByteArray.empty) 16 Try.underlying26 info_string rfl .i64 .i64 l.length (by omega) (by omega) W
  go_enter Try.func22, Try.ntmps22
  go_wp2
  clear hmk
  go_loopw [4] (fun i wr => ∃ k : Nat, k ≤ l.length ∧ i = .int .i64 k ∧ wr.rowIs w.heap.size 9 l.length (copied l k) ∧ Below w.heap.size w wr) (fun i _ => l.length - (intOf i).toNat)
  case atStart => exact ⟨0, Nat.zero_le _, rfl, (World.rowIs_made w (.string ByteArray.empty) l.length 9).congr (fun i _ => by simp [copied]), (Below.refl _ _).alloc (Nat.le_refl _) _⟩
  case round =>
    obtain ⟨k, hk, rfl, hrow, hB⟩ := hrel
    by_cases hlt : k < l.length
    · obtain ⟨b, o, rfl, hb, hc0⟩ := HL.out.at_ hlt
      have hc : wr.cell? ⟨b, o + k, none⟩ = some (.string l[k]) := (hB.cell (p := ⟨b, o + k, none⟩) hb).trans hc0
      clear hc0
      have hg := hrow.cell hlt
      have hf := hrow.frozen k
      have HR := Lib.hid hrow
      clear hrow
      have HBB := Lib.hid hB
      clear hB
      go_wp2
      go_roundw
      case rel => exact ⟨k + 1, by omega, by go_num, (HR.out.set k (.string l[k])).congr (fun j _ => copied_step l k hlt j), HBB.out.setCell (p := ⟨w.heap.size, k, none⟩) (Nat.le_refl _) _⟩
      case measure => simp [intOf]; omega
    · obtain rfl : k = l.length := by omega
      go_wp2
      go_ret
      exact ⟨rfl, Strs.of_row hrow rfl (fun j hj => copied_all l _ (Nat.le_refl _) j hj), hB, hrow.lt⟩
end Go.Proofs.Ytaloblbndonkkaa
