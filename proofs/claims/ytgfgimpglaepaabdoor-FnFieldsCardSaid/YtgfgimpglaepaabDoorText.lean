/- FieldText, the model's and the program's. -/
import Derived.Test.YtgfgimpglaepaabDoorTextMath
import Derived.Test.YtgfgimpglaepaabDoorHas
import Derived.Test.YtgfgimpglaepaabDoorFormat
import Derived.Test.YtgfgimpglaepaabDoorBuilder
namespace Go.Proofs.YtgfgimpglaepaabDoor
open Go.RowKit
set_option linter.unusedVariables false
set_option linter.unusedSimpArgs false
/-- what the model's two loops keep -/
def TxtInv (w : World) (W H : Nat) (a : Option Addr) (l : List Int) (c : Nat) (wr : World) : Prop :=
  Box wr w.heap.size 26 (.int .i64 W) (.int .i64 H) (.slice a l.length c) ∧ Below w.heap.size w wr ∧ Ints .i64 wr wr.heap.size a l
theorem TxtInv.step {w wr w1 : World} {W H c : Nat} {a : Option Addr} {l : List Int} (h : TxtInv w W H a l c wr) (b : Below wr.heap.size wr w1) : TxtInv w W H a l c w1 := ⟨h.1.below b, below_then h.2.1 b, ints_below h.2.2 b⟩

set_option maxRecDepth 100000 in
set_option maxHeartbeats 4000000 in
theorem l2Text_any (W H : Nat) (a : Option Addr) (l : List Int) (c : Nat) (w : World) (hl : Ints .i64 w w.heap.size a l) (hW : 1 ≤ W) (hW8 : W ≤ 8) (hH : 1 ≤ H) (hH8 : H ≤ 8) (hLL : l.length = W * H) (hb : ∀ v ∈ l, -9999 ≤ v ∧ v ≤ 9000) :
    Calls Tryd.prog 45 #[.agg #[.int .i64 W, .int .i64 H, .slice a l.length c]] w fun e w' => e = .returned (.string ⟨(textT (chunks l W H)).toArray⟩) ∧ Below w.heap.size w w' := by
  have HLL := Lib.hid hLL
  have HBD := Lib.hid hb
  have h64 : l.length ≤ 64 := by rw [hLL]; exact Nat.mul_le_mul hW8 hH8
  have HI0 := Lib.hid (show TxtInv w W H a l c _ from ⟨Box.new w 26 (.int .i64 W) (.int .i64 H) (.slice a l.length c), below_all _ _, ints_alloc hl _⟩)
  clear hl hLL hb
  go_enter Tryd.func45, Tryd.ntmps45
  go_wp2
  go_loopw [3, 4] (fun s i wr => ∃ y : Nat, y ≤ H ∧ i = .int .i64 y ∧ s = .string ⟨(partT l W H y 0).toArray⟩ ∧ TxtInv w W H a l c wr) (fun _ i _ => H - (intOf i).toNat)
  case atStart => exact ⟨0, Nat.zero_le _, rfl, by rw [partT_zero], HI0.out⟩
  case round =>
    obtain ⟨y, hy, rfl, rfl, hT⟩ := hrel
    have HT := Lib.hid hT
    obtain ⟨k0, k1, k2⟩ := hT.1.cells
    clear hT HI0
    by_cases hlt : y < H
    · have hi : (y : Int) < (H : Int) := by omega
      go_wp2
      clear k0 k1 k2
      go_loopw [3, 5] (fun s i wr => ∃ x : Nat, x ≤ W ∧ i = .int .i64 x ∧ s = .string ⟨(partT l W H y x).toArray⟩ ∧ TxtInv w W H a l c wr) (fun _ i _ => W - (intOf i).toNat)
      case atStart => exact ⟨0, Nat.zero_le _, rfl, rfl, HT.out⟩
      case round =>
        clear HT
        obtain ⟨x, hx, rfl, rfl, hT⟩ := hrel
        have HT := Lib.hid hT
        obtain ⟨k0, k1, k2⟩ := hT.1.cells
        clear hT
        by_cases hlt2 : x < W
        · have hi2 : (x : Int) < (W : Int) := by omega
          have hfit := chunk_fits hlt HLL.out
          have hkl : y * W + x < l.length := by omega
          have hkk : (y : Int) * (W : Int) + (x : Int) = ((y * W + x : Nat) : Int) := by push_cast; rfl
          have hY0 : 0 ≤ (y : Int) * (W : Int) := Int.mul_nonneg (by omega) (by omega)
          have hY1 : (y : Int) * (W : Int) ≤ 64 := by
            have h3 : ((y * W : Nat) : Int) = (y : Int) * (W : Int) := by push_cast; rfl
            omega
          have HAt := Lib.hid (fun wz h => specAt_any (W : Int) (H : Int) a l c wz.heap.size (x : Int) (y : Int) (y * W + x) wz h (Nat.le_refl _) hkl (by omega) hkk hY0 hY1 (by omega) (by omega))
          have hzb := HBD.out l[y * W + x] (List.getElem_mem hkl)
          have HPL := Lib.hid (partT_len (l := l) (W := W) (H := H) (y := y) (x := x) HBD.out hW8 (by omega) (by omega))
          have hpl := HPL.out
          have HST : Hid (∀ J, J = partT l W H y x → partT l W H y (x + 1) = (if x = 0 then J else J ++ [32]) ++ cellT l[y * W + x]) := Lib.hid (by
            intro J hJ
            by_cases e : x = 0
            · subst e
              rw [if_pos rfl, hJ]
              have := partT_first (l := l) (W := W) (H := H) (y := y) (by omega)
              simpa using this
            · rw [if_neg e, hJ]; exact partT_next (by omega) hkl)
          obtain ⟨J, hJ⟩ : ∃ J, partT l W H y x = J := ⟨_, rfl⟩
          have HJ := Lib.hid (HST.out J hJ.symm)
          have hJl : J.length ≤ 2000 := by rw [← hJ]; exact hpl
          rw [hJ]
          generalize l[y * W + x] = z at *
          clear hJ HST HPL hpl hkk hY0 hY1 hfit hkl
          have HNum := Lib.hid (fun wz => num_any z wz (by omega) (by omega))
          have hnl := Lib.itoa_length_le z (by omega) (by omega)
          by_cases hx0 : x = 0
          · subst hx0
            rw [if_pos rfl] at HJ
            go_wp2_with fail
            refine (HAt.out _ HT.out.2.2).mono ?_
            rintro e w2 ⟨rfl, b2⟩
            have HT2 := Lib.hid (HT.out.step b2)
            clear b2 k0 k1 k2
            by_cases hz : z = -9999
            · have hne : (z == -9999) = true := by simp [hz]
              rw [cellT_gone hz] at HJ
              clear hz HNum
              go_wp2
              go_roundw
              case rel => exact ⟨1, by omega, by go_num, by rw [HJ.out, cat_mk], HT2.out⟩
              case measure => simp [intOf]; omega
            · have hne : (z == -9999) = false := by simp [hz]
              rw [cellT_val hz] at HJ
              clear hz
              go_wp2_with (go_at_call 70; refine (HNum.out _).mono ?_; rintro e w3 ⟨rfl, d3⟩; have HT3 := Lib.hid (HT2.out.step (d3.below _)); clear d3)
              go_roundw
              case rel => exact ⟨1, by omega, by go_num, by rw [HJ.out, cat_mk], HT3.out⟩
              case measure => simp [intOf]; omega
          · rw [if_neg hx0] at HJ
            have hxp : (0 : Int) < (x : Int) := by omega
            go_wp2_with fail
            refine (HAt.out _ HT.out.2.2).mono ?_
            rintro e w2 ⟨rfl, b2⟩
            have HT2 := Lib.hid (HT.out.step b2)
            clear b2 k0 k1 k2
            by_cases hz : z = -9999
            · have hne : (z == -9999) = true := by simp [hz]
              rw [cellT_gone hz] at HJ
              clear hz HNum
              go_wp2
              go_roundw
              case rel => exact ⟨x + 1, by omega, by go_num, by rw [HJ.out, cat_mk, cat_mk], HT2.out⟩
              case measure => simp [intOf]; omega
            · have hne : (z == -9999) = false := by simp [hz]
              rw [cellT_val hz] at HJ
              clear hz
              go_wp2_with (go_at_call 70; refine (HNum.out _).mono ?_; rintro e w3 ⟨rfl, d3⟩; have HT3 := Lib.hid (HT2.out.step (d3.below _)); clear d3)
              go_roundw
              case rel => exact ⟨x + 1, by omega, by go_num, by rw [HJ.out, cat_mk, cat_mk], HT3.out⟩
              case measure => simp [intOf]; omega
        · obtain rfl : x = W := by omega
          have hpl := partT_len (l := l) (W := x) (H := H) (y := y) (x := x) HBD.out hW8 (by omega) (by omega)
          have HR := Lib.hid (partT_row (l := l) (W := x) (H := H) hlt)
          generalize partT l x H y x = J at *
          go_wp2
          go_roundw
          case rel => exact ⟨y + 1, by omega, by go_num, by rw [← HR.out, cat_mk], HT.out⟩
          case measure => simp [intOf]; omega
    · obtain rfl : y = H := by omega
      have HA := Lib.hid (partT_all l W y)
      rw [HA.out] at *
      go_wp2
      go_ret
      exact ⟨rfl, HT.out.2.1⟩
end Go.Proofs.YtgfgimpglaepaabDoor
