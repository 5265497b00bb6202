/- The values of a field: valuesOf, and the three readers of them. -/
import Derived.Test.YtccplndimdmjpaaDoorMake
import Derived.Test.YtccplndimdmjpaaDoorHas
import Derived.Test.YtccplndimdmjpaaDoorValMath
import Derived.OwnWalk
import Derived.Maps.AppendAt
import Derived.IntWalk
namespace Go.Proofs.YtccplndimdmjpaaDoor
open Go.RowKit
set_option linter.unusedVariables false
set_option linter.unusedSimpArgs false
set_option maxHeartbeats 1000000 in
theorem valuesOf_any (wd hg : Int) (a : Option Addr) (l : List Int) (c : Nat) (w : World) (hl : Ints .i64 w w.heap.size a l) (hn : l.length ≤ 1048576) :
    Calls Tryd.prog 66 #[.agg #[.int .i64 wd, .int .i64 hg, .slice a l.length c]] w (IntsPost (vals l) w) := by
  obtain ⟨i0, hi0', hz0, hz1, hz2⟩ := info_parts infoInt
  have HL := Lib.hid hl
  clear hl
  go_enter Tryd.func66, Tryd.ntmps66
  go_wp2
  go_loopw [3, 10] (fun out i wr => ∃ k : Nat, k ≤ l.length ∧ i = .int .i64 k ∧
      wr.ownsRow w.heap.size 3 1 out (vals (l.take k)).length (iv (vals (l.take k))) ∧ (vals (l.take k)).length ≤ k ∧ Below w.heap.size w wr) (fun _ i _ => l.length - (intOf i).toNat)
  case atStart => exact ⟨0, Nat.zero_le _, rfl, (by have h := World.ownsRow_made (base := w.heap.size) (e := 3) (size := 1) (w.alloc (.cells #[.int .i64 wd, .int .i64 hg, .slice a l.length c] 32)) #[] 0 (by simp) (by simp) rfl; rw [World.size_alloc] at h; exact h), Nat.le_refl _, ((Below.refl _ _).alloc (Nat.le_refl _) _).alloc (by simp) _⟩
  case round =>
    obtain ⟨k, hk, rfl, hown, hcnt, hB⟩ := hrel
    have HO := Lib.hid hown
    have HB := Lib.hid hB
    clear hown hB
    by_cases hlt : k < l.length
    · have hi : (k : Int) < (l.length : Int) := by omega
      have hi0 : (0 : Int) ≤ (k : Int) := by omega
      obtain ⟨b, o, rfl, hb, hc⟩ := (HL.out.below HB.out (Nat.le_refl _)).at_ hlt
      have HT := Lib.hid (snoc_takeI l k hlt)
      generalize l[k] = z at *
      by_cases hz : z = -9999
      · have hne : (z != -9999) = false := by simp [hz]
        have HV := Lib.hid (vals_hit (l := l.take k) hz)
        rw [← HT.out] at HV
        clear hz
        go_wp2
        go_roundw
        case rel => exact ⟨k + 1, by omega, by go_num, by rw [HV.out]; exact HO.out, by rw [HV.out]; omega, HB.out⟩
        case measure => simp [intOf]; omega
      · have hne : (z != -9999) = true := by simp [hz]
        have HV := Lib.hid (vals_miss (l := l.take k) hz)
        rw [← HT.out] at HV
        clear hz
        generalize vals (l.take k) = vs at *
        go_wp2_with (at_builtin; refine wpList_append_own _ rfl _ _ 22 rfl w.heap.size 3 i0 (.int .i64 0) 1 8 Tryd.underlying22 hi0' hz0 hz1 hz2 rfl (by decide) _ vs.length (iv vs) rfl (HO.out.alloc _) ⟨wr.heap.size, 0, none⟩ 1 1 [.int .i64 z] rfl rfl (cell_one_new _ _ _) (by simp [Value.oneCell']) (by unfold maxLen; omega) (by omega) (by have := HB.out.size; simp; omega) ?_; intro v' w1 hown' hgrow _; have HO1 := Lib.hid hown'; have HG1 := Lib.hid hgrow; clear hown' hgrow)
        go_roundw
        case rel => exact ⟨k + 1, by omega, by go_num, by rw [HV.out, iv_snoc, List.length_append]; exact HO1.out, by rw [HV.out]; simp; omega, (HB.out.alloc HB.out.size _).grown HG1.out (by have := HB.out.size; simp; omega) (fun k hk => (HO.out.lt k hk).1)⟩
        case measure => simp [intOf]; omega
    · obtain rfl : k = l.length := by omega
      have HT := Lib.hid (List.take_of_length_le (Nat.le_refl l.length))
      rw [HT.out] at HO
      obtain ⟨a', c', hv, ho⟩ := ownI_of HO.out rfl
      subst hv
      have HO2 := Lib.hid ho
      clear ho HO hcnt
      go_wp2
      go_ret
      exact ⟨a', c', rfl, HO2.out, HB.out⟩

/-- what FieldTotal and CountMissing answer -/
def totN (wd hg : Int) (l : List Int) : Int := if goodB wd hg l = true then tot (vals l) else 0
def misN (wd hg : Int) (l : List Int) : Int := if goodB wd hg l = true then gone l else 0
theorem totN_yes {wd hg : Int} {l : List Int} (h : goodB wd hg l = true) : totN wd hg l = tot (vals l) := if_pos h
theorem totN_no {wd hg : Int} {l : List Int} (h : goodB wd hg l = false) : totN wd hg l = 0 := if_neg (by rw [h]; simp)
theorem misN_yes {wd hg : Int} {l : List Int} (h : goodB wd hg l = true) : misN wd hg l = gone l := if_pos h
theorem misN_no {wd hg : Int} {l : List Int} (h : goodB wd hg l = false) : misN wd hg l = 0 := if_neg (by rw [h]; simp)

set_option maxHeartbeats 1000000 in
theorem implTotal_any (wd hg : Int) (a : Option Addr) (l : List Int) (c : Nat) (w : World) (hl : Ints .i64 w w.heap.size a l) (hn : l.length ≤ 1048576) :
    Calls Tryd.prog 48 #[.agg #[.int .i64 wd, .int .i64 hg, .slice a l.length c]] w fun e w' => e = .returned (.tuple #[.int .i64 (totN wd hg l), .bool (goodB wd hg l)]) ∧ Below w.heap.size w w' := by
  have HL := Lib.hid (ints_alloc hl (.cells #[.int .i64 wd, .int .i64 hg, .slice a l.length c] 32))
  have X0 := Lib.hid (Box.new w 32 (.int .i64 wd) (.int .i64 hg) (.slice a l.length c))
  clear hl
  cases hgd : goodB wd hg l with
  | false =>
    rw [totN_no hgd]
    have HC := Lib.hid (implGood_is wd hg a l c _ false _ HL.out (Nat.le_refl _) hn hgd)
    clear hgd
    go_enter Tryd.func48, Tryd.ntmps48
    go_wp2_with (go_at_call 65; refine HC.out.mono ?_; rintro e w1 ⟨rfl, b⟩; have HB := Lib.hid b; clear b)
    go_ret2
    exact ⟨rfl, below_then (below_all _ _) HB.out⟩
  | true =>
    rw [totN_yes hgd]
    have HC := Lib.hid (implGood_is wd hg a l c _ true _ HL.out (Nat.le_refl _) hn hgd)
    have HVO := Lib.hid (fun W h => valuesOf_any wd hg a l c W h hn)
    have hvl := vals_le l
    have HBD := Lib.hid (vals_bd (good_bd hgd))
    have hle := good_le hgd
    generalize vals l = vs at *
    clear hgd
    go_enter Tryd.func48, Tryd.ntmps48
    go_wp2_with fail
    refine HC.out.mono ?_
    rintro e w1 ⟨rfl, b1⟩
    have HB1 := Lib.hid (below_then (below_all _ _) b1)
    have HL1 := Lib.hid (ints_below HL.out b1)
    obtain ⟨k0, k1, k2⟩ := (X0.out.below b1).cells
    clear b1 HL X0
    go_wp2_with fail
    refine (HVO.out _ HL1.out).mono ?_
    rintro e w2 ⟨a2, c2, rfl, o2, b2⟩
    have HB2 := Lib.hid (below_then HB1.out b2)
    have HI := Lib.hid o2.ints
    clear b2 o2 HB1
    go_wp2
    go_loop [4, 13] (fun s i => ∃ k : Nat, k ≤ vs.length ∧ i = .int .i64 k ∧ s = .int .i64 (tot (vs.take k))) (fun _ i => vs.length - (intOf i).toNat)
    case atStart => exact ⟨0, Nat.zero_le _, rfl, rfl⟩
    case round =>
      obtain ⟨k, hk, rfl, rfl⟩ := hrel
      have hbd := tot_take_bd k HBD.out (by omega)
      by_cases hlt : k < vs.length
      · have hi : (k : Int) < (vs.length : Int) := by omega
        have hi0 : (0 : Int) ≤ (k : Int) := by omega
        obtain ⟨b, o, rfl, hb, hc⟩ := HI.out.at_ hlt
        have HT := Lib.hid (snoc_takeI vs k hlt)
        have hzb := HBD.out vs[k] (List.getElem_mem hlt)
        generalize vs[k] = z at *
        have HS := Lib.hid (tot_snoc (vs.take k) z)
        go_wp2
        go_round
        case rel => exact ⟨k + 1, by omega, by go_num, by rw [HT.out, HS.out]⟩
        case measure => simp [intOf]; omega
      · obtain rfl : k = vs.length := by omega
        have HT := Lib.hid (List.take_of_length_le (Nat.le_refl vs.length))
        rw [HT.out] at *
        go_wp2
        go_ret2
        exact ⟨rfl, HB2.out⟩

set_option maxHeartbeats 1000000 in
theorem implMissing_any (wd hg : Int) (a : Option Addr) (l : List Int) (c : Nat) (w : World) (hl : Ints .i64 w w.heap.size a l) (hn : l.length ≤ 1048576) :
    Calls Tryd.prog 61 #[.agg #[.int .i64 wd, .int .i64 hg, .slice a l.length c]] w fun e w' => e = .returned (.tuple #[.int .i64 (misN wd hg l), .bool (goodB wd hg l)]) ∧ Below w.heap.size w w' := by
  have HL := Lib.hid (ints_alloc hl (.cells #[.int .i64 wd, .int .i64 hg, .slice a l.length c] 32))
  have X0 := Lib.hid (Box.new w 32 (.int .i64 wd) (.int .i64 hg) (.slice a l.length c))
  clear hl
  cases hgd : goodB wd hg l with
  | false =>
    rw [misN_no hgd]
    have HC := Lib.hid (implGood_is wd hg a l c _ false _ HL.out (Nat.le_refl _) hn hgd)
    clear hgd
    go_enter Tryd.func61, Tryd.ntmps61
    go_wp2_with (go_at_call 65; refine HC.out.mono ?_; rintro e w1 ⟨rfl, b⟩; have HB := Lib.hid b; clear b)
    go_ret2
    exact ⟨rfl, below_then (below_all _ _) HB.out⟩
  | true =>
    rw [misN_yes hgd]
    have HC := Lib.hid (implGood_is wd hg a l c _ true _ HL.out (Nat.le_refl _) hn hgd)
    have HVO := Lib.hid (fun W h => valuesOf_any wd hg a l c W h hn)
    have hvl := vals_le l
    have hle := good_le hgd
    unfold gone
    generalize vals l = vs at *
    clear hgd
    go_enter Tryd.func61, Tryd.ntmps61
    go_wp2_with fail
    refine HC.out.mono ?_
    rintro e w1 ⟨rfl, b1⟩
    have L1 := Lib.hid (ints_below (ints_below HL.out b1) (w' := w1.drew) ⟨rfl, rfl, rfl, Nat.le_refl _, fun _ _ => rfl⟩)
    have B1 := Lib.hid (below_then (below_then (below_all _ _) b1) (c := w1.drew) ⟨rfl, rfl, rfl, Nat.le_refl _, fun _ _ => rfl⟩)
    have X1 := Lib.hid ((X0.out.below b1).below (w' := w1.drew) ⟨rfl, rfl, rfl, Nat.le_refl _, fun _ _ => rfl⟩)
    obtain ⟨k0, k1, k2⟩ := (X0.out.below b1).cells
    clear b1 HL X0
    go_wp2_with fail
    go_region_held3 (fun w' => w'.cell? ⟨w.heap.size, 0, none⟩ = some (.int .i64 wd) ∧ w'.cell? ⟨w.heap.size, 1, none⟩ = some (.int .i64 hg) ∧ w'.cell? ⟨w.heap.size, 2, none⟩ = some (.slice a l.length c))
      (first | exact X2.out.cells | go_keep)
      (first
        | (go_at_call 66; refine (HVO.out _ L1.out).mono ?_; rintro e w2 ⟨a2, c2, rfl, o2, b2⟩; have X2 := Lib.hid (X1.out.below b2); have B2 := Lib.hid (below_then B1.out b2); clear b2 o2))
    go_wp2
    go_ret2
    refine ⟨?_, B2.out⟩
    show Ending.returned (.tuple #[.int .i64 (IntKind.i64.wrap ((l.length : Int) - (vs.length : Int))), .bool true]) = _
    rw [IntWalk.i64_in _ (by omega)]
end Go.Proofs.YtccplndimdmjpaaDoor
