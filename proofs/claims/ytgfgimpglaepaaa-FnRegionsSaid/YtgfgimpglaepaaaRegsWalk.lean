/- The walk of FnRegions. -/
import Derived.Test.YtgfgimpglaepaaaRegDraw
import Derived.Test.YtgfgimpglaepaaaRegsMath
import Derived.Test.YtgfgimpglaepaaaRpImpl
import Derived.Test.YtgfgimpglaepaaaGrow
import Derived.Test.YtgfgimpglaepaaaGrowS
namespace Go.Proofs.Ytgfgimpglaepaaa
open Go.RowKit
set_option linter.unusedVariables false
set_option linter.unusedSimpArgs false
theorem Tabl.step {w w' : World} {a : Option Addr} {E : List (Nat × Nat)} {R : List (List Int)} (h : Tabl w 0 w.heap.size a E R) (hb : Below w.heap.size w w') : Tabl w' 0 w'.heap.size a E R :=
  (h.below hb (Nat.le_refl _)).more (Nat.le_refl _) hb.size
set_option maxHeartbeats 1000000 in
theorem vHasR_is (a : Option Addr) (l : List Int) (c B : Nat) (z : Int) (w : World) (hl : Ints .i64 w B a l) (hn : l.length ≤ 1048576) (hz : z ∈ l) :
    Calls Try.prog 23 #[.slice a l.length c, .int .i64 z] w fun e w' => e = .returned (.bool true) ∧ w = w' := by
  obtain ⟨m, hm, hmz⟩ := List.getElem_of_mem hz
  have HM := Lib.hid hmz
  have HL := Lib.hid hl
  clear hz hmz hl
  go_enter Try.func23, Try.ntmps23
  go_wp2
  go_loop [5] (fun i => ∃ k : Nat, k ≤ m ∧ i = .int .i64 k) (fun i => m + 1 - (intOf i).toNat)
  case atStart => exact ⟨0, Nat.zero_le _, rfl⟩
  case round =>
    obtain ⟨k, hk, rfl⟩ := hrel
    have hlt : k < l.length := by omega
    have hi : (k : Int) < (l.length : Int) := by omega
    have hi0 : (0 : Int) ≤ (k : Int) := by omega
    obtain ⟨b, o, rfl, hb, hc⟩ := HL.out.at_ hlt
    by_cases he : l[k] = z
    · have e1 : (l[k] == z) = true := by simp [he]
      have HE := Lib.hid he
      clear he
      generalize l[k] = y at *
      go_wp2
      go_ret
      exact ⟨rfl, rfl⟩
    · have e1 : (l[k] == z) = false := by simp [he]
      have hne : k ≠ m := fun e => he (by subst e; exact HM.out)
      clear he
      generalize l[k] = y at *
      go_wp2
      go_round
      case rel => exact ⟨k + 1, by omega, by go_num⟩
      case measure => simp [intOf]; omega
set_option maxRecDepth 100000 in
set_option maxHeartbeats 16000000 in
theorem walk_Regions (a : Option Addr) (l : List Int) (c : Nat) (w : World) (hi : Ints .u8 w w.heap.size a l) (hb : ∀ z ∈ l, 0 ≤ z ∧ z ≤ 255) (hlm : l.length ≤ maxLen) :
    Calls Try.prog 3 #[.slice a l.length c] w fun e w' => e = .returned (.bool true) ∧ Below w.heap.size w w' := by
  unfold maxLen at hlm
  by_cases hbig : (65536 : Int) < (l.length : Int)
  · clear hi hb
    go_enter Try.func3, Try.ntmps3
    go_wp2
    go_ret
    exact ⟨rfl, Below.refl _ _⟩
  · have HI := Lib.hid hi
    have HBY := Lib.hid hb
    have hl : l.length ≤ 65536 := by omega
    clear hi hb hlm
    go_enter Try.func3, Try.ntmps3
    go_wp2_with (first | (go_at_call 13; go_in) | fail)
    refine (drawReg_any _ a l c HI.out HBY.out (by omega)).mono ?_
    rintro e w1 ⟨wd, hg, L, a1, c1, hL, rfl, o1, b1⟩
    have I1 := Lib.hid o1.ints
    have G1 := Lib.hid b1
    have nL : L.length ≤ 1048576 := by omega
    clear o1 b1 HI HBY
    have HC1 := Lib.hid (fun W h => implParts_any wd hg a1 L c1 W h nL)
    have HC2 := Lib.hid (fun W h => specParts_any wd hg a1 L c1 W h nL)
    unfold TabPost at HC1 HC2
    obtain ⟨hs1, hs2, hs3⟩ := parts_small (wd := wd) (hg := hg) (l := L)
    cases hrg : regB wd hg L with
    | false =>
      rw [hrg] at HC1 HC2
      have HR0 := Lib.hid (show (partsR wd hg L).length = 0 by rw [partsR_no hrg]; rfl)
      have HROW := Lib.hid hs1
      clear hs1 hrg hs3
      generalize partsR wd hg L = R at *
      go_wp2_with fail
      refine (HC1.out _ I1.out).mono ?_
      rintro e w2 ⟨a2, c2, E2, rfl, t2, b2⟩
      have G2 := Lib.hid (below_then G1.out b2)
      have I2 := Lib.hid (ints_below I1.out b2)
      have P2 := Lib.hid (t2.more (C := 0) (Nat.zero_le _) (Nat.le_refl _))
      clear t2 b2 G1 I1
      go_wp2_with fail
      refine (HC2.out _ I2.out).mono ?_
      rintro e w3 ⟨a3, c3, E3, rfl, t3, b3⟩
      have G3 := Lib.hid (below_then G2.out b3)
      have P3 := Lib.hid (P2.out.step b3)
      have V3 := Lib.hid (t3.more (C := 0) (Nat.zero_le _) (Nat.le_refl _))
      clear t3 b3 G2 I2 P2
      go_wp2_with fail
      refine (vTable_yes _ _ _ _ R _ _ _ _ _ _ _ P3.out V3.out hs2 HROW.out).mono ?_
      rintro e w4 ⟨rfl, d4⟩
      have G4 := Lib.hid (below_then G3.out (d4.below _))
      clear d4
      rw [HR0.out]
      go_wp2
      go_ret
      exact ⟨rfl, G4.out⟩
    | true =>
      rw [hrg] at HC1 HC2
      have HROW := Lib.hid hs1
      have HONE := Lib.hid (show ∀ r ∈ partsR wd hg L, (partsR wd hg r).length = 1 ∧ regB wd hg r = true from fun r hr => by
        obtain ⟨f, hf, rfl⟩ := parts_each' hrg r hr
        exact ⟨by rw [parts_one hrg hf]; rfl, comp_reg hrg⟩)
      have HFL := Lib.hid (parts_flat hrg)
      have hp := prod_bd (reg_shape hrg)
      have hFl64 : (onesL (wd * hg).toNat L).length ≤ 64 := by rw [onesL_len]; omega
      have HF1 := Lib.hid (fun W h => implFld_any wd hg a1 L c1 W h nL)
      rw [fldR_yes hrg] at HF1
      unfold FRet at HF1
      simp only [rW, rH, rL, rB] at HF1
      have HA1 := Lib.hid (fun W a c h => implAbove_any wd hg a (onesL (wd * hg).toNat L) c 0 W h (by omega))
      rw [above_field hrg, ones_good (reg_shape hrg)] at HA1
      have HG1 := Lib.hid (fun W h => implGrow_any wd hg a1 L c1 W h nL)
      have HG2 := Lib.hid (fun W h => specGrow_any wd hg a1 L c1 W h nL)
      rw [hrg] at HG1 HG2
      unfold SvRet at HA1 HG1 HG2
      have HGH := Lib.hid (grow_has hrg)
      have hGw := growR_len wd hg L
      have nG : (growR wd hg L).length ≤ 1048576 := by omega
      clear hs1 hrg hp
      generalize growR wd hg L = Gw at *
      generalize onesL (wd * hg).toNat L = Fl at *
      generalize partsR wd hg L = R at *
      go_wp2_with fail
      refine (HC1.out _ I1.out).mono ?_
      rintro e w2 ⟨a2, c2, E2, rfl, t2, b2⟩
      have G2 := Lib.hid (below_then G1.out b2)
      have I2 := Lib.hid (ints_below I1.out b2)
      have P2 := Lib.hid (t2.more (C := 0) (Nat.zero_le _) (Nat.le_refl _))
      clear t2 b2 G1 I1
      go_wp2_with fail
      refine (HC2.out _ I2.out).mono ?_
      rintro e w3 ⟨a3, c3, E3, rfl, t3, b3⟩
      have G3 := Lib.hid (below_then G2.out b3)
      have I3 := Lib.hid (ints_below I2.out b3)
      have P3 := Lib.hid (P2.out.step b3)
      have V3 := Lib.hid (t3.more (C := 0) (Nat.zero_le _) (Nat.le_refl _))
      clear t3 b3 G2 I2 P2
      go_wp2_with fail
      refine (vTable_yes _ _ _ _ R _ _ _ _ _ _ _ P3.out V3.out hs2 HROW.out).mono ?_
      rintro e w4 ⟨rfl, d4⟩
      have G4 := Lib.hid (below_then G3.out (d4.below _))
      have I4 := Lib.hid (ints_below I3.out (d4.below _))
      have P4 := Lib.hid (P3.out.step (d4.below _))
      clear d4 G3 I3 P3 V3 HC1 HC2
      go_wp2
      go_loopw [10, 11] (fun nv iv wr => ∃ k : Nat, k ≤ R.length ∧ iv = .int .i64 k ∧ nv = .int .i64 (offs R k : Nat) ∧ Below w4.heap.size w4 wr) (fun _ iv _ => R.length - (intOf iv).toNat)
      case atStart => exact ⟨0, Nat.zero_le _, rfl, by rw [offs_zero]; rfl, Below.refl _ _⟩
      case round =>
        rename World => w5
        obtain ⟨k, hk, rfl, rfl, hB⟩ := hrel
        have HB := Lib.hid hB
        clear hB
        by_cases hlt : k < R.length
        · have hi : (k : Int) < (R.length : Int) := by omega
          have hi0 : (0 : Int) ≤ (k : Int) := by omega
          have P5 := Lib.hid (P4.out.step HB.out)
          obtain ⟨g, he, rfl, _, hc⟩ := P5.out.at_ hlt
          have HI5 := Lib.hid (P5.out.ints he hlt)
          have HST := Lib.hid (offs_step hlt)
          have hle1 := offs_le R (k + 1)
          rw [HST.out] at hle1
          obtain ⟨hq1, hq2⟩ := HONE.out R[k] (List.getElem_mem hlt)
          have hrk := HROW.out R[k] (List.getElem_mem hlt)
          have HCP := Lib.hid (fun W h => implParts_any wd hg (some ⟨(E2[k]'he).1, 0, none⟩) (R[k]'hlt) (E2[k]'he).2 W h hrk)
          rw [hq2] at HCP
          unfold TabPost at HCP
          unfold entV at hc
          have hsum : (offs R k : Int) + (R[k].length : Int) ≤ 1048576 := by omega
          clear hq2 hrk hle1
          generalize offs R k = ok at *
          generalize partsR wd hg R[k] = Q at *
          generalize E2[k] = e1 at *
          generalize R[k] = r at *
          go_wp2_with fail
          refine (HCP.out _ HI5.out).mono ?_
          rintro e w6 ⟨a6, c6, E6, rfl, t6, b6⟩
          have HB6 := Lib.hid (below_then HB.out b6)
          clear t6 b6
          go_wp2
          go_roundw
          case rel => exact ⟨k + 1, by omega, by go_num, by rw [HST.out]; push_cast; rfl, HB6.out⟩
          case measure => simp [intOf]; omega
        · obtain rfl : k = R.length := by omega
          rw [offs_all, HFL.out]
          have G5 := Lib.hid (below_then G4.out HB.out)
          have I5 := Lib.hid (ints_below I4.out HB.out)
          clear G4 I4 P4 HB HONE HFL HROW hs3
          go_wp2_with fail
          refine (HF1.out _ I5.out).mono ?_
          rintro e w6 ⟨a6, c6, rfl, o6, b6⟩
          have X6 := Lib.hid (Box.new w6 32 (.int .i64 wd) (.int .i64 hg) (.slice a6 Fl.length c6))
          have IF6 := Lib.hid (ints_alloc o6.ints (.cells #[.int .i64 wd, .int .i64 hg, .slice a6 Fl.length c6] 32))
          have G6 := Lib.hid (below_then (below_then G5.out b6) (below_all w6 (.cells #[.int .i64 wd, .int .i64 hg, .slice a6 Fl.length c6] 32)))
          have I6 := Lib.hid (ints_below (ints_below I5.out b6) (below_all w6 (.cells #[.int .i64 wd, .int .i64 hg, .slice a6 Fl.length c6] 32)))
          clear o6 b6 G5 I5
          go_wp2_with fail
          refine (HA1.out _ _ _ IF6.out).mono ?_
          rintro e w7 ⟨a7, c7, rfl, o7, b7⟩
          have G7 := Lib.hid (below_then G6.out b7)
          have I7 := Lib.hid (ints_below I6.out b7)
          have B7 := Lib.hid o7.ints
          clear o7 b7 G6 I6 IF6 X6
          go_wp2_with fail
          refine (HG1.out _ I7.out).mono ?_
          rintro e w8 ⟨a8, c8, rfl, o8, b8⟩
          have G8 := Lib.hid (below_then G7.out b8)
          have I8 := Lib.hid (ints_below I7.out b8)
          have B8 := Lib.hid (ints_below B7.out b8)
          have W8 := Lib.hid o8.ints
          clear o8 b8 G7 I7 B7
          go_wp2_with fail
          refine (HG2.out _ I8.out).mono ?_
          rintro e w9 ⟨a9, c9, rfl, o9, b9⟩
          have G9 := Lib.hid (below_then G8.out b9)
          have I9 := Lib.hid (ints_below I8.out b9)
          have B9 := Lib.hid (ints_below B8.out b9)
          have W9 := Lib.hid (ints_below W8.out b9)
          have V9 := Lib.hid o9.ints
          clear o9 b9 G8 I8 B8 W8
          go_wp2_with fail
          refine (vInts_yes a8 a9 Gw c8 c9 _ _ _ W9.out V9.out nG).mono ?_
          rintro e w10 ⟨rfl, d10⟩
          have G10 := Lib.hid (below_then G9.out (d10.below _))
          have I10 := Lib.hid (ints_below I9.out (d10.below _))
          have B10 := Lib.hid (ints_below B9.out (d10.below _))
          have W10 := Lib.hid (ints_below W9.out (d10.below _))
          clear d10 G9 I9 B9 W9 V9
          go_wp2
          go_loop [22] (fun i => ∃ k : Nat, k ≤ L.length ∧ i = .int .i64 k) (fun i => L.length - (intOf i).toNat)
          case atStart => exact ⟨0, Nat.zero_le _, rfl⟩
          case round =>
            obtain ⟨k, hk2, rfl⟩ := hrel
            by_cases hlt2 : k < L.length
            · obtain ⟨b, o, rfl, hb, hc⟩ := I10.out.at_ hlt2
              have hi : (k : Int) < (L.length : Int) := by omega
              have hi0 : (0 : Int) ≤ (k : Int) := by omega
              have HH := Lib.hid (fun W h => vHasR_is a8 Gw c8 W.heap.size L[k] W h nG (HGH.out _ (List.getElem_mem hlt2)))
              generalize L[k] = z at *
              go_wp2_with fail
              refine (HH.out _ W10.out).mono ?_
              rintro e w11 ⟨rfl, rfl⟩
              go_wp2
              go_round
              case rel => exact ⟨k + 1, by omega, by go_num⟩
              case measure => simp [intOf]; omega
            · obtain rfl : k = L.length := by omega
              go_wp2_with fail
              refine (vInts_yes a7 a1 L c7 c1 _ _ _ B10.out I10.out nL).mono ?_
              rintro e w12 ⟨rfl, d12⟩
              have G12 := Lib.hid (below_then G10.out (d12.below _))
              clear d12
              go_wp2
              go_ret
              exact ⟨rfl, G12.out⟩
end Go.Proofs.Ytgfgimpglaepaaa
