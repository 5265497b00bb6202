/- AgreeingCells, both programs. -/
import Derived.Test.YtpmfgghiiocccaaEnGood
import Derived.Test.YtpmfgghiiocccaaEnMem
import Derived.Test.YtpmfgghiiocccaaEnVals
import Derived.Test.YtpmfgghiiocccaaEnLeast
import Derived.Test.YtpmfgghiiocccaaNbRules
namespace Go.Proofs.Ytpmfgghiiocccaa
open Go.RowKit
set_option linter.unusedVariables false
set_option linter.unusedSimpArgs false
theorem agR_no {P : List Fv} {t : Int} (h : enB P = false) : agR P t = none := if_neg (by rw [h]; simp)
theorem agR_val {P : List Fv} {t : Int} (h : valB t = false) : agR P t = none := if_neg (by rw [h]; simp)
theorem agR_yes {es : List FE} {t : Int} {W H : Nat} (h : enB (plains es) = true) (hv : valB t = true) (h1 : hdW (plains es) = (W : Int)) (h2 : hdH (plains es) = (H : Int)) : agR (plains es) t = some (agN (plains es) t (W * H) : Int) := by
  unfold agR
  rw [h, hv, h1, h2, ← Int.natCast_mul, Int.toNat_natCast]
  rfl
theorem ag_iff {P : List Fv} {t : Int} {i : Nat} : agB P t i = true ↔ (colV P i).length = P.length ∧ (cntN t (colV P i) = 0 ∨ cntN t (colV P i) = P.length) := by unfold agB; simp
set_option maxRecDepth 100000 in
set_option maxHeartbeats 8000000 in
theorem specAg_any (a : Option Addr) (es : List FE) (c : Nat) (t : Int) (w : World) (hl : Flds w w.heap.size a es) (hn : es.length ≤ 1048576) (hs : ∀ e ∈ es, e.l.length ≤ 1048576) :
    Calls Try.prog 39 #[.slice a es.length c, .int .i64 t] w fun e w' => e = .returned (.tuple #[.int .i64 (onA (agR (plains es) t)), .bool (twO (agR (plains es) t))]) ∧ Below w.heap.size w w' := by
  have HC := Lib.hid (fun v hv => specEn_is a es c v w hl hn hs hv)
  have HL := Lib.hid hl
  clear hl hs
  cases he : enB (plains es) with
  | false =>
    rw [agR_no he]
    have HD := Lib.hid (HC.out false he)
    clear he HC
    go_enter Try.func39, Try.ntmps39
    go_wp2_with (go_at_call 43; refine HD.out.mono ?_; rintro e w1 ⟨rfl, b1⟩; have HB := Lib.hid b1; clear b1)
    go_ret2
    exact ⟨rfl, HB.out⟩
  | true =>
    have HD := Lib.hid (HC.out true he)
    cases hv : valB t with
    | false =>
      rw [agR_val hv]
      have HV := Lib.hid (fun W => specThr_is t false W hv)
      clear he HC hv
      go_enter Try.func39, Try.ntmps39
      go_wp2_with (first | (go_at_call 43; refine HD.out.mono ?_; rintro e w1 ⟨rfl, b1⟩; have HB := Lib.hid b1; clear b1) | (go_at_call 45; refine (HV.out _).mono ?_; rintro e w2 ⟨rfl, rfl⟩))
      go_ret2
      exact ⟨rfl, HB.out⟩
    | true =>
      have HV := Lib.hid (fun W => specThr_is t true W hv)
      obtain ⟨W, H, hok, hW, hH⟩ := okE_of he
      rw [agR_yes he hv hW hH]
      have h0 : 0 < es.length := by have := hok.n; omega
      have hn8 : es.length ≤ 8 := hok.n.2
      have hle := hok.le
      obtain ⟨n, hn1⟩ : ∃ n, W * H = n := ⟨_, rfl⟩
      have HM := Lib.hid (fun k (hk : k < n) Wd h => enVals_any W H a es c k Wd hok (by rw [hn1]; exact hk) h)
      have HVL := Lib.hid (fun k => (show (colV (plains es) k).length ≤ 8 from by have := colV_le (plains es) k; rw [plains_len] at this; omega))
      obtain ⟨b, o, eg2, hb, _, _, q2, _⟩ := HL.out.at_ h0
      subst eg2
      have e2 := (hok.e 0 h0).2.2.1
      rw [e2, hn1] at q2
      simp only [Nat.zero_mul, Nat.add_zero, Nat.zero_add] at q2
      have HQ := Lib.hid q2
      have h00 : (0 : Int) < (es.length : Int) := by omega
      rw [hn1] at hle ⊢
      have hn64 : n ≤ 64 := hle.1
      have HAY := Lib.hid (fun (k : Nat) h => agN_yes (P := plains es) (t := t) (n := k) h)
      have HAN := Lib.hid (fun (k : Nat) h => agN_no (P := plains es) (t := t) (n := k) h)
      have HAL := Lib.hid (agN_le (plains es) t)
      have HAI := Lib.hid (fun k => ag_iff (P := plains es) (t := t) (i := k))
      have HPL := Lib.hid (plains_len es)
      have HA0 := Lib.hid (agN_zero (plains es) t)
      rw [HPL.out] at HAI
      clear he HC hv hok hW hH hle q2 e2 hn1 HPL
      generalize (es[0]'h0).ad = ad at *
      generalize (es[0]'h0).c = cd at *
      generalize agN (plains es) t = AG at *
      go_enter Try.func39, Try.ntmps39
      go_wp2_with fail
      refine HD.out.mono ?_
      rintro e w1 ⟨rfl, b1⟩
      have B1 := Lib.hid b1
      have k2 := (b1.cell (p := ⟨b, o + 2, none⟩) hb).trans HQ.out
      clear b1
      go_wp2_with (first | (go_at_call 45; refine (HV.out _).mono ?_; rintro e w2 ⟨rfl, rfl⟩))
      clear k2
      go_loopw [6, 7] (fun s i wr => ∃ k : Nat, k ≤ n ∧ i = .int .i64 k ∧ s = .int .i64 (AG k : Int) ∧ Below w.heap.size w wr) (fun _ i _ => n - (intOf i).toNat)
      case atStart => exact ⟨0, Nat.zero_le _, rfl, by rw [HA0.out]; rfl, B1.out⟩
      case round =>
        obtain ⟨k, hk, rfl, rfl, hB⟩ := hrel
        have HB := Lib.hid hB
        have k2 := (hB.cell (p := ⟨b, o + 2, none⟩) hb).trans HQ.out
        clear hB B1
        by_cases hlt : k < n
        · have hki : (k : Int) < (n : Int) := by omega
          have hk0 : (0 : Int) ≤ (k : Int) := by omega
          have hag := HAL.out k
          have HMk := Lib.hid (fun Wd h => HM.out k hlt Wd h)
          have HVn := HVL.out k
          have HI := Lib.hid (HAI.out k)
          have HY := Lib.hid (HAY.out k)
          have HN := Lib.hid (HAN.out k)
          generalize colV (plains es) k = vs at *
          generalize AG k = ag at *
          generalize agB (plains es) t k = bb at *
          go_wp2_with fail
          refine (HMk.out _ ((HL.out.below HB.out (Nat.le_refl _)).more HB.out.size)).mono ?_
          rintro e w5 ⟨a5, c5, rfl, o5, b5⟩
          have O5 := Lib.hid o5.ints
          have B5 := Lib.hid (HB.out.trans (b5.mono HB.out.size))
          clear o5 b5
          have HCT := Lib.hid (fun (a : Option Addr) (c : Nat) W h => specLeast_is a (insAll vs) c w5.heap.size t W h (by rw [insAll_len]; omega))
          have hpm : cntN t (insAll vs) = cntN t vs := cnt_perm (insAll_perm vs)
          rw [hpm] at HCT
          have hlv : (insAll vs).length = vs.length := insAll_len vs
          clear hpm
          generalize insAll vs = sv at *
          generalize sv.length = lv at *
          have hml := cnt_le t vs
          generalize cntN t vs = m at *
          by_cases q1 : lv = es.length
          · have p1 : ((lv : Int) == (es.length : Int)) = true := by rw [beq_iff_eq]; omega
            by_cases q2 : m = 0
            · have HE := Lib.hid (HY.out (HI.out.2 ⟨by omega, .inl q2⟩))
              have p2 : ((m : Int) == 0) = true := by rw [beq_iff_eq]; omega
              clear HY HN HI hml hlv
              subst q1 q2
              go_wp2_with (go_at_call 48; refine (HCT.out _ _ _ O5.out).mono ?_; rintro e w6 ⟨rfl, rfl⟩)
              go_roundw
              case rel => exact ⟨k + 1, by omega, by go_num, by rw [HE.out]; go_num, B5.out⟩
              case measure => simp [intOf]; omega
            · have p2 : ((m : Int) == 0) = false := by rw [beq_eq_false_iff_ne]; omega
              by_cases q3 : m = es.length
              · have HE := Lib.hid (HY.out (HI.out.2 ⟨by omega, .inr q3⟩))
                have p3 : ((m : Int) == (es.length : Int)) = true := by rw [beq_iff_eq]; omega
                clear HY HN HI hml hlv
                subst q1 q3
                go_wp2_with (go_at_call 48; refine (HCT.out _ _ _ O5.out).mono ?_; rintro e w6 ⟨rfl, rfl⟩)
                go_roundw
                case rel => exact ⟨k + 1, by omega, by go_num, by rw [HE.out]; go_num, B5.out⟩
                case measure => simp [intOf]; omega
              · have HE := Lib.hid (HN.out (by rw [← Bool.not_eq_true, HI.out]; omega))
                have p3 : ((m : Int) == (es.length : Int)) = false := by rw [beq_eq_false_iff_ne]; omega
                clear HY HN HI hml hlv
                subst q1
                go_wp2_with (go_at_call 48; refine (HCT.out _ _ _ O5.out).mono ?_; rintro e w6 ⟨rfl, rfl⟩)
                go_roundw
                case rel => exact ⟨k + 1, by omega, by go_num, by rw [HE.out], B5.out⟩
                case measure => simp [intOf]; omega
          · have HE := Lib.hid (HN.out (by rw [← Bool.not_eq_true, HI.out]; omega))
            have p1 : ((lv : Int) == (es.length : Int)) = false := by rw [beq_eq_false_iff_ne]; omega
            clear HY HN HI hml hlv
            go_wp2_with (go_at_call 48; refine (HCT.out _ _ _ O5.out).mono ?_; rintro e w6 ⟨rfl, rfl⟩)
            go_roundw
            case rel => exact ⟨k + 1, by omega, by go_num, by rw [HE.out], B5.out⟩
            case measure => simp [intOf]; omega
        · obtain rfl : k = n := by omega
          go_wp2
          go_ret2
          exact ⟨rfl, HB.out⟩
set_option maxRecDepth 100000 in
set_option maxHeartbeats 8000000 in
theorem implAg_any (g : Nat) (es : List FE) (c : Nat) (t : Int) (w : World) (hl : Flds w w.heap.size (some ⟨g, 0, none⟩) es) (hn : es.length ≤ 1048576) (hs : ∀ e ∈ es, e.l.length ≤ 1048576) :
    Calls Try.prog 40 #[.slice (some ⟨g, 0, none⟩) es.length c, .int .i64 t] w fun e w' => e = .returned (.tuple #[.int .i64 (onA (agR (plains es) t)), .bool (twO (agR (plains es) t))]) ∧ Below w.heap.size w w' := by
  have HC := Lib.hid (fun v hv => implEn_is g es c v w hl hn hs hv)
  have HL := Lib.hid hl
  clear hl hs
  cases he : enB (plains es) with
  | false =>
    rw [agR_no he]
    have HD := Lib.hid (HC.out false he)
    clear he HC
    go_enter Try.func40, Try.ntmps40
    go_wp2_with (go_at_call 16; refine HD.out.mono ?_; rintro e w1 ⟨rfl, b1⟩; have HB := Lib.hid b1; clear b1)
    go_ret2
    exact ⟨rfl, HB.out⟩
  | true =>
    have HD := Lib.hid (HC.out true he)
    cases hv : valB t with
    | false =>
      rw [agR_val hv]
      have HV := Lib.hid (fun W => implValue_is t false W hv)
      clear he HC hv
      go_enter Try.func40, Try.ntmps40
      go_wp2_with (first | (go_at_call 16; refine HD.out.mono ?_; rintro e w1 ⟨rfl, b1⟩; have HB := Lib.hid b1; clear b1) | (go_at_call 49; refine (HV.out _).mono ?_; rintro e w2 ⟨rfl, rfl⟩))
      go_ret2
      exact ⟨rfl, HB.out⟩
    | true =>
      have HV := Lib.hid (fun W => implValue_is t true W hv)
      obtain ⟨W, H, hok, hW, hH⟩ := okE_of he
      rw [agR_yes he hv hW hH]
      have h0 : 0 < es.length := by have := hok.n; omega
      have hn8 : es.length ≤ 8 := hok.n.2
      have hle := hok.le
      obtain ⟨n, hn1⟩ : ∃ n, W * H = n := ⟨_, rfl⟩
      have HM := Lib.hid (fun k (hk : k < n) Wd h => memVals_any W H (some ⟨g, 0, none⟩) es c k Wd hok (by rw [hn1]; exact hk) h)
      have HVL := Lib.hid (fun k => (show (colV (plains es) k).length ≤ 8 from by have := colV_le (plains es) k; rw [plains_len] at this; omega))
      obtain ⟨b, o, eg2, hb, _, _, q2, _⟩ := HL.out.at_ h0
      injection eg2 with eg2
      injection eg2 with e1 e2
      subst e1 e2
      have e2 := (hok.e 0 h0).2.2.1
      rw [e2, hn1] at q2
      simp only [Nat.zero_mul, Nat.add_zero, Nat.zero_add] at q2
      have HQ := Lib.hid q2
      have h00 : (0 : Int) < (es.length : Int) := by omega
      rw [hn1] at hle ⊢
      have hn64 : n ≤ 64 := hle.1
      have HAY := Lib.hid (fun (k : Nat) h => agN_yes (P := plains es) (t := t) (n := k) h)
      have HAN := Lib.hid (fun (k : Nat) h => agN_no (P := plains es) (t := t) (n := k) h)
      have HAL := Lib.hid (agN_le (plains es) t)
      have HAI := Lib.hid (fun k => ag_iff (P := plains es) (t := t) (i := k))
      have HPL := Lib.hid (plains_len es)
      have HA0 := Lib.hid (agN_zero (plains es) t)
      rw [HPL.out] at HAI
      clear he HC hv hok hW hH hle q2 e2 hn1 HPL
      generalize (es[0]'h0).ad = ad at *
      generalize (es[0]'h0).c = cd at *
      generalize agN (plains es) t = AG at *
      go_enter Try.func40, Try.ntmps40
      go_wp2_with fail
      refine HD.out.mono ?_
      rintro e w1 ⟨rfl, b1⟩
      have B1 := Lib.hid b1
      have k2 := (b1.cell (p := ⟨g, 2, none⟩) hb).trans HQ.out
      clear b1
      go_wp2_with (first | (go_at_call 49; refine (HV.out _).mono ?_; rintro e w2 ⟨rfl, rfl⟩))
      clear k2
      go_loopw [6, 23] (fun s i wr => ∃ k : Nat, k ≤ n ∧ i = .int .i64 k ∧ s = .int .i64 (AG k : Int) ∧ Below w.heap.size w wr) (fun _ i _ => n - (intOf i).toNat)
      case atStart => exact ⟨0, Nat.zero_le _, rfl, by rw [HA0.out]; rfl, B1.out⟩
      case round =>
        obtain ⟨k, hk, rfl, rfl, hB⟩ := hrel
        have HB := Lib.hid hB
        have k2 := (hB.cell (p := ⟨g, 2, none⟩) hb).trans HQ.out
        clear hB B1
        by_cases hlt : k < n
        · have hki : (k : Int) < (n : Int) := by omega
          have hk0 : (0 : Int) ≤ (k : Int) := by omega
          have hag := HAL.out k
          have HMk := Lib.hid (fun Wd h => HM.out k hlt Wd h)
          have HVn := HVL.out k
          have HI := Lib.hid (HAI.out k)
          have HY := Lib.hid (HAY.out k)
          have HN := Lib.hid (HAN.out k)
          generalize colV (plains es) k = vs at *
          generalize AG k = ag at *
          generalize agB (plains es) t k = bb at *
          go_wp2_with fail
          refine (HMk.out _ ((HL.out.below HB.out (Nat.le_refl _)).more HB.out.size)).mono ?_
          rintro e w5 ⟨a5, c5, rfl, o5, b5⟩
          have O5 := Lib.hid o5.ints
          have B5 := Lib.hid (HB.out.trans (b5.mono HB.out.size))
          clear o5 b5
          have HCT := Lib.hid (fun (a : Option Addr) (c : Nat) W h => cntOf_is a vs c w5.heap.size t W h (by omega))
          have hlv : vs.length = vs.length := rfl
          generalize hlw : vs.length = lv at *
          have HLW := Lib.hid hlw
          clear hlw
          have hml := cnt_le t vs
          generalize cntN t vs = m at *
          by_cases q1 : lv = es.length
          · have p1 : ((lv : Int) == (es.length : Int)) = true := by rw [beq_iff_eq]; omega
            by_cases q2 : m = 0
            · have HE := Lib.hid (HY.out (HI.out.2 ⟨by omega, .inl q2⟩))
              have p2 : ((m : Int) == 0) = true := by rw [beq_iff_eq]; omega
              clear HY HN HI hml hlv
              subst q1 q2
              go_wp2_with (go_at_call 52; refine (HCT.out _ _ _ O5.out).mono ?_; rintro e w6 ⟨rfl, rfl⟩)
              go_roundw
              case rel => exact ⟨k + 1, by omega, by go_num, by rw [HE.out]; go_num, B5.out⟩
              case measure => simp [intOf]; omega
            · have p2 : ((m : Int) == 0) = false := by rw [beq_eq_false_iff_ne]; omega
              by_cases q3 : m = es.length
              · have HE := Lib.hid (HY.out (HI.out.2 ⟨by omega, .inr q3⟩))
                have p3 : ((m : Int) == (es.length : Int)) = true := by rw [beq_iff_eq]; omega
                clear HY HN HI hml hlv
                subst q1 q3
                go_wp2_with (go_at_call 52; refine (HCT.out _ _ _ O5.out).mono ?_; rintro e w6 ⟨rfl, rfl⟩)
                go_roundw
                case rel => exact ⟨k + 1, by omega, by go_num, by rw [HE.out]; go_num, B5.out⟩
                case measure => simp [intOf]; omega
              · have HE := Lib.hid (HN.out (by rw [← Bool.not_eq_true, HI.out]; omega))
                have p3 : ((m : Int) == (es.length : Int)) = false := by rw [beq_eq_false_iff_ne]; omega
                clear HY HN HI hml hlv
                subst q1
                go_wp2_with (go_at_call 52; refine (HCT.out _ _ _ O5.out).mono ?_; rintro e w6 ⟨rfl, rfl⟩)
                go_roundw
                case rel => exact ⟨k + 1, by omega, by go_num, by rw [HE.out], B5.out⟩
                case measure => simp [intOf]; omega
          · have HE := Lib.hid (HN.out (by rw [← Bool.not_eq_true, HI.out]; omega))
            have p1 : ((lv : Int) == (es.length : Int)) = false := by rw [beq_eq_false_iff_ne]; omega
            clear HY HN HI hml hlv
            go_wp2_with (go_at_call 52; refine (HCT.out _ _ _ O5.out).mono ?_; rintro e w6 ⟨rfl, rfl⟩)
            go_roundw
            case rel => exact ⟨k + 1, by omega, by go_num, by rw [HE.out], B5.out⟩
            case measure => simp [intOf]; omega
        · obtain rfl : k = n := by omega
          go_wp2
          go_ret2
          exact ⟨rfl, HB.out⟩
end Go.Proofs.Ytpmfgghiiocccaa
