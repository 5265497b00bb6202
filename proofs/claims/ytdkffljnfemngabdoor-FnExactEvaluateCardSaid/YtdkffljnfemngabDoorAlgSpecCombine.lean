/- The model's field algebra. -/
import Derived.Test.YtdkffljnfemngabDoorSame
import Derived.Test.YtdkffljnfemngabDoorSet
import Derived.Test.YtdkffljnfemngabDoorPair
import Derived.Test.YtdkffljnfemngabDoorAlgRule
import Derived.Test.YtdkffljnfemngabDoorChk
import Derived.Deep.RegionHeld3
import Derived.IntWalk
namespace Go.Proofs.YtdkffljnfemngabDoor
open Go.RowKit
set_option linter.unusedVariables false
set_option linter.unusedSimpArgs false
theorem one_val {f : Int → Int} {x : Int} (hf : ∀ x, -9000 ≤ x → x ≤ 9000 → -9000 ≤ f x ∧ f x ≤ 9000) (hx : cellB x = true) (h : ¬ x = -9999) : ofV (fun a _ => f a) x x = f x := by
  rcases cellB_iff.1 hx with h1 | h1
  · exact absurd h1 h
  · exact ofV_yes (by omega) (valB_iff.2 (hf x h1.1 h1.2))
set_option maxRecDepth 100000 in
set_option maxHeartbeats 4000000 in
theorem l4Combine_any (op wa ha : Int) (aa : Option Addr) (la : List Int) (ca : Nat) (ab : Option Addr) (lb : List Int) (cb : Nat) (w : World) (h1 : Ints .i64 w w.heap.size aa la) (h2 : Ints .i64 w w.heap.size ab lb) (n1 : la.length ≤ 1048576) (n2 : lb.length ≤ 1048576) (hop : opB op = true) (hs : sameB wa ha la wa ha lb = true) :
    Calls Tryd.prog 67 #[.int .i64 op, .agg #[.int .i64 wa, .int .i64 ha, .slice aa la.length ca], .agg #[.int .i64 wa, .int .i64 ha, .slice ab lb.length cb]] w (FRet (combR (ofV (opF op)) wa ha la wa ha lb) w) := by
  have F1 := Lib.hid (Fr2.new (wd0 := wa) (hg0 := ha) (c0 := ca) (wd1 := wa) (hg1 := ha) (c1 := cb) h1 h2)
  obtain ⟨ga, gb, -, -⟩ := same_iff.1 hs
  have hp := good_le ga
  have HL := Lib.hid (same_len hs)
  have HCELL := Lib.hid (good_cell ga)
  have HCELL2 := Lib.hid (good_cell gb)
  have HSF := Lib.hid hs
  have HOP := Lib.hid hop
  have HO := Lib.hid (fun W h => l2Own_any wa ha aa la ca W h n1 (by omega))
  clear h1 h2 ga gb hs hop
  cases hv : fitsR (opF op) la lb la.length with
  | false =>
    rw [comb_over _ HSF.out hv]
    have HV := Lib.hid hv
    clear hv
    go_enter Tryd.func67, Tryd.ntmps67
    obtain ⟨k0, k1, k2⟩ := F1.out.k0.cells
    go_wp2_with fail
    refine (HO.out _ F1.out.i0).mono ?_
    rintro e w2 ⟨a2, c2, rfl, o2, b2⟩
    have z1 := F1.out.r.lt
    have z2 := b2.size
    obtain ⟨g, hg1, hg2⟩ := o2
    rcases hg2 with hnil | ⟨rfl, hrow⟩
    · rw [hnil] at hp; simp at hp
    · have F2 := Lib.hid (F1.out.step b2)
      have HROW := Lib.hid hrow
      have hglt := hrow.lt
      clear b2 hrow F1 HO k0 k1 k2
      obtain ⟨k0, k1, k2⟩ := F2.out.k0.cells
      have hne1 : ¬ w2.heap.size = g := by omega
      have hne2 : ¬ g = w2.heap.size := by omega
      have hgb : w.heap.size + 3 ≤ g := by omega
      have X0 := Box.new w2 41 (.int .i64 wa) (.int .i64 ha) (.slice (some ⟨g, 0, none⟩) la.length c2)
      have F3 := F2.out.step (below_all w2 (.cells #[.int .i64 wa, .int .i64 ha, .slice (some ⟨g, 0, none⟩) la.length c2] 41))
      have R3 := HROW.out.alloc (.cells #[.int .i64 wa, .int .i64 ha, .slice (some ⟨g, 0, none⟩) la.length c2] 41)
      go_wp2
      clear k0 k1 k2
      obtain ⟨W, hW⟩ : ∃ W, w2.alloc (.cells #[.int .i64 wa, .int .i64 ha, .slice (some ⟨g, 0, none⟩) la.length c2] 41) = W := ⟨_, rfl⟩
      obtain ⟨q, hq⟩ : ∃ q, w2.heap.size = q := ⟨_, rfl⟩
      rw [hW] at X0 F3 R3 ⊢
      rw [hq] at X0 hne1 hne2 ⊢
      have hq1 : w.heap.size + 3 ≤ q := by omega
      have HX0 := Lib.hid X0
      have HF3 := Lib.hid F3
      have HR3 := Lib.hid R3
      clear X0 F3 R3 hW F2 HROW
      clear hq
      go_loopw [9, 10] (fun ok i wr => ∃ k : Nat, k ≤ la.length ∧ i = .int .i64 k ∧ Fr2 w wa ha aa la ca wa ha ab lb cb wr ∧ Box wr q 41 (.int .i64 wa) (.int .i64 ha) (.slice (some ⟨g, 0, none⟩) la.length c2) ∧ Row wr g 3 (iv (mixR (rawV (opF op)) la lb k)) ∧ ok = .bool (fitsR (opF op) la lb k)) (fun _ i _ => la.length - (intOf i).toNat)
      case atStart => exact ⟨0, Nat.zero_le _, rfl, HF3.out, HX0.out, by rw [mix_zero]; exact HR3.out, by rw [fits_zero]⟩
      case round =>
        obtain ⟨k, hk, rfl, hF, hX, hR, hok⟩ := hrel
        have HF := Lib.hid hF
        have HX := Lib.hid hX
        have HR := Lib.hid hR
        obtain ⟨k0, k1, k2⟩ := hF.k0.cells
        obtain ⟨l0, l1, l2⟩ := hF.k1.cells
        obtain ⟨x0, x1, x2⟩ := hX.cells
        have hi0 : (0 : Int) ≤ (k : Int) := by omega
        by_cases hlt : k < la.length
        · have hlB : k < (lb).length := by have := HL.out; omega
          have hi : (k : Int) < (la.length : Int) := by omega
          have hml := mix_len (rawV (opF op)) HL.out k hk
          obtain ⟨ov, hov⟩ : ∃ ov, wr.cell? ⟨g, k, none⟩ = some ov := ⟨_, hR.cell (k := k) (by rw [iv_length, hml]; exact hlt)⟩
          have hfz := hR.frozen k
          have HSTEP := Lib.hid (fun v hv => mix_step (rawV (opF op)) HL.out k hlt v hv)
          have HSTAY := Lib.hid (fun hv => mix_stay (rawV (opF op)) HL.out k hlt hv)
          have HFS := Lib.hid (fits_step (opF op) HL.out k hlt)
          have hi2 : (k : Int) < (lb.length : Int) := by omega
          obtain ⟨b0, o0, rfl, hb0, hc0⟩ := (hF.s0.below hF.b (Nat.le_refl _)).at_ hlt
          obtain ⟨b1, o1, rfl, hb1, hc1⟩ := (hF.s1.below hF.b (Nat.le_refl _)).at_ hlB
          have HXC := Lib.hid (HCELL.out la[k] (List.getElem_mem hlt))
          have HYC := Lib.hid (HCELL2.out lb[k] (List.getElem_mem hlB))
          generalize lb[k] = y at *
          generalize la[k] = x at *
          clear hml
          obtain rfl := hok
          generalize fitsR (opF op) la lb k = b at *
          clear hF hX hR
          by_cases y0 : x = -9999 ∨ y = -9999
          · have HM := Lib.hid (HSTEP.out (-9999) (rawV_gone y0).symm)
            have HOK := Lib.hid (show fitsR (opF op) la lb (k + 1) = b by rw [HFS.out, fitV_gone y0, Bool.and_true])
            clear HXC HYC HFS
            by_cases y1 : x = -9999
            · have e0 : (x == -9999) = true := by simp [y1]
              subst y1
              clear y0
              clear HSTEP HSTAY
              go_wp2
              go_roundw
              case rel => exact ⟨k + 1, by omega, by go_num, HF.out.turn (turn_set _ g k _) hgb, HX.out.other (by show q ≠ g; exact hne1) _, by have := HR.out.set k (.int .i64 (-9999)); rw [iv_set, HM.out] at this; exact this, by rw [HOK.out]⟩
              case measure => simp [intOf]; omega
            · have e0 : (x == -9999) = false := by simp [y1]
              have y2 : y = -9999 := by omega
              have e1 : (y == -9999) = true := by simp [y2]
              subst y2
              clear y0 y1
              clear HSTEP HSTAY
              go_wp2
              go_roundw
              case rel => exact ⟨k + 1, by omega, by go_num, HF.out.turn (turn_set _ g k _) hgb, HX.out.other (by show q ≠ g; exact hne1) _, by have := HR.out.set k (.int .i64 (-9999)); rw [iv_set, HM.out] at this; exact this, by rw [HOK.out]⟩
              case measure => simp [intOf]; omega
          · have e0 : (x == -9999) = false := by rw [beq_eq_false_iff_ne]; omega
            have e1 : (y == -9999) = false := by rw [beq_eq_false_iff_ne]; omega
            have HNG := Lib.hid y0
            have HM := Lib.hid (HSTEP.out (opF op x y) (rawV_yes y0).symm)
            have HFS2 : Hid (fitsR (opF op) la lb (k + 1) = (b && valB (opF op x y))) := Lib.hid (by rw [HFS.out, fitV_val y0])
            have HQ := Lib.hid (fun W => l4Op_is op x y W HOP.out HXC.out HYC.out)
            have HIN := Lib.hid (fun W => l1In_is (opF op x y) (-9000) 9000 (valB (opF op x y)) W rfl)
            clear HFS y0 HXC HYC
            have HFS := HFS2
            clear HFS2
            generalize opF op x y = z at *
            cases b with
            | false =>
              clear HSTEP HSTAY
              go_wp2_with fail
              have HFd := Lib.hid HF.out.drew
              have HXd : Hid (Box wr.drew q 41 (.int .i64 wa) (.int .i64 ha) (.slice (some ⟨g, 0, none⟩) la.length c2)) := Lib.hid HX.out
              have HRd : Hid (Row wr.drew g 3 (iv (mixR (rawV (opF op)) la lb k))) := Lib.hid HR.out
              go_region_held3 (fun w' => w'.cell? ⟨w.heap.size, 2, none⟩ = some (.slice (some ⟨b0, o0, none⟩) la.length ca) ∧ w'.cell? ⟨w.heap.size + 1, 2, none⟩ = some (.slice (some ⟨b1, o1, none⟩) lb.length cb) ∧ w'.cell? ⟨b0, o0 + k, none⟩ = some (.int .i64 x) ∧ w'.cell? ⟨b1, o1 + k, none⟩ = some (.int .i64 y) ∧ w'.cell? ⟨q, 2, none⟩ = some (.slice (some ⟨g, 0, none⟩) la.length c2))
                (first | exact ⟨k2, l2, hc0, hc1, x2⟩ | exact ⟨cell_other k2 (by omega), cell_other l2 (by omega), cell_other hc0 (by omega), cell_other hc1 (by omega), cell_other x2 (by omega)⟩ | go_keep)
                ((go_at_call 76; (with_reducible refine (HQ.out _).mono ?_); rintro e w9 ⟨rfl, rfl⟩))
              rename_i hHeld
              clear hHeld
              go_wp2
              go_roundw
              case rel => exact ⟨k + 1, by omega, by go_num, HFd.out.turn (turn_set _ g k _) hgb, HXd.out.other (by show q ≠ g; exact hne1) _, by have := HRd.out.set k (.int .i64 (z)); rw [iv_set, HM.out] at this; exact this, by rw [HFS.out]; rfl⟩
              case measure => simp [intOf]; omega
            | true =>
              clear HSTEP HSTAY
              go_wp2_with fail
              have HFd := Lib.hid HF.out.drew
              have HXd : Hid (Box wr.drew q 41 (.int .i64 wa) (.int .i64 ha) (.slice (some ⟨g, 0, none⟩) la.length c2)) := Lib.hid HX.out
              have HRd : Hid (Row wr.drew g 3 (iv (mixR (rawV (opF op)) la lb k))) := Lib.hid HR.out
              go_region_held3 (fun w' => w'.cell? ⟨w.heap.size, 2, none⟩ = some (.slice (some ⟨b0, o0, none⟩) la.length ca) ∧ w'.cell? ⟨w.heap.size + 1, 2, none⟩ = some (.slice (some ⟨b1, o1, none⟩) lb.length cb) ∧ w'.cell? ⟨b0, o0 + k, none⟩ = some (.int .i64 x) ∧ w'.cell? ⟨b1, o1 + k, none⟩ = some (.int .i64 y) ∧ w'.cell? ⟨q, 2, none⟩ = some (.slice (some ⟨g, 0, none⟩) la.length c2))
                (first | exact ⟨k2, l2, hc0, hc1, x2⟩ | exact ⟨cell_other k2 (by omega), cell_other l2 (by omega), cell_other hc0 (by omega), cell_other hc1 (by omega), cell_other x2 (by omega)⟩ | go_keep)
                ((go_at_call 76; (with_reducible refine (HQ.out _).mono ?_); rintro e w9 ⟨rfl, rfl⟩))
              rename_i hHeld
              clear hHeld
              go_wp2_with (go_at_call 37; refine (HIN.out _).mono ?_; rintro e w8 ⟨rfl, rfl⟩)
              go_roundw
              case rel => exact ⟨k + 1, by omega, by go_num, HFd.out.turn (turn_set _ g k _) hgb, HXd.out.other (by show q ≠ g; exact hne1) _, by have := HRd.out.set k (.int .i64 (z)); rw [iv_set, HM.out] at this; exact this, by rw [HFS.out]; rfl⟩
              case measure => simp [intOf]; omega
        · obtain rfl : k = la.length := by omega
          have HM := Lib.hid (mix_all (rawV (opF op)) HL.out)
          have HML := Lib.hid (zipR_len (rawV (opF op)) HL.out)
          have HATR := Lib.hid (show At wr (some ⟨g, 0, none⟩) g (zipR (rawV (opF op)) la lb) from .inr ⟨rfl, by rw [← HM.out]; exact hR⟩)
          rw [HV.out] at hok
          obtain rfl := hok
          have q7 : ¬ w.heap.size + 1 + 1 = q := by omega
          have q8 : ¬ q = w.heap.size + 1 + 1 := by omega
          clear hF hX hR
          go_wp2_with fail
          refine (chk_no wa ha _ _ _ _).mono ?_
          rintro e w9 ⟨rfl, b9⟩
          have F9 := Lib.hid (HF.out.step b9)
          obtain ⟨r0, r1, r2⟩ := F9.out.r.cells
          have g0 := F9.out.r.frozen 0
          have g1 := F9.out.r.frozen 1
          have g2 := F9.out.r.frozen 2
          clear b9 k0 k1 k2 x0 x1 x2 l0 l1 l2
          go_wp2
          refine bodyPost_ret (v := .tuple #[.agg #[.int .i64 0, .int .i64 0, .slice none 0 0], .bool false]) (by simp [results, Tryd.results67, go_sem, r0, r1, r2]) rfl ⟨none, 0, rfl, OwnI.none_, ?_⟩
          exact ((F9.out.b.setCell (by show w.heap.size ≤ w.heap.size + 1 + 1; omega) _).setCell (by show w.heap.size ≤ w.heap.size + 1 + 1; omega) _).setCell (by show w.heap.size ≤ w.heap.size + 1 + 1; omega) _
  | true =>
    obtain ⟨gd, ee⟩ := comb_fit _ HSF.out hv
    rw [ee]
    have HGD := Lib.hid gd
    clear gd ee
    have HV := Lib.hid hv
    clear hv
    go_enter Tryd.func67, Tryd.ntmps67
    obtain ⟨k0, k1, k2⟩ := F1.out.k0.cells
    go_wp2_with fail
    refine (HO.out _ F1.out.i0).mono ?_
    rintro e w2 ⟨a2, c2, rfl, o2, b2⟩
    have z1 := F1.out.r.lt
    have z2 := b2.size
    obtain ⟨g, hg1, hg2⟩ := o2
    rcases hg2 with hnil | ⟨rfl, hrow⟩
    · rw [hnil] at hp; simp at hp
    · have F2 := Lib.hid (F1.out.step b2)
      have HROW := Lib.hid hrow
      have hglt := hrow.lt
      clear b2 hrow F1 HO k0 k1 k2
      obtain ⟨k0, k1, k2⟩ := F2.out.k0.cells
      have hne1 : ¬ w2.heap.size = g := by omega
      have hne2 : ¬ g = w2.heap.size := by omega
      have hgb : w.heap.size + 3 ≤ g := by omega
      have X0 := Box.new w2 41 (.int .i64 wa) (.int .i64 ha) (.slice (some ⟨g, 0, none⟩) la.length c2)
      have F3 := F2.out.step (below_all w2 (.cells #[.int .i64 wa, .int .i64 ha, .slice (some ⟨g, 0, none⟩) la.length c2] 41))
      have R3 := HROW.out.alloc (.cells #[.int .i64 wa, .int .i64 ha, .slice (some ⟨g, 0, none⟩) la.length c2] 41)
      go_wp2
      clear k0 k1 k2
      obtain ⟨W, hW⟩ : ∃ W, w2.alloc (.cells #[.int .i64 wa, .int .i64 ha, .slice (some ⟨g, 0, none⟩) la.length c2] 41) = W := ⟨_, rfl⟩
      obtain ⟨q, hq⟩ : ∃ q, w2.heap.size = q := ⟨_, rfl⟩
      rw [hW] at X0 F3 R3 ⊢
      rw [hq] at X0 hne1 hne2 ⊢
      have hq1 : w.heap.size + 3 ≤ q := by omega
      have HX0 := Lib.hid X0
      have HF3 := Lib.hid F3
      have HR3 := Lib.hid R3
      clear X0 F3 R3 hW F2 HROW
      clear hq
      go_loopw [9, 10] (fun ok i wr => ∃ k : Nat, k ≤ la.length ∧ i = .int .i64 k ∧ Fr2 w wa ha aa la ca wa ha ab lb cb wr ∧ Box wr q 41 (.int .i64 wa) (.int .i64 ha) (.slice (some ⟨g, 0, none⟩) la.length c2) ∧ Row wr g 3 (iv (mixR (rawV (opF op)) la lb k)) ∧ ok = .bool (fitsR (opF op) la lb k)) (fun _ i _ => la.length - (intOf i).toNat)
      case atStart => exact ⟨0, Nat.zero_le _, rfl, HF3.out, HX0.out, by rw [mix_zero]; exact HR3.out, by rw [fits_zero]⟩
      case round =>
        obtain ⟨k, hk, rfl, hF, hX, hR, hok⟩ := hrel
        have HF := Lib.hid hF
        have HX := Lib.hid hX
        have HR := Lib.hid hR
        obtain ⟨k0, k1, k2⟩ := hF.k0.cells
        obtain ⟨l0, l1, l2⟩ := hF.k1.cells
        obtain ⟨x0, x1, x2⟩ := hX.cells
        have hi0 : (0 : Int) ≤ (k : Int) := by omega
        by_cases hlt : k < la.length
        · have hlB : k < (lb).length := by have := HL.out; omega
          have hi : (k : Int) < (la.length : Int) := by omega
          have hml := mix_len (rawV (opF op)) HL.out k hk
          obtain ⟨ov, hov⟩ : ∃ ov, wr.cell? ⟨g, k, none⟩ = some ov := ⟨_, hR.cell (k := k) (by rw [iv_length, hml]; exact hlt)⟩
          have hfz := hR.frozen k
          have HSTEP := Lib.hid (fun v hv => mix_step (rawV (opF op)) HL.out k hlt v hv)
          have HSTAY := Lib.hid (fun hv => mix_stay (rawV (opF op)) HL.out k hlt hv)
          have HFS := Lib.hid (fits_step (opF op) HL.out k hlt)
          have hi2 : (k : Int) < (lb.length : Int) := by omega
          obtain ⟨b0, o0, rfl, hb0, hc0⟩ := (hF.s0.below hF.b (Nat.le_refl _)).at_ hlt
          obtain ⟨b1, o1, rfl, hb1, hc1⟩ := (hF.s1.below hF.b (Nat.le_refl _)).at_ hlB
          have HXC := Lib.hid (HCELL.out la[k] (List.getElem_mem hlt))
          have HYC := Lib.hid (HCELL2.out lb[k] (List.getElem_mem hlB))
          generalize lb[k] = y at *
          generalize la[k] = x at *
          clear hml
          obtain rfl := hok
          generalize fitsR (opF op) la lb k = b at *
          clear hF hX hR
          by_cases y0 : x = -9999 ∨ y = -9999
          · have HM := Lib.hid (HSTEP.out (-9999) (rawV_gone y0).symm)
            have HOK := Lib.hid (show fitsR (opF op) la lb (k + 1) = b by rw [HFS.out, fitV_gone y0, Bool.and_true])
            clear HXC HYC HFS
            by_cases y1 : x = -9999
            · have e0 : (x == -9999) = true := by simp [y1]
              subst y1
              clear y0
              clear HSTEP HSTAY
              go_wp2
              go_roundw
              case rel => exact ⟨k + 1, by omega, by go_num, HF.out.turn (turn_set _ g k _) hgb, HX.out.other (by show q ≠ g; exact hne1) _, by have := HR.out.set k (.int .i64 (-9999)); rw [iv_set, HM.out] at this; exact this, by rw [HOK.out]⟩
              case measure => simp [intOf]; omega
            · have e0 : (x == -9999) = false := by simp [y1]
              have y2 : y = -9999 := by omega
              have e1 : (y == -9999) = true := by simp [y2]
              subst y2
              clear y0 y1
              clear HSTEP HSTAY
              go_wp2
              go_roundw
              case rel => exact ⟨k + 1, by omega, by go_num, HF.out.turn (turn_set _ g k _) hgb, HX.out.other (by show q ≠ g; exact hne1) _, by have := HR.out.set k (.int .i64 (-9999)); rw [iv_set, HM.out] at this; exact this, by rw [HOK.out]⟩
              case measure => simp [intOf]; omega
          · have e0 : (x == -9999) = false := by rw [beq_eq_false_iff_ne]; omega
            have e1 : (y == -9999) = false := by rw [beq_eq_false_iff_ne]; omega
            have HNG := Lib.hid y0
            have HM := Lib.hid (HSTEP.out (opF op x y) (rawV_yes y0).symm)
            have HFS2 : Hid (fitsR (opF op) la lb (k + 1) = (b && valB (opF op x y))) := Lib.hid (by rw [HFS.out, fitV_val y0])
            have HQ := Lib.hid (fun W => l4Op_is op x y W HOP.out HXC.out HYC.out)
            have HIN := Lib.hid (fun W => l1In_is (opF op x y) (-9000) 9000 (valB (opF op x y)) W rfl)
            clear HFS y0 HXC HYC
            have HFS := HFS2
            clear HFS2
            generalize opF op x y = z at *
            cases b with
            | false =>
              clear HSTEP HSTAY
              go_wp2_with fail
              have HFd := Lib.hid HF.out.drew
              have HXd : Hid (Box wr.drew q 41 (.int .i64 wa) (.int .i64 ha) (.slice (some ⟨g, 0, none⟩) la.length c2)) := Lib.hid HX.out
              have HRd : Hid (Row wr.drew g 3 (iv (mixR (rawV (opF op)) la lb k))) := Lib.hid HR.out
              go_region_held3 (fun w' => w'.cell? ⟨w.heap.size, 2, none⟩ = some (.slice (some ⟨b0, o0, none⟩) la.length ca) ∧ w'.cell? ⟨w.heap.size + 1, 2, none⟩ = some (.slice (some ⟨b1, o1, none⟩) lb.length cb) ∧ w'.cell? ⟨b0, o0 + k, none⟩ = some (.int .i64 x) ∧ w'.cell? ⟨b1, o1 + k, none⟩ = some (.int .i64 y) ∧ w'.cell? ⟨q, 2, none⟩ = some (.slice (some ⟨g, 0, none⟩) la.length c2))
                (first | exact ⟨k2, l2, hc0, hc1, x2⟩ | exact ⟨cell_other k2 (by omega), cell_other l2 (by omega), cell_other hc0 (by omega), cell_other hc1 (by omega), cell_other x2 (by omega)⟩ | go_keep)
                ((go_at_call 76; (with_reducible refine (HQ.out _).mono ?_); rintro e w9 ⟨rfl, rfl⟩))
              rename_i hHeld
              clear hHeld
              go_wp2
              go_roundw
              case rel => exact ⟨k + 1, by omega, by go_num, HFd.out.turn (turn_set _ g k _) hgb, HXd.out.other (by show q ≠ g; exact hne1) _, by have := HRd.out.set k (.int .i64 (z)); rw [iv_set, HM.out] at this; exact this, by rw [HFS.out]; rfl⟩
              case measure => simp [intOf]; omega
            | true =>
              clear HSTEP HSTAY
              go_wp2_with fail
              have HFd := Lib.hid HF.out.drew
              have HXd : Hid (Box wr.drew q 41 (.int .i64 wa) (.int .i64 ha) (.slice (some ⟨g, 0, none⟩) la.length c2)) := Lib.hid HX.out
              have HRd : Hid (Row wr.drew g 3 (iv (mixR (rawV (opF op)) la lb k))) := Lib.hid HR.out
              go_region_held3 (fun w' => w'.cell? ⟨w.heap.size, 2, none⟩ = some (.slice (some ⟨b0, o0, none⟩) la.length ca) ∧ w'.cell? ⟨w.heap.size + 1, 2, none⟩ = some (.slice (some ⟨b1, o1, none⟩) lb.length cb) ∧ w'.cell? ⟨b0, o0 + k, none⟩ = some (.int .i64 x) ∧ w'.cell? ⟨b1, o1 + k, none⟩ = some (.int .i64 y) ∧ w'.cell? ⟨q, 2, none⟩ = some (.slice (some ⟨g, 0, none⟩) la.length c2))
                (first | exact ⟨k2, l2, hc0, hc1, x2⟩ | exact ⟨cell_other k2 (by omega), cell_other l2 (by omega), cell_other hc0 (by omega), cell_other hc1 (by omega), cell_other x2 (by omega)⟩ | go_keep)
                ((go_at_call 76; (with_reducible refine (HQ.out _).mono ?_); rintro e w9 ⟨rfl, rfl⟩))
              rename_i hHeld
              clear hHeld
              go_wp2_with (go_at_call 37; refine (HIN.out _).mono ?_; rintro e w8 ⟨rfl, rfl⟩)
              go_roundw
              case rel => exact ⟨k + 1, by omega, by go_num, HFd.out.turn (turn_set _ g k _) hgb, HXd.out.other (by show q ≠ g; exact hne1) _, by have := HRd.out.set k (.int .i64 (z)); rw [iv_set, HM.out] at this; exact this, by rw [HFS.out]; rfl⟩
              case measure => simp [intOf]; omega
        · obtain rfl : k = la.length := by omega
          have HM := Lib.hid (mix_all (rawV (opF op)) HL.out)
          have HML := Lib.hid (zipR_len (rawV (opF op)) HL.out)
          have HATR := Lib.hid (show At wr (some ⟨g, 0, none⟩) g (zipR (rawV (opF op)) la lb) from .inr ⟨rfl, by rw [← HM.out]; exact hR⟩)
          rw [HV.out] at hok
          obtain rfl := hok
          have q7 : ¬ w.heap.size + 1 + 1 = q := by omega
          have q8 : ¬ q = w.heap.size + 1 + 1 := by omega
          clear hF hX hR
          go_wp2_with fail
          have hck := chk_yes wa ha (some ⟨g, 0, none⟩) (zipR (rawV (opF op)) la lb) c2 wr HATR.out.ints (by rw [HML.out]; exact n1) HGD.out
          rw [HML.out] at hck
          refine hck.mono ?_
          rintro e w9 ⟨rfl, b9⟩
          clear hck
          have F9 := Lib.hid (HF.out.step b9)
          have A9 := Lib.hid (HATR.out.below b9)
          obtain ⟨r0, r1, r2⟩ := F9.out.r.cells
          have g0 := F9.out.r.frozen 0
          have g1 := F9.out.r.frozen 1
          have g2 := F9.out.r.frozen 2
          clear b9 k0 k1 k2 x0 x1 x2 l0 l1 l2
          go_wp2
          refine bodyPost_ret (v := .tuple #[.agg #[.int .i64 wa, .int .i64 ha, .slice (some ⟨g, 0, none⟩) la.length c2], .bool true]) (by simp [results, Tryd.results67, go_sem, r0, r1, r2]) rfl ⟨some ⟨g, 0, none⟩, c2, by simp only [rW, rH, rL, rB]; rw [HML.out], ⟨g, by omega, ?_⟩, ?_⟩
          · exact ((A9.out.other (by show g ≠ w.heap.size + 1 + 1; omega) _).other (by show g ≠ w.heap.size + 1 + 1; omega) _).other (by show g ≠ w.heap.size + 1 + 1; omega) _
          · exact ((F9.out.b.setCell (by show w.heap.size ≤ w.heap.size + 1 + 1; omega) _).setCell (by show w.heap.size ≤ w.heap.size + 1 + 1; omega) _).setCell (by show w.heap.size ≤ w.heap.size + 1 + 1; omega) _

end Go.Proofs.YtdkffljnfemngabDoor
