/- The model's field algebra. -/
import Derived.Test.YtglpkfkbbjbjjaaSame
import Derived.Test.YtglpkfkbbjbjjaaSet
import Derived.Test.YtglpkfkbbjbjjaaPair
import Derived.Test.YtglpkfkbbjbjjaaAlgRule
import Derived.Test.YtglpkfkbbjbjjaaChk
import Derived.Deep.RegionHeld3
import Derived.IntWalk
namespace Go.Proofs.Ytglpkfkbbjbjjaa
open Go.RowKit
set_option linter.unusedVariables false
set_option linter.unusedSimpArgs false
theorem one_val {f : Int → Int} {x : Int} (hf : ∀ x, -9000 ≤ x → x ≤ 9000 → -9000 ≤ f x ∧ f x ≤ 9000) (hx : cellB x = true) (h : ¬ x = -9999) : ofV (fun a _ => f a) x x = f x := by
  rcases cellB_iff.1 hx with h1 | h1
  · exact absurd h1 h
  · exact ofV_yes (by omega) (valB_iff.2 (hf x h1.1 h1.2))
set_option maxRecDepth 100000 in
set_option maxHeartbeats 4000000 in
theorem specChoose_any (wa ha : Int) (aa : Option Addr) (la : List Int) (ca : Nat) (wb hb : Int) (ab : Option Addr) (lb : List Int) (cb : Nat) (wd hd : Int) (ad : Option Addr) (ld : List Int) (cd : Nat) (w : World) (h1 : Ints .i64 w w.heap.size aa la) (h2 : Ints .i64 w w.heap.size ab lb) (h3 : Ints .i64 w w.heap.size ad ld) (n1 : la.length ≤ 1048576) (n2 : lb.length ≤ 1048576) (n3 : ld.length ≤ 1048576) :
    Calls Try.prog 31 #[.agg #[.int .i64 wa, .int .i64 ha, .slice aa la.length ca], .agg #[.int .i64 wb, .int .i64 hb, .slice ab lb.length cb], .agg #[.int .i64 wd, .int .i64 hd, .slice ad ld.length cd]] w (FRet (chooseR wa ha la wb hb lb wd hd ld) w) := by
  have F0 := Lib.hid (Fr3.new (wd0 := wa) (hg0 := ha) (c0 := ca) (wd1 := wb) (hg1 := hb) (c1 := cb) (wd2 := wd) (hg2 := hd) (c2 := cd) h1 h2 h3)
  cases s1 : sameB wa ha la wb hb lb with
  | false =>
    rw [chooseR_no (by unfold same3; rw [s1]; rfl)]
    have HC := Lib.hid (specSame_is wa ha aa la ca wb hb ab lb cb false _ F0.out.i0 F0.out.i1 n1 n2 s1)
    clear h1 h2 h3 s1
    go_enter Try.func31, Try.ntmps31
    go_wp2_with fail
    refine HC.out.mono ?_
    rintro e w1 ⟨rfl, b1⟩
    have F1 := Lib.hid (F0.out.step b1)
    obtain ⟨k0, k1, k2⟩ := F1.out.k0.cells
    obtain ⟨m0, m1, m2⟩ := F1.out.k2.cells
    clear b1 F0 HC
    have B1 := Lib.hid F1.out.b
    obtain ⟨r0, r1, r2⟩ := F1.out.r.cells
    have g0 := F1.out.r.frozen 0
    have g1 := F1.out.r.frozen 1
    have g2 := F1.out.r.frozen 2
    clear k0 k1 k2 m0 m1 m2
    go_wp2
    refine bodyPost_ret (v := .tuple #[.agg #[.int .i64 0, .int .i64 0, .slice none 0 0], .bool false]) (by simp [results, Try.results31, go_sem, r0, r1, r2]) rfl ⟨none, 0, rfl, OwnI.none_, ?_⟩
    first | exact B1.out | exact ((B1.out.setCell (p := ⟨w.heap.size + 1 + 1 + 1, 0, none⟩) (by show w.heap.size ≤ w.heap.size + 1 + 1 + 1; omega) _).setCell (p := ⟨w.heap.size + 1 + 1 + 1, 1, none⟩) (by show w.heap.size ≤ w.heap.size + 1 + 1 + 1; omega) _).setCell (p := ⟨w.heap.size + 1 + 1 + 1, 2, none⟩) (by show w.heap.size ≤ w.heap.size + 1 + 1 + 1; omega) _
  | true =>
    cases s2 : sameB wa ha la wd hd ld with
    | false =>
      rw [chooseR_no (by unfold same3; rw [s1, s2]; rfl)]
      have HC := Lib.hid (specSame_is wa ha aa la ca wb hb ab lb cb true _ F0.out.i0 F0.out.i1 n1 n2 s1)
      have HC2 := Lib.hid (fun W i0 i2 => specSame_is wa ha aa la ca wd hd ad ld cd false W i0 i2 n1 n3 s2)
      clear h1 h2 h3 s1 s2
      go_enter Try.func31, Try.ntmps31
      go_wp2_with fail
      refine HC.out.mono ?_
      rintro e w1 ⟨rfl, b1⟩
      have F1 := Lib.hid (F0.out.step b1)
      obtain ⟨k0, k1, k2⟩ := F1.out.k0.cells
      obtain ⟨m0, m1, m2⟩ := F1.out.k2.cells
      clear b1 F0 HC
      go_wp2_with fail
      refine (HC2.out _ F1.out.i0 F1.out.i2).mono ?_
      rintro e w3 ⟨rfl, b3⟩
      have F3 := Lib.hid (F1.out.step b3)
      clear b3 F1 HC2 k0 k1 k2 m0 m1 m2
      have F1 := F3
      clear F3
      have B1 := Lib.hid F1.out.b
      obtain ⟨r0, r1, r2⟩ := F1.out.r.cells
      have g0 := F1.out.r.frozen 0
      have g1 := F1.out.r.frozen 1
      have g2 := F1.out.r.frozen 2
      go_wp2
      refine bodyPost_ret (v := .tuple #[.agg #[.int .i64 0, .int .i64 0, .slice none 0 0], .bool false]) (by simp [results, Try.results31, go_sem, r0, r1, r2]) rfl ⟨none, 0, rfl, OwnI.none_, ?_⟩
      first | exact B1.out | exact ((B1.out.setCell (p := ⟨w.heap.size + 1 + 1 + 1, 0, none⟩) (by show w.heap.size ≤ w.heap.size + 1 + 1 + 1; omega) _).setCell (p := ⟨w.heap.size + 1 + 1 + 1, 1, none⟩) (by show w.heap.size ≤ w.heap.size + 1 + 1 + 1; omega) _).setCell (p := ⟨w.heap.size + 1 + 1 + 1, 2, none⟩) (by show w.heap.size ≤ w.heap.size + 1 + 1 + 1; omega) _
    | true =>
      rw [chooseR_yes (by unfold same3; rw [s1, s2]; rfl)]
      have HC := Lib.hid (specSame_is wa ha aa la ca wb hb ab lb cb true _ F0.out.i0 F0.out.i1 n1 n2 s1)
      have HC2 := Lib.hid (fun W i0 i2 => specSame_is wa ha aa la ca wd hd ad ld cd true W i0 i2 n1 n3 s2)
      have H1 := Lib.hid (same_len s1)
      have H2 := Lib.hid (same_len s2)
      obtain ⟨ga, gb, e1, e2⟩ := same_iff.1 s1
      obtain ⟨-, gd, e3, e4⟩ := same_iff.1 s2
      subst e1 e2 e3 e4
      have HL := Lib.hid (choose_good ga gb gd).1.symm
      have hp := good_le ga
      have HO := Lib.hid (fun W h => l2Own_any wa ha aa la ca W h n1 (by omega))
      clear h1 h2 h3 s1 s2 ga gb gd
      go_enter Try.func31, Try.ntmps31
      go_wp2_with fail
      refine HC.out.mono ?_
      rintro e w1 ⟨rfl, b1⟩
      have F1 := Lib.hid (F0.out.step b1)
      obtain ⟨k0, k1, k2⟩ := F1.out.k0.cells
      obtain ⟨m0, m1, m2⟩ := F1.out.k2.cells
      clear b1 F0 HC
      go_wp2_with fail
      refine (HC2.out _ F1.out.i0 F1.out.i2).mono ?_
      rintro e w3 ⟨rfl, b3⟩
      have F3 := Lib.hid (F1.out.step b3)
      clear b3 F1 HC2 k0 k1 k2 m0 m1 m2
      have F1 := F3
      clear F3
      obtain ⟨k0, k1, k2⟩ := F1.out.k0.cells
      go_wp2_with fail
      refine (HO.out _ F1.out.i0).mono ?_
      rintro e w2 ⟨a2, c2, rfl, o2, b2⟩
      have z1 := F1.out.r.lt
      have z2 := b2.size
      obtain ⟨g, hg1, hg2⟩ := o2
      rcases hg2 with hnil | ⟨rfl, hrow⟩
      · rw [hnil] at hp; simp at hp
      · have F2 := Lib.hid (F1.out.step b2)
        have HROW := Lib.hid hrow
        have hglt := hrow.lt
        clear b2 hrow F1 HO k0 k1 k2
        obtain ⟨k0, k1, k2⟩ := F2.out.k0.cells
        have hne1 : ¬ w2.heap.size = g := by omega
        have hne2 : ¬ g = w2.heap.size := by omega
        have hgb : w.heap.size + 4 ≤ g := by omega
        have X0 := Box.new w2 26 (.int .i64 wa) (.int .i64 ha) (.slice (some ⟨g, 0, none⟩) la.length c2)
        have F3 := F2.out.step (below_all w2 (.cells #[.int .i64 wa, .int .i64 ha, .slice (some ⟨g, 0, none⟩) la.length c2] 26))
        have R3 := HROW.out.alloc (.cells #[.int .i64 wa, .int .i64 ha, .slice (some ⟨g, 0, none⟩) la.length c2] 26)
        go_wp2
        clear k0 k1 k2
        obtain ⟨W, hW⟩ : ∃ W, w2.alloc (.cells #[.int .i64 wa, .int .i64 ha, .slice (some ⟨g, 0, none⟩) la.length c2] 26) = W := ⟨_, rfl⟩
        obtain ⟨q, hq⟩ : ∃ q, w2.heap.size = q := ⟨_, rfl⟩
        rw [hW] at X0 F3 R3 ⊢
        rw [hq] at X0 hne1 hne2 ⊢
        have hq1 : w.heap.size + 4 ≤ q := by omega
        have HX0 := Lib.hid X0
        have HF3 := Lib.hid F3
        have HR3 := Lib.hid R3
        clear X0 F3 R3 hW F2 HROW
        clear hq
        go_loopw [9] (fun i wr => ∃ k : Nat, k ≤ la.length ∧ i = .int .i64 k ∧ Fr3 w wa ha aa la ca wa ha ab lb cb wa ha ad ld cd wr ∧ Box wr q 26 (.int .i64 wa) (.int .i64 ha) (.slice (some ⟨g, 0, none⟩) la.length c2) ∧ Row wr g 3 (iv (mixR (chP) la (lb.zip ld) k))) (fun i _ => la.length - (intOf i).toNat)
        case atStart => exact ⟨0, Nat.zero_le _, rfl, HF3.out, HX0.out, by rw [mix_zero]; exact HR3.out⟩
        case round =>
          obtain ⟨k, hk, rfl, hF, hX, hR⟩ := hrel
          have HF := Lib.hid hF
          have HX := Lib.hid hX
          have HR := Lib.hid hR
          obtain ⟨k0, k1, k2⟩ := hF.k0.cells
          obtain ⟨l0, l1, l2⟩ := hF.k1.cells
          obtain ⟨m0, m1, m2⟩ := hF.k2.cells
          obtain ⟨x0, x1, x2⟩ := hX.cells
          have hi0 : (0 : Int) ≤ (k : Int) := by omega
          by_cases hlt : k < la.length
          · have hlB : k < ((lb.zip ld)).length := by have := HL.out; omega
            have hi : (k : Int) < (la.length : Int) := by omega
            have hml := mix_len (chP) HL.out k hk
            obtain ⟨ov, hov⟩ : ∃ ov, wr.cell? ⟨g, k, none⟩ = some ov := ⟨_, hR.cell (k := k) (by rw [iv_length, hml]; exact hlt)⟩
            have hfz := hR.frozen k
            have HSTEP := Lib.hid (fun v hv => mix_step (chP) HL.out k hlt v hv)
            have HSTAY := Lib.hid (fun hv => mix_stay (chP) HL.out k hlt hv)
            have hlc : k < lb.length := by have := H1.out; omega
            have hld : k < ld.length := by have := H2.out; omega
            have hi2 : (k : Int) < (lb.length : Int) := by omega
            have hi3 : (k : Int) < (ld.length : Int) := by omega
            obtain ⟨b0, o0, rfl, hb0, hc0⟩ := (hF.s0.below hF.b (Nat.le_refl _)).at_ hlt
            obtain ⟨b1, o1, rfl, hb1, hc1⟩ := (hF.s1.below hF.b (Nat.le_refl _)).at_ hlc
            obtain ⟨b2, o2, rfl, hb2, hc2⟩ := (hF.s2.below hF.b (Nat.le_refl _)).at_ hld
            have hzz : (lb.zip ld)[k]'hlB = (lb[k], ld[k]) := List.getElem_zip
            rw [hzz] at HSTEP HSTAY
            clear hzz
            generalize la[k] = x at *
            generalize lb[k] = y at *
            generalize ld[k] = z at *
            clear hml hF hX hR
            by_cases y0 : x = -9999
            · have HM := Lib.hid (HSTAY.out (by rw [show chP x (y, z) = -9999 from if_pos y0]; exact y0))
              have e0 : (x == -9999) = true := by simp [y0]
              subst y0
              clear HSTEP HSTAY
              go_wp2
              go_roundw
              case rel => exact ⟨k + 1, by omega, by go_num, HF.out, HX.out, by rw [← HM.out]; exact HR.out⟩
              case measure => simp [intOf]; omega
            · have e0 : (x == -9999) = false := by simp [y0]
              by_cases y1 : x = 0
              · have HM := Lib.hid (HSTEP.out z (by rw [show chP x (y, z) = z from (if_neg y0).trans (if_pos y1)]))
                have e1 : (x != 0) = false := by simp [y1]
                subst y1
                clear y0
                clear HSTEP HSTAY
                go_wp2_with fail
                have HFd := Lib.hid HF.out.drew
                have HXd : Hid (Box wr.drew q 26 (.int .i64 wa) (.int .i64 ha) (.slice (some ⟨g, 0, none⟩) la.length c2)) := Lib.hid HX.out
                have HRd : Hid (Row wr.drew g 3 (iv (mixR (chP) la (lb.zip ld) k))) := Lib.hid HR.out
                go_region_held3 (fun w' => w'.cell? ⟨w.heap.size + 1 + 1, 2, none⟩ = some (.slice (some ⟨b2, o2, none⟩) ld.length cd) ∧ w'.cell? ⟨b2, o2 + k, none⟩ = some (.int .i64 z) ∧ w'.cell? ⟨q, 2, none⟩ = some (.slice (some ⟨g, 0, none⟩) la.length c2))
                  (first | exact ⟨m2, hc2, x2⟩ | exact ⟨cell_other m2 (by omega), cell_other hc2 (by omega), cell_other x2 (by omega)⟩ | go_keep)
                  (fail)
                rename_i hHeld
                clear hHeld
                go_wp2
                go_roundw
                case rel => exact ⟨k + 1, by omega, by go_num, HFd.out.turn (turn_set _ g k _) hgb, HXd.out.other (by show q ≠ g; exact hne1) _, by have := HRd.out.set k (.int .i64 (z)); rw [iv_set, HM.out] at this; exact this⟩
                case measure => simp [intOf]; omega
              · have HM := Lib.hid (HSTEP.out y (by rw [show chP x (y, z) = y from (if_neg y0).trans (if_neg y1)]))
                have e1 : (x != 0) = true := by simp [y1]
                clear y0 y1
                clear HSTEP HSTAY
                go_wp2_with fail
                have HFd := Lib.hid HF.out.drew
                have HXd : Hid (Box wr.drew q 26 (.int .i64 wa) (.int .i64 ha) (.slice (some ⟨g, 0, none⟩) la.length c2)) := Lib.hid HX.out
                have HRd : Hid (Row wr.drew g 3 (iv (mixR (chP) la (lb.zip ld) k))) := Lib.hid HR.out
                go_region_held3 (fun w' => w'.cell? ⟨w.heap.size + 1, 2, none⟩ = some (.slice (some ⟨b1, o1, none⟩) lb.length cb) ∧ w'.cell? ⟨b1, o1 + k, none⟩ = some (.int .i64 y) ∧ w'.cell? ⟨q, 2, none⟩ = some (.slice (some ⟨g, 0, none⟩) la.length c2))
                  (first | exact ⟨l2, hc1, x2⟩ | exact ⟨cell_other l2 (by omega), cell_other hc1 (by omega), cell_other x2 (by omega)⟩ | go_keep)
                  (fail)
                rename_i hHeld
                clear hHeld
                go_wp2
                go_roundw
                case rel => exact ⟨k + 1, by omega, by go_num, HFd.out.turn (turn_set _ g k _) hgb, HXd.out.other (by show q ≠ g; exact hne1) _, by have := HRd.out.set k (.int .i64 (y)); rw [iv_set, HM.out] at this; exact this⟩
                case measure => simp [intOf]; omega
          · obtain rfl : k = la.length := by omega
            have HM := Lib.hid (mix_all (chP) HL.out)
            have HML := Lib.hid (zipR_len (chP) HL.out)
            obtain ⟨r0, r1, r2⟩ := hF.r.cells
            have g0 := hF.r.frozen 0
            have g1 := hF.r.frozen 1
            have g2 := hF.r.frozen 2
            have q7 : ¬ w.heap.size + 1 + 1 + 1 = q := by omega
            have q8 : ¬ q = w.heap.size + 1 + 1 + 1 := by omega
            clear hF hX hR
            go_wp2
            refine bodyPost_ret (v := .tuple #[.agg #[.int .i64 wa, .int .i64 ha, .slice (some ⟨g, 0, none⟩) la.length c2], .bool true]) (by simp [results, Try.results31, go_sem, r0, r1, r2, q7, q8]) rfl ⟨some ⟨g, 0, none⟩, c2, by simp only [rW, rH, rL, rB]; rw [HML.out], ⟨g, by omega, .inr ⟨rfl, ?_⟩⟩, ?_⟩
            · have h := HR.out
              rw [HM.out] at h
              exact ((h.other (by show g ≠ w.heap.size + 1 + 1 + 1; omega) _).other (by show g ≠ w.heap.size + 1 + 1 + 1; omega) _).other (by show g ≠ w.heap.size + 1 + 1 + 1; omega) _
            · exact ((HF.out.b.setCell (by show w.heap.size ≤ w.heap.size + 1 + 1 + 1; omega) _).setCell (by show w.heap.size ≤ w.heap.size + 1 + 1 + 1; omega) _).setCell (by show w.heap.size ≤ w.heap.size + 1 + 1 + 1; omega) _

end Go.Proofs.Ytglpkfkbbjbjjaa
