/- The model's field algebra. -/
import Derived.Test.YtglpkfkbbjbjjaaSame
import Derived.Test.YtglpkfkbbjbjjaaSet
import Derived.Test.YtglpkfkbbjbjjaaPair
import Derived.Test.YtglpkfkbbjbjjaaAlgRule
import Derived.Test.YtglpkfkbbjbjjaaChk
import Derived.Test.YtglpkfkbbjbjjaaAlgImpl
import Derived.Deep.RegionHeld3
import Derived.IntWalk
namespace Go.Proofs.Ytglpkfkbbjbjjaa
open Go.RowKit
set_option linter.unusedVariables false
set_option linter.unusedSimpArgs false
theorem one_val {f : Int → Int} {x : Int} (hf : ∀ x, -9000 ≤ x → x ≤ 9000 → -9000 ≤ f x ∧ f x ≤ 9000) (hx : cellB x = true) (h : ¬ x = -9999) : ofV (fun a _ => f a) x x = f x := by
  rcases cellB_iff.1 hx with h1 | h1
  · exact absurd h1 h
  · exact ofV_yes (by omega) (valB_iff.2 (hf x h1.1 h1.2))
set_option maxRecDepth 100000 in
set_option maxHeartbeats 4000000 in
theorem l4Scale_any (wa ha : Int) (aa : Option Addr) (la : List Int) (ca : Nat) (num den : Int) (w : World) (h1 : Ints .i64 w w.heap.size aa la) (n1 : la.length ≤ 1048576) (hg' : goodB wa ha la = true) (s1 : -100 ≤ num) (s2 : num ≤ 100) (s3 : 1 ≤ den) (s4 : den ≤ 100) :
    Calls Try.prog 64 #[.agg #[.int .i64 wa, .int .i64 ha, .slice aa la.length ca], .int .i64 num, .int .i64 den] w (FRet (mapR (scF num den) wa ha la) w) := by
  have F1 := Lib.hid (Fr1.new (wd0 := wa) (hg0 := ha) (c0 := ca) h1)
  have hp := good_le hg'
  have HCELL := Lib.hid (good_cell hg')
  have HSF := Lib.hid (same_self hg')
  have HO := Lib.hid (fun W h => l2Own_any wa ha aa la ca W h n1 (by omega))
  clear h1 hg'
  unfold mapR
  cases hv : fitsR (fun a _ => scF num den a) la la la.length with
  | false =>
    rw [comb_over _ HSF.out hv]
    have HV := Lib.hid hv
    clear hv
    go_enter Try.func64, Try.ntmps64
    obtain ⟨k0, k1, k2⟩ := F1.out.k0.cells
    go_wp2_with fail
    refine (HO.out _ F1.out.i0).mono ?_
    rintro e w2 ⟨a2, c2, rfl, o2, b2⟩
    have z1 := F1.out.r.lt
    have z2 := b2.size
    obtain ⟨g, hg1, hg2⟩ := o2
    rcases hg2 with hnil | ⟨rfl, hrow⟩
    · rw [hnil] at hp; simp at hp
    · have F2 := Lib.hid (F1.out.step b2)
      have HROW := Lib.hid hrow
      have hglt := hrow.lt
      clear b2 hrow F1 HO k0 k1 k2
      obtain ⟨k0, k1, k2⟩ := F2.out.k0.cells
      have hne1 : ¬ w2.heap.size = g := by omega
      have hne2 : ¬ g = w2.heap.size := by omega
      have hgb : w.heap.size + 2 ≤ g := by omega
      have X0 := Box.new w2 26 (.int .i64 wa) (.int .i64 ha) (.slice (some ⟨g, 0, none⟩) la.length c2)
      have F3 := F2.out.step (below_all w2 (.cells #[.int .i64 wa, .int .i64 ha, .slice (some ⟨g, 0, none⟩) la.length c2] 26))
      have R3 := HROW.out.alloc (.cells #[.int .i64 wa, .int .i64 ha, .slice (some ⟨g, 0, none⟩) la.length c2] 26)
      go_wp2
      clear k0 k1 k2
      obtain ⟨W, hW⟩ : ∃ W, w2.alloc (.cells #[.int .i64 wa, .int .i64 ha, .slice (some ⟨g, 0, none⟩) la.length c2] 26) = W := ⟨_, rfl⟩
      obtain ⟨q, hq⟩ : ∃ q, w2.heap.size = q := ⟨_, rfl⟩
      rw [hW] at X0 F3 R3 ⊢
      rw [hq] at X0 hne1 hne2 ⊢
      have hq1 : w.heap.size + 2 ≤ q := by omega
      have HX0 := Lib.hid X0
      have HF3 := Lib.hid F3
      have HR3 := Lib.hid R3
      clear X0 F3 R3 hW F2 HROW
      clear hq
      go_loopw [9, 10] (fun ok i wr => ∃ k : Nat, k ≤ la.length ∧ i = .int .i64 k ∧ Fr1 w wa ha aa la ca wr ∧ Box wr q 26 (.int .i64 wa) (.int .i64 ha) (.slice (some ⟨g, 0, none⟩) la.length c2) ∧ Row wr g 3 (iv (mixR (rawV fun a _ => scF num den a) la la k)) ∧ ok = .bool (fitsR (fun a _ => scF num den a) la la k)) (fun _ i _ => la.length - (intOf i).toNat)
      case atStart => exact ⟨0, Nat.zero_le _, rfl, HF3.out, HX0.out, by rw [mix_zero]; exact HR3.out, by rw [fits_zero]⟩
      case round =>
        obtain ⟨k, hk, rfl, hF, hX, hR, hok⟩ := hrel
        have HF := Lib.hid hF
        have HX := Lib.hid hX
        have HR := Lib.hid hR
        obtain ⟨k0, k1, k2⟩ := hF.k0.cells
        obtain ⟨x0, x1, x2⟩ := hX.cells
        have hi0 : (0 : Int) ≤ (k : Int) := by omega
        by_cases hlt : k < la.length
        · have hlB : k < (la).length := by omega
          have hi : (k : Int) < (la.length : Int) := by omega
          have hml := mix_len (rawV fun a _ => scF num den a) (Eq.refl la.length) k hk
          obtain ⟨ov, hov⟩ : ∃ ov, wr.cell? ⟨g, k, none⟩ = some ov := ⟨_, hR.cell (k := k) (by rw [iv_length, hml]; exact hlt)⟩
          have hfz := hR.frozen k
          have HSTEP := Lib.hid (fun v hv => mix_step (rawV fun a _ => scF num den a) (Eq.refl la.length) k hlt v hv)
          have HSTAY := Lib.hid (fun hv => mix_stay (rawV fun a _ => scF num den a) (Eq.refl la.length) k hlt hv)
          have HFS := Lib.hid (fits_step (fun a _ => scF num den a) (Eq.refl la.length) k hlt)
          obtain ⟨b0, o0, rfl, hb0, hc0⟩ := (hF.s0.below hF.b (Nat.le_refl _)).at_ hlt
          have HXC := Lib.hid (HCELL.out la[k] (List.getElem_mem hlt))
          generalize la[k] = x at *
          clear hml
          obtain rfl := hok
          generalize fitsR (fun a _ => scF num den a) la la k = b at *
          clear hF hX hR
          by_cases y0 : x = -9999
          · have HM := Lib.hid (HSTAY.out (by rw [rawV_gone (.inl y0)]; exact y0))
            have HOK := Lib.hid (show fitsR (fun a _ => scF num den a) la la (k + 1) = b by rw [HFS.out, fitV_gone (.inl y0), Bool.and_true])
            have e0 : (x == -9999) = true := by simp [y0]
            subst y0
            clear HXC HFS
            clear HSTEP HSTAY
            go_wp2
            go_roundw
            case rel => exact ⟨k + 1, by omega, by go_num, HF.out, HX.out, by rw [← HM.out]; exact HR.out, by rw [HOK.out]⟩
            case measure => simp [intOf]; omega
          · have e0 : (x == -9999) = false := by simp [y0]
            have HNG := Lib.hid (show ¬ (x = -9999 ∨ x = -9999) by omega)
            obtain ⟨xb1, xb2⟩ : -9000 ≤ x ∧ x ≤ 9000 := by
              rcases cellB_iff.1 HXC.out with h | h
              · exact absurd h y0
              · exact h
            obtain ⟨p, hp2⟩ : ∃ p, x * num = p := ⟨_, rfl⟩
            have p1 : -900000 ≤ p := by rw [← hp2]; exact scale_lo xb1 xb2 s1 s2
            have p2 : p ≤ 900000 := by rw [← hp2]; exact scale_hi xb1 xb2 s1 s2
            have hz : scF num den x = p / den := by unfold scF; rw [hp2]
            have HM := Lib.hid (HSTEP.out (p / den) (by rw [rawV_yes HNG.out]; exact hz.symm))
            have HFS2 : Hid (fitsR (fun a _ => scF num den a) la la (k + 1) = (b && fitV (fun a _ => p / den) x x)) := Lib.hid (by rw [HFS.out, fitV_val HNG.out, fitV_val HNG.out, hz])
            have HQ := Lib.hid (fun W => l4Floor_is p den W (by omega) (by omega) s3 s4)
            have hpw : IntKind.i64.wrap p = p := IntWalk.i64_in p (by omega)
            have HIN := Lib.hid (fun W => l1In_is (p / den) (-9000) 9000 (valB (p / den)) W rfl)
            clear HFS hz y0 HXC
            have HFS := HFS2
            clear HFS2
            generalize p / den = z at *
            cases b with
            | false =>
              clear HSTEP HSTAY
              go_wp2_with fail
              have HFd := Lib.hid HF.out.drew
              have HXd : Hid (Box wr.drew q 26 (.int .i64 wa) (.int .i64 ha) (.slice (some ⟨g, 0, none⟩) la.length c2)) := Lib.hid HX.out
              have HRd : Hid (Row wr.drew g 3 (iv (mixR (rawV fun a _ => scF num den a) la la k))) := Lib.hid HR.out
              go_region_held3 (fun w' => w'.cell? ⟨w.heap.size, 2, none⟩ = some (.slice (some ⟨b0, o0, none⟩) la.length ca) ∧ w'.cell? ⟨b0, o0 + k, none⟩ = some (.int .i64 x) ∧ w'.cell? ⟨q, 2, none⟩ = some (.slice (some ⟨g, 0, none⟩) la.length c2))
                (first | exact ⟨k2, hc0, x2⟩ | exact ⟨cell_other k2 (by omega), cell_other hc0 (by omega), cell_other x2 (by omega)⟩ | go_keep)
                ((go_at_call 95; (with_reducible refine (HQ.out _).mono ?_); rintro e w9 ⟨rfl, rfl⟩))
              rename_i hHeld
              clear hHeld
              go_wp2
              go_roundw
              case rel => exact ⟨k + 1, by omega, by go_num, HFd.out.turn (turn_set _ g k _) hgb, HXd.out.other (by show q ≠ g; exact hne1) _, by have := HRd.out.set k (.int .i64 (z)); rw [iv_set, HM.out] at this; exact this, by rw [HFS.out]; rfl⟩
              case measure => simp [intOf]; omega
            | true =>
              clear HSTEP HSTAY
              go_wp2_with fail
              have HFd := Lib.hid HF.out.drew
              have HXd : Hid (Box wr.drew q 26 (.int .i64 wa) (.int .i64 ha) (.slice (some ⟨g, 0, none⟩) la.length c2)) := Lib.hid HX.out
              have HRd : Hid (Row wr.drew g 3 (iv (mixR (rawV fun a _ => scF num den a) la la k))) := Lib.hid HR.out
              go_region_held3 (fun w' => w'.cell? ⟨w.heap.size, 2, none⟩ = some (.slice (some ⟨b0, o0, none⟩) la.length ca) ∧ w'.cell? ⟨b0, o0 + k, none⟩ = some (.int .i64 x) ∧ w'.cell? ⟨q, 2, none⟩ = some (.slice (some ⟨g, 0, none⟩) la.length c2))
                (first | exact ⟨k2, hc0, x2⟩ | exact ⟨cell_other k2 (by omega), cell_other hc0 (by omega), cell_other x2 (by omega)⟩ | go_keep)
                ((go_at_call 95; (with_reducible refine (HQ.out _).mono ?_); rintro e w9 ⟨rfl, rfl⟩))
              rename_i hHeld
              clear hHeld
              go_wp2_with (go_at_call 59; refine (HIN.out _).mono ?_; rintro e w8 ⟨rfl, rfl⟩)
              go_roundw
              case rel => exact ⟨k + 1, by omega, by go_num, HFd.out.turn (turn_set _ g k _) hgb, HXd.out.other (by show q ≠ g; exact hne1) _, by have := HRd.out.set k (.int .i64 (z)); rw [iv_set, HM.out] at this; exact this, by rw [HFS.out, fitV_val HNG.out]; rfl⟩
              case measure => simp [intOf]; omega
        · obtain rfl : k = la.length := by omega
          have HM := Lib.hid (mix_all (rawV fun a _ => scF num den a) (Eq.refl la.length))
          have HML := Lib.hid (zipR_len (rawV fun a _ => scF num den a) (Eq.refl la.length))
          have HATR := Lib.hid (show At wr (some ⟨g, 0, none⟩) g (zipR (rawV fun a _ => scF num den a) la la) from .inr ⟨rfl, by rw [← HM.out]; exact hR⟩)
          rw [HV.out] at hok
          obtain rfl := hok
          have q7 : ¬ w.heap.size + 1 = q := by omega
          have q8 : ¬ q = w.heap.size + 1 := by omega
          clear hF hX hR
          go_wp2_with fail
          refine (chk_no wa ha _ _ _ _).mono ?_
          rintro e w9 ⟨rfl, b9⟩
          have F9 := Lib.hid (HF.out.step b9)
          obtain ⟨r0, r1, r2⟩ := F9.out.r.cells
          have g0 := F9.out.r.frozen 0
          have g1 := F9.out.r.frozen 1
          have g2 := F9.out.r.frozen 2
          clear b9 k0 k1 k2 x0 x1 x2
          go_wp2
          refine bodyPost_ret (v := .tuple #[.agg #[.int .i64 0, .int .i64 0, .slice none 0 0], .bool false]) (by simp [results, Try.results64, go_sem, r0, r1, r2]) rfl ⟨none, 0, rfl, OwnI.none_, ?_⟩
          exact ((F9.out.b.setCell (by show w.heap.size ≤ w.heap.size + 1; omega) _).setCell (by show w.heap.size ≤ w.heap.size + 1; omega) _).setCell (by show w.heap.size ≤ w.heap.size + 1; omega) _
  | true =>
    obtain ⟨gd, ee⟩ := comb_fit _ HSF.out hv
    rw [ee]
    have HGD := Lib.hid gd
    clear gd ee
    have HV := Lib.hid hv
    clear hv
    go_enter Try.func64, Try.ntmps64
    obtain ⟨k0, k1, k2⟩ := F1.out.k0.cells
    go_wp2_with fail
    refine (HO.out _ F1.out.i0).mono ?_
    rintro e w2 ⟨a2, c2, rfl, o2, b2⟩
    have z1 := F1.out.r.lt
    have z2 := b2.size
    obtain ⟨g, hg1, hg2⟩ := o2
    rcases hg2 with hnil | ⟨rfl, hrow⟩
    · rw [hnil] at hp; simp at hp
    · have F2 := Lib.hid (F1.out.step b2)
      have HROW := Lib.hid hrow
      have hglt := hrow.lt
      clear b2 hrow F1 HO k0 k1 k2
      obtain ⟨k0, k1, k2⟩ := F2.out.k0.cells
      have hne1 : ¬ w2.heap.size = g := by omega
      have hne2 : ¬ g = w2.heap.size := by omega
      have hgb : w.heap.size + 2 ≤ g := by omega
      have X0 := Box.new w2 26 (.int .i64 wa) (.int .i64 ha) (.slice (some ⟨g, 0, none⟩) la.length c2)
      have F3 := F2.out.step (below_all w2 (.cells #[.int .i64 wa, .int .i64 ha, .slice (some ⟨g, 0, none⟩) la.length c2] 26))
      have R3 := HROW.out.alloc (.cells #[.int .i64 wa, .int .i64 ha, .slice (some ⟨g, 0, none⟩) la.length c2] 26)
      go_wp2
      clear k0 k1 k2
      obtain ⟨W, hW⟩ : ∃ W, w2.alloc (.cells #[.int .i64 wa, .int .i64 ha, .slice (some ⟨g, 0, none⟩) la.length c2] 26) = W := ⟨_, rfl⟩
      obtain ⟨q, hq⟩ : ∃ q, w2.heap.size = q := ⟨_, rfl⟩
      rw [hW] at X0 F3 R3 ⊢
      rw [hq] at X0 hne1 hne2 ⊢
      have hq1 : w.heap.size + 2 ≤ q := by omega
      have HX0 := Lib.hid X0
      have HF3 := Lib.hid F3
      have HR3 := Lib.hid R3
      clear X0 F3 R3 hW F2 HROW
      clear hq
      go_loopw [9, 10] (fun ok i wr => ∃ k : Nat, k ≤ la.length ∧ i = .int .i64 k ∧ Fr1 w wa ha aa la ca wr ∧ Box wr q 26 (.int .i64 wa) (.int .i64 ha) (.slice (some ⟨g, 0, none⟩) la.length c2) ∧ Row wr g 3 (iv (mixR (rawV fun a _ => scF num den a) la la k)) ∧ ok = .bool (fitsR (fun a _ => scF num den a) la la k)) (fun _ i _ => la.length - (intOf i).toNat)
      case atStart => exact ⟨0, Nat.zero_le _, rfl, HF3.out, HX0.out, by rw [mix_zero]; exact HR3.out, by rw [fits_zero]⟩
      case round =>
        obtain ⟨k, hk, rfl, hF, hX, hR, hok⟩ := hrel
        have HF := Lib.hid hF
        have HX := Lib.hid hX
        have HR := Lib.hid hR
        obtain ⟨k0, k1, k2⟩ := hF.k0.cells
        obtain ⟨x0, x1, x2⟩ := hX.cells
        have hi0 : (0 : Int) ≤ (k : Int) := by omega
        by_cases hlt : k < la.length
        · have hlB : k < (la).length := by omega
          have hi : (k : Int) < (la.length : Int) := by omega
          have hml := mix_len (rawV fun a _ => scF num den a) (Eq.refl la.length) k hk
          obtain ⟨ov, hov⟩ : ∃ ov, wr.cell? ⟨g, k, none⟩ = some ov := ⟨_, hR.cell (k := k) (by rw [iv_length, hml]; exact hlt)⟩
          have hfz := hR.frozen k
          have HSTEP := Lib.hid (fun v hv => mix_step (rawV fun a _ => scF num den a) (Eq.refl la.length) k hlt v hv)
          have HSTAY := Lib.hid (fun hv => mix_stay (rawV fun a _ => scF num den a) (Eq.refl la.length) k hlt hv)
          have HFS := Lib.hid (fits_step (fun a _ => scF num den a) (Eq.refl la.length) k hlt)
          obtain ⟨b0, o0, rfl, hb0, hc0⟩ := (hF.s0.below hF.b (Nat.le_refl _)).at_ hlt
          have HXC := Lib.hid (HCELL.out la[k] (List.getElem_mem hlt))
          generalize la[k] = x at *
          clear hml
          obtain rfl := hok
          generalize fitsR (fun a _ => scF num den a) la la k = b at *
          clear hF hX hR
          by_cases y0 : x = -9999
          · have HM := Lib.hid (HSTAY.out (by rw [rawV_gone (.inl y0)]; exact y0))
            have HOK := Lib.hid (show fitsR (fun a _ => scF num den a) la la (k + 1) = b by rw [HFS.out, fitV_gone (.inl y0), Bool.and_true])
            have e0 : (x == -9999) = true := by simp [y0]
            subst y0
            clear HXC HFS
            clear HSTEP HSTAY
            go_wp2
            go_roundw
            case rel => exact ⟨k + 1, by omega, by go_num, HF.out, HX.out, by rw [← HM.out]; exact HR.out, by rw [HOK.out]⟩
            case measure => simp [intOf]; omega
          · have e0 : (x == -9999) = false := by simp [y0]
            have HNG := Lib.hid (show ¬ (x = -9999 ∨ x = -9999) by omega)
            obtain ⟨xb1, xb2⟩ : -9000 ≤ x ∧ x ≤ 9000 := by
              rcases cellB_iff.1 HXC.out with h | h
              · exact absurd h y0
              · exact h
            obtain ⟨p, hp2⟩ : ∃ p, x * num = p := ⟨_, rfl⟩
            have p1 : -900000 ≤ p := by rw [← hp2]; exact scale_lo xb1 xb2 s1 s2
            have p2 : p ≤ 900000 := by rw [← hp2]; exact scale_hi xb1 xb2 s1 s2
            have hz : scF num den x = p / den := by unfold scF; rw [hp2]
            have HM := Lib.hid (HSTEP.out (p / den) (by rw [rawV_yes HNG.out]; exact hz.symm))
            have HFS2 : Hid (fitsR (fun a _ => scF num den a) la la (k + 1) = (b && fitV (fun a _ => p / den) x x)) := Lib.hid (by rw [HFS.out, fitV_val HNG.out, fitV_val HNG.out, hz])
            have HQ := Lib.hid (fun W => l4Floor_is p den W (by omega) (by omega) s3 s4)
            have hpw : IntKind.i64.wrap p = p := IntWalk.i64_in p (by omega)
            have HIN := Lib.hid (fun W => l1In_is (p / den) (-9000) 9000 (valB (p / den)) W rfl)
            clear HFS hz y0 HXC
            have HFS := HFS2
            clear HFS2
            generalize p / den = z at *
            cases b with
            | false =>
              clear HSTEP HSTAY
              go_wp2_with fail
              have HFd := Lib.hid HF.out.drew
              have HXd : Hid (Box wr.drew q 26 (.int .i64 wa) (.int .i64 ha) (.slice (some ⟨g, 0, none⟩) la.length c2)) := Lib.hid HX.out
              have HRd : Hid (Row wr.drew g 3 (iv (mixR (rawV fun a _ => scF num den a) la la k))) := Lib.hid HR.out
              go_region_held3 (fun w' => w'.cell? ⟨w.heap.size, 2, none⟩ = some (.slice (some ⟨b0, o0, none⟩) la.length ca) ∧ w'.cell? ⟨b0, o0 + k, none⟩ = some (.int .i64 x) ∧ w'.cell? ⟨q, 2, none⟩ = some (.slice (some ⟨g, 0, none⟩) la.length c2))
                (first | exact ⟨k2, hc0, x2⟩ | exact ⟨cell_other k2 (by omega), cell_other hc0 (by omega), cell_other x2 (by omega)⟩ | go_keep)
                ((go_at_call 95; (with_reducible refine (HQ.out _).mono ?_); rintro e w9 ⟨rfl, rfl⟩))
              rename_i hHeld
              clear hHeld
              go_wp2
              go_roundw
              case rel => exact ⟨k + 1, by omega, by go_num, HFd.out.turn (turn_set _ g k _) hgb, HXd.out.other (by show q ≠ g; exact hne1) _, by have := HRd.out.set k (.int .i64 (z)); rw [iv_set, HM.out] at this; exact this, by rw [HFS.out]; rfl⟩
              case measure => simp [intOf]; omega
            | true =>
              clear HSTEP HSTAY
              go_wp2_with fail
              have HFd := Lib.hid HF.out.drew
              have HXd : Hid (Box wr.drew q 26 (.int .i64 wa) (.int .i64 ha) (.slice (some ⟨g, 0, none⟩) la.length c2)) := Lib.hid HX.out
              have HRd : Hid (Row wr.drew g 3 (iv (mixR (rawV fun a _ => scF num den a) la la k))) := Lib.hid HR.out
              go_region_held3 (fun w' => w'.cell? ⟨w.heap.size, 2, none⟩ = some (.slice (some ⟨b0, o0, none⟩) la.length ca) ∧ w'.cell? ⟨b0, o0 + k, none⟩ = some (.int .i64 x) ∧ w'.cell? ⟨q, 2, none⟩ = some (.slice (some ⟨g, 0, none⟩) la.length c2))
                (first | exact ⟨k2, hc0, x2⟩ | exact ⟨cell_other k2 (by omega), cell_other hc0 (by omega), cell_other x2 (by omega)⟩ | go_keep)
                ((go_at_call 95; (with_reducible refine (HQ.out _).mono ?_); rintro e w9 ⟨rfl, rfl⟩))
              rename_i hHeld
              clear hHeld
              go_wp2_with (go_at_call 59; refine (HIN.out _).mono ?_; rintro e w8 ⟨rfl, rfl⟩)
              go_roundw
              case rel => exact ⟨k + 1, by omega, by go_num, HFd.out.turn (turn_set _ g k _) hgb, HXd.out.other (by show q ≠ g; exact hne1) _, by have := HRd.out.set k (.int .i64 (z)); rw [iv_set, HM.out] at this; exact this, by rw [HFS.out, fitV_val HNG.out]; rfl⟩
              case measure => simp [intOf]; omega
        · obtain rfl : k = la.length := by omega
          have HM := Lib.hid (mix_all (rawV fun a _ => scF num den a) (Eq.refl la.length))
          have HML := Lib.hid (zipR_len (rawV fun a _ => scF num den a) (Eq.refl la.length))
          have HATR := Lib.hid (show At wr (some ⟨g, 0, none⟩) g (zipR (rawV fun a _ => scF num den a) la la) from .inr ⟨rfl, by rw [← HM.out]; exact hR⟩)
          rw [HV.out] at hok
          obtain rfl := hok
          have q7 : ¬ w.heap.size + 1 = q := by omega
          have q8 : ¬ q = w.heap.size + 1 := by omega
          clear hF hX hR
          go_wp2_with fail
          have hck := chk_yes wa ha (some ⟨g, 0, none⟩) (zipR (rawV fun a _ => scF num den a) la la) c2 wr HATR.out.ints (by rw [HML.out]; exact n1) HGD.out
          rw [HML.out] at hck
          refine hck.mono ?_
          rintro e w9 ⟨rfl, b9⟩
          clear hck
          have F9 := Lib.hid (HF.out.step b9)
          have A9 := Lib.hid (HATR.out.below b9)
          obtain ⟨r0, r1, r2⟩ := F9.out.r.cells
          have g0 := F9.out.r.frozen 0
          have g1 := F9.out.r.frozen 1
          have g2 := F9.out.r.frozen 2
          clear b9 k0 k1 k2 x0 x1 x2
          go_wp2
          refine bodyPost_ret (v := .tuple #[.agg #[.int .i64 wa, .int .i64 ha, .slice (some ⟨g, 0, none⟩) la.length c2], .bool true]) (by simp [results, Try.results64, go_sem, r0, r1, r2]) rfl ⟨some ⟨g, 0, none⟩, c2, by simp only [rW, rH, rL, rB]; rw [HML.out], ⟨g, by omega, ?_⟩, ?_⟩
          · exact ((A9.out.other (by show g ≠ w.heap.size + 1; omega) _).other (by show g ≠ w.heap.size + 1; omega) _).other (by show g ≠ w.heap.size + 1; omega) _
          · exact ((F9.out.b.setCell (by show w.heap.size ≤ w.heap.size + 1; omega) _).setCell (by show w.heap.size ≤ w.heap.size + 1; omega) _).setCell (by show w.heap.size ≤ w.heap.size + 1; omega) _

set_option maxRecDepth 100000 in
set_option maxHeartbeats 4000000 in
theorem specScale_any (wa ha : Int) (aa : Option Addr) (la : List Int) (ca : Nat) (num : Int) (den : Int) (w : World) (h1 : Ints .i64 w w.heap.size aa la) (n1 : la.length ≤ 1048576) :
    Calls Try.prog 23 #[.agg #[.int .i64 wa, .int .i64 ha, .slice aa la.length ca], .int .i64 num, .int .i64 den] w (FRet (scaleR wa ha la num den) w) := by
  have F0 := Lib.hid (Fr1.new (wd0 := wa) (hg0 := ha) (c0 := ca) h1)
  cases hgd : goodB wa ha la with
  | false =>
    rw [show scaleR wa ha la num den = none from (by unfold scaleR; split <;> first | exact mapR_no hgd | rfl)]
    have HC := Lib.hid (specGood_is wa ha aa la ca _ false _ F0.out.i0 (Nat.le_refl _) n1 hgd)
    clear h1 hgd
    go_enter Try.func23, Try.ntmps23
    go_wp2_with fail
    refine HC.out.mono ?_
    rintro e w1 ⟨rfl, b1⟩
    have F1 := Lib.hid (F0.out.step b1)
    clear b1 F0
    have B1 := Lib.hid F1.out.b
    obtain ⟨r0, r1, r2⟩ := F1.out.r.cells
    have g0 := F1.out.r.frozen 0
    have g1 := F1.out.r.frozen 1
    have g2 := F1.out.r.frozen 2
    go_wp2
    refine bodyPost_ret (v := .tuple #[.agg #[.int .i64 0, .int .i64 0, .slice none 0 0], .bool false]) (by simp [results, Try.results23, go_sem, r0, r1, r2]) rfl ⟨none, 0, rfl, OwnI.none_, ?_⟩
    first | exact B1.out | exact ((B1.out.setCell (p := ⟨w.heap.size + 1, 0, none⟩) (by show w.heap.size ≤ w.heap.size + 1; omega) _).setCell (p := ⟨w.heap.size + 1, 1, none⟩) (by show w.heap.size ≤ w.heap.size + 1; omega) _).setCell (p := ⟨w.heap.size + 1, 2, none⟩) (by show w.heap.size ≤ w.heap.size + 1; omega) _
  | true =>
    cases v1 : (decide (-100 ≤ num) && decide (num ≤ 100)) with
    | true =>
      have HL1 := Lib.hid (fun W => l1In_is num (-100) 100 true W v1)
      cases v2 : (decide (1 ≤ den) && decide (den ≤ 100)) with
      | true =>
        have hsb : scB num den = true := by unfold scB; rw [v1, v2]; rfl
        rw [show scaleR wa ha la num den = mapR (scF num den) wa ha la from if_pos hsb]
        have HL2 := Lib.hid (fun W => l1In_is den 1 100 true W v2)
        have HC := Lib.hid (specGood_is wa ha aa la ca _ true _ F0.out.i0 (Nat.le_refl _) n1 hgd)
        simp only [Bool.and_eq_true, decide_eq_true_eq] at v1 v2
        have HE := Lib.hid (fun W h => l4Scale_any wa ha aa la ca num den W h n1 hgd v1.1 v1.2 v2.1 v2.2)
        clear h1 hgd v1 v2 hsb
        generalize mapR (scF num den) wa ha la = rr at *
        go_enter Try.func23, Try.ntmps23
        go_wp2_with fail
        refine HC.out.mono ?_
        rintro e w1 ⟨rfl, b1⟩
        have F1 := Lib.hid (F0.out.step b1)
        obtain ⟨k0, k1, k2⟩ := F1.out.k0.cells
        clear b1 F0 HC
        go_wp2_with (first | (go_at_call 59; first | ((with_reducible refine (HL1.out _).mono ?_); rintro e w8 ⟨rfl, rfl⟩) | ((with_reducible refine (HL2.out _).mono ?_); rintro e w8 ⟨rfl, rfl⟩)) | fail)
        refine (HE.out _ F1.out.i0).mono ?_
        rintro e w2 ⟨a2, c2, rfl, o2, b2⟩
        have z1 := F1.out.r.lt
        have F2 := Lib.hid (F1.out.step b2)
        have O2 := Lib.hid (o2.more (C := w.heap.size + 1 + 1) (by omega))
        have B1 := Lib.hid F2.out.b
        obtain ⟨r0, r1, r2⟩ := F2.out.r.cells
        have g0 := F2.out.r.frozen 0
        have g1 := F2.out.r.frozen 1
        have g2 := F2.out.r.frozen 2
        clear o2 b2 F1 HE k0 k1 k2
        go_wp2
        refine bodyPost_ret (v := .tuple #[.agg #[.int .i64 (rW rr), .int .i64 (rH rr), .slice a2 (rL rr).length c2], .bool (rB rr)]) (by simp [results, Try.results23, go_sem, r0, r1, r2]) rfl ⟨a2, c2, rfl, ?_, ?_⟩
        · exact (ownI_set (ownI_set (ownI_set O2.out (by show w.heap.size + 1 < _; omega) _) (by show w.heap.size + 1 < _; omega) _) (by show w.heap.size + 1 < _; omega) _).more (by omega)
        · exact ((B1.out.setCell (by show w.heap.size ≤ w.heap.size + 1; omega) _).setCell (by show w.heap.size ≤ w.heap.size + 1; omega) _).setCell (by show w.heap.size ≤ w.heap.size + 1; omega) _
      | false =>
        rw [show scaleR wa ha la num den = none from (if_neg (by unfold scB; rw [v2]; simp))]
        have HC := Lib.hid (specGood_is wa ha aa la ca _ true _ F0.out.i0 (Nat.le_refl _) n1 hgd)
        have HL2 := Lib.hid (fun W => l1In_is den 1 100 false W v2)
        have HL1' := HL1
        clear v1 v2
        clear h1 hgd
        go_enter Try.func23, Try.ntmps23
        go_wp2_with fail
        refine HC.out.mono ?_
        rintro e w1 ⟨rfl, b1⟩
        have F1 := Lib.hid (F0.out.step b1)
        clear b1 F0
        have B1 := Lib.hid F1.out.b
        obtain ⟨r0, r1, r2⟩ := F1.out.r.cells
        have g0 := F1.out.r.frozen 0
        have g1 := F1.out.r.frozen 1
        have g2 := F1.out.r.frozen 2
        go_wp2_with (first | (go_at_call 59; first | ((with_reducible refine (HL1.out _).mono ?_); rintro e w8 ⟨rfl, rfl⟩) | ((with_reducible refine (HL2.out _).mono ?_); rintro e w8 ⟨rfl, rfl⟩)) | fail)
        refine bodyPost_ret (v := .tuple #[.agg #[.int .i64 0, .int .i64 0, .slice none 0 0], .bool false]) (by simp [results, Try.results23, go_sem, r0, r1, r2]) rfl ⟨none, 0, rfl, OwnI.none_, ?_⟩
        first | exact B1.out | exact ((B1.out.setCell (p := ⟨w.heap.size + 1, 0, none⟩) (by show w.heap.size ≤ w.heap.size + 1; omega) _).setCell (p := ⟨w.heap.size + 1, 1, none⟩) (by show w.heap.size ≤ w.heap.size + 1; omega) _).setCell (p := ⟨w.heap.size + 1, 2, none⟩) (by show w.heap.size ≤ w.heap.size + 1; omega) _
    | false =>
      rw [show scaleR wa ha la num den = none from (if_neg (by unfold scB; rw [v1]; simp))]
      have HC := Lib.hid (specGood_is wa ha aa la ca _ true _ F0.out.i0 (Nat.le_refl _) n1 hgd)
      have HL1 := Lib.hid (fun W => l1In_is num (-100) 100 false W v1)
      have HL2 := HL1
      clear v1
      clear h1 hgd
      go_enter Try.func23, Try.ntmps23
      go_wp2_with fail
      refine HC.out.mono ?_
      rintro e w1 ⟨rfl, b1⟩
      have F1 := Lib.hid (F0.out.step b1)
      clear b1 F0
      have B1 := Lib.hid F1.out.b
      obtain ⟨r0, r1, r2⟩ := F1.out.r.cells
      have g0 := F1.out.r.frozen 0
      have g1 := F1.out.r.frozen 1
      have g2 := F1.out.r.frozen 2
      go_wp2_with (first | (go_at_call 59; first | ((with_reducible refine (HL1.out _).mono ?_); rintro e w8 ⟨rfl, rfl⟩) | ((with_reducible refine (HL2.out _).mono ?_); rintro e w8 ⟨rfl, rfl⟩)) | fail)
      refine bodyPost_ret (v := .tuple #[.agg #[.int .i64 0, .int .i64 0, .slice none 0 0], .bool false]) (by simp [results, Try.results23, go_sem, r0, r1, r2]) rfl ⟨none, 0, rfl, OwnI.none_, ?_⟩
      first | exact B1.out | exact ((B1.out.setCell (p := ⟨w.heap.size + 1, 0, none⟩) (by show w.heap.size ≤ w.heap.size + 1; omega) _).setCell (p := ⟨w.heap.size + 1, 1, none⟩) (by show w.heap.size ≤ w.heap.size + 1; omega) _).setCell (p := ⟨w.heap.size + 1, 2, none⟩) (by show w.heap.size ≤ w.heap.size + 1; omega) _

end Go.Proofs.Ytglpkfkbbjbjjaa
