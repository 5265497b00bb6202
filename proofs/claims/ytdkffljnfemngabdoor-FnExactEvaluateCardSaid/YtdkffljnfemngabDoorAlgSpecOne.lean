/- The model's field algebra. -/
import Derived.Test.YtdkffljnfemngabDoorSame
import Derived.Test.YtdkffljnfemngabDoorSet
import Derived.Test.YtdkffljnfemngabDoorPair
import Derived.Deep.RegionHeld3
namespace Go.Proofs.YtdkffljnfemngabDoor
open Go.RowKit
set_option linter.unusedVariables false
set_option linter.unusedSimpArgs false
theorem one_val {f : Int → Int} {x : Int} (hf : ∀ x, -9000 ≤ x → x ≤ 9000 → -9000 ≤ f x ∧ f x ≤ 9000) (hx : cellB x = true) (h : ¬ x = -9999) : ofV (fun a _ => f a) x x = f x := by
  rcases cellB_iff.1 hx with h1 | h1
  · exact absurd h1 h
  · exact ofV_yes (by omega) (valB_iff.2 (hf x h1.1 h1.2))
set_option maxRecDepth 100000 in
set_option maxHeartbeats 4000000 in
theorem l4Exceeds_any (wa ha : Int) (aa : Option Addr) (la : List Int) (ca : Nat) (limit : Int) (w : World) (h1 : Ints .i64 w w.heap.size aa la) (n1 : la.length ≤ 1048576) (hg' : goodB wa ha la = true) :
    Calls Tryd.prog 66 #[.agg #[.int .i64 wa, .int .i64 ha, .slice aa la.length ca], .int .i64 limit] w (FOne wa ha (zipR (ofV fun a _ => exF limit a) la la) w) := by
  have F1 := Lib.hid (Fr1.new (wd0 := wa) (hg0 := ha) (c0 := ca) h1)
  have hp := good_le hg'
  have HCELL := Lib.hid (good_cell hg')
  have HO := Lib.hid (fun W h => l2Own_any wa ha aa la ca W h n1 (by omega))
  clear h1 hg'
  go_enter Tryd.func66, Tryd.ntmps66
  obtain ⟨k0, k1, k2⟩ := F1.out.k0.cells
  go_wp2_with fail
  refine (HO.out _ F1.out.i0).mono ?_
  rintro e w2 ⟨a2, c2, rfl, o2, b2⟩
  have z1 := F1.out.r.lt
  have z2 := b2.size
  obtain ⟨g, hg1, hg2⟩ := o2
  rcases hg2 with hnil | ⟨rfl, hrow⟩
  · rw [hnil] at hp; simp at hp
  · have F2 := Lib.hid (F1.out.step b2)
    have HROW := Lib.hid hrow
    have hglt := hrow.lt
    clear b2 hrow F1 HO k0 k1 k2
    obtain ⟨k0, k1, k2⟩ := F2.out.k0.cells
    have hne1 : ¬ w2.heap.size = g := by omega
    have hne2 : ¬ g = w2.heap.size := by omega
    have hgb : w.heap.size + 2 ≤ g := by omega
    have X0 := Box.new w2 41 (.int .i64 wa) (.int .i64 ha) (.slice (some ⟨g, 0, none⟩) la.length c2)
    have F3 := F2.out.step (below_all w2 (.cells #[.int .i64 wa, .int .i64 ha, .slice (some ⟨g, 0, none⟩) la.length c2] 41))
    have R3 := HROW.out.alloc (.cells #[.int .i64 wa, .int .i64 ha, .slice (some ⟨g, 0, none⟩) la.length c2] 41)
    go_wp2
    clear k0 k1 k2
    obtain ⟨W, hW⟩ : ∃ W, w2.alloc (.cells #[.int .i64 wa, .int .i64 ha, .slice (some ⟨g, 0, none⟩) la.length c2] 41) = W := ⟨_, rfl⟩
    obtain ⟨q, hq⟩ : ∃ q, w2.heap.size = q := ⟨_, rfl⟩
    rw [hW] at X0 F3 R3 ⊢
    rw [hq] at X0 hne1 hne2 ⊢
    have hq1 : w.heap.size + 2 ≤ q := by omega
    have HX0 := Lib.hid X0
    have HF3 := Lib.hid F3
    have HR3 := Lib.hid R3
    clear X0 F3 R3 hW F2 HROW
    clear hq
    go_loopw [6] (fun i wr => ∃ k : Nat, k ≤ la.length ∧ i = .int .i64 k ∧ Fr1 w wa ha aa la ca wr ∧ Box wr q 41 (.int .i64 wa) (.int .i64 ha) (.slice (some ⟨g, 0, none⟩) la.length c2) ∧ Row wr g 3 (iv (mixR (ofV fun a _ => exF limit a) la la k))) (fun i _ => la.length - (intOf i).toNat)
    case atStart => exact ⟨0, Nat.zero_le _, rfl, HF3.out, HX0.out, by rw [mix_zero]; exact HR3.out⟩
    case round =>
      obtain ⟨k, hk, rfl, hF, hX, hR⟩ := hrel
      have HF := Lib.hid hF
      have HX := Lib.hid hX
      have HR := Lib.hid hR
      obtain ⟨k0, k1, k2⟩ := hF.k0.cells
      obtain ⟨x0, x1, x2⟩ := hX.cells
      have hi0 : (0 : Int) ≤ (k : Int) := by omega
      by_cases hlt : k < la.length
      · have hlB : k < (la).length := by omega
        have hi : (k : Int) < (la.length : Int) := by omega
        have hml := mix_len (ofV fun a _ => exF limit a) (Eq.refl la.length) k hk
        obtain ⟨ov, hov⟩ : ∃ ov, wr.cell? ⟨g, k, none⟩ = some ov := ⟨_, hR.cell (k := k) (by rw [iv_length, hml]; exact hlt)⟩
        have hfz := hR.frozen k
        have HSTEP := Lib.hid (fun v hv => mix_step (ofV fun a _ => exF limit a) (Eq.refl la.length) k hlt v hv)
        have HSTAY := Lib.hid (fun hv => mix_stay (ofV fun a _ => exF limit a) (Eq.refl la.length) k hlt hv)
        obtain ⟨b0, o0, rfl, hb0, hc0⟩ := (hF.s0.below hF.b (Nat.le_refl _)).at_ hlt
        have HXC := Lib.hid (HCELL.out la[k] (List.getElem_mem hlt))
        generalize la[k] = x at *
        clear hml
        clear hF hX hR
        by_cases y0 : x = -9999
        · have HM := Lib.hid (HSTAY.out (by rw [ofV_gone (.inl y0)]; exact y0))
          subst y0
          clear HXC
          clear HSTEP HSTAY
          go_wp2
          go_roundw
          case rel => exact ⟨k + 1, by omega, by go_num, HF.out, HX.out, by rw [← HM.out]; exact HR.out⟩
          case measure => simp [intOf]; omega
        · have e0 : (x == -9999) = false := by rw [beq_eq_false_iff_ne]; exact y0
          have HV := Lib.hid (one_val (exF_bd limit) HXC.out y0)
          by_cases y1 : limit < x
          · have HM := Lib.hid (HSTEP.out 1 (by rw [HV.out]; exact (if_pos y1).symm))
            clear y0 HXC HV
            clear HSTEP HSTAY
            go_wp2
            go_roundw
            case rel => exact ⟨k + 1, by omega, by go_num, HF.out.turn (turn_set _ g k _) hgb, HX.out.other (by show q ≠ g; exact hne1) _, by have := HR.out.set k (.int .i64 (1)); rw [iv_set, HM.out] at this; exact this⟩
            case measure => simp [intOf]; omega
          · have HM := Lib.hid (HSTEP.out 0 (by rw [HV.out]; exact (if_neg y1).symm))
            clear y0 HXC HV
            clear HSTEP HSTAY
            go_wp2
            go_roundw
            case rel => exact ⟨k + 1, by omega, by go_num, HF.out.turn (turn_set _ g k _) hgb, HX.out.other (by show q ≠ g; exact hne1) _, by have := HR.out.set k (.int .i64 (0)); rw [iv_set, HM.out] at this; exact this⟩
            case measure => simp [intOf]; omega
      · obtain rfl : k = la.length := by omega
        have HM := Lib.hid (mix_all (ofV fun a _ => exF limit a) (Eq.refl la.length))
        have HML := Lib.hid (zipR_len (ofV fun a _ => exF limit a) (Eq.refl la.length))
        obtain ⟨r0, r1, r2⟩ := hF.r.cells
        have g0 := hF.r.frozen 0
        have g1 := hF.r.frozen 1
        have g2 := hF.r.frozen 2
        have q7 : ¬ w.heap.size + 1 = q := by omega
        have q8 : ¬ q = w.heap.size + 1 := by omega
        clear hF hX hR
        go_wp2
        refine bodyPost_ret (v := .agg #[.int .i64 wa, .int .i64 ha, .slice (some ⟨g, 0, none⟩) la.length c2]) (by simp [results, Tryd.results66, go_sem, r0, r1, r2, q7, q8]) rfl ⟨some ⟨g, 0, none⟩, c2, by rw [HML.out], ⟨g, by omega, .inr ⟨rfl, ?_⟩⟩, ?_⟩
        · have h := HR.out
          rw [HM.out] at h
          exact ((h.other (by show g ≠ w.heap.size + 1; omega) _).other (by show g ≠ w.heap.size + 1; omega) _).other (by show g ≠ w.heap.size + 1; omega) _
        · exact ((HF.out.b.setCell (by show w.heap.size ≤ w.heap.size + 1; omega) _).setCell (by show w.heap.size ≤ w.heap.size + 1; omega) _).setCell (by show w.heap.size ≤ w.heap.size + 1; omega) _

end Go.Proofs.YtdkffljnfemngabDoor
