/- FillByMean, the program's and the model's. -/
import Derived.Test.YtecjkammoakakaaNbFive
import Derived.Test.YtecjkammoakakaaNbSpec5
import Derived.Deep.RegionHeld3
namespace Go.Proofs.Ytecjkammoakakaa
open Go.RowKit
set_option linter.unusedVariables false
set_option linter.unusedSimpArgs false
theorem FRetC.no {w : World} {e : Ending} {w' : World} (h : FRetC none w e w') : ∃ a c, e = .returned (.tuple #[.agg #[.int .i64 0, .int .i64 0, .slice a 0 c], .bool false]) ∧ Below w.heap.size w w' := by
  obtain ⟨a, c, _, h1, _, h3⟩ := h; exact ⟨a, c, h1, h3⟩
theorem FRetC.yes {wd hg : Int} {l : List Int} {w : World} {e : Ending} {w' : World} (h : FRetC (some (wd, hg, l)) w e w') : ∃ a c, l.length ≤ c ∧ e = .returned (.tuple #[.agg #[.int .i64 wd, .int .i64 hg, .slice a l.length c], .bool true]) ∧ OwnI w' w.heap.size a l ∧ Below w.heap.size w w' := h
theorem FRet.no {w : World} {e : Ending} {w' : World} (h : FRet none w e w') : ∃ a c, e = .returned (.tuple #[.agg #[.int .i64 0, .int .i64 0, .slice a 0 c], .bool false]) ∧ Below w.heap.size w w' := by
  obtain ⟨a, c, h1, _, h3⟩ := h; exact ⟨a, c, h1, h3⟩
theorem FRet.yes {wd hg : Int} {l : List Int} {w : World} {e : Ending} {w' : World} (h : FRet (some (wd, hg, l)) w e w') : ∃ a c, e = .returned (.tuple #[.agg #[.int .i64 wd, .int .i64 hg, .slice a l.length c], .bool true]) ∧ OwnI w' w.heap.size a l ∧ Below w.heap.size w w' := h
/-- the means of a field -/
def meanL (wd hg : Int) (l : List Int) (r : Int) : List Int := filtL (gapC meanF) wd.toNat hg.toNat r.toNat l
theorem meanL_len (wd hg : Int) (l : List Int) (r : Int) : (meanL wd hg l r).length = l.length := filtL_len _ _ _ _ _
theorem meanL_good {wd hg : Int} {l : List Int} (h : goodB wd hg l = true) (r : Int) : goodB wd hg (meanL wd hg l r) = true := filt_good fit_mean h _
theorem meanR_yes {wd hg : Int} {l : List Int} {r : Int} (h : nbB wd hg l r = true) : filtR meanF wd hg l r = some (wd, hg, meanL wd hg l r) := filtR_yes h
/-- what FillByMean answers -/
def fbmR (wd hg : Int) (l : List Int) (r : Int) : Option (Int × Int × List Int) := if nbB wd hg l r = true then some (wd, hg, zipR flF l (meanL wd hg l r)) else none
theorem fbmR_yes {wd hg : Int} {l : List Int} {r : Int} (h : nbB wd hg l r = true) : fbmR wd hg l r = some (wd, hg, zipR flF l (meanL wd hg l r)) := if_pos h
theorem fbmR_no {wd hg : Int} {l : List Int} {r : Int} (h : nbB wd hg l r = false) : fbmR wd hg l r = none := if_neg (by rw [h]; simp)
theorem fbmR_len (wd hg : Int) (l : List Int) (r : Int) : (rL (fbmR wd hg l r)).length ≤ 64 := by
  cases h : nbB wd hg l r with
  | false => rw [fbmR_no h]; simp [rL]
  | true => rw [fbmR_yes h]; have := good_le (nbB_iff.1 h).1; simp only [rL]; rw [zipR_len flF (meanL_len wd hg l r).symm]; omega
theorem fbm_fill {wd hg : Int} {l : List Int} {r : Int} (h : nbB wd hg l r = true) : fillR wd hg l wd hg (meanL wd hg l r) = some (wd, hg, zipR flF l (meanL wd hg l r)) :=
  comb_cells flF_cell (same_yes (nbB_iff.1 h).1 (meanL_good (nbB_iff.1 h).1 r))
/-- the same, beginning with the means -/
def flM (m x : Int) : Int := flF x m
theorem flM_all (l M : List Int) : zipR flM M l = zipR flF l M := by unfold zipR flM; exact List.zipWith_comm
set_option maxRecDepth 100000 in
set_option maxHeartbeats 4000000 in
theorem implFBM_any (wd hg : Int) (a : Option Addr) (l : List Int) (c : Nat) (r : Int) (w : World) (hl : Ints .i64 w w.heap.size a l) (hn : l.length ≤ 1048576) (hcap : l.length ≤ c) :
    Calls Try.prog 33 #[.agg #[.int .i64 wd, .int .i64 hg, .slice a l.length c], .int .i64 r] w (FRet (fbmR wd hg l r) w) := by
  have F0 := Lib.hid (Fr1.new (wd0 := wd) (hg0 := hg) (c0 := c) hl)
  have HC := implMean_c wd hg a l c r _ F0.out.i0 hn hcap
  cases hb : nbB wd hg l r with
  | false =>
    rw [filtR_no hb] at HC
    rw [fbmR_no hb]
    have HC := Lib.hid (HC.mono fun _ _ h => h.no)
    clear hl hb
    go_enter Try.func33, Try.ntmps33
    go_wp2_with fail
    refine HC.out.mono ?_
    rintro e w1 ⟨a1, c1, rfl, b1⟩
    have F1 := Lib.hid (F0.out.step b1)
    have B1 := Lib.hid F1.out.b
    have B2 := Lib.hid (B1.out.alloc B1.out.size (.cells #[.int .i64 0, .int .i64 0, .slice a1 0 c1] 26))
    obtain ⟨r0, r1, r2⟩ := F1.out.r.cells
    have g0 := F1.out.r.frozen 0
    have g1 := F1.out.r.frozen 1
    have g2 := F1.out.r.frozen 2
    have zz := F1.out.r.lt
    have zz2 : ¬ w.heap.size + 1 = w1.heap.size := by omega
    clear b1 HC F0 F1
    go_wp2
    refine bodyPost_ret (v := .tuple #[.agg #[.int .i64 0, .int .i64 0, .slice none 0 0], .bool false]) (by simp [results, Try.results33, go_sem, r0, r1, r2, zz, zz2]) rfl ⟨none, 0, rfl, OwnI.none_, ?_⟩
    first | exact (((B1.out.setCell (p := ⟨w.heap.size + 1, 0, none⟩) (by show w.heap.size ≤ w.heap.size + 1; omega) _).setCell (p := ⟨w.heap.size + 1, 1, none⟩) (by show w.heap.size ≤ w.heap.size + 1; omega) _).setCell (p := ⟨w.heap.size + 1, 2, none⟩) (by show w.heap.size ≤ w.heap.size + 1; omega) _).alloc (by simp [World.setCell]; omega) _ | exact ((B2.out.setCell (p := ⟨w.heap.size + 1, 0, none⟩) (by show w.heap.size ≤ w.heap.size + 1; omega) _).setCell (p := ⟨w.heap.size + 1, 1, none⟩) (by show w.heap.size ≤ w.heap.size + 1; omega) _).setCell (p := ⟨w.heap.size + 1, 2, none⟩) (by show w.heap.size ≤ w.heap.size + 1; omega) _
  | true =>
    rw [meanR_yes hb] at HC
    rw [fbmR_yes hb]
    have HC := Lib.hid (HC.mono fun _ _ h => h.yes)
    have hml := meanL_len wd hg l r
    have hf := fbm_fill hb
    have hle := good_le (nbB_iff.1 hb).1
    generalize meanL wd hg l r = M at *
    have HFI := Lib.hid (fun W a1 c1 h1 h2 => by have := implFill_any wd hg a l c wd hg a1 M c1 W h1 h2 hn (by omega); rw [hf] at this; exact this.mono fun _ _ h => h.yes)
    generalize zipR flF l M = Z at *
    have HML := Lib.hid hml
    clear hl hb hf hml
    go_enter Try.func33, Try.ntmps33
    go_wp2_with fail
    refine HC.out.mono ?_
    rintro e w1 ⟨a1, c1, h1, rfl, o1, b1⟩
    have F1 := Lib.hid (F0.out.step b1)
    obtain ⟨W1, hW1⟩ : ∃ x, w1.alloc (.cells #[.int .i64 wd, .int .i64 hg, .slice a1 M.length c1] 26) = x := ⟨_, rfl⟩
    have aW1 : Below w1.heap.size w1 W1 := by rw [← hW1]; exact below_all _ _
    have BW1 : Box W1 w1.heap.size 26 (.int .i64 wd) (.int .i64 hg) (.slice a1 M.length c1) := by rw [← hW1]; exact Box.new _ _ _ _ _
    have F2 := Lib.hid (F1.out.step aW1)
    have I2 := Lib.hid (ints_below o1.ints aW1)
    obtain ⟨k0, k1, k2⟩ := F1.out.k0.cells
    have zz := F1.out.r.lt
    have y1 : w.heap.size < w1.heap.size := by omega
    have y2 : ¬ w.heap.size = w1.heap.size := by omega
    have HW1 := Lib.hid hW1
    clear b1 HC F0 F1 hW1 BW1 aW1 o1
    go_wp2_with fail
    rw [HW1.out]
    refine (HFI.out _ _ _ F2.out.i0 I2.out).mono ?_
    rintro e w3 ⟨a3, c3, rfl, o3, b3⟩
    have O3 := Lib.hid (o3.more (C := w.heap.size + 1 + 1) (by have := F2.out.r.lt; omega))
    have F3 := Lib.hid (F2.out.step b3)
    have B3 := Lib.hid F3.out.b
    obtain ⟨r0, r1, r2⟩ := F3.out.r.cells
    have g0 := F3.out.r.frozen 0
    have g1 := F3.out.r.frozen 1
    have g2 := F3.out.r.frozen 2
    clear o3 b3 F2 F3 k0 k1 k2 HW1 HFI
    go_wp2
    refine bodyPost_ret (v := .tuple #[.agg #[.int .i64 wd, .int .i64 hg, .slice a3 Z.length c3], .bool true]) (by simp [results, Try.results33, go_sem, r0, r1, r2]) rfl ⟨a3, c3, rfl, ?_, ?_⟩
    · exact (ownI_set (ownI_set (ownI_set O3.out (by show w.heap.size + 1 < _; omega) _) (by show w.heap.size + 1 < _; omega) _) (by show w.heap.size + 1 < _; omega) _).more (by omega)
    · exact ((B3.out.setCell (by show w.heap.size ≤ w.heap.size + 1; omega) _).setCell (by show w.heap.size ≤ w.heap.size + 1; omega) _).setCell (by show w.heap.size ≤ w.heap.size + 1; omega) _
set_option maxRecDepth 100000 in
set_option maxHeartbeats 4000000 in
theorem specFBM_any (wd hg : Int) (a : Option Addr) (l : List Int) (c : Nat) (r : Int) (w : World) (hl : Ints .i64 w w.heap.size a l) (hn : l.length ≤ 1048576) :
    Calls Try.prog 34 #[.agg #[.int .i64 wd, .int .i64 hg, .slice a l.length c], .int .i64 r] w (FRet (fbmR wd hg l r) w) := by
  have F0 := Lib.hid (Fr1.new (wd0 := wd) (hg0 := hg) (c0 := c) hl)
  have HC := specMean_any wd hg a l c r _ F0.out.i0 hn
  cases hb : nbB wd hg l r with
  | false =>
    rw [filtR_no hb] at HC
    rw [fbmR_no hb]
    have HC := Lib.hid (HC.mono fun _ _ h => h.no)
    clear hl hb
    go_enter Try.func34, Try.ntmps34
    go_wp2_with fail
    refine HC.out.mono ?_
    rintro e w1 ⟨a1, c1, rfl, b1⟩
    have F1 := Lib.hid (F0.out.step b1)
    have B1 := Lib.hid F1.out.b
    have B2 := Lib.hid (B1.out.alloc B1.out.size (.cells #[.int .i64 0, .int .i64 0, .slice a1 0 c1] 26))
    obtain ⟨r0, r1, r2⟩ := F1.out.r.cells
    have g0 := F1.out.r.frozen 0
    have g1 := F1.out.r.frozen 1
    have g2 := F1.out.r.frozen 2
    have zz := F1.out.r.lt
    have zz2 : ¬ w.heap.size + 1 = w1.heap.size := by omega
    clear b1 HC F0 F1
    go_wp2
    refine bodyPost_ret (v := .tuple #[.agg #[.int .i64 0, .int .i64 0, .slice none 0 0], .bool false]) (by simp [results, Try.results34, go_sem, r0, r1, r2, zz, zz2]) rfl ⟨none, 0, rfl, OwnI.none_, ?_⟩
    first | exact (((B1.out.setCell (p := ⟨w.heap.size + 1, 0, none⟩) (by show w.heap.size ≤ w.heap.size + 1; omega) _).setCell (p := ⟨w.heap.size + 1, 1, none⟩) (by show w.heap.size ≤ w.heap.size + 1; omega) _).setCell (p := ⟨w.heap.size + 1, 2, none⟩) (by show w.heap.size ≤ w.heap.size + 1; omega) _).alloc (by simp [World.setCell]; omega) _ | exact ((B2.out.setCell (p := ⟨w.heap.size + 1, 0, none⟩) (by show w.heap.size ≤ w.heap.size + 1; omega) _).setCell (p := ⟨w.heap.size + 1, 1, none⟩) (by show w.heap.size ≤ w.heap.size + 1; omega) _).setCell (p := ⟨w.heap.size + 1, 2, none⟩) (by show w.heap.size ≤ w.heap.size + 1; omega) _
  | true =>
    rw [meanR_yes hb] at HC
    rw [fbmR_yes hb]
    have HC := Lib.hid (HC.mono fun _ _ h => h.yes)
    have hml := meanL_len wd hg l r
    have hle := good_le (nbB_iff.1 hb).1
    generalize meanL wd hg l r = M at *
    rw [← flM_all]
    clear hl hb
    go_enter Try.func34, Try.ntmps34
    go_wp2_with fail
    refine HC.out.mono ?_
    rintro e w2 ⟨a2, c2, rfl, o2, b2⟩
    have F2 := Lib.hid (F0.out.step b2)
    have z1 := F2.out.r.lt
    obtain ⟨g, hg1, hg2⟩ := o2
    have hgb : w.heap.size + 2 ≤ g := by simpa using hg1
    rcases hg2 with hnil | ⟨rfl, hrow⟩
    · rw [hnil] at hml; simp at hml; omega
    · have HROW := Lib.hid hrow
      have hglt := hrow.lt
      rw [hml]
      clear b2 hrow F0 HC
      obtain ⟨k0, k1, k2⟩ := F2.out.k0.cells
      have hne1 : ¬ w2.heap.size = g := by omega
      have hne2 : ¬ g = w2.heap.size := by omega
      have X0 := Box.new w2 26 (.int .i64 wd) (.int .i64 hg) (.slice (some ⟨g, 0, none⟩) l.length c2)
      have F3 := F2.out.step (below_all w2 (.cells #[.int .i64 wd, .int .i64 hg, .slice (some ⟨g, 0, none⟩) l.length c2] 26))
      have R3 := HROW.out.alloc (.cells #[.int .i64 wd, .int .i64 hg, .slice (some ⟨g, 0, none⟩) l.length c2] 26)
      go_wp2
      clear k0 k1 k2
      obtain ⟨W, hW⟩ : ∃ W, w2.alloc (.cells #[.int .i64 wd, .int .i64 hg, .slice (some ⟨g, 0, none⟩) l.length c2] 26) = W := ⟨_, rfl⟩
      obtain ⟨q, hq⟩ : ∃ q, w2.heap.size = q := ⟨_, rfl⟩
      rw [hW] at X0 F3 R3 ⊢
      rw [hq] at X0 hne1 hne2 ⊢
      have hq1 : w.heap.size + 2 ≤ q := by omega
      have HX0 := Lib.hid X0
      have HF3 := Lib.hid F3
      have HR3 := Lib.hid R3
      clear X0 F3 R3 hW F2 HROW
      clear hq
      go_loopw [8] (fun i wr => ∃ k : Nat, k ≤ l.length ∧ i = .int .i64 k ∧ Fr1 w wd hg a l c wr ∧ Box wr q 26 (.int .i64 wd) (.int .i64 hg) (.slice (some ⟨g, 0, none⟩) l.length c2) ∧ Row wr g 3 (iv (mixR flM M l k))) (fun i _ => l.length - (intOf i).toNat)
      case atStart => exact ⟨0, Nat.zero_le _, rfl, HF3.out, HX0.out, by rw [mix_zero]; exact HR3.out⟩
      case round =>
        obtain ⟨k, hk, rfl, hF, hX, hR⟩ := hrel
        have HF := Lib.hid hF
        have HX := Lib.hid hX
        have HR := Lib.hid hR
        obtain ⟨k0, k1, k2⟩ := hF.k0.cells
        obtain ⟨x0, x1, x2⟩ := hX.cells
        have hi0 : (0 : Int) ≤ (k : Int) := by omega
        by_cases hlt : k < l.length
        · have hkM : k < M.length := by omega
          have hi : (k : Int) < (l.length : Int) := by omega
          have hmml := mix_len flM hml k (by omega)
          obtain ⟨ov, hov⟩ : ∃ ov, wr.cell? ⟨g, k, none⟩ = some ov := ⟨_, hR.cell (k := k) (by rw [iv_length, hmml]; exact hkM)⟩
          have hfz := hR.frozen k
          have HSTEP := Lib.hid (fun v hv => mix_step flM hml k hkM v hv)
          have HSTAY := Lib.hid (fun hv => mix_stay flM hml k hkM hv)
          obtain ⟨b0, o0, rfl, hb0, hc0⟩ := (hF.s0.below hF.b (Nat.le_refl _)).at_ hlt
          generalize M[k] = m at *
          generalize l[k] = x at *
          clear hmml
          clear hF hX hR
          by_cases y0 : x = -9999
          · have e0 : (x != -9999) = false := by simp [y0]
            have HM := Lib.hid (HSTAY.out (if_pos y0).symm)
            clear y0
            clear HSTEP HSTAY
            go_wp2
            go_roundw
            case rel => exact ⟨k + 1, by omega, by go_num, HF.out, HX.out, by rw [← HM.out]; exact HR.out⟩
            case measure => simp [intOf]; omega
          · have HM := Lib.hid (HSTEP.out x (if_neg y0).symm)
            have e0 : (x != -9999) = true := by simp [y0]
            clear y0
            clear HSTEP HSTAY
            go_wp2_with fail
            have HFd := Lib.hid HF.out.drew
            have HXd : Hid (Box wr.drew q 26 (.int .i64 wd) (.int .i64 hg) (.slice (some ⟨g, 0, none⟩) l.length c2)) := Lib.hid HX.out
            have HRd : Hid (Row wr.drew g 3 (iv (mixR flM M l k))) := Lib.hid HR.out
            go_region_held3 (fun w' => w'.cell? ⟨w.heap.size, 2, none⟩ = some (.slice (some ⟨b0, o0, none⟩) l.length c) ∧ w'.cell? ⟨b0, o0 + k, none⟩ = some (.int .i64 x) ∧ w'.cell? ⟨q, 2, none⟩ = some (.slice (some ⟨g, 0, none⟩) l.length c2))
              (first | exact ⟨k2, hc0, x2⟩ | exact ⟨cell_other k2 (by omega), cell_other hc0 (by omega), cell_other x2 (by omega)⟩ | go_keep)
              (fail)
            rename_i hHeld
            clear hHeld
            go_wp2
            go_roundw
            case rel => exact ⟨k + 1, by omega, by go_num, HFd.out.turn (turn_set _ g k _) hgb, HXd.out.other (by show q ≠ g; exact hne1) _, by have := HRd.out.set k (.int .i64 x); rw [iv_set, HM.out] at this; exact this⟩
            case measure => simp [intOf]; omega
        · obtain rfl : k = l.length := by omega
          have HM := Lib.hid (mix_all flM hml)
          rw [hml] at HM
          have HML := Lib.hid (zipR_len flM hml)
          rw [hml] at HML
          obtain ⟨r0, r1, r2⟩ := hF.r.cells
          have g0 := hF.r.frozen 0
          have g1 := hF.r.frozen 1
          have g2 := hF.r.frozen 2
          have q7 : ¬ w.heap.size + 1 = q := by omega
          have q8 : ¬ q = w.heap.size + 1 := by omega
          clear hF hX hR
          go_wp2
          refine bodyPost_ret (v := .tuple #[.agg #[.int .i64 wd, .int .i64 hg, .slice (some ⟨g, 0, none⟩) l.length c2], .bool true]) (by simp [results, Try.results34, go_sem, r0, r1, r2, q7, q8]) rfl ⟨some ⟨g, 0, none⟩, c2, by simp only [rW, rH, rL, rB]; rw [HML.out], ⟨g, by omega, .inr ⟨rfl, ?_⟩⟩, ?_⟩
          · have h := HR.out
            rw [HM.out] at h
            exact ((h.other (by show g ≠ w.heap.size + 1; omega) _).other (by show g ≠ w.heap.size + 1; omega) _).other (by show g ≠ w.heap.size + 1; omega) _
          · exact ((HF.out.b.setCell (by show w.heap.size ≤ w.heap.size + 1; omega) _).setCell (by show w.heap.size ≤ w.heap.size + 1; omega) _).setCell (by show w.heap.size ≤ w.heap.size + 1; omega) _
end Go.Proofs.Ytecjkammoakakaa
