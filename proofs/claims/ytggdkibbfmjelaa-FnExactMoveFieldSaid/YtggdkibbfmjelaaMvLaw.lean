/- The walk of the law FnExactMoveField. -/
import Derived.Test.YtggdkibbfmjelaaMvMvS
import Derived.Test.YtggdkibbfmjelaaMvMove
import Derived.Test.YtggdkibbfmjelaaLws
import Derived.Test.YtggdkibbfmjelaaGotA
namespace Go.Proofs.Ytggdkibbfmjelaa
open Go.RowKit
set_option linter.unusedVariables false
set_option linter.unusedSimpArgs false
set_option maxRecDepth 100000 in
set_option maxHeartbeats 16000000 in
theorem walk_MvLaw (wd0 hg0 : Int) (a0 : Option Addr) (l0 : List Int) (c0 : Nat) (mx my : Int) (w : World) (hl0 : Ints .i64 w w.heap.size a0 l0) (hm0 : l0.length ≤ maxLen) :
    Calls Try.prog 4 #[.agg #[.int .i64 wd0, .int .i64 hg0, .slice a0 l0.length c0], .agg #[.int .i64 mx, .int .i64 my]] w fun e w' => e = .returned (.bool true) ∧ Below w.heap.size w w' := by
  have hL0 := Lib.hid ((Lw1.new (wd0 := wd0) (hg0 := hg0) (c0 := c0) hl0).step (below_all _ (.cells #[.int .i64 mx, .int .i64 my] 23)))
  have hM0 := Lib.hid (MBox.new (w.alloc (.cells #[.int .i64 wd0, .int .i64 hg0, .slice a0 l0.length c0] 32)) 23 mx my)
  simp only [World.size_alloc] at hM0
  clear hl0
  have HZ0 := Lib.hid (fun W h0 => szField_any wd0 hg0 a0 l0.length c0 (1048576) W hm0 h0 (by omega))
  unfold maxLen at hm0
  by_cases hn0 : (l0.length : Int) ≤ 1048576
  · rw [if_pos hn0] at HZ0
    have hq0 : l0.length ≤ 1048576 := by omega
    have HV := Lib.hid (fun (b0 : Nat) (W : World) (h0 : Ints .i64 W W.heap.size (some ⟨b0, 0, none⟩) l0) => specMove_any wd0 hg0 (some ⟨b0, 0, none⟩) l0 l0.length mx my W h0 hq0)
    have HI := Lib.hid (fun (b0 : Nat) (W : World) (h0 : Ints .i64 W W.heap.size (some ⟨b0, 0, none⟩) l0) => implMove_any wd0 hg0 (some ⟨b0, 0, none⟩) l0 l0.length mx my W h0 hq0)
    have HT0 := Lib.hid (fun (W : World) (h : Ints .i64 W W.heap.size a0 l0) => toField_any wd0 hg0 a0 l0 c0 W h hq0)
    have hlen := moveR_len wd0 hg0 l0 mx my
    generalize moveR wd0 hg0 l0 mx my = r at *
    obtain ⟨rw', hrW⟩ : ∃ x, rW r = x := ⟨_, rfl⟩
    obtain ⟨rh, hrH⟩ : ∃ x, rH r = x := ⟨_, rfl⟩
    obtain ⟨rl, hrL⟩ : ∃ x, rL r = x := ⟨_, rfl⟩
    obtain ⟨rb, hrB⟩ : ∃ x, rB r = x := ⟨_, rfl⟩
    unfold FRet at HV HI
    rw [hrW, hrH, hrL, hrB] at HV HI
    rw [hrL] at hlen
    clear hrW hrH hrL hrB
    go_enter Try.func4, Try.ntmps4
    go_wp2_with fail
    refine (HZ0.out _ (by omega)).mono ?_
    rintro e w1 ⟨rfl, b⟩
    have z1 := b.size
    simp only [World.size_alloc] at z1
    have hL1 := Lib.hid (hL0.out.step b)
    have hM1 := Lib.hid (hM0.out.below b)
    clear hL0 hM0
    clear b HZ0
    obtain ⟨k0, k1, k2⟩ := hL1.out.k0.cells
    have zl := hL1.out.k0.lt
    obtain ⟨m0, m1⟩ := hM1.out.cells
    have zm := hM1.out.lt
    go_upto_region 5 with fail
    go_cut [6, 7] (fun s t wx => Got (fun wx => (Lw1 w wd0 hg0 a0 l0 c0 wx) ∧ (MBox wx (w.heap.size + 1) 23 mx my)) (w.heap.size + 1) rw' rh rl rb s t wx)
    case first =>
      have hz1 : Hid (MayBox w1 none) := Lib.hid trivial
      go_region_held3 (fun w' => (w'.cell? ⟨w.heap.size, 0, none⟩ = some (.int .i64 wd0) ∧ w'.cell? ⟨w.heap.size, 1, none⟩ = some (.int .i64 hg0) ∧ w'.cell? ⟨w.heap.size, 2, none⟩ = some (.slice a0 l0.length c0)) ∧ (w'.cell? ⟨(w.heap.size + 1), 0, none⟩ = some (.int .i64 mx) ∧ w'.cell? ⟨(w.heap.size + 1), 1, none⟩ = some (.int .i64 my)))
        (first | (with_reducible exact ⟨hL103.out.k0.cells, hM103.out.cells⟩) | (with_reducible exact ⟨(hL103.out.k0.alloc _).cells, (hM103.out.below (below_all _ _)).cells⟩) | (with_reducible exact ⟨hL102.out.k0.cells, hM102.out.cells⟩) | (with_reducible exact ⟨(hL102.out.k0.alloc _).cells, (hM102.out.below (below_all _ _)).cells⟩) | (with_reducible exact ⟨hL101.out.k0.cells, hM101.out.cells⟩) | (with_reducible exact ⟨(hL101.out.k0.alloc _).cells, (hM101.out.below (below_all _ _)).cells⟩) | (with_reducible exact ⟨(hL1.out.k0.below (drew_below _)).cells, (hM1.out.below (drew_below _)).cells⟩) | (with_reducible exact ⟨((hL1.out.k0.alloc _).below (drew_below _)).cells, ((hM1.out.below (below_all _ _)).below (drew_below _)).cells⟩) | ((with_reducible refine ⟨(hL103.out.k0.set_other3 ?_).cells, (hM103.out.set_other3 ?_).cells⟩) <;> omega) | go_keep)
        (first | (go_at_call 20; (with_reducible refine (HT0.out _ ?_).mono ?_); (first | ((with_reducible exact (ints_below hL1.out.i0 (drew_below _))); rintro e w101 ⟨v0, hv0, hy0, rfl, at0, b101⟩; have bb : Below w1.heap.size w1 w101 := below_then (drew_below _) b101; have z101 := bb.size; have hL101 := Lib.hid (hL1.out.step bb); have hM101 := Lib.hid (hM1.out.below bb); have hz101 := Lib.hid (hz1.out.below bb); have hA0101 := Lib.hid at0; clear at0 b101 bb) | ((with_reducible exact (ints_below (ints_alloc hL1.out.i0 _) (drew_below _))); rintro e w101 ⟨v0, hv0, hy0, rfl, at0, b101⟩; have bb : Below w1.heap.size w1 w101 := below_then (below_then (below_all _ _) (drew_below _)) b101; have z101 := bb.size; have hL101 := Lib.hid (hL1.out.step bb); have hM101 := Lib.hid (hM1.out.below bb); have hz101 := Lib.hid (MayBox.made0 b101); have zs101 := Box.lt hz101.out; have hA0101 := Lib.hid at0; clear at0 b101 bb))) | (go_at_call 15; (with_reducible refine (toMo_is mx my _).mono ?_); (first | (rintro e w102 ⟨rfl, b102⟩; have bb : Below w101.heap.size w101 w102 := b102; have z102 := bb.size; have hL102 := Lib.hid (hL101.out.step bb); have hM102 := Lib.hid (hM101.out.below bb); have hz102 := Lib.hid (hz101.out.below bb); have hA0102 := Lib.hid (hA0101.out.below bb); clear b102 bb) | (rintro e w102 ⟨rfl, b102⟩; have bb : Below w101.heap.size w101 w102 := below_then (below_all _ _) b102; have z102 := bb.size; have hL102 := Lib.hid (hL101.out.step bb); have hM102 := Lib.hid (hM101.out.below bb); have hz102 := Lib.hid (MayBox.made b102); have zs102 := Box.lt hz102.out; have hA0102 := Lib.hid (hA0101.out.below bb); clear b102 bb))) | (go_at_call 19; (with_reducible refine (HV.out _ _ ?_).mono ?_); (first | ((with_reducible exact hA0102.out.ints); rintro e w103 ⟨a9, c9, rfl, o9, b103⟩; have bb : Below w102.heap.size w102 w103 := b103; have z103 := bb.size; have hL103 := Lib.hid (hL102.out.step bb); have hM103 := Lib.hid (hM102.out.below bb); have hz103 := Lib.hid (hz102.out.below bb); have hO := Lib.hid o9; clear o9; obtain ⟨y0, y1, y2, f0, f1, f2⟩ := hz103.out.facts; simp only [cellAt, softAt] at y0 y1 y2 f0 f1 f2; clear b103 bb) | ((with_reducible exact (ints_alloc hA0102.out.ints _)); rintro e w103 ⟨a9, c9, rfl, o9, b103⟩; have bb : Below w102.heap.size w102 w103 := below_then (below_all _ _) b103; have z103 := bb.size; have hL103 := Lib.hid (hL102.out.step bb); have hM103 := Lib.hid (hM102.out.below bb); have hz103 := Lib.hid (MayBox.made b103); have zs103 := Box.lt hz103.out; have hO := Lib.hid o9; clear o9; obtain ⟨y0, y1, y2, f0, f1, f2⟩ := hz103.out.facts; simp only [cellAt, softAt] at y0 y1 y2 f0 f1 f2; clear b103 bb))))
      all_goals (go_wp2_with fail; go_meet)
      all_goals first
        | exact ⟨_, a9, c9, rfl, rfl, Box.new _ _ _ _ _, ints_below hO.out.ints (below_all _ _), by omega, by simp, hL103.out.step (below_all _ _), hM103.out.below (below_all _ _)⟩
        | (have hzb : Box w103 _ 34 (.int .i64 0) (.int .i64 0) (.slice none 0 0) := hz103.out
           refine ⟨_, a9, c9, rfl, rfl, hzb.set3 _ _ _, ints_own3 hO.out (by first | omega | (simp; done) | (simp; omega)), by omega, (by rw [size_set3]; exact hzb.lt), hL103.out.turn (turn_set3 _ _ _ _ _ _ _ _) (by omega), hM103.out.turn (turn_set3 _ _ _ _ _ _ _ _) (by omega)⟩)
    case rest =>
      obtain ⟨bD, aD, cD, rfl, rfl, xD, xiD, loD, ltD, gL, gM⟩ := hcut
      have hLD := Lib.hid gL
      have hMD := Lib.hid gM
      have zcD := hLD.out.k0.lt
      clear gL gM hL1 hM1
      clear k0 k1 k2
      clear m0 m1
      clear HV
      obtain ⟨a3, rfl⟩ : ∃ x, x = aD := ⟨_, rfl⟩
      obtain ⟨c3, rfl⟩ : ∃ x, x = cD := ⟨_, rfl⟩
      obtain ⟨nD, hnD⟩ : ∃ x, wc.heap.size = x := ⟨_, rfl⟩
      have zD : nD ≤ wc.heap.size := by omega
      have ltD' : bD < nD := by omega
      have hDD := Lib.hid xD
      have hDID : Hid (Ints .i64 wc nD a3 rl) := Lib.hid (by rw [← hnD]; exact xiD)
      clear xD xiD hnD ltD
      obtain ⟨k0, k1, k2⟩ := hLD.out.k0.cells
      go_wp2_with fail
      refine (HT0.out _ hLD.out.i0).mono ?_
      rintro e wx0 ⟨gx0, hgx0, hzx0, rfl, atx, bx⟩
      have zx0 := bx.size
      clear k0 k1 k2
      obtain ⟨WX0, hW⟩ : ∃ x, wx0.alloc (.cells #[.int .i64 wd0, .int .i64 hg0, .slice (some ⟨gx0, 0, none⟩) l0.length l0.length] 34) = x := ⟨_, rfl⟩
      have sWX0 : WX0.heap.size = wx0.heap.size + 1 := by rw [← hW]; simp
      have BX : Box WX0 wx0.heap.size 34 (.int .i64 wd0) (.int .i64 hg0) (.slice (some ⟨gx0, 0, none⟩) l0.length l0.length) := by rw [← hW]; exact Box.new _ _ _ _ _
      have aX : Below wx0.heap.size wx0 WX0 := by rw [← hW]; exact below_all _ _
      have bx' := below_then bx aX
      have hLx0 := Lib.hid (hLD.out.step bx')
      have hMx0 := Lib.hid (hMD.out.below bx')
      have hDx0 := Lib.hid (hDD.out.below bx')
      have hDIx0 := Lib.hid (hDID.out.below bx' (by omega))
      clear hLD hMD hDD hDID
      have hX0x0 := Lib.hid BX
      have hXA0x0 := Lib.hid (atx.below aX)
      have eX0 := Lib.hid hW
      clear hW bx bx' atx aX BX
      go_upto_region 7 with fail
      rw [eX0.out]
      obtain ⟨w90, rfl⟩ : ∃ x, x = WX0 := ⟨_, rfl⟩
      have hL90 := hLx0
      have hM90 := hMx0
      have hD90 := hDx0
      have hDI90 := hDIx0
      have hX090 := hX0x0
      have hXA090 := hXA0x0
      clear hLx0 hMx0 hDx0 hDIx0 hX0x0 hXA0x0 eX0
      have z90 : nD ≤ w90.heap.size := by omega
      have sA : w90.heap.size ≤ wx0.heap.size + 1 := by omega
      have sB : wx0.heap.size + 1 ≤ w90.heap.size := by omega
      clear sWX0
      obtain ⟨k0, k1, k2⟩ := hX090.out.cells
      have zl := hL90.out.k0.lt
      obtain ⟨m0, m1⟩ := hM90.out.cells
      have zm := hM90.out.lt
      have zx90 := Box.lt hX090.out
      go_cut [9, 10] (fun s t wx => GotA (fun wx => (Lw1 w wd0 hg0 a0 l0 c0 wx) ∧ (MBox wx (w.heap.size + 1) 23 mx my) ∧ (Box wx bD 34 (.int .i64 rw') (.int .i64 rh) (.slice a3 rl.length c3)) ∧ (Ints .i64 wx nD a3 rl) ∧ (Box wx wx0.heap.size 34 (.int .i64 wd0) (.int .i64 hg0) (.slice (some ⟨gx0, 0, none⟩) l0.length l0.length)) ∧ (At wx (some ⟨gx0, 0, none⟩) gx0 l0)) w90.heap.size rw' rh rl rb s t wx)
      case first =>
        have hz90 : Hid (MayBox w90 none) := Lib.hid trivial
        go_region_held3 (fun w' => (w'.cell? ⟨wx0.heap.size, 0, none⟩ = some (.int .i64 wd0) ∧ w'.cell? ⟨wx0.heap.size, 1, none⟩ = some (.int .i64 hg0) ∧ w'.cell? ⟨wx0.heap.size, 2, none⟩ = some (.slice (some ⟨gx0, 0, none⟩) l0.length l0.length)) ∧ (w'.cell? ⟨(w.heap.size + 1), 0, none⟩ = some (.int .i64 mx) ∧ w'.cell? ⟨(w.heap.size + 1), 1, none⟩ = some (.int .i64 my)))
          (first | (with_reducible exact ⟨hX0152.out.cells, hM152.out.cells⟩) | (with_reducible exact ⟨(hX0152.out.alloc _).cells, (hM152.out.below (below_all _ _)).cells⟩) | (with_reducible exact ⟨hX0151.out.cells, hM151.out.cells⟩) | (with_reducible exact ⟨(hX0151.out.alloc _).cells, (hM151.out.below (below_all _ _)).cells⟩) | (with_reducible exact ⟨(hX090.out.below (drew_below _)).cells, (hM90.out.below (drew_below _)).cells⟩) | (with_reducible exact ⟨((hX090.out.alloc _).below (drew_below _)).cells, ((hM90.out.below (below_all _ _)).below (drew_below _)).cells⟩) | ((with_reducible refine ⟨(hX0152.out.set_other3 ?_).cells, (hM152.out.set_other3 ?_).cells⟩) <;> omega) | go_keep)
          (first | (go_at_call 15; (with_reducible refine (toMo_is mx my _).mono ?_); (first | (rintro e w151 ⟨rfl, b151⟩; have bb : Below w90.heap.size w90 w151 := below_then (drew_below _) b151; have z151 := bb.size; have hL151 := Lib.hid (hL90.out.step bb); have hM151 := Lib.hid (hM90.out.below bb); have hD151 := Lib.hid (hD90.out.below bb); have hDI151 := Lib.hid (hDI90.out.below bb (by omega)); have hX0151 := Lib.hid (hX090.out.below bb); have hXA0151 := Lib.hid (hXA090.out.below bb); have hz151 := Lib.hid (hz90.out.below bb); clear b151 bb) | (rintro e w151 ⟨rfl, b151⟩; have bb : Below w90.heap.size w90 w151 := below_then (below_then (below_all _ _) (drew_below _)) b151; have z151 := bb.size; have hL151 := Lib.hid (hL90.out.step bb); have hM151 := Lib.hid (hM90.out.below bb); have hD151 := Lib.hid (hD90.out.below bb); have hDI151 := Lib.hid (hDI90.out.below bb (by omega)); have hX0151 := Lib.hid (hX090.out.below bb); have hXA0151 := Lib.hid (hXA090.out.below bb); have hz151 := Lib.hid (MayBox.made0 b151); have zs151 := Box.lt hz151.out; clear b151 bb))) | (go_at_call 21; (with_reducible refine (HI.out _ _ ?_).mono ?_); (first | ((with_reducible exact hXA0151.out.ints); rintro e w152 ⟨a9, c9, rfl, o9, b152⟩; have bb : Below w151.heap.size w151 w152 := b152; have z152 := bb.size; have hL152 := Lib.hid (hL151.out.step bb); have hM152 := Lib.hid (hM151.out.below bb); have hD152 := Lib.hid (hD151.out.below bb); have hDI152 := Lib.hid (hDI151.out.below bb (by omega)); have hX0152 := Lib.hid (hX0151.out.below bb); have hXA0152 := Lib.hid (hXA0151.out.below bb); have hz152 := Lib.hid (hz151.out.below bb); have hO := Lib.hid o9; clear o9; obtain ⟨y0, y1, y2, f0, f1, f2⟩ := hz152.out.facts; simp only [cellAt, softAt] at y0 y1 y2 f0 f1 f2; clear b152 bb) | ((with_reducible exact (ints_alloc hXA0151.out.ints _)); rintro e w152 ⟨a9, c9, rfl, o9, b152⟩; have bb : Below w151.heap.size w151 w152 := below_then (below_all _ _) b152; have z152 := bb.size; have hL152 := Lib.hid (hL151.out.step bb); have hM152 := Lib.hid (hM151.out.below bb); have hD152 := Lib.hid (hD151.out.below bb); have hDI152 := Lib.hid (hDI151.out.below bb (by omega)); have hX0152 := Lib.hid (hX0151.out.below bb); have hXA0152 := Lib.hid (hXA0151.out.below bb); have hz152 := Lib.hid (MayBox.made b152); have zs152 := Box.lt hz152.out; have hO := Lib.hid o9; clear o9; obtain ⟨y0, y1, y2, f0, f1, f2⟩ := hz152.out.facts; simp only [cellAt, softAt] at y0 y1 y2 f0 f1 f2; clear b152 bb))))
        all_goals (go_wp2_with fail; go_meet)
        all_goals obtain ⟨g9, hg9, hgn9, at9⟩ := hO.out.pick (by first | omega | (simp; omega))
        all_goals have h9 := at9.small
        all_goals first
          | exact ⟨_, a9, c9, g9, rfl, rfl, Box.new _ _ _ _ _, at9.below (below_all _ _), by first | omega | (simp at hg9; omega), hgn9, by rcases h9 with h9 | h9; (exact .inl h9); (exact .inr (by simp; omega)), by omega, by simp, hL152.out.step (below_all _ _), hM152.out.below (below_all _ _), hD152.out.below (below_all _ _), hDI152.out.below (below_all _ _) (by omega), hX0152.out.below (below_all _ _), hXA0152.out.below (below_all _ _)⟩
          | (have hzb : Box w152 _ 34 (.int .i64 0) (.int .i64 0) (.slice none 0 0) := hz152.out
             have hzl := hzb.lt
             refine ⟨_, a9, c9, g9, rfl, rfl, hzb.set3 _ _ _, at9.turn (turn_set3 _ _ _ _ _ _ _ _) (by first | omega | (simp at hg9; omega)), by first | omega | (simp at hg9; omega), by first | omega | (simp at hg9; omega), by rw [size_set3]; exact h9, by omega, (by rw [size_set3]; exact hzb.lt), hL152.out.turn (turn_set3 _ _ _ _ _ _ _ _) (by omega), hM152.out.turn (turn_set3 _ _ _ _ _ _ _ _) (by omega), hD152.out.turn (turn_set3 _ _ _ _ _ _ _ _) (by omega), hDI152.out.turn (turn_set3 _ _ _ _ _ _ _ _) (by omega) (by omega), hX0152.out.turn (turn_set3 _ _ _ _ _ _ _ _) (by omega), hXA0152.out.turn (turn_set3 _ _ _ _ _ _ _ _) (by omega)⟩)
      case rest =>
        obtain ⟨bG, a5, c5, g5, rfl, rfl, xG, at5, hg5, hgn5, h5, loG, ltG, gL, gM, gD, gDI, gX0, gXA0⟩ := hcut
        have hLG := Lib.hid gL
        have hMG := Lib.hid gM
        have hDG := Lib.hid gD
        have hDIG := Lib.hid gDI
        have hX0G := Lib.hid gX0
        have hXA0G := Lib.hid gXA0
        have zcG := hLG.out.k0.lt
        clear gL gM gD gDI gX0 gXA0 hL90 hM90 hD90 hDI90 hX090 hXA090
        clear k0 k1 k2
        clear m0 m1
        have H5 := Lib.hid h5
        clear h5
        have hGG := Lib.hid xG
        have hGAG := Lib.hid at5
        clear xG at5
        have zbD : bD < w90.heap.size := by omega
        obtain ⟨wG, rfl⟩ : ∃ x, x = wc := ⟨_, rfl⟩
        have zG : w90.heap.size ≤ wG.heap.size := by omega
        obtain ⟨x0, x1, x2⟩ := hGG.out.cells
        obtain ⟨y0, y1, y2⟩ := hDG.out.cells
        go_wp2_with fail
        refine (eqField_yes rw' rh _ _ rl _ _ _ hGAG.out.ints (hDIG.out.more (by omega)) (by omega)).mono ?_
        rintro e w20 ⟨rfl, b⟩
        have z20 := b.size
        have hL20 := Lib.hid (hLG.out.step b)
        have hM20 := Lib.hid (hMG.out.below b)
        have hD20 := Lib.hid (hDG.out.below b)
        have hDI20 := Lib.hid (hDIG.out.below b (by omega))
        have hX020 := Lib.hid (hX0G.out.below b)
        have hXA020 := Lib.hid (hXA0G.out.below b)
        have hG20 := Lib.hid (hGG.out.below b)
        have hGA20 := Lib.hid (hGAG.out.below b)
        clear hLG hMG hDG hDIG hX0G hXA0G hGG hGAG
        clear b x0 x1 x2 y0 y1 y2
        have er0 : (rb != rb) = false := by simp
        go_wp2_with fail
        obtain ⟨k0, k1, k2⟩ := hL20.out.k0.cells
        obtain ⟨x0, x1, x2⟩ := hX020.out.cells
        have bd : Below w20.heap.size w20 w20.drew := ⟨rfl, rfl, rfl, Nat.le_refl _, fun _ _ => rfl⟩
        have hL20d := Lib.hid (hL20.out.step bd)
        have hM20d := Lib.hid (hM20.out.below bd)
        have hD20d := Lib.hid (hD20.out.below bd)
        have hDI20d := Lib.hid (hDI20.out.below bd (by omega))
        have hX020d := Lib.hid (hX020.out.below bd)
        have hXA020d := Lib.hid (hXA020.out.below bd)
        have hG20d := Lib.hid (hG20.out.below bd)
        have hGA20d := Lib.hid (hGA20.out.below bd)
        clear hL20 hM20 hD20 hDI20 hX020 hXA020 hG20 hGA20
        have z20d : w20.heap.size ≤ w20.drew.heap.size := Nat.le_refl _
        clear bd
        go_region_held3 (fun w' => (w'.cell? ⟨w.heap.size, 0, none⟩ = some (.int .i64 wd0) ∧ w'.cell? ⟨w.heap.size, 1, none⟩ = some (.int .i64 hg0) ∧ w'.cell? ⟨w.heap.size, 2, none⟩ = some (.slice a0 l0.length c0)) ∧ (w'.cell? ⟨wx0.heap.size, 0, none⟩ = some (.int .i64 wd0) ∧ w'.cell? ⟨wx0.heap.size, 1, none⟩ = some (.int .i64 hg0) ∧ w'.cell? ⟨wx0.heap.size, 2, none⟩ = some (.slice (some ⟨gx0, 0, none⟩) l0.length l0.length)))
          (first | exact ⟨hL22.out.k0.cells, hX022.out.cells⟩ | exact ⟨hL21.out.k0.cells, hX021.out.cells⟩ | go_keep)
          (first | (go_at_call 20; (with_reducible refine (HT0.out _ hL20d.out.i0).mono ?_); rintro e w21 ⟨gz0, hgz0, hzz0, rfl, atz, bb⟩; have z21 := bb.size; have hL21 := Lib.hid (hL20d.out.step bb); have hM21 := Lib.hid (hM20d.out.below bb); have hD21 := Lib.hid (hD20d.out.below bb); have hDI21 := Lib.hid (hDI20d.out.below bb (by omega)); have hX021 := Lib.hid (hX020d.out.below bb); have hXA021 := Lib.hid (hXA020d.out.below bb); have hG21 := Lib.hid (hG20d.out.below bb); have hGA21 := Lib.hid (hGA20d.out.below bb); have hz0 := Lib.hid atz; clear atz; clear bb) | (go_at_call 22; (with_reducible refine (eqField_yes wd0 hg0 _ _ l0 _ _ _ hXA021.out.ints hz0.out.ints hq0).mono ?_); rintro e w22 ⟨rfl, bb⟩; have z22 := bb.size; have hL22 := Lib.hid (hL21.out.step bb); have hM22 := Lib.hid (hM21.out.below bb); have hD22 := Lib.hid (hD21.out.below bb); have hDI22 := Lib.hid (hDI21.out.below bb (by omega)); have hX022 := Lib.hid (hX021.out.below bb); have hXA022 := Lib.hid (hXA021.out.below bb); have hG22 := Lib.hid (hG21.out.below bb); have hGA22 := Lib.hid (hGA21.out.below bb); clear bb))
        clear hL20d hM20d hD20d hDI20d hX020d hXA020d hG20d hGA20d hL21 hM21 hD21 hDI21 hX021 hXA021 hG21 hGA21 hz0
        clear k0 k1 k2
        clear x0 x1 x2
        rename_i hHeld
        clear hHeld
        obtain ⟨x0, x1, x2⟩ := hX022.out.cells
        go_wp2_with fail
        refine (markFieldB_any wd0 hg0 _ l0 _ gx0 (1) _ hXA022.out hq0 (by omega) (by omega)).mono ?_
        rintro e w23 ⟨rfl, atm, t⟩
        have z23 := t.size
        have hL23 := Lib.hid (hL22.out.turn t (by omega))
        have hM23 := Lib.hid (hM22.out.turn t (by omega))
        have hD23 := Lib.hid (hD22.out.turn t (by omega))
        have hDI23 := Lib.hid (hDI22.out.turn t (by omega) (by omega))
        have hG23 := Lib.hid (hG22.out.turn t (by omega))
        have hGA23 := Lib.hid (hGA22.out.turn t (by omega))
        clear hL22 hM22 hD22 hDI22 hX022 hXA022 hG22 hGA22
        clear atm t x0 x1 x2
        obtain ⟨y0, y1, y2⟩ := hD23.out.cells
        obtain ⟨x0, x1, x2⟩ := hG23.out.cells
        go_wp2_with fail
        refine (eqField_yes rw' rh _ _ rl _ _ _ hGA23.out.ints (hDI23.out.more (by omega)) (by omega)).mono ?_
        rintro e w24 ⟨rfl, b⟩
        have z24 := b.size
        have hL24 := Lib.hid (hL23.out.step b)
        have hM24 := Lib.hid (hM23.out.below b)
        have hD24 := Lib.hid (hD23.out.below b)
        have hDI24 := Lib.hid (hDI23.out.below b (by omega))
        have hG24 := Lib.hid (hG23.out.below b)
        have hGA24 := Lib.hid (hGA23.out.below b)
        clear hL23 hM23 hD23 hDI23 hG23 hGA23
        clear b x0 x1 x2 y0 y1 y2
        obtain ⟨x0, x1, x2⟩ := hG24.out.cells
        go_wp2_with fail
        refine (markField_any rw' rh a5 rl c5 g5 1 _ hGA24.out (by omega) (by omega) (by omega)).mono ?_
        rintro e w25 ⟨rfl, atm, t⟩
        have z25 := t.size
        have hL25 := Lib.hid (hL24.out.turn t (by omega))
        have hM25 := Lib.hid (hM24.out.turn t (by omega))
        have hD25 := Lib.hid (hD24.out.turn t (by omega))
        have hDI25 := Lib.hid (hDI24.out.turn t (by omega) (by omega))
        have hG25 := Lib.hid (hG24.out.turn t (by omega))
        clear hL24 hM24 hD24 hDI24 hG24 hGA24
        have hGA25 := Lib.hid atm
        clear atm t x0 x1 x2
        obtain ⟨x0, x1, x2⟩ := hG25.out.cells
        go_wp2_with fail
        refine (heldField_any rw' rh a5 rl.length c5 1 _ hGA25.out.ints (by omega) (by omega) (by omega)).mono ?_
        rintro e w26 ⟨rfl, b⟩
        have z26 := b.size
        have hL26 := Lib.hid (hL25.out.step b)
        have hM26 := Lib.hid (hM25.out.below b)
        have hD26 := Lib.hid (hD25.out.below b)
        have hDI26 := Lib.hid (hDI25.out.below b (by omega))
        have hG26 := Lib.hid (hG25.out.below b)
        have hGA26 := Lib.hid (hGA25.out.below b)
        clear hL25 hM25 hD25 hDI25 hG25 hGA25
        clear b x0 x1 x2
        obtain ⟨k0, k1, k2⟩ := hL26.out.k0.cells
        have zl := hL26.out.k0.lt
        obtain ⟨m0, m1⟩ := hM26.out.cells
        have zm := hM26.out.lt
        go_upto_region 24 with fail
        go_cut [14, 15] (fun s t wx => Got (fun wx => (Lw1 w wd0 hg0 a0 l0 c0 wx) ∧ (MBox wx (w.heap.size + 1) 23 mx my) ∧ (Box wx bD 34 (.int .i64 rw') (.int .i64 rh) (.slice a3 rl.length c3)) ∧ (Ints .i64 wx nD a3 rl) ∧ (Box wx bG 34 (.int .i64 rw') (.int .i64 rh) (.slice a5 rl.length c5)) ∧ (At wx a5 g5 (marks 1 rl.length)) ∧ nD ≤ wx.heap.size) (w.heap.size + 1) rw' rh rl rb s t wx)
        case first =>
          have hz26 : Hid (MayBox w26 none) := Lib.hid trivial
          go_region_held3 (fun w' => (w'.cell? ⟨w.heap.size, 0, none⟩ = some (.int .i64 wd0) ∧ w'.cell? ⟨w.heap.size, 1, none⟩ = some (.int .i64 hg0) ∧ w'.cell? ⟨w.heap.size, 2, none⟩ = some (.slice a0 l0.length c0)) ∧ (w'.cell? ⟨(w.heap.size + 1), 0, none⟩ = some (.int .i64 mx) ∧ w'.cell? ⟨(w.heap.size + 1), 1, none⟩ = some (.int .i64 my)))
            (first | (with_reducible exact ⟨hL203.out.k0.cells, hM203.out.cells⟩) | (with_reducible exact ⟨(hL203.out.k0.alloc _).cells, (hM203.out.below (below_all _ _)).cells⟩) | (with_reducible exact ⟨hL202.out.k0.cells, hM202.out.cells⟩) | (with_reducible exact ⟨(hL202.out.k0.alloc _).cells, (hM202.out.below (below_all _ _)).cells⟩) | (with_reducible exact ⟨hL201.out.k0.cells, hM201.out.cells⟩) | (with_reducible exact ⟨(hL201.out.k0.alloc _).cells, (hM201.out.below (below_all _ _)).cells⟩) | (with_reducible exact ⟨(hL26.out.k0.below (drew_below _)).cells, (hM26.out.below (drew_below _)).cells⟩) | (with_reducible exact ⟨((hL26.out.k0.alloc _).below (drew_below _)).cells, ((hM26.out.below (below_all _ _)).below (drew_below _)).cells⟩) | ((with_reducible refine ⟨(hL203.out.k0.set_other3 ?_).cells, (hM203.out.set_other3 ?_).cells⟩) <;> omega) | go_keep)
            (first | (go_at_call 20; (with_reducible refine (HT0.out _ ?_).mono ?_); (first | ((with_reducible exact (ints_below hL26.out.i0 (drew_below _))); rintro e w201 ⟨v0, hv0, hy0, rfl, at0, b201⟩; have bb : Below w26.heap.size w26 w201 := below_then (drew_below _) b201; have z201 := bb.size; have hL201 := Lib.hid (hL26.out.step bb); have hM201 := Lib.hid (hM26.out.below bb); have hD201 := Lib.hid (hD26.out.below bb); have hDI201 := Lib.hid (hDI26.out.below bb (by omega)); have hG201 := Lib.hid (hG26.out.below bb); have hGA201 := Lib.hid (hGA26.out.below bb); have hz201 := Lib.hid (hz26.out.below bb); have hA0201 := Lib.hid at0; clear at0 b201 bb) | ((with_reducible exact (ints_below (ints_alloc hL26.out.i0 _) (drew_below _))); rintro e w201 ⟨v0, hv0, hy0, rfl, at0, b201⟩; have bb : Below w26.heap.size w26 w201 := below_then (below_then (below_all _ _) (drew_below _)) b201; have z201 := bb.size; have hL201 := Lib.hid (hL26.out.step bb); have hM201 := Lib.hid (hM26.out.below bb); have hD201 := Lib.hid (hD26.out.below bb); have hDI201 := Lib.hid (hDI26.out.below bb (by omega)); have hG201 := Lib.hid (hG26.out.below bb); have hGA201 := Lib.hid (hGA26.out.below bb); have hz201 := Lib.hid (MayBox.made0 b201); have zs201 := Box.lt hz201.out; have hA0201 := Lib.hid at0; clear at0 b201 bb))) | (go_at_call 15; (with_reducible refine (toMo_is mx my _).mono ?_); (first | (rintro e w202 ⟨rfl, b202⟩; have bb : Below w201.heap.size w201 w202 := b202; have z202 := bb.size; have hL202 := Lib.hid (hL201.out.step bb); have hM202 := Lib.hid (hM201.out.below bb); have hD202 := Lib.hid (hD201.out.below bb); have hDI202 := Lib.hid (hDI201.out.below bb (by omega)); have hG202 := Lib.hid (hG201.out.below bb); have hGA202 := Lib.hid (hGA201.out.below bb); have hz202 := Lib.hid (hz201.out.below bb); have hA0202 := Lib.hid (hA0201.out.below bb); clear b202 bb) | (rintro e w202 ⟨rfl, b202⟩; have bb : Below w201.heap.size w201 w202 := below_then (below_all _ _) b202; have z202 := bb.size; have hL202 := Lib.hid (hL201.out.step bb); have hM202 := Lib.hid (hM201.out.below bb); have hD202 := Lib.hid (hD201.out.below bb); have hDI202 := Lib.hid (hDI201.out.below bb (by omega)); have hG202 := Lib.hid (hG201.out.below bb); have hGA202 := Lib.hid (hGA201.out.below bb); have hz202 := Lib.hid (MayBox.made b202); have zs202 := Box.lt hz202.out; have hA0202 := Lib.hid (hA0201.out.below bb); clear b202 bb))) | (go_at_call 21; (with_reducible refine (HI.out _ _ ?_).mono ?_); (first | ((with_reducible exact hA0202.out.ints); rintro e w203 ⟨a9, c9, rfl, o9, b203⟩; have bb : Below w202.heap.size w202 w203 := b203; have z203 := bb.size; have hL203 := Lib.hid (hL202.out.step bb); have hM203 := Lib.hid (hM202.out.below bb); have hD203 := Lib.hid (hD202.out.below bb); have hDI203 := Lib.hid (hDI202.out.below bb (by omega)); have hG203 := Lib.hid (hG202.out.below bb); have hGA203 := Lib.hid (hGA202.out.below bb); have hz203 := Lib.hid (hz202.out.below bb); have hO := Lib.hid o9; clear o9; obtain ⟨y0, y1, y2, f0, f1, f2⟩ := hz203.out.facts; simp only [cellAt, softAt] at y0 y1 y2 f0 f1 f2; clear b203 bb) | ((with_reducible exact (ints_alloc hA0202.out.ints _)); rintro e w203 ⟨a9, c9, rfl, o9, b203⟩; have bb : Below w202.heap.size w202 w203 := below_then (below_all _ _) b203; have z203 := bb.size; have hL203 := Lib.hid (hL202.out.step bb); have hM203 := Lib.hid (hM202.out.below bb); have hD203 := Lib.hid (hD202.out.below bb); have hDI203 := Lib.hid (hDI202.out.below bb (by omega)); have hG203 := Lib.hid (hG202.out.below bb); have hGA203 := Lib.hid (hGA202.out.below bb); have hz203 := Lib.hid (MayBox.made b203); have zs203 := Box.lt hz203.out; have hO := Lib.hid o9; clear o9; obtain ⟨y0, y1, y2, f0, f1, f2⟩ := hz203.out.facts; simp only [cellAt, softAt] at y0 y1 y2 f0 f1 f2; clear b203 bb))))
          all_goals (go_wp2_with fail; go_meet)
          all_goals first
            | exact ⟨_, a9, c9, rfl, rfl, Box.new _ _ _ _ _, ints_below hO.out.ints (below_all _ _), by omega, by simp, hL203.out.step (below_all _ _), hM203.out.below (below_all _ _), hD203.out.below (below_all _ _), hDI203.out.below (below_all _ _) (by omega), hG203.out.below (below_all _ _), hGA203.out.below (below_all _ _), (by first | omega | (simp; omega) | (rw [size_set3]; omega))⟩
            | (have hzb : Box w203 _ 34 (.int .i64 0) (.int .i64 0) (.slice none 0 0) := hz203.out
               refine ⟨_, a9, c9, rfl, rfl, hzb.set3 _ _ _, ints_own3 hO.out (by first | omega | (simp; done) | (simp; omega)), by omega, (by rw [size_set3]; exact hzb.lt), hL203.out.turn (turn_set3 _ _ _ _ _ _ _ _) (by omega), hM203.out.turn (turn_set3 _ _ _ _ _ _ _ _) (by omega), hD203.out.turn (turn_set3 _ _ _ _ _ _ _ _) (by omega), hDI203.out.turn (turn_set3 _ _ _ _ _ _ _ _) (by omega) (by omega), hG203.out.turn (turn_set3 _ _ _ _ _ _ _ _) (by omega), hGA203.out.turnOr (turn_set3 _ _ _ _ _ _ _ _) (by have := H5.out; omega), (by first | omega | (simp; omega) | (rw [size_set3]; omega))⟩)
        case rest =>
          obtain ⟨bH, aH, cH, rfl, rfl, xH, xiH, loH, ltH, gL, gM, gD, gDI, gG, gGA, zN⟩ := hcut
          have hLH := Lib.hid gL
          have hMH := Lib.hid gM
          have hDH := Lib.hid gD
          have hDIH := Lib.hid gDI
          have hGH := Lib.hid gG
          have hGAH := Lib.hid gGA
          have zcH := hLH.out.k0.lt
          clear gL gM gD gDI gG gGA hL26 hM26 hD26 hDI26 hG26 hGA26
          clear k0 k1 k2
          clear m0 m1
          clear HI
          have hJ := Lib.hid xiH
          obtain ⟨x0, x1, x2⟩ := xH.cells
          obtain ⟨y0, y1, y2⟩ := hDH.out.cells
          clear xH xiH
          go_wp2_with fail
          refine (eqField_yes rw' rh _ _ rl _ _ _ hJ.out (hDIH.out.more (by omega)) (by omega)).mono ?_
          rintro e w60 ⟨rfl, b⟩
          have z60 := b.size
          have hL60 := Lib.hid (hLH.out.step b)
          have hM60 := Lib.hid (hMH.out.below b)
          have hD60 := Lib.hid (hDH.out.below b)
          have hDI60 := Lib.hid (hDIH.out.below b (by omega))
          have hG60 := Lib.hid (hGH.out.below b)
          have hGA60 := Lib.hid (hGAH.out.below b)
          clear hLH hMH hDH hDIH hGH hGAH
          clear b hJ x0 x1 x2 y0 y1 y2
          obtain ⟨x0, x1, x2⟩ := hG60.out.cells
          go_wp2_with fail
          refine (heldField_any rw' rh a5 rl.length c5 1 _ hGA60.out.ints (by omega) (by omega) (by omega)).mono ?_
          rintro e w61 ⟨rfl, b⟩
          have hB61 := Lib.hid (below_then hL60.out.b b)
          clear b
          go_wp2
          go_ret
          exact ⟨rfl, hB61.out⟩
  · rw [if_neg hn0] at HZ0
    go_enter Try.func4, Try.ntmps4
    go_wp2_with fail
    refine (HZ0.out _ (by omega)).mono ?_
    rintro e w1 ⟨rfl, b⟩
    have z1 := b.size
    simp only [World.size_alloc] at z1
    have hL1 := Lib.hid (hL0.out.step b)
    clear hL0
    clear b HZ0
    go_wp2
    go_ret
    exact ⟨rfl, hL1.out.b⟩
end Go.Proofs.Ytggdkibbfmjelaa
