/- The walk of the law FnExactChoosePart. -/
import Derived.Test.YtjppaolhknjpaaaChooseImpl
import Derived.Test.YtjppaolhknjpaaaAlgSpecChoose
import Derived.Test.YtjppaolhknjpaaaLws
namespace Go.Proofs.Ytjppaolhknjpaaa
open Go.RowKit
set_option linter.unusedVariables false
set_option linter.unusedSimpArgs false
set_option maxRecDepth 100000 in
set_option maxHeartbeats 16000000 in
theorem walk_ChooseLaw (wd0 hg0 : Int) (a0 : Option Addr) (l0 : List Int) (c0 : Nat) (wd1 hg1 : Int) (a1 : Option Addr) (l1 : List Int) (c1 : Nat) (wd2 hg2 : Int) (a2 : Option Addr) (l2 : List Int) (c2 : Nat) (w : World) (hl0 : Ints .i64 w w.heap.size a0 l0) (hm0 : l0.length ≤ maxLen) (hl1 : Ints .i64 w w.heap.size a1 l1) (hm1 : l1.length ≤ maxLen) (hl2 : Ints .i64 w w.heap.size a2 l2) (hm2 : l2.length ≤ maxLen) :
    Calls Try.prog 13 #[.agg #[.int .i64 wd0, .int .i64 hg0, .slice a0 l0.length c0], .agg #[.int .i64 wd1, .int .i64 hg1, .slice a1 l1.length c1], .agg #[.int .i64 wd2, .int .i64 hg2, .slice a2 l2.length c2]] w fun e w' => e = .returned (.bool true) ∧ Below w.heap.size w w' := by
  have hL0 := Lib.hid (Lw3.new (wd0 := wd0) (hg0 := hg0) (c0 := c0) (wd1 := wd1) (hg1 := hg1) (c1 := c1) (wd2 := wd2) (hg2 := hg2) (c2 := c2) hl0 hl1 hl2)
  clear hl0 hl1 hl2
  have HZ0 := Lib.hid (fun W h0 => szField_any wd0 hg0 a0 l0.length c0 (1048576) W hm0 h0 (by omega))
  have HZ1 := Lib.hid (fun W h0 => szField_any wd1 hg1 a1 l1.length c1 (1048576 - (l0.length : Int)) W hm1 h0 (by omega))
  have HZ2 := Lib.hid (fun W h0 => szField_any wd2 hg2 a2 l2.length c2 (1048576 - (l0.length : Int) - (l1.length : Int)) W hm2 h0 (by omega))
  unfold maxLen at hm0
  unfold maxLen at hm1
  unfold maxLen at hm2
  by_cases hn0 : (l0.length : Int) ≤ 1048576
  · rw [if_pos hn0] at HZ0
    by_cases hn1 : (l1.length : Int) ≤ 1048576 - (l0.length : Int)
    · rw [if_pos hn1] at HZ1
      by_cases hn2 : (l2.length : Int) ≤ 1048576 - (l0.length : Int) - (l1.length : Int)
      · rw [if_pos hn2] at HZ2
        have hq0 : l0.length ≤ 1048576 := by omega
        have hq1 : l1.length ≤ 1048576 := by omega
        have hq2 : l2.length ≤ 1048576 := by omega
        have HV := Lib.hid (fun (b0 : Nat) (b1 : Nat) (b2 : Nat) (W : World) (h0 : Ints .i64 W W.heap.size (some ⟨b0, 0, none⟩) l0) (h1 : Ints .i64 W W.heap.size (some ⟨b1, 0, none⟩) l1) (h2 : Ints .i64 W W.heap.size (some ⟨b2, 0, none⟩) l2) => specChoose_any wd0 hg0 (some ⟨b0, 0, none⟩) l0 l0.length wd1 hg1 (some ⟨b1, 0, none⟩) l1 l1.length wd2 hg2 (some ⟨b2, 0, none⟩) l2 l2.length W h0 h1 h2 hq0 hq1 hq2)
        have HI := Lib.hid (fun (b0 : Nat) (b1 : Nat) (b2 : Nat) (W : World) (h0 : Ints .i64 W W.heap.size (some ⟨b0, 0, none⟩) l0) (h1 : Ints .i64 W W.heap.size (some ⟨b1, 0, none⟩) l1) (h2 : Ints .i64 W W.heap.size (some ⟨b2, 0, none⟩) l2) => implChoose_any wd0 hg0 (some ⟨b0, 0, none⟩) l0 l0.length wd1 hg1 (some ⟨b1, 0, none⟩) l1 l1.length wd2 hg2 (some ⟨b2, 0, none⟩) l2 l2.length W h0 h1 h2 hq0 hq1 hq2)
        have HT0 := Lib.hid (fun (W : World) (h : Ints .i64 W W.heap.size a0 l0) => toField_any wd0 hg0 a0 l0 c0 W h hq0)
        have HT1 := Lib.hid (fun (W : World) (h : Ints .i64 W W.heap.size a1 l1) => toField_any wd1 hg1 a1 l1 c1 W h hq1)
        have HT2 := Lib.hid (fun (W : World) (h : Ints .i64 W W.heap.size a2 l2) => toField_any wd2 hg2 a2 l2 c2 W h hq2)
        have hlen := chooseR_len wd0 hg0 l0 wd1 hg1 l1 wd2 hg2 l2
        generalize chooseR wd0 hg0 l0 wd1 hg1 l1 wd2 hg2 l2 = r at *
        obtain ⟨rw', hrW⟩ : ∃ x, rW r = x := ⟨_, rfl⟩
        obtain ⟨rh, hrH⟩ : ∃ x, rH r = x := ⟨_, rfl⟩
        obtain ⟨rl, hrL⟩ : ∃ x, rL r = x := ⟨_, rfl⟩
        obtain ⟨rb, hrB⟩ : ∃ x, rB r = x := ⟨_, rfl⟩
        unfold FRet at HV HI
        rw [hrW, hrH, hrL, hrB] at HV HI
        rw [hrL] at hlen
        clear hrW hrH hrL hrB
        go_enter Try.func13, Try.ntmps13
        go_wp2_with fail
        refine (HZ0.out _ (by omega)).mono ?_
        rintro e w1 ⟨rfl, b⟩
        have z1 := b.size
        simp only [World.size_alloc] at z1
        have hL1 := Lib.hid (hL0.out.step b)
        clear hL0
        clear b HZ0
        obtain ⟨k0, k1, k2⟩ := hL1.out.k1.cells
        go_wp2_with fail
        refine (HZ1.out _ (by omega)).mono ?_
        rintro e w2 ⟨rfl, b⟩
        have z2 := b.size
        have hL2 := Lib.hid (hL1.out.step b)
        clear hL1
        clear b HZ1
        clear k0 k1 k2
        obtain ⟨k0, k1, k2⟩ := hL2.out.k2.cells
        go_wp2_with fail
        refine (HZ2.out _ (by omega)).mono ?_
        rintro e w3 ⟨rfl, b⟩
        have z3 := b.size
        have hL3 := Lib.hid (hL2.out.step b)
        clear hL2
        clear b HZ2
        clear k0 k1 k2
        obtain ⟨k0, k1, k2⟩ := hL3.out.k0.cells
        obtain ⟨p0, p1, p2⟩ := hL3.out.k1.cells
        obtain ⟨q0, q1, q2⟩ := hL3.out.k2.cells
        have zl := hL3.out.k2.lt
        go_upto_region 11 with fail
        go_cut [8, 9] (fun s t wx => Got (fun wx => (Lw3 w wd0 hg0 a0 l0 c0 wd1 hg1 a1 l1 c1 wd2 hg2 a2 l2 c2 wx)) (w.heap.size + 3) rw' rh rl rb s t wx)
        case first =>
          have hz3 : Hid (MayBox w3 none) := Lib.hid trivial
          go_region_held3 (fun w' => (w'.cell? ⟨w.heap.size, 0, none⟩ = some (.int .i64 wd0) ∧ w'.cell? ⟨w.heap.size, 1, none⟩ = some (.int .i64 hg0) ∧ w'.cell? ⟨w.heap.size, 2, none⟩ = some (.slice a0 l0.length c0)) ∧ (w'.cell? ⟨w.heap.size + 1, 0, none⟩ = some (.int .i64 wd1) ∧ w'.cell? ⟨w.heap.size + 1, 1, none⟩ = some (.int .i64 hg1) ∧ w'.cell? ⟨w.heap.size + 1, 2, none⟩ = some (.slice a1 l1.length c1)) ∧ (w'.cell? ⟨w.heap.size + 1 + 1, 0, none⟩ = some (.int .i64 wd2) ∧ w'.cell? ⟨w.heap.size + 1 + 1, 1, none⟩ = some (.int .i64 hg2) ∧ w'.cell? ⟨w.heap.size + 1 + 1, 2, none⟩ = some (.slice a2 l2.length c2)))
            (first | (with_reducible exact ⟨hL104.out.k0.cells, hL104.out.k1.cells, hL104.out.k2.cells⟩) | (with_reducible exact ⟨(hL104.out.k0.alloc _).cells, (hL104.out.k1.alloc _).cells, (hL104.out.k2.alloc _).cells⟩) | (with_reducible exact ⟨hL103.out.k0.cells, hL103.out.k1.cells, hL103.out.k2.cells⟩) | (with_reducible exact ⟨(hL103.out.k0.alloc _).cells, (hL103.out.k1.alloc _).cells, (hL103.out.k2.alloc _).cells⟩) | (with_reducible exact ⟨hL102.out.k0.cells, hL102.out.k1.cells, hL102.out.k2.cells⟩) | (with_reducible exact ⟨(hL102.out.k0.alloc _).cells, (hL102.out.k1.alloc _).cells, (hL102.out.k2.alloc _).cells⟩) | (with_reducible exact ⟨hL101.out.k0.cells, hL101.out.k1.cells, hL101.out.k2.cells⟩) | (with_reducible exact ⟨(hL101.out.k0.alloc _).cells, (hL101.out.k1.alloc _).cells, (hL101.out.k2.alloc _).cells⟩) | (with_reducible exact ⟨(hL3.out.k0.below (drew_below _)).cells, (hL3.out.k1.below (drew_below _)).cells, (hL3.out.k2.below (drew_below _)).cells⟩) | (with_reducible exact ⟨((hL3.out.k0.alloc _).below (drew_below _)).cells, ((hL3.out.k1.alloc _).below (drew_below _)).cells, ((hL3.out.k2.alloc _).below (drew_below _)).cells⟩) | ((with_reducible refine ⟨(hL104.out.k0.set_other3 ?_).cells, (hL104.out.k1.set_other3 ?_).cells, (hL104.out.k2.set_other3 ?_).cells⟩) <;> omega) | go_keep)
            (first | (go_at_call 48; (with_reducible refine (HT0.out _ ?_).mono ?_); (first | ((with_reducible exact (ints_below hL3.out.i0 (drew_below _))); rintro e w101 ⟨v0, hv0, hy0, rfl, at0, b101⟩; have bb : Below w3.heap.size w3 w101 := below_then (drew_below _) b101; have z101 := bb.size; have hL101 := Lib.hid (hL3.out.step bb); have hz101 := Lib.hid (hz3.out.below bb); have hA0101 := Lib.hid at0; clear at0 b101 bb) | ((with_reducible exact (ints_below (ints_alloc hL3.out.i0 _) (drew_below _))); rintro e w101 ⟨v0, hv0, hy0, rfl, at0, b101⟩; have bb : Below w3.heap.size w3 w101 := below_then (below_then (below_all _ _) (drew_below _)) b101; have z101 := bb.size; have hL101 := Lib.hid (hL3.out.step bb); have hz101 := Lib.hid (MayBox.made0 b101); have zs101 := Box.lt hz101.out; have hA0101 := Lib.hid at0; clear at0 b101 bb))) | (go_at_call 48; (with_reducible refine (HT1.out _ ?_).mono ?_); (first | ((with_reducible exact hL101.out.i1); rintro e w102 ⟨v1, hv1, hy1, rfl, at1, b102⟩; have bb : Below w101.heap.size w101 w102 := b102; have z102 := bb.size; have hL102 := Lib.hid (hL101.out.step bb); have hz102 := Lib.hid (hz101.out.below bb); have hA0102 := Lib.hid (hA0101.out.below bb); have hA1102 := Lib.hid at1; clear at1 b102 bb) | ((with_reducible exact (ints_alloc hL101.out.i1 _)); rintro e w102 ⟨v1, hv1, hy1, rfl, at1, b102⟩; have bb : Below w101.heap.size w101 w102 := below_then (below_all _ _) b102; have z102 := bb.size; have hL102 := Lib.hid (hL101.out.step bb); have hz102 := Lib.hid (MayBox.made b102); have zs102 := Box.lt hz102.out; have hA0102 := Lib.hid (hA0101.out.below bb); have hA1102 := Lib.hid at1; clear at1 b102 bb))) | (go_at_call 48; (with_reducible refine (HT2.out _ ?_).mono ?_); (first | ((with_reducible exact hL102.out.i2); rintro e w103 ⟨v2, hv2, hy2, rfl, at2, b103⟩; have bb : Below w102.heap.size w102 w103 := b103; have z103 := bb.size; have hL103 := Lib.hid (hL102.out.step bb); have hz103 := Lib.hid (hz102.out.below bb); have hA0103 := Lib.hid (hA0102.out.below bb); have hA1103 := Lib.hid (hA1102.out.below bb); have hA2103 := Lib.hid at2; clear at2 b103 bb) | ((with_reducible exact (ints_alloc hL102.out.i2 _)); rintro e w103 ⟨v2, hv2, hy2, rfl, at2, b103⟩; have bb : Below w102.heap.size w102 w103 := below_then (below_all _ _) b103; have z103 := bb.size; have hL103 := Lib.hid (hL102.out.step bb); have hz103 := Lib.hid (MayBox.made b103); have zs103 := Box.lt hz103.out; have hA0103 := Lib.hid (hA0102.out.below bb); have hA1103 := Lib.hid (hA1102.out.below bb); have hA2103 := Lib.hid at2; clear at2 b103 bb))) | (go_at_call 40; (with_reducible refine (HV.out _ _ _ _ ?_ ?_ ?_).mono ?_); (first | ((with_reducible exact hA0103.out.ints); (with_reducible exact hA1103.out.ints); (with_reducible exact hA2103.out.ints); rintro e w104 ⟨a9, c9, rfl, o9, b104⟩; have bb : Below w103.heap.size w103 w104 := b104; have z104 := bb.size; have hL104 := Lib.hid (hL103.out.step bb); have hz104 := Lib.hid (hz103.out.below bb); have hO := Lib.hid o9; clear o9; obtain ⟨y0, y1, y2, f0, f1, f2⟩ := hz104.out.facts; simp only [cellAt, softAt] at y0 y1 y2 f0 f1 f2; clear b104 bb) | ((with_reducible exact (ints_alloc hA0103.out.ints _)); (with_reducible exact (ints_alloc hA1103.out.ints _)); (with_reducible exact (ints_alloc hA2103.out.ints _)); rintro e w104 ⟨a9, c9, rfl, o9, b104⟩; have bb : Below w103.heap.size w103 w104 := below_then (below_all _ _) b104; have z104 := bb.size; have hL104 := Lib.hid (hL103.out.step bb); have hz104 := Lib.hid (MayBox.made b104); have zs104 := Box.lt hz104.out; have hO := Lib.hid o9; clear o9; obtain ⟨y0, y1, y2, f0, f1, f2⟩ := hz104.out.facts; simp only [cellAt, softAt] at y0 y1 y2 f0 f1 f2; clear b104 bb))))
          all_goals (go_wp2_with fail; go_meet)
          all_goals first
            | exact ⟨_, a9, c9, rfl, rfl, Box.new _ _ _ _ _, ints_below hO.out.ints (below_all _ _), by omega, by simp, hL104.out.step (below_all _ _)⟩
            | (have hzb : Box w104 _ 26 (.int .i64 0) (.int .i64 0) (.slice none 0 0) := hz104.out
               refine ⟨_, a9, c9, rfl, rfl, hzb.set3 _ _ _, ints_own3 hO.out (by first | omega | (simp; done) | (simp; omega)), by omega, (by rw [size_set3]; exact hzb.lt), hL104.out.turn (turn_set3 _ _ _ _ _ _ _ _) (by omega)⟩)
        case rest =>
          obtain ⟨bD, aD, cD, rfl, rfl, xD, xiD, loD, ltD, gL⟩ := hcut
          have hLD := Lib.hid gL
          have zcD := hLD.out.k2.lt
          clear gL hL3
          clear k0 k1 k2
          clear p0 p1 p2
          clear q0 q1 q2
          clear HV
          obtain ⟨a3, rfl⟩ : ∃ x, x = aD := ⟨_, rfl⟩
          obtain ⟨c3, rfl⟩ : ∃ x, x = cD := ⟨_, rfl⟩
          obtain ⟨nD, hnD⟩ : ∃ x, wc.heap.size = x := ⟨_, rfl⟩
          have zD : nD ≤ wc.heap.size := by omega
          have ltD' : bD < nD := by omega
          have hDD := Lib.hid xD
          have hDID : Hid (Ints .i64 wc nD a3 rl) := Lib.hid (by rw [← hnD]; exact xiD)
          clear xD xiD hnD ltD
          obtain ⟨k0, k1, k2⟩ := hLD.out.k0.cells
          go_wp2_with fail
          refine (HT0.out _ hLD.out.i0).mono ?_
          rintro e wx0 ⟨gx0, hgx0, hzx0, rfl, atx, bx⟩
          have zx0 := bx.size
          clear k0 k1 k2
          obtain ⟨WX0, hW⟩ : ∃ x, wx0.alloc (.cells #[.int .i64 wd0, .int .i64 hg0, .slice (some ⟨gx0, 0, none⟩) l0.length l0.length] 26) = x := ⟨_, rfl⟩
          have sWX0 : WX0.heap.size = wx0.heap.size + 1 := by rw [← hW]; simp
          have BX : Box WX0 wx0.heap.size 26 (.int .i64 wd0) (.int .i64 hg0) (.slice (some ⟨gx0, 0, none⟩) l0.length l0.length) := by rw [← hW]; exact Box.new _ _ _ _ _
          have aX : Below wx0.heap.size wx0 WX0 := by rw [← hW]; exact below_all _ _
          obtain ⟨k0, k1, k2⟩ := (hLD.out.step bx).k1.cells
          have qk1 : w.heap.size + 1 < wx0.heap.size := by omega
          have qk2 : ¬ w.heap.size + 1 = wx0.heap.size := by omega
          have bx' := below_then bx aX
          have hLx0 := Lib.hid (hLD.out.step bx')
          have hDx0 := Lib.hid (hDD.out.below bx')
          have hDIx0 := Lib.hid (hDID.out.below bx' (by omega))
          clear hLD hDD hDID
          have hX0x0 := Lib.hid BX
          have hXA0x0 := Lib.hid (atx.below aX)
          have eX0 := Lib.hid hW
          clear hW bx bx' atx aX BX
          go_wp2_with fail
          rw [eX0.out]
          refine (HT1.out _ hLx0.out.i1).mono ?_
          rintro e wx1 ⟨gx1, hgx1, hzx1, rfl, atx, bx⟩
          have zx1 := bx.size
          clear k0 k1 k2
          clear qk1 qk2
          obtain ⟨WX1, hW⟩ : ∃ x, wx1.alloc (.cells #[.int .i64 wd1, .int .i64 hg1, .slice (some ⟨gx1, 0, none⟩) l1.length l1.length] 26) = x := ⟨_, rfl⟩
          have sWX1 : WX1.heap.size = wx1.heap.size + 1 := by rw [← hW]; simp
          have BX : Box WX1 wx1.heap.size 26 (.int .i64 wd1) (.int .i64 hg1) (.slice (some ⟨gx1, 0, none⟩) l1.length l1.length) := by rw [← hW]; exact Box.new _ _ _ _ _
          have aX : Below wx1.heap.size wx1 WX1 := by rw [← hW]; exact below_all _ _
          obtain ⟨k0, k1, k2⟩ := (hLx0.out.step bx).k2.cells
          have qk1 : w.heap.size + 1 + 1 < wx1.heap.size := by omega
          have qk2 : ¬ w.heap.size + 1 + 1 = wx1.heap.size := by omega
          have bx' := below_then bx aX
          have hLx1 := Lib.hid (hLx0.out.step bx')
          have hDx1 := Lib.hid (hDx0.out.below bx')
          have hDIx1 := Lib.hid (hDIx0.out.below bx' (by omega))
          have hX0x1 := Lib.hid (hX0x0.out.below bx')
          have hXA0x1 := Lib.hid (hXA0x0.out.below bx')
          clear hLx0 hDx0 hDIx0 hX0x0 hXA0x0
          have hX1x1 := Lib.hid BX
          have hXA1x1 := Lib.hid (atx.below aX)
          have eX1 := Lib.hid hW
          clear hW bx bx' atx aX BX eX0
          go_wp2_with fail
          rw [eX1.out]
          refine (HT2.out _ hLx1.out.i2).mono ?_
          rintro e wx2 ⟨gx2, hgx2, hzx2, rfl, atx, bx⟩
          have zx2 := bx.size
          clear k0 k1 k2
          clear qk1 qk2
          obtain ⟨WX2, hW⟩ : ∃ x, wx2.alloc (.cells #[.int .i64 wd2, .int .i64 hg2, .slice (some ⟨gx2, 0, none⟩) l2.length l2.length] 26) = x := ⟨_, rfl⟩
          have sWX2 : WX2.heap.size = wx2.heap.size + 1 := by rw [← hW]; simp
          have BX : Box WX2 wx2.heap.size 26 (.int .i64 wd2) (.int .i64 hg2) (.slice (some ⟨gx2, 0, none⟩) l2.length l2.length) := by rw [← hW]; exact Box.new _ _ _ _ _
          have aX : Below wx2.heap.size wx2 WX2 := by rw [← hW]; exact below_all _ _
          obtain ⟨x00, x01, x02⟩ := (hX0x1.out.below bx).cells
          have qx01 : wx0.heap.size < wx2.heap.size := by omega
          have qx02 : ¬ wx0.heap.size = wx2.heap.size := by omega
          obtain ⟨x10, x11, x12⟩ := (hX1x1.out.below bx).cells
          have qx11 : wx1.heap.size < wx2.heap.size := by omega
          have qx12 : ¬ wx1.heap.size = wx2.heap.size := by omega
          have bx' := below_then bx aX
          have hLx2 := Lib.hid (hLx1.out.step bx')
          have hDx2 := Lib.hid (hDx1.out.below bx')
          have hDIx2 := Lib.hid (hDIx1.out.below bx' (by omega))
          have hX0x2 := Lib.hid (hX0x1.out.below bx')
          have hXA0x2 := Lib.hid (hXA0x1.out.below bx')
          have hX1x2 := Lib.hid (hX1x1.out.below bx')
          have hXA1x2 := Lib.hid (hXA1x1.out.below bx')
          clear hLx1 hDx1 hDIx1 hX0x1 hXA0x1 hX1x1 hXA1x1
          have hX2x2 := Lib.hid BX
          have hXA2x2 := Lib.hid (atx.below aX)
          have eX2 := Lib.hid hW
          clear hW bx bx' atx aX BX eX1
          go_wp2_with fail
          rw [eX2.out]
          refine (HI.out _ _ _ _ hXA0x2.out.ints hXA1x2.out.ints hXA2x2.out.ints).mono ?_
          rintro e wG ⟨a5, c5, rfl, o5, b5⟩
          have zG := b5.size
          obtain ⟨g5, hg5, hgn5, at5⟩ := o5.pick b5.size
          have H5 := Lib.hid at5.small
          obtain ⟨WG, hW⟩ : ∃ x, wG.alloc (.cells #[.int .i64 rw', .int .i64 rh, .slice a5 rl.length c5] 26) = x := ⟨_, rfl⟩
          have sWG : WG.heap.size = wG.heap.size + 1 := by rw [← hW]; simp
          obtain ⟨bG, hbG⟩ : ∃ x, wG.heap.size = x := ⟨_, rfl⟩
          have BX : Box WG bG 26 (.int .i64 rw') (.int .i64 rh) (.slice a5 rl.length c5) := by rw [← hW, ← hbG]; exact Box.new _ _ _ _ _
          have aX : Below wG.heap.size wG WG := by rw [← hW]; exact below_all _ _
          obtain ⟨y0, y1, y2⟩ := (hDx2.out.below b5).cells
          have b5' := below_then b5 aX
          have hLG := Lib.hid (hLx2.out.step b5')
          have hDG := Lib.hid (hDx2.out.below b5')
          have hDIG := Lib.hid (hDIx2.out.below b5' (by omega))
          have hX0G := Lib.hid (hX0x2.out.below b5')
          have hXA0G := Lib.hid (hXA0x2.out.below b5')
          have hX1G := Lib.hid (hX1x2.out.below b5')
          have hXA1G := Lib.hid (hXA1x2.out.below b5')
          have hX2G := Lib.hid (hX2x2.out.below b5')
          have hXA2G := Lib.hid (hXA2x2.out.below b5')
          clear hLx2 hDx2 hDIx2 hX0x2 hXA0x2 hX1x2 hXA1x2 hX2x2 hXA2x2
          have hGG := Lib.hid BX
          have hGAG := Lib.hid (at5.below aX)
          have eG := Lib.hid hW
          have zbG : wG.heap.size ≤ bG := by omega
          have zbG2 : bG ≤ wG.heap.size := by omega
          have hbGG := Lib.hid hbG
          have q1 : bD < wG.heap.size := by omega
          have q2 : ¬ bD = wG.heap.size := by omega
          clear hW b5 b5' at5 o5 aX BX hbG eX2 x00 x01 x02 qx01 qx02 x10 x11 x12 qx11 qx12
          go_wp2_with fail
          rw [eG.out]
          refine (eqField_yes rw' rh _ _ rl _ _ _ hGAG.out.ints (hDIG.out.more (by omega)) (by omega)).mono ?_
          rintro e w20 ⟨rfl, b⟩
          have z20 := b.size
          have hL20 := Lib.hid (hLG.out.step b)
          have hD20 := Lib.hid (hDG.out.below b)
          have hDI20 := Lib.hid (hDIG.out.below b (by omega))
          have hX020 := Lib.hid (hX0G.out.below b)
          have hXA020 := Lib.hid (hXA0G.out.below b)
          have hX120 := Lib.hid (hX1G.out.below b)
          have hXA120 := Lib.hid (hXA1G.out.below b)
          have hX220 := Lib.hid (hX2G.out.below b)
          have hXA220 := Lib.hid (hXA2G.out.below b)
          have hG20 := Lib.hid (hGG.out.below b)
          have hGA20 := Lib.hid (hGAG.out.below b)
          clear hLG hDG hDIG hX0G hXA0G hX1G hXA1G hX2G hXA2G hGG hGAG
          clear b y0 y1 y2 q1 q2 eG
          try rw [hbGG.out]
          have er0 : (rb != rb) = false := by simp
          go_wp2_with fail
          obtain ⟨k0, k1, k2⟩ := hL20.out.k0.cells
          obtain ⟨x0, x1, x2⟩ := hX020.out.cells
          have bd : Below w20.heap.size w20 w20.drew := ⟨rfl, rfl, rfl, Nat.le_refl _, fun _ _ => rfl⟩
          have hL20d := Lib.hid (hL20.out.step bd)
          have hD20d := Lib.hid (hD20.out.below bd)
          have hDI20d := Lib.hid (hDI20.out.below bd (by omega))
          have hX020d := Lib.hid (hX020.out.below bd)
          have hXA020d := Lib.hid (hXA020.out.below bd)
          have hX120d := Lib.hid (hX120.out.below bd)
          have hXA120d := Lib.hid (hXA120.out.below bd)
          have hX220d := Lib.hid (hX220.out.below bd)
          have hXA220d := Lib.hid (hXA220.out.below bd)
          have hG20d := Lib.hid (hG20.out.below bd)
          have hGA20d := Lib.hid (hGA20.out.below bd)
          clear hL20 hD20 hDI20 hX020 hXA020 hX120 hXA120 hX220 hXA220 hG20 hGA20
          have z20d : w20.heap.size ≤ w20.drew.heap.size := Nat.le_refl _
          clear bd
          go_region_held3 (fun w' => (w'.cell? ⟨w.heap.size, 0, none⟩ = some (.int .i64 wd0) ∧ w'.cell? ⟨w.heap.size, 1, none⟩ = some (.int .i64 hg0) ∧ w'.cell? ⟨w.heap.size, 2, none⟩ = some (.slice a0 l0.length c0)) ∧ (w'.cell? ⟨wx0.heap.size, 0, none⟩ = some (.int .i64 wd0) ∧ w'.cell? ⟨wx0.heap.size, 1, none⟩ = some (.int .i64 hg0) ∧ w'.cell? ⟨wx0.heap.size, 2, none⟩ = some (.slice (some ⟨gx0, 0, none⟩) l0.length l0.length)))
            (first | exact ⟨hL22.out.k0.cells, hX022.out.cells⟩ | exact ⟨hL21.out.k0.cells, hX021.out.cells⟩ | go_keep)
            (first | (go_at_call 48; (with_reducible refine (HT0.out _ hL20d.out.i0).mono ?_); rintro e w21 ⟨gz0, hgz0, hzz0, rfl, atz, bb⟩; have z21 := bb.size; have hL21 := Lib.hid (hL20d.out.step bb); have hD21 := Lib.hid (hD20d.out.below bb); have hDI21 := Lib.hid (hDI20d.out.below bb (by omega)); have hX021 := Lib.hid (hX020d.out.below bb); have hXA021 := Lib.hid (hXA020d.out.below bb); have hX121 := Lib.hid (hX120d.out.below bb); have hXA121 := Lib.hid (hXA120d.out.below bb); have hX221 := Lib.hid (hX220d.out.below bb); have hXA221 := Lib.hid (hXA220d.out.below bb); have hG21 := Lib.hid (hG20d.out.below bb); have hGA21 := Lib.hid (hGA20d.out.below bb); have hz0 := Lib.hid atz; clear atz; clear bb) | (go_at_call 49; (with_reducible refine (eqField_yes wd0 hg0 _ _ l0 _ _ _ hXA021.out.ints hz0.out.ints hq0).mono ?_); rintro e w22 ⟨rfl, bb⟩; have z22 := bb.size; have hL22 := Lib.hid (hL21.out.step bb); have hD22 := Lib.hid (hD21.out.below bb); have hDI22 := Lib.hid (hDI21.out.below bb (by omega)); have hX022 := Lib.hid (hX021.out.below bb); have hXA022 := Lib.hid (hXA021.out.below bb); have hX122 := Lib.hid (hX121.out.below bb); have hXA122 := Lib.hid (hXA121.out.below bb); have hX222 := Lib.hid (hX221.out.below bb); have hXA222 := Lib.hid (hXA221.out.below bb); have hG22 := Lib.hid (hG21.out.below bb); have hGA22 := Lib.hid (hGA21.out.below bb); clear bb))
          clear hL20d hD20d hDI20d hX020d hXA020d hX120d hXA120d hX220d hXA220d hG20d hGA20d hL21 hD21 hDI21 hX021 hXA021 hX121 hXA121 hX221 hXA221 hG21 hGA21 hz0
          clear k0 k1 k2
          clear x0 x1 x2
          rename_i hHeld
          clear hHeld
          go_wp2_with fail
          obtain ⟨k0, k1, k2⟩ := hL22.out.k1.cells
          obtain ⟨x0, x1, x2⟩ := hX122.out.cells
          have bd : Below w22.heap.size w22 w22.drew := ⟨rfl, rfl, rfl, Nat.le_refl _, fun _ _ => rfl⟩
          have hL22d := Lib.hid (hL22.out.step bd)
          have hD22d := Lib.hid (hD22.out.below bd)
          have hDI22d := Lib.hid (hDI22.out.below bd (by omega))
          have hX022d := Lib.hid (hX022.out.below bd)
          have hXA022d := Lib.hid (hXA022.out.below bd)
          have hX122d := Lib.hid (hX122.out.below bd)
          have hXA122d := Lib.hid (hXA122.out.below bd)
          have hX222d := Lib.hid (hX222.out.below bd)
          have hXA222d := Lib.hid (hXA222.out.below bd)
          have hG22d := Lib.hid (hG22.out.below bd)
          have hGA22d := Lib.hid (hGA22.out.below bd)
          clear hL22 hD22 hDI22 hX022 hXA022 hX122 hXA122 hX222 hXA222 hG22 hGA22
          have z22d : w22.heap.size ≤ w22.drew.heap.size := Nat.le_refl _
          clear bd
          go_region_held3 (fun w' => (w'.cell? ⟨w.heap.size + 1, 0, none⟩ = some (.int .i64 wd1) ∧ w'.cell? ⟨w.heap.size + 1, 1, none⟩ = some (.int .i64 hg1) ∧ w'.cell? ⟨w.heap.size + 1, 2, none⟩ = some (.slice a1 l1.length c1)) ∧ (w'.cell? ⟨wx1.heap.size, 0, none⟩ = some (.int .i64 wd1) ∧ w'.cell? ⟨wx1.heap.size, 1, none⟩ = some (.int .i64 hg1) ∧ w'.cell? ⟨wx1.heap.size, 2, none⟩ = some (.slice (some ⟨gx1, 0, none⟩) l1.length l1.length)))
            (first | exact ⟨hL24.out.k1.cells, hX124.out.cells⟩ | exact ⟨hL23.out.k1.cells, hX123.out.cells⟩ | go_keep)
            (first | (go_at_call 48; (with_reducible refine (HT1.out _ hL22d.out.i1).mono ?_); rintro e w23 ⟨gz1, hgz1, hzz1, rfl, atz, bb⟩; have z23 := bb.size; have hL23 := Lib.hid (hL22d.out.step bb); have hD23 := Lib.hid (hD22d.out.below bb); have hDI23 := Lib.hid (hDI22d.out.below bb (by omega)); have hX023 := Lib.hid (hX022d.out.below bb); have hXA023 := Lib.hid (hXA022d.out.below bb); have hX123 := Lib.hid (hX122d.out.below bb); have hXA123 := Lib.hid (hXA122d.out.below bb); have hX223 := Lib.hid (hX222d.out.below bb); have hXA223 := Lib.hid (hXA222d.out.below bb); have hG23 := Lib.hid (hG22d.out.below bb); have hGA23 := Lib.hid (hGA22d.out.below bb); have hz1 := Lib.hid atz; clear atz; clear bb) | (go_at_call 49; (with_reducible refine (eqField_yes wd1 hg1 _ _ l1 _ _ _ hXA123.out.ints hz1.out.ints hq1).mono ?_); rintro e w24 ⟨rfl, bb⟩; have z24 := bb.size; have hL24 := Lib.hid (hL23.out.step bb); have hD24 := Lib.hid (hD23.out.below bb); have hDI24 := Lib.hid (hDI23.out.below bb (by omega)); have hX024 := Lib.hid (hX023.out.below bb); have hXA024 := Lib.hid (hXA023.out.below bb); have hX124 := Lib.hid (hX123.out.below bb); have hXA124 := Lib.hid (hXA123.out.below bb); have hX224 := Lib.hid (hX223.out.below bb); have hXA224 := Lib.hid (hXA223.out.below bb); have hG24 := Lib.hid (hG23.out.below bb); have hGA24 := Lib.hid (hGA23.out.below bb); clear bb))
          clear hL22d hD22d hDI22d hX022d hXA022d hX122d hXA122d hX222d hXA222d hG22d hGA22d hL23 hD23 hDI23 hX023 hXA023 hX123 hXA123 hX223 hXA223 hG23 hGA23 hz1
          clear k0 k1 k2
          clear x0 x1 x2
          rename_i hHeld
          clear hHeld
          go_wp2_with fail
          obtain ⟨k0, k1, k2⟩ := hL24.out.k2.cells
          obtain ⟨x0, x1, x2⟩ := hX224.out.cells
          have bd : Below w24.heap.size w24 w24.drew := ⟨rfl, rfl, rfl, Nat.le_refl _, fun _ _ => rfl⟩
          have hL24d := Lib.hid (hL24.out.step bd)
          have hD24d := Lib.hid (hD24.out.below bd)
          have hDI24d := Lib.hid (hDI24.out.below bd (by omega))
          have hX024d := Lib.hid (hX024.out.below bd)
          have hXA024d := Lib.hid (hXA024.out.below bd)
          have hX124d := Lib.hid (hX124.out.below bd)
          have hXA124d := Lib.hid (hXA124.out.below bd)
          have hX224d := Lib.hid (hX224.out.below bd)
          have hXA224d := Lib.hid (hXA224.out.below bd)
          have hG24d := Lib.hid (hG24.out.below bd)
          have hGA24d := Lib.hid (hGA24.out.below bd)
          clear hL24 hD24 hDI24 hX024 hXA024 hX124 hXA124 hX224 hXA224 hG24 hGA24
          have z24d : w24.heap.size ≤ w24.drew.heap.size := Nat.le_refl _
          clear bd
          go_region_held3 (fun w' => (w'.cell? ⟨w.heap.size + 1 + 1, 0, none⟩ = some (.int .i64 wd2) ∧ w'.cell? ⟨w.heap.size + 1 + 1, 1, none⟩ = some (.int .i64 hg2) ∧ w'.cell? ⟨w.heap.size + 1 + 1, 2, none⟩ = some (.slice a2 l2.length c2)) ∧ (w'.cell? ⟨wx2.heap.size, 0, none⟩ = some (.int .i64 wd2) ∧ w'.cell? ⟨wx2.heap.size, 1, none⟩ = some (.int .i64 hg2) ∧ w'.cell? ⟨wx2.heap.size, 2, none⟩ = some (.slice (some ⟨gx2, 0, none⟩) l2.length l2.length)))
            (first | exact ⟨hL26.out.k2.cells, hX226.out.cells⟩ | exact ⟨hL25.out.k2.cells, hX225.out.cells⟩ | go_keep)
            (first | (go_at_call 48; (with_reducible refine (HT2.out _ hL24d.out.i2).mono ?_); rintro e w25 ⟨gz2, hgz2, hzz2, rfl, atz, bb⟩; have z25 := bb.size; have hL25 := Lib.hid (hL24d.out.step bb); have hD25 := Lib.hid (hD24d.out.below bb); have hDI25 := Lib.hid (hDI24d.out.below bb (by omega)); have hX025 := Lib.hid (hX024d.out.below bb); have hXA025 := Lib.hid (hXA024d.out.below bb); have hX125 := Lib.hid (hX124d.out.below bb); have hXA125 := Lib.hid (hXA124d.out.below bb); have hX225 := Lib.hid (hX224d.out.below bb); have hXA225 := Lib.hid (hXA224d.out.below bb); have hG25 := Lib.hid (hG24d.out.below bb); have hGA25 := Lib.hid (hGA24d.out.below bb); have hz2 := Lib.hid atz; clear atz; clear bb) | (go_at_call 49; (with_reducible refine (eqField_yes wd2 hg2 _ _ l2 _ _ _ hXA225.out.ints hz2.out.ints hq2).mono ?_); rintro e w26 ⟨rfl, bb⟩; have z26 := bb.size; have hL26 := Lib.hid (hL25.out.step bb); have hD26 := Lib.hid (hD25.out.below bb); have hDI26 := Lib.hid (hDI25.out.below bb (by omega)); have hX026 := Lib.hid (hX025.out.below bb); have hXA026 := Lib.hid (hXA025.out.below bb); have hX126 := Lib.hid (hX125.out.below bb); have hXA126 := Lib.hid (hXA125.out.below bb); have hX226 := Lib.hid (hX225.out.below bb); have hXA226 := Lib.hid (hXA225.out.below bb); have hG26 := Lib.hid (hG25.out.below bb); have hGA26 := Lib.hid (hGA25.out.below bb); clear bb))
          clear hL24d hD24d hDI24d hX024d hXA024d hX124d hXA124d hX224d hXA224d hG24d hGA24d hL25 hD25 hDI25 hX025 hXA025 hX125 hXA125 hX225 hXA225 hG25 hGA25 hz2
          clear k0 k1 k2
          clear x0 x1 x2
          rename_i hHeld
          clear hHeld
          obtain ⟨x0, x1, x2⟩ := hX026.out.cells
          go_wp2_with fail
          refine (markFieldB_any wd0 hg0 _ l0 _ gx0 (1) _ hXA026.out hq0 (by omega) (by omega)).mono ?_
          rintro e w27 ⟨rfl, atm, t⟩
          have z27 := t.size
          have hL27 := Lib.hid (hL26.out.turn t (by omega))
          have hD27 := Lib.hid (hD26.out.turn t (by omega))
          have hDI27 := Lib.hid (hDI26.out.turn t (by omega) (by omega))
          have hX127 := Lib.hid (hX126.out.turn t (by omega))
          have hXA127 := Lib.hid (hXA126.out.turn t (by omega))
          have hX227 := Lib.hid (hX226.out.turn t (by omega))
          have hXA227 := Lib.hid (hXA226.out.turn t (by omega))
          have hG27 := Lib.hid (hG26.out.turn t (by omega))
          have hGA27 := Lib.hid (hGA26.out.turn t (by omega))
          clear hL26 hD26 hDI26 hX026 hXA026 hX126 hXA126 hX226 hXA226 hG26 hGA26
          clear atm t x0 x1 x2
          obtain ⟨x0, x1, x2⟩ := hX127.out.cells
          go_wp2_with fail
          refine (markFieldB_any wd1 hg1 _ l1 _ gx1 (1 + (l0.length : Int)) _ hXA127.out hq1 (by omega) (by omega)).mono ?_
          rintro e w28 ⟨rfl, atm, t⟩
          have z28 := t.size
          have hL28 := Lib.hid (hL27.out.turn t (by omega))
          have hD28 := Lib.hid (hD27.out.turn t (by omega))
          have hDI28 := Lib.hid (hDI27.out.turn t (by omega) (by omega))
          have hX228 := Lib.hid (hX227.out.turn t (by omega))
          have hXA228 := Lib.hid (hXA227.out.turn t (by omega))
          have hG28 := Lib.hid (hG27.out.turn t (by omega))
          have hGA28 := Lib.hid (hGA27.out.turn t (by omega))
          clear hL27 hD27 hDI27 hX127 hXA127 hX227 hXA227 hG27 hGA27
          clear atm t x0 x1 x2
          obtain ⟨x0, x1, x2⟩ := hX228.out.cells
          go_wp2_with fail
          refine (markFieldB_any wd2 hg2 _ l2 _ gx2 (1 + (l0.length : Int) + (l1.length : Int)) _ hXA228.out hq2 (by omega) (by omega)).mono ?_
          rintro e w29 ⟨rfl, atm, t⟩
          have z29 := t.size
          have hL29 := Lib.hid (hL28.out.turn t (by omega))
          have hD29 := Lib.hid (hD28.out.turn t (by omega))
          have hDI29 := Lib.hid (hDI28.out.turn t (by omega) (by omega))
          have hG29 := Lib.hid (hG28.out.turn t (by omega))
          have hGA29 := Lib.hid (hGA28.out.turn t (by omega))
          clear hL28 hD28 hDI28 hX228 hXA228 hG28 hGA28
          clear atm t x0 x1 x2
          obtain ⟨y0, y1, y2⟩ := hD29.out.cells
          obtain ⟨x0, x1, x2⟩ := hG29.out.cells
          go_wp2_with fail
          refine (eqField_yes rw' rh _ _ rl _ _ _ hGA29.out.ints (hDI29.out.more (by omega)) (by omega)).mono ?_
          rintro e w30 ⟨rfl, b⟩
          have z30 := b.size
          have hL30 := Lib.hid (hL29.out.step b)
          have hD30 := Lib.hid (hD29.out.below b)
          have hDI30 := Lib.hid (hDI29.out.below b (by omega))
          have hG30 := Lib.hid (hG29.out.below b)
          have hGA30 := Lib.hid (hGA29.out.below b)
          clear hL29 hD29 hDI29 hG29 hGA29
          clear b x0 x1 x2 y0 y1 y2
          obtain ⟨x0, x1, x2⟩ := hG30.out.cells
          go_wp2_with fail
          refine (markField_any rw' rh a5 rl c5 g5 1 _ hGA30.out (by omega) (by omega) (by omega)).mono ?_
          rintro e w31 ⟨rfl, atm, t⟩
          have z31 := t.size
          have hL31 := Lib.hid (hL30.out.turn t (by omega))
          have hD31 := Lib.hid (hD30.out.turn t (by omega))
          have hDI31 := Lib.hid (hDI30.out.turn t (by omega) (by omega))
          have hG31 := Lib.hid (hG30.out.turn t (by omega))
          clear hL30 hD30 hDI30 hG30 hGA30
          have hGA31 := Lib.hid atm
          clear atm t x0 x1 x2
          obtain ⟨x0, x1, x2⟩ := hG31.out.cells
          go_wp2_with fail
          refine (heldField_any rw' rh a5 rl.length c5 1 _ hGA31.out.ints (by omega) (by omega) (by omega)).mono ?_
          rintro e w32 ⟨rfl, b⟩
          have z32 := b.size
          have hL32 := Lib.hid (hL31.out.step b)
          have hD32 := Lib.hid (hD31.out.below b)
          have hDI32 := Lib.hid (hDI31.out.below b (by omega))
          have hG32 := Lib.hid (hG31.out.below b)
          have hGA32 := Lib.hid (hGA31.out.below b)
          clear hL31 hD31 hDI31 hG31 hGA31
          clear b x0 x1 x2
          obtain ⟨k0, k1, k2⟩ := hL32.out.k0.cells
          obtain ⟨p0, p1, p2⟩ := hL32.out.k1.cells
          obtain ⟨q0, q1, q2⟩ := hL32.out.k2.cells
          have zl := hL32.out.k2.lt
          go_upto_region 38 with fail
          go_cut [18, 19] (fun s t wx => Got (fun wx => (Lw3 w wd0 hg0 a0 l0 c0 wd1 hg1 a1 l1 c1 wd2 hg2 a2 l2 c2 wx) ∧ (Box wx bD 26 (.int .i64 rw') (.int .i64 rh) (.slice a3 rl.length c3)) ∧ (Ints .i64 wx nD a3 rl) ∧ (Box wx bG 26 (.int .i64 rw') (.int .i64 rh) (.slice a5 rl.length c5)) ∧ (At wx a5 g5 (marks 1 rl.length)) ∧ nD ≤ wx.heap.size) (w.heap.size + 3) rw' rh rl rb s t wx)
          case first =>
            have hz32 : Hid (MayBox w32 none) := Lib.hid trivial
            go_region_held3 (fun w' => (w'.cell? ⟨w.heap.size, 0, none⟩ = some (.int .i64 wd0) ∧ w'.cell? ⟨w.heap.size, 1, none⟩ = some (.int .i64 hg0) ∧ w'.cell? ⟨w.heap.size, 2, none⟩ = some (.slice a0 l0.length c0)) ∧ (w'.cell? ⟨w.heap.size + 1, 0, none⟩ = some (.int .i64 wd1) ∧ w'.cell? ⟨w.heap.size + 1, 1, none⟩ = some (.int .i64 hg1) ∧ w'.cell? ⟨w.heap.size + 1, 2, none⟩ = some (.slice a1 l1.length c1)) ∧ (w'.cell? ⟨w.heap.size + 1 + 1, 0, none⟩ = some (.int .i64 wd2) ∧ w'.cell? ⟨w.heap.size + 1 + 1, 1, none⟩ = some (.int .i64 hg2) ∧ w'.cell? ⟨w.heap.size + 1 + 1, 2, none⟩ = some (.slice a2 l2.length c2)))
              (first | (with_reducible exact ⟨hL204.out.k0.cells, hL204.out.k1.cells, hL204.out.k2.cells⟩) | (with_reducible exact ⟨(hL204.out.k0.alloc _).cells, (hL204.out.k1.alloc _).cells, (hL204.out.k2.alloc _).cells⟩) | (with_reducible exact ⟨hL203.out.k0.cells, hL203.out.k1.cells, hL203.out.k2.cells⟩) | (with_reducible exact ⟨(hL203.out.k0.alloc _).cells, (hL203.out.k1.alloc _).cells, (hL203.out.k2.alloc _).cells⟩) | (with_reducible exact ⟨hL202.out.k0.cells, hL202.out.k1.cells, hL202.out.k2.cells⟩) | (with_reducible exact ⟨(hL202.out.k0.alloc _).cells, (hL202.out.k1.alloc _).cells, (hL202.out.k2.alloc _).cells⟩) | (with_reducible exact ⟨hL201.out.k0.cells, hL201.out.k1.cells, hL201.out.k2.cells⟩) | (with_reducible exact ⟨(hL201.out.k0.alloc _).cells, (hL201.out.k1.alloc _).cells, (hL201.out.k2.alloc _).cells⟩) | (with_reducible exact ⟨(hL32.out.k0.below (drew_below _)).cells, (hL32.out.k1.below (drew_below _)).cells, (hL32.out.k2.below (drew_below _)).cells⟩) | (with_reducible exact ⟨((hL32.out.k0.alloc _).below (drew_below _)).cells, ((hL32.out.k1.alloc _).below (drew_below _)).cells, ((hL32.out.k2.alloc _).below (drew_below _)).cells⟩) | ((with_reducible refine ⟨(hL204.out.k0.set_other3 ?_).cells, (hL204.out.k1.set_other3 ?_).cells, (hL204.out.k2.set_other3 ?_).cells⟩) <;> omega) | go_keep)
              (first | (go_at_call 48; (with_reducible refine (HT0.out _ ?_).mono ?_); (first | ((with_reducible exact (ints_below hL32.out.i0 (drew_below _))); rintro e w201 ⟨v0, hv0, hy0, rfl, at0, b201⟩; have bb : Below w32.heap.size w32 w201 := below_then (drew_below _) b201; have z201 := bb.size; have hL201 := Lib.hid (hL32.out.step bb); have hD201 := Lib.hid (hD32.out.below bb); have hDI201 := Lib.hid (hDI32.out.below bb (by omega)); have hG201 := Lib.hid (hG32.out.below bb); have hGA201 := Lib.hid (hGA32.out.below bb); have hz201 := Lib.hid (hz32.out.below bb); have hA0201 := Lib.hid at0; clear at0 b201 bb) | ((with_reducible exact (ints_below (ints_alloc hL32.out.i0 _) (drew_below _))); rintro e w201 ⟨v0, hv0, hy0, rfl, at0, b201⟩; have bb : Below w32.heap.size w32 w201 := below_then (below_then (below_all _ _) (drew_below _)) b201; have z201 := bb.size; have hL201 := Lib.hid (hL32.out.step bb); have hD201 := Lib.hid (hD32.out.below bb); have hDI201 := Lib.hid (hDI32.out.below bb (by omega)); have hG201 := Lib.hid (hG32.out.below bb); have hGA201 := Lib.hid (hGA32.out.below bb); have hz201 := Lib.hid (MayBox.made0 b201); have zs201 := Box.lt hz201.out; have hA0201 := Lib.hid at0; clear at0 b201 bb))) | (go_at_call 48; (with_reducible refine (HT1.out _ ?_).mono ?_); (first | ((with_reducible exact hL201.out.i1); rintro e w202 ⟨v1, hv1, hy1, rfl, at1, b202⟩; have bb : Below w201.heap.size w201 w202 := b202; have z202 := bb.size; have hL202 := Lib.hid (hL201.out.step bb); have hD202 := Lib.hid (hD201.out.below bb); have hDI202 := Lib.hid (hDI201.out.below bb (by omega)); have hG202 := Lib.hid (hG201.out.below bb); have hGA202 := Lib.hid (hGA201.out.below bb); have hz202 := Lib.hid (hz201.out.below bb); have hA0202 := Lib.hid (hA0201.out.below bb); have hA1202 := Lib.hid at1; clear at1 b202 bb) | ((with_reducible exact (ints_alloc hL201.out.i1 _)); rintro e w202 ⟨v1, hv1, hy1, rfl, at1, b202⟩; have bb : Below w201.heap.size w201 w202 := below_then (below_all _ _) b202; have z202 := bb.size; have hL202 := Lib.hid (hL201.out.step bb); have hD202 := Lib.hid (hD201.out.below bb); have hDI202 := Lib.hid (hDI201.out.below bb (by omega)); have hG202 := Lib.hid (hG201.out.below bb); have hGA202 := Lib.hid (hGA201.out.below bb); have hz202 := Lib.hid (MayBox.made b202); have zs202 := Box.lt hz202.out; have hA0202 := Lib.hid (hA0201.out.below bb); have hA1202 := Lib.hid at1; clear at1 b202 bb))) | (go_at_call 48; (with_reducible refine (HT2.out _ ?_).mono ?_); (first | ((with_reducible exact hL202.out.i2); rintro e w203 ⟨v2, hv2, hy2, rfl, at2, b203⟩; have bb : Below w202.heap.size w202 w203 := b203; have z203 := bb.size; have hL203 := Lib.hid (hL202.out.step bb); have hD203 := Lib.hid (hD202.out.below bb); have hDI203 := Lib.hid (hDI202.out.below bb (by omega)); have hG203 := Lib.hid (hG202.out.below bb); have hGA203 := Lib.hid (hGA202.out.below bb); have hz203 := Lib.hid (hz202.out.below bb); have hA0203 := Lib.hid (hA0202.out.below bb); have hA1203 := Lib.hid (hA1202.out.below bb); have hA2203 := Lib.hid at2; clear at2 b203 bb) | ((with_reducible exact (ints_alloc hL202.out.i2 _)); rintro e w203 ⟨v2, hv2, hy2, rfl, at2, b203⟩; have bb : Below w202.heap.size w202 w203 := below_then (below_all _ _) b203; have z203 := bb.size; have hL203 := Lib.hid (hL202.out.step bb); have hD203 := Lib.hid (hD202.out.below bb); have hDI203 := Lib.hid (hDI202.out.below bb (by omega)); have hG203 := Lib.hid (hG202.out.below bb); have hGA203 := Lib.hid (hGA202.out.below bb); have hz203 := Lib.hid (MayBox.made b203); have zs203 := Box.lt hz203.out; have hA0203 := Lib.hid (hA0202.out.below bb); have hA1203 := Lib.hid (hA1202.out.below bb); have hA2203 := Lib.hid at2; clear at2 b203 bb))) | (go_at_call 39; (with_reducible refine (HI.out _ _ _ _ ?_ ?_ ?_).mono ?_); (first | ((with_reducible exact hA0203.out.ints); (with_reducible exact hA1203.out.ints); (with_reducible exact hA2203.out.ints); rintro e w204 ⟨a9, c9, rfl, o9, b204⟩; have bb : Below w203.heap.size w203 w204 := b204; have z204 := bb.size; have hL204 := Lib.hid (hL203.out.step bb); have hD204 := Lib.hid (hD203.out.below bb); have hDI204 := Lib.hid (hDI203.out.below bb (by omega)); have hG204 := Lib.hid (hG203.out.below bb); have hGA204 := Lib.hid (hGA203.out.below bb); have hz204 := Lib.hid (hz203.out.below bb); have hO := Lib.hid o9; clear o9; obtain ⟨y0, y1, y2, f0, f1, f2⟩ := hz204.out.facts; simp only [cellAt, softAt] at y0 y1 y2 f0 f1 f2; clear b204 bb) | ((with_reducible exact (ints_alloc hA0203.out.ints _)); (with_reducible exact (ints_alloc hA1203.out.ints _)); (with_reducible exact (ints_alloc hA2203.out.ints _)); rintro e w204 ⟨a9, c9, rfl, o9, b204⟩; have bb : Below w203.heap.size w203 w204 := below_then (below_all _ _) b204; have z204 := bb.size; have hL204 := Lib.hid (hL203.out.step bb); have hD204 := Lib.hid (hD203.out.below bb); have hDI204 := Lib.hid (hDI203.out.below bb (by omega)); have hG204 := Lib.hid (hG203.out.below bb); have hGA204 := Lib.hid (hGA203.out.below bb); have hz204 := Lib.hid (MayBox.made b204); have zs204 := Box.lt hz204.out; have hO := Lib.hid o9; clear o9; obtain ⟨y0, y1, y2, f0, f1, f2⟩ := hz204.out.facts; simp only [cellAt, softAt] at y0 y1 y2 f0 f1 f2; clear b204 bb))))
            all_goals (go_wp2_with fail; go_meet)
            all_goals first
              | exact ⟨_, a9, c9, rfl, rfl, Box.new _ _ _ _ _, ints_below hO.out.ints (below_all _ _), by omega, by simp, hL204.out.step (below_all _ _), hD204.out.below (below_all _ _), hDI204.out.below (below_all _ _) (by omega), hG204.out.below (below_all _ _), hGA204.out.below (below_all _ _), (by first | omega | (simp; omega) | (rw [size_set3]; omega))⟩
              | (have hzb : Box w204 _ 26 (.int .i64 0) (.int .i64 0) (.slice none 0 0) := hz204.out
                 refine ⟨_, a9, c9, rfl, rfl, hzb.set3 _ _ _, ints_own3 hO.out (by first | omega | (simp; done) | (simp; omega)), by omega, (by rw [size_set3]; exact hzb.lt), hL204.out.turn (turn_set3 _ _ _ _ _ _ _ _) (by omega), hD204.out.turn (turn_set3 _ _ _ _ _ _ _ _) (by omega), hDI204.out.turn (turn_set3 _ _ _ _ _ _ _ _) (by omega) (by omega), hG204.out.turn (turn_set3 _ _ _ _ _ _ _ _) (by omega), hGA204.out.turnOr (turn_set3 _ _ _ _ _ _ _ _) (by have := H5.out; omega), (by first | omega | (simp; omega) | (rw [size_set3]; omega))⟩)
          case rest =>
            obtain ⟨bH, aH, cH, rfl, rfl, xH, xiH, loH, ltH, gL, gD, gDI, gG, gGA, zN⟩ := hcut
            have hLH := Lib.hid gL
            have hDH := Lib.hid gD
            have hDIH := Lib.hid gDI
            have hGH := Lib.hid gG
            have hGAH := Lib.hid gGA
            have zcH := hLH.out.k2.lt
            clear gL gD gDI gG gGA hL32 hD32 hDI32 hG32 hGA32
            clear k0 k1 k2
            clear p0 p1 p2
            clear q0 q1 q2
            clear HI
            have hJ := Lib.hid xiH
            obtain ⟨x0, x1, x2⟩ := xH.cells
            obtain ⟨y0, y1, y2⟩ := hDH.out.cells
            clear xH xiH
            go_wp2_with fail
            refine (eqField_yes rw' rh _ _ rl _ _ _ hJ.out (hDIH.out.more (by omega)) (by omega)).mono ?_
            rintro e w60 ⟨rfl, b⟩
            have z60 := b.size
            have hL60 := Lib.hid (hLH.out.step b)
            have hD60 := Lib.hid (hDH.out.below b)
            have hDI60 := Lib.hid (hDIH.out.below b (by omega))
            have hG60 := Lib.hid (hGH.out.below b)
            have hGA60 := Lib.hid (hGAH.out.below b)
            clear hLH hDH hDIH hGH hGAH
            clear b hJ x0 x1 x2 y0 y1 y2
            obtain ⟨x0, x1, x2⟩ := hG60.out.cells
            go_wp2_with fail
            refine (heldField_any rw' rh a5 rl.length c5 1 _ hGA60.out.ints (by omega) (by omega) (by omega)).mono ?_
            rintro e w61 ⟨rfl, b⟩
            have hB61 := Lib.hid (below_then hL60.out.b b)
            clear b
            go_wp2
            go_ret
            exact ⟨rfl, hB61.out⟩
      · rw [if_neg hn2] at HZ2
        go_enter Try.func13, Try.ntmps13
        go_wp2_with fail
        refine (HZ0.out _ (by omega)).mono ?_
        rintro e w1 ⟨rfl, b⟩
        have z1 := b.size
        simp only [World.size_alloc] at z1
        have hL1 := Lib.hid (hL0.out.step b)
        clear hL0
        clear b HZ0
        obtain ⟨k0, k1, k2⟩ := hL1.out.k1.cells
        go_wp2_with fail
        refine (HZ1.out _ (by omega)).mono ?_
        rintro e w2 ⟨rfl, b⟩
        have z2 := b.size
        have hL2 := Lib.hid (hL1.out.step b)
        clear hL1
        clear b HZ1
        clear k0 k1 k2
        obtain ⟨k0, k1, k2⟩ := hL2.out.k2.cells
        go_wp2_with fail
        refine (HZ2.out _ (by omega)).mono ?_
        rintro e w3 ⟨rfl, b⟩
        have z3 := b.size
        have hL3 := Lib.hid (hL2.out.step b)
        clear hL2
        clear b HZ2
        clear k0 k1 k2
        go_wp2
        go_ret
        exact ⟨rfl, hL3.out.b⟩
    · rw [if_neg hn1] at HZ1
      go_enter Try.func13, Try.ntmps13
      go_wp2_with fail
      refine (HZ0.out _ (by omega)).mono ?_
      rintro e w1 ⟨rfl, b⟩
      have z1 := b.size
      simp only [World.size_alloc] at z1
      have hL1 := Lib.hid (hL0.out.step b)
      clear hL0
      clear b HZ0
      obtain ⟨k0, k1, k2⟩ := hL1.out.k1.cells
      go_wp2_with fail
      refine (HZ1.out _ (by omega)).mono ?_
      rintro e w2 ⟨rfl, b⟩
      have z2 := b.size
      have hL2 := Lib.hid (hL1.out.step b)
      clear hL1
      clear b HZ1
      clear k0 k1 k2
      obtain ⟨k0, k1, k2⟩ := hL2.out.k2.cells
      go_wp2
      go_ret
      exact ⟨rfl, hL2.out.b⟩
  · rw [if_neg hn0] at HZ0
    go_enter Try.func13, Try.ntmps13
    go_wp2_with fail
    refine (HZ0.out _ (by omega)).mono ?_
    rintro e w1 ⟨rfl, b⟩
    have z1 := b.size
    simp only [World.size_alloc] at z1
    have hL1 := Lib.hid (hL0.out.step b)
    clear hL0
    clear b HZ0
    obtain ⟨k0, k1, k2⟩ := hL1.out.k1.cells
    go_wp2
    go_ret
    exact ⟨rfl, hL1.out.b⟩
end Go.Proofs.Ytjppaolhknjpaaa
