/- The walk of the law FnExactMatchOf. -/
import Derived.Test.YtggdkibbfmjelaaMvMatch
import Derived.Test.YtggdkibbfmjelaaLws
import Derived.Test.YtggdkibbfmjelaaMBox
namespace Go.Proofs.Ytggdkibbfmjelaa
open Go.RowKit
set_option linter.unusedVariables false
set_option linter.unusedSimpArgs false
set_option maxRecDepth 100000 in
set_option maxHeartbeats 16000000 in
theorem walk_MaLaw (wd0 hg0 : Int) (a0 : Option Addr) (l0 : List Int) (c0 : Nat) (wd1 hg1 : Int) (a1 : Option Addr) (l1 : List Int) (c1 : Nat) (mx my : Int) (w : World) (hl0 : Ints .i64 w w.heap.size a0 l0) (hm0 : l0.length ≤ maxLen) (hl1 : Ints .i64 w w.heap.size a1 l1) (hm1 : l1.length ≤ maxLen) :
    Calls Try.prog 6 #[.agg #[.int .i64 wd0, .int .i64 hg0, .slice a0 l0.length c0], .agg #[.int .i64 wd1, .int .i64 hg1, .slice a1 l1.length c1], .agg #[.int .i64 mx, .int .i64 my]] w fun e w' => e = .returned (.bool true) ∧ Below w.heap.size w w' := by
  have hL0 := Lib.hid ((Lw2.new (wd0 := wd0) (hg0 := hg0) (c0 := c0) (wd1 := wd1) (hg1 := hg1) (c1 := c1) hl0 hl1).step (below_all _ (.cells #[.int .i64 mx, .int .i64 my] 23)))
  have hM0 := Lib.hid (MBox.new ((w.alloc (.cells #[.int .i64 wd0, .int .i64 hg0, .slice a0 l0.length c0] 32)).alloc (.cells #[.int .i64 wd1, .int .i64 hg1, .slice a1 l1.length c1] 32)) 23 mx my)
  simp only [World.size_alloc] at hM0
  clear hl0 hl1
  have HZ0 := Lib.hid (fun W h0 => szField_any wd0 hg0 a0 l0.length c0 (1048576) W hm0 h0 (by omega))
  have HZ1 := Lib.hid (fun W h0 => szField_any wd1 hg1 a1 l1.length c1 (1048576 - (l0.length : Int)) W hm1 h0 (by omega))
  unfold maxLen at hm0
  unfold maxLen at hm1
  by_cases hn0 : (l0.length : Int) ≤ 1048576
  · rw [if_pos hn0] at HZ0
    by_cases hn1 : (l1.length : Int) ≤ 1048576 - (l0.length : Int)
    · rw [if_pos hn1] at HZ1
      have hq0 : l0.length ≤ 1048576 := by omega
      have hq1 : l1.length ≤ 1048576 := by omega
      have HV := Lib.hid (fun (b0 : Nat) (b1 : Nat) (W : World) (h0 : Ints .i64 W W.heap.size (some ⟨b0, 0, none⟩) l0) (h1 : Ints .i64 W W.heap.size (some ⟨b1, 0, none⟩) l1) => specMatch_any wd0 hg0 (some ⟨b0, 0, none⟩) l0 l0.length wd1 hg1 (some ⟨b1, 0, none⟩) l1 l1.length mx my W h0 h1 hq0 hq1)
      have HI := Lib.hid (fun (b0 : Nat) (b1 : Nat) (W : World) (h0 : Ints .i64 W W.heap.size (some ⟨b0, 0, none⟩) l0) (h1 : Ints .i64 W W.heap.size (some ⟨b1, 0, none⟩) l1) => implMatch_any wd0 hg0 (some ⟨b0, 0, none⟩) l0 l0.length wd1 hg1 (some ⟨b1, 0, none⟩) l1 l1.length mx my W h0 h1 hq0 hq1)
      have HT0 := Lib.hid (fun (W : World) (h : Ints .i64 W W.heap.size a0 l0) => toField_any wd0 hg0 a0 l0 c0 W h hq0)
      have HT1 := Lib.hid (fun (W : World) (h : Ints .i64 W W.heap.size a1 l1) => toField_any wd1 hg1 a1 l1 c1 W h hq1)
      generalize maG wd0 hg0 l0 wd1 hg1 l1 mx my = r0 at *
      generalize maN wd0 hg0 l0 wd1 hg1 l1 mx my = r1 at *
      generalize maB wd0 hg0 l0 wd1 hg1 l1 mx my = r2 at *
      go_enter Try.func6, Try.ntmps6
      go_wp2_with fail
      refine (HZ0.out _ (by omega)).mono ?_
      rintro e w1 ⟨rfl, b⟩
      have z1 := b.size
      simp only [World.size_alloc] at z1
      have hL1 := Lib.hid (hL0.out.step b)
      have hM1 := Lib.hid (hM0.out.below b)
      clear hL0 hM0
      clear b HZ0
      obtain ⟨k0, k1, k2⟩ := hL1.out.k1.cells
      go_wp2_with fail
      refine (HZ1.out _ (by omega)).mono ?_
      rintro e w2 ⟨rfl, b⟩
      have z2 := b.size
      have hL2 := Lib.hid (hL1.out.step b)
      have hM2 := Lib.hid (hM1.out.below b)
      clear hL1 hM1
      clear b HZ1
      clear k0 k1 k2
      obtain ⟨k0, k1, k2⟩ := hL2.out.k0.cells
      obtain ⟨p0, p1, p2⟩ := hL2.out.k1.cells
      have zl := hL2.out.k1.lt
      obtain ⟨m0, m1⟩ := hM2.out.cells
      have zm := hM2.out.lt
      go_upto_region 8 with fail
      go_cut [8, 9, 10] (fun s0 s1 s2 wx => s0 = .int .i64 r0 ∧ s1 = .int .i64 r1 ∧ s2 = .bool r2 ∧ (fun wx => (Lw2 w wd0 hg0 a0 l0 c0 wd1 hg1 a1 l1 c1 wx) ∧ (MBox wx (w.heap.size + 1 + 1) 23 mx my)) wx)
      case first =>
        go_region_held3 (fun w' => (w'.cell? ⟨w.heap.size, 0, none⟩ = some (.int .i64 wd0) ∧ w'.cell? ⟨w.heap.size, 1, none⟩ = some (.int .i64 hg0) ∧ w'.cell? ⟨w.heap.size, 2, none⟩ = some (.slice a0 l0.length c0)) ∧ (w'.cell? ⟨w.heap.size + 1, 0, none⟩ = some (.int .i64 wd1) ∧ w'.cell? ⟨w.heap.size + 1, 1, none⟩ = some (.int .i64 hg1) ∧ w'.cell? ⟨w.heap.size + 1, 2, none⟩ = some (.slice a1 l1.length c1)) ∧ (w'.cell? ⟨(w.heap.size + 1 + 1), 0, none⟩ = some (.int .i64 mx) ∧ w'.cell? ⟨(w.heap.size + 1 + 1), 1, none⟩ = some (.int .i64 my)))
          (first | (with_reducible exact ⟨hL104.out.k0.cells, hL104.out.k1.cells, hM104.out.cells⟩) | (with_reducible exact ⟨hL103.out.k0.cells, hL103.out.k1.cells, hM103.out.cells⟩) | (with_reducible exact ⟨hL102.out.k0.cells, hL102.out.k1.cells, hM102.out.cells⟩) | (with_reducible exact ⟨hL101.out.k0.cells, hL101.out.k1.cells, hM101.out.cells⟩) | (with_reducible exact ⟨(hL2.out.k0.below (drew_below _)).cells, (hL2.out.k1.below (drew_below _)).cells, (hM2.out.below (drew_below _)).cells⟩) | go_keep)
          (first | (go_at_call 20; (with_reducible refine (HT0.out _ ?_).mono ?_); (first | ((with_reducible exact (ints_below hL2.out.i0 (drew_below _))); rintro e w101 ⟨v0, hv0, hy0, rfl, at0, b101⟩; have bb : Below w2.heap.size w2 w101 := below_then (drew_below _) b101; have z101 := bb.size; have hL101 := Lib.hid (hL2.out.step bb); have hM101 := Lib.hid (hM2.out.below bb); have hA0101 := Lib.hid at0; clear at0 b101 bb))) | (go_at_call 20; (with_reducible refine (HT1.out _ ?_).mono ?_); (first | ((with_reducible exact hL101.out.i1); rintro e w102 ⟨v1, hv1, hy1, rfl, at1, b102⟩; have bb : Below w101.heap.size w101 w102 := b102; have z102 := bb.size; have hL102 := Lib.hid (hL101.out.step bb); have hM102 := Lib.hid (hM101.out.below bb); have hA0102 := Lib.hid (hA0101.out.below bb); have hA1102 := Lib.hid at1; clear at1 b102 bb))) | (go_at_call 15; (with_reducible refine (toMo_is mx my _).mono ?_); (first | (rintro e w103 ⟨rfl, b103⟩; have bb : Below w102.heap.size w102 w103 := b103; have z103 := bb.size; have hL103 := Lib.hid (hL102.out.step bb); have hM103 := Lib.hid (hM102.out.below bb); have hA0103 := Lib.hid (hA0102.out.below bb); have hA1103 := Lib.hid (hA1102.out.below bb); clear b103 bb))) | (go_at_call 27; (with_reducible refine (HV.out _ _ _ ?_ ?_).mono ?_); (first | ((with_reducible exact hA0103.out.ints); (with_reducible exact hA1103.out.ints); rintro e w104 ⟨rfl, b104⟩; have bb : Below w103.heap.size w103 w104 := b104; have z104 := bb.size; have hL104 := Lib.hid (hL103.out.step bb); have hM104 := Lib.hid (hM103.out.below bb); clear b104 bb))))
        all_goals (go_wp2_with fail; go_meet)
        all_goals exact ⟨rfl, rfl, rfl, hL104.out, hM104.out⟩
      case rest =>
        obtain ⟨rfl, rfl, rfl, gL, gM⟩ := hcut
        have hLD := Lib.hid gL
        have hMD := Lib.hid gM
        have zcD := hLD.out.k1.lt
        clear gL gM hL2 hM2
        clear k0 k1 k2
        clear p0 p1 p2
        clear m0 m1
        clear HV
        obtain ⟨k0, k1, k2⟩ := hLD.out.k0.cells
        go_wp2_with fail
        refine (HT0.out _ hLD.out.i0).mono ?_
        rintro e wx0 ⟨gx0, hgx0, hzx0, rfl, atx, bx⟩
        have zx0 := bx.size
        clear k0 k1 k2
        obtain ⟨WX0, hW⟩ : ∃ x, wx0.alloc (.cells #[.int .i64 wd0, .int .i64 hg0, .slice (some ⟨gx0, 0, none⟩) l0.length l0.length] 34) = x := ⟨_, rfl⟩
        have sWX0 : WX0.heap.size = wx0.heap.size + 1 := by rw [← hW]; simp
        have BX : Box WX0 wx0.heap.size 34 (.int .i64 wd0) (.int .i64 hg0) (.slice (some ⟨gx0, 0, none⟩) l0.length l0.length) := by rw [← hW]; exact Box.new _ _ _ _ _
        have aX : Below wx0.heap.size wx0 WX0 := by rw [← hW]; exact below_all _ _
        obtain ⟨k0, k1, k2⟩ := (hLD.out.step bx).k1.cells
        have qk1 : w.heap.size + 1 < wx0.heap.size := by omega
        have qk2 : ¬ w.heap.size + 1 = wx0.heap.size := by omega
        have bx' := below_then bx aX
        have hLx0 := Lib.hid (hLD.out.step bx')
        have hMx0 := Lib.hid (hMD.out.below bx')
        clear hLD hMD
        have hX0x0 := Lib.hid BX
        have hXA0x0 := Lib.hid (atx.below aX)
        have eX0 := Lib.hid hW
        clear hW bx bx' atx aX BX
        go_wp2_with fail
        rw [eX0.out]
        refine (HT1.out _ hLx0.out.i1).mono ?_
        rintro e wx1 ⟨gx1, hgx1, hzx1, rfl, atx, bx⟩
        have zx1 := bx.size
        clear k0 k1 k2
        clear qk1 qk2
        obtain ⟨WX1, hW⟩ : ∃ x, wx1.alloc (.cells #[.int .i64 wd1, .int .i64 hg1, .slice (some ⟨gx1, 0, none⟩) l1.length l1.length] 34) = x := ⟨_, rfl⟩
        have sWX1 : WX1.heap.size = wx1.heap.size + 1 := by rw [← hW]; simp
        have BX : Box WX1 wx1.heap.size 34 (.int .i64 wd1) (.int .i64 hg1) (.slice (some ⟨gx1, 0, none⟩) l1.length l1.length) := by rw [← hW]; exact Box.new _ _ _ _ _
        have aX : Below wx1.heap.size wx1 WX1 := by rw [← hW]; exact below_all _ _
        obtain ⟨x00, x01, x02⟩ := (hX0x0.out.below bx).cells
        have qx01 : wx0.heap.size < wx1.heap.size := by omega
        have qx02 : ¬ wx0.heap.size = wx1.heap.size := by omega
        have bx' := below_then bx aX
        have hLx1 := Lib.hid (hLx0.out.step bx')
        have hMx1 := Lib.hid (hMx0.out.below bx')
        have hX0x1 := Lib.hid (hX0x0.out.below bx')
        have hXA0x1 := Lib.hid (hXA0x0.out.below bx')
        clear hLx0 hMx0 hX0x0 hXA0x0
        have hX1x1 := Lib.hid BX
        have hXA1x1 := Lib.hid (atx.below aX)
        have eX1 := Lib.hid hW
        clear hW bx bx' atx aX BX eX0
        go_wp2_with fail
        rw [eX1.out]
        obtain ⟨m0, m1⟩ := hMx1.out.cells
        obtain ⟨x00, x01, x02⟩ := hX0x1.out.cells
        obtain ⟨x10, x11, x12⟩ := hX1x1.out.cells
        have bd : Below WX1.heap.size WX1 WX1.drew := drew_below _
        have hLq := Lib.hid (hLx1.out.step bd)
        have hMq := Lib.hid (hMx1.out.below bd)
        have hX0q := Lib.hid (hX0x1.out.below bd)
        have hXA0q := Lib.hid (hXA0x1.out.below bd)
        have hX1q := Lib.hid (hX1x1.out.below bd)
        have hXA1q := Lib.hid (hXA1x1.out.below bd)
        clear hLx1 hMx1 hX0x1 hXA0x1 hX1x1 hXA1x1
        clear bd
        go_region_held3 (fun w' => (w'.cell? ⟨wx0.heap.size, 0, none⟩ = some (.int .i64 wd0) ∧ w'.cell? ⟨wx0.heap.size, 1, none⟩ = some (.int .i64 hg0) ∧ w'.cell? ⟨wx0.heap.size, 2, none⟩ = some (.slice (some ⟨gx0, 0, none⟩) l0.length l0.length)) ∧ (w'.cell? ⟨wx1.heap.size, 0, none⟩ = some (.int .i64 wd1) ∧ w'.cell? ⟨wx1.heap.size, 1, none⟩ = some (.int .i64 hg1) ∧ w'.cell? ⟨wx1.heap.size, 2, none⟩ = some (.slice (some ⟨gx1, 0, none⟩) l1.length l1.length)) ∧ (w'.cell? ⟨(w.heap.size + 1 + 1), 0, none⟩ = some (.int .i64 mx) ∧ w'.cell? ⟨(w.heap.size + 1 + 1), 1, none⟩ = some (.int .i64 my)))
          (first | (with_reducible exact ⟨hX020.out.cells, hX120.out.cells, hM20.out.cells⟩) | (with_reducible exact ⟨hX0r.out.cells, hX1r.out.cells, hMr.out.cells⟩) | (with_reducible exact ⟨hX0q.out.cells, hX1q.out.cells, hMq.out.cells⟩) | go_keep)
          (first
            | (go_at_call 15; (with_reducible refine (toMo_is mx my _).mono ?_); rintro e w19 ⟨rfl, bb⟩; have z19 := bb.size; have hLr := Lib.hid (hLq.out.step bb); have hMr := Lib.hid (hMq.out.below bb); have hX0r := Lib.hid (hX0q.out.below bb); have hXA0r := Lib.hid (hXA0q.out.below bb); have hX1r := Lib.hid (hX1q.out.below bb); have hXA1r := Lib.hid (hXA1q.out.below bb); clear bb)
            | (go_at_call 28; (with_reducible refine (HI.out _ _ _ hXA0r.out.ints hXA1r.out.ints).mono ?_); rintro e w20 ⟨rfl, bb⟩; have z20 := bb.size; have hL20 := Lib.hid (hLr.out.step bb); have hM20 := Lib.hid (hMr.out.below bb); have hX020 := Lib.hid (hX0r.out.below bb); have hXA020 := Lib.hid (hXA0r.out.below bb); have hX120 := Lib.hid (hX1r.out.below bb); have hXA120 := Lib.hid (hXA1r.out.below bb); clear bb))
        rename_i hHeld
        clear hHeld m0 m1 HI eX1 x00 x01 x02 x10 x11 x12 qx01 qx02
        clear hLq hMq hX0q hXA0q hX1q hXA1q hLr hMr hX0r hXA0r hX1r hXA1r
        have er0 : (r0 != r0) = false := by simp
        have er1 : (r1 != r1) = false := by simp
        have er2 : (r2 != r2) = false := by simp
        go_wp2_with fail
        clear er0 er1 er2
        obtain ⟨k0, k1, k2⟩ := hL20.out.k0.cells
        obtain ⟨x0, x1, x2⟩ := hX020.out.cells
        have bd : Below w20.heap.size w20 w20.drew := ⟨rfl, rfl, rfl, Nat.le_refl _, fun _ _ => rfl⟩
        have hL20d := Lib.hid (hL20.out.step bd)
        have hM20d := Lib.hid (hM20.out.below bd)
        have hX020d := Lib.hid (hX020.out.below bd)
        have hXA020d := Lib.hid (hXA020.out.below bd)
        have hX120d := Lib.hid (hX120.out.below bd)
        have hXA120d := Lib.hid (hXA120.out.below bd)
        clear hL20 hM20 hX020 hXA020 hX120 hXA120
        have z20d : w20.heap.size ≤ w20.drew.heap.size := Nat.le_refl _
        clear bd
        go_region_held3 (fun w' => (w'.cell? ⟨w.heap.size, 0, none⟩ = some (.int .i64 wd0) ∧ w'.cell? ⟨w.heap.size, 1, none⟩ = some (.int .i64 hg0) ∧ w'.cell? ⟨w.heap.size, 2, none⟩ = some (.slice a0 l0.length c0)) ∧ (w'.cell? ⟨wx0.heap.size, 0, none⟩ = some (.int .i64 wd0) ∧ w'.cell? ⟨wx0.heap.size, 1, none⟩ = some (.int .i64 hg0) ∧ w'.cell? ⟨wx0.heap.size, 2, none⟩ = some (.slice (some ⟨gx0, 0, none⟩) l0.length l0.length)))
          (first | exact ⟨hL22.out.k0.cells, hX022.out.cells⟩ | exact ⟨hL21.out.k0.cells, hX021.out.cells⟩ | go_keep)
          (first | (go_at_call 20; (with_reducible refine (HT0.out _ hL20d.out.i0).mono ?_); rintro e w21 ⟨gz0, hgz0, hzz0, rfl, atz, bb⟩; have z21 := bb.size; have hL21 := Lib.hid (hL20d.out.step bb); have hM21 := Lib.hid (hM20d.out.below bb); have hX021 := Lib.hid (hX020d.out.below bb); have hXA021 := Lib.hid (hXA020d.out.below bb); have hX121 := Lib.hid (hX120d.out.below bb); have hXA121 := Lib.hid (hXA120d.out.below bb); have hz0 := Lib.hid atz; clear atz; clear bb) | (go_at_call 22; (with_reducible refine (eqField_yes wd0 hg0 _ _ l0 _ _ _ hXA021.out.ints hz0.out.ints hq0).mono ?_); rintro e w22 ⟨rfl, bb⟩; have z22 := bb.size; have hL22 := Lib.hid (hL21.out.step bb); have hM22 := Lib.hid (hM21.out.below bb); have hX022 := Lib.hid (hX021.out.below bb); have hXA022 := Lib.hid (hXA021.out.below bb); have hX122 := Lib.hid (hX121.out.below bb); have hXA122 := Lib.hid (hXA121.out.below bb); clear bb))
        clear hL20d hM20d hX020d hXA020d hX120d hXA120d hL21 hM21 hX021 hXA021 hX121 hXA121 hz0
        clear k0 k1 k2
        clear x0 x1 x2
        rename_i hHeld
        clear hHeld
        go_wp2_with fail
        obtain ⟨k0, k1, k2⟩ := hL22.out.k1.cells
        obtain ⟨x0, x1, x2⟩ := hX122.out.cells
        have bd : Below w22.heap.size w22 w22.drew := ⟨rfl, rfl, rfl, Nat.le_refl _, fun _ _ => rfl⟩
        have hL22d := Lib.hid (hL22.out.step bd)
        have hM22d := Lib.hid (hM22.out.below bd)
        have hX022d := Lib.hid (hX022.out.below bd)
        have hXA022d := Lib.hid (hXA022.out.below bd)
        have hX122d := Lib.hid (hX122.out.below bd)
        have hXA122d := Lib.hid (hXA122.out.below bd)
        clear hL22 hM22 hX022 hXA022 hX122 hXA122
        have z22d : w22.heap.size ≤ w22.drew.heap.size := Nat.le_refl _
        clear bd
        go_region_held3 (fun w' => (w'.cell? ⟨w.heap.size + 1, 0, none⟩ = some (.int .i64 wd1) ∧ w'.cell? ⟨w.heap.size + 1, 1, none⟩ = some (.int .i64 hg1) ∧ w'.cell? ⟨w.heap.size + 1, 2, none⟩ = some (.slice a1 l1.length c1)) ∧ (w'.cell? ⟨wx1.heap.size, 0, none⟩ = some (.int .i64 wd1) ∧ w'.cell? ⟨wx1.heap.size, 1, none⟩ = some (.int .i64 hg1) ∧ w'.cell? ⟨wx1.heap.size, 2, none⟩ = some (.slice (some ⟨gx1, 0, none⟩) l1.length l1.length)))
          (first | exact ⟨hL24.out.k1.cells, hX124.out.cells⟩ | exact ⟨hL23.out.k1.cells, hX123.out.cells⟩ | go_keep)
          (first | (go_at_call 20; (with_reducible refine (HT1.out _ hL22d.out.i1).mono ?_); rintro e w23 ⟨gz1, hgz1, hzz1, rfl, atz, bb⟩; have z23 := bb.size; have hL23 := Lib.hid (hL22d.out.step bb); have hM23 := Lib.hid (hM22d.out.below bb); have hX023 := Lib.hid (hX022d.out.below bb); have hXA023 := Lib.hid (hXA022d.out.below bb); have hX123 := Lib.hid (hX122d.out.below bb); have hXA123 := Lib.hid (hXA122d.out.below bb); have hz1 := Lib.hid atz; clear atz; clear bb) | (go_at_call 22; (with_reducible refine (eqField_yes wd1 hg1 _ _ l1 _ _ _ hXA123.out.ints hz1.out.ints hq1).mono ?_); rintro e w24 ⟨rfl, bb⟩; have z24 := bb.size; have hL24 := Lib.hid (hL23.out.step bb); have hM24 := Lib.hid (hM23.out.below bb); have hX024 := Lib.hid (hX023.out.below bb); have hXA024 := Lib.hid (hXA023.out.below bb); have hX124 := Lib.hid (hX123.out.below bb); have hXA124 := Lib.hid (hXA123.out.below bb); clear bb))
        clear hL22d hM22d hX022d hXA022d hX122d hXA122d hL23 hM23 hX023 hXA023 hX123 hXA123 hz1
        clear k0 k1 k2
        clear x0 x1 x2
        rename_i hHeld
        clear hHeld
        go_wp2
        go_ret
        exact ⟨rfl, hL24.out.b⟩
    · rw [if_neg hn1] at HZ1
      go_enter Try.func6, Try.ntmps6
      go_wp2_with fail
      refine (HZ0.out _ (by omega)).mono ?_
      rintro e w1 ⟨rfl, b⟩
      have z1 := b.size
      simp only [World.size_alloc] at z1
      have hL1 := Lib.hid (hL0.out.step b)
      clear hL0
      clear b HZ0
      obtain ⟨k0, k1, k2⟩ := hL1.out.k1.cells
      go_wp2_with fail
      refine (HZ1.out _ (by omega)).mono ?_
      rintro e w2 ⟨rfl, b⟩
      have z2 := b.size
      have hL2 := Lib.hid (hL1.out.step b)
      clear hL1
      clear b HZ1
      clear k0 k1 k2
      go_wp2
      go_ret
      exact ⟨rfl, hL2.out.b⟩
  · rw [if_neg hn0] at HZ0
    go_enter Try.func6, Try.ntmps6
    go_wp2_with fail
    refine (HZ0.out _ (by omega)).mono ?_
    rintro e w1 ⟨rfl, b⟩
    have z1 := b.size
    simp only [World.size_alloc] at z1
    have hL1 := Lib.hid (hL0.out.step b)
    clear hL0
    clear b HZ0
    obtain ⟨k0, k1, k2⟩ := hL1.out.k1.cells
    go_wp2
    go_ret
    exact ⟨rfl, hL1.out.b⟩
end Go.Proofs.Ytggdkibbfmjelaa
