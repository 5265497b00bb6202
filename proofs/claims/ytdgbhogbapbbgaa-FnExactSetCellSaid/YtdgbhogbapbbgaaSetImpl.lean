/- The program's SetCell. -/
import Derived.Test.YtdgbhogbapbbgaaGrid
namespace Go.Proofs.Ytdgbhogbapbbgaa
open Go.RowKit
set_option linter.unusedVariables false
set_option linter.unusedSimpArgs false
set_option maxRecDepth 100000 in
set_option maxHeartbeats 2000000 in
theorem implSet_any (wd hg : Int) (a : Option Addr) (l : List Int) (c : Nat) (x y v : Int) (w : World) (hl : Ints .i64 w w.heap.size a l) (hn : l.length ≤ 1048576) (hcap : l.length ≤ c) :
    Calls Try.prog 47 #[.agg #[.int .i64 wd, .int .i64 hg, .slice a l.length c], .int .i64 x, .int .i64 y, .int .i64 v] w (FRet (setR wd hg l x y v) w) := by
  have I0 := ints_alloc (ints_alloc hl (.cells #[.int .i64 wd, .int .i64 hg, .slice a l.length c] 36)) (.cells #[.int .i64 0, .int .i64 0, .slice none 0 0] 36)
  have X0 := (Box.new w 36 (.int .i64 wd) (.int .i64 hg) (.slice a l.length c)).alloc (.cells #[.int .i64 0, .int .i64 0, .slice none 0 0] 36)
  have R0 := Box.new (w.alloc (.cells #[.int .i64 wd, .int .i64 hg, .slice a l.length c] 36)) 36 (.int .i64 0) (.int .i64 0) (.slice none 0 0)
  rw [World.size_alloc] at R0
  have B0 := (below_all w (.cells #[.int .i64 wd, .int .i64 hg, .slice a l.length c] 36)).alloc (by simp) (.cells #[.int .i64 0, .int .i64 0, .slice none 0 0] 36)
  have HX0 := Lib.hid X0
  have HR0 := Lib.hid R0
  have HB0 := Lib.hid B0
  have HI0 := Lib.hid I0
  clear hl X0 R0 B0 I0
  cases hgd : goodB wd hg l with
  | false =>
    rw [setR_no (by rw [hgd]; rfl)]
    have HC := Lib.hid (implGood_is wd hg a l c _ false _ HI0.out (Nat.le_refl _) hn hgd)
    clear hgd
    go_enter Try.func47, Try.ntmps47
    go_wp2_with fail
    refine HC.out.mono ?_
    rintro e w1 ⟨rfl, b1⟩
    have R1 := HR0.out.below b1
    have HB := Lib.hid (below_then HB0.out b1)
    obtain ⟨r0, r1, r2⟩ := R1.cells
    have g0 := R1.frozen 0
    have g1 := R1.frozen 1
    have g2 := R1.frozen 2
    clear b1 R1
    go_wp2
    refine bodyPost_ret (v := .tuple #[.agg #[.int .i64 0, .int .i64 0, .slice none 0 0], .bool false]) (by simp [results, Try.results47, go_sem, r0, r1, r2]) rfl ⟨none, 0, rfl, OwnI.none_, ?_⟩
    exact ((HB.out.setCell (by simp) _).setCell (by simp) _).setCell (by simp) _
  | true =>
    have HC := Lib.hid (implGood_is wd hg a l c _ true _ HI0.out (Nat.le_refl _) hn hgd)
    have hs := good_shape hgd
    cases hh : inB wd hg x y with
    | false =>
      rw [setR_no (by rw [hgd, hh]; rfl)]
      have HH := Lib.hid (fun W => implHas_is wd hg a l.length c x y false W hh)
      clear hgd hh hs
      go_enter Try.func47, Try.ntmps47
      go_wp2_with fail
      refine HC.out.mono ?_
      rintro e w1 ⟨rfl, b1⟩
      have HX1 := Lib.hid (HX0.out.below b1)
      have HR1 := Lib.hid (HR0.out.below b1)
      have HB1 := Lib.hid (below_then HB0.out b1)
      obtain ⟨k0, k1, k2⟩ := HX1.out.cells
      clear b1
      go_wp2_with fail
      refine (HH.out _).mono ?_
      rintro e w2 ⟨rfl, b2⟩
      have R2 := HR1.out.below b2
      have HB := Lib.hid (below_then HB1.out b2)
      obtain ⟨r0, r1, r2⟩ := R2.cells
      have g0 := R2.frozen 0
      have g1 := R2.frozen 1
      have g2 := R2.frozen 2
      clear b2 R2 k0 k1 k2
      go_wp2
      refine bodyPost_ret (v := .tuple #[.agg #[.int .i64 0, .int .i64 0, .slice none 0 0], .bool false]) (by simp [results, Try.results47, go_sem, r0, r1, r2]) rfl ⟨none, 0, rfl, OwnI.none_, ?_⟩
      exact ((HB.out.setCell (by simp) _).setCell (by simp) _).setCell (by simp) _
    | true =>
      have HH := Lib.hid (fun W => implHas_is wd hg a l.length c x y true W hh)
      cases hv : cellB v with
      | false =>
        rw [setR_no (by rw [hgd, hh, hv]; rfl)]
        have HV := Lib.hid (fun W => implCell_is v false W hv)
        clear hgd hh hs hv
        go_enter Try.func47, Try.ntmps47
        go_wp2_with fail
        refine HC.out.mono ?_
        rintro e w1 ⟨rfl, b1⟩
        have HX1 := Lib.hid (HX0.out.below b1)
        have HR1 := Lib.hid (HR0.out.below b1)
        have HB1 := Lib.hid (below_then HB0.out b1)
        obtain ⟨k0, k1, k2⟩ := HX1.out.cells
        clear b1
        go_wp2_with fail
        refine (HH.out _).mono ?_
        rintro e w2 ⟨rfl, b2⟩
        have R2 := HR1.out.below b2
        have HB := Lib.hid (below_then HB1.out b2)
        obtain ⟨r0, r1, r2⟩ := R2.cells
        have g0 := R2.frozen 0
        have g1 := R2.frozen 1
        have g2 := R2.frozen 2
        clear b2 R2 k0 k1 k2
        go_wp2_with (go_at_call 65; refine (HV.out _).mono ?_; rintro e w3 ⟨rfl, rfl⟩)
        refine bodyPost_ret (v := .tuple #[.agg #[.int .i64 0, .int .i64 0, .slice none 0 0], .bool false]) (by simp [results, Try.results47, go_sem, r0, r1, r2]) rfl ⟨none, 0, rfl, OwnI.none_, ?_⟩
        exact ((HB.out.setCell (by simp) _).setCell (by simp) _).setCell (by simp) _
      | true =>
        rw [setR_yes (by rw [hgd, hh, hv]; rfl)]
        have HV := Lib.hid (fun W => implCell_is v true W hv)
        obtain ⟨p1, p2, p3, p4⟩ := place_int hs hh
        have hpl := place_lt hgd hh
        have hx := inB_iff.1 hh
        have hx8 := shapeB_iff.1 hs
        have hx0 : 0 ≤ x := hx.1.1
        have hx9 : x ≤ 8 := by omega
        have h64 := good_le hgd
        obtain ⟨WW, HH', rfl, rfl, hW1, hW2, hH1, hH2, hLL⟩ := good_nat hgd
        have HLL := Lib.hid hLL
        have HRO := Lib.hid (fun b o W => rowsOf_any WW HH' b o l.length c W hW1 hW2 hH1 hH2 hLL hcap)
        have HFR := Lib.hid (fun g W C A => fieldOfRows_any g 0 HH' HH' WW (chunks l WW HH') A C W (chunks_length _ _ _) hH1 hH2 hW1 hW2 (chunks_each hLL))
        clear hLL
        generalize place (WW : Int) x y = k at *
        have P1 := Lib.hid p1
        clear hgd hh hs hv p1 p2 hx hx8
        go_enter Try.func47, Try.ntmps47
        go_wp2_with fail
        refine HC.out.mono ?_
        rintro e w1 ⟨rfl, b1⟩
        have HX1 := Lib.hid (HX0.out.below b1)
        have HR1 := Lib.hid (HR0.out.below b1)
        have HB1 := Lib.hid (below_then HB0.out b1)
        have HI1 := Lib.hid (ints_below HI0.out b1)
        obtain ⟨k0, k1, k2⟩ := HX1.out.cells
        have z1 := b1.size
        simp at z1
        clear b1
        go_wp2_with fail
        refine (HH.out _).mono ?_
        rintro e w2 ⟨rfl, b2⟩
        have HX2 := Lib.hid (HX1.out.below b2)
        have HR2 := Lib.hid (HR1.out.below b2)
        have HB2 := Lib.hid (below_then HB1.out b2)
        have HI2 := Lib.hid (ints_below HI1.out b2)
        have z2 := b2.size
        clear b2 k0 k1 k2
        obtain ⟨k0, k1, k2⟩ := HX2.out.cells
        go_wp2_with (first | (go_at_call 65; refine (HV.out _).mono ?_; rintro e w3 ⟨rfl, rfl⟩) | fail)
        obtain ⟨b, o, rfl⟩ : ∃ b o, a = some ⟨b, o, none⟩ := by
          obtain ⟨b, o, h, _⟩ := HI2.out.at_ hpl
          exact ⟨b, o, h⟩
        refine (HRO.out b o _).mono ?_
        rintro e wm ⟨gm, hgm, rfl, rowm, bm⟩
        have hglm := rowm.lt
        have HIm := (ints_below HI2.out bm)
        have HF := Lib.hid (HFR.out gm wm (fun j => c - j * WW) (fun j => some ⟨b, o + j * WW, none⟩) hglm (fun j hj => by rw [Nat.zero_add, rowm.cell hj]; unfold rowV; rw [if_pos hj]) (fun j hj => chunk_ints (c := c) HIm HLL.out j hj))
        rw [chunks_all HLL.out] at HF
        have HXm := Lib.hid (HX2.out.below bm)
        have HRm := Lib.hid (HR2.out.below bm)
        have HBm := Lib.hid (below_then HB2.out bm)
        have zm := bm.size
        clear bm rowm HIm HX2 HR2 HB2 k0 k1 k2
        obtain ⟨k0, k1, k2⟩ := HXm.out.cells
        go_wp2_with fail
        refine HF.out.mono ?_
        rintro e w3 ⟨a3, c3, rfl, o3, b3⟩
        have z3 := b3.size
        have HX3 := HXm.out.below b3
        have HR3 := HRm.out.below b3
        have HB3 := Lib.hid (below_then HBm.out b3)
        clear k0 k1 k2
        obtain ⟨k0, k1, k2⟩ := HX3.cells
        obtain ⟨r0, r1, r2⟩ := HR3.cells
        have g0 := HR3.frozen 0
        have g1 := HR3.frozen 1
        have g2 := HR3.frozen 2
        obtain ⟨g, hg1, hg2⟩ := o3
        rcases hg2 with hnil | ⟨rfl, hrow⟩
        · rw [hnil] at hpl; simp at hpl
        · have hcell := hrow.cell (k := k) (by rw [iv_length]; exact hpl)
          have hfz := hrow.frozen k
          have hglt := hrow.lt
          rw [iv_get] at hcell
          generalize l[k] = z at hcell
          have HROW := Lib.hid (hrow.set k (.int .i64 v))
          rw [iv_set] at HROW
          have hi : (k : Int) < (l.length : Int) := by omega
          have hi0 : (0 : Int) ≤ (k : Int) := by omega
          have p1 := P1.out
          have q0 : w.heap.size + 1 < g := by omega
          have q1 : w.heap.size < w3.heap.size := by omega
          have q2 : ¬ w.heap.size = w3.heap.size := by omega
          have q3 : w.heap.size + 1 < w3.heap.size := by omega
          have q4 : ¬ w.heap.size + 1 = w3.heap.size := by omega
          have q5 : ¬ g = w3.heap.size := by omega
          have q6 : ¬ w3.heap.size = g := by omega
          have q7 : ¬ w.heap.size + 1 = g := by omega
          have q8 : ¬ g = w.heap.size + 1 := by omega
          clear hrow b3 HX3 HR3
          go_wp2
          refine bodyPost_ret (v := .tuple #[.agg #[.int .i64 WW, .int .i64 HH', .slice (some ⟨g, 0, none⟩) l.length c3], .bool true]) (by simp [results, Try.results47, go_sem, r0, r1, r2, q3, q4, q7]) rfl ⟨some ⟨g, 0, none⟩, c3, by simp [rW, rH, rL, rB], ⟨g, by omega, .inr ⟨rfl, ?_⟩⟩, ?_⟩
          · exact (((HROW.out.other (by simp <;> omega) _).other (by simp <;> omega) _).other (by simp <;> omega) _).alloc _
          · exact (((((HB3.out.setCell (by simp <;> omega) _).setCell (by simp) _).setCell (by simp) _).setCell (by simp) _)).alloc (by simp <;> omega) _
end Go.Proofs.Ytdgbhogbapbbgaa
