/- The walk of FnExactCalibrationOf. -/
import Derived.Test.YtjpiiidjocilcaaCalSp
import Derived.Test.YtjpiiidjocilcaaCalC
import Derived.Test.YtjpiiidjocilcaaShLaw
import Derived.Test.YtjpiiidjocilcaaTlLaw
namespace Go.Proofs.Ytjpiiidjocilcaa
open Go.RowKit
set_option linter.unusedVariables false
set_option linter.unusedSimpArgs false
set_option maxRecDepth 100000 in
set_option maxHeartbeats 16000000 in
theorem walk_CalLaw (a0 b0 : Option Addr) (l0 r0 : List Int) (c0 d0 : Nat) (w : World) (hl0 : Ints .i64 w w.heap.size a0 l0) (hr0 : Ints .i64 w w.heap.size b0 r0) (hm0 : l0.length ≤ maxLen) (hn0 : r0.length ≤ maxLen) :
    Calls Try.prog 7 #[.agg #[.slice a0 l0.length c0, .slice b0 r0.length d0]] w fun e w' => e = .returned (.bool true) ∧ Below w.heap.size w w' := by
  have HZ := Lib.hid (fun W => szTally_any a0 b0 l0.length c0 r0.length d0 1048576 W hm0 hn0 (by omega) (by omega))
  by_cases hn : ((l0.length + r0.length : Nat) : Int) ≤ 1048576
  · rw [if_pos hn] at HZ
    have q0 : l0.length ≤ 1048576 := by omega
    have q1 : r0.length ≤ 1048576 := by omega
    have hz : ¬ (1048576 : Int) - ((l0.length + r0.length : Nat) : Int) < 0 := by omega
    generalize (1048576 : Int) - ((l0.length + r0.length : Nat) : Int) = z at *
    have G0 := Lib.hid (below_all w (.cells #[.slice a0 l0.length c0, .slice b0 r0.length d0] 24))
    have HT := Lib.hid (fun W (G : Below w.heap.size w W) => toTally_any a0 b0 l0 r0 c0 d0 W ((hl0.below G (Nat.le_refl _)).more G.size) ((hr0.below G (Nat.le_refl _)).more G.size) q0 q1)
    have HS := Lib.hid (fun p q W (h : Ints .i64 W W.heap.size (some ⟨p, 0, none⟩) l0) (h' : Ints .i64 W W.heap.size (some ⟨q, 0, none⟩) r0) => specCal_any (some ⟨p, 0, none⟩) (some ⟨q, 0, none⟩) l0 r0 l0.length r0.length W h h')
    have HI := Lib.hid (fun p q W (h : Ints .i64 W W.heap.size (some ⟨p, 0, none⟩) l0) (h' : Ints .i64 W W.heap.size (some ⟨q, 0, none⟩) r0) => implCal_any (some ⟨p, 0, none⟩) (some ⟨q, 0, none⟩) l0 r0 l0.length r0.length W h h')
    have HE := Lib.hid (fun p q p' q' W (h : Ints .i64 W W.heap.size (some ⟨p, 0, none⟩) l0) (h' : Ints .i64 W W.heap.size (some ⟨p', 0, none⟩) l0) (k : Ints .i64 W W.heap.size (some ⟨q, 0, none⟩) r0) (k' : Ints .i64 W W.heap.size (some ⟨q', 0, none⟩) r0) => eqTally_yes (some ⟨p, 0, none⟩) (some ⟨p', 0, none⟩) (some ⟨q, 0, none⟩) (some ⟨q', 0, none⟩) l0 r0 l0.length l0.length r0.length r0.length W h h' k k' q0 q1)
    have BX := Lib.hid (fun W (G : Below (w.alloc (.cells #[.slice a0 l0.length c0, .slice b0 r0.length d0] 24)).heap.size (w.alloc (.cells #[.slice a0 l0.length c0, .slice b0 r0.length d0] 24)) W) => show W.cell? ⟨w.heap.size, 0, none⟩ = some (.slice a0 l0.length c0) ∧ W.cell? ⟨w.heap.size, 1, none⟩ = some (.slice b0 r0.length d0) from
      ⟨(G.cell (p := ⟨w.heap.size, 0, none⟩) (by simp)).trans (by simp [go_sem]), (G.cell (p := ⟨w.heap.size, 1, none⟩) (by simp)).trans (by simp [go_sem])⟩)
    have D0 := Lib.hid (Below.refl (w.alloc (.cells #[.slice a0 l0.length c0, .slice b0 r0.length d0] 24)).heap.size (w.alloc (.cells #[.slice a0 l0.length c0, .slice b0 r0.length d0] 24)))
    clear hl0 hr0 hn
    have hr1 : (calL l0 r0).length ≤ 1048576 := Nat.le_trans (calL_len l0 r0) (by omega)
    generalize calL l0 r0 = R at *
    generalize calB l0 r0 = rb at *
    unfold SRet at HS HI
    have er : (rb != rb) = false := by simp
    go_enter Try.func7, Try.ntmps7
    go_wp2_with fail
    refine (HZ.out _).mono ?_
    rintro e w1 ⟨rfl, b1⟩
    have D1 := Lib.hid (D0.out.trans (b1.mono D0.out.size))
    clear D0
    clear b1
    obtain ⟨y0, y1⟩ := BX.out _ D1.out
    go_wp2_with fail
    refine (HT.out _ (G0.out.trans (D1.out.mono G0.out.size))).mono ?_
    rintro e w2 ⟨g2, h2, u2, v2, z2, rfl, p2, k2, b2⟩
    have D2 := Lib.hid (D1.out.trans (b2.mono D1.out.size))
    clear D1
    clear b2
    clear y0 y1
    have P2 := Lib.hid (p2.ints)
    have K2 := Lib.hid (k2.ints)
    clear p2 k2
    go_wp2_with fail
    refine (HS.out _ _ _ P2.out K2.out).mono ?_
    rintro e w3 ⟨aV, cV, rfl, oV, b3⟩
    have VV := Lib.hid (oV.reads)
    have D3 := Lib.hid (D2.out.trans (b3.mono D2.out.size))
    clear D2
    clear b3
    clear oV P2 K2
    have V3 := Lib.hid (Below.refl w3.heap.size w3)
    clear u2 v2 z2
    have s3 := D3.out.size
    obtain ⟨y0, y1⟩ := BX.out _ D3.out
    go_wp2_with fail
    refine (HT.out _ (G0.out.trans (D3.out.mono G0.out.size))).mono ?_
    rintro e w4 ⟨g4, h4, u4, v4, z4, rfl, p4, k4, b4⟩
    have D4 := Lib.hid (D3.out.trans (b4.mono D3.out.size))
    have V4 := Lib.hid (V3.out.trans (b4.mono V3.out.size))
    clear D3 V3
    clear b4
    clear y0 y1
    have P4 := Lib.hid (p4)
    have K4 := Lib.hid (k4)
    clear p4 k4
    have XB := Lib.hid (fun W (G : Below (w4.alloc (.cells #[.slice (some ⟨g4, 0, none⟩) l0.length l0.length, .slice (some ⟨h4, 0, none⟩) r0.length r0.length] 27)).heap.size (w4.alloc (.cells #[.slice (some ⟨g4, 0, none⟩) l0.length l0.length, .slice (some ⟨h4, 0, none⟩) r0.length r0.length] 27)) W) => show W.cell? ⟨w4.heap.size, 0, none⟩ = some (.slice (some ⟨g4, 0, none⟩) l0.length l0.length) ∧ W.cell? ⟨w4.heap.size, 1, none⟩ = some (.slice (some ⟨h4, 0, none⟩) r0.length r0.length) from ⟨(G.cell (p := ⟨w4.heap.size, 0, none⟩) (by simp)).trans (by simp [go_sem]), (G.cell (p := ⟨w4.heap.size, 1, none⟩) (by simp)).trans (by simp [go_sem])⟩)
    have hxs : (w4.alloc (.cells #[.slice (some ⟨g4, 0, none⟩) l0.length l0.length, .slice (some ⟨h4, 0, none⟩) r0.length r0.length] 27)).heap.size = w4.heap.size + 1 := by simp
    have HXS := Lib.hid (hxs)
    clear hxs
    have D4b := Lib.hid (D4.out.alloc D4.out.size (.cells #[.slice (some ⟨g4, 0, none⟩) l0.length l0.length, .slice (some ⟨h4, 0, none⟩) r0.length r0.length] 27))
    have V4b := Lib.hid (V4.out.alloc V4.out.size (.cells #[.slice (some ⟨g4, 0, none⟩) l0.length l0.length, .slice (some ⟨h4, 0, none⟩) r0.length r0.length] 27))
    have P4b := Lib.hid (P4.out.alloc (.cells #[.slice (some ⟨g4, 0, none⟩) l0.length l0.length, .slice (some ⟨h4, 0, none⟩) r0.length r0.length] 27))
    have K4b := Lib.hid (K4.out.alloc (.cells #[.slice (some ⟨g4, 0, none⟩) l0.length l0.length, .slice (some ⟨h4, 0, none⟩) r0.length r0.length] 27))
    clear D4 V4 P4 K4
    have X4b := Lib.hid (Below.refl (w4.alloc (.cells #[.slice (some ⟨g4, 0, none⟩) l0.length l0.length, .slice (some ⟨h4, 0, none⟩) r0.length r0.length] 27)).heap.size (w4.alloc (.cells #[.slice (some ⟨g4, 0, none⟩) l0.length l0.length, .slice (some ⟨h4, 0, none⟩) r0.length r0.length] 27)))
    go_wp2_with fail
    refine (HI.out _ _ _ P4b.out.ints K4b.out.ints).mono ?_
    rintro e w5 ⟨aR, cR, rfl, oR, b5⟩
    have s5 := b5.size
    have D5 := Lib.hid (D4b.out.trans (b5.mono D4b.out.size))
    have V5 := Lib.hid (V4b.out.trans (b5.mono V4b.out.size))
    have P5 := Lib.hid (P4b.out.below b5)
    have K5 := Lib.hid (K4b.out.below b5)
    have X5 := Lib.hid (X4b.out.trans (b5.mono X4b.out.size))
    clear D4b V4b P4b K4b X4b b5
    obtain ⟨gR, hgR, rR⟩ := oR
    have R5 := Lib.hid (rR)
    clear rR
    have hgR2 : w4.heap.size + 1 ≤ gR := by have := HXS.out; omega
    clear hgR
    go_wp2_with fail
    refine (eqShs_yes _ _ R _ _ _ (R5.out.reads) ((VV.out.below V5.out (Nat.le_refl _)).more V5.out.size) hr1).mono ?_
    rintro e w6 ⟨rfl, b6⟩
    have D6 := Lib.hid (D5.out.trans (b6.mono D5.out.size))
    have V6 := Lib.hid (V5.out.trans (b6.mono V5.out.size))
    have P6 := Lib.hid (P5.out.below b6)
    have K6 := Lib.hid (K5.out.below b6)
    have X6 := Lib.hid (X5.out.trans (b6.mono X5.out.size))
    have R6 := Lib.hid (R5.out.below b6)
    clear D5 V5 P5 K5 X5 R5
    clear b6
    go_wp2_with fail
    have Dq := Lib.hid (D6.out.drew)
    have Vq := Lib.hid (V6.out.drew)
    have Pq := Lib.hid (P6.out.below (Drew.below (Drew.more (Drew.refl w6) 1) _))
    have Kq := Lib.hid (K6.out.below (Drew.below (Drew.more (Drew.refl w6) 1) _))
    have Xq := Lib.hid (X6.out.drew)
    have Rq := Lib.hid (R6.out.below (Drew.below (Drew.more (Drew.refl w6) 1) _))
    clear D6 V6 P6 K6 X6 R6
    obtain ⟨y0, y1⟩ := BX.out _ Dq.out
    obtain ⟨z0, z1⟩ := XB.out _ Xq.out
    go_region_held3 (fun w' => (w'.cell? ⟨w.heap.size, 0, none⟩ = some (.slice a0 l0.length c0) ∧ w'.cell? ⟨w.heap.size, 1, none⟩ = some (.slice b0 r0.length d0)) ∧
        (w'.cell? ⟨w4.heap.size, 0, none⟩ = some (.slice (some ⟨g4, 0, none⟩) l0.length l0.length) ∧ w'.cell? ⟨w4.heap.size, 1, none⟩ = some (.slice (some ⟨h4, 0, none⟩) r0.length r0.length)))
      (first | exact ⟨BX.out _ D8.out, XB.out _ X8.out⟩ | exact ⟨BX.out _ D7.out, XB.out _ X7.out⟩ | go_keep)
      (first
        | (go_at_call 15; refine (HT.out _ (G0.out.trans (Dq.out.mono G0.out.size))).mono ?_; rintro e w7 ⟨g7, h7, u7, v7, q7, rfl, p7, k7, b7⟩; have D7 := Lib.hid (Dq.out.trans (b7.mono Dq.out.size)); have V7 := Lib.hid (Vq.out.trans (b7.mono Vq.out.size)); have P7 := Lib.hid (Pq.out.below b7); have K7 := Lib.hid (Kq.out.below b7); have X7 := Lib.hid (Xq.out.trans (b7.mono Xq.out.size)); have R7 := Lib.hid (Rq.out.below b7); have F7 := Lib.hid p7.ints; have M7 := Lib.hid k7.ints; clear p7 k7 b7)
        | (go_at_call 17; refine (HE.out _ _ _ _ _ P7.out.ints F7.out K7.out.ints M7.out).mono ?_; rintro e w8 ⟨rfl, b8⟩; have D8 := Lib.hid (D7.out.trans (b8.mono D7.out.size)); have V8 := Lib.hid (V7.out.trans (b8.mono V7.out.size)); have P8 := Lib.hid (P7.out.below b8); have K8 := Lib.hid (K7.out.below b8); have X8 := Lib.hid (X7.out.trans (b8.mono X7.out.size)); have R8 := Lib.hid (R7.out.below b8); clear b8))
    rename_i hHeld
    clear hHeld y0 y1 z0 z1 F7 M7 Dq D7 Vq V7 Pq P7 Kq K7 Xq X7 Rq R7
    obtain ⟨z0, z1⟩ := XB.out _ X8.out
    go_wp2_with fail
    have hg8 : g4 < w8.heap.size := by have := X8.out.size; have := HXS.out; omega
    have hh8 : h4 < w8.heap.size := by have := X8.out.size; have := HXS.out; omega
    refine (markTally_any _ _ l0 r0 _ _ g4 h4 1 w8 P8.out K8.out (by omega) hg8 hh8 q0 q1 (by omega) (by omega)).mono ?_
    rintro e w9 ⟨rfl, _, _, t9⟩
    have D9 := Lib.hid (D8.out.trans (t9.below D8.out.size (by omega) (by omega)))
    have V9 := Lib.hid (V8.out.trans (t9.below V8.out.size (by omega) (by omega)))
    have R9 := Lib.hid (R8.out.keep (fun hg => t9.2.2.2.2 gR hg (by omega) (by omega)))
    clear D8 V8 P8 K8 X8 R8 t9 z0 z1 HXS XB hg8 hh8
    have hk9 : ¬ (1 : Int) + (l0.length : Int) + (r0.length : Int) < 0 := by omega
    go_wp2_with fail
    refine (eqShs_yes _ _ R _ _ _ (R9.out.reads) ((VV.out.below V9.out (Nat.le_refl _)).more V9.out.size) hr1).mono ?_
    rintro e w10 ⟨rfl, b10⟩
    have D10 := Lib.hid (D9.out.trans (b10.mono D9.out.size))
    have V10 := Lib.hid (V9.out.trans (b10.mono V9.out.size))
    have R10 := Lib.hid (R9.out.below b10)
    clear D9 V9 R9
    clear b10
    go_wp2_with fail
    refine (markShs_any _ R _ gR 1 _ R10.out hr1 (by omega) (by omega)).mono ?_
    rintro e w11 ⟨rfl, m11, o11⟩
    have D11 := Lib.hid (D10.out.trans (o11.below (by omega)))
    have V11 := Lib.hid (V10.out.trans (o11.below (by omega)))
    have R11 := Lib.hid (m11)
    clear D10 V10 R10 m11 o11
    have hm11 : ¬ (1 : Int) + 2 * (R.length : Int) < 0 := by omega
    go_wp2_with fail
    refine (heldShs_any _ R.length _ 1 _ R11.out.reads hr1 (by omega) (by omega)).mono ?_
    rintro e w12 ⟨rfl, rfl⟩
    obtain ⟨y0, y1⟩ := BX.out _ D11.out
    go_wp2_with fail
    refine (HT.out _ (G0.out.trans (D11.out.mono G0.out.size))).mono ?_
    rintro e w13 ⟨g13, h13, u13, v13, z13, rfl, p13, k13, b13⟩
    have D13 := Lib.hid (D11.out.trans (b13.mono D11.out.size))
    have V13 := Lib.hid (V11.out.trans (b13.mono V11.out.size))
    have R13 := Lib.hid (R11.out.below b13)
    clear D11 V11 R11
    clear b13
    clear y0 y1
    have P13 := Lib.hid (p13.ints)
    have K13 := Lib.hid (k13.ints)
    clear p13 k13
    go_wp2_with fail
    refine (HI.out _ _ _ P13.out K13.out).mono ?_
    rintro e w14 ⟨aH, cH, rfl, oH, b14⟩
    have D14 := Lib.hid (D13.out.trans (b14.mono D13.out.size))
    have V14 := Lib.hid (V13.out.trans (b14.mono V13.out.size))
    have R14 := Lib.hid (R13.out.below b14)
    clear D13 V13 R13
    clear b14
    have H14 := Lib.hid (oH.reads)
    clear oH P13 K13
    go_wp2_with fail
    refine (eqShs_yes _ _ R _ _ _ (H14.out) ((VV.out.below V14.out (Nat.le_refl _)).more V14.out.size) hr1).mono ?_
    rintro e w15 ⟨rfl, b15⟩
    have D15 := Lib.hid (D14.out.trans (b15.mono D14.out.size))
    have V15 := Lib.hid (V14.out.trans (b15.mono V14.out.size))
    have R15 := Lib.hid (R14.out.below b15)
    clear D14 V14 R14
    clear b15
    clear H14
    go_wp2_with fail
    refine (heldShs_any _ R.length _ 1 _ R15.out.reads hr1 (by omega) (by omega)).mono ?_
    rintro e w16 ⟨rfl, rfl⟩
    go_wp2
    go_ret
    exact ⟨rfl, G0.out.trans (D15.out.mono G0.out.size)⟩
  · rw [if_neg hn] at HZ
    go_enter Try.func7, Try.ntmps7
    go_wp2_with fail
    refine (HZ.out _).mono ?_
    rintro e w1 ⟨rfl, b1⟩
    have G1 := Lib.hid b1
    clear b1
    go_wp2_with fail
    go_ret
    exact ⟨rfl, below_then (below_all _ _) G1.out⟩
end Go.Proofs.Ytjpiiidjocilcaa
