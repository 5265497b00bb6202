/- The walk of FnExactAddCase. -/
import Derived.Test.YtjpiiidjocilcaaAddCM
import Derived.Test.YtjpiiidjocilcaaAddCI
import Derived.Test.YtjpiiidjocilcaaTlLaw
import Derived.Deep.RegionHeld3
namespace Go.Proofs.Ytjpiiidjocilcaa
open Go.RowKit
set_option linter.unusedVariables false
set_option linter.unusedSimpArgs false
set_option maxRecDepth 100000 in
set_option maxHeartbeats 16000000 in
theorem walk_AddCLaw (a0 b0 : Option Addr) (l0 r0 : List Int) (c0 d0 : Nat) (x1 : Int) (x2 : Bool) (w : World) (hl0 : Ints .i64 w w.heap.size a0 l0) (hr0 : Ints .i64 w w.heap.size b0 r0) (hm0 : l0.length ≤ maxLen) (hn0 : r0.length ≤ maxLen) :
    Calls Try.prog 4 #[.agg #[.slice a0 l0.length c0, .slice b0 r0.length d0], .int .i64 x1, .bool x2] w fun e w' => e = .returned (.bool true) ∧ Below w.heap.size w w' := by
  have HZ := Lib.hid (fun W => szTally_any a0 b0 l0.length c0 r0.length d0 1048576 W hm0 hn0 (by omega) (by omega))
  by_cases hn : ((l0.length + r0.length : Nat) : Int) ≤ 1048576
  · rw [if_pos hn] at HZ
    have q0 : l0.length ≤ 1048576 := by omega
    have q1 : r0.length ≤ 1048576 := by omega
    have hz : ¬ (1048576 : Int) - ((l0.length + r0.length : Nat) : Int) < 0 := by omega
    generalize (1048576 : Int) - ((l0.length + r0.length : Nat) : Int) = z at *
    have G0 := Lib.hid (below_all w (.cells #[.slice a0 l0.length c0, .slice b0 r0.length d0] 24))
    have HT := Lib.hid (fun W (G : Below w.heap.size w W) => toTally_any a0 b0 l0 r0 c0 d0 W ((hl0.below G (Nat.le_refl _)).more G.size) ((hr0.below G (Nat.le_refl _)).more G.size) q0 q1)
    have HS := Lib.hid (fun p q W (h : Ints .i64 W W.heap.size (some ⟨p, 0, none⟩) l0) (h' : Ints .i64 W W.heap.size (some ⟨q, 0, none⟩) r0) => specAddC_any (some ⟨p, 0, none⟩) (some ⟨q, 0, none⟩) l0 r0 l0.length r0.length x1 x2 W h h')
    have HI := Lib.hid (fun p q W (h : Ints .i64 W W.heap.size (some ⟨p, 0, none⟩) l0) (h' : Ints .i64 W W.heap.size (some ⟨q, 0, none⟩) r0) => implAddC_any (some ⟨p, 0, none⟩) (some ⟨q, 0, none⟩) l0 r0 l0.length r0.length x1 x2 W h h')
    have HE := Lib.hid (fun p q p' q' W (h : Ints .i64 W W.heap.size (some ⟨p, 0, none⟩) l0) (h' : Ints .i64 W W.heap.size (some ⟨p', 0, none⟩) l0) (k : Ints .i64 W W.heap.size (some ⟨q, 0, none⟩) r0) (k' : Ints .i64 W W.heap.size (some ⟨q', 0, none⟩) r0) => eqTally_yes (some ⟨p, 0, none⟩) (some ⟨p', 0, none⟩) (some ⟨q, 0, none⟩) (some ⟨q', 0, none⟩) l0 r0 l0.length l0.length r0.length r0.length W h h' k k' q0 q1)
    have BX := Lib.hid (fun W (G : Below (w.alloc (.cells #[.slice a0 l0.length c0, .slice b0 r0.length d0] 24)).heap.size (w.alloc (.cells #[.slice a0 l0.length c0, .slice b0 r0.length d0] 24)) W) => show W.cell? ⟨w.heap.size, 0, none⟩ = some (.slice a0 l0.length c0) ∧ W.cell? ⟨w.heap.size, 1, none⟩ = some (.slice b0 r0.length d0) from
      ⟨(G.cell (p := ⟨w.heap.size, 0, none⟩) (by simp)).trans (by simp [go_sem]), (G.cell (p := ⟨w.heap.size, 1, none⟩) (by simp)).trans (by simp [go_sem])⟩)
    have D0 := Lib.hid (Below.refl (w.alloc (.cells #[.slice a0 l0.length c0, .slice b0 r0.length d0] 24)).heap.size (w.alloc (.cells #[.slice a0 l0.length c0, .slice b0 r0.length d0] 24)))
    clear hl0 hr0 hn
    have hlen := ac_len l0 r0 x1 x2
    generalize acP l0 r0 x1 x2 = Rp at *
    generalize acQ l0 r0 x1 x2 = Rq at *
    generalize acB l0 r0 x1 x2 = rb at *
    obtain ⟨hp1, hq1⟩ := hlen
    have hr1 : Rp.length ≤ 1048576 := by omega
    have hr2 : Rq.length ≤ 1048576 := by omega
    unfold TRet at HS HI
    have er : (rb != rb) = false := by simp
    go_enter Try.func4, Try.ntmps4
    go_wp2_with fail
    refine (HZ.out _).mono ?_
    rintro e w1 ⟨rfl, b1⟩
    have D1 := Lib.hid (D0.out.trans (b1.mono D0.out.size))
    clear D0
    clear b1
    obtain ⟨y0, y1⟩ := BX.out _ D1.out
    go_wp2_with fail
    refine (HT.out _ (G0.out.trans (D1.out.mono G0.out.size))).mono ?_
    rintro e w2 ⟨g2, h2, u2, v2, z2, rfl, p2, k2, b2⟩
    have D2 := Lib.hid (D1.out.trans (b2.mono D1.out.size))
    clear D1
    clear b2 y0 y1
    have P2 := Lib.hid (p2.ints)
    have K2 := Lib.hid (k2.ints)
    clear p2 k2 u2 v2 z2
    go_wp2_with fail
    refine (HS.out _ _ _ P2.out K2.out).mono ?_
    rintro e w3 ⟨aV, cV, fV, dV, gV, hV, rfl, loV, lpV, neV, szV, syV, oaV, obV, b3⟩
    have D3 := Lib.hid (D2.out.trans (b3.mono D2.out.size))
    clear D2
    have VA := Lib.hid (ints_alloc oaV.ints (.cells #[.slice aV Rp.length cV, .slice fV Rq.length dV] 27))
    have VQ := Lib.hid (ints_alloc obV.ints (.cells #[.slice aV Rp.length cV, .slice fV Rq.length dV] 27))
    have D3b := Lib.hid (D3.out.alloc D3.out.size (.cells #[.slice aV Rp.length cV, .slice fV Rq.length dV] 27))
    clear D3
    have WB := Lib.hid (fun W (G : Below (w3.alloc (.cells #[.slice aV Rp.length cV, .slice fV Rq.length dV] 27)).heap.size (w3.alloc (.cells #[.slice aV Rp.length cV, .slice fV Rq.length dV] 27)) W) => show W.cell? ⟨w3.heap.size, 0, none⟩ = some (.slice aV Rp.length cV) ∧ W.cell? ⟨w3.heap.size, 1, none⟩ = some (.slice fV Rq.length dV) from
      ⟨(G.cell (p := ⟨w3.heap.size, 0, none⟩) (by simp)).trans (by simp [go_sem]), (G.cell (p := ⟨w3.heap.size, 1, none⟩) (by simp)).trans (by simp [go_sem])⟩)
    have V3b := Lib.hid (Below.refl (w3.alloc (.cells #[.slice aV Rp.length cV, .slice fV Rq.length dV] 27)).heap.size (w3.alloc (.cells #[.slice aV Rp.length cV, .slice fV Rq.length dV] 27)))
    have s3 := D3b.out.size
    clear b3 P2 K2 loV lpV neV szV syV oaV obV
    obtain ⟨y0, y1⟩ := BX.out _ D3b.out
    go_wp2_with fail
    generalize w3.alloc (.cells #[.slice aV Rp.length cV, .slice fV Rq.length dV] 27) = w3b at *
    refine (HT.out _ (G0.out.trans (D3b.out.mono G0.out.size))).mono ?_
    rintro e w4 ⟨g4, h4, u4, v4, z4, rfl, p4, k4, b4⟩
    have D4 := Lib.hid (D3b.out.trans (b4.mono D3b.out.size))
    have V4 := Lib.hid (V3b.out.trans (b4.mono V3b.out.size))
    clear D3b V3b
    clear b4 y0 y1
    have P4 := Lib.hid (p4)
    have K4 := Lib.hid (k4)
    clear p4 k4
    have XB := Lib.hid (fun W (G : Below (w4.alloc (.cells #[.slice (some ⟨g4, 0, none⟩) l0.length l0.length, .slice (some ⟨h4, 0, none⟩) r0.length r0.length] 27)).heap.size (w4.alloc (.cells #[.slice (some ⟨g4, 0, none⟩) l0.length l0.length, .slice (some ⟨h4, 0, none⟩) r0.length r0.length] 27)) W) => show W.cell? ⟨w4.heap.size, 0, none⟩ = some (.slice (some ⟨g4, 0, none⟩) l0.length l0.length) ∧ W.cell? ⟨w4.heap.size, 1, none⟩ = some (.slice (some ⟨h4, 0, none⟩) r0.length r0.length) from
      ⟨(G.cell (p := ⟨w4.heap.size, 0, none⟩) (by simp)).trans (by simp [go_sem]), (G.cell (p := ⟨w4.heap.size, 1, none⟩) (by simp)).trans (by simp [go_sem])⟩)
    have hxs : (w4.alloc (.cells #[.slice (some ⟨g4, 0, none⟩) l0.length l0.length, .slice (some ⟨h4, 0, none⟩) r0.length r0.length] 27)).heap.size = w4.heap.size + 1 := by simp
    have HXS := Lib.hid (hxs)
    clear hxs
    have D4b := Lib.hid (D4.out.alloc D4.out.size (.cells #[.slice (some ⟨g4, 0, none⟩) l0.length l0.length, .slice (some ⟨h4, 0, none⟩) r0.length r0.length] 27))
    have V4b := Lib.hid (V4.out.alloc V4.out.size (.cells #[.slice (some ⟨g4, 0, none⟩) l0.length l0.length, .slice (some ⟨h4, 0, none⟩) r0.length r0.length] 27))
    have P4b := Lib.hid (P4.out.below (below_all w4 (.cells #[.slice (some ⟨g4, 0, none⟩) l0.length l0.length, .slice (some ⟨h4, 0, none⟩) r0.length r0.length] 27)))
    have K4b := Lib.hid (K4.out.below (below_all w4 (.cells #[.slice (some ⟨g4, 0, none⟩) l0.length l0.length, .slice (some ⟨h4, 0, none⟩) r0.length r0.length] 27)))
    clear D4 V4 P4 K4
    have X4b := Lib.hid (Below.refl (w4.alloc (.cells #[.slice (some ⟨g4, 0, none⟩) l0.length l0.length, .slice (some ⟨h4, 0, none⟩) r0.length r0.length] 27)).heap.size (w4.alloc (.cells #[.slice (some ⟨g4, 0, none⟩) l0.length l0.length, .slice (some ⟨h4, 0, none⟩) r0.length r0.length] 27)))
    go_wp2_with fail
    refine (HI.out _ _ _ P4b.out.ints K4b.out.ints).mono ?_
    rintro e w5 ⟨aR, cR, fR, dR, gR, hR, rfl, loR, lpR, neR, szR, syR, oaR, obR, b5⟩
    have s5 := b5.size
    have D5 := Lib.hid (D4b.out.trans (b5.mono D4b.out.size))
    have V5 := Lib.hid (V4b.out.trans (b5.mono V4b.out.size))
    have P5 := Lib.hid (P4b.out.below b5)
    have K5 := Lib.hid (K4b.out.below b5)
    have X5 := Lib.hid (X4b.out.trans (b5.mono X4b.out.size))
    clear D4b V4b P4b K4b X4b
    clear b5
    have hgR : w4.heap.size + 1 ≤ gR := by have := HXS.out; omega
    have hhR : w4.heap.size + 1 ≤ hR := by have := HXS.out; omega
    have R5 := Lib.hid (oaR)
    have Q5 := Lib.hid (obR)
    clear oaR obR
    have D5b := Lib.hid (D5.out.alloc D5.out.size (.cells #[.slice aR Rp.length cR, .slice fR Rq.length dR] 27))
    have V5b := Lib.hid (V5.out.alloc V5.out.size (.cells #[.slice aR Rp.length cR, .slice fR Rq.length dR] 27))
    have P5b := Lib.hid (P5.out.below (below_all w5 (.cells #[.slice aR Rp.length cR, .slice fR Rq.length dR] 27)))
    have K5b := Lib.hid (K5.out.below (below_all w5 (.cells #[.slice aR Rp.length cR, .slice fR Rq.length dR] 27)))
    have X5b := Lib.hid (X5.out.alloc X5.out.size (.cells #[.slice aR Rp.length cR, .slice fR Rq.length dR] 27))
    have R5b := Lib.hid (R5.out.below (below_all w5 (.cells #[.slice aR Rp.length cR, .slice fR Rq.length dR] 27)))
    have Q5b := Lib.hid (Q5.out.below (below_all w5 (.cells #[.slice aR Rp.length cR, .slice fR Rq.length dR] 27)))
    clear D5 V5 P5 K5 X5 R5 Q5
    have B5b := Lib.hid (Box2.new w5 27 (.slice aR Rp.length cR) (.slice fR Rq.length dR))
    obtain ⟨i0, i1⟩ := B5b.out.cells
    obtain ⟨j0, j1⟩ := WB.out _ V5b.out
    go_wp2_with fail
    generalize w5.alloc (.cells #[.slice aR Rp.length cR, .slice fR Rq.length dR] 27) = w5b at *
    refine (eqTally_yes aR aV fR fV Rp Rq cR cV dR dV _ R5b.out.ints ((VA.out.below V5b.out (Nat.le_refl _)).more V5b.out.size) Q5b.out.ints ((VQ.out.below V5b.out (Nat.le_refl _)).more V5b.out.size) hr1 hr2).mono ?_
    rintro e w6 ⟨rfl, b6⟩
    have D6 := Lib.hid (D5b.out.trans (b6.mono D5b.out.size))
    have V6 := Lib.hid (V5b.out.trans (b6.mono V5b.out.size))
    have P6 := Lib.hid (P5b.out.below b6)
    have K6 := Lib.hid (K5b.out.below b6)
    have X6 := Lib.hid (X5b.out.trans (b6.mono X5b.out.size))
    have R6 := Lib.hid (R5b.out.below b6)
    have Q6 := Lib.hid (Q5b.out.below b6)
    have B6 := Lib.hid (B5b.out.below b6)
    clear D5b V5b P5b K5b X5b R5b Q5b B5b
    clear b6
    clear i0 i1 j0 j1
    go_wp2_with fail
    have Dq := Lib.hid (D6.out.drew)
    have Vq := Lib.hid (V6.out.drew)
    have Pq := Lib.hid (P6.out.below (Drew.below (Drew.more (Drew.refl w6) 1) _))
    have Kq := Lib.hid (K6.out.below (Drew.below (Drew.more (Drew.refl w6) 1) _))
    have Xq := Lib.hid (X6.out.drew)
    have Rq := Lib.hid (R6.out.below (Drew.below (Drew.more (Drew.refl w6) 1) _))
    have Qq := Lib.hid (Q6.out.below (Drew.below (Drew.more (Drew.refl w6) 1) _))
    have Bq := Lib.hid (B6.out.below (Drew.below (Drew.more (Drew.refl w6) 1) _))
    clear D6 V6 P6 K6 X6 R6 Q6 B6
    obtain ⟨y0, y1⟩ := BX.out _ Dq.out
    obtain ⟨z0, z1⟩ := XB.out _ Xq.out
    go_region_held3 (fun w' => (w'.cell? ⟨w.heap.size, 0, none⟩ = some (.slice a0 l0.length c0) ∧ w'.cell? ⟨w.heap.size, 1, none⟩ = some (.slice b0 r0.length d0)) ∧
        (w'.cell? ⟨w4.heap.size, 0, none⟩ = some (.slice (some ⟨g4, 0, none⟩) l0.length l0.length) ∧ w'.cell? ⟨w4.heap.size, 1, none⟩ = some (.slice (some ⟨h4, 0, none⟩) r0.length r0.length)))
      (first | exact ⟨BX.out _ D8.out, XB.out _ X8.out⟩ | exact ⟨BX.out _ D7.out, XB.out _ X7.out⟩ | go_keep)
      (first
        | (go_at_call 15; refine (HT.out _ (G0.out.trans (Dq.out.mono G0.out.size))).mono ?_; rintro e w7 ⟨g7, h7, u7, v7, q7, rfl, p7, k7, b7⟩; have D7 := Lib.hid (Dq.out.trans (b7.mono Dq.out.size)); have V7 := Lib.hid (Vq.out.trans (b7.mono Vq.out.size)); have P7 := Lib.hid (Pq.out.below b7); have K7 := Lib.hid (Kq.out.below b7); have X7 := Lib.hid (Xq.out.trans (b7.mono Xq.out.size)); have R7 := Lib.hid (Rq.out.below b7); have Q7 := Lib.hid (Qq.out.below b7); have B7 := Lib.hid (Bq.out.below b7); have F7 := Lib.hid p7.ints; have M7 := Lib.hid k7.ints; clear p7 k7 b7)
        | (go_at_call 17; refine (HE.out _ _ _ _ _ P7.out.ints F7.out K7.out.ints M7.out).mono ?_; rintro e w8 ⟨rfl, b8⟩; have D8 := Lib.hid (D7.out.trans (b8.mono D7.out.size)); have V8 := Lib.hid (V7.out.trans (b8.mono V7.out.size)); have P8 := Lib.hid (P7.out.below b8); have K8 := Lib.hid (K7.out.below b8); have X8 := Lib.hid (X7.out.trans (b8.mono X7.out.size)); have R8 := Lib.hid (R7.out.below b8); have Q8 := Lib.hid (Q7.out.below b8); have B8 := Lib.hid (B7.out.below b8); clear b8))
    rename_i hHeld
    clear hHeld y0 y1 z0 z1 F7 M7 Dq D7 Vq V7 Pq P7 Kq K7 Xq X7 Rq R7 Qq Q7 Bq B7
    obtain ⟨z0, z1⟩ := XB.out _ X8.out
    go_wp2_with fail
    have hg8 : g4 < w8.heap.size := by have := X8.out.size; have := HXS.out; omega
    have hh8 : h4 < w8.heap.size := by have := X8.out.size; have := HXS.out; omega
    refine (markTally_any _ _ l0 r0 _ _ g4 h4 1 w8 P8.out K8.out (by omega) hg8 hh8 q0 q1 (by omega) (by omega)).mono ?_
    rintro e w9 ⟨rfl, _, _, t9⟩
    clear P8 K8 X8
    have D9 := Lib.hid (D8.out.trans (t9.below D8.out.size (by omega) (by omega)))
    have V9 := Lib.hid (V8.out.trans (t9.below V8.out.size (by omega) (by omega)))
    have R9 := Lib.hid (R8.out.keep (fun hg => t9.2.2.2.2 gR hg (by omega) (by omega)))
    have Q9 := Lib.hid (Q8.out.keep (fun hg => t9.2.2.2.2 hR hg (by omega) (by omega)))
    have B9 := Lib.hid (show Box2 w9 w5.heap.size 27 (.slice aR Rp.length cR) (.slice fR Rq.length dR) from (t9.2.2.2.2 _ B8.out.lt (by omega) (by omega)).trans B8.out)
    clear D8 V8 R8 Q8 B8
    clear t9 z0 z1 XB hg8 hh8
    have hk9 : ¬ (1 : Int) + (l0.length : Int) + (r0.length : Int) < 0 := by omega
    obtain ⟨i0, i1⟩ := B9.out.cells
    obtain ⟨j0, j1⟩ := WB.out _ V9.out
    go_wp2_with fail
    refine (eqTally_yes aR aV fR fV Rp Rq cR cV dR dV _ R9.out.ints ((VA.out.below V9.out (Nat.le_refl _)).more V9.out.size) Q9.out.ints ((VQ.out.below V9.out (Nat.le_refl _)).more V9.out.size) hr1 hr2).mono ?_
    rintro e w10 ⟨rfl, b10⟩
    have D10 := Lib.hid (D9.out.trans (b10.mono D9.out.size))
    have V10 := Lib.hid (V9.out.trans (b10.mono V9.out.size))
    have R10 := Lib.hid (R9.out.below b10)
    have Q10 := Lib.hid (Q9.out.below b10)
    have B10 := Lib.hid (B9.out.below b10)
    clear D9 V9 R9 Q9 B9
    clear b10
    clear i0 i1 j0 j1
    obtain ⟨i0, i1⟩ := B10.out.cells
    go_wp2_with fail
    have hg10 : gR < w10.heap.size := by have := B10.out.lt; omega
    have hh10 : hR < w10.heap.size := by have := B10.out.lt; omega
    refine (markTally_any _ _ Rp Rq _ _ gR hR 1 w10 R10.out Q10.out neR hg10 hh10 hr1 hr2 (by omega) (by omega)).mono ?_
    rintro e w11 ⟨rfl, m11, n11, t11⟩
    clear R10 Q10
    have D11 := Lib.hid (D10.out.trans (t11.below D10.out.size (by omega) (by omega)))
    have V11 := Lib.hid (V10.out.trans (t11.below V10.out.size (by omega) (by omega)))
    have B11 := Lib.hid (show Box2 w11 w5.heap.size 27 (.slice aR Rp.length cR) (.slice fR Rq.length dR) from (t11.2.2.2.2 _ B10.out.lt (by omega) (by omega)).trans B10.out)
    clear D10 V10 B10
    clear t11 i0 i1 hg10 hh10
    have R11 := Lib.hid (m11)
    have Q11 := Lib.hid (n11)
    clear m11 n11
    have hm11 : ¬ (1 : Int) + (Rp.length : Int) + (Rq.length : Int) < 0 := by omega
    obtain ⟨i0, i1⟩ := B11.out.cells
    go_wp2_with fail
    refine (heldTally_any aR fR Rp.length cR Rq.length dR 1 _ R11.out.ints Q11.out.ints hr1 hr2 (by omega) (by omega)).mono ?_
    rintro e w12 ⟨rfl, b12⟩
    have D12 := Lib.hid (D11.out.trans (b12.mono D11.out.size))
    have V12 := Lib.hid (V11.out.trans (b12.mono V11.out.size))
    have B12 := Lib.hid (B11.out.below b12)
    have R12 := Lib.hid (R11.out.below b12)
    have Q12 := Lib.hid (Q11.out.below b12)
    clear D11 V11 B11 R11 Q11
    clear b12 i0 i1
    obtain ⟨y0, y1⟩ := BX.out _ D12.out
    go_wp2_with fail
    refine (HT.out _ (G0.out.trans (D12.out.mono G0.out.size))).mono ?_
    rintro e w13 ⟨g13, h13, u13, v13, z13, rfl, p13, k13, b13⟩
    have D13 := Lib.hid (D12.out.trans (b13.mono D12.out.size))
    have V13 := Lib.hid (V12.out.trans (b13.mono V12.out.size))
    have B13 := Lib.hid (B12.out.below b13)
    have R13 := Lib.hid (R12.out.below b13)
    have Q13 := Lib.hid (Q12.out.below b13)
    clear D12 V12 B12 R12 Q12
    clear b13 y0 y1
    have P13 := Lib.hid (p13.ints)
    have K13 := Lib.hid (k13.ints)
    clear p13 k13 u13 v13 z13
    go_wp2_with fail
    refine (HI.out _ _ _ P13.out K13.out).mono ?_
    rintro e w14 ⟨aH, cH, fH, dH, gH, hH, rfl, loH, lpH, neH, szH, syH, oaH, obH, b14⟩
    have D14 := Lib.hid (D13.out.trans (b14.mono D13.out.size))
    have V14 := Lib.hid (V13.out.trans (b14.mono V13.out.size))
    have B14 := Lib.hid (B13.out.below b14)
    have R14 := Lib.hid (R13.out.below b14)
    have Q14 := Lib.hid (Q13.out.below b14)
    clear D13 V13 B13 R13 Q13
    clear b14 P13 K13
    have HA := Lib.hid (ints_alloc oaH.ints (.cells #[.slice aH Rp.length cH, .slice fH Rq.length dH] 27))
    have HQ_ := Lib.hid (ints_alloc obH.ints (.cells #[.slice aH Rp.length cH, .slice fH Rq.length dH] 27))
    have D14b := Lib.hid (D14.out.alloc D14.out.size (.cells #[.slice aH Rp.length cH, .slice fH Rq.length dH] 27))
    have V14b := Lib.hid (V14.out.alloc V14.out.size (.cells #[.slice aH Rp.length cH, .slice fH Rq.length dH] 27))
    have B14b := Lib.hid (B14.out.below (below_all w14 (.cells #[.slice aH Rp.length cH, .slice fH Rq.length dH] 27)))
    have R14b := Lib.hid (R14.out.below (below_all w14 (.cells #[.slice aH Rp.length cH, .slice fH Rq.length dH] 27)))
    have Q14b := Lib.hid (Q14.out.below (below_all w14 (.cells #[.slice aH Rp.length cH, .slice fH Rq.length dH] 27)))
    clear D14 V14 B14 R14 Q14
    have HB := Lib.hid (Box2.new w14 27 (.slice aH Rp.length cH) (.slice fH Rq.length dH))
    clear oaH obH loH lpH neH szH syH
    obtain ⟨j0, j1⟩ := WB.out _ V14b.out
    obtain ⟨i0, i1⟩ := HB.out.cells
    go_wp2_with fail
    generalize w14.alloc (.cells #[.slice aH Rp.length cH, .slice fH Rq.length dH] 27) = w14b at *
    refine (eqTally_yes aH aV fH fV Rp Rq cH cV dH dV _ HA.out ((VA.out.below V14b.out (Nat.le_refl _)).more V14b.out.size) HQ_.out ((VQ.out.below V14b.out (Nat.le_refl _)).more V14b.out.size) hr1 hr2).mono ?_
    rintro e w15 ⟨rfl, b15⟩
    have D15 := Lib.hid (D14b.out.trans (b15.mono D14b.out.size))
    have V15 := Lib.hid (V14b.out.trans (b15.mono V14b.out.size))
    have B15 := Lib.hid (B14b.out.below b15)
    have R15 := Lib.hid (R14b.out.below b15)
    have Q15 := Lib.hid (Q14b.out.below b15)
    clear D14b V14b B14b R14b Q14b
    clear b15
    clear i0 i1 j0 j1 HA HQ_ HB
    obtain ⟨i0, i1⟩ := B15.out.cells
    go_wp2_with fail
    refine (heldTally_any aR fR Rp.length cR Rq.length dR 1 _ R15.out.ints Q15.out.ints hr1 hr2 (by omega) (by omega)).mono ?_
    rintro e w16 ⟨rfl, b16⟩
    go_wp2
    go_ret
    exact ⟨rfl, G0.out.trans ((D15.out.trans (b16.mono D15.out.size)).mono G0.out.size)⟩
  · rw [if_neg hn] at HZ
    go_enter Try.func4, Try.ntmps4
    go_wp2_with fail
    refine (HZ.out _).mono ?_
    rintro e w1 ⟨rfl, b1⟩
    have G1 := Lib.hid b1
    clear b1
    go_wp2_with fail
    go_ret
    exact ⟨rfl, below_then (below_all _ _) G1.out⟩
end Go.Proofs.Ytjpiiidjocilcaa
