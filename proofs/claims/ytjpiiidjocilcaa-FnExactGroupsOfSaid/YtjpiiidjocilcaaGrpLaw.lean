/- The walk of FnExactGroupsOf. -/
import Derived.Test.YtjpiiidjocilcaaGrpS
import Derived.Test.YtjpiiidjocilcaaGrpI
import Derived.Test.YtjpiiidjocilcaaTlLaw
namespace Go.Proofs.Ytjpiiidjocilcaa
open Go.RowKit
set_option linter.unusedVariables false
set_option linter.unusedSimpArgs false
set_option maxRecDepth 100000 in
set_option maxHeartbeats 16000000 in
theorem walk_GrpLaw (a0 b0 : Option Addr) (l0 r0 : List Int) (c0 d0 : Nat) (w : World) (hl0 : Ints .i64 w w.heap.size a0 l0) (hr0 : Ints .i64 w w.heap.size b0 r0) (hm0 : l0.length ≤ maxLen) (hn0 : r0.length ≤ maxLen) :
    Calls Try.prog 8 #[.agg #[.slice a0 l0.length c0, .slice b0 r0.length d0]] w fun e w' => e = .returned (.bool true) ∧ Below w.heap.size w w' := by
  have HZ := Lib.hid (fun W => szTally_any a0 b0 l0.length c0 r0.length d0 1048576 W hm0 hn0 (by omega) (by omega))
  by_cases hn : ((l0.length + r0.length : Nat) : Int) ≤ 1048576
  · rw [if_pos hn] at HZ
    have q0 : l0.length ≤ 1048576 := by omega
    have q1 : r0.length ≤ 1048576 := by omega
    have hz : ¬ (1048576 : Int) - ((l0.length + r0.length : Nat) : Int) < 0 := by omega
    generalize (1048576 : Int) - ((l0.length + r0.length : Nat) : Int) = z at *
    have G0 := Lib.hid (below_all w (.cells #[.slice a0 l0.length c0, .slice b0 r0.length d0] 24))
    have HT := Lib.hid (fun W (G : Below w.heap.size w W) => toTally_any a0 b0 l0 r0 c0 d0 W ((hl0.below G (Nat.le_refl _)).more G.size) ((hr0.below G (Nat.le_refl _)).more G.size) q0 q1)
    have HS := Lib.hid (fun p q W (h : Ints .i64 W W.heap.size (some ⟨p, 0, none⟩) l0) (h' : Ints .i64 W W.heap.size (some ⟨q, 0, none⟩) r0) => specGrpOf_any (some ⟨p, 0, none⟩) (some ⟨q, 0, none⟩) l0 r0 l0.length r0.length W h h')
    have HI := Lib.hid (fun p q W (h : Ints .i64 W W.heap.size (some ⟨p, 0, none⟩) l0) (h' : Ints .i64 W W.heap.size (some ⟨q, 0, none⟩) r0) => implGrp_any (some ⟨p, 0, none⟩) (some ⟨q, 0, none⟩) l0 r0 l0.length r0.length W h h')
    have HE := Lib.hid (fun p q p' q' W (h : Ints .i64 W W.heap.size (some ⟨p, 0, none⟩) l0) (h' : Ints .i64 W W.heap.size (some ⟨p', 0, none⟩) l0) (k : Ints .i64 W W.heap.size (some ⟨q, 0, none⟩) r0) (k' : Ints .i64 W W.heap.size (some ⟨q', 0, none⟩) r0) => eqTally_yes (some ⟨p, 0, none⟩) (some ⟨p', 0, none⟩) (some ⟨q, 0, none⟩) (some ⟨q', 0, none⟩) l0 r0 l0.length l0.length r0.length r0.length W h h' k k' q0 q1)
    have BX := Lib.hid (fun W (G : Below (w.alloc (.cells #[.slice a0 l0.length c0, .slice b0 r0.length d0] 24)).heap.size (w.alloc (.cells #[.slice a0 l0.length c0, .slice b0 r0.length d0] 24)) W) => show W.cell? ⟨w.heap.size, 0, none⟩ = some (.slice a0 l0.length c0) ∧ W.cell? ⟨w.heap.size, 1, none⟩ = some (.slice b0 r0.length d0) from
      ⟨(G.cell (p := ⟨w.heap.size, 0, none⟩) (by simp)).trans (by simp [go_sem]), (G.cell (p := ⟨w.heap.size, 1, none⟩) (by simp)).trans (by simp [go_sem])⟩)
    have D0 := Lib.hid (Below.refl (w.alloc (.cells #[.slice a0 l0.length c0, .slice b0 r0.length d0] 24)).heap.size (w.alloc (.cells #[.slice a0 l0.length c0, .slice b0 r0.length d0] 24)))
    clear hl0 hr0 hn
    have HROW := Lib.hid (show ∀ s ∈ grpR l0 r0, 0 < s.length ∧ s.length ≤ 1048576 from fun s hs => ⟨(grp_rows l0 r0 s hs).1, Nat.le_trans (grp_rows l0 r0 s hs).2 (by omega)⟩)
    have hflat : (grpR l0 r0).flatten.length ≤ 1048575 := Nat.le_trans (grp_flat l0 r0) (by omega)
    have hr1 : (grpR l0 r0).length ≤ 1048576 := Nat.le_trans (grp_len l0 r0) (by omega)
    generalize grpR l0 r0 = R at *
    generalize tlB l0 r0 = rb at *
    unfold TabPost at HS HI
    obtain ⟨tot, htot⟩ : ∃ q, R.flatten.length = q := ⟨_, rfl⟩
    have HTOT := Lib.hid htot
    rw [htot] at hflat
    clear htot
    have er : (rb != rb) = false := by simp
    go_enter Try.func8, Try.ntmps8
    go_wp2_with fail
    refine (HZ.out _).mono ?_
    rintro e w1 ⟨rfl, b1⟩
    have D1 := Lib.hid (D0.out.trans (b1.mono D0.out.size))
    clear D0
    clear b1
    obtain ⟨y0, y1⟩ := BX.out _ D1.out
    go_wp2_with fail
    refine (HT.out _ (G0.out.trans (D1.out.mono G0.out.size))).mono ?_
    rintro e w2 ⟨g2, h2, u2, v2, z2, rfl, p2, k2, b2⟩
    have D2 := Lib.hid (D1.out.trans (b2.mono D1.out.size))
    clear D1
    clear b2
    clear y0 y1
    have P2 := Lib.hid (p2.ints)
    have K2 := Lib.hid (k2.ints)
    clear p2 k2
    go_wp2_with fail
    refine (HS.out _ _ _ P2.out K2.out).mono ?_
    rintro e w3 ⟨aV, cV, EV, rfl, oV, b3⟩
    have VV := Lib.hid (oV)
    have D3 := Lib.hid (D2.out.trans (b3.mono D2.out.size))
    clear D2
    clear b3
    clear oV P2 K2
    have V3 := Lib.hid (Below.refl w3.heap.size w3)
    clear u2 v2 z2
    have s3 := D3.out.size
    obtain ⟨y0, y1⟩ := BX.out _ D3.out
    go_wp2_with fail
    refine (HT.out _ (G0.out.trans (D3.out.mono G0.out.size))).mono ?_
    rintro e w4 ⟨g4, h4, u4, v4, z4, rfl, p4, k4, b4⟩
    have D4 := Lib.hid (D3.out.trans (b4.mono D3.out.size))
    have V4 := Lib.hid (V3.out.trans (b4.mono V3.out.size))
    clear D3 V3
    clear b4
    clear y0 y1
    have P4 := Lib.hid (p4)
    have K4 := Lib.hid (k4)
    clear p4 k4
    have hd4 := D4.out.size
    have hv4 := V4.out.size
    have XB := Lib.hid (fun W (G : Below (w4.alloc (.cells #[.slice (some ⟨g4, 0, none⟩) l0.length l0.length, .slice (some ⟨h4, 0, none⟩) r0.length r0.length] 27)).heap.size (w4.alloc (.cells #[.slice (some ⟨g4, 0, none⟩) l0.length l0.length, .slice (some ⟨h4, 0, none⟩) r0.length r0.length] 27)) W) => show W.cell? ⟨w4.heap.size, 0, none⟩ = some (.slice (some ⟨g4, 0, none⟩) l0.length l0.length) ∧ W.cell? ⟨w4.heap.size, 1, none⟩ = some (.slice (some ⟨h4, 0, none⟩) r0.length r0.length) from ⟨(G.cell (p := ⟨w4.heap.size, 0, none⟩) (by simp)).trans (by simp [go_sem]), (G.cell (p := ⟨w4.heap.size, 1, none⟩) (by simp)).trans (by simp [go_sem])⟩)
    have hxs : (w4.alloc (.cells #[.slice (some ⟨g4, 0, none⟩) l0.length l0.length, .slice (some ⟨h4, 0, none⟩) r0.length r0.length] 27)).heap.size = w4.heap.size + 1 := by simp
    have HXS := Lib.hid (hxs)
    clear hxs
    have D4b := Lib.hid (D4.out.alloc D4.out.size (.cells #[.slice (some ⟨g4, 0, none⟩) l0.length l0.length, .slice (some ⟨h4, 0, none⟩) r0.length r0.length] 27))
    have V4b := Lib.hid (V4.out.alloc V4.out.size (.cells #[.slice (some ⟨g4, 0, none⟩) l0.length l0.length, .slice (some ⟨h4, 0, none⟩) r0.length r0.length] 27))
    have P4b := Lib.hid (P4.out.alloc (.cells #[.slice (some ⟨g4, 0, none⟩) l0.length l0.length, .slice (some ⟨h4, 0, none⟩) r0.length r0.length] 27))
    have K4b := Lib.hid (K4.out.alloc (.cells #[.slice (some ⟨g4, 0, none⟩) l0.length l0.length, .slice (some ⟨h4, 0, none⟩) r0.length r0.length] 27))
    clear D4 V4 P4 K4
    have X4b := Lib.hid (Below.refl (w4.alloc (.cells #[.slice (some ⟨g4, 0, none⟩) l0.length l0.length, .slice (some ⟨h4, 0, none⟩) r0.length r0.length] 27)).heap.size (w4.alloc (.cells #[.slice (some ⟨g4, 0, none⟩) l0.length l0.length, .slice (some ⟨h4, 0, none⟩) r0.length r0.length] 27)))
    go_wp2_with fail
    refine (HI.out _ _ _ P4b.out.ints K4b.out.ints).mono ?_
    rintro e w5 ⟨aR, cR, ER, rfl, oR, b5⟩
    have s5 := b5.size
    have D5 := Lib.hid (D4b.out.trans (b5.mono D4b.out.size))
    have V5 := Lib.hid (V4b.out.trans (b5.mono V4b.out.size))
    have P5 := Lib.hid (P4b.out.below b5)
    have K5 := Lib.hid (K4b.out.below b5)
    have X5 := Lib.hid (X4b.out.trans (b5.mono X4b.out.size))
    clear D4b V4b P4b K4b X4b b5
    have RT := Lib.hid (oR)
    clear oR
    have U5 := Lib.hid (Below.refl w5.heap.size w5)
    go_wp2_with fail
    refine (eqIntSS_yes _ _ _ _ R _ _ _ _ _ _ _ (RT.out.below U5.out (Nat.le_refl _)) (VV.out.below V5.out (Nat.le_refl _)) hr1 (fun s hs => (HROW.out s hs).2)).mono ?_
    rintro e w6 ⟨rfl, d6⟩
    have b6 := d6.below w5.heap.size
    clear d6
    have D6 := Lib.hid (D5.out.trans (b6.mono D5.out.size))
    have V6 := Lib.hid (V5.out.trans (b6.mono V5.out.size))
    have P6 := Lib.hid (P5.out.below b6)
    have K6 := Lib.hid (K5.out.below b6)
    have X6 := Lib.hid (X5.out.trans (b6.mono X5.out.size))
    have U6 := Lib.hid (U5.out.trans (b6.mono U5.out.size))
    clear D5 V5 P5 K5 X5 U5
    clear b6
    go_wp2_with fail
    have Dq := Lib.hid (D6.out.drew)
    have Vq := Lib.hid (V6.out.drew)
    have Pq := Lib.hid (P6.out.below (Drew.below (Drew.more (Drew.refl w6) 1) _))
    have Kq := Lib.hid (K6.out.below (Drew.below (Drew.more (Drew.refl w6) 1) _))
    have Xq := Lib.hid (X6.out.drew)
    have Uq := Lib.hid (U6.out.drew)
    clear D6 V6 P6 K6 X6 U6
    obtain ⟨y0, y1⟩ := BX.out _ Dq.out
    obtain ⟨z0, z1⟩ := XB.out _ Xq.out
    go_region_held3 (fun w' => (w'.cell? ⟨w.heap.size, 0, none⟩ = some (.slice a0 l0.length c0) ∧ w'.cell? ⟨w.heap.size, 1, none⟩ = some (.slice b0 r0.length d0)) ∧
        (w'.cell? ⟨w4.heap.size, 0, none⟩ = some (.slice (some ⟨g4, 0, none⟩) l0.length l0.length) ∧ w'.cell? ⟨w4.heap.size, 1, none⟩ = some (.slice (some ⟨h4, 0, none⟩) r0.length r0.length)))
      (first | exact ⟨BX.out _ D8.out, XB.out _ X8.out⟩ | exact ⟨BX.out _ D7.out, XB.out _ X7.out⟩ | go_keep)
      (first
        | (go_at_call 15; refine (HT.out _ (G0.out.trans (Dq.out.mono G0.out.size))).mono ?_; rintro e w7 ⟨g7, h7, u7, v7, q7, rfl, p7, k7, b7⟩; have D7 := Lib.hid (Dq.out.trans (b7.mono Dq.out.size)); have V7 := Lib.hid (Vq.out.trans (b7.mono Vq.out.size)); have P7 := Lib.hid (Pq.out.below b7); have K7 := Lib.hid (Kq.out.below b7); have X7 := Lib.hid (Xq.out.trans (b7.mono Xq.out.size)); have U7 := Lib.hid (Uq.out.trans (b7.mono Uq.out.size)); have F7 := Lib.hid p7.ints; have M7 := Lib.hid k7.ints; clear p7 k7 b7)
        | (go_at_call 17; refine (HE.out _ _ _ _ _ P7.out.ints F7.out K7.out.ints M7.out).mono ?_; rintro e w8 ⟨rfl, b8⟩; have D8 := Lib.hid (D7.out.trans (b8.mono D7.out.size)); have V8 := Lib.hid (V7.out.trans (b8.mono V7.out.size)); have P8 := Lib.hid (P7.out.below b8); have K8 := Lib.hid (K7.out.below b8); have X8 := Lib.hid (X7.out.trans (b8.mono X7.out.size)); have U8 := Lib.hid (U7.out.trans (b8.mono U7.out.size)); clear b8))
    rename_i hHeld
    clear hHeld y0 y1 z0 z1 F7 M7 Dq D7 Vq V7 Pq P7 Kq K7 Xq X7 Uq U7
    obtain ⟨z0, z1⟩ := XB.out _ X8.out
    go_wp2_with fail
    have hg8 : g4 < w8.heap.size := by have := X8.out.size; have := HXS.out; omega
    have hh8 : h4 < w8.heap.size := by have := X8.out.size; have := HXS.out; omega
    refine (markTally_any _ _ l0 r0 _ _ g4 h4 1 w8 P8.out K8.out (by omega) hg8 hh8 q0 q1 (by omega) (by omega)).mono ?_
    rintro e w9 ⟨rfl, _, _, t9⟩
    have D9 := Lib.hid (D8.out.trans (t9.below D8.out.size (by omega) (by omega)))
    have V9 := Lib.hid (V8.out.trans (t9.below V8.out.size (by omega) (by omega)))
    have hs9 := (t9.below D8.out.size (by omega) (by omega)).size
    have hu8 := U8.out.size
    have hs59 : w5.heap.size ≤ w9.heap.size := by omega
    have RT9 := Lib.hid ((RT.out.below U8.out (Nat.le_refl _)).keep fun k hB hk => t9.2.2.2.2 k hk (by have := HXS.out; omega) (by have := HXS.out; omega))
    have U9 := Lib.hid (Below.refl w9.heap.size w9)
    have hB5 : (w4.alloc (.cells #[.slice (some ⟨g4, 0, none⟩) l0.length l0.length, .slice (some ⟨h4, 0, none⟩) r0.length r0.length] 27)).heap.size = w4.heap.size + 1 := HXS.out
    have HB5 := Lib.hid (hB5)
    clear hB5 RT hs9 hu8
    clear D8 V8 P8 K8 X8 U8 t9 z0 z1 HXS XB hg8 hh8
    have hk9 : ¬ (1 : Int) + (l0.length : Int) + (r0.length : Int) < 0 := by omega
    go_wp2_with fail
    refine (eqIntSS_yes _ _ _ _ R _ _ _ _ _ _ _ (RT9.out.below U9.out hs59) (VV.out.below V9.out (Nat.le_refl _)) hr1 (fun s hs => (HROW.out s hs).2)).mono ?_
    rintro e w10 ⟨rfl, d10⟩
    have b10 := d10.below w9.heap.size
    clear d10
    have D10 := Lib.hid (D9.out.trans (b10.mono D9.out.size))
    have V10 := Lib.hid (V9.out.trans (b10.mono V9.out.size))
    have U10 := Lib.hid (U9.out.trans (b10.mono U9.out.size))
    clear D9 V9 U9
    clear b10
    go_wp2_with fail
    refine (markIntSS_any _ _ R _ _ _ 1 _ (RT9.out.below U10.out hs59) (fun s hs => (HROW.out s hs).1) hr1 (by omega) (by rw [HTOT.out]; omega)).mono ?_
    rintro e w11 ⟨rfl, t11, b11⟩
    rw [HTOT.out]
    have s11 : w5.heap.size ≤ w11.heap.size := by have h1 := b11.size; have h2 := U10.out.size; omega
    have D11 := Lib.hid (D10.out.trans (b11.mono (by have := HB5.out; omega)))
    have V11 := Lib.hid (V10.out.trans (b11.mono (by have := HB5.out; omega)))
    have MT := Lib.hid (t11.more (Nat.le_refl _) s11)
    have U11 := Lib.hid (Below.refl w11.heap.size w11)
    clear D10 V10 U10 RT9 t11 b11
    have hm11 : ¬ (1 : Int) + (tot : Int) < 0 := by omega
    go_wp2_with fail
    refine (heldIntSS_any _ _ R _ _ _ 1 _ (MT.out.below U11.out (Nat.le_refl _)) hr1 (by omega) (by rw [HTOT.out]; omega)).mono ?_
    rintro e w12 ⟨rfl, rfl⟩
    rw [HTOT.out]
    obtain ⟨y0, y1⟩ := BX.out _ D11.out
    go_wp2_with fail
    refine (HT.out _ (G0.out.trans (D11.out.mono G0.out.size))).mono ?_
    rintro e w13 ⟨g13, h13, u13, v13, z13, rfl, p13, k13, b13⟩
    have D13 := Lib.hid (D11.out.trans (b13.mono D11.out.size))
    have V13 := Lib.hid (V11.out.trans (b13.mono V11.out.size))
    have U13 := Lib.hid (U11.out.trans (b13.mono U11.out.size))
    clear D11 V11 U11
    clear b13
    clear y0 y1
    have P13 := Lib.hid (p13.ints)
    have K13 := Lib.hid (k13.ints)
    clear p13 k13
    go_wp2_with fail
    refine (HI.out _ _ _ P13.out K13.out).mono ?_
    rintro e w14 ⟨aH, cH, EH, rfl, oH, b14⟩
    have D14 := Lib.hid (D13.out.trans (b14.mono D13.out.size))
    have V14 := Lib.hid (V13.out.trans (b14.mono V13.out.size))
    have U14 := Lib.hid (U13.out.trans (b14.mono U13.out.size))
    clear D13 V13 U13
    clear b14
    have HH := Lib.hid (oH)
    clear oH P13 K13
    go_wp2_with fail
    refine (eqIntSS_yes _ _ _ _ R _ _ _ _ _ _ _ HH.out (VV.out.below V14.out (Nat.le_refl _)) hr1 (fun s hs => (HROW.out s hs).2)).mono ?_
    rintro e w15 ⟨rfl, d15⟩
    have b15 := d15.below w14.heap.size
    clear d15
    have D15 := Lib.hid (D14.out.trans (b15.mono D14.out.size))
    have V15 := Lib.hid (V14.out.trans (b15.mono V14.out.size))
    have U15 := Lib.hid (U14.out.trans (b15.mono U14.out.size))
    clear D14 V14 U14
    clear b15
    clear HH
    go_wp2_with fail
    refine (heldIntSS_any _ _ R _ _ _ 1 _ (MT.out.below U15.out (Nat.le_refl _)) hr1 (by omega) (by rw [HTOT.out]; omega)).mono ?_
    rintro e w16 ⟨rfl, rfl⟩
    rw [HTOT.out]
    go_wp2
    go_ret
    exact ⟨rfl, G0.out.trans (D15.out.mono G0.out.size)⟩
  · rw [if_neg hn] at HZ
    go_enter Try.func8, Try.ntmps8
    go_wp2_with fail
    refine (HZ.out _).mono ?_
    rintro e w1 ⟨rfl, b1⟩
    have G1 := Lib.hid b1
    clear b1
    go_wp2_with fail
    go_ret
    exact ⟨rfl, below_then (below_all _ _) G1.out⟩
end Go.Proofs.Ytjpiiidjocilcaa
