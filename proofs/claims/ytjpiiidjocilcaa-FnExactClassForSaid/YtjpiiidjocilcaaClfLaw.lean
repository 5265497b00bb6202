/- The walk of FnExactClassFor. -/
import Derived.Test.YtjpiiidjocilcaaClf
import Derived.Test.YtjpiiidjocilcaaTlLaw
import Derived.Test.YtjpiiidjocilcaaShLaw
import Derived.Deep.RegionHeld3
import Derived.Deep.DeepCutAuto
namespace Go.Proofs.Ytjpiiidjocilcaa
open Go.RowKit
set_option linter.unusedVariables false
set_option linter.unusedSimpArgs false
set_option maxRecDepth 100000 in
set_option maxHeartbeats 16000000 in
theorem walk_ClfLaw (a0 b0 : Option Addr) (l0 r0 : List Int) (c0 d0 : Nat) (sn sd : Int) (w : World) (hl0 : Ints .i64 w w.heap.size a0 l0) (hr0 : Ints .i64 w w.heap.size b0 r0) (hm0 : l0.length ≤ maxLen) (hn0 : r0.length ≤ maxLen) :
    Calls Try.prog 10 #[.agg #[.slice a0 l0.length c0, .slice b0 r0.length d0], .agg #[.int .i64 sn, .int .i64 sd]] w fun e w' => e = .returned (.bool true) ∧ Below w.heap.size w w' := by
  have HZ := Lib.hid (fun W => szTally_any a0 b0 l0.length c0 r0.length d0 1048576 W hm0 hn0 (by omega) (by omega))
  have G0 := Lib.hid (((Below.refl w.heap.size w).alloc (Nat.le_refl _) (.cells #[.slice a0 l0.length c0, .slice b0 r0.length d0] 24)).alloc (by simp) (.cells #[.int .i64 sn, .int .i64 sd] 59))
  have D0 := Lib.hid (Below.refl ((w.alloc (.cells #[.slice a0 l0.length c0, .slice b0 r0.length d0] 24)).alloc (.cells #[.int .i64 sn, .int .i64 sd] 59)).heap.size ((w.alloc (.cells #[.slice a0 l0.length c0, .slice b0 r0.length d0] 24)).alloc (.cells #[.int .i64 sn, .int .i64 sd] 59)))
  by_cases hn : ((l0.length + r0.length : Nat) : Int) ≤ 1048576
  · rw [if_pos hn] at HZ
    have q0 : l0.length ≤ 1048576 := by omega
    have q1 : r0.length ≤ 1048576 := by omega
    have hz : ¬ (1048576 : Int) - ((l0.length + r0.length : Nat) : Int) < 0 := by omega
    generalize (1048576 : Int) - ((l0.length + r0.length : Nat) : Int) = z at *
    have HT := Lib.hid (fun W (G : Below w.heap.size w W) => toTally_any a0 b0 l0 r0 c0 d0 W ((hl0.below G (Nat.le_refl _)).more G.size) ((hr0.below G (Nat.le_refl _)).more G.size) q0 q1)
    have HH := Lib.hid (fun W => toSh_is sn sd W)
    have HS := Lib.hid (fun p q W (h : Ints .i64 W W.heap.size (some ⟨p, 0, none⟩) l0) (h' : Ints .i64 W W.heap.size (some ⟨q, 0, none⟩) r0) => specClf_any (some ⟨p, 0, none⟩) (some ⟨q, 0, none⟩) l0 r0 l0.length r0.length sn sd W h h')
    have HI := Lib.hid (fun p q W (h : Ints .i64 W W.heap.size (some ⟨p, 0, none⟩) l0) (h' : Ints .i64 W W.heap.size (some ⟨q, 0, none⟩) r0) => implClf_any (some ⟨p, 0, none⟩) (some ⟨q, 0, none⟩) l0 r0 l0.length r0.length sn sd W h h')
    have HE := Lib.hid (fun p q p' q' W (h : Ints .i64 W W.heap.size (some ⟨p, 0, none⟩) l0) (h' : Ints .i64 W W.heap.size (some ⟨p', 0, none⟩) l0) (k : Ints .i64 W W.heap.size (some ⟨q, 0, none⟩) r0) (k' : Ints .i64 W W.heap.size (some ⟨q', 0, none⟩) r0) => eqTally_yes (some ⟨p, 0, none⟩) (some ⟨p', 0, none⟩) (some ⟨q, 0, none⟩) (some ⟨q', 0, none⟩) l0 r0 l0.length l0.length r0.length r0.length W h h' k k' q0 q1)
    have BX := Lib.hid (fun W (G : Below ((w.alloc (.cells #[.slice a0 l0.length c0, .slice b0 r0.length d0] 24)).alloc (.cells #[.int .i64 sn, .int .i64 sd] 59)).heap.size ((w.alloc (.cells #[.slice a0 l0.length c0, .slice b0 r0.length d0] 24)).alloc (.cells #[.int .i64 sn, .int .i64 sd] 59)) W) => show (W.cell? ⟨w.heap.size, 0, none⟩ = some (.slice a0 l0.length c0) ∧ W.cell? ⟨w.heap.size, 1, none⟩ = some (.slice b0 r0.length d0)) ∧ (W.cell? ⟨w.heap.size + 1, 0, none⟩ = some (.int .i64 sn) ∧ W.cell? ⟨w.heap.size + 1, 1, none⟩ = some (.int .i64 sd)) from
      ⟨⟨(G.cell (p := ⟨w.heap.size, 0, none⟩) (by simp; omega)).trans (by simp [go_sem]), (G.cell (p := ⟨w.heap.size, 1, none⟩) (by simp; omega)).trans (by simp [go_sem])⟩, (G.cell (p := ⟨w.heap.size + 1, 0, none⟩) (by simp)).trans (by simp [go_sem]), (G.cell (p := ⟨w.heap.size + 1, 1, none⟩) (by simp)).trans (by simp [go_sem])⟩)
    clear hl0 hr0 hn
    generalize clfN l0 r0 sn sd = rn at *
    generalize clfB l0 r0 sn sd = rb at *
    have er : (rb != rb) = false := by simp
    go_enter Try.func10, Try.ntmps10
    go_wp2_with fail
    refine (HZ.out _).mono ?_
    rintro e w1 ⟨rfl, b1⟩
    have D1 := Lib.hid (D0.out.trans (b1.mono (Nat.le_refl _)))
    clear b1
    go_upto_region 5 with fail
    go_cut [6, 7] (fun s t wx => s = .int .i64 rn ∧ t = .bool rb ∧ Below ((w.alloc (.cells #[.slice a0 l0.length c0, .slice b0 r0.length d0] 24)).alloc (.cells #[.int .i64 sn, .int .i64 sd] 59)).heap.size ((w.alloc (.cells #[.slice a0 l0.length c0, .slice b0 r0.length d0] 24)).alloc (.cells #[.int .i64 sn, .int .i64 sd] 59)) wx)
    case first =>
      have Dq := Lib.hid D1.out.drew
      obtain ⟨⟨y0, y1⟩, y2, y3⟩ := BX.out _ Dq.out
      go_region_held3 (fun w' => (w'.cell? ⟨w.heap.size, 0, none⟩ = some (.slice a0 l0.length c0) ∧ w'.cell? ⟨w.heap.size, 1, none⟩ = some (.slice b0 r0.length d0)) ∧ (w'.cell? ⟨w.heap.size + 1, 0, none⟩ = some (.int .i64 sn) ∧ w'.cell? ⟨w.heap.size + 1, 1, none⟩ = some (.int .i64 sd)))
        (first | exact BX.out _ Dc.out | exact BX.out _ Db.out | exact BX.out _ Dt.out | exact BX.out _ Dsh.out | exact BX.out _ Dq.out | go_keep)
        (first
          | (go_at_call 15; refine (HT.out _ (G0.out.trans (Dsh.out.mono G0.out.size))).mono ?_; rintro e w3 ⟨gt, ht, ut, vt, zt, rfl, pt, kt, b3⟩; have Db := Lib.hid (Dsh.out.trans (b3.mono Dsh.out.size)); have Pb := Lib.hid pt.ints; have Kb := Lib.hid kt.ints; clear pt kt b3)
          | (go_at_call 15; refine (HT.out _ (G0.out.trans (Dq.out.mono G0.out.size))).mono ?_; rintro e w2 ⟨gt, ht, ut, vt, zt, rfl, pt, kt, b2⟩; have Dt := Lib.hid (Dq.out.trans (b2.mono Dq.out.size)); have Pt := Lib.hid pt.ints; have Kt := Lib.hid kt.ints; clear pt kt b2)
          | (go_at_call 42; refine (HH.out _).mono ?_; rintro e w3 ⟨rfl, b3⟩; have Db := Lib.hid (Dt.out.trans (b3.mono Dt.out.size)); have Pb := Lib.hid (ints_below Pt.out b3); have Kb := Lib.hid (ints_below Kt.out b3); clear b3)
          | (go_at_call 42; refine (HH.out _).mono ?_; rintro e w2 ⟨rfl, b2⟩; have Dsh := Lib.hid (Dq.out.trans (b2.mono Dq.out.size)); clear b2)
          | (go_at_call 41; refine (HS.out _ _ _ Pb.out Kb.out).mono ?_; rintro e w4 ⟨rfl, b4⟩; have Dc := Lib.hid (Db.out.trans (b4.mono Db.out.size)); clear b4))
      all_goals
        go_wp2
        go_meet
        exact ⟨rfl, rfl, Dc.out⟩
    case rest =>
      obtain ⟨rfl, rfl, D4⟩ := hcut
      have D2 := Lib.hid D4
      clear D4 D1
      obtain ⟨⟨y0, y1⟩, y2, y3⟩ := BX.out _ D2.out
      go_wp2_with fail
      refine (HT.out _ (G0.out.trans (D2.out.mono G0.out.size))).mono ?_
      rintro e w4 ⟨g4, h4, u4, v4, z4, rfl, p4, k4, b4⟩
      have D4 := Lib.hid (D2.out.trans (b4.mono D2.out.size))
      have P4 := Lib.hid p4.ints
      have K4 := Lib.hid k4.ints
      clear p4 k4 b4 y0 y1 y2 y3 D2
      have XB := Lib.hid (fun W (G : Below (w4.alloc (.cells #[.slice (some ⟨g4, 0, none⟩) l0.length l0.length, .slice (some ⟨h4, 0, none⟩) r0.length r0.length] 27)).heap.size (w4.alloc (.cells #[.slice (some ⟨g4, 0, none⟩) l0.length l0.length, .slice (some ⟨h4, 0, none⟩) r0.length r0.length] 27)) W) => show W.cell? ⟨w4.heap.size, 0, none⟩ = some (.slice (some ⟨g4, 0, none⟩) l0.length l0.length) ∧ W.cell? ⟨w4.heap.size, 1, none⟩ = some (.slice (some ⟨h4, 0, none⟩) r0.length r0.length) from
        ⟨(G.cell (p := ⟨w4.heap.size, 0, none⟩) (by simp)).trans (by simp [go_sem]), (G.cell (p := ⟨w4.heap.size, 1, none⟩) (by simp)).trans (by simp [go_sem])⟩)
      have Dq := Lib.hid ((D4.out.alloc D4.out.size (.cells #[.slice (some ⟨g4, 0, none⟩) l0.length l0.length, .slice (some ⟨h4, 0, none⟩) r0.length r0.length] 27)).drew)
      have Xq := Lib.hid ((Below.refl (w4.alloc (.cells #[.slice (some ⟨g4, 0, none⟩) l0.length l0.length, .slice (some ⟨h4, 0, none⟩) r0.length r0.length] 27)).heap.size (w4.alloc (.cells #[.slice (some ⟨g4, 0, none⟩) l0.length l0.length, .slice (some ⟨h4, 0, none⟩) r0.length r0.length] 27))).drew)
      have Pq := Lib.hid (ints_below P4.out ((below_all w4 (.cells #[.slice (some ⟨g4, 0, none⟩) l0.length l0.length, .slice (some ⟨h4, 0, none⟩) r0.length r0.length] 27)).drew))
      have Kq := Lib.hid (ints_below K4.out ((below_all w4 (.cells #[.slice (some ⟨g4, 0, none⟩) l0.length l0.length, .slice (some ⟨h4, 0, none⟩) r0.length r0.length] 27)).drew))
      clear P4 K4 D4 u4 v4 z4
      go_wp2_with fail
      obtain ⟨⟨y0, y1⟩, y2, y3⟩ := BX.out _ Dq.out
      obtain ⟨z0, z1⟩ := XB.out _ Xq.out
      go_region_held3 (fun w' => (w'.cell? ⟨w.heap.size + 1, 0, none⟩ = some (.int .i64 sn) ∧ w'.cell? ⟨w.heap.size + 1, 1, none⟩ = some (.int .i64 sd)) ∧ (w'.cell? ⟨w4.heap.size, 0, none⟩ = some (.slice (some ⟨g4, 0, none⟩) l0.length l0.length) ∧ w'.cell? ⟨w4.heap.size, 1, none⟩ = some (.slice (some ⟨h4, 0, none⟩) r0.length r0.length)))
        (first | exact ⟨(BX.out _ D6.out).2, XB.out _ X6.out⟩ | exact ⟨(BX.out _ D5.out).2, XB.out _ X5.out⟩ | go_keep)
        (first
          | (go_at_call 42; refine (HH.out _).mono ?_; rintro e w5 ⟨rfl, b5⟩; have D5 := Lib.hid (Dq.out.trans (b5.mono Dq.out.size)); have X5 := Lib.hid (Xq.out.trans (b5.mono Xq.out.size)); have P5 := Lib.hid (ints_below Pq.out b5); have K5 := Lib.hid (ints_below Kq.out b5); clear b5)
          | (go_at_call 43; refine (HI.out _ _ _ P5.out K5.out).mono ?_; rintro e w6 ⟨rfl, b6⟩; have D6 := Lib.hid (D5.out.trans (b6.mono D5.out.size)); have X6 := Lib.hid (X5.out.trans (b6.mono X5.out.size)); have P6 := Lib.hid (ints_below P5.out b6); have K6 := Lib.hid (ints_below K5.out b6); clear b6))
      rename_i hHeld
      clear hHeld y0 y1 y2 y3 z0 z1 Dq Xq Pq Kq D5 X5 P5 K5
      go_wp2_with fail
      have D7 := Lib.hid D6.out.drew
      have X7 := Lib.hid X6.out.drew
      have P7 := Lib.hid (ints_below P6.out ((Below.refl _ _).drew))
      have K7 := Lib.hid (ints_below K6.out ((Below.refl _ _).drew))
      obtain ⟨⟨y0, y1⟩, y2, y3⟩ := BX.out _ D7.out
      obtain ⟨z0, z1⟩ := XB.out _ X7.out
      go_region_held3 (fun w' => (w'.cell? ⟨w.heap.size, 0, none⟩ = some (.slice a0 l0.length c0) ∧ w'.cell? ⟨w.heap.size, 1, none⟩ = some (.slice b0 r0.length d0)) ∧ (w'.cell? ⟨w4.heap.size, 0, none⟩ = some (.slice (some ⟨g4, 0, none⟩) l0.length l0.length) ∧ w'.cell? ⟨w4.heap.size, 1, none⟩ = some (.slice (some ⟨h4, 0, none⟩) r0.length r0.length)))
        (first | exact ⟨(BX.out _ D9.out).1, XB.out _ X9.out⟩ | exact ⟨(BX.out _ D8.out).1, XB.out _ X8.out⟩ | go_keep)
        (first
          | (go_at_call 15; refine (HT.out _ (G0.out.trans (D7.out.mono G0.out.size))).mono ?_; rintro e w8 ⟨g8, h8, u8, v8, z8, rfl, p8, k8, b8⟩; have D8 := Lib.hid (D7.out.trans (b8.mono D7.out.size)); have X8 := Lib.hid (X7.out.trans (b8.mono X7.out.size)); have P8 := Lib.hid (ints_below P7.out b8); have K8 := Lib.hid (ints_below K7.out b8); have F8 := Lib.hid p8.ints; have M8 := Lib.hid k8.ints; clear p8 k8 b8)
          | (go_at_call 17; refine (HE.out _ _ _ _ _ P8.out F8.out K8.out M8.out).mono ?_; rintro e w9 ⟨rfl, b9⟩; have D9 := Lib.hid (D8.out.trans (b9.mono D8.out.size)); have X9 := Lib.hid (X8.out.trans (b9.mono X8.out.size)); clear b9))
      go_wp2
      go_ret
      exact ⟨rfl, G0.out.trans (D9.out.mono G0.out.size)⟩
  · rw [if_neg hn] at HZ
    go_enter Try.func10, Try.ntmps10
    go_wp2_with fail
    refine (HZ.out _).mono ?_
    rintro e w1 ⟨rfl, b1⟩
    have G1 := Lib.hid (D0.out.trans (b1.mono (Nat.le_refl _)))
    clear b1
    go_wp2_with fail
    go_ret
    exact ⟨rfl, G0.out.trans (G1.out.mono G0.out.size)⟩
end Go.Proofs.Ytjpiiidjocilcaa
