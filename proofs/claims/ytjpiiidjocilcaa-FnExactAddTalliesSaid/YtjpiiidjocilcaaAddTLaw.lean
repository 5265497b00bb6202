/- The walk of FnExactAddTallies. -/
import Derived.Test.YtjpiiidjocilcaaAddI
import Derived.Test.YtjpiiidjocilcaaMarkW
import Derived.Deep.RegionHeld3
import Derived.Deep.DeepCutAuto
namespace Go.Proofs.Ytjpiiidjocilcaa
open Go.RowKit
set_option linter.unusedVariables false
set_option linter.unusedSimpArgs false
set_option maxRecDepth 100000 in
set_option maxHeartbeats 32000000 in
theorem walk_AddTLaw (a0 b0 : Option Addr) (l0 r0 : List Int) (c0 d0 : Nat) (a9 b9 : Option Addr) (l9 r9 : List Int) (c9 d9 : Nat) (w : World) (hl0 : Ints .i64 w w.heap.size a0 l0) (hr0 : Ints .i64 w w.heap.size b0 r0) (hm0 : l0.length ≤ maxLen) (hn0 : r0.length ≤ maxLen) (hl9 : Ints .i64 w w.heap.size a9 l9) (hr9 : Ints .i64 w w.heap.size b9 r9) (hm9 : l9.length ≤ maxLen) (hn9 : r9.length ≤ maxLen) :
    Calls Try.prog 5 #[.agg #[.slice a0 l0.length c0, .slice b0 r0.length d0], .agg #[.slice a9 l9.length c9, .slice b9 r9.length d9]] w fun e w' => e = .returned (.bool true) ∧ Below w.heap.size w w' := by
  have HZ := Lib.hid (fun W => szTally_any a0 b0 l0.length c0 r0.length d0 1048576 W hm0 hn0 (by omega) (by omega))
  have G0 := Lib.hid (((Below.refl w.heap.size w).alloc (Nat.le_refl _) (.cells #[.slice a0 l0.length c0, .slice b0 r0.length d0] 24)).alloc (by simp) (.cells #[.slice a9 l9.length c9, .slice b9 r9.length d9] 24))
  have D0 := Lib.hid (Below.refl ((w.alloc (.cells #[.slice a0 l0.length c0, .slice b0 r0.length d0] 24)).alloc (.cells #[.slice a9 l9.length c9, .slice b9 r9.length d9] 24)).heap.size ((w.alloc (.cells #[.slice a0 l0.length c0, .slice b0 r0.length d0] 24)).alloc (.cells #[.slice a9 l9.length c9, .slice b9 r9.length d9] 24)))
  have BX := Lib.hid (fun W (G : Below ((w.alloc (.cells #[.slice a0 l0.length c0, .slice b0 r0.length d0] 24)).alloc (.cells #[.slice a9 l9.length c9, .slice b9 r9.length d9] 24)).heap.size ((w.alloc (.cells #[.slice a0 l0.length c0, .slice b0 r0.length d0] 24)).alloc (.cells #[.slice a9 l9.length c9, .slice b9 r9.length d9] 24)) W) => show (W.cell? ⟨w.heap.size, 0, none⟩ = some (.slice a0 l0.length c0) ∧ W.cell? ⟨w.heap.size, 1, none⟩ = some (.slice b0 r0.length d0)) ∧ (W.cell? ⟨w.heap.size + 1, 0, none⟩ = some (.slice a9 l9.length c9) ∧ W.cell? ⟨w.heap.size + 1, 1, none⟩ = some (.slice b9 r9.length d9)) from
    ⟨⟨(G.cell (p := ⟨w.heap.size, 0, none⟩) (by simp; omega)).trans (by simp [go_sem]), (G.cell (p := ⟨w.heap.size, 1, none⟩) (by simp; omega)).trans (by simp [go_sem])⟩, (G.cell (p := ⟨w.heap.size + 1, 0, none⟩) (by simp)).trans (by simp [go_sem]), (G.cell (p := ⟨w.heap.size + 1, 1, none⟩) (by simp)).trans (by simp [go_sem])⟩)
  by_cases hn : ((l0.length + r0.length : Nat) : Int) ≤ 1048576
  · rw [if_pos hn] at HZ
    have q0 : l0.length ≤ 1048576 := by omega
    have q1 : r0.length ≤ 1048576 := by omega
    have hz : ¬ (1048576 : Int) - ((l0.length + r0.length : Nat) : Int) < 0 := by omega
    have hz2 : (1048576 : Int) - ((l0.length + r0.length : Nat) : Int) ≤ 1048576 := by omega
    generalize (1048576 : Int) - ((l0.length + r0.length : Nat) : Int) = z at *
    have HZ9 := Lib.hid (fun W => szTally_any a9 b9 l9.length c9 r9.length d9 z W hm9 hn9 (by omega) hz2)
    by_cases hn2 : ((l9.length + r9.length : Nat) : Int) ≤ z
    · rw [if_pos hn2] at HZ9
      have q2 : l9.length ≤ 1048576 := by omega
      have q3 : r9.length ≤ 1048576 := by omega
      have hz3 : ¬ z - ((l9.length + r9.length : Nat) : Int) < 0 := by omega
      generalize z - ((l9.length + r9.length : Nat) : Int) = z9 at *
      have HT := Lib.hid (fun W (G : Below w.heap.size w W) => toTally_any a0 b0 l0 r0 c0 d0 W ((hl0.below G (Nat.le_refl _)).more G.size) ((hr0.below G (Nat.le_refl _)).more G.size) q0 q1)
      have HT9 := Lib.hid (fun W (G : Below w.heap.size w W) => toTally_any a9 b9 l9 r9 c9 d9 W ((hl9.below G (Nat.le_refl _)).more G.size) ((hr9.below G (Nat.le_refl _)).more G.size) q2 q3)
      have HS := Lib.hid (fun p q p' q' W (h : Ints .i64 W W.heap.size (some ⟨p, 0, none⟩) l0) (h' : Ints .i64 W W.heap.size (some ⟨q, 0, none⟩) r0) (k : Ints .i64 W W.heap.size (some ⟨p', 0, none⟩) l9) (k' : Ints .i64 W W.heap.size (some ⟨q', 0, none⟩) r9) => specAddT_any (some ⟨p, 0, none⟩) (some ⟨q, 0, none⟩) (some ⟨p', 0, none⟩) (some ⟨q', 0, none⟩) l0 r0 l9 r9 l0.length r0.length l9.length r9.length W h h' k k')
      have HI := Lib.hid (fun p q p' q' W (h : Ints .i64 W W.heap.size (some ⟨p, 0, none⟩) l0) (h' : Ints .i64 W W.heap.size (some ⟨q, 0, none⟩) r0) (k : Ints .i64 W W.heap.size (some ⟨p', 0, none⟩) l9) (k' : Ints .i64 W W.heap.size (some ⟨q', 0, none⟩) r9) => implAddT_any (some ⟨p, 0, none⟩) (some ⟨q, 0, none⟩) (some ⟨p', 0, none⟩) (some ⟨q', 0, none⟩) l0 r0 l9 r9 l0.length r0.length l9.length r9.length W h h' k k')
      have HE := Lib.hid (fun p q p' q' W (h : Ints .i64 W W.heap.size (some ⟨p, 0, none⟩) l0) (h' : Ints .i64 W W.heap.size (some ⟨p', 0, none⟩) l0) (k : Ints .i64 W W.heap.size (some ⟨q, 0, none⟩) r0) (k' : Ints .i64 W W.heap.size (some ⟨q', 0, none⟩) r0) => eqTally_yes (some ⟨p, 0, none⟩) (some ⟨p', 0, none⟩) (some ⟨q, 0, none⟩) (some ⟨q', 0, none⟩) l0 r0 l0.length l0.length r0.length r0.length W h h' k k' q0 q1)
      have HE9 := Lib.hid (fun p q p' q' W (h : Ints .i64 W W.heap.size (some ⟨p, 0, none⟩) l9) (h' : Ints .i64 W W.heap.size (some ⟨p', 0, none⟩) l9) (k : Ints .i64 W W.heap.size (some ⟨q, 0, none⟩) r9) (k' : Ints .i64 W W.heap.size (some ⟨q', 0, none⟩) r9) => eqTally_yes (some ⟨p, 0, none⟩) (some ⟨p', 0, none⟩) (some ⟨q, 0, none⟩) (some ⟨q', 0, none⟩) l9 r9 l9.length l9.length r9.length r9.length W h h' k k' q2 q3)
      clear hl0 hr0 hl9 hr9 hn hn2 hz2
      have hlen := ad_len l0 r0 l9 r9
      generalize adP l0 r0 l9 r9 = Rp at *
      generalize adQ l0 r0 l9 r9 = Rq at *
      generalize adB l0 r0 l9 r9 = rb at *
      obtain ⟨hp1, hq1⟩ := hlen
      have hr1 : Rp.length ≤ 1048576 := by omega
      have hr2 : Rq.length ≤ 1048576 := by omega
      unfold TRet at HS HI
      have er : (rb != rb) = false := by simp
      go_enter Try.func5, Try.ntmps5
      go_wp2_with fail
      refine (HZ.out _).mono ?_
      rintro e w1 ⟨rfl, b1⟩
      have D1 := Lib.hid (D0.out.trans (b1.mono D0.out.size))
      clear D0
      clear b1
      obtain ⟨_, y2, y3⟩ := BX.out _ D1.out
      go_wp2_with fail
      refine (HZ9.out _).mono ?_
      rintro e w2 ⟨rfl, b2⟩
      have D2 := Lib.hid (D1.out.trans (b2.mono D1.out.size))
      clear D1
      clear b2 y2 y3
      go_upto_region 8 with fail
      go_cut [6, 7] (fun p t wx => ∃ (bX : Nat) (aX : Option Addr) (cX : Nat) (fX : Option Addr) (dX : Nat), p = .pointer (some ⟨bX, 0, none⟩) ∧ t = .bool rb ∧ Box2 wx bX 27 (.slice aX Rp.length cX) (.slice fX Rq.length dX) ∧ Ints .i64 wx wx.heap.size aX Rp ∧ Ints .i64 wx wx.heap.size fX Rq ∧ Below w2.heap.size w2 wx)
      case first =>
        have E_ := Lib.hid ((Below.refl w2.heap.size w2).drew)
        obtain ⟨⟨y0, y1⟩, y2, y3⟩ := BX.out _ (D2.out.trans (E_.out.mono D2.out.size))
        go_region_held3 (fun w' => (w'.cell? ⟨w.heap.size, 0, none⟩ = some (.slice a0 l0.length c0) ∧ w'.cell? ⟨w.heap.size, 1, none⟩ = some (.slice b0 r0.length d0)) ∧ (w'.cell? ⟨w.heap.size + 1, 0, none⟩ = some (.slice a9 l9.length c9) ∧ w'.cell? ⟨w.heap.size + 1, 1, none⟩ = some (.slice b9 r9.length d9)))
          (first
            | exact BX.out _ (D2.out.trans (E_QAPS.out.mono D2.out.size))
            | exact BX.out _ ((D2.out.trans (E_QAPS.out.mono D2.out.size)).alloc (D2.out.trans (E_QAPS.out.mono D2.out.size)).size _)
            | exact BX.out _ (((D2.out.trans (E_QAPS.out.mono D2.out.size)).setCell (D2.out.trans (E_Q.out.mono D2.out.size)).size _).setCell (D2.out.trans (E_Q.out.mono D2.out.size)).size _)
            | exact BX.out _ (D2.out.trans (E_QPAS.out.mono D2.out.size))
            | exact BX.out _ ((D2.out.trans (E_QPAS.out.mono D2.out.size)).alloc (D2.out.trans (E_QPAS.out.mono D2.out.size)).size _)
            | exact BX.out _ (((D2.out.trans (E_QPAS.out.mono D2.out.size)).setCell (D2.out.trans (E_QP.out.mono D2.out.size)).size _).setCell (D2.out.trans (E_QP.out.mono D2.out.size)).size _)
            | exact BX.out _ (D2.out.trans (E_PQAS.out.mono D2.out.size))
            | exact BX.out _ ((D2.out.trans (E_PQAS.out.mono D2.out.size)).alloc (D2.out.trans (E_PQAS.out.mono D2.out.size)).size _)
            | exact BX.out _ (((D2.out.trans (E_PQAS.out.mono D2.out.size)).setCell (D2.out.trans (E_PQ.out.mono D2.out.size)).size _).setCell (D2.out.trans (E_PQ.out.mono D2.out.size)).size _)
            | exact BX.out _ (D2.out.trans (E_AQPS.out.mono D2.out.size))
            | exact BX.out _ ((D2.out.trans (E_AQPS.out.mono D2.out.size)).alloc (D2.out.trans (E_AQPS.out.mono D2.out.size)).size _)
            | exact BX.out _ (((D2.out.trans (E_AQPS.out.mono D2.out.size)).setCell (D2.out.trans (E_.out.mono D2.out.size)).size _).setCell (D2.out.trans (E_.out.mono D2.out.size)).size _)
            | exact BX.out _ (D2.out.trans (E_APQS.out.mono D2.out.size))
            | exact BX.out _ ((D2.out.trans (E_APQS.out.mono D2.out.size)).alloc (D2.out.trans (E_APQS.out.mono D2.out.size)).size _)
            | exact BX.out _ (((D2.out.trans (E_APQS.out.mono D2.out.size)).setCell (D2.out.trans (E_.out.mono D2.out.size)).size _).setCell (D2.out.trans (E_.out.mono D2.out.size)).size _)
            | exact BX.out _ (D2.out.trans (E_PAQS.out.mono D2.out.size))
            | exact BX.out _ ((D2.out.trans (E_PAQS.out.mono D2.out.size)).alloc (D2.out.trans (E_PAQS.out.mono D2.out.size)).size _)
            | exact BX.out _ (((D2.out.trans (E_PAQS.out.mono D2.out.size)).setCell (D2.out.trans (E_P.out.mono D2.out.size)).size _).setCell (D2.out.trans (E_P.out.mono D2.out.size)).size _)
            | exact BX.out _ (D2.out.trans (E_AQP.out.mono D2.out.size))
            | exact BX.out _ ((D2.out.trans (E_AQP.out.mono D2.out.size)).alloc (D2.out.trans (E_AQP.out.mono D2.out.size)).size _)
            | exact BX.out _ (((D2.out.trans (E_AQP.out.mono D2.out.size)).setCell (D2.out.trans (E_.out.mono D2.out.size)).size _).setCell (D2.out.trans (E_.out.mono D2.out.size)).size _)
            | exact BX.out _ (D2.out.trans (E_QAP.out.mono D2.out.size))
            | exact BX.out _ ((D2.out.trans (E_QAP.out.mono D2.out.size)).alloc (D2.out.trans (E_QAP.out.mono D2.out.size)).size _)
            | exact BX.out _ (((D2.out.trans (E_QAP.out.mono D2.out.size)).setCell (D2.out.trans (E_Q.out.mono D2.out.size)).size _).setCell (D2.out.trans (E_Q.out.mono D2.out.size)).size _)
            | exact BX.out _ (D2.out.trans (E_PAQ.out.mono D2.out.size))
            | exact BX.out _ ((D2.out.trans (E_PAQ.out.mono D2.out.size)).alloc (D2.out.trans (E_PAQ.out.mono D2.out.size)).size _)
            | exact BX.out _ (((D2.out.trans (E_PAQ.out.mono D2.out.size)).setCell (D2.out.trans (E_P.out.mono D2.out.size)).size _).setCell (D2.out.trans (E_P.out.mono D2.out.size)).size _)
            | exact BX.out _ (D2.out.trans (E_APQ.out.mono D2.out.size))
            | exact BX.out _ ((D2.out.trans (E_APQ.out.mono D2.out.size)).alloc (D2.out.trans (E_APQ.out.mono D2.out.size)).size _)
            | exact BX.out _ (((D2.out.trans (E_APQ.out.mono D2.out.size)).setCell (D2.out.trans (E_.out.mono D2.out.size)).size _).setCell (D2.out.trans (E_.out.mono D2.out.size)).size _)
            | exact BX.out _ (D2.out.trans (E_PQS.out.mono D2.out.size))
            | exact BX.out _ ((D2.out.trans (E_PQS.out.mono D2.out.size)).alloc (D2.out.trans (E_PQS.out.mono D2.out.size)).size _)
            | exact BX.out _ (D2.out.trans (E_QPS.out.mono D2.out.size))
            | exact BX.out _ ((D2.out.trans (E_QPS.out.mono D2.out.size)).alloc (D2.out.trans (E_QPS.out.mono D2.out.size)).size _)
            | exact BX.out _ (D2.out.trans (E_AQ.out.mono D2.out.size))
            | exact BX.out _ ((D2.out.trans (E_AQ.out.mono D2.out.size)).alloc (D2.out.trans (E_AQ.out.mono D2.out.size)).size _)
            | exact BX.out _ (((D2.out.trans (E_AQ.out.mono D2.out.size)).setCell (D2.out.trans (E_.out.mono D2.out.size)).size _).setCell (D2.out.trans (E_.out.mono D2.out.size)).size _)
            | exact BX.out _ (D2.out.trans (E_AP.out.mono D2.out.size))
            | exact BX.out _ ((D2.out.trans (E_AP.out.mono D2.out.size)).alloc (D2.out.trans (E_AP.out.mono D2.out.size)).size _)
            | exact BX.out _ (((D2.out.trans (E_AP.out.mono D2.out.size)).setCell (D2.out.trans (E_.out.mono D2.out.size)).size _).setCell (D2.out.trans (E_.out.mono D2.out.size)).size _)
            | exact BX.out _ (D2.out.trans (E_PQ.out.mono D2.out.size))
            | exact BX.out _ ((D2.out.trans (E_PQ.out.mono D2.out.size)).alloc (D2.out.trans (E_PQ.out.mono D2.out.size)).size _)
            | exact BX.out _ (D2.out.trans (E_QP.out.mono D2.out.size))
            | exact BX.out _ ((D2.out.trans (E_QP.out.mono D2.out.size)).alloc (D2.out.trans (E_QP.out.mono D2.out.size)).size _)
            | exact BX.out _ (D2.out.trans (E_Q.out.mono D2.out.size))
            | exact BX.out _ ((D2.out.trans (E_Q.out.mono D2.out.size)).alloc (D2.out.trans (E_Q.out.mono D2.out.size)).size _)
            | exact BX.out _ (D2.out.trans (E_P.out.mono D2.out.size))
            | exact BX.out _ ((D2.out.trans (E_P.out.mono D2.out.size)).alloc (D2.out.trans (E_P.out.mono D2.out.size)).size _)
            | exact BX.out _ (D2.out.alloc D2.out.size _).drew
            | go_keep)
          (first
            | (go_at_call 15; (with_reducible refine (HT.out _ (G0.out.trans ((D2.out.trans (E_AQ.out.mono D2.out.size)).mono G0.out.size))).mono ?_); rintro e w_AQP ⟨gP, hP, u_, v_, z_, rfl, p_, k_, b_⟩; have E_AQP := Lib.hid (E_AQ.out.trans (b_.mono E_AQ.out.size)); have QP_AQP := Lib.hid (ints_below QP_AQ.out b_); have QK_AQP := Lib.hid (ints_below QK_AQ.out b_); have X_AQP := Lib.hid (X_AQ.out.below b_); have PP_AQP := Lib.hid p_.ints; have PK_AQP := Lib.hid k_.ints; clear p_ k_ b_ u_ v_ z_)
            | (go_at_call 15; (with_reducible refine (HT.out _ (G0.out.trans ((D2.out.trans ((E_Q.out.alloc E_Q.out.size (.cells #[.slice none 0 0, .slice none 0 0] 27)).mono D2.out.size)).mono G0.out.size))).mono ?_); rintro e w_QAP ⟨gP, hP, u_, v_, z_, rfl, p_, k_, b_⟩; have E_QAP := Lib.hid ((E_Q.out.alloc E_Q.out.size (.cells #[.slice none 0 0, .slice none 0 0] 27)).trans (b_.mono (E_Q.out.alloc E_Q.out.size (.cells #[.slice none 0 0, .slice none 0 0] 27)).size)); have QP_QAP := Lib.hid (ints_below (ints_alloc QP_Q.out (.cells #[.slice none 0 0, .slice none 0 0] 27)) b_); have QK_QAP := Lib.hid (ints_below (ints_alloc QK_Q.out (.cells #[.slice none 0 0, .slice none 0 0] 27)) b_); have X_QAP := Lib.hid ((Box2.new w_Q 27 (.slice none 0 0) (.slice none 0 0)).below b_); have PP_QAP := Lib.hid p_.ints; have PK_QAP := Lib.hid k_.ints; clear p_ k_ b_ u_ v_ z_)
            | (go_at_call 15; (with_reducible refine (HT.out _ (G0.out.trans ((D2.out.trans (E_Q.out.mono D2.out.size)).mono G0.out.size))).mono ?_); rintro e w_QP ⟨gP, hP, u_, v_, z_, rfl, p_, k_, b_⟩; have E_QP := Lib.hid (E_Q.out.trans (b_.mono E_Q.out.size)); have QP_QP := Lib.hid (ints_below QP_Q.out b_); have QK_QP := Lib.hid (ints_below QK_Q.out b_); have PP_QP := Lib.hid p_.ints; have PK_QP := Lib.hid k_.ints; clear p_ k_ b_ u_ v_ z_)
            | (go_at_call 15; (with_reducible refine (HT.out _ (G0.out.trans ((D2.out.trans ((below_all w2 (.cells #[.slice none 0 0, .slice none 0 0] 27)).drew.mono D2.out.size)).mono G0.out.size))).mono ?_); rintro e w_AP ⟨gP, hP, u_, v_, z_, rfl, p_, k_, b_⟩; have E_AP := Lib.hid ((below_all w2 (.cells #[.slice none 0 0, .slice none 0 0] 27)).drew.trans (b_.mono (below_all w2 (.cells #[.slice none 0 0, .slice none 0 0] 27)).drew.size)); have X_AP := Lib.hid ((show Box2 (w2.alloc (.cells #[.slice none 0 0, .slice none 0 0] 27)).drew w2.heap.size 27 (.slice none 0 0) (.slice none 0 0) from Box2.new w2 _ _ _).below b_); have PP_AP := Lib.hid p_.ints; have PK_AP := Lib.hid k_.ints; clear p_ k_ b_ u_ v_ z_)
            | (go_at_call 15; (with_reducible refine (HT.out _ (G0.out.trans ((D2.out.trans (E_.out.mono D2.out.size)).mono G0.out.size))).mono ?_); rintro e w_P ⟨gP, hP, u_, v_, z_, rfl, p_, k_, b_⟩; have E_P := Lib.hid (E_.out.trans (b_.mono E_.out.size)); have PP_P := Lib.hid p_.ints; have PK_P := Lib.hid k_.ints; clear p_ k_ b_ u_ v_ z_)
            | (go_at_call 15; (with_reducible refine (HT9.out _ (G0.out.trans ((D2.out.trans (E_AP.out.mono D2.out.size)).mono G0.out.size))).mono ?_); rintro e w_APQ ⟨gQ, hQ, u_, v_, z_, rfl, p_, k_, b_⟩; have E_APQ := Lib.hid (E_AP.out.trans (b_.mono E_AP.out.size)); have PP_APQ := Lib.hid (ints_below PP_AP.out b_); have PK_APQ := Lib.hid (ints_below PK_AP.out b_); have X_APQ := Lib.hid (X_AP.out.below b_); have QP_APQ := Lib.hid p_.ints; have QK_APQ := Lib.hid k_.ints; clear p_ k_ b_ u_ v_ z_)
            | (go_at_call 15; (with_reducible refine (HT9.out _ (G0.out.trans ((D2.out.trans ((E_P.out.alloc E_P.out.size (.cells #[.slice none 0 0, .slice none 0 0] 27)).mono D2.out.size)).mono G0.out.size))).mono ?_); rintro e w_PAQ ⟨gQ, hQ, u_, v_, z_, rfl, p_, k_, b_⟩; have E_PAQ := Lib.hid ((E_P.out.alloc E_P.out.size (.cells #[.slice none 0 0, .slice none 0 0] 27)).trans (b_.mono (E_P.out.alloc E_P.out.size (.cells #[.slice none 0 0, .slice none 0 0] 27)).size)); have PP_PAQ := Lib.hid (ints_below (ints_alloc PP_P.out (.cells #[.slice none 0 0, .slice none 0 0] 27)) b_); have PK_PAQ := Lib.hid (ints_below (ints_alloc PK_P.out (.cells #[.slice none 0 0, .slice none 0 0] 27)) b_); have X_PAQ := Lib.hid ((Box2.new w_P 27 (.slice none 0 0) (.slice none 0 0)).below b_); have QP_PAQ := Lib.hid p_.ints; have QK_PAQ := Lib.hid k_.ints; clear p_ k_ b_ u_ v_ z_)
            | (go_at_call 15; (with_reducible refine (HT9.out _ (G0.out.trans ((D2.out.trans (E_P.out.mono D2.out.size)).mono G0.out.size))).mono ?_); rintro e w_PQ ⟨gQ, hQ, u_, v_, z_, rfl, p_, k_, b_⟩; have E_PQ := Lib.hid (E_P.out.trans (b_.mono E_P.out.size)); have PP_PQ := Lib.hid (ints_below PP_P.out b_); have PK_PQ := Lib.hid (ints_below PK_P.out b_); have QP_PQ := Lib.hid p_.ints; have QK_PQ := Lib.hid k_.ints; clear p_ k_ b_ u_ v_ z_)
            | (go_at_call 15; (with_reducible refine (HT9.out _ (G0.out.trans ((D2.out.trans ((below_all w2 (.cells #[.slice none 0 0, .slice none 0 0] 27)).drew.mono D2.out.size)).mono G0.out.size))).mono ?_); rintro e w_AQ ⟨gQ, hQ, u_, v_, z_, rfl, p_, k_, b_⟩; have E_AQ := Lib.hid ((below_all w2 (.cells #[.slice none 0 0, .slice none 0 0] 27)).drew.trans (b_.mono (below_all w2 (.cells #[.slice none 0 0, .slice none 0 0] 27)).drew.size)); have X_AQ := Lib.hid ((show Box2 (w2.alloc (.cells #[.slice none 0 0, .slice none 0 0] 27)).drew w2.heap.size 27 (.slice none 0 0) (.slice none 0 0) from Box2.new w2 _ _ _).below b_); have QP_AQ := Lib.hid p_.ints; have QK_AQ := Lib.hid k_.ints; clear p_ k_ b_ u_ v_ z_)
            | (go_at_call 15; (with_reducible refine (HT9.out _ (G0.out.trans ((D2.out.trans (E_.out.mono D2.out.size)).mono G0.out.size))).mono ?_); rintro e w_Q ⟨gQ, hQ, u_, v_, z_, rfl, p_, k_, b_⟩; have E_Q := Lib.hid (E_.out.trans (b_.mono E_.out.size)); have QP_Q := Lib.hid p_.ints; have QK_Q := Lib.hid k_.ints; clear p_ k_ b_ u_ v_ z_)
            | (go_at_call 22; (with_reducible refine (HS.out gP hP gQ hQ _ PP_APQ.out PK_APQ.out QP_APQ.out QK_APQ.out).mono ?_); rintro e w_APQS ⟨aX, cX, fX, dX, gX, hX, rfl, lo_, lp_, ne_, sz_, sy_, oa_, ob_, b_⟩; have E_APQS := Lib.hid (E_APQ.out.trans (b_.mono E_APQ.out.size)); have X_APQS := Lib.hid (X_APQ.out.below b_); have NG := Lib.hid (Nat.ne_of_gt (Nat.lt_of_lt_of_le (X_APQ.out.lt) lo_)); have NH := Lib.hid (Nat.ne_of_gt (Nat.lt_of_lt_of_le (X_APQ.out.lt) lp_)); obtain ⟨t0, t1⟩ := X_APQS.out.cells; have f0 := X_APQS.out.frozen 0; have f1 := X_APQS.out.frozen 1; have z7 := X_APQS.out.lt; have OA := Lib.hid oa_; have OB := Lib.hid ob_; clear lo_ lp_ ne_ sz_ sy_ oa_ ob_ b_)
            | (go_at_call 22; (with_reducible refine (HS.out gP hP gQ hQ _ PP_PAQ.out PK_PAQ.out QP_PAQ.out QK_PAQ.out).mono ?_); rintro e w_PAQS ⟨aX, cX, fX, dX, gX, hX, rfl, lo_, lp_, ne_, sz_, sy_, oa_, ob_, b_⟩; have E_PAQS := Lib.hid (E_PAQ.out.trans (b_.mono E_PAQ.out.size)); have X_PAQS := Lib.hid (X_PAQ.out.below b_); have NG := Lib.hid (Nat.ne_of_gt (Nat.lt_of_lt_of_le (X_PAQ.out.lt) lo_)); have NH := Lib.hid (Nat.ne_of_gt (Nat.lt_of_lt_of_le (X_PAQ.out.lt) lp_)); obtain ⟨t0, t1⟩ := X_PAQS.out.cells; have f0 := X_PAQS.out.frozen 0; have f1 := X_PAQS.out.frozen 1; have z7 := X_PAQS.out.lt; have OA := Lib.hid oa_; have OB := Lib.hid ob_; clear lo_ lp_ ne_ sz_ sy_ oa_ ob_ b_)
            | (go_at_call 22; (with_reducible refine (HS.out gP hP gQ hQ _ (ints_alloc PP_PQ.out (.cells #[.slice none 0 0, .slice none 0 0] 27)) (ints_alloc PK_PQ.out (.cells #[.slice none 0 0, .slice none 0 0] 27)) (ints_alloc QP_PQ.out (.cells #[.slice none 0 0, .slice none 0 0] 27)) (ints_alloc QK_PQ.out (.cells #[.slice none 0 0, .slice none 0 0] 27))).mono ?_); rintro e w_PQAS ⟨aX, cX, fX, dX, gX, hX, rfl, lo_, lp_, ne_, sz_, sy_, oa_, ob_, b_⟩; have E_PQAS := Lib.hid ((E_PQ.out.alloc E_PQ.out.size (.cells #[.slice none 0 0, .slice none 0 0] 27)).trans (b_.mono (E_PQ.out.alloc E_PQ.out.size (.cells #[.slice none 0 0, .slice none 0 0] 27)).size)); have X_PQAS := Lib.hid ((Box2.new w_PQ 27 (.slice none 0 0) (.slice none 0 0)).below b_); have NG := Lib.hid (Nat.ne_of_gt (Nat.lt_of_lt_of_le ((Box2.new w_PQ 27 (.slice none 0 0) (.slice none 0 0)).lt) lo_)); have NH := Lib.hid (Nat.ne_of_gt (Nat.lt_of_lt_of_le ((Box2.new w_PQ 27 (.slice none 0 0) (.slice none 0 0)).lt) lp_)); obtain ⟨t0, t1⟩ := X_PQAS.out.cells; have f0 := X_PQAS.out.frozen 0; have f1 := X_PQAS.out.frozen 1; have z7 := X_PQAS.out.lt; have OA := Lib.hid oa_; have OB := Lib.hid ob_; clear lo_ lp_ ne_ sz_ sy_ oa_ ob_ b_)
            | (go_at_call 22; (with_reducible refine (HS.out gP hP gQ hQ _ PP_AQP.out PK_AQP.out QP_AQP.out QK_AQP.out).mono ?_); rintro e w_AQPS ⟨aX, cX, fX, dX, gX, hX, rfl, lo_, lp_, ne_, sz_, sy_, oa_, ob_, b_⟩; have E_AQPS := Lib.hid (E_AQP.out.trans (b_.mono E_AQP.out.size)); have X_AQPS := Lib.hid (X_AQP.out.below b_); have NG := Lib.hid (Nat.ne_of_gt (Nat.lt_of_lt_of_le (X_AQP.out.lt) lo_)); have NH := Lib.hid (Nat.ne_of_gt (Nat.lt_of_lt_of_le (X_AQP.out.lt) lp_)); obtain ⟨t0, t1⟩ := X_AQPS.out.cells; have f0 := X_AQPS.out.frozen 0; have f1 := X_AQPS.out.frozen 1; have z7 := X_AQPS.out.lt; have OA := Lib.hid oa_; have OB := Lib.hid ob_; clear lo_ lp_ ne_ sz_ sy_ oa_ ob_ b_)
            | (go_at_call 22; (with_reducible refine (HS.out gP hP gQ hQ _ PP_QAP.out PK_QAP.out QP_QAP.out QK_QAP.out).mono ?_); rintro e w_QAPS ⟨aX, cX, fX, dX, gX, hX, rfl, lo_, lp_, ne_, sz_, sy_, oa_, ob_, b_⟩; have E_QAPS := Lib.hid (E_QAP.out.trans (b_.mono E_QAP.out.size)); have X_QAPS := Lib.hid (X_QAP.out.below b_); have NG := Lib.hid (Nat.ne_of_gt (Nat.lt_of_lt_of_le (X_QAP.out.lt) lo_)); have NH := Lib.hid (Nat.ne_of_gt (Nat.lt_of_lt_of_le (X_QAP.out.lt) lp_)); obtain ⟨t0, t1⟩ := X_QAPS.out.cells; have f0 := X_QAPS.out.frozen 0; have f1 := X_QAPS.out.frozen 1; have z7 := X_QAPS.out.lt; have OA := Lib.hid oa_; have OB := Lib.hid ob_; clear lo_ lp_ ne_ sz_ sy_ oa_ ob_ b_)
            | (go_at_call 22; (with_reducible refine (HS.out gP hP gQ hQ _ (ints_alloc PP_QP.out (.cells #[.slice none 0 0, .slice none 0 0] 27)) (ints_alloc PK_QP.out (.cells #[.slice none 0 0, .slice none 0 0] 27)) (ints_alloc QP_QP.out (.cells #[.slice none 0 0, .slice none 0 0] 27)) (ints_alloc QK_QP.out (.cells #[.slice none 0 0, .slice none 0 0] 27))).mono ?_); rintro e w_QPAS ⟨aX, cX, fX, dX, gX, hX, rfl, lo_, lp_, ne_, sz_, sy_, oa_, ob_, b_⟩; have E_QPAS := Lib.hid ((E_QP.out.alloc E_QP.out.size (.cells #[.slice none 0 0, .slice none 0 0] 27)).trans (b_.mono (E_QP.out.alloc E_QP.out.size (.cells #[.slice none 0 0, .slice none 0 0] 27)).size)); have X_QPAS := Lib.hid ((Box2.new w_QP 27 (.slice none 0 0) (.slice none 0 0)).below b_); have NG := Lib.hid (Nat.ne_of_gt (Nat.lt_of_lt_of_le ((Box2.new w_QP 27 (.slice none 0 0) (.slice none 0 0)).lt) lo_)); have NH := Lib.hid (Nat.ne_of_gt (Nat.lt_of_lt_of_le ((Box2.new w_QP 27 (.slice none 0 0) (.slice none 0 0)).lt) lp_)); obtain ⟨t0, t1⟩ := X_QPAS.out.cells; have f0 := X_QPAS.out.frozen 0; have f1 := X_QPAS.out.frozen 1; have z7 := X_QPAS.out.lt; have OA := Lib.hid oa_; have OB := Lib.hid ob_; clear lo_ lp_ ne_ sz_ sy_ oa_ ob_ b_)
            | (go_at_call 22; (with_reducible refine (HS.out gP hP gQ hQ _ PP_PQ.out PK_PQ.out QP_PQ.out QK_PQ.out).mono ?_); rintro e w_PQS ⟨aX, cX, fX, dX, gX, hX, rfl, lo_, lp_, ne_, sz_, sy_, oa_, ob_, b_⟩; have E_PQS := Lib.hid (E_PQ.out.trans (b_.mono E_PQ.out.size)); have OA := Lib.hid oa_; have OB := Lib.hid ob_; clear lo_ lp_ ne_ sz_ sy_ oa_ ob_ b_)
            | (go_at_call 22; (with_reducible refine (HS.out gP hP gQ hQ _ PP_QP.out PK_QP.out QP_QP.out QK_QP.out).mono ?_); rintro e w_QPS ⟨aX, cX, fX, dX, gX, hX, rfl, lo_, lp_, ne_, sz_, sy_, oa_, ob_, b_⟩; have E_QPS := Lib.hid (E_QP.out.trans (b_.mono E_QP.out.size)); have OA := Lib.hid oa_; have OB := Lib.hid ob_; clear lo_ lp_ ne_ sz_ sy_ oa_ ob_ b_))
        all_goals
          go_wp2
          go_meet
          first
            | exact ⟨_, aX, cX, fX, dX, rfl, rfl, X_APQS.out.put2 _ _, ((OA.out.other NG.out _).other NG.out _).ints, ((OB.out.other NH.out _).other NH.out _).ints, (E_APQS.out.setCell E_.out.size _).setCell E_.out.size _⟩
            | exact ⟨_, aX, cX, fX, dX, rfl, rfl, X_PAQS.out.put2 _ _, ((OA.out.other NG.out _).other NG.out _).ints, ((OB.out.other NH.out _).other NH.out _).ints, (E_PAQS.out.setCell E_P.out.size _).setCell E_P.out.size _⟩
            | exact ⟨_, aX, cX, fX, dX, rfl, rfl, X_PQAS.out.put2 _ _, ((OA.out.other NG.out _).other NG.out _).ints, ((OB.out.other NH.out _).other NH.out _).ints, (E_PQAS.out.setCell E_PQ.out.size _).setCell E_PQ.out.size _⟩
            | exact ⟨_, aX, cX, fX, dX, rfl, rfl, Box2.new _ _ _ _, ints_alloc OA.out.ints _, ints_alloc OB.out.ints _, E_PQS.out.alloc E_PQS.out.size _⟩
            | exact ⟨_, aX, cX, fX, dX, rfl, rfl, X_AQPS.out.put2 _ _, ((OA.out.other NG.out _).other NG.out _).ints, ((OB.out.other NH.out _).other NH.out _).ints, (E_AQPS.out.setCell E_.out.size _).setCell E_.out.size _⟩
            | exact ⟨_, aX, cX, fX, dX, rfl, rfl, X_QAPS.out.put2 _ _, ((OA.out.other NG.out _).other NG.out _).ints, ((OB.out.other NH.out _).other NH.out _).ints, (E_QAPS.out.setCell E_Q.out.size _).setCell E_Q.out.size _⟩
            | exact ⟨_, aX, cX, fX, dX, rfl, rfl, X_QPAS.out.put2 _ _, ((OA.out.other NG.out _).other NG.out _).ints, ((OB.out.other NH.out _).other NH.out _).ints, (E_QPAS.out.setCell E_QP.out.size _).setCell E_QP.out.size _⟩
            | exact ⟨_, aX, cX, fX, dX, rfl, rfl, Box2.new _ _ _ _, ints_alloc OA.out.ints _, ints_alloc OB.out.ints _, E_QPS.out.alloc E_QPS.out.size _⟩
      case rest =>
        obtain ⟨bV, aV, cV, fV, dV, rfl, rfl, xV, vA, vQ, bV_⟩ := hcut
        have WB := Lib.hid (xV)
        have VA := Lib.hid (vA)
        have VQ := Lib.hid (vQ)
        have D3 := Lib.hid (D2.out.trans (bV_.mono D2.out.size))
        clear D2
        have V3 := Lib.hid (Below.refl wc.heap.size wc)
        clear xV vA vQ bV_
        have s3 := D3.out.size
        have hw3 := WB.out.lt
        obtain ⟨w3, hw3e⟩ : ∃ W, wc = W := ⟨_, rfl⟩
        subst hw3e
        obtain ⟨⟨y0, y1⟩, y2, y3⟩ := BX.out _ D3.out
        go_wp2_with fail
        refine (HT.out _ (G0.out.trans (D3.out.mono G0.out.size))).mono ?_
        rintro e w4 ⟨g4, h4, u4, v4, z4, rfl, p4, k4, b4⟩
        have D4 := Lib.hid (D3.out.trans (b4.mono D3.out.size))
        have V4 := Lib.hid (V3.out.trans (b4.mono V3.out.size))
        clear D3 V3
        clear b4 y0 y1 y2 y3
        have P4 := Lib.hid (p4)
        have K4 := Lib.hid (k4)
        clear p4 k4
        have XB := Lib.hid (fun W (G : Below (w4.alloc (.cells #[.slice (some ⟨g4, 0, none⟩) l0.length l0.length, .slice (some ⟨h4, 0, none⟩) r0.length r0.length] 27)).heap.size (w4.alloc (.cells #[.slice (some ⟨g4, 0, none⟩) l0.length l0.length, .slice (some ⟨h4, 0, none⟩) r0.length r0.length] 27)) W) => show W.cell? ⟨w4.heap.size, 0, none⟩ = some (.slice (some ⟨g4, 0, none⟩) l0.length l0.length) ∧ W.cell? ⟨w4.heap.size, 1, none⟩ = some (.slice (some ⟨h4, 0, none⟩) r0.length r0.length) from
          ⟨(G.cell (p := ⟨w4.heap.size, 0, none⟩) (by simp)).trans (by simp [go_sem]), (G.cell (p := ⟨w4.heap.size, 1, none⟩) (by simp)).trans (by simp [go_sem])⟩)
        have hxs : (w4.alloc (.cells #[.slice (some ⟨g4, 0, none⟩) l0.length l0.length, .slice (some ⟨h4, 0, none⟩) r0.length r0.length] 27)).heap.size = w4.heap.size + 1 := by simp
        have HXS := Lib.hid (hxs)
        clear hxs
        have D4b := Lib.hid (D4.out.alloc D4.out.size (.cells #[.slice (some ⟨g4, 0, none⟩) l0.length l0.length, .slice (some ⟨h4, 0, none⟩) r0.length r0.length] 27))
        have V4b := Lib.hid (V4.out.alloc V4.out.size (.cells #[.slice (some ⟨g4, 0, none⟩) l0.length l0.length, .slice (some ⟨h4, 0, none⟩) r0.length r0.length] 27))
        have P4b := Lib.hid (P4.out.below (below_all w4 (.cells #[.slice (some ⟨g4, 0, none⟩) l0.length l0.length, .slice (some ⟨h4, 0, none⟩) r0.length r0.length] 27)))
        have K4b := Lib.hid (K4.out.below (below_all w4 (.cells #[.slice (some ⟨g4, 0, none⟩) l0.length l0.length, .slice (some ⟨h4, 0, none⟩) r0.length r0.length] 27)))
        clear D4 V4 P4 K4
        have X4b := Lib.hid (Below.refl (w4.alloc (.cells #[.slice (some ⟨g4, 0, none⟩) l0.length l0.length, .slice (some ⟨h4, 0, none⟩) r0.length r0.length] 27)).heap.size (w4.alloc (.cells #[.slice (some ⟨g4, 0, none⟩) l0.length l0.length, .slice (some ⟨h4, 0, none⟩) r0.length r0.length] 27)))
        obtain ⟨⟨y0, y1⟩, y2, y3⟩ := BX.out _ D4b.out
        go_wp2_with fail
        generalize w4.alloc (.cells #[.slice (some ⟨g4, 0, none⟩) l0.length l0.length, .slice (some ⟨h4, 0, none⟩) r0.length r0.length] 27) = w4b at *
        refine (HT9.out _ (G0.out.trans (D4b.out.mono G0.out.size))).mono ?_
        rintro e w5 ⟨g5, h5, u5, v5, z5, rfl, p5, k5, b5⟩
        have D5 := Lib.hid (D4b.out.trans (b5.mono D4b.out.size))
        have V5 := Lib.hid (V4b.out.trans (b5.mono V4b.out.size))
        have P5 := Lib.hid (P4b.out.below b5)
        have K5 := Lib.hid (K4b.out.below b5)
        have X5 := Lib.hid (X4b.out.trans (b5.mono X4b.out.size))
        clear D4b V4b P4b K4b X4b
        clear b5 y0 y1 y2 y3
        have U5 := Lib.hid (p5)
        have N5 := Lib.hid (k5)
        clear p5 k5
        have YB := Lib.hid (fun W (G : Below (w5.alloc (.cells #[.slice (some ⟨g5, 0, none⟩) l9.length l9.length, .slice (some ⟨h5, 0, none⟩) r9.length r9.length] 27)).heap.size (w5.alloc (.cells #[.slice (some ⟨g5, 0, none⟩) l9.length l9.length, .slice (some ⟨h5, 0, none⟩) r9.length r9.length] 27)) W) => show W.cell? ⟨w5.heap.size, 0, none⟩ = some (.slice (some ⟨g5, 0, none⟩) l9.length l9.length) ∧ W.cell? ⟨w5.heap.size, 1, none⟩ = some (.slice (some ⟨h5, 0, none⟩) r9.length r9.length) from
          ⟨(G.cell (p := ⟨w5.heap.size, 0, none⟩) (by simp)).trans (by simp [go_sem]), (G.cell (p := ⟨w5.heap.size, 1, none⟩) (by simp)).trans (by simp [go_sem])⟩)
        have hys : (w5.alloc (.cells #[.slice (some ⟨g5, 0, none⟩) l9.length l9.length, .slice (some ⟨h5, 0, none⟩) r9.length r9.length] 27)).heap.size = w5.heap.size + 1 := by simp
        have HYS := Lib.hid (hys)
        clear hys
        have D5b := Lib.hid (D5.out.alloc D5.out.size (.cells #[.slice (some ⟨g5, 0, none⟩) l9.length l9.length, .slice (some ⟨h5, 0, none⟩) r9.length r9.length] 27))
        have V5b := Lib.hid (V5.out.alloc V5.out.size (.cells #[.slice (some ⟨g5, 0, none⟩) l9.length l9.length, .slice (some ⟨h5, 0, none⟩) r9.length r9.length] 27))
        have P5b := Lib.hid (P5.out.below (below_all w5 (.cells #[.slice (some ⟨g5, 0, none⟩) l9.length l9.length, .slice (some ⟨h5, 0, none⟩) r9.length r9.length] 27)))
        have K5b := Lib.hid (K5.out.below (below_all w5 (.cells #[.slice (some ⟨g5, 0, none⟩) l9.length l9.length, .slice (some ⟨h5, 0, none⟩) r9.length r9.length] 27)))
        have X5b := Lib.hid (X5.out.alloc X5.out.size (.cells #[.slice (some ⟨g5, 0, none⟩) l9.length l9.length, .slice (some ⟨h5, 0, none⟩) r9.length r9.length] 27))
        have U5b := Lib.hid (U5.out.below (below_all w5 (.cells #[.slice (some ⟨g5, 0, none⟩) l9.length l9.length, .slice (some ⟨h5, 0, none⟩) r9.length r9.length] 27)))
        have N5b := Lib.hid (N5.out.below (below_all w5 (.cells #[.slice (some ⟨g5, 0, none⟩) l9.length l9.length, .slice (some ⟨h5, 0, none⟩) r9.length r9.length] 27)))
        clear D5 V5 P5 K5 X5 U5 N5
        have Y5b := Lib.hid (Below.refl (w5.alloc (.cells #[.slice (some ⟨g5, 0, none⟩) l9.length l9.length, .slice (some ⟨h5, 0, none⟩) r9.length r9.length] 27)).heap.size (w5.alloc (.cells #[.slice (some ⟨g5, 0, none⟩) l9.length l9.length, .slice (some ⟨h5, 0, none⟩) r9.length r9.length] 27)))
        obtain ⟨z0, z1⟩ := XB.out _ X5b.out
        go_wp2_with fail
        generalize w5.alloc (.cells #[.slice (some ⟨g5, 0, none⟩) l9.length l9.length, .slice (some ⟨h5, 0, none⟩) r9.length r9.length] 27) = w5b at *
        refine (HI.out g4 h4 g5 h5 _ P5b.out.ints K5b.out.ints U5b.out.ints N5b.out.ints).mono ?_
        rintro e w6 ⟨aR, cR, fR, dR, gR, hR, rfl, loR, lpR, neR, szR, syR, oaR, obR, b6⟩
        have s6 := b6.size
        have x5 := X5b.out.size
        have D6 := Lib.hid (D5b.out.trans (b6.mono D5b.out.size))
        have V6 := Lib.hid (V5b.out.trans (b6.mono V5b.out.size))
        have P6 := Lib.hid (P5b.out.below b6)
        have K6 := Lib.hid (K5b.out.below b6)
        have X6 := Lib.hid (X5b.out.trans (b6.mono X5b.out.size))
        have U6 := Lib.hid (U5b.out.below b6)
        have N6 := Lib.hid (N5b.out.below b6)
        have Y6 := Lib.hid (Y5b.out.trans (b6.mono Y5b.out.size))
        clear D5b V5b P5b K5b X5b U5b N5b Y5b
        clear b6 z0 z1
        have hgR : w5.heap.size + 1 ≤ gR := by have := HYS.out; omega
        have hhR : w5.heap.size + 1 ≤ hR := by have := HYS.out; omega
        have hx4 : w4.heap.size + 1 ≤ g5 := by have := HXS.out; omega
        have hyw : w4.heap.size + 1 ≤ w5.heap.size := by omega
        have R6 := Lib.hid (oaR)
        have Q6 := Lib.hid (obR)
        clear oaR obR
        have D6b := Lib.hid (D6.out.alloc D6.out.size (.cells #[.slice aR Rp.length cR, .slice fR Rq.length dR] 27))
        have V6b := Lib.hid (V6.out.alloc V6.out.size (.cells #[.slice aR Rp.length cR, .slice fR Rq.length dR] 27))
        have P6b := Lib.hid (P6.out.below (below_all w6 (.cells #[.slice aR Rp.length cR, .slice fR Rq.length dR] 27)))
        have K6b := Lib.hid (K6.out.below (below_all w6 (.cells #[.slice aR Rp.length cR, .slice fR Rq.length dR] 27)))
        have X6b := Lib.hid (X6.out.alloc X6.out.size (.cells #[.slice aR Rp.length cR, .slice fR Rq.length dR] 27))
        have U6b := Lib.hid (U6.out.below (below_all w6 (.cells #[.slice aR Rp.length cR, .slice fR Rq.length dR] 27)))
        have N6b := Lib.hid (N6.out.below (below_all w6 (.cells #[.slice aR Rp.length cR, .slice fR Rq.length dR] 27)))
        have Y6b := Lib.hid (Y6.out.alloc Y6.out.size (.cells #[.slice aR Rp.length cR, .slice fR Rq.length dR] 27))
        have R6b := Lib.hid (R6.out.below (below_all w6 (.cells #[.slice aR Rp.length cR, .slice fR Rq.length dR] 27)))
        have Q6b := Lib.hid (Q6.out.below (below_all w6 (.cells #[.slice aR Rp.length cR, .slice fR Rq.length dR] 27)))
        clear D6 V6 P6 K6 X6 U6 N6 Y6 R6 Q6
        have B6b := Lib.hid (Box2.new w6 27 (.slice aR Rp.length cR) (.slice fR Rq.length dR))
        obtain ⟨i0, i1⟩ := B6b.out.cells
        obtain ⟨j0, j1⟩ := (WB.out.below V6b.out).cells
        go_wp2_with fail
        generalize w6.alloc (.cells #[.slice aR Rp.length cR, .slice fR Rq.length dR] 27) = w6b at *
        refine (eqTally_yes aR aV fR fV Rp Rq cR cV dR dV _ R6b.out.ints ((VA.out.below V6b.out (Nat.le_refl _)).more V6b.out.size) Q6b.out.ints ((VQ.out.below V6b.out (Nat.le_refl _)).more V6b.out.size) hr1 hr2).mono ?_
        rintro e w7 ⟨rfl, b7⟩
        have D7 := Lib.hid (D6b.out.trans (b7.mono D6b.out.size))
        have V7 := Lib.hid (V6b.out.trans (b7.mono V6b.out.size))
        have P7 := Lib.hid (P6b.out.below b7)
        have K7 := Lib.hid (K6b.out.below b7)
        have X7 := Lib.hid (X6b.out.trans (b7.mono X6b.out.size))
        have U7 := Lib.hid (U6b.out.below b7)
        have N7 := Lib.hid (N6b.out.below b7)
        have Y7 := Lib.hid (Y6b.out.trans (b7.mono Y6b.out.size))
        have R7 := Lib.hid (R6b.out.below b7)
        have Q7 := Lib.hid (Q6b.out.below b7)
        have B7 := Lib.hid (B6b.out.below b7)
        clear D6b V6b P6b K6b X6b U6b N6b Y6b R6b Q6b B6b
        clear b7
        clear i0 i1 j0 j1
        go_wp2_with fail
        have Dq := Lib.hid (D7.out.drew)
        have Vq := Lib.hid (V7.out.drew)
        have Pq := Lib.hid (P7.out.below (Drew.below (Drew.more (Drew.refl w7) 1) _))
        have Kq := Lib.hid (K7.out.below (Drew.below (Drew.more (Drew.refl w7) 1) _))
        have Xq := Lib.hid (X7.out.drew)
        have Uq := Lib.hid (U7.out.below (Drew.below (Drew.more (Drew.refl w7) 1) _))
        have Nq := Lib.hid (N7.out.below (Drew.below (Drew.more (Drew.refl w7) 1) _))
        have Yq := Lib.hid (Y7.out.drew)
        have Rq := Lib.hid (R7.out.below (Drew.below (Drew.more (Drew.refl w7) 1) _))
        have Qq := Lib.hid (Q7.out.below (Drew.below (Drew.more (Drew.refl w7) 1) _))
        have Bq := Lib.hid (B7.out.below (Drew.below (Drew.more (Drew.refl w7) 1) _))
        clear D7 V7 P7 K7 X7 U7 N7 Y7 R7 Q7 B7
        obtain ⟨⟨y0, y1⟩, y2, y3⟩ := BX.out _ Dq.out
        obtain ⟨z0, z1⟩ := XB.out _ Xq.out
        go_region_held3 (fun w' => (w'.cell? ⟨w.heap.size, 0, none⟩ = some (.slice a0 l0.length c0) ∧ w'.cell? ⟨w.heap.size, 1, none⟩ = some (.slice b0 r0.length d0)) ∧
            (w'.cell? ⟨w4.heap.size, 0, none⟩ = some (.slice (some ⟨g4, 0, none⟩) l0.length l0.length) ∧ w'.cell? ⟨w4.heap.size, 1, none⟩ = some (.slice (some ⟨h4, 0, none⟩) r0.length r0.length)))
          (first | exact ⟨(BX.out _ D9.out).1, XB.out _ X9.out⟩ | exact ⟨(BX.out _ D8.out).1, XB.out _ X8.out⟩ | go_keep)
          (first
            | (go_at_call 15; refine (HT.out _ (G0.out.trans (Dq.out.mono G0.out.size))).mono ?_; rintro e w8 ⟨g8, h8, u8, v8, q8, rfl, p8, k8, b8⟩; have D8 := Lib.hid (Dq.out.trans (b8.mono Dq.out.size)); have V8 := Lib.hid (Vq.out.trans (b8.mono Vq.out.size)); have P8 := Lib.hid (Pq.out.below b8); have K8 := Lib.hid (Kq.out.below b8); have X8 := Lib.hid (Xq.out.trans (b8.mono Xq.out.size)); have U8 := Lib.hid (Uq.out.below b8); have N8 := Lib.hid (Nq.out.below b8); have Y8 := Lib.hid (Yq.out.trans (b8.mono Yq.out.size)); have R8 := Lib.hid (Rq.out.below b8); have Q8 := Lib.hid (Qq.out.below b8); have B8 := Lib.hid (Bq.out.below b8); have F_ := Lib.hid p8.ints; have M_ := Lib.hid k8.ints; clear p8 k8 b8)
            | (go_at_call 17; refine (HE.out _ _ _ _ _ P8.out.ints F_.out K8.out.ints M_.out).mono ?_; rintro e w9 ⟨rfl, b9⟩; have D9 := Lib.hid (D8.out.trans (b9.mono D8.out.size)); have V9 := Lib.hid (V8.out.trans (b9.mono V8.out.size)); have P9 := Lib.hid (P8.out.below b9); have K9 := Lib.hid (K8.out.below b9); have X9 := Lib.hid (X8.out.trans (b9.mono X8.out.size)); have U9 := Lib.hid (U8.out.below b9); have N9 := Lib.hid (N8.out.below b9); have Y9 := Lib.hid (Y8.out.trans (b9.mono Y8.out.size)); have R9 := Lib.hid (R8.out.below b9); have Q9 := Lib.hid (Q8.out.below b9); have B9 := Lib.hid (B8.out.below b9); clear b9))
        rename_i hHeld
        clear hHeld y0 y1 y2 y3 z0 z1 F_ M_ Dq D8 Vq V8 Pq P8 Kq K8 Xq X8 Uq U8 Nq N8 Yq Y8 Rq R8 Qq Q8 Bq B8
        go_wp2_with fail
        have Dr := Lib.hid (D9.out.drew)
        have Vr := Lib.hid (V9.out.drew)
        have Pr := Lib.hid (P9.out.below (Drew.below (Drew.more (Drew.refl w9) 1) _))
        have Kr := Lib.hid (K9.out.below (Drew.below (Drew.more (Drew.refl w9) 1) _))
        have Xr := Lib.hid (X9.out.drew)
        have Ur := Lib.hid (U9.out.below (Drew.below (Drew.more (Drew.refl w9) 1) _))
        have Nr := Lib.hid (N9.out.below (Drew.below (Drew.more (Drew.refl w9) 1) _))
        have Yr := Lib.hid (Y9.out.drew)
        have Rr := Lib.hid (R9.out.below (Drew.below (Drew.more (Drew.refl w9) 1) _))
        have Qr := Lib.hid (Q9.out.below (Drew.below (Drew.more (Drew.refl w9) 1) _))
        have Br := Lib.hid (B9.out.below (Drew.below (Drew.more (Drew.refl w9) 1) _))
        clear D9 V9 P9 K9 X9 U9 N9 Y9 R9 Q9 B9
        obtain ⟨⟨y0, y1⟩, y2, y3⟩ := BX.out _ Dr.out
        obtain ⟨z0, z1⟩ := YB.out _ Yr.out
        go_region_held3 (fun w' => (w'.cell? ⟨w.heap.size + 1, 0, none⟩ = some (.slice a9 l9.length c9) ∧ w'.cell? ⟨w.heap.size + 1, 1, none⟩ = some (.slice b9 r9.length d9)) ∧
            (w'.cell? ⟨w5.heap.size, 0, none⟩ = some (.slice (some ⟨g5, 0, none⟩) l9.length l9.length) ∧ w'.cell? ⟨w5.heap.size, 1, none⟩ = some (.slice (some ⟨h5, 0, none⟩) r9.length r9.length)))
          (first | exact ⟨(BX.out _ D11.out).2, YB.out _ Y11.out⟩ | exact ⟨(BX.out _ D10.out).2, YB.out _ Y10.out⟩ | go_keep)
          (first
            | (go_at_call 15; refine (HT9.out _ (G0.out.trans (Dr.out.mono G0.out.size))).mono ?_; rintro e w10 ⟨g10, h10, u10, v10, q10, rfl, p10, k10, b10⟩; have D10 := Lib.hid (Dr.out.trans (b10.mono Dr.out.size)); have V10 := Lib.hid (Vr.out.trans (b10.mono Vr.out.size)); have P10 := Lib.hid (Pr.out.below b10); have K10 := Lib.hid (Kr.out.below b10); have X10 := Lib.hid (Xr.out.trans (b10.mono Xr.out.size)); have U10 := Lib.hid (Ur.out.below b10); have N10 := Lib.hid (Nr.out.below b10); have Y10 := Lib.hid (Yr.out.trans (b10.mono Yr.out.size)); have R10 := Lib.hid (Rr.out.below b10); have Q10 := Lib.hid (Qr.out.below b10); have B10 := Lib.hid (Br.out.below b10); have F_ := Lib.hid p10.ints; have M_ := Lib.hid k10.ints; clear p10 k10 b10)
            | (go_at_call 17; refine (HE9.out _ _ _ _ _ U10.out.ints F_.out N10.out.ints M_.out).mono ?_; rintro e w11 ⟨rfl, b11⟩; have D11 := Lib.hid (D10.out.trans (b11.mono D10.out.size)); have V11 := Lib.hid (V10.out.trans (b11.mono V10.out.size)); have P11 := Lib.hid (P10.out.below b11); have K11 := Lib.hid (K10.out.below b11); have X11 := Lib.hid (X10.out.trans (b11.mono X10.out.size)); have U11 := Lib.hid (U10.out.below b11); have N11 := Lib.hid (N10.out.below b11); have Y11 := Lib.hid (Y10.out.trans (b11.mono Y10.out.size)); have R11 := Lib.hid (R10.out.below b11); have Q11 := Lib.hid (Q10.out.below b11); have B11 := Lib.hid (B10.out.below b11); clear b11))
        rename_i hHeld
        clear hHeld y0 y1 y2 y3 z0 z1 F_ M_ Dr D10 Vr V10 Pr P10 Kr K10 Xr X10 Ur U10 Nr N10 Yr Y10 Rr R10 Qr Q10 Br B10
        obtain ⟨z0, z1⟩ := XB.out _ X11.out
        go_wp2_with fail
        have hg8 : g4 < w11.heap.size := by have := X11.out.size; have := HXS.out; omega
        have hh8 : h4 < w11.heap.size := by have := X11.out.size; have := HXS.out; omega
        have u5' := Y11.out.size
        have hy5 := HYS.out
        refine (markTally_any _ _ l0 r0 _ _ g4 h4 1 w11 P11.out K11.out (by omega) hg8 hh8 q0 q1 (by omega) (by omega)).mono ?_
        rintro e w12 ⟨rfl, _, _, t12⟩
        clear P11 K11 X11 z0 z1
        have YZ := Lib.hid (YB.out _ Y11.out)
        clear Y11
        have hyl : w5.heap.size < w11.heap.size := by omega
        obtain ⟨z0, z1⟩ := YZ.out
        have z0 := (World.cell?_of_block (a := ⟨w5.heap.size, 0, none⟩) (t12.2.2.2.2 w5.heap.size hyl (by omega) (by omega))).trans z0
        have z1 := (World.cell?_of_block (a := ⟨w5.heap.size, 1, none⟩) (t12.2.2.2.2 w5.heap.size hyl (by omega) (by omega))).trans z1
        have s12 := t12.2.2.2.1
        have D12 := Lib.hid (D11.out.trans (t12.below D11.out.size (by omega) (by omega)))
        have V12 := Lib.hid (V11.out.trans (t12.below V11.out.size (by omega) (by omega)))
        have U12 := Lib.hid (U11.out.keep (fun hg => t12.2.2.2.2 g5 hg (by omega) (by omega)))
        have N12 := Lib.hid (N11.out.keep (fun hg => t12.2.2.2.2 h5 hg (by omega) (by omega)))
        have R12 := Lib.hid (R11.out.keep (fun hg => t12.2.2.2.2 gR hg (by omega) (by omega)))
        have Q12 := Lib.hid (Q11.out.keep (fun hg => t12.2.2.2.2 hR hg (by omega) (by omega)))
        have B12 := Lib.hid (show Box2 w12 w6.heap.size 27 (.slice aR Rp.length cR) (.slice fR Rq.length dR) from (t12.2.2.2.2 _ B11.out.lt (by omega) (by omega)).trans B11.out)
        clear D11 V11 U11 N11 R11 Q11 B11
        clear t12 XB hg8 hh8 YZ
        obtain ⟨kk, hkk⟩ : ∃ q, (1 : Int) + (l0.length : Int) + (r0.length : Int) = q := ⟨_, rfl⟩
        have hkb : 0 ≤ kk ∧ kk ≤ 2097153 := by omega
        rw [hkk]
        clear hkk
        go_wp2_with fail
        have hg8 : g5 < w12.heap.size := by omega
        have hh8 : h5 < w12.heap.size := by omega
        refine (markTallyW_any _ _ l9 r9 _ _ g5 h5 kk w12 U12.out N12.out (by omega) hg8 hh8 q2 q3 (by omega) (by omega)).mono ?_
        rintro e w13 ⟨rfl, _, _, t13⟩
        clear U12 N12
        have D13 := Lib.hid (D12.out.trans (t13.below D12.out.size (by omega) (by omega)))
        have V13 := Lib.hid (V12.out.trans (t13.below V12.out.size (by omega) (by omega)))
        have R13 := Lib.hid (R12.out.keep (fun hg => t13.2.2.2.2 gR hg (by omega) (by omega)))
        have Q13 := Lib.hid (Q12.out.keep (fun hg => t13.2.2.2.2 hR hg (by omega) (by omega)))
        have B13 := Lib.hid (show Box2 w13 w6.heap.size 27 (.slice aR Rp.length cR) (.slice fR Rq.length dR) from (t13.2.2.2.2 _ B12.out.lt (by omega) (by omega)).trans B12.out)
        clear D12 V12 R12 Q12 B12
        clear t13 YB z0 z1 hg8 hh8 u5' hyl
        have hk13 : ¬ kk + (l9.length : Int) + (r9.length : Int) < 0 := by omega
        obtain ⟨i0, i1⟩ := B13.out.cells
        obtain ⟨j0, j1⟩ := (WB.out.below V13.out).cells
        go_wp2_with fail
        refine (eqTally_yes aR aV fR fV Rp Rq cR cV dR dV _ R13.out.ints ((VA.out.below V13.out (Nat.le_refl _)).more V13.out.size) Q13.out.ints ((VQ.out.below V13.out (Nat.le_refl _)).more V13.out.size) hr1 hr2).mono ?_
        rintro e w14 ⟨rfl, b14⟩
        have D14 := Lib.hid (D13.out.trans (b14.mono D13.out.size))
        have V14 := Lib.hid (V13.out.trans (b14.mono V13.out.size))
        have R14 := Lib.hid (R13.out.below b14)
        have Q14 := Lib.hid (Q13.out.below b14)
        have B14 := Lib.hid (B13.out.below b14)
        clear D13 V13 R13 Q13 B13
        clear b14
        clear i0 i1 j0 j1
        obtain ⟨i0, i1⟩ := B14.out.cells
        go_wp2_with fail
        have hg14 : gR < w14.heap.size := by have := B14.out.lt; omega
        have hh14 : hR < w14.heap.size := by have := B14.out.lt; omega
        refine (markTally_any _ _ Rp Rq _ _ gR hR 1 w14 R14.out Q14.out neR hg14 hh14 hr1 hr2 (by omega) (by omega)).mono ?_
        rintro e w15 ⟨rfl, m15, n15, t15⟩
        clear R14 Q14
        have D15 := Lib.hid (D14.out.trans (t15.below D14.out.size (by omega) (by omega)))
        have V15 := Lib.hid (V14.out.trans (t15.below V14.out.size (by omega) (by omega)))
        have B15 := Lib.hid (show Box2 w15 w6.heap.size 27 (.slice aR Rp.length cR) (.slice fR Rq.length dR) from (t15.2.2.2.2 _ B14.out.lt (by omega) (by omega)).trans B14.out)
        clear D14 V14 B14
        clear t15 i0 i1 hg14 hh14
        have R15 := Lib.hid (m15)
        have Q15 := Lib.hid (n15)
        clear m15 n15
        have hm15 : ¬ (1 : Int) + (Rp.length : Int) + (Rq.length : Int) < 0 := by omega
        obtain ⟨i0, i1⟩ := B15.out.cells
        go_wp2_with fail
        refine (heldTally_any aR fR Rp.length cR Rq.length dR 1 _ R15.out.ints Q15.out.ints hr1 hr2 (by omega) (by omega)).mono ?_
        rintro e w16 ⟨rfl, b16⟩
        have D16 := Lib.hid (D15.out.trans (b16.mono D15.out.size))
        have V16 := Lib.hid (V15.out.trans (b16.mono V15.out.size))
        have B16 := Lib.hid (B15.out.below b16)
        have R16 := Lib.hid (R15.out.below b16)
        have Q16 := Lib.hid (Q15.out.below b16)
        clear D15 V15 B15 R15 Q15
        clear b16 i0 i1
        go_upto_region 31 with fail
        go_cut [15, 16] (fun p t wx => ∃ (bX : Nat) (aX : Option Addr) (cX : Nat) (fX : Option Addr) (dX : Nat), p = .pointer (some ⟨bX, 0, none⟩) ∧ t = .bool rb ∧ Box2 wx bX 27 (.slice aX Rp.length cX) (.slice fX Rq.length dX) ∧ Ints .i64 wx wx.heap.size aX Rp ∧ Ints .i64 wx wx.heap.size fX Rq ∧ Below w16.heap.size w16 wx)
        case first =>
          have E_ := Lib.hid ((Below.refl w16.heap.size w16).drew)
          obtain ⟨⟨y0, y1⟩, y2, y3⟩ := BX.out _ (D16.out.trans (E_.out.mono D16.out.size))
          go_region_held3 (fun w' => (w'.cell? ⟨w.heap.size, 0, none⟩ = some (.slice a0 l0.length c0) ∧ w'.cell? ⟨w.heap.size, 1, none⟩ = some (.slice b0 r0.length d0)) ∧ (w'.cell? ⟨w.heap.size + 1, 0, none⟩ = some (.slice a9 l9.length c9) ∧ w'.cell? ⟨w.heap.size + 1, 1, none⟩ = some (.slice b9 r9.length d9)))
            (first
              | exact BX.out _ (D16.out.trans (E_QAPS.out.mono D16.out.size))
              | exact BX.out _ ((D16.out.trans (E_QAPS.out.mono D16.out.size)).alloc (D16.out.trans (E_QAPS.out.mono D16.out.size)).size _)
              | exact BX.out _ (((D16.out.trans (E_QAPS.out.mono D16.out.size)).setCell (D16.out.trans (E_Q.out.mono D16.out.size)).size _).setCell (D16.out.trans (E_Q.out.mono D16.out.size)).size _)
              | exact BX.out _ (D16.out.trans (E_QPAS.out.mono D16.out.size))
              | exact BX.out _ ((D16.out.trans (E_QPAS.out.mono D16.out.size)).alloc (D16.out.trans (E_QPAS.out.mono D16.out.size)).size _)
              | exact BX.out _ (((D16.out.trans (E_QPAS.out.mono D16.out.size)).setCell (D16.out.trans (E_QP.out.mono D16.out.size)).size _).setCell (D16.out.trans (E_QP.out.mono D16.out.size)).size _)
              | exact BX.out _ (D16.out.trans (E_PQAS.out.mono D16.out.size))
              | exact BX.out _ ((D16.out.trans (E_PQAS.out.mono D16.out.size)).alloc (D16.out.trans (E_PQAS.out.mono D16.out.size)).size _)
              | exact BX.out _ (((D16.out.trans (E_PQAS.out.mono D16.out.size)).setCell (D16.out.trans (E_PQ.out.mono D16.out.size)).size _).setCell (D16.out.trans (E_PQ.out.mono D16.out.size)).size _)
              | exact BX.out _ (D16.out.trans (E_AQPS.out.mono D16.out.size))
              | exact BX.out _ ((D16.out.trans (E_AQPS.out.mono D16.out.size)).alloc (D16.out.trans (E_AQPS.out.mono D16.out.size)).size _)
              | exact BX.out _ (((D16.out.trans (E_AQPS.out.mono D16.out.size)).setCell (D16.out.trans (E_.out.mono D16.out.size)).size _).setCell (D16.out.trans (E_.out.mono D16.out.size)).size _)
              | exact BX.out _ (D16.out.trans (E_APQS.out.mono D16.out.size))
              | exact BX.out _ ((D16.out.trans (E_APQS.out.mono D16.out.size)).alloc (D16.out.trans (E_APQS.out.mono D16.out.size)).size _)
              | exact BX.out _ (((D16.out.trans (E_APQS.out.mono D16.out.size)).setCell (D16.out.trans (E_.out.mono D16.out.size)).size _).setCell (D16.out.trans (E_.out.mono D16.out.size)).size _)
              | exact BX.out _ (D16.out.trans (E_PAQS.out.mono D16.out.size))
              | exact BX.out _ ((D16.out.trans (E_PAQS.out.mono D16.out.size)).alloc (D16.out.trans (E_PAQS.out.mono D16.out.size)).size _)
              | exact BX.out _ (((D16.out.trans (E_PAQS.out.mono D16.out.size)).setCell (D16.out.trans (E_P.out.mono D16.out.size)).size _).setCell (D16.out.trans (E_P.out.mono D16.out.size)).size _)
              | exact BX.out _ (D16.out.trans (E_AQP.out.mono D16.out.size))
              | exact BX.out _ ((D16.out.trans (E_AQP.out.mono D16.out.size)).alloc (D16.out.trans (E_AQP.out.mono D16.out.size)).size _)
              | exact BX.out _ (((D16.out.trans (E_AQP.out.mono D16.out.size)).setCell (D16.out.trans (E_.out.mono D16.out.size)).size _).setCell (D16.out.trans (E_.out.mono D16.out.size)).size _)
              | exact BX.out _ (D16.out.trans (E_QAP.out.mono D16.out.size))
              | exact BX.out _ ((D16.out.trans (E_QAP.out.mono D16.out.size)).alloc (D16.out.trans (E_QAP.out.mono D16.out.size)).size _)
              | exact BX.out _ (((D16.out.trans (E_QAP.out.mono D16.out.size)).setCell (D16.out.trans (E_Q.out.mono D16.out.size)).size _).setCell (D16.out.trans (E_Q.out.mono D16.out.size)).size _)
              | exact BX.out _ (D16.out.trans (E_PAQ.out.mono D16.out.size))
              | exact BX.out _ ((D16.out.trans (E_PAQ.out.mono D16.out.size)).alloc (D16.out.trans (E_PAQ.out.mono D16.out.size)).size _)
              | exact BX.out _ (((D16.out.trans (E_PAQ.out.mono D16.out.size)).setCell (D16.out.trans (E_P.out.mono D16.out.size)).size _).setCell (D16.out.trans (E_P.out.mono D16.out.size)).size _)
              | exact BX.out _ (D16.out.trans (E_APQ.out.mono D16.out.size))
              | exact BX.out _ ((D16.out.trans (E_APQ.out.mono D16.out.size)).alloc (D16.out.trans (E_APQ.out.mono D16.out.size)).size _)
              | exact BX.out _ (((D16.out.trans (E_APQ.out.mono D16.out.size)).setCell (D16.out.trans (E_.out.mono D16.out.size)).size _).setCell (D16.out.trans (E_.out.mono D16.out.size)).size _)
              | exact BX.out _ (D16.out.trans (E_PQS.out.mono D16.out.size))
              | exact BX.out _ ((D16.out.trans (E_PQS.out.mono D16.out.size)).alloc (D16.out.trans (E_PQS.out.mono D16.out.size)).size _)
              | exact BX.out _ (D16.out.trans (E_QPS.out.mono D16.out.size))
              | exact BX.out _ ((D16.out.trans (E_QPS.out.mono D16.out.size)).alloc (D16.out.trans (E_QPS.out.mono D16.out.size)).size _)
              | exact BX.out _ (D16.out.trans (E_AQ.out.mono D16.out.size))
              | exact BX.out _ ((D16.out.trans (E_AQ.out.mono D16.out.size)).alloc (D16.out.trans (E_AQ.out.mono D16.out.size)).size _)
              | exact BX.out _ (((D16.out.trans (E_AQ.out.mono D16.out.size)).setCell (D16.out.trans (E_.out.mono D16.out.size)).size _).setCell (D16.out.trans (E_.out.mono D16.out.size)).size _)
              | exact BX.out _ (D16.out.trans (E_AP.out.mono D16.out.size))
              | exact BX.out _ ((D16.out.trans (E_AP.out.mono D16.out.size)).alloc (D16.out.trans (E_AP.out.mono D16.out.size)).size _)
              | exact BX.out _ (((D16.out.trans (E_AP.out.mono D16.out.size)).setCell (D16.out.trans (E_.out.mono D16.out.size)).size _).setCell (D16.out.trans (E_.out.mono D16.out.size)).size _)
              | exact BX.out _ (D16.out.trans (E_PQ.out.mono D16.out.size))
              | exact BX.out _ ((D16.out.trans (E_PQ.out.mono D16.out.size)).alloc (D16.out.trans (E_PQ.out.mono D16.out.size)).size _)
              | exact BX.out _ (D16.out.trans (E_QP.out.mono D16.out.size))
              | exact BX.out _ ((D16.out.trans (E_QP.out.mono D16.out.size)).alloc (D16.out.trans (E_QP.out.mono D16.out.size)).size _)
              | exact BX.out _ (D16.out.trans (E_Q.out.mono D16.out.size))
              | exact BX.out _ ((D16.out.trans (E_Q.out.mono D16.out.size)).alloc (D16.out.trans (E_Q.out.mono D16.out.size)).size _)
              | exact BX.out _ (D16.out.trans (E_P.out.mono D16.out.size))
              | exact BX.out _ ((D16.out.trans (E_P.out.mono D16.out.size)).alloc (D16.out.trans (E_P.out.mono D16.out.size)).size _)
              | exact BX.out _ (D16.out.alloc D16.out.size _).drew
              | go_keep)
            (first
              | (go_at_call 15; (with_reducible refine (HT.out _ (G0.out.trans ((D16.out.trans (E_AQ.out.mono D16.out.size)).mono G0.out.size))).mono ?_); rintro e w_AQP ⟨gP, hP, u_, v_, z_, rfl, p_, k_, b_⟩; have E_AQP := Lib.hid (E_AQ.out.trans (b_.mono E_AQ.out.size)); have QP_AQP := Lib.hid (ints_below QP_AQ.out b_); have QK_AQP := Lib.hid (ints_below QK_AQ.out b_); have X_AQP := Lib.hid (X_AQ.out.below b_); have PP_AQP := Lib.hid p_.ints; have PK_AQP := Lib.hid k_.ints; clear p_ k_ b_ u_ v_ z_)
              | (go_at_call 15; (with_reducible refine (HT.out _ (G0.out.trans ((D16.out.trans ((E_Q.out.alloc E_Q.out.size (.cells #[.slice none 0 0, .slice none 0 0] 27)).mono D16.out.size)).mono G0.out.size))).mono ?_); rintro e w_QAP ⟨gP, hP, u_, v_, z_, rfl, p_, k_, b_⟩; have E_QAP := Lib.hid ((E_Q.out.alloc E_Q.out.size (.cells #[.slice none 0 0, .slice none 0 0] 27)).trans (b_.mono (E_Q.out.alloc E_Q.out.size (.cells #[.slice none 0 0, .slice none 0 0] 27)).size)); have QP_QAP := Lib.hid (ints_below (ints_alloc QP_Q.out (.cells #[.slice none 0 0, .slice none 0 0] 27)) b_); have QK_QAP := Lib.hid (ints_below (ints_alloc QK_Q.out (.cells #[.slice none 0 0, .slice none 0 0] 27)) b_); have X_QAP := Lib.hid ((Box2.new w_Q 27 (.slice none 0 0) (.slice none 0 0)).below b_); have PP_QAP := Lib.hid p_.ints; have PK_QAP := Lib.hid k_.ints; clear p_ k_ b_ u_ v_ z_)
              | (go_at_call 15; (with_reducible refine (HT.out _ (G0.out.trans ((D16.out.trans (E_Q.out.mono D16.out.size)).mono G0.out.size))).mono ?_); rintro e w_QP ⟨gP, hP, u_, v_, z_, rfl, p_, k_, b_⟩; have E_QP := Lib.hid (E_Q.out.trans (b_.mono E_Q.out.size)); have QP_QP := Lib.hid (ints_below QP_Q.out b_); have QK_QP := Lib.hid (ints_below QK_Q.out b_); have PP_QP := Lib.hid p_.ints; have PK_QP := Lib.hid k_.ints; clear p_ k_ b_ u_ v_ z_)
              | (go_at_call 15; (with_reducible refine (HT.out _ (G0.out.trans ((D16.out.trans ((below_all w16 (.cells #[.slice none 0 0, .slice none 0 0] 27)).drew.mono D16.out.size)).mono G0.out.size))).mono ?_); rintro e w_AP ⟨gP, hP, u_, v_, z_, rfl, p_, k_, b_⟩; have E_AP := Lib.hid ((below_all w16 (.cells #[.slice none 0 0, .slice none 0 0] 27)).drew.trans (b_.mono (below_all w16 (.cells #[.slice none 0 0, .slice none 0 0] 27)).drew.size)); have X_AP := Lib.hid ((show Box2 (w16.alloc (.cells #[.slice none 0 0, .slice none 0 0] 27)).drew w16.heap.size 27 (.slice none 0 0) (.slice none 0 0) from Box2.new w16 _ _ _).below b_); have PP_AP := Lib.hid p_.ints; have PK_AP := Lib.hid k_.ints; clear p_ k_ b_ u_ v_ z_)
              | (go_at_call 15; (with_reducible refine (HT.out _ (G0.out.trans ((D16.out.trans (E_.out.mono D16.out.size)).mono G0.out.size))).mono ?_); rintro e w_P ⟨gP, hP, u_, v_, z_, rfl, p_, k_, b_⟩; have E_P := Lib.hid (E_.out.trans (b_.mono E_.out.size)); have PP_P := Lib.hid p_.ints; have PK_P := Lib.hid k_.ints; clear p_ k_ b_ u_ v_ z_)
              | (go_at_call 15; (with_reducible refine (HT9.out _ (G0.out.trans ((D16.out.trans (E_AP.out.mono D16.out.size)).mono G0.out.size))).mono ?_); rintro e w_APQ ⟨gQ, hQ, u_, v_, z_, rfl, p_, k_, b_⟩; have E_APQ := Lib.hid (E_AP.out.trans (b_.mono E_AP.out.size)); have PP_APQ := Lib.hid (ints_below PP_AP.out b_); have PK_APQ := Lib.hid (ints_below PK_AP.out b_); have X_APQ := Lib.hid (X_AP.out.below b_); have QP_APQ := Lib.hid p_.ints; have QK_APQ := Lib.hid k_.ints; clear p_ k_ b_ u_ v_ z_)
              | (go_at_call 15; (with_reducible refine (HT9.out _ (G0.out.trans ((D16.out.trans ((E_P.out.alloc E_P.out.size (.cells #[.slice none 0 0, .slice none 0 0] 27)).mono D16.out.size)).mono G0.out.size))).mono ?_); rintro e w_PAQ ⟨gQ, hQ, u_, v_, z_, rfl, p_, k_, b_⟩; have E_PAQ := Lib.hid ((E_P.out.alloc E_P.out.size (.cells #[.slice none 0 0, .slice none 0 0] 27)).trans (b_.mono (E_P.out.alloc E_P.out.size (.cells #[.slice none 0 0, .slice none 0 0] 27)).size)); have PP_PAQ := Lib.hid (ints_below (ints_alloc PP_P.out (.cells #[.slice none 0 0, .slice none 0 0] 27)) b_); have PK_PAQ := Lib.hid (ints_below (ints_alloc PK_P.out (.cells #[.slice none 0 0, .slice none 0 0] 27)) b_); have X_PAQ := Lib.hid ((Box2.new w_P 27 (.slice none 0 0) (.slice none 0 0)).below b_); have QP_PAQ := Lib.hid p_.ints; have QK_PAQ := Lib.hid k_.ints; clear p_ k_ b_ u_ v_ z_)
              | (go_at_call 15; (with_reducible refine (HT9.out _ (G0.out.trans ((D16.out.trans (E_P.out.mono D16.out.size)).mono G0.out.size))).mono ?_); rintro e w_PQ ⟨gQ, hQ, u_, v_, z_, rfl, p_, k_, b_⟩; have E_PQ := Lib.hid (E_P.out.trans (b_.mono E_P.out.size)); have PP_PQ := Lib.hid (ints_below PP_P.out b_); have PK_PQ := Lib.hid (ints_below PK_P.out b_); have QP_PQ := Lib.hid p_.ints; have QK_PQ := Lib.hid k_.ints; clear p_ k_ b_ u_ v_ z_)
              | (go_at_call 15; (with_reducible refine (HT9.out _ (G0.out.trans ((D16.out.trans ((below_all w16 (.cells #[.slice none 0 0, .slice none 0 0] 27)).drew.mono D16.out.size)).mono G0.out.size))).mono ?_); rintro e w_AQ ⟨gQ, hQ, u_, v_, z_, rfl, p_, k_, b_⟩; have E_AQ := Lib.hid ((below_all w16 (.cells #[.slice none 0 0, .slice none 0 0] 27)).drew.trans (b_.mono (below_all w16 (.cells #[.slice none 0 0, .slice none 0 0] 27)).drew.size)); have X_AQ := Lib.hid ((show Box2 (w16.alloc (.cells #[.slice none 0 0, .slice none 0 0] 27)).drew w16.heap.size 27 (.slice none 0 0) (.slice none 0 0) from Box2.new w16 _ _ _).below b_); have QP_AQ := Lib.hid p_.ints; have QK_AQ := Lib.hid k_.ints; clear p_ k_ b_ u_ v_ z_)
              | (go_at_call 15; (with_reducible refine (HT9.out _ (G0.out.trans ((D16.out.trans (E_.out.mono D16.out.size)).mono G0.out.size))).mono ?_); rintro e w_Q ⟨gQ, hQ, u_, v_, z_, rfl, p_, k_, b_⟩; have E_Q := Lib.hid (E_.out.trans (b_.mono E_.out.size)); have QP_Q := Lib.hid p_.ints; have QK_Q := Lib.hid k_.ints; clear p_ k_ b_ u_ v_ z_)
              | (go_at_call 23; (with_reducible refine (HI.out gP hP gQ hQ _ PP_APQ.out PK_APQ.out QP_APQ.out QK_APQ.out).mono ?_); rintro e w_APQS ⟨aX, cX, fX, dX, gX, hX, rfl, lo_, lp_, ne_, sz_, sy_, oa_, ob_, b_⟩; have E_APQS := Lib.hid (E_APQ.out.trans (b_.mono E_APQ.out.size)); have X_APQS := Lib.hid (X_APQ.out.below b_); have NG := Lib.hid (Nat.ne_of_gt (Nat.lt_of_lt_of_le (X_APQ.out.lt) lo_)); have NH := Lib.hid (Nat.ne_of_gt (Nat.lt_of_lt_of_le (X_APQ.out.lt) lp_)); obtain ⟨t0, t1⟩ := X_APQS.out.cells; have f0 := X_APQS.out.frozen 0; have f1 := X_APQS.out.frozen 1; have z7 := X_APQS.out.lt; have OA := Lib.hid oa_; have OB := Lib.hid ob_; clear lo_ lp_ ne_ sz_ sy_ oa_ ob_ b_)
              | (go_at_call 23; (with_reducible refine (HI.out gP hP gQ hQ _ PP_PAQ.out PK_PAQ.out QP_PAQ.out QK_PAQ.out).mono ?_); rintro e w_PAQS ⟨aX, cX, fX, dX, gX, hX, rfl, lo_, lp_, ne_, sz_, sy_, oa_, ob_, b_⟩; have E_PAQS := Lib.hid (E_PAQ.out.trans (b_.mono E_PAQ.out.size)); have X_PAQS := Lib.hid (X_PAQ.out.below b_); have NG := Lib.hid (Nat.ne_of_gt (Nat.lt_of_lt_of_le (X_PAQ.out.lt) lo_)); have NH := Lib.hid (Nat.ne_of_gt (Nat.lt_of_lt_of_le (X_PAQ.out.lt) lp_)); obtain ⟨t0, t1⟩ := X_PAQS.out.cells; have f0 := X_PAQS.out.frozen 0; have f1 := X_PAQS.out.frozen 1; have z7 := X_PAQS.out.lt; have OA := Lib.hid oa_; have OB := Lib.hid ob_; clear lo_ lp_ ne_ sz_ sy_ oa_ ob_ b_)
              | (go_at_call 23; (with_reducible refine (HI.out gP hP gQ hQ _ (ints_alloc PP_PQ.out (.cells #[.slice none 0 0, .slice none 0 0] 27)) (ints_alloc PK_PQ.out (.cells #[.slice none 0 0, .slice none 0 0] 27)) (ints_alloc QP_PQ.out (.cells #[.slice none 0 0, .slice none 0 0] 27)) (ints_alloc QK_PQ.out (.cells #[.slice none 0 0, .slice none 0 0] 27))).mono ?_); rintro e w_PQAS ⟨aX, cX, fX, dX, gX, hX, rfl, lo_, lp_, ne_, sz_, sy_, oa_, ob_, b_⟩; have E_PQAS := Lib.hid ((E_PQ.out.alloc E_PQ.out.size (.cells #[.slice none 0 0, .slice none 0 0] 27)).trans (b_.mono (E_PQ.out.alloc E_PQ.out.size (.cells #[.slice none 0 0, .slice none 0 0] 27)).size)); have X_PQAS := Lib.hid ((Box2.new w_PQ 27 (.slice none 0 0) (.slice none 0 0)).below b_); have NG := Lib.hid (Nat.ne_of_gt (Nat.lt_of_lt_of_le ((Box2.new w_PQ 27 (.slice none 0 0) (.slice none 0 0)).lt) lo_)); have NH := Lib.hid (Nat.ne_of_gt (Nat.lt_of_lt_of_le ((Box2.new w_PQ 27 (.slice none 0 0) (.slice none 0 0)).lt) lp_)); obtain ⟨t0, t1⟩ := X_PQAS.out.cells; have f0 := X_PQAS.out.frozen 0; have f1 := X_PQAS.out.frozen 1; have z7 := X_PQAS.out.lt; have OA := Lib.hid oa_; have OB := Lib.hid ob_; clear lo_ lp_ ne_ sz_ sy_ oa_ ob_ b_)
              | (go_at_call 23; (with_reducible refine (HI.out gP hP gQ hQ _ PP_AQP.out PK_AQP.out QP_AQP.out QK_AQP.out).mono ?_); rintro e w_AQPS ⟨aX, cX, fX, dX, gX, hX, rfl, lo_, lp_, ne_, sz_, sy_, oa_, ob_, b_⟩; have E_AQPS := Lib.hid (E_AQP.out.trans (b_.mono E_AQP.out.size)); have X_AQPS := Lib.hid (X_AQP.out.below b_); have NG := Lib.hid (Nat.ne_of_gt (Nat.lt_of_lt_of_le (X_AQP.out.lt) lo_)); have NH := Lib.hid (Nat.ne_of_gt (Nat.lt_of_lt_of_le (X_AQP.out.lt) lp_)); obtain ⟨t0, t1⟩ := X_AQPS.out.cells; have f0 := X_AQPS.out.frozen 0; have f1 := X_AQPS.out.frozen 1; have z7 := X_AQPS.out.lt; have OA := Lib.hid oa_; have OB := Lib.hid ob_; clear lo_ lp_ ne_ sz_ sy_ oa_ ob_ b_)
              | (go_at_call 23; (with_reducible refine (HI.out gP hP gQ hQ _ PP_QAP.out PK_QAP.out QP_QAP.out QK_QAP.out).mono ?_); rintro e w_QAPS ⟨aX, cX, fX, dX, gX, hX, rfl, lo_, lp_, ne_, sz_, sy_, oa_, ob_, b_⟩; have E_QAPS := Lib.hid (E_QAP.out.trans (b_.mono E_QAP.out.size)); have X_QAPS := Lib.hid (X_QAP.out.below b_); have NG := Lib.hid (Nat.ne_of_gt (Nat.lt_of_lt_of_le (X_QAP.out.lt) lo_)); have NH := Lib.hid (Nat.ne_of_gt (Nat.lt_of_lt_of_le (X_QAP.out.lt) lp_)); obtain ⟨t0, t1⟩ := X_QAPS.out.cells; have f0 := X_QAPS.out.frozen 0; have f1 := X_QAPS.out.frozen 1; have z7 := X_QAPS.out.lt; have OA := Lib.hid oa_; have OB := Lib.hid ob_; clear lo_ lp_ ne_ sz_ sy_ oa_ ob_ b_)
              | (go_at_call 23; (with_reducible refine (HI.out gP hP gQ hQ _ (ints_alloc PP_QP.out (.cells #[.slice none 0 0, .slice none 0 0] 27)) (ints_alloc PK_QP.out (.cells #[.slice none 0 0, .slice none 0 0] 27)) (ints_alloc QP_QP.out (.cells #[.slice none 0 0, .slice none 0 0] 27)) (ints_alloc QK_QP.out (.cells #[.slice none 0 0, .slice none 0 0] 27))).mono ?_); rintro e w_QPAS ⟨aX, cX, fX, dX, gX, hX, rfl, lo_, lp_, ne_, sz_, sy_, oa_, ob_, b_⟩; have E_QPAS := Lib.hid ((E_QP.out.alloc E_QP.out.size (.cells #[.slice none 0 0, .slice none 0 0] 27)).trans (b_.mono (E_QP.out.alloc E_QP.out.size (.cells #[.slice none 0 0, .slice none 0 0] 27)).size)); have X_QPAS := Lib.hid ((Box2.new w_QP 27 (.slice none 0 0) (.slice none 0 0)).below b_); have NG := Lib.hid (Nat.ne_of_gt (Nat.lt_of_lt_of_le ((Box2.new w_QP 27 (.slice none 0 0) (.slice none 0 0)).lt) lo_)); have NH := Lib.hid (Nat.ne_of_gt (Nat.lt_of_lt_of_le ((Box2.new w_QP 27 (.slice none 0 0) (.slice none 0 0)).lt) lp_)); obtain ⟨t0, t1⟩ := X_QPAS.out.cells; have f0 := X_QPAS.out.frozen 0; have f1 := X_QPAS.out.frozen 1; have z7 := X_QPAS.out.lt; have OA := Lib.hid oa_; have OB := Lib.hid ob_; clear lo_ lp_ ne_ sz_ sy_ oa_ ob_ b_)
              | (go_at_call 23; (with_reducible refine (HI.out gP hP gQ hQ _ PP_PQ.out PK_PQ.out QP_PQ.out QK_PQ.out).mono ?_); rintro e w_PQS ⟨aX, cX, fX, dX, gX, hX, rfl, lo_, lp_, ne_, sz_, sy_, oa_, ob_, b_⟩; have E_PQS := Lib.hid (E_PQ.out.trans (b_.mono E_PQ.out.size)); have OA := Lib.hid oa_; have OB := Lib.hid ob_; clear lo_ lp_ ne_ sz_ sy_ oa_ ob_ b_)
              | (go_at_call 23; (with_reducible refine (HI.out gP hP gQ hQ _ PP_QP.out PK_QP.out QP_QP.out QK_QP.out).mono ?_); rintro e w_QPS ⟨aX, cX, fX, dX, gX, hX, rfl, lo_, lp_, ne_, sz_, sy_, oa_, ob_, b_⟩; have E_QPS := Lib.hid (E_QP.out.trans (b_.mono E_QP.out.size)); have OA := Lib.hid oa_; have OB := Lib.hid ob_; clear lo_ lp_ ne_ sz_ sy_ oa_ ob_ b_))
          all_goals
            go_wp2
            go_meet
            first
              | exact ⟨_, aX, cX, fX, dX, rfl, rfl, X_APQS.out.put2 _ _, ((OA.out.other NG.out _).other NG.out _).ints, ((OB.out.other NH.out _).other NH.out _).ints, (E_APQS.out.setCell E_.out.size _).setCell E_.out.size _⟩
              | exact ⟨_, aX, cX, fX, dX, rfl, rfl, X_PAQS.out.put2 _ _, ((OA.out.other NG.out _).other NG.out _).ints, ((OB.out.other NH.out _).other NH.out _).ints, (E_PAQS.out.setCell E_P.out.size _).setCell E_P.out.size _⟩
              | exact ⟨_, aX, cX, fX, dX, rfl, rfl, X_PQAS.out.put2 _ _, ((OA.out.other NG.out _).other NG.out _).ints, ((OB.out.other NH.out _).other NH.out _).ints, (E_PQAS.out.setCell E_PQ.out.size _).setCell E_PQ.out.size _⟩
              | exact ⟨_, aX, cX, fX, dX, rfl, rfl, Box2.new _ _ _ _, ints_alloc OA.out.ints _, ints_alloc OB.out.ints _, E_PQS.out.alloc E_PQS.out.size _⟩
              | exact ⟨_, aX, cX, fX, dX, rfl, rfl, X_AQPS.out.put2 _ _, ((OA.out.other NG.out _).other NG.out _).ints, ((OB.out.other NH.out _).other NH.out _).ints, (E_AQPS.out.setCell E_.out.size _).setCell E_.out.size _⟩
              | exact ⟨_, aX, cX, fX, dX, rfl, rfl, X_QAPS.out.put2 _ _, ((OA.out.other NG.out _).other NG.out _).ints, ((OB.out.other NH.out _).other NH.out _).ints, (E_QAPS.out.setCell E_Q.out.size _).setCell E_Q.out.size _⟩
              | exact ⟨_, aX, cX, fX, dX, rfl, rfl, X_QPAS.out.put2 _ _, ((OA.out.other NG.out _).other NG.out _).ints, ((OB.out.other NH.out _).other NH.out _).ints, (E_QPAS.out.setCell E_QP.out.size _).setCell E_QP.out.size _⟩
              | exact ⟨_, aX, cX, fX, dX, rfl, rfl, Box2.new _ _ _ _, ints_alloc OA.out.ints _, ints_alloc OB.out.ints _, E_QPS.out.alloc E_QPS.out.size _⟩
        case rest =>
          obtain ⟨bH, aH, cH, fH, dH, rfl, rfl, xH, hA, hQ, bH_⟩ := hcut
          have D17 := Lib.hid (D16.out.trans (bH_.mono D16.out.size))
          have V17 := Lib.hid (V16.out.trans (bH_.mono V16.out.size))
          have B17 := Lib.hid (B16.out.below bH_)
          have R17 := Lib.hid (R16.out.below bH_)
          have Q17 := Lib.hid (Q16.out.below bH_)
          clear D16 V16 B16 R16 Q16
          have HA := Lib.hid (hA)
          have HQ_ := Lib.hid (hQ)
          obtain ⟨i0, i1⟩ := xH.cells
          clear xH hA hQ bH_
          obtain ⟨j0, j1⟩ := (WB.out.below V17.out).cells
          go_wp2_with fail
          refine (eqTally_yes aH aV fH fV Rp Rq cH cV dH dV _ HA.out ((VA.out.below V17.out (Nat.le_refl _)).more V17.out.size) HQ_.out ((VQ.out.below V17.out (Nat.le_refl _)).more V17.out.size) hr1 hr2).mono ?_
          rintro e w18 ⟨rfl, b18⟩
          have D18 := Lib.hid (D17.out.trans (b18.mono D17.out.size))
          have V18 := Lib.hid (V17.out.trans (b18.mono V17.out.size))
          have B18 := Lib.hid (B17.out.below b18)
          have R18 := Lib.hid (R17.out.below b18)
          have Q18 := Lib.hid (Q17.out.below b18)
          clear D17 V17 B17 R17 Q17
          clear b18
          clear i0 i1 j0 j1 HA HQ_
          obtain ⟨i0, i1⟩ := B18.out.cells
          go_wp2_with fail
          refine (heldTally_any aR fR Rp.length cR Rq.length dR 1 _ R18.out.ints Q18.out.ints hr1 hr2 (by omega) (by omega)).mono ?_
          rintro e w19 ⟨rfl, b19⟩
          go_wp2
          go_ret
          exact ⟨rfl, G0.out.trans ((D18.out.trans (b19.mono D18.out.size)).mono G0.out.size)⟩
    · rw [if_neg hn2] at HZ9
      go_enter Try.func5, Try.ntmps5
      go_wp2_with fail
      refine (HZ.out _).mono ?_
      rintro e w1 ⟨rfl, b1⟩
      have D1 := Lib.hid (D0.out.trans (b1.mono (Nat.le_refl _)))
      clear b1
      obtain ⟨_, y2, y3⟩ := BX.out _ D1.out
      go_wp2_with fail
      refine (HZ9.out _).mono ?_
      rintro e w2 ⟨rfl, b2⟩
      have D2 := Lib.hid (D1.out.trans (b2.mono D1.out.size))
      clear b2
      go_wp2_with fail
      go_ret
      exact ⟨rfl, G0.out.trans (D2.out.mono G0.out.size)⟩
  · rw [if_neg hn] at HZ
    go_enter Try.func5, Try.ntmps5
    go_wp2_with fail
    refine (HZ.out _).mono ?_
    rintro e w1 ⟨rfl, b1⟩
    have G1 := Lib.hid (D0.out.trans (b1.mono (Nat.le_refl _)))
    clear b1
    go_wp2_with fail
    go_ret
    exact ⟨rfl, G0.out.trans (G1.out.mono G0.out.size)⟩
end Go.Proofs.Ytjpiiidjocilcaa
