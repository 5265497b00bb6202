/- AddTallies: the program's. -/
import Derived.Test.YtjpiiidjocilcaaAddS
import Derived.Test.YtjpiiidjocilcaaPair
import Derived.Test.YtjpiiidjocilcaaTlImpl
import Derived.Deep.RegionHeld3
import Derived.Deep.DeepCutAuto
namespace Go.Proofs.Ytjpiiidjocilcaa
open Go.RowKit
set_option linter.unusedVariables false
set_option linter.unusedSimpArgs false
theorem sum_rule (w : World) : RuleAt 62 #[] (fun (x y : Int) => x + y) w := rule_of fun W x y hx hy => by
  have h1 := cell_bd hx
  have h2 := cell_bd hy
  show Calls _ _ _ W fun e w' => e = .returned (.int .i64 (x + y)) ∧ W = w'
  clear hx hy
  obtain ⟨a1, a2⟩ := h1
  obtain ⟨b1, b2⟩ := h2
  go_enter Try.func62, Try.ntmps62
  go_wp2
  go_ret
  exact ⟨rfl, rfl⟩
theorem ent_sum : Entered 62 := enters_of Try.func62 (by kernel_rfl) rfl
theorem pairG_any (a a2 : Option Addr) (l l2 : List Int) (c c2 : Nat) (w : World) (hl : Ints .i64 w w.heap.size a l) (hl2 : Ints .i64 w w.heap.size a2 l2) (he : l.length = l2.length) (h0 : 0 < l.length) (hn : l.length ≤ 1048576) (k1 : ∀ z ∈ l, 0 ≤ z ∧ z ≤ 1000) (k2 : ∀ z ∈ l2, 0 ≤ z ∧ z ≤ 1000) :
    Calls Try.prog 63 #[.slice a l.length c, .slice a2 l2.length c2, .func (.func 62) #[] #[]] w fun e w' => ∃ g c', e = .returned (.slice (some ⟨g, 0, none⟩) (zAdd l l2).length c') ∧ w.heap.size ≤ g ∧ GeR w' g (zAdd l l2) ∧ Below w.heap.size w w' :=
  (pairI_any a a2 l l2 c c2 _ #[] (fun (x y : Int) => x + y) w hl hl2 he hn ent_sum (sum_rule w) (fun z hz => cellB_iff.2 (by have := k1 z hz; omega)) (fun z hz => cellB_iff.2 (by have := k2 z hz; omega))).mono fun e w' ⟨a', c', h1, ⟨g, hg, hat⟩, hb⟩ => by
    have hl3 := zipR_len (fun (x y : Int) => x + y) he
    rcases hat with h2 | ⟨h2, h3⟩
    · rw [h2] at hl3; simp at hl3; omega
    · exact ⟨g, c', by rw [h1, h2]; rfl, hg, h3, hb⟩
theorem far2 {w : World} {b k : Nat} {cs : List Int} {v0 v1 : Value} (h : GeR w b cs) (hx : Box2 w k 27 v0 v1) : b ≠ k := Row.far h hx (by decide)
theorem tl_mem {l r : List Int} (h : tlB l r = true) : (∀ z ∈ l, 0 ≤ z ∧ z ≤ 1000) ∧ ∀ z ∈ r, 0 ≤ z ∧ z ≤ 1000 := by
  obtain ⟨h1, h2⟩ := tl_len h
  constructor
  · intro z hz
    obtain ⟨k, hk, rfl⟩ := List.getElem_of_mem hz
    exact (tl_in h hk (by omega)).1
  · intro z hz
    obtain ⟨k, hk, rfl⟩ := List.getElem_of_mem hz
    have h3 := tl_in h (k := k) (by omega) hk
    omega
set_option maxRecDepth 100000 in
set_option maxHeartbeats 8000000 in
theorem implAddT_any (a b a2 b2 : Option Addr) (l r l2 r2 : List Int) (c d c2 d2 : Nat) (w : World) (hl : Ints .i64 w w.heap.size a l) (hr : Ints .i64 w w.heap.size b r) (hl2 : Ints .i64 w w.heap.size a2 l2) (hr2 : Ints .i64 w w.heap.size b2 r2) :
    Calls Try.prog 23 #[.agg #[.slice a l.length c, .slice b r.length d], .agg #[.slice a2 l2.length c2, .slice b2 r2.length d2]] w (TRet (adP l r l2 r2) (adQ l r l2 r2) (adB l r l2 r2) w) := by
  have hW0 : ∀ o1 o2 o3, Below w.heap.size w (((w.alloc o1).alloc o2).alloc o3) := fun o1 o2 o3 => (((Below.refl _ _).alloc (Nat.le_refl _) _).alloc (by simp) _).alloc (by simp; omega) _
  have B0 := Lib.hid (hW0 (.cells #[.slice a l.length c, .slice b r.length d] 27) (.cells #[.slice a2 l2.length c2, .slice b2 r2.length d2] 27) (.cells #[.slice none 0 0, .slice none 0 0] 27))
  have hs0 : (((w.alloc (.cells #[.slice a l.length c, .slice b r.length d] 27)).alloc (.cells #[.slice a2 l2.length c2, .slice b2 r2.length d2] 27)).alloc (.cells #[.slice none 0 0, .slice none 0 0] 27)).heap.size = w.heap.size + 3 := by simp
  have X1 := Lib.hid (((Box2.new w 27 (.slice a l.length c) (.slice b r.length d)).alloc (.cells #[.slice a2 l2.length c2, .slice b2 r2.length d2] 27)).alloc (.cells #[.slice none 0 0, .slice none 0 0] 27))
  have x2 := (Box2.new (w.alloc (.cells #[.slice a l.length c, .slice b r.length d] 27)) 27 (.slice a2 l2.length c2) (.slice b2 r2.length d2)).alloc (.cells #[.slice none 0 0, .slice none 0 0] 27)
  have x3 := Box2.new ((w.alloc (.cells #[.slice a l.length c, .slice b r.length d] 27)).alloc (.cells #[.slice a2 l2.length c2, .slice b2 r2.length d2] 27)) 27 (.slice none 0 0) (.slice none 0 0)
  rw [World.size_alloc] at x2
  rw [World.size_alloc, World.size_alloc] at x3
  have X2 := Lib.hid x2
  have X3 := Lib.hid x3
  have HG := Lib.hid (fun (W : World) (G : Below w.heap.size w W) => implTlIs_any a b l r c d W ((hl.below G (Nat.le_refl _)).more G.size) ((hr.below G (Nat.le_refl _)).more G.size))
  have HG2 := Lib.hid (fun (W : World) (G : Below w.heap.size w W) => implTlIs_any a2 b2 l2 r2 c2 d2 W ((hl2.below G (Nat.le_refl _)).more G.size) ((hr2.below G (Nat.le_refl _)).more G.size))
  have HS0 := Lib.hid hs0
  have HL := Lib.hid hl
  have HR := Lib.hid hr
  have HL2 := Lib.hid hl2
  have HR2 := Lib.hid hr2
  clear hl hr hl2 hr2 hW0 hs0 x2 x3
  cases ht : tlB l r with
  | false =>
    have eB : adB l r l2 r2 = false := by unfold adB; rw [ht]; rfl
    rw [(ad_no eB).1, (ad_no eB).2, eB]
    rw [ht] at HG
    clear ht eB
    go_enter Try.func23, Try.ntmps23
    go_wp2_with fail
    generalize ((w.alloc (.cells #[.slice a l.length c, .slice b r.length d] 27)).alloc (.cells #[.slice a2 l2.length c2, .slice b2 r2.length d2] 27)).alloc (.cells #[.slice none 0 0, .slice none 0 0] 27) = W0 at *
    refine (HG.out _ B0.out).mono ?_
    rintro e w1 ⟨rfl, b1⟩
    have HB := Lib.hid (B0.out.trans (b1.mono B0.out.size))
    have X4 := Lib.hid (X3.out.below b1)
    obtain ⟨t0, t1⟩ := X4.out.cells
    have f0 := X4.out.frozen 0
    have f1 := X4.out.frozen 1
    have z4 := X4.out.lt
    clear b1
    go_wp2
    refine bodyPost_ret (v := .tuple #[.agg #[.slice none 0 0, .slice none 0 0], .bool false]) (by simp [results, Try.results23, go_sem, t0, t1, f0, f1, z4]) rfl (tret_no ?_ ?_)
    · simp only [World.size_setCell]; omega
    · exact (HB.out.setCell (by simp; omega) _).setCell (by simp; omega) _
  | true =>
    rw [ht] at HG
    cases ht2 : tlB l2 r2 with
    | false =>
      have eB : adB l r l2 r2 = false := by unfold adB; rw [ht, ht2]; rfl
      rw [(ad_no eB).1, (ad_no eB).2, eB]
      rw [ht2] at HG2
      clear ht ht2 eB
      go_enter Try.func23, Try.ntmps23
      go_wp2_with fail
      generalize ((w.alloc (.cells #[.slice a l.length c, .slice b r.length d] 27)).alloc (.cells #[.slice a2 l2.length c2, .slice b2 r2.length d2] 27)).alloc (.cells #[.slice none 0 0, .slice none 0 0] 27) = W0 at *
      refine (HG.out _ B0.out).mono ?_
      rintro e w1 ⟨rfl, b1⟩
      have HB := Lib.hid (B0.out.trans (b1.mono B0.out.size))
      obtain ⟨k0, k1⟩ := (X2.out.below b1).cells
      have X4 := Lib.hid (X3.out.below b1)
      clear b1
      go_wp2_with fail
      refine (HG2.out _ HB.out).mono ?_
      rintro e w2 ⟨rfl, b2⟩
      have HB2 := Lib.hid (HB.out.trans (b2.mono HB.out.size))
      have X5 := Lib.hid (X4.out.below b2)
      obtain ⟨t0, t1⟩ := X5.out.cells
      have f0 := X5.out.frozen 0
      have f1 := X5.out.frozen 1
      have z4 := X5.out.lt
      clear b2 k0 k1
      go_wp2
      refine bodyPost_ret (v := .tuple #[.agg #[.slice none 0 0, .slice none 0 0], .bool false]) (by simp [results, Try.results23, go_sem, t0, t1, f0, f1, z4]) rfl (tret_no ?_ ?_)
      · simp only [World.size_setCell]; omega
      · exact (HB2.out.setCell (by simp; omega) _).setCell (by simp; omega) _
    | true =>
      rw [ht2] at HG2
      obtain ⟨l11, r11⟩ := tl_len ht
      obtain ⟨m11, n11⟩ := tl_len ht2
      have T1 := tl_mem ht
      have T2 := tl_mem ht2
      have HPa := Lib.hid (fun (W : World) (G : Below w.heap.size w W) => pairG_any a a2 l l2 c c2 W ((HL.out.below G (Nat.le_refl _)).more G.size) ((HL2.out.below G (Nat.le_refl _)).more G.size) (by omega) (by omega) (by omega) T1.1 T2.1)
      have HQa := Lib.hid (fun (W : World) (G : Below w.heap.size w W) => pairG_any b b2 r r2 d d2 W ((HR.out.below G (Nat.le_refl _)).more G.size) ((HR2.out.below G (Nat.le_refl _)).more G.size) (by omega) (by omega) (by omega) T1.2 T2.2)
      have ZL := Lib.hid (show (zAdd l l2).length = 11 from (zipR_len (fun (x y : Int) => x + y) (show l.length = l2.length by omega)).trans l11)
      have ZR := Lib.hid (show (zAdd r r2).length = 11 from (zipR_len (fun (x y : Int) => x + y) (show r.length = r2.length by omega)).trans r11)
      clear T1 T2
      have hadB : adB l r l2 r2 = tlB (zAdd l l2) (zAdd r r2) := by unfold adB; rw [ht, ht2]; rfl
      have HNO := Lib.hid (fun h => ad_no (l := l) (r := r) (l2 := l2) (r2 := r2) h)
      have HYES := Lib.hid (fun h => ad_yes (l := l) (r := r) (l2 := l2) (r2 := r2) h)
      have HAD := Lib.hid hadB
      clear ht ht2 l11 r11 m11 n11 hadB
      go_enter Try.func23, Try.ntmps23
      go_wp2_with fail
      generalize ((w.alloc (.cells #[.slice a l.length c, .slice b r.length d] 27)).alloc (.cells #[.slice a2 l2.length c2, .slice b2 r2.length d2] 27)).alloc (.cells #[.slice none 0 0, .slice none 0 0] 27) = W0 at *
      refine (HG.out _ B0.out).mono ?_
      rintro e w1 ⟨rfl, b1⟩
      have HB := Lib.hid (B0.out.trans (b1.mono B0.out.size))
      have D1 := Lib.hid b1
      obtain ⟨k0, k1⟩ := (X2.out.below b1).cells
      clear b1
      go_wp2_with fail
      refine (HG2.out _ HB.out).mono ?_
      rintro e w2 ⟨rfl, b2⟩
      have HB2 := Lib.hid (HB.out.trans (b2.mono HB.out.size))
      have D2 := Lib.hid (D1.out.trans (b2.mono D1.out.size))
      clear b2 k0 k1
      go_upto_region 4 with fail
      go_cut [7] (fun p wx => ∃ b7 g h c' d' : Nat, p = .pointer (some ⟨b7, 0, none⟩) ∧ Box2 wx b7 27 (.slice (some ⟨g, 0, none⟩) (zAdd l l2).length c') (.slice (some ⟨h, 0, none⟩) (zAdd r r2).length d') ∧ GeR wx g (zAdd l l2) ∧ GeR wx h (zAdd r r2) ∧ g ≠ h ∧ W0.heap.size ≤ g ∧ W0.heap.size ≤ h ∧ Below W0.heap.size W0 wx)
      case first =>
        have D_ := Lib.hid D2.out.drew
        have Xq1 := Lib.hid (X1.out.below D_.out)
        have Xq2 := Lib.hid (X2.out.below D_.out)
        obtain ⟨k0, k1⟩ := Xq1.out.cells
        obtain ⟨k2, k3⟩ := Xq2.out.cells
        go_region_held3 (fun w' => (w'.cell? ⟨w.heap.size, 0, none⟩ = some (.slice a l.length c) ∧ w'.cell? ⟨w.heap.size, 1, none⟩ = some (.slice b r.length d)) ∧ (w'.cell? ⟨w.heap.size + 1, 0, none⟩ = some (.slice a2 l2.length c2) ∧ w'.cell? ⟨w.heap.size + 1, 1, none⟩ = some (.slice b2 r2.length d2)))
          (first
            | exact ⟨(X1.out.below D_APQ.out).cells, (X2.out.below D_APQ.out).cells⟩
            | exact ⟨(X1.out.below D_AQP.out).cells, (X2.out.below D_AQP.out).cells⟩
            | exact ⟨(X1.out.below D_PAQ.out).cells, (X2.out.below D_PAQ.out).cells⟩
            | exact ⟨(X1.out.below D_QAP.out).cells, (X2.out.below D_QAP.out).cells⟩
            | exact ⟨(X1.out.below D_PQ.out).cells, (X2.out.below D_PQ.out).cells⟩
            | exact ⟨(X1.out.below D_QP.out).cells, (X2.out.below D_QP.out).cells⟩
            | exact ⟨(X1.out.below D_AP.out).cells, (X2.out.below D_AP.out).cells⟩
            | exact ⟨(X1.out.below D_AQ.out).cells, (X2.out.below D_AQ.out).cells⟩
            | exact ⟨(X1.out.below D_P.out).cells, (X2.out.below D_P.out).cells⟩
            | exact ⟨(X1.out.below D_Q.out).cells, (X2.out.below D_Q.out).cells⟩
            | exact ⟨(X1.out.below (D_PQ.out.alloc D_PQ.out.size _)).cells, (X2.out.below (D_PQ.out.alloc D_PQ.out.size _)).cells⟩
            | exact ⟨(X1.out.below (D_QP.out.alloc D_QP.out.size _)).cells, (X2.out.below (D_QP.out.alloc D_QP.out.size _)).cells⟩
            | exact ⟨(X1.out.below (D_P.out.alloc D_P.out.size _)).cells, (X2.out.below (D_P.out.alloc D_P.out.size _)).cells⟩
            | exact ⟨(X1.out.below (D_Q.out.alloc D_Q.out.size _)).cells, (X2.out.below (D_Q.out.alloc D_Q.out.size _)).cells⟩
            | exact ⟨(X1.out.below (D_.out.alloc D_.out.size _)).cells, (X2.out.below (D_.out.alloc D_.out.size _)).cells⟩
            | exact ⟨(X1.out.below ((D_APQ.out.setCell D_.out.size _).setCell D_.out.size _)).cells, (X2.out.below ((D_APQ.out.setCell D_.out.size _).setCell D_.out.size _)).cells⟩
            | exact ⟨(X1.out.below ((D_AQP.out.setCell D_.out.size _).setCell D_.out.size _)).cells, (X2.out.below ((D_AQP.out.setCell D_.out.size _).setCell D_.out.size _)).cells⟩
            | exact ⟨(X1.out.below ((D_PAQ.out.setCell D_P.out.size _).setCell D_P.out.size _)).cells, (X2.out.below ((D_PAQ.out.setCell D_P.out.size _).setCell D_P.out.size _)).cells⟩
            | exact ⟨(X1.out.below ((D_QAP.out.setCell D_Q.out.size _).setCell D_Q.out.size _)).cells, (X2.out.below ((D_QAP.out.setCell D_Q.out.size _).setCell D_Q.out.size _)).cells⟩
            | exact ⟨(X1.out.below (D2.out.alloc D2.out.size _).drew).cells, (X2.out.below (D2.out.alloc D2.out.size _).drew).cells⟩
            | go_keep)
          (first
            | (go_at_call 63; (with_reducible refine (HPa.out _ (B0.out.trans (D_AQ.out.mono B0.out.size))).mono ?_); rintro e w_AQP ⟨g, c', rfl, l_AQP, r_, b_⟩; have D_AQP := Lib.hid (D_AQ.out.trans (b_.mono D_AQ.out.size)); have GP_AQP := Lib.hid r_; have HQ_AQP := Lib.hid (HQ_AQ.out.below b_); have BX_AQP := Lib.hid (BX_AQ.out.below b_); obtain ⟨t0, t1⟩ := BX_AQP.out.cells; have f0 := BX_AQP.out.frozen 0; have f1 := BX_AQP.out.frozen 1; have z7 := BX_AQP.out.lt; clear r_ b_)
            | (go_at_call 63; (with_reducible refine (HPa.out _ (B0.out.trans ((D_Q.out.alloc D_Q.out.size (.cells #[.slice none 0 0, .slice none 0 0] 27)).mono B0.out.size))).mono ?_); rintro e w_QAP ⟨g, c', rfl, l_QAP, r_, b_⟩; have D_QAP := Lib.hid ((D_Q.out.alloc D_Q.out.size (.cells #[.slice none 0 0, .slice none 0 0] 27)).trans (b_.mono (D_Q.out.alloc D_Q.out.size (.cells #[.slice none 0 0, .slice none 0 0] 27)).size)); have GP_QAP := Lib.hid r_; have HQ_QAP := Lib.hid ((HQ_Q.out.below (below_all _ (.cells #[.slice none 0 0, .slice none 0 0] 27))).below b_); have BX_QAP := Lib.hid ((Box2.new w_Q 27 (.slice none 0 0) (.slice none 0 0)).below b_); obtain ⟨t0, t1⟩ := BX_QAP.out.cells; have f0 := BX_QAP.out.frozen 0; have f1 := BX_QAP.out.frozen 1; have z7 := BX_QAP.out.lt; clear r_ b_)
            | (go_at_call 63; (with_reducible refine (HPa.out _ (B0.out.trans (D_Q.out.mono B0.out.size))).mono ?_); rintro e w_QP ⟨g, c', rfl, l_QP, r_, b_⟩; have D_QP := Lib.hid (D_Q.out.trans (b_.mono D_Q.out.size)); have GP_QP := Lib.hid r_; have HQ_QP := Lib.hid (HQ_Q.out.below b_); clear r_ b_)
            | (go_at_call 63; (with_reducible refine (HPa.out _ (B0.out.trans ((D2.out.alloc D2.out.size (.cells #[.slice none 0 0, .slice none 0 0] 27)).drew.mono B0.out.size))).mono ?_); rintro e w_AP ⟨g, c', rfl, l_AP, r_, b_⟩; have D_AP := Lib.hid ((D2.out.alloc D2.out.size (.cells #[.slice none 0 0, .slice none 0 0] 27)).drew.trans (b_.mono (D2.out.alloc D2.out.size (.cells #[.slice none 0 0, .slice none 0 0] 27)).drew.size)); have GP_AP := Lib.hid r_; have BX_AP := Lib.hid ((show Box2 (w2.alloc (.cells #[.slice none 0 0, .slice none 0 0] 27)).drew w2.heap.size 27 (.slice none 0 0) (.slice none 0 0) from Box2.new w2 _ _ _).below b_); obtain ⟨t0, t1⟩ := BX_AP.out.cells; have f0 := BX_AP.out.frozen 0; have f1 := BX_AP.out.frozen 1; have z7 := BX_AP.out.lt; clear r_ b_)
            | (go_at_call 63; (with_reducible refine (HPa.out _ (B0.out.trans (D_.out.mono B0.out.size))).mono ?_); rintro e w_P ⟨g, c', rfl, l_P, r_, b_⟩; have D_P := Lib.hid (D_.out.trans (b_.mono D_.out.size)); have GP_P := Lib.hid r_; clear r_ b_)
            | (go_at_call 63; (with_reducible refine (HQa.out _ (B0.out.trans (D_AP.out.mono B0.out.size))).mono ?_); rintro e w_APQ ⟨h, d', rfl, l_APQ, r_, b_⟩; have D_APQ := Lib.hid (D_AP.out.trans (b_.mono D_AP.out.size)); have HQ_APQ := Lib.hid r_; have GP_APQ := Lib.hid (GP_AP.out.below b_); have BX_APQ := Lib.hid (BX_AP.out.below b_); obtain ⟨t0, t1⟩ := BX_APQ.out.cells; have f0 := BX_APQ.out.frozen 0; have f1 := BX_APQ.out.frozen 1; have z7 := BX_APQ.out.lt; clear r_ b_)
            | (go_at_call 63; (with_reducible refine (HQa.out _ (B0.out.trans ((D_P.out.alloc D_P.out.size (.cells #[.slice none 0 0, .slice none 0 0] 27)).mono B0.out.size))).mono ?_); rintro e w_PAQ ⟨h, d', rfl, l_PAQ, r_, b_⟩; have D_PAQ := Lib.hid ((D_P.out.alloc D_P.out.size (.cells #[.slice none 0 0, .slice none 0 0] 27)).trans (b_.mono (D_P.out.alloc D_P.out.size (.cells #[.slice none 0 0, .slice none 0 0] 27)).size)); have HQ_PAQ := Lib.hid r_; have GP_PAQ := Lib.hid ((GP_P.out.below (below_all _ (.cells #[.slice none 0 0, .slice none 0 0] 27))).below b_); have BX_PAQ := Lib.hid ((Box2.new w_P 27 (.slice none 0 0) (.slice none 0 0)).below b_); obtain ⟨t0, t1⟩ := BX_PAQ.out.cells; have f0 := BX_PAQ.out.frozen 0; have f1 := BX_PAQ.out.frozen 1; have z7 := BX_PAQ.out.lt; clear r_ b_)
            | (go_at_call 63; (with_reducible refine (HQa.out _ (B0.out.trans (D_P.out.mono B0.out.size))).mono ?_); rintro e w_PQ ⟨h, d', rfl, l_PQ, r_, b_⟩; have D_PQ := Lib.hid (D_P.out.trans (b_.mono D_P.out.size)); have HQ_PQ := Lib.hid r_; have GP_PQ := Lib.hid (GP_P.out.below b_); clear r_ b_)
            | (go_at_call 63; (with_reducible refine (HQa.out _ (B0.out.trans ((D2.out.alloc D2.out.size (.cells #[.slice none 0 0, .slice none 0 0] 27)).drew.mono B0.out.size))).mono ?_); rintro e w_AQ ⟨h, d', rfl, l_AQ, r_, b_⟩; have D_AQ := Lib.hid ((D2.out.alloc D2.out.size (.cells #[.slice none 0 0, .slice none 0 0] 27)).drew.trans (b_.mono (D2.out.alloc D2.out.size (.cells #[.slice none 0 0, .slice none 0 0] 27)).drew.size)); have HQ_AQ := Lib.hid r_; have BX_AQ := Lib.hid ((show Box2 (w2.alloc (.cells #[.slice none 0 0, .slice none 0 0] 27)).drew w2.heap.size 27 (.slice none 0 0) (.slice none 0 0) from Box2.new w2 _ _ _).below b_); obtain ⟨t0, t1⟩ := BX_AQ.out.cells; have f0 := BX_AQ.out.frozen 0; have f1 := BX_AQ.out.frozen 1; have z7 := BX_AQ.out.lt; clear r_ b_)
            | (go_at_call 63; (with_reducible refine (HQa.out _ (B0.out.trans (D_.out.mono B0.out.size))).mono ?_); rintro e w_Q ⟨h, d', rfl, l_Q, r_, b_⟩; have D_Q := Lib.hid (D_.out.trans (b_.mono D_.out.size)); have HQ_Q := Lib.hid r_; clear r_ b_))
        all_goals
          go_wp2
          go_meet
          first
            | exact ⟨_, g, h, c', d', rfl, BX_APQ.out.put2 _ _, (GP_APQ.out.other (far2 GP_APQ.out BX_APQ.out) _).other (far2 GP_APQ.out BX_APQ.out) _, (HQ_APQ.out.other (far2 HQ_APQ.out BX_APQ.out) _).other (far2 HQ_APQ.out BX_APQ.out) _, (Nat.ne_of_lt (Nat.lt_of_lt_of_le (Row.lt GP_AP.out) l_APQ)), (Nat.le_trans (D2.out.alloc D2.out.size (.cells #[.slice none 0 0, .slice none 0 0] 27)).drew.size l_AP), (Nat.le_trans D_AP.out.size l_APQ), (D_APQ.out.setCell D_.out.size _).setCell D_.out.size _⟩
            | exact ⟨_, g, h, c', d', rfl, BX_AQP.out.put2 _ _, (GP_AQP.out.other (far2 GP_AQP.out BX_AQP.out) _).other (far2 GP_AQP.out BX_AQP.out) _, (HQ_AQP.out.other (far2 HQ_AQP.out BX_AQP.out) _).other (far2 HQ_AQP.out BX_AQP.out) _, (Nat.ne_of_gt (Nat.lt_of_lt_of_le (Row.lt HQ_AQ.out) l_AQP)), (Nat.le_trans D_AQ.out.size l_AQP), (Nat.le_trans (D2.out.alloc D2.out.size (.cells #[.slice none 0 0, .slice none 0 0] 27)).drew.size l_AQ), (D_AQP.out.setCell D_.out.size _).setCell D_.out.size _⟩
            | exact ⟨_, g, h, c', d', rfl, BX_PAQ.out.put2 _ _, (GP_PAQ.out.other (far2 GP_PAQ.out BX_PAQ.out) _).other (far2 GP_PAQ.out BX_PAQ.out) _, (HQ_PAQ.out.other (far2 HQ_PAQ.out BX_PAQ.out) _).other (far2 HQ_PAQ.out BX_PAQ.out) _, (Nat.ne_of_lt (Nat.lt_of_lt_of_le (Row.lt (GP_P.out.below (below_all _ (.cells #[.slice none 0 0, .slice none 0 0] 27)))) l_PAQ)), (Nat.le_trans D_.out.size l_P), (Nat.le_trans (D_P.out.alloc D_P.out.size (.cells #[.slice none 0 0, .slice none 0 0] 27)).size l_PAQ), (D_PAQ.out.setCell D_P.out.size _).setCell D_P.out.size _⟩
            | exact ⟨_, g, h, c', d', rfl, BX_QAP.out.put2 _ _, (GP_QAP.out.other (far2 GP_QAP.out BX_QAP.out) _).other (far2 GP_QAP.out BX_QAP.out) _, (HQ_QAP.out.other (far2 HQ_QAP.out BX_QAP.out) _).other (far2 HQ_QAP.out BX_QAP.out) _, (Nat.ne_of_gt (Nat.lt_of_lt_of_le (Row.lt (HQ_Q.out.below (below_all _ (.cells #[.slice none 0 0, .slice none 0 0] 27)))) l_QAP)), (Nat.le_trans (D_Q.out.alloc D_Q.out.size (.cells #[.slice none 0 0, .slice none 0 0] 27)).size l_QAP), (Nat.le_trans D_.out.size l_Q), (D_QAP.out.setCell D_Q.out.size _).setCell D_Q.out.size _⟩
            | exact ⟨_, g, h, c', d', rfl, Box2.new _ _ _ _, GP_PQ.out.below (below_all _ _), HQ_PQ.out.below (below_all _ _), (Nat.ne_of_lt (Nat.lt_of_lt_of_le (Row.lt GP_P.out) l_PQ)), (Nat.le_trans D_.out.size l_P), (Nat.le_trans D_P.out.size l_PQ), D_PQ.out.alloc D_PQ.out.size _⟩
            | exact ⟨_, g, h, c', d', rfl, Box2.new _ _ _ _, GP_QP.out.below (below_all _ _), HQ_QP.out.below (below_all _ _), (Nat.ne_of_gt (Nat.lt_of_lt_of_le (Row.lt HQ_Q.out) l_QP)), (Nat.le_trans D_Q.out.size l_QP), (Nat.le_trans D_.out.size l_Q), D_QP.out.alloc D_QP.out.size _⟩
      case rest =>
        obtain ⟨b7, g, h, c', d', rfl, x7, g7, h7, hgh, hg1, hh1, hD⟩ := hcut
        have X7 := Lib.hid x7
        have G7 := Lib.hid g7
        have H7 := Lib.hid h7
        have DD := Lib.hid hD
        have HT3 := Lib.hid (implTlIs_any (some ⟨g, 0, none⟩) (some ⟨h, 0, none⟩) (zAdd l l2) (zAdd r r2) c' d' wc (GeR.ints g7) (GeR.ints h7))
        obtain ⟨y0, y1⟩ := x7.cells
        have hz7 := x7.lt
        clear x7 g7 h7 hD D2 HB2 HPa HQa HG HG2
        go_wp2_with fail
        cases hv : tlB (zAdd l l2) (zAdd r r2) with
        | false =>
          rw [hv] at HT3
          have HV := Lib.hid (show adB l r l2 r2 = false by rw [HAD.out, hv])
          have HN := Lib.hid (HNO.out HV.out)
          refine HT3.out.mono ?_
          rintro e w5 ⟨rfl, b5⟩
          have D5 := Lib.hid (DD.out.trans (b5.mono DD.out.size))
          have X5 := Lib.hid (X3.out.below D5.out)
          obtain ⟨t0, t1⟩ := X5.out.cells
          have f0 := X5.out.frozen 0
          have f1 := X5.out.frozen 1
          have z4 := X5.out.lt
          clear b5
          go_wp2
          rw [HV.out, HN.out.1, HN.out.2]
          refine bodyPost_ret (v := .tuple #[.agg #[.slice none 0 0, .slice none 0 0], .bool false]) (by simp [results, Try.results23, go_sem, t0, t1, f0, f1, z4]) rfl (tret_no ?_ ?_)
          · simp only [World.size_setCell]; omega
          · exact ((B0.out.trans (D5.out.mono B0.out.size)).setCell (by simp; omega) _).setCell (by simp; omega) _
        | true =>
          rw [hv] at HT3
          have HV := Lib.hid (show adB l r l2 r2 = true by rw [HAD.out, hv])
          have HN := Lib.hid (HYES.out HV.out)
          refine HT3.out.mono ?_
          rintro e w5 ⟨rfl, b5⟩
          have D5 := Lib.hid (DD.out.trans (b5.mono DD.out.size))
          have X5 := Lib.hid (X3.out.below D5.out)
          obtain ⟨t0, t1⟩ := X5.out.cells
          have f0 := X5.out.frozen 0
          have f1 := X5.out.frozen 1
          have z4 := X5.out.lt
          have G5 := Lib.hid (G7.out.below b5)
          have H5 := Lib.hid (H7.out.below b5)
          obtain ⟨y0, y1⟩ := (X7.out.below b5).cells
          have hs0 := HS0.out
          have lg := Row.lt G5.out
          have lh := Row.lt H5.out
          have n3 : g ≠ w.heap.size + 1 + 1 := by omega
          have n4 : h ≠ w.heap.size + 1 + 1 := by omega
          clear b5
          go_wp2
          rw [HV.out, HN.out.1, HN.out.2]
          refine bodyPost_ret (v := .tuple #[.agg #[.slice (some ⟨g, 0, none⟩) (zAdd l l2).length c', .slice (some ⟨h, 0, none⟩) (zAdd r r2).length d'], .bool true]) (by simp [results, Try.results23, go_sem, t0, t1, f0, f1, z4]) rfl ⟨some ⟨g, 0, none⟩, c', some ⟨h, 0, none⟩, d', g, h, rfl, by omega, by omega, hgh, by simp only [World.size_setCell]; exact lg, by simp only [World.size_setCell]; exact lh, ?_, ?_, ?_⟩
          · exact ((G5.out.other (by simpa using n3) _).other (by simpa using n3) _).at_
          · exact ((H5.out.other (by simpa using n4) _).other (by simpa using n4) _).at_
          · exact ((B0.out.trans (D5.out.mono B0.out.size)).setCell (by simp; omega) _).setCell (by simp; omega) _
end Go.Proofs.Ytjpiiidjocilcaa
