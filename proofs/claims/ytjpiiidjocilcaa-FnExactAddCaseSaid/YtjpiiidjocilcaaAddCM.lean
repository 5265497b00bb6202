/- A case counted: the mathematics, and the model's AddCase. -/
import Derived.Test.YtjpiiidjocilcaaAddS
namespace Go.Proofs.Ytjpiiidjocilcaa
open Go.RowKit
set_option linter.unusedVariables false
set_option linter.unusedSimpArgs false
def zero11 : List Int := List.replicate 11 0
def oneK (k : Int) : List Int := zero11.set k.toNat 1
def hitK (k : Int) (h : Bool) : List Int := if h = true then oneK k else zero11
def acB (l r : List Int) (k : Int) (h : Bool) : Bool := clsB k && adB l r (oneK k) (hitK k h)
def acP (l r : List Int) (k : Int) (h : Bool) : List Int := if clsB k = true then adP l r (oneK k) (hitK k h) else []
def acQ (l r : List Int) (k : Int) (h : Bool) : List Int := if clsB k = true then adQ l r (oneK k) (hitK k h) else []
theorem ac_len (l r : List Int) (k : Int) (h : Bool) : (acP l r k h).length ≤ 11 ∧ (acQ l r k h).length ≤ 11 := by
  unfold acP acQ
  by_cases hc : clsB k = true
  · rw [if_pos hc, if_pos hc]; exact ad_len _ _ _ _
  · rw [if_neg hc, if_neg hc]; simp
theorem ac_no {l r : List Int} {k : Int} {h : Bool} (hb : acB l r k h = false) : acP l r k h = [] ∧ acQ l r k h = [] := by
  unfold acB at hb
  unfold acP acQ
  by_cases hc : clsB k = true
  · rw [hc, Bool.true_and] at hb
    rw [if_pos hc, if_pos hc]
    exact ad_no hb
  · rw [if_neg hc, if_neg hc]; exact ⟨rfl, rfl⟩
theorem ac_yes {l r : List Int} {k : Int} {h : Bool} (hb : acB l r k h = true) : acP l r k h = zAdd l (oneK k) ∧ acQ l r k h = zAdd r (hitK k h) := by
  unfold acB at hb
  rw [Bool.and_eq_true] at hb
  unfold acP acQ
  rw [if_pos hb.1, if_pos hb.1]
  exact ad_yes hb.2
theorem zero_len : zero11.length = 11 := by simp [zero11]
theorem one_len (k : Int) : (oneK k).length = 11 := by unfold oneK; rw [List.length_set, zero_len]
theorem hit_len (k : Int) (h : Bool) : (hitK k h).length = 11 := by unfold hitK; split; exact one_len k; exact zero_len
theorem zero_at {j : Nat} (h : j < zero11.length) : zero11[j] = 0 := by
  unfold zero11 at *
  simp only [List.getElem_replicate]
theorem one_at {n j : Nat} (h : j < (oneK (n : Int)).length) : (oneK (n : Int))[j] = if n = j then 1 else 0 := by
  unfold oneK zero11 at *
  simp only [Int.toNat_natCast, List.getElem_set, List.getElem_replicate]
theorem hit_at {n j : Nat} {b : Bool} (h : j < (hitK (n : Int) b).length) : (hitK (n : Int) b)[j] = if n = j ∧ b = true then 1 else 0 := by
  cases b with
  | false =>
    have e : (hitK (n : Int) false)[j] = zero11[j]'(by rw [hit_len] at h; rw [zero_len]; exact h) := rfl
    rw [e, zero_at]
    simp
  | true =>
    have e : (hitK (n : Int) true)[j] = (oneK (n : Int))[j]'(by rw [hit_len] at h; rw [one_len]; exact h) := rfl
    rw [e, one_at]
    simp
theorem zadd_zero {r : List Int} (h : r.length = 11) : zAdd r zero11 = r := by
  have hl : (zAdd r zero11).length = r.length := zipR_len _ (by rw [h, zero_len])
  refine List.ext_getElem hl fun j h1 h2 => ?_
  have e : (zAdd r zero11)[j] = r[j] + zero11[j]'(by rw [zero_len]; omega) := zipR_get _ j h1 h2 (by rw [zero_len]; omega)
  rw [e, zero_at]
  omega
theorem zadd_one {l : List Int} (h : l.length = 11) {n : Nat} (hn : n < l.length) : zAdd l (oneK (n : Int)) = l.set n (l[n] + 1) := by
  have hl : (zAdd l (oneK (n : Int))).length = l.length := zipR_len _ (by rw [h, one_len])
  refine List.ext_getElem (by rw [hl, List.length_set]) fun j h1 h2 => ?_
  rw [List.length_set] at h2
  have e : (zAdd l (oneK (n : Int)))[j] = l[j] + (oneK (n : Int))[j]'(by rw [one_len]; omega) := zipR_get _ j h1 h2 (by rw [one_len]; omega)
  rw [e, one_at, List.getElem_set]
  by_cases e2 : n = j
  · subst e2; simp
  · simp [e2]
theorem oneK_ok {n : Nat} (h : n ≤ 10) (b : Bool) : tlB (oneK (n : Int)) (hitK (n : Int) b) = true := by
  refine tl_all (one_len _) (hit_len _ _) fun j hx hy => ?_
  rw [one_at, hit_at]
  unfold caseB
  by_cases e : n = j
  · cases b <;> simp [e]
  · simp [e]
/-- in the model's words -/
theorem ac_model {l r : List Int} {n : Nat} {h : Bool} (ht : tlB l r = true) (hn : n ≤ 10) : acB l r (n : Int) h = tlB (zAdd l (oneK (n : Int))) (zAdd r (hitK (n : Int) h)) := by
  have hc : clsB (n : Int) = true := by unfold clsB; simp; omega
  unfold acB adB
  rw [hc, ht, oneK_ok hn h]
  simp
set_option maxRecDepth 100000 in
set_option maxHeartbeats 8000000 in
theorem specAddC_any (a b : Option Addr) (l r : List Int) (c d : Nat) (k : Int) (hit : Bool) (w : World) (hl : Ints .i64 w w.heap.size a l) (hr : Ints .i64 w w.heap.size b r) :
    Calls Try.prog 18 #[.agg #[.slice a l.length c, .slice b r.length d], .int .i64 k, .bool hit] w (TRet (acP l r k hit) (acQ l r k hit) (acB l r k hit) w) := by
  have hW0 : ∀ o1 o2, Below w.heap.size w ((w.alloc o1).alloc o2) := fun o1 o2 => ((Below.refl _ _).alloc (Nat.le_refl _) _).alloc (by simp) _
  have B0 := Lib.hid (hW0 (.cells #[.slice a l.length c, .slice b r.length d] 27) (.cells #[.slice none 0 0, .slice none 0 0] 27))
  have hs0 : ((w.alloc (.cells #[.slice a l.length c, .slice b r.length d] 27)).alloc (.cells #[.slice none 0 0, .slice none 0 0] 27)).heap.size = w.heap.size + 2 := by simp
  have X1 := Lib.hid ((Box2.new w 27 (.slice a l.length c) (.slice b r.length d)).alloc (.cells #[.slice none 0 0, .slice none 0 0] 27))
  have x3 := Box2.new (w.alloc (.cells #[.slice a l.length c, .slice b r.length d] 27)) 27 (.slice none 0 0) (.slice none 0 0)
  rw [World.size_alloc] at x3
  have X3 := Lib.hid x3
  have HG := Lib.hid (fun (W : World) (G : Below w.heap.size w W) => specTl_is a b l r c d _ W ((hl.below G (Nat.le_refl _)).more G.size) ((hr.below G (Nat.le_refl _)).more G.size) rfl)
  have HCL := Lib.hid (fun W => specClass_any k W)
  have HS0 := Lib.hid hs0
  have HL := Lib.hid hl
  have HR := Lib.hid hr
  clear hl hr hW0 hs0 x3
  cases ht : tlB l r with
  | false =>
    have eB : acB l r k hit = false := by unfold acB adB; rw [ht]; simp
    rw [(ac_no eB).1, (ac_no eB).2, eB]
    rw [ht] at HG
    clear ht eB
    go_enter Try.func18, Try.ntmps18
    go_wp2_with fail
    generalize (w.alloc (.cells #[.slice a l.length c, .slice b r.length d] 27)).alloc (.cells #[.slice none 0 0, .slice none 0 0] 27) = W0 at *
    refine (HG.out _ B0.out).mono ?_
    rintro e w1 ⟨rfl, b1⟩
    have HB := Lib.hid (B0.out.trans (b1.mono B0.out.size))
    have X4 := Lib.hid (X3.out.below b1)
    obtain ⟨t0, t1⟩ := X4.out.cells
    have f0 := X4.out.frozen 0
    have f1 := X4.out.frozen 1
    have z4 := X4.out.lt
    clear b1
    go_wp2
    refine bodyPost_ret (v := .tuple #[.agg #[.slice none 0 0, .slice none 0 0], .bool false]) (by simp [results, Try.results18, go_sem, t0, t1, f0, f1, z4]) rfl (tret_no ?_ ?_)
    · simp only [World.size_setCell]; omega
    · exact (HB.out.setCell (by simp) _).setCell (by simp) _
  | true =>
    rw [ht] at HG
    cases hc : clsB k with
    | false =>
      have eB : acB l r k hit = false := by unfold acB; rw [hc]; rfl
      rw [(ac_no eB).1, (ac_no eB).2, eB]
      rw [hc] at HCL
      clear ht hc eB
      go_enter Try.func18, Try.ntmps18
      go_wp2_with fail
      generalize (w.alloc (.cells #[.slice a l.length c, .slice b r.length d] 27)).alloc (.cells #[.slice none 0 0, .slice none 0 0] 27) = W0 at *
      refine (HG.out _ B0.out).mono ?_
      rintro e w1 ⟨rfl, b1⟩
      have HB := Lib.hid (B0.out.trans (b1.mono B0.out.size))
      have X4 := Lib.hid (X3.out.below b1)
      obtain ⟨t0, t1⟩ := X4.out.cells
      have f0 := X4.out.frozen 0
      have f1 := X4.out.frozen 1
      have z4 := X4.out.lt
      clear b1
      go_wp2_with (go_at_call 57; refine (HCL.out _).mono ?_; rintro e w2 ⟨rfl, rfl⟩)
      refine bodyPost_ret (v := .tuple #[.agg #[.slice none 0 0, .slice none 0 0], .bool false]) (by simp [results, Try.results18, go_sem, t0, t1, f0, f1, z4]) rfl (tret_no ?_ ?_)
      · simp only [World.size_setCell]; omega
      · exact (HB.out.setCell (by simp) _).setCell (by simp) _
    | true =>
      rw [hc] at HCL
      have ik := cls_in hc
      obtain ⟨n, rfl⟩ := Int.eq_ofNat_of_zero_le ik.1
      obtain ⟨l11, r11⟩ := tl_len ht
      have hn : n < l.length := by omega
      have hn2 : n < r.length := by omega
      have hi : (n : Int) < (l.length : Int) := by omega
      have hi2 : (n : Int) < (r.length : Int) := by omega
      have hi0 : (0 : Int) ≤ (n : Int) := by omega
      have i1 := tl_in ht hn hn2
      have HM := Lib.hid (ac_model (h := hit) ht (show n ≤ 10 by omega))
      have HNO := Lib.hid (fun h => ac_no (l := l) (r := r) (k := (n : Int)) (h := hit) h)
      have HYES := Lib.hid (fun h => ac_yes (l := l) (r := r) (k := (n : Int)) (h := hit) h)
      have HOW := Lib.hid (fun (W : World) (G : Below w.heap.size w W) => l10Own_any a b l r c d W ((HL.out.below G (Nat.le_refl _)).more G.size) ((HR.out.below G (Nat.le_refl _)).more G.size) (by omega) (by omega) (by omega) (by omega))
      have ZL := Lib.hid (show zAdd l (oneK (n : Int)) = l.set n (l[n] + 1) from zadd_one l11 hn)
      have ZR := Lib.hid (show zAdd r (hitK (n : Int) hit) = if hit = true then r.set n (r[n] + 1) else r by
        cases hit with
        | false => exact zadd_zero r11
        | true => exact zadd_one r11 hn2)
      clear ht hc ik l11 r11
      go_enter Try.func18, Try.ntmps18
      go_wp2_with fail
      generalize (w.alloc (.cells #[.slice a l.length c, .slice b r.length d] 27)).alloc (.cells #[.slice none 0 0, .slice none 0 0] 27) = W0 at *
      refine (HG.out _ B0.out).mono ?_
      rintro e w1 ⟨rfl, b1⟩
      have HB := Lib.hid (B0.out.trans (b1.mono B0.out.size))
      have D1 := Lib.hid b1
      obtain ⟨k0, k1⟩ := (X1.out.below b1).cells
      clear b1
      go_wp2_with (go_at_call 57; refine (HCL.out _).mono ?_; rintro e w2 ⟨rfl, rfl⟩)
      refine (HOW.out _ HB.out).mono ?_
      rintro e w3 ⟨g, h, c', d', rfl, hg, hh, hgh, g3, h3, b3⟩
      have HB3 := Lib.hid (HB.out.trans (b3.mono HB.out.size))
      have D3 := Lib.hid (D1.out.trans (b3.mono D1.out.size))
      have hd1 := D1.out.size
      have hs0 := HS0.out
      have lg := Row.lt g3
      have lh := Row.lt h3
      have fg := Row.frozen g3 n
      have fh := Row.frozen h3 n
      have c1 := Row.cell (k := n) g3 (by rw [iv_length]; exact hn)
      have c3 := Row.cell (k := n) h3 (by rw [iv_length]; exact hn2)
      rw [iv_get] at c1 c3
      have G3 := Lib.hid g3
      have H3 := Lib.hid h3
      have n1 : ¬ g = h := hgh
      have n2 : ¬ h = g := fun e => hgh e.symm
      have n3 : ¬ w3.heap.size = g := by omega
      have n4 : ¬ w3.heap.size = h := by omega
      have n5 : ¬ g = w3.heap.size := by omega
      have n6 : ¬ h = w3.heap.size := by omega
      have hg1 : W0.heap.size ≤ g := by omega
      have hh1 : W0.heap.size ≤ h := by omega
      have HG1 := Lib.hid hg1
      have HH1 := Lib.hid hh1
      generalize l[n] = x at *
      generalize r[n] = y at *
      have wx : wrap64 (x + 1) = x + 1 := IntWalk.wrap64_in _ (by omega)
      have wy : wrap64 (y + 1) = y + 1 := IntWalk.wrap64_in _ (by omega)
      have wx2 : IntKind.i64.wrap (x + 1) = x + 1 := IntWalk.i64_in _ (by omega)
      have wy2 : IntKind.i64.wrap (y + 1) = y + 1 := IntWalk.i64_in _ (by omega)
      clear b3 g3 h3 k0 k1 D1 HOW HCL HG i1 HB
      cases hit with
      | false =>
        have GZ := Lib.hid (show GeR ((w3.setCell ⟨g, n, none⟩ (.int .i64 (x + 1))).alloc (.cells #[.slice (some ⟨g, 0, none⟩) l.length c', .slice (some ⟨h, 0, none⟩) r.length d'] 27)) g (zAdd l (oneK (n : Int))) by
          rw [ZL.out]
          exact GeR.below (w := (w3.setCell ⟨g, n, none⟩ (.int .i64 (x + 1)))) (G3.out.put n (x + 1)) (below_all _ _))
        have HZ := Lib.hid (show GeR ((w3.setCell ⟨g, n, none⟩ (.int .i64 (x + 1))).alloc (.cells #[.slice (some ⟨g, 0, none⟩) l.length c', .slice (some ⟨h, 0, none⟩) r.length d'] 27)) h (zAdd r (hitK (n : Int) false)) by
          rw [ZR.out]
          exact GeR.below (w := (w3.setCell ⟨g, n, none⟩ (.int .i64 (x + 1)))) (H3.out.other n2 _) (below_all _ _))
        have jx := Box2.new (w3.setCell ⟨g, n, none⟩ (.int .i64 (x + 1))) 27 (.slice (some ⟨g, 0, none⟩) l.length c') (.slice (some ⟨h, 0, none⟩) r.length d')
        simp only [World.size_setCell] at jx
        have JX := Lib.hid jx
        have dd : Below W0.heap.size W0 (w3.setCell ⟨g, n, none⟩ (.int .i64 (x + 1))) := D3.out.setCell HG1.out _
        have DD := Lib.hid (dd.alloc dd.size (.cells #[.slice (some ⟨g, 0, none⟩) l.length c', .slice (some ⟨h, 0, none⟩) r.length d'] 27))
        clear jx dd
        go_wp2_with fail
        generalize ((w3.setCell ⟨g, n, none⟩ (.int .i64 (x + 1))).alloc (.cells #[.slice (some ⟨g, 0, none⟩) l.length c', .slice (some ⟨h, 0, none⟩) r.length d'] 27)) = W7 at *
        have EL := Lib.hid (show (zAdd l (oneK (n : Int))).length = l.length by rw [ZL.out]; simp)
        have ER := Lib.hid (show (zAdd r (hitK (n : Int) false)).length = r.length by rw [ZR.out]; simp)
        have HT3 := Lib.hid (specTl_is (some ⟨g, 0, none⟩) (some ⟨h, 0, none⟩) (zAdd l (oneK (n : Int))) (zAdd r (hitK (n : Int) false)) c' d' _ W7 (GeR.ints GZ.out) (GeR.ints HZ.out) rfl)
        rw [EL.out, ER.out] at HT3
        clear c1 c3 fg fh
        cases hv : tlB (zAdd l (oneK (n : Int))) (zAdd r (hitK (n : Int) false)) with
        | false =>
          rw [hv] at HT3
          have HV := Lib.hid (show acB l r (n : Int) false = false by rw [HM.out, hv])
          have HN := Lib.hid (HNO.out HV.out)
          refine HT3.out.mono ?_
          rintro e w5 ⟨rfl, b5⟩
          have D5 := Lib.hid (DD.out.trans (b5.mono DD.out.size))
          have X5 := Lib.hid (X3.out.below D5.out)
          obtain ⟨t0, t1⟩ := X5.out.cells
          have f0 := X5.out.frozen 0
          have f1 := X5.out.frozen 1
          have z4 := X5.out.lt
          clear b5
          go_wp2
          rw [HV.out, HN.out.1, HN.out.2]
          refine bodyPost_ret (v := .tuple #[.agg #[.slice none 0 0, .slice none 0 0], .bool false]) (by simp [results, Try.results18, go_sem, t0, t1, f0, f1, z4]) rfl (tret_no ?_ ?_)
          · simp only [World.size_setCell]; have := D5.out.size; omega
          · exact ((B0.out.trans (D5.out.mono B0.out.size)).setCell (by simp) _).setCell (by simp) _
        | true =>
          rw [hv] at HT3
          have HV := Lib.hid (show acB l r (n : Int) false = true by rw [HM.out, hv])
          have HN := Lib.hid (HYES.out HV.out)
          refine HT3.out.mono ?_
          rintro e w5 ⟨rfl, b5⟩
          have D5 := Lib.hid (DD.out.trans (b5.mono DD.out.size))
          have X5 := Lib.hid (X3.out.below D5.out)
          obtain ⟨t0, t1⟩ := X5.out.cells
          have f0 := X5.out.frozen 0
          have f1 := X5.out.frozen 1
          have z4 := X5.out.lt
          have G5 := Lib.hid (GZ.out.below b5)
          have H5 := Lib.hid (HZ.out.below b5)
          obtain ⟨y0, y1⟩ := (JX.out.below b5).cells
          have lg5 := Row.lt G5.out
          have lh5 := Row.lt H5.out
          have m1 : ¬ w3.heap.size = w.heap.size + 1 := by omega
          have m2 : ¬ w.heap.size + 1 = w3.heap.size := by omega
          have m3 : g ≠ w.heap.size + 1 := by omega
          have m4 : h ≠ w.heap.size + 1 := by omega
          clear b5
          go_wp2
          rw [HV.out, HN.out.1, HN.out.2]
          refine bodyPost_ret (v := .tuple #[.agg #[.slice (some ⟨g, 0, none⟩) l.length c', .slice (some ⟨h, 0, none⟩) r.length d'], .bool true]) (by simp [results, Try.results18, go_sem, t0, t1, f0, f1, z4]) rfl ⟨some ⟨g, 0, none⟩, c', some ⟨h, 0, none⟩, d', g, h, by rw [EL.out, ER.out], by omega, by omega, hgh, by simp only [World.size_setCell]; exact lg5, by simp only [World.size_setCell]; exact lh5, ?_, ?_, ?_⟩
          · exact ((G5.out.other (by simpa using m3) _).other (by simpa using m3) _).at_
          · exact ((H5.out.other (by simpa using m4) _).other (by simpa using m4) _).at_
          · exact ((B0.out.trans (D5.out.mono B0.out.size)).setCell (by simp) _).setCell (by simp) _
      | true =>
        have GZ := Lib.hid (show GeR (((w3.setCell ⟨g, n, none⟩ (.int .i64 (x + 1))).setCell ⟨h, n, none⟩ (.int .i64 (y + 1))).alloc (.cells #[.slice (some ⟨g, 0, none⟩) l.length c', .slice (some ⟨h, 0, none⟩) r.length d'] 27)) g (zAdd l (oneK (n : Int))) by
          rw [ZL.out]
          exact GeR.below (w := ((w3.setCell ⟨g, n, none⟩ (.int .i64 (x + 1))).setCell ⟨h, n, none⟩ (.int .i64 (y + 1)))) ((G3.out.put n (x + 1)).other n1 _) (below_all _ _))
        have HZ := Lib.hid (show GeR (((w3.setCell ⟨g, n, none⟩ (.int .i64 (x + 1))).setCell ⟨h, n, none⟩ (.int .i64 (y + 1))).alloc (.cells #[.slice (some ⟨g, 0, none⟩) l.length c', .slice (some ⟨h, 0, none⟩) r.length d'] 27)) h (zAdd r (hitK (n : Int) true)) by
          rw [ZR.out]
          exact GeR.below (w := ((w3.setCell ⟨g, n, none⟩ (.int .i64 (x + 1))).setCell ⟨h, n, none⟩ (.int .i64 (y + 1)))) ((H3.out.other n2 _).put n (y + 1)) (below_all _ _))
        have jx := Box2.new ((w3.setCell ⟨g, n, none⟩ (.int .i64 (x + 1))).setCell ⟨h, n, none⟩ (.int .i64 (y + 1))) 27 (.slice (some ⟨g, 0, none⟩) l.length c') (.slice (some ⟨h, 0, none⟩) r.length d')
        simp only [World.size_setCell] at jx
        have JX := Lib.hid jx
        have dd : Below W0.heap.size W0 ((w3.setCell ⟨g, n, none⟩ (.int .i64 (x + 1))).setCell ⟨h, n, none⟩ (.int .i64 (y + 1))) := (D3.out.setCell HG1.out _).setCell HH1.out _
        have DD := Lib.hid (dd.alloc dd.size (.cells #[.slice (some ⟨g, 0, none⟩) l.length c', .slice (some ⟨h, 0, none⟩) r.length d'] 27))
        clear jx dd
        go_wp2_with fail
        generalize (((w3.setCell ⟨g, n, none⟩ (.int .i64 (x + 1))).setCell ⟨h, n, none⟩ (.int .i64 (y + 1))).alloc (.cells #[.slice (some ⟨g, 0, none⟩) l.length c', .slice (some ⟨h, 0, none⟩) r.length d'] 27)) = W7 at *
        have EL := Lib.hid (show (zAdd l (oneK (n : Int))).length = l.length by rw [ZL.out]; simp)
        have ER := Lib.hid (show (zAdd r (hitK (n : Int) true)).length = r.length by rw [ZR.out]; simp)
        have HT3 := Lib.hid (specTl_is (some ⟨g, 0, none⟩) (some ⟨h, 0, none⟩) (zAdd l (oneK (n : Int))) (zAdd r (hitK (n : Int) true)) c' d' _ W7 (GeR.ints GZ.out) (GeR.ints HZ.out) rfl)
        rw [EL.out, ER.out] at HT3
        clear c1 c3 fg fh
        cases hv : tlB (zAdd l (oneK (n : Int))) (zAdd r (hitK (n : Int) true)) with
        | false =>
          rw [hv] at HT3
          have HV := Lib.hid (show acB l r (n : Int) true = false by rw [HM.out, hv])
          have HN := Lib.hid (HNO.out HV.out)
          refine HT3.out.mono ?_
          rintro e w5 ⟨rfl, b5⟩
          have D5 := Lib.hid (DD.out.trans (b5.mono DD.out.size))
          have X5 := Lib.hid (X3.out.below D5.out)
          obtain ⟨t0, t1⟩ := X5.out.cells
          have f0 := X5.out.frozen 0
          have f1 := X5.out.frozen 1
          have z4 := X5.out.lt
          clear b5
          go_wp2
          rw [HV.out, HN.out.1, HN.out.2]
          refine bodyPost_ret (v := .tuple #[.agg #[.slice none 0 0, .slice none 0 0], .bool false]) (by simp [results, Try.results18, go_sem, t0, t1, f0, f1, z4]) rfl (tret_no ?_ ?_)
          · simp only [World.size_setCell]; have := D5.out.size; omega
          · exact ((B0.out.trans (D5.out.mono B0.out.size)).setCell (by simp) _).setCell (by simp) _
        | true =>
          rw [hv] at HT3
          have HV := Lib.hid (show acB l r (n : Int) true = true by rw [HM.out, hv])
          have HN := Lib.hid (HYES.out HV.out)
          refine HT3.out.mono ?_
          rintro e w5 ⟨rfl, b5⟩
          have D5 := Lib.hid (DD.out.trans (b5.mono DD.out.size))
          have X5 := Lib.hid (X3.out.below D5.out)
          obtain ⟨t0, t1⟩ := X5.out.cells
          have f0 := X5.out.frozen 0
          have f1 := X5.out.frozen 1
          have z4 := X5.out.lt
          have G5 := Lib.hid (GZ.out.below b5)
          have H5 := Lib.hid (HZ.out.below b5)
          obtain ⟨y0, y1⟩ := (JX.out.below b5).cells
          have lg5 := Row.lt G5.out
          have lh5 := Row.lt H5.out
          have m1 : ¬ w3.heap.size = w.heap.size + 1 := by omega
          have m2 : ¬ w.heap.size + 1 = w3.heap.size := by omega
          have m3 : g ≠ w.heap.size + 1 := by omega
          have m4 : h ≠ w.heap.size + 1 := by omega
          clear b5
          go_wp2
          rw [HV.out, HN.out.1, HN.out.2]
          refine bodyPost_ret (v := .tuple #[.agg #[.slice (some ⟨g, 0, none⟩) l.length c', .slice (some ⟨h, 0, none⟩) r.length d'], .bool true]) (by simp [results, Try.results18, go_sem, t0, t1, f0, f1, z4]) rfl ⟨some ⟨g, 0, none⟩, c', some ⟨h, 0, none⟩, d', g, h, by rw [EL.out, ER.out], by omega, by omega, hgh, by simp only [World.size_setCell]; exact lg5, by simp only [World.size_setCell]; exact lh5, ?_, ?_, ?_⟩
          · exact ((G5.out.other (by simpa using m3) _).other (by simpa using m3) _).at_
          · exact ((H5.out.other (by simpa using m4) _).other (by simpa using m4) _).at_
          · exact ((B0.out.trans (D5.out.mono B0.out.size)).setCell (by simp) _).setCell (by simp) _
end Go.Proofs.Ytjpiiidjocilcaa
