/- The program's NearestMember. -/
import Derived.Test.YtggdkibbfmjelaaEnGap
import Derived.Test.YtggdkibbfmjelaaEnGood
import Derived.Test.YtggdkibbfmjelaaComb
import Derived.Test.YtggdkibbfmjelaaEnNrS
import Derived.Deep.RegionHeld3
namespace Go.Proofs.Ytggdkibbfmjelaa
open Go.RowKit
set_option linter.unusedVariables false
set_option linter.unusedSimpArgs false
theorem cells6_below {w w' : World} {g h : Nat} {u v x u' v' x' : Value} (k : w.cell? ⟨g, 0, none⟩ = some u ∧ w.cell? ⟨g, 1, none⟩ = some v ∧ w.cell? ⟨g, 2, none⟩ = some x ∧ w.cell? ⟨h, 0, none⟩ = some u' ∧ w.cell? ⟨h, 1, none⟩ = some v' ∧ w.cell? ⟨h, 2, none⟩ = some x') (b : Below w.heap.size w w') (hg : g < w.heap.size) (hh : h < w.heap.size) :
    w'.cell? ⟨g, 0, none⟩ = some u ∧ w'.cell? ⟨g, 1, none⟩ = some v ∧ w'.cell? ⟨g, 2, none⟩ = some x ∧ w'.cell? ⟨h, 0, none⟩ = some u' ∧ w'.cell? ⟨h, 1, none⟩ = some v' ∧ w'.cell? ⟨h, 2, none⟩ = some x' :=
  ⟨(b.cell (p := ⟨g, 0, none⟩) hg).trans k.1, (b.cell (p := ⟨g, 1, none⟩) hg).trans k.2.1, (b.cell (p := ⟨g, 2, none⟩) hg).trans k.2.2.1, (b.cell (p := ⟨h, 0, none⟩) hh).trans k.2.2.2.1, (b.cell (p := ⟨h, 1, none⟩) hh).trans k.2.2.2.2.1, (b.cell (p := ⟨h, 2, none⟩) hh).trans k.2.2.2.2.2⟩
set_option maxRecDepth 100000 in
set_option maxHeartbeats 8000000 in
theorem implNear_any (g : Nat) (es : List FE) (c : Nat) (wd hg : Int) (af : Option Addr) (l : List Int) (cf : Nat) (w : World) (hl : Flds w w.heap.size (some ⟨g, 0, none⟩) es) (hf : Ints .i64 w w.heap.size af l) (hn : es.length ≤ 1048576) (hs : ∀ e ∈ es, e.l.length ≤ 1048576) (hm : l.length ≤ 1048576) :
    Calls Try.prog 51 #[.slice (some ⟨g, 0, none⟩) es.length c, .agg #[.int .i64 wd, .int .i64 hg, .slice af l.length cf]] w fun e w' => e = .returned (.tuple #[.int .i64 (twA (nrR (plains es) (wd, hg, l))), .int .i64 (twB (nrR (plains es) (wd, hg, l))), .bool (twO (nrR (plains es) (wd, hg, l)))]) ∧ Below w.heap.size w w' := by
  have N0 := Lib.hid (show Nr w wd hg af l cf (w.alloc (.cells #[.int .i64 wd, .int .i64 hg, .slice af l.length cf] 34)) from ⟨below_all _ _, Box.new _ _ _ _ _⟩)
  have HL := Lib.hid hl
  have HF := Lib.hid hf
  have HC := Lib.hid (fun v W h hv => implEn_is g es c v W h hn hs hv)
  have HSZ := Lib.hid hs
  have hFl := flds_alloc hl (.cells #[.int .i64 wd, .int .i64 hg, .slice af l.length cf] 34)
  obtain ⟨W0, hW0⟩ : ∃ W, w.alloc (.cells #[.int .i64 wd, .int .i64 hg, .slice af l.length cf] 34) = W := ⟨_, rfl⟩
  rw [hW0] at hFl N0
  have HW := Lib.hid hW0
  have HFl := Lib.hid hFl
  clear hl hf hs hFl hW0
  cases he : enB (plains es) with
  | false =>
    rw [nrR_en he]
    have HD := Lib.hid (fun W h => HC.out false W h he)
    clear HC he HL HF
    go_enter Try.func51, Try.ntmps51
    go_wp2_with fail
    rw [HW.out]
    refine wp_region_later (by kernel_rfl) (by kernel_rfl) ?_
    repeat (go_big_quiet_step ((go_at_call 86; exact calls_later (HD.out _ (flds_below HFl.out (Later.below _))))))
    refine wpQuiet_nil ?_
    intro _ hw'
    obtain ⟨pq, hw''⟩ := hw'
    subst hw''
    have B1 := Lib.hid (below_then N0.out.b pq.below)
    go_wp2
    exact bodyPost_ret (v := .tuple #[.int .i64 0, .int .i64 0, .bool false]) (by simp [results, Try.results51, go_sem]) rfl ⟨rfl, B1.out⟩
  | true =>
    have HD := Lib.hid (fun W h => HC.out true W h he)
    obtain ⟨W, H, hok, hW, hH⟩ := okE_of he
    have h0 : 0 < es.length := by have := hok.n; omega
    obtain ⟨b, o, eg, hb, q0, q1, q2, q3⟩ := HFl.out.at_ h0
    injection eg with eg
    injection eg with e1 e2
    subst e1 e2
    obtain ⟨e0, e1, e2, e3⟩ := hok.e 0 h0
    rw [e0] at q0
    rw [e1] at q1
    simp only [Nat.zero_mul, Nat.add_zero, Nat.zero_add] at q0 q1 q2
    have h00 : (0 : Int) < (es.length : Int) := by omega
    have hl064 : (es[0]'h0).l.length ≤ 1048576 := by have := hok.le; omega
    have HSM := Lib.hid (show sameB (W : Int) (H : Int) (es[0]'h0).l wd hg l = mateB (plains es) (wd, hg, l) from by
      unfold sameB mateB
      rw [hW, hH, e3]
      have a1 : decide ((W : Int) = wd) = decide (wd = (W : Int)) := by rw [decide_eq_decide]; omega
      have a2 : decide ((H : Int) = hg) = decide (hg = (H : Int)) := by rw [decide_eq_decide]; omega
      rw [a1, a2]
      simp)
    have HONE := Lib.hid (fun (v : Bool) (Wd : World) (i1 : Ints .i64 Wd Wd.heap.size (es[0]'h0).ad (es[0]'h0).l) (i2 : Ints .i64 Wd Wd.heap.size af l) (hv : mateB (plains es) (wd, hg, l) = v) =>
      oneShape_is _ 2 2 _ _ _ _ _ v _ (fldRow_two (wa := (W : Int)) (ha := (H : Int)) (wb := wd) (hb := hg) (ca := (es[0]'h0).c) (cb := cf) 34 i1 i2 hl064 hm) (by omega) (by omega) ((oneB_two (W : Int) (H : Int) (es[0]'h0).l wd hg l).trans (HSM.out.trans hv)))
    have HIN := Lib.hid (fun (W2 : World) (h : Flds W2 W2.heap.size (some ⟨g, 0, none⟩) es) => (show Ints .i64 W2 W2.heap.size (es[0]'h0).ad (es[0]'h0).l from by obtain ⟨b', o', _, _, _, _, _, hh⟩ := h.at_ h0; exact hh))
    have HB0 := Lib.hid (good_bd e3)
    have hzw : w.heap.size < W0.heap.size := N0.out.x.lt
    have KC := Lib.hid (show W0.cell? ⟨g, 0, none⟩ = some (.int .i64 W) ∧ W0.cell? ⟨g, 1, none⟩ = some (.int .i64 H) ∧ W0.cell? ⟨g, 2, none⟩ = some (.slice (es[0]'h0).ad (es[0]'h0).l.length (es[0]'h0).c) ∧ W0.cell? ⟨w.heap.size, 0, none⟩ = some (.int .i64 wd) ∧ W0.cell? ⟨w.heap.size, 1, none⟩ = some (.int .i64 hg) ∧ W0.cell? ⟨w.heap.size, 2, none⟩ = some (.slice af l.length cf) from ⟨q0, q1, q2, N0.out.x.cells⟩)
    have KD : Hid (W0.drew.cell? ⟨g, 0, none⟩ = some (.int .i64 W) ∧ W0.drew.cell? ⟨g, 1, none⟩ = some (.int .i64 H) ∧ W0.drew.cell? ⟨g, 2, none⟩ = some (.slice (es[0]'h0).ad (es[0]'h0).l.length (es[0]'h0).c) ∧ W0.drew.cell? ⟨w.heap.size, 0, none⟩ = some (.int .i64 wd) ∧ W0.drew.cell? ⟨w.heap.size, 1, none⟩ = some (.int .i64 hg) ∧ W0.drew.cell? ⟨w.heap.size, 2, none⟩ = some (.slice af l.length cf)) := Lib.hid KC.out
    have bd : Below W0.heap.size W0 W0.drew := (Below.refl _ _).drew
    have ND := Lib.hid (N0.out.step bd)
    have FD := Lib.hid (flds_below HFl.out bd)
    have hgD : g < W0.drew.heap.size := hb
    have hbD : w.heap.size < W0.drew.heap.size := hzw
    have HE3 := Lib.hid e3
    have HE2 := Lib.hid e2
    clear bd q0 q1 q2 q3 e0 e1 e2 e3 HFl N0
    generalize (es[0]'h0).ad = ad0 at *
    generalize (es[0]'h0).c = c0 at *
    generalize hl0 : (es[0]'h0).l = l0 at *
    have HL0 := Lib.hid hl0
    clear hl0
    cases hmt : mateB (plains es) (wd, hg, l) with
    | false =>
      rw [nrR_mate hmt]
      clear HC he hok hW hH HSM
      go_enter Try.func51, Try.ntmps51
      go_wp2_with fail
      rw [HW.out]
      obtain ⟨k0, k1, k2, k3, k4, k5⟩ := KC.out
      go_region_held3 (fun w' => w'.cell? ⟨g, 0, none⟩ = some (.int .i64 W) ∧ w'.cell? ⟨g, 1, none⟩ = some (.int .i64 H) ∧ w'.cell? ⟨g, 2, none⟩ = some (.slice ad0 l0.length c0) ∧ w'.cell? ⟨w.heap.size, 0, none⟩ = some (.int .i64 wd) ∧ w'.cell? ⟨w.heap.size, 1, none⟩ = some (.int .i64 hg) ∧ w'.cell? ⟨w.heap.size, 2, none⟩ = some (.slice af l.length cf))
        (first | (with_reducible exact KA.out _) | (with_reducible exact K1.out) | (with_reducible exact K2.out) | (with_reducible exact KD.out) | go_keep)
        (first
          | (go_at_call 86; (with_reducible refine (HD.out _ FD.out).mono ?_); rintro e w1 ⟨rfl, b1⟩; have N1 := Lib.hid (ND.out.step b1); have F1 := Lib.hid (flds_below FD.out b1); have K1 := Lib.hid (cells6_below KD.out b1 hgD hbD); have KA := Lib.hid (fun o => cells6_below K1.out (below_all w1 o) (Nat.lt_of_lt_of_le hgD b1.size) (Nat.lt_of_lt_of_le hbD b1.size)); have N1b := Lib.hid b1.size; clear b1)
          | (go_at_call 69; (with_reducible refine (HONE.out false _ (HIN.out _ F1.out) ((HF.out.below N1.out.b (Nat.le_refl _)).more N1.out.b.size) hmt).mono ?_); rintro e w2 ⟨rfl, b2⟩; have N2 := Lib.hid (N1.out.step (below_then (below_all w1 _) b2)); have F2 := Lib.hid (flds_below F1.out (below_then (below_all w1 _) b2)); have K2 := Lib.hid (cells6_below K1.out (below_then (below_all w1 _) b2) (Nat.lt_of_lt_of_le hgD N1b.out) (Nat.lt_of_lt_of_le hbD N1b.out)); clear b2))
      rename_i hHeld
      clear hHeld k0 k1 k2 k3 k4 k5
      go_wp2
      exact bodyPost_ret (v := .tuple #[.int .i64 0, .int .i64 0, .bool false]) (by simp [results, Try.results51, go_sem]) rfl ⟨rfl, N2.out.b⟩
    | true =>
      rw [nrR_yes he hmt]
      obtain ⟨m1, m2, m3⟩ := mateB_iff.1 hmt
      rw [hW] at m2
      rw [hH] at m3
      simp only at m1 m2 m3
      have hll : l.length = W * H := by have h9 := good_len m1; rw [m2, m3, ← Int.natCast_mul] at h9; exact Int.ofNat.inj h9
      have hle := hok.le
      have hl64 : l.length ≤ 64 := by omega
      have HBL := Lib.hid (good_bd m1)
      have HOK := Lib.hid hok
      have HLL := Lib.hid hll
      have hn8 : es.length ≤ 8 := hok.n.2
      rw [plains_len]
      have HS0 := Lib.hid (near_first (plains es) l)
      have HG0 := Lib.hid (plains_getD h0)
      have HGS := Lib.hid (fun (a1 a2 : Option Addr) (x1 x2 : Nat) (Wd : World) (i1 : Ints .i64 Wd Wd.heap.size a1 l0) (i2 : Ints .i64 Wd Wd.heap.size a2 l) => sumGaps_is (W : Int) (H : Int) a1 l0 x1 wd hg a2 l x2 Wd i1 i2 (by rw [HE2.out, HLL.out]) hl64 HB0.out HBL.out)
      have HNS := Lib.hid (nearS_bd hok HBL.out hl64)
      rw [HG0.out, HL0.out] at HS0
      rw [← HS0.out.2] at HGS
      clear HC he hok hW hH HSM hll hle m1 m2 m3
      go_enter Try.func51, Try.ntmps51
      go_wp2_with fail
      rw [HW.out]
      obtain ⟨k0, k1, k2, k3, k4, k5⟩ := KC.out
      go_region_held3 (fun w' => w'.cell? ⟨g, 0, none⟩ = some (.int .i64 W) ∧ w'.cell? ⟨g, 1, none⟩ = some (.int .i64 H) ∧ w'.cell? ⟨g, 2, none⟩ = some (.slice ad0 l0.length c0) ∧ w'.cell? ⟨w.heap.size, 0, none⟩ = some (.int .i64 wd) ∧ w'.cell? ⟨w.heap.size, 1, none⟩ = some (.int .i64 hg) ∧ w'.cell? ⟨w.heap.size, 2, none⟩ = some (.slice af l.length cf))
        (first | (with_reducible exact KA.out _) | (with_reducible exact K1.out) | (with_reducible exact K2.out) | (with_reducible exact KD.out) | go_keep)
        (first
          | (go_at_call 86; (with_reducible refine (HD.out _ FD.out).mono ?_); rintro e w1 ⟨rfl, b1⟩; have N1 := Lib.hid (ND.out.step b1); have F1 := Lib.hid (flds_below FD.out b1); have K1 := Lib.hid (cells6_below KD.out b1 hgD hbD); have KA := Lib.hid (fun o => cells6_below K1.out (below_all w1 o) (Nat.lt_of_lt_of_le hgD b1.size) (Nat.lt_of_lt_of_le hbD b1.size)); have N1b := Lib.hid b1.size; clear b1)
          | (go_at_call 69; (with_reducible refine (HONE.out true _ (HIN.out _ F1.out) ((HF.out.below N1.out.b (Nat.le_refl _)).more N1.out.b.size) hmt).mono ?_); rintro e w2 ⟨rfl, b2⟩; have N2 := Lib.hid (N1.out.step (below_then (below_all w1 _) b2)); have F2 := Lib.hid (flds_below F1.out (below_then (below_all w1 _) b2)); have K2 := Lib.hid (cells6_below K1.out (below_then (below_all w1 _) b2) (Nat.lt_of_lt_of_le hgD N1b.out) (Nat.lt_of_lt_of_le hbD N1b.out)); clear b2))
      rename_i hHeld
      clear hHeld k0 k1 k2 k3 k4 k5
      clear KC KD KA K1 ND FD N1 F1 N1b hgD hbD HONE HD HW
      go_wp2_with fail
      obtain ⟨k0, k1, k2, k3, k4, k5⟩ := K2.out
      have bd : Below w2.heap.size w2 w2.drew := (Below.refl _ _).drew
      have N3 := Lib.hid (N2.out.step bd)
      have F3 := Lib.hid (flds_below F2.out bd)
      have hgw : g < w.heap.size := by obtain ⟨b', o', e', hb', _⟩ := HL.out.at_ h0; injection e' with e'; injection e' with e1 e2; subst e1; exact hb'
      have hg3 : g < w2.heap.size := by have := N2.out.b.size; omega
      have hb3 : w.heap.size < w2.heap.size := N2.out.x.lt
      have K3 := Lib.hid (cells6_below K2.out bd hg3 hb3)
      clear bd N2 F2
      go_region_held3 (fun w' => w'.cell? ⟨g, 0, none⟩ = some (.int .i64 W) ∧ w'.cell? ⟨g, 1, none⟩ = some (.int .i64 H) ∧ w'.cell? ⟨g, 2, none⟩ = some (.slice ad0 l0.length c0) ∧ w'.cell? ⟨w.heap.size, 0, none⟩ = some (.int .i64 wd) ∧ w'.cell? ⟨w.heap.size, 1, none⟩ = some (.int .i64 hg) ∧ w'.cell? ⟨w.heap.size, 2, none⟩ = some (.slice af l.length cf))
        (first | (with_reducible exact K4.out) | (with_reducible exact K3.out) | go_keep)
        (first
          | (go_at_call 87; (with_reducible refine (HGS.out _ _ _ _ _ (HIN.out _ F3.out) ((HF.out.below N3.out.b (Nat.le_refl _)).more N3.out.b.size)).mono ?_); rintro e w4 ⟨rfl, b4⟩; have N4 := Lib.hid (N3.out.step b4); have K4 := Lib.hid (cells6_below K3.out b4 hg3 hb3); clear b4))
      rename_i hHeld
      clear hHeld k0 k1 k2 k3 k4 k5 K2 K3 K4 N3 F3
      go_wp2
      go_loopw [7, 8, 31] (fun p q i wr => ∃ j jj : Nat, j ≤ es.length ∧ Hid (jj = if j = 0 then 1 else j) ∧ i = .int .i64 j ∧ p = .int .i64 (nearI (plains es) l jj : Int) ∧ q = .int .i64 (nearS (plains es) l jj) ∧ Nr w wd hg af l cf wr) (fun _ _ i _ => es.length - (intOf i).toNat)
      case atStart => exact ⟨0, 1, Nat.zero_le _, Lib.hid rfl, rfl, by rw [HS0.out.1]; rfl, rfl, N4.out⟩
      case round =>
        clear N4
        obtain ⟨j, jj, hj, HJ, rfl, rfl, rfl, hN⟩ := hrel
        have HN := Lib.hid hN
        clear hN
        by_cases hlt : j < es.length
        · obtain ⟨b', o', e', hb', q0, q1, q2, q3⟩ := (HL.out.below HN.out.b (Nat.le_refl _)).at_ hlt
          injection e' with e'
          injection e' with eb eo
          subst eb eo
          obtain ⟨e0, e1, e2, e3⟩ := HOK.out.e j hlt
          rw [e0] at q0
          rw [e1] at q1
          simp only [Nat.zero_add] at q0 q1 q2
          have hji : (j : Int) < (es.length : Int) := by omega
          have hj0 : (0 : Int) ≤ (j : Int) := by omega
          have HGJ := Lib.hid (fun (a2 : Option Addr) (x2 : Nat) (Wd : World) (i1 : Ints .i64 Wd Wd.heap.size es[j].ad es[j].l) (i2 : Ints .i64 Wd Wd.heap.size a2 l) => sumGaps_is (W : Int) (H : Int) es[j].ad es[j].l es[j].c wd hg a2 l x2 Wd i1 i2 (by rw [e2, HLL.out]) hl64 (good_bd e3) HBL.out)
          have hgp := plains_getD hlt
          have HY := Lib.hid (near_yes (P := plains es) (b := l) (j := j))
          have HNO := Lib.hid (near_no (P := plains es) (b := l) (j := j))
          have HF1 := Lib.hid (fun (hj : j = 0) => show nearS (plains es) l 1 = gapK ((plains es).getD j (0, 0, [])).2.2 l l.length by subst hj; exact (near_first _ _).2)
          rw [hgp] at HY HNO HF1
          have hbd := gapK_bd (good_bd e3) HBL.out l.length
          have hns := HNS.out jj
          have HI := Lib.hid ((q3.below (below_all wr (.cells #[.int .i64 W, .int .i64 H, .slice es[j].ad es[j].l.length es[j].c] 34)) HN.out.b.size).more (by show w.heap.size ≤ (wr.alloc _).heap.size; have := HN.out.b.size; simp; omega) : Ints .i64 (wr.alloc (.cells #[.int .i64 W, .int .i64 H, .slice es[j].ad es[j].l.length es[j].c] 34)) (wr.alloc (.cells #[.int .i64 W, .int .i64 H, .slice es[j].ad es[j].l.length es[j].c] 34)).heap.size es[j].ad es[j].l)
          obtain ⟨s, hs⟩ : ∃ s, gapK es[j].l l l.length = s := ⟨_, rfl⟩
          rw [hs] at HGJ HY HNO HF1 hbd
          clear q3 e0 e1 e2 e3 hgp hs
          have hx0 : es[j].l.length = es[j].l.length := rfl
          generalize es[j].ad = x2 at *
          generalize es[j].c = x3 at *
          generalize es[j].l = x4 at *
          generalize x4.length = x5 at *
          clear hx0
          have N9 := Lib.hid (HN.out.step (below_all wr (.cells #[.int .i64 W, .int .i64 H, .slice x2 x5 x3] 34)))
          obtain ⟨y0, y1, y2⟩ := N9.out.x.cells
          obtain ⟨z0, z1, z2⟩ := (Box.new wr 34 (.int .i64 W) (.int .i64 H) (.slice x2 x5 x3)).cells
          have HFI := Lib.hid ((HF.out.below N9.out.b (Nat.le_refl _)).more N9.out.b.size)
          obtain ⟨s1, s2⟩ := hbd
          obtain ⟨t1, t2⟩ := hns
          go_wp2_with fail
          refine (HGJ.out _ _ _ HI.out HFI.out).mono ?_
          rintro e w5 ⟨rfl, b5⟩
          have N5 := Lib.hid (N9.out.step b5)
          clear b5 y0 y1 y2 z0 z1 z2 q0 q1 q2
          by_cases hj00 : j = 0
          · have hjj : jj = 1 := by rw [HJ.out, if_pos hj00]
            have hss := HF1.out hj00
            have hns2 : ¬ s < nearS (plains es) l jj := by rw [hjj, hss]; omega
            have HJ2 := Lib.hid (show jj = if j + 1 = 0 then 1 else j + 1 by rw [hjj, if_neg (by omega), hj00])
            clear hjj hss HY HNO HF1 hj00
            go_wp2
            go_roundw
            case rel => exact ⟨j + 1, jj, by omega, HJ2, by go_num, rfl, rfl, N5.out⟩
            case measure => simp [intOf]; omega
          · have hjj : jj = j := by rw [HJ.out, if_neg hj00]
            rw [← hjj] at HY HNO
            have HJ2 := Lib.hid (show jj + 1 = if j + 1 = 0 then 1 else j + 1 by rw [hjj, if_neg (by omega)])
            have HJJ := Lib.hid hjj
            clear hjj hj00 HF1
            by_cases hsn : s < nearS (plains es) l jj
            · have HE := Lib.hid (HY.out hsn)
              clear HY HNO
              go_wp2
              go_roundw
              case rel => exact ⟨j + 1, jj + 1, by omega, HJ2, by go_num, by rw [HE.out.1, HJJ.out], by rw [HE.out.2], N5.out⟩
              case measure => simp [intOf]; omega
            · have HE := Lib.hid (HNO.out (by omega))
              clear HY HNO
              go_wp2
              go_roundw
              case rel => exact ⟨j + 1, jj + 1, by omega, HJ2, by go_num, by rw [HE.out.1], by rw [HE.out.2], N5.out⟩
              case measure => simp [intOf]; omega
        · have HJE := Lib.hid (show jj = es.length by rw [HJ.out, if_neg (by omega)]; omega)
          have hge : ¬ (j : Int) < (es.length : Int) := by omega
          go_wp2
          refine bodyPost_ret (v := .tuple #[.int .i64 (nearI (plains es) l jj : Int), .int .i64 (nearS (plains es) l jj), .bool true]) (by simp [results, Try.results51, go_sem]) rfl ⟨?_, HN.out.b⟩
          rw [HJE.out]; rfl
end Go.Proofs.Ytggdkibbfmjelaa
