/- The model's NearestMember. -/
import Derived.Test.YtggdkibbfmjelaaEnGap
import Derived.Test.YtggdkibbfmjelaaEnGood
import Derived.Test.YtggdkibbfmjelaaSame
import Derived.Deep.QuietTactic
import Derived.BigQuiet
namespace Go.Proofs.Ytggdkibbfmjelaa
open Go.RowKit
set_option linter.unusedVariables false
set_option linter.unusedSimpArgs false
theorem nrR_en {P : List Fv} {f : Fv} (h : enB P = false) : nrR P f = none := if_neg (by rw [h]; simp)
theorem nrR_mate {P : List Fv} {f : Fv} (h : mateB P f = false) : nrR P f = none := if_neg (by rw [h]; simp)
theorem nrR_yes {P : List Fv} {f : Fv} (h : enB P = true) (h2 : mateB P f = true) : nrR P f = some ((nearI P f.2.2 P.length : Int), nearS P f.2.2 P.length) := if_pos (by rw [h, h2]; rfl)
/-- what the model's loops know of a world: the field's box -/
structure Nr (w : World) (wd hg : Int) (a : Option Addr) (l : List Int) (c : Nat) (wr : World) : Prop where
  b : Below w.heap.size w wr
  x : Box wr w.heap.size 34 (.int .i64 wd) (.int .i64 hg) (.slice a l.length c)
theorem Nr.step {w wr w1 : World} {wd hg : Int} {a : Option Addr} {l : List Int} {c : Nat} (h : Nr w wd hg a l c wr) (b : Below wr.heap.size wr w1) : Nr w wd hg a l c w1 := ⟨below_then h.b b, h.x.below b⟩ /- 34 -/
set_option maxRecDepth 100000 in
set_option maxHeartbeats 8000000 in
theorem specNear_any (a : Option Addr) (es : List FE) (c : Nat) (wd hg : Int) (af : Option Addr) (l : List Int) (cf : Nat) (w : World) (hl : Flds w w.heap.size a es) (hf : Ints .i64 w w.heap.size af l) (hn : es.length ≤ 1048576) (hs : ∀ e ∈ es, e.l.length ≤ 1048576) (hm : l.length ≤ 1048576) :
    Calls Try.prog 49 #[.slice a es.length c, .agg #[.int .i64 wd, .int .i64 hg, .slice af l.length cf]] w fun e w' => e = .returned (.tuple #[.int .i64 (twA (nrR (plains es) (wd, hg, l))), .int .i64 (twB (nrR (plains es) (wd, hg, l))), .bool (twO (nrR (plains es) (wd, hg, l)))]) ∧ Below w.heap.size w w' := by
  have N0 := Lib.hid (show Nr w wd hg af l cf (w.alloc (.cells #[.int .i64 wd, .int .i64 hg, .slice af l.length cf] 34)) from ⟨below_all _ _, Box.new _ _ _ _ _⟩)
  have HSZ := Lib.hid (show w.heap.size < (w.alloc (.cells #[.int .i64 wd, .int .i64 hg, .slice af l.length cf] 34)).heap.size by simp)
  have HL := Lib.hid hl
  have HF := Lib.hid hf
  have HC := Lib.hid (fun v W h hv => specEn_is a es c v W h hn hs hv)
  have HG := Lib.hid (fun v W h hv => specGood_is wd hg af l cf W.heap.size v W h (Nat.le_refl _) hm hv)
  have hFl := flds_alloc hl (.cells #[.int .i64 wd, .int .i64 hg, .slice af l.length cf] 34)
  have hIn := ints_alloc hf (.cells #[.int .i64 wd, .int .i64 hg, .slice af l.length cf] 34)
  have hX := Box.new w 34 (.int .i64 wd) (.int .i64 hg) (.slice af l.length cf)
  clear hl hf hs
  cases he : enB (plains es) with
  | false =>
    rw [nrR_en he]
    obtain ⟨W0, hW0⟩ : ∃ W, w.alloc (.cells #[.int .i64 wd, .int .i64 hg, .slice af l.length cf] 34) = W := ⟨_, rfl⟩
    rw [hW0] at hFl N0
    have HW := Lib.hid hW0
    have HFl := Lib.hid hFl
    have HD := Lib.hid (fun W h => HC.out false W h he)
    clear hFl hIn hX hW0 HC he HG HL HF
    go_enter Try.func49, Try.ntmps49
    go_wp2_with fail
    rw [HW.out]
    refine wp_region_later (by kernel_rfl) (by kernel_rfl) ?_
    repeat (go_big_quiet_step ((go_at_call 84; exact calls_later (HD.out _ (flds_below HFl.out (Later.below _))))))
    refine wpQuiet_nil ?_
    intro _ hw'
    obtain ⟨pq, hw''⟩ := hw'
    subst hw''
    have B1 := Lib.hid (below_then N0.out.b pq.below)
    go_wp2
    exact bodyPost_ret (v := .tuple #[.int .i64 0, .int .i64 0, .bool false]) (by simp [results, Try.results49, go_sem]) rfl ⟨rfl, B1.out⟩
  | true =>
    have HD := Lib.hid (fun W h => HC.out true W h he)
    obtain ⟨W, H, hok, hW, hH⟩ := okE_of he
    have h0 : 0 < es.length := by have := hok.n; omega
    obtain ⟨b, o, rfl, hb, q0, q1, _, _⟩ := hFl.at_ h0
    obtain ⟨e0, e1, -, -⟩ := hok.e 0 h0
    rw [e0] at q0
    rw [e1] at q1
    simp only [Nat.zero_mul, Nat.add_zero] at q0 q1
    have h00 : (0 : Int) < (es.length : Int) := by omega
    obtain ⟨W0, hW0⟩ : ∃ W, w.alloc (.cells #[.int .i64 wd, .int .i64 hg, .slice af l.length cf] 34) = W := ⟨_, rfl⟩
    rw [hW0] at hFl hIn hX q0 q1 N0 HSZ hb
    have HW := Lib.hid hW0
    have HFl := Lib.hid hFl
    have HIn := Lib.hid hIn
    obtain ⟨p0, p1, p2⟩ := box_later hX
    have p3 := later_cell q0 hb
    have p4 := later_cell q1 hb
    clear hW0 hFl hIn hX q0 q1 e0 e1
    cases hgd : goodB wd hg l with
    | false =>
      rw [nrR_mate (by unfold mateB; rw [hgd]; rfl)]
      have HGD := Lib.hid (fun W h => HG.out false W h hgd)
      clear he HC HG HL HF hok hW hH hgd
      go_enter Try.func49, Try.ntmps49
      go_wp2_with fail
      rw [HW.out]
      refine wp_region_later (by kernel_rfl) (by kernel_rfl) ?_
      repeat (go_big_quiet_step (first | (go_at_call 84; exact calls_later (HD.out _ (flds_below HFl.out (Later.below _)))) | (go_at_call 57; exact calls_later (HGD.out _ (ints_below HIn.out (Later.below _))))))
      refine wpQuiet_nil ?_
      intro _ hw'
      obtain ⟨pq, hw''⟩ := hw'
      subst hw''
      have B1 := Lib.hid (below_then N0.out.b pq.below)
      clear p0 p1 p2 p3 p4
      go_wp2
      exact bodyPost_ret (v := .tuple #[.int .i64 0, .int .i64 0, .bool false]) (by simp [results, Try.results49, go_sem]) rfl ⟨rfl, B1.out⟩
    | true =>
      have HGD := Lib.hid (fun W h => HG.out true W h hgd)
      by_cases hw0 : wd = (W : Int)
      · have n0 : (wd != (W : Int)) = false := by simp [hw0]
        by_cases hh0 : hg = (H : Int)
        · have n1 : (hg != (H : Int)) = false := by simp [hh0]
          rw [nrR_yes he (by unfold mateB; rw [hgd, hW, hH, decide_eq_true hw0, decide_eq_true hh0]; rfl)]
          have hll : l.length = W * H := by have h9 := good_len hgd; rw [hw0, hh0, ← Int.natCast_mul] at h9; exact Int.ofNat.inj h9
          have hle := hok.le
          have hl64 : l.length ≤ 64 := by omega
          have hbl := good_bd hgd
          have HOK := Lib.hid hok
          have HBL := Lib.hid hbl
          have HLL := Lib.hid hll
          have hn8 : es.length ≤ 8 := hok.n.2
          clear he HC HG hW hH hgd hok hll hle hbl hw0 hh0
          rw [plains_len]
          go_enter Try.func49, Try.ntmps49
          go_wp2_with fail
          rw [HW.out]
          refine wp_region_later (by kernel_rfl) (by kernel_rfl) ?_
          repeat (go_big_quiet_step (first | (go_at_call 84; exact calls_later (HD.out _ (flds_below HFl.out (Later.below _)))) | (go_at_call 57; exact calls_later (HGD.out _ (ints_below HIn.out (Later.below _))))))
          refine wpQuiet_nil ?_
          intro _ hw'
          obtain ⟨pq, hw''⟩ := hw'
          subst hw''
          have N1 := Lib.hid (N0.out.step pq.below)
          clear p0 p1 p2 p3 p4 n0 n1 N0 HW
          generalize pq.world = w1 at *
          have HS0 := Lib.hid (near_first (plains es) l)
          go_wp2
          go_loopw [7, 8, 9] (fun p q i wr => ∃ j : Nat, j ≤ es.length ∧ i = .int .i64 j ∧ p = .int .i64 (nearI (plains es) l j : Int) ∧ q = .int .i64 (if j = 0 then -1 else nearS (plains es) l j) ∧ Nr w wd hg af l cf wr) (fun _ _ i _ => es.length - (intOf i).toNat)
          case atStart => exact ⟨0, Nat.zero_le _, rfl, rfl, rfl, N1.out⟩
          case round =>
            obtain ⟨j, hj, rfl, rfl, hq, hN⟩ := hrel
            have HN := Lib.hid hN
            have HQ := Lib.hid hq
            clear hN hq N1
            by_cases hlt : j < es.length
            · have hji : (j : Int) < (es.length : Int) := by omega
              have hj0 : (0 : Int) ≤ (j : Int) := by omega
              have hlj : es[j].l.length = l.length := by rw [(HOK.out.e j hlt).2.2.1, HLL.out]
              have HBJ := Lib.hid (good_bd (HOK.out.e j hlt).2.2.2)
              have HGJ := Lib.hid (plains_getD hlt)
              have HST := Lib.hid (gapK_step es[j].l l)
              have HBD := Lib.hid (gapK_bd HBJ.out HBL.out)
              have HG0 := Lib.hid (gapK_zero es[j].l l)
              have HY := Lib.hid (near_yes (P := plains es) (b := l) (j := j))
              have HNO := Lib.hid (near_no (P := plains es) (b := l) (j := j))
              have HF1 := Lib.hid (fun (hj : j = 0) => show nearI (plains es) l (j + 1) = j ∧ nearS (plains es) l (j + 1) = gapK ((plains es).getD j (0, 0, [])).2.2 l l.length by subst hj; exact near_first _ _)
              rw [HGJ.out] at HY HNO HF1
              obtain ⟨G, hG⟩ : ∃ G, gapK es[j].l l = G := ⟨_, rfl⟩
              rw [hG] at HST HBD HG0 HY HNO HF1
              have HNS := Lib.hid (nearS_bd HOK.out HBL.out hl64 j)
              clear hG
              go_wp2_with fail
              go_loopw [10, 11] (fun s i wr' => ∃ k : Nat, k ≤ l.length ∧ i = .int .i64 k ∧ s = .int .i64 (G k) ∧ Nr w wd hg af l cf wr') (fun _ i _ => l.length - (intOf i).toNat)
              case atStart => exact ⟨0, Nat.zero_le _, rfl, by rw [HG0.out], HN.out⟩
              case round =>
                clear HN
                rename_i wr' _ _
                obtain ⟨k, hk, rfl, rfl, hN⟩ := hrel
                have HN := Lib.hid hN
                obtain ⟨x0, x1, x2⟩ := hN.x.cells
                clear hN x0 x1
                by_cases hlk : k < l.length
                · obtain ⟨b', o', e', hb', r0, r1, r2, r3⟩ := (HL.out.below HN.out.b (Nat.le_refl _)).at_ hlt
                  injection e' with e'
                  injection e' with eb eo
                  subst eb eo
                  obtain ⟨b1, o1, e1, hb1, c1⟩ := (HF.out.below HN.out.b (Nat.le_refl _)).at_ hlk
                  have hlk2 : k < es[j].l.length := by rw [hlj]; exact hlk
                  obtain ⟨b2, o2, e2, hb2, c2⟩ := r3.at_ hlk2
                  clear r0 r1 r3
                  rw [e2, hlj] at r2
                  have hki : (k : Int) < (l.length : Int) := by omega
                  have hk0 : (0 : Int) ≤ (k : Int) := by omega
                  have hy := HBL.out _ (List.getElem_mem hlk)
                  have hx := HBJ.out _ (List.getElem_mem hlk2)
                  have HS := Lib.hid (HST.out k)
                  have hgb := HBD.out k
                  rw [getD_at hlk2, getD_at hlk] at HS
                  generalize es[j].l[k] = x at *
                  generalize l[k] = y at *
                  subst e1
                  obtain ⟨x3, x4⟩ := hx
                  obtain ⟨y3, y4⟩ := hy
                  obtain ⟨s, hs⟩ : ∃ s, G k = s := ⟨_, rfl⟩
                  rw [hs] at hgb HS ⊢
                  obtain ⟨s1, s2⟩ := hgb
                  have s3 : s ≤ 1280000 := by omega
                  clear hs e2
                  by_cases hym : y = -9999
                  · have HE := Lib.hid (gapO_no (x := x) (Or.inr hym))
                    subst hym
                    rw [HE.out] at HS
                    go_wp2
                    go_roundw
                    case rel => exact ⟨k + 1, by omega, by go_num, by rw [HS.out, Int.add_zero], HN.out⟩
                    case measure => simp [intOf]; omega
                  · have n2 : (y != -9999) = true := by rw [bne_iff_ne]; exact hym
                    by_cases hxm : x = -9999
                    · have HE := Lib.hid (gapO_no (y := y) (Or.inl hxm))
                      subst hxm
                      rw [HE.out] at HS
                      go_wp2
                      go_roundw
                      case rel => exact ⟨k + 1, by omega, by go_num, by rw [HS.out, Int.add_zero], HN.out⟩
                      case measure => simp [intOf]; omega
                    · have n1 : (x != -9999) = true := by rw [bne_iff_ne]; exact hxm
                      have HE := Lib.hid (gapO_yes hxm hym)
                      rw [HE.out] at HS
                      obtain ⟨d, hd⟩ : ∃ d, y - x = d := ⟨_, rfl⟩
                      have hwd : IntKind.i64.wrap (y - x) = d := by rw [IntWalk.i64_in _ (by omega)]; exact hd
                      have HMX := Lib.hid (fun W' => l1Most_is d (-d) W')
                      obtain ⟨m, hmx⟩ : ∃ m, max d (-d) = m := ⟨_, rfl⟩
                      rw [hmx] at HMX
                      have HSM := Lib.hid (show G (k + 1) = s + m by rw [HS.out, ← hmx, ← hd]; congr 1; omega)
                      have m1 : m ≤ 20000 := by omega
                      have m0 : 0 ≤ m := by omega
                      have d1 : -20000 ≤ d := by omega
                      have d2 : d ≤ 20000 := by omega
                      clear hxm hym hmx HS HE hd
                      go_wp2_with fail
                      go_quiet (fail)
                      have HN2 := Lib.hid (HN.out.step ((Drew.more (Drew.refl _) nq).below _))
                      go_wp2_with (go_at_call 85; refine (HMX.out _).mono ?_; rintro e w7 ⟨rfl, rfl⟩)
                      go_roundw
                      case rel => exact ⟨k + 1, by omega, by go_num, by rw [HSM.out], HN2.out⟩
                      case measure => simp [intOf]; omega
                · have hkl : k = l.length := by omega
                  have HGL := Lib.hid (show G k = G l.length by rw [hkl])
                  have hge : ¬ (k : Int) < (l.length : Int) := by omega
                  have hgb := HBD.out k
                  obtain ⟨s, hs⟩ : ∃ s, G k = s := ⟨_, rfl⟩
                  rw [← HGL.out] at HY HNO HF1
                  rw [hs] at hgb HY HNO HF1 ⊢
                  obtain ⟨s1, s2⟩ := hgb
                  have s3 : s ≤ 1280000 := by omega
                  clear hkl HGL hs
                  have hq := HQ.out
                  by_cases hj00 : j = 0
                  · rw [if_pos hj00] at hq
                    have HE := Lib.hid (HF1.out hj00)
                    subst hq
                    clear HQ HY HNO HF1 HNS HS0 hj00
                    go_wp2
                    go_roundw
                    case rel => exact ⟨j + 1, by omega, by go_num, by rw [HE.out.1], by rw [if_neg (by omega), HE.out.2], HN.out⟩
                    case measure => simp [intOf]; omega
                  · rw [if_neg hj00] at hq
                    have hns := HNS.out
                    generalize nearS (plains es) l j = N0 at *
                    subst hq
                    obtain ⟨t1, t2⟩ := hns
                    have t3 : ¬ N0 < 0 := by omega
                    by_cases hsn : s < N0
                    · have HE := Lib.hid (HY.out hsn)
                      clear HQ HY HNO HF1 HNS HS0 hj00
                      go_wp2
                      go_roundw
                      case rel => exact ⟨j + 1, by omega, by go_num, by rw [HE.out.1], by rw [if_neg (by omega), HE.out.2], HN.out⟩
                      case measure => simp [intOf]; omega
                    · have HE := Lib.hid (HNO.out (by omega))
                      clear HQ HY HNO HF1 HNS HS0 hj00
                      go_wp2
                      go_roundw
                      case rel => exact ⟨j + 1, by omega, by go_num, by rw [HE.out.1], by rw [if_neg (by omega), HE.out.2], HN.out⟩
                      case measure => simp [intOf]; omega
            · obtain rfl : j = es.length := by omega
              have hq := HQ.out
              rw [if_neg (by omega)] at hq
              subst hq
              have hge : ¬ (es.length : Int) < (es.length : Int) := by omega
              clear HQ
              go_wp2
              exact bodyPost_ret (v := .tuple #[.int .i64 (nearI (plains es) l es.length : Int), .int .i64 (nearS (plains es) l es.length), .bool true]) (by simp [results, Try.results49, go_sem]) rfl ⟨rfl, HN.out.b⟩
        · have n1 : (hg != (H : Int)) = true := by simp [hh0]
          rw [nrR_mate (by unfold mateB; rw [hH, decide_eq_false hh0]; simp)]
          clear he HC HG HL HF hok hW hH hgd hw0 hh0
          go_enter Try.func49, Try.ntmps49
          go_wp2_with fail
          rw [HW.out]
          refine wp_region_later (by kernel_rfl) (by kernel_rfl) ?_
          repeat (go_big_quiet_step (first | (go_at_call 84; exact calls_later (HD.out _ (flds_below HFl.out (Later.below _)))) | (go_at_call 57; exact calls_later (HGD.out _ (ints_below HIn.out (Later.below _))))))
          refine wpQuiet_nil ?_
          intro _ hw'
          obtain ⟨pq, hw''⟩ := hw'
          subst hw''
          have B1 := Lib.hid (below_then N0.out.b pq.below)
          clear p0 p1 p2 p3 p4
          go_wp2
          exact bodyPost_ret (v := .tuple #[.int .i64 0, .int .i64 0, .bool false]) (by simp [results, Try.results49, go_sem]) rfl ⟨rfl, B1.out⟩
      · have n0 : (wd != (W : Int)) = true := by simp [hw0]
        rw [nrR_mate (by unfold mateB; rw [hW, decide_eq_false hw0]; simp)]
        clear he HC HG HL HF hok hW hH hgd hw0
        go_enter Try.func49, Try.ntmps49
        go_wp2_with fail
        rw [HW.out]
        refine wp_region_later (by kernel_rfl) (by kernel_rfl) ?_
        repeat (go_big_quiet_step (first | (go_at_call 84; exact calls_later (HD.out _ (flds_below HFl.out (Later.below _)))) | (go_at_call 57; exact calls_later (HGD.out _ (ints_below HIn.out (Later.below _))))))
        refine wpQuiet_nil ?_
        intro _ hw'
        obtain ⟨pq, hw''⟩ := hw'
        subst hw''
        have B1 := Lib.hid (below_then N0.out.b pq.below)
        clear p0 p1 p2 p3 p4
        go_wp2
        exact bodyPost_ret (v := .tuple #[.int .i64 0, .int .i64 0, .bool false]) (by simp [results, Try.results49, go_sem]) rfl ⟨rfl, B1.out⟩
end Go.Proofs.Ytggdkibbfmjelaa
