/- The model's l12Cost and TrackingCost. -/
import Derived.Test.YthceffkkokgpnaaStTrS
import Derived.Test.YthceffkkokgpnaaStTc
namespace Go.Proofs.Ythceffkkokgpnaa
open Go.RowKit
set_option linter.unusedVariables false
set_option linter.unusedSimpArgs false
set_option maxRecDepth 100000 in
set_option maxHeartbeats 8000000 in
theorem specCost_any (aa : Option Addr) (la : List StT) (ca : Nat) (ab : Option Addr) (lb : List StT) (cb : Nat) (at_ : Option Addr) (t : List Int) (ct : Nat) (p : Int) (w : World) (h1 : Sts w w.heap.size aa la) (h2 : Sts w w.heap.size ab lb) (h3 : Ints .i64 w w.heap.size at_ t) (htr : trB la lb t = true) (hp2 : 0 ≤ p ∧ p ≤ 20) :
    Calls Try.prog 77 #[.slice aa la.length ca, .slice ab lb.length cb, .slice at_ t.length ct, .int .i64 p] w fun e w' => e = .returned (.int .i64 (tcC la lb t p)) ∧ Below w.heap.size w w' := by
  have H1 := Lib.hid h1
  have H2 := Lib.hid h2
  have H3 := Lib.hid h3
  obtain ⟨ha, hb, hl, hts⟩ := tr_parts htr
  have HTR := Lib.hid htr
  have HAA := Lib.hid ha
  have HBB := Lib.hid hb
  have HLL := Lib.hid hl
  have la5 := sts_len ha
  have lb5 := sts_len hb
  have HTI := Lib.hid (show tcK la lb t p t.length = tcC la lb t p from rfl)
  have HZ := Lib.hid (show p * (lb.length : Int) = tcK la lb t p 0 from rfl)
  have HBD := Lib.hid (fun k (hk : k ≤ la.length) => (tc_bd (k := k) htr hp2 hk).1)
  have hz0 := HBD.out 0 (by omega)
  generalize tcC la lb t p = cend at *
  obtain ⟨z0, hz⟩ : ∃ z, tcK la lb t p 0 = z := ⟨_, rfl⟩
  rw [hz] at hz0 HZ
  have HZZ := Lib.hid hz
  have hmul : IntKind.i64.wrap (p * (lb.length : Int)) = z0 := by rw [HZ.out]; exact IntWalk.i64_in _ (by omega)
  have hlt5 : t.length ≤ 5 := by omega
  clear ha hb hl hts hz h1 h2 h3 htr
  go_enter Try.func77, Try.ntmps77
  go_wp2
  clear hmul
  go_loopw [9, 10] (fun c i wr => ∃ k : Nat, k ≤ t.length ∧ i = .int .i64 k ∧ c = .int .i64 (tcK la lb t p k) ∧ Below w.heap.size w wr) (fun _ i _ => t.length - (intOf i).toNat)
  case atStart => exact ⟨0, Nat.zero_le _, rfl, by rw [HZZ.out], Below.refl _ _⟩
  case round =>
    obtain ⟨k, hk, rfl, rfl, hB⟩ := hrel
    have HBR := Lib.hid hB
    have HR := Lib.hid (HBD.out k (by have := HLL.out; omega))
    by_cases hlt : k < t.length
    · obtain ⟨b, o, rfl, hb9, hc9⟩ := (H3.out.below hB (Nat.le_refl _)).at_ hlt
      have hi : (k : Int) < (t.length : Int) := by omega
      have hi0 : (0 : Int) ≤ (k : Int) := by omega
      have hka : k < la.length := by have := HLL.out; omega
      have hia : (k : Int) < (la.length : Int) := by omega
      have HN := Lib.hid (show tcK la lb t p (k + 1) = tcK la lb t p k + oneC la lb t p k from rfl)
      have HR2 := Lib.hid (HBD.out (k + 1) (by omega))
      obtain ⟨zlo, zhi⟩ := tr_ind HTR.out hlt
      have HON := Lib.hid (fun (e : t[k] = -1) => oneC_none (a := la) (b := lb) (p := p) hlt e)
      have HOS := Lib.hid (fun (n : Nat) (e : t[k] = (n : Int)) (hb : n < lb.length) => oneC_some (p := p) hlt e hka hb)
      obtain ⟨q0, hq0⟩ : ∃ q, tcK la lb t p k = q := ⟨_, rfl⟩
      obtain ⟨q1, hq1⟩ : ∃ q, tcK la lb t p (k + 1) = q := ⟨_, rfl⟩
      rw [hq0] at HR HN
      rw [hq1] at HR2 HN
      rw [hq0]
      have HQ1 := Lib.hid hq1
      clear hq0 hq1
      generalize oneC la lb t p k = oc at *
      generalize t[k] = z at *
      by_cases hz : z = -1
      · subst hz
        have HF := Lib.hid (show q1 = q0 + p from by have := HON.out rfl; have := HN.out; omega)
        have hr := HR.out
        have hw2 := IntWalk.i64_in (q0 + p) (by omega)
        clear HON HOS hB
        go_wp2
        go_roundw
        case rel => exact ⟨k + 1, by omega, by go_num, by rw [HQ1.out, HF.out], HBR.out⟩
        case measure => simp [intOf]; omega
      · obtain ⟨n, rfl⟩ : ∃ n : Nat, z = (n : Int) := ⟨z.toNat, by omega⟩
        have hneg : ¬ (n : Int) < 0 := by omega
        have hnb : n < lb.length := by omega
        have hjb : (n : Int) < (lb.length : Int) := by omega
        have hjb0 : (0 : Int) ≤ (n : Int) := by omega
        obtain ⟨b1, o1, rfl, hb1, c0, c1, c2, c3⟩ := (H1.out.below hB (Nat.le_refl _)).at_ hka
        obtain ⟨b2, o2, rfl, hb2, d0, d1, d2, d3⟩ := (H2.out.below hB (Nat.le_refl _)).at_ hnb
        have HDB := Lib.hid (dsB_bd (sts_ok HAA.out hka) (sts_ok HBB.out hnb))
        have HO := Lib.hid (HOS.out n rfl hnb)
        have hs1 := sts_ok HAA.out hka
        have hs2 := sts_ok HBB.out hnb
        generalize la[k] = s1 at *
        generalize lb[n] = s2 at *
        obtain ⟨x0, y0, m0, p0⟩ := s1
        obtain ⟨x1, y1, m1, p1⟩ := s2
        simp only at c0 c1 c2 c3 d0 d1 d2 d3
        have hs1' := stB_iff.1 (show stB x0 y0 m0 p0 = true from hs1)
        have hs2' := stB_iff.1 (show stB x1 y1 m1 p1 = true from hs2)
        have HD := Lib.hid (fun W => specDs_any x0 y0 m0 p0 x1 y1 m1 p1 W hs1'.1 hs1'.2.1 hs2'.1 hs2'.2.1)
        generalize dsB (x0, y0, m0, p0) (x1, y1, m1, p1) = d at *
        have hd := HDB.out
        have hr := HR.out
        have hr2 := HR2.out
        have HF := Lib.hid (show q1 = q0 + d - p from by have := HO.out; have := HN.out; omega)
        have hw1 := IntWalk.i64_in (q0 + d) (by omega)
        have hw2 := IntWalk.i64_in (q0 + d - p) (by rw [← HF.out]; omega)
        have hsz := hB.size
        have e9 := later_cell hc9 (by omega)
        have e0 := later_cell c0 (by omega)
        have e1 := later_cell c1 (by omega)
        have e2 := later_cell c2 (by omega)
        have e3 := later_cell c3 (by omega)
        have f0 := later_cell d0 (by omega)
        have f1 := later_cell d1 (by omega)
        have f2 := later_cell d2 (by omega)
        have f3 := later_cell d3 (by omega)
        clear c0 c1 c2 c3 d0 d1 d2 d3 HON HOS hB hs1 hs2 hs1' hs2' hd hr hr2 hsz hz
        go_wp2_with fail
        refine wp_region_later (by kernel_rfl) (by kernel_rfl) ?_
        repeat (go_big_quiet_step ((go_at_call 72; exact calls_later (HD.out _))))
        refine wpQuiet_nil ?_
        intro _ hw'
        obtain ⟨pq, hw''⟩ := hw'
        subst hw''
        have B2 := Lib.hid (HBR.out.trans (pq.below.mono HBR.out.size))
        clear e0 e1 e2 e3 f0 f1 f2 f3 e9
        go_wp2
        go_roundw
        case rel => exact ⟨k + 1, by omega, by go_num, by rw [HQ1.out, HF.out], B2.out⟩
        case measure => simp [intOf]; omega
    · obtain rfl : k = t.length := by omega
      rw [HTI.out]
      clear hB
      go_wp2
      go_ret
      exact ⟨rfl, HBR.out⟩
set_option maxRecDepth 100000 in
set_option maxHeartbeats 8000000 in
theorem specTC_any (aa : Option Addr) (la : List StT) (ca : Nat) (ab : Option Addr) (lb : List StT) (cb : Nat) (at_ : Option Addr) (t : List Int) (ct : Nat) (p : Int) (w : World) (h1 : Sts w w.heap.size aa la) (h2 : Sts w w.heap.size ab lb) (h3 : Ints .i64 w w.heap.size at_ t) (n1 : la.length ≤ 1048576) (n2 : lb.length ≤ 1048576) (n3 : t.length ≤ 1048576) (hc : t.length ≤ ct) :
    Calls Try.prog 18 #[.slice aa la.length ca, .slice ab lb.length cb, .slice at_ t.length ct, .int .i64 p] w fun e w' => e = .returned (.tuple #[.int .i64 (tcV la lb t p), .bool (tcB la lb t p)]) ∧ Below w.heap.size w w' := by
  have HT := Lib.hid (fun v (hv : trB la lb t = v) => specTr_any aa la ca ab lb cb at_ t ct v w h1 h2 h3 n1 n2 n3 hc hv)
  have HP := Lib.hid (fun v (hv : pnB p = v) W => specPen_is p v W hv)
  have HC := Lib.hid (fun (htr : trB la lb t = true) (hp2 : 0 ≤ p ∧ p ≤ 20) W (B : Below w.heap.size w W) => specCost_any aa la ca ab lb cb at_ t ct p W ((h1.below B (Nat.le_refl _)).more B.size) ((h2.below B (Nat.le_refl _)).more B.size) ((h3.below B (Nat.le_refl _)).more B.size) htr hp2)
  clear h1 h2 h3
  cases ht : trB la lb t with
  | false =>
    have HE := Lib.hid (tcB_tr (p := p) ht)
    rw [tcV_no HE.out, HE.out]
    have HT1 := Lib.hid (HT.out false ht)
    clear HT ht
    go_enter Try.func18, Try.ntmps18
    go_wp2_with (go_at_call 75; (with_reducible refine (HT1.out).mono ?_); rintro e w1 ⟨rfl, b1⟩; have B1 := Lib.hid b1; clear b1)
    go_ret2
    exact ⟨rfl, B1.out⟩
  | true =>
    have HT1 := Lib.hid (HT.out true ht)
    cases hp : pnB p with
    | false =>
      have HE := Lib.hid (tcB_pn (a := la) (b := lb) (t := t) hp)
      rw [tcV_no HE.out, HE.out]
      have HP1 := Lib.hid (HP.out false hp)
      clear HT ht hp HP
      go_enter Try.func18, Try.ntmps18
      go_wp2_with (first | (go_at_call 75; (with_reducible refine (HT1.out).mono ?_); rintro e w1 ⟨rfl, b1⟩; have B1 := Lib.hid b1; clear b1) | (go_at_call 76; (with_reducible refine (HP1.out _).mono ?_); rintro e w2 ⟨rfl, rfl⟩))
      go_ret2
      exact ⟨rfl, B1.out⟩
    | true =>
      have HE := Lib.hid (tcB_yes ht hp)
      rw [tcV_yes HE.out, HE.out]
      have HP1 := Lib.hid (HP.out true hp)
      have HC1 := Lib.hid (HC.out ht (pnB_iff.1 hp))
      clear HT ht hp HP HC
      generalize tcC la lb t p = cend at *
      go_enter Try.func18, Try.ntmps18
      go_wp2_with (first | (go_at_call 75; (with_reducible refine (HT1.out).mono ?_); rintro e w1 ⟨rfl, b1⟩; have B1 := Lib.hid b1; clear b1) | (go_at_call 76; (with_reducible refine (HP1.out _).mono ?_); rintro e w2 ⟨rfl, rfl⟩) | (go_at_call 77; (with_reducible refine (HC1.out _ B1.out).mono ?_); rintro e w3 ⟨rfl, b3⟩; have B3 := Lib.hid b3; clear b3))
      go_ret2
      exact ⟨rfl, below_then B1.out B3.out⟩
end Go.Proofs.Ythceffkkokgpnaa
