/- The model's MatchOf and MotionError. -/
import Derived.Test.YtggdkibbfmjelaaMvSpec
import Derived.Test.YtggdkibbfmjelaaMvErr
namespace Go.Proofs.Ytggdkibbfmjelaa
open Go.RowKit
set_option linter.unusedVariables false
set_option linter.unusedSimpArgs false
/-- what MatchOf answers -/
def maB (wa ha : Int) (la : List Int) (wb hb : Int) (lb : List Int) (mx my : Int) : Bool := sameB wa ha la wb hb lb && motB mx my
def maG (wa ha : Int) (la : List Int) (wb hb : Int) (lb : List Int) (mx my : Int) : Int := if maB wa ha la wb hb lb mx my = true then gapK (mvR wa.toNat ha.toNat la mx my) lb lb.length else 0
def maN (wa ha : Int) (la : List Int) (wb hb : Int) (lb : List Int) (mx my : Int) : Int := if maB wa ha la wb hb lb mx my = true then ovK cntO (mvR wa.toNat ha.toNat la mx my) lb lb.length else 0
section
variable {wa ha : Int} {la : List Int} {wb hb : Int} {lb : List Int} {mx my : Int}
theorem maB_iff : maB wa ha la wb hb lb mx my = true ↔ sameB wa ha la wb hb lb = true ∧ motB mx my = true := by unfold maB; simp
theorem maG_no (h : maB wa ha la wb hb lb mx my = false) : maG wa ha la wb hb lb mx my = 0 := if_neg (by rw [h]; simp)
theorem maN_no (h : maB wa ha la wb hb lb mx my = false) : maN wa ha la wb hb lb mx my = 0 := if_neg (by rw [h]; simp)
theorem maG_yes (h : maB wa ha la wb hb lb mx my = true) : maG wa ha la wb hb lb mx my = gapK (mvR wa.toNat ha.toNat la mx my) lb lb.length := if_pos h
theorem maN_yes (h : maB wa ha la wb hb lb mx my = true) : maN wa ha la wb hb lb mx my = ovK cntO (mvR wa.toNat ha.toNat la mx my) lb lb.length := if_pos h
end
/-- two fields of one shape, in numbers -/
theorem same_nat {wa ha : Int} {la : List Int} {wb hb : Int} {lb : List Int} (h : sameB wa ha la wb hb lb = true) : ∃ W H : Nat, wa = (W : Int) ∧ ha = (H : Int) ∧ wb = (W : Int) ∧ hb = (H : Int) ∧ (1 ≤ W ∧ W ≤ 8) ∧ (1 ≤ H ∧ H ≤ 8) ∧ la.length = W * H ∧ lb.length = W * H := by
  obtain ⟨g1, g2, rfl, rfl⟩ := same_iff.1 h
  have l1 := good_len g1
  have l2 := good_len g2
  obtain ⟨⟨s1, s2⟩, s3, s4⟩ := shapeB_iff.1 (good_shape g1)
  obtain ⟨W, rfl⟩ := Int.eq_ofNat_of_zero_le (show 0 ≤ wa by omega)
  obtain ⟨H, rfl⟩ := Int.eq_ofNat_of_zero_le (show 0 ≤ ha by omega)
  rw [← Int.natCast_mul] at l1 l2
  exact ⟨W, H, rfl, rfl, rfl, rfl, by omega, by omega, by omega, by omega⟩
theorem match_is {W H : Nat} {la lb : List Int} (hW : 1 ≤ W) (hlb : lb.length = W * H) (mx my : Int) : gridS (mtF gapO W H la lb mx my) W H = gapK (mvR W H la mx my) lb lb.length ∧ gridS (mtF cntO W H la lb mx my) W H = ovK cntO (mvR W H la mx my) lb lb.length := by
  rw [match_moved gapO_left (by omega), match_moved cntO_left (by omega), hlb, ovK_gap]
  exact ⟨rfl, rfl⟩
set_option maxRecDepth 100000 in
set_option maxHeartbeats 4000000 in
theorem specErr_any (wa ha : Int) (aa : Option Addr) (la : List Int) (ca : Nat) (wb hb : Int) (ab : Option Addr) (lb : List Int) (cb : Nat) (w : World) (h1 : Ints .i64 w w.heap.size aa la) (h2 : Ints .i64 w w.heap.size ab lb) (n1 : la.length ≤ 1048576) (n2 : lb.length ≤ 1048576) :
    Calls Try.prog 25 #[.agg #[.int .i64 wa, .int .i64 ha, .slice aa la.length ca], .agg #[.int .i64 wb, .int .i64 hb, .slice ab lb.length cb]] w fun e w' => e = .returned (.tuple #[.int .i64 (erG wa ha la wb hb lb), .int .i64 (erN wa ha la wb hb lb), .bool (sameB wa ha la wb hb lb)]) ∧ Below w.heap.size w w' := by
  have F0 := Lib.hid (Lx2.new (wd0 := wa) (hg0 := ha) (c0 := ca) (wd1 := wb) (hg1 := hb) (c1 := cb) h1 h2)
  obtain ⟨W0, hW0⟩ : ∃ W, (w.alloc (.cells #[.int .i64 wa, .int .i64 ha, .slice aa la.length ca] 34)).alloc (.cells #[.int .i64 wb, .int .i64 hb, .slice ab lb.length cb] 34) = W := ⟨_, rfl⟩
  rw [hW0] at F0
  have HW := Lib.hid hW0
  clear h1 h2 hW0
  cases hs : sameB wa ha la wb hb lb with
  | false =>
    rw [erG_no hs, erN_no hs]
    have HC := Lib.hid (fun W i1 i2 => specSame_is wa ha aa la ca wb hb ab lb cb false W i1 i2 n1 n2 hs)
    clear hs
    go_enter Try.func25, Try.ntmps25
    go_wp2_with fail
    rw [HW.out]
    refine (HC.out _ F0.out.i0 F0.out.i1).mono ?_
    rintro e w1 ⟨rfl, b1⟩
    have B1 := Lib.hid (below_then F0.out.b b1)
    clear b1
    go_wp2
    exact bodyPost_ret (v := .tuple #[.int .i64 0, .int .i64 0, .bool false]) (by simp [results, Try.results25, go_sem]) rfl ⟨rfl, B1.out⟩
  | true =>
    rw [erG_yes hs, erN_yes hs]
    have HC := Lib.hid (fun W i1 i2 => specSame_is wa ha aa la ca wb hb ab lb cb true W i1 i2 n1 n2 hs)
    obtain ⟨g1, g2, _, _⟩ := same_iff.1 hs
    have b1' := good_bd g1
    have b2' := good_bd g2
    obtain ⟨W, H, rfl, rfl, rfl, rfl, hW, hH, hla, hlb⟩ := same_nat hs
    have HM := Lib.hid (fun Wd i1 i2 => specMt_any W H aa la ca ab lb cb 0 0 Wd i1 i2 hW hH hla hlb b1' b2' (by omega))
    obtain ⟨e1, e2⟩ := match_is (la := la) hW.1 hlb 0 0
    rw [mv_none hla (by omega)] at e1 e2
    rw [e1, e2] at HM
    clear hs g1 g2 b1' b2' e1 e2 hW hH hla hlb
    generalize gapK la lb lb.length = g at *
    generalize ovK cntO la lb lb.length = n at *
    go_enter Try.func25, Try.ntmps25
    go_wp2_with fail
    rw [HW.out]
    refine (HC.out _ F0.out.i0 F0.out.i1).mono ?_
    rintro e w1 ⟨rfl, b1⟩
    have F1 := Lib.hid (F0.out.step b1)
    obtain ⟨k0, k1, k2⟩ := F1.out.k0.cells
    obtain ⟨l0, l1, l2⟩ := F1.out.k1.cells
    clear b1 F0 HC HW
    go_wp2_with fail
    refine (HM.out _ F1.out.i0 F1.out.i1).mono ?_
    rintro e w2 ⟨rfl, b2⟩
    have B2 := Lib.hid (below_then F1.out.b b2)
    clear b2
    go_wp2
    exact bodyPost_ret (v := .tuple #[.int .i64 g, .int .i64 n, .bool true]) (by simp [results, Try.results25, go_sem]) rfl ⟨rfl, B2.out⟩
set_option maxRecDepth 100000 in
set_option maxHeartbeats 4000000 in
theorem specMatch_any (wa ha : Int) (aa : Option Addr) (la : List Int) (ca : Nat) (wb hb : Int) (ab : Option Addr) (lb : List Int) (cb : Nat) (mx my : Int) (w : World) (h1 : Ints .i64 w w.heap.size aa la) (h2 : Ints .i64 w w.heap.size ab lb) (n1 : la.length ≤ 1048576) (n2 : lb.length ≤ 1048576) :
    Calls Try.prog 27 #[.agg #[.int .i64 wa, .int .i64 ha, .slice aa la.length ca], .agg #[.int .i64 wb, .int .i64 hb, .slice ab lb.length cb], .agg #[.int .i64 mx, .int .i64 my]] w fun e w' => e = .returned (.tuple #[.int .i64 (maG wa ha la wb hb lb mx my), .int .i64 (maN wa ha la wb hb lb mx my), .bool (maB wa ha la wb hb lb mx my)]) ∧ Below w.heap.size w w' := by
  have F0 := Lib.hid (Lx3.new (wd0 := wa) (hg0 := ha) (c0 := ca) (wd1 := wb) (hg1 := hb) (c1 := cb) h1 h2 mx my)
  obtain ⟨W0, hW0⟩ : ∃ W, ((w.alloc (.cells #[.int .i64 wa, .int .i64 ha, .slice aa la.length ca] 34)).alloc (.cells #[.int .i64 wb, .int .i64 hb, .slice ab lb.length cb] 34)).alloc (.cells #[.int .i64 mx, .int .i64 my] 24) = W := ⟨_, rfl⟩
  rw [hW0] at F0
  have HW := Lib.hid hW0
  clear h1 h2 hW0
  cases hs : sameB wa ha la wb hb lb with
  | false =>
    have hm : maB wa ha la wb hb lb mx my = false := by unfold maB; rw [hs]; rfl
    rw [maG_no hm, maN_no hm, hm]
    have HC := Lib.hid (fun W i1 i2 => specSame_is wa ha aa la ca wb hb ab lb cb false W i1 i2 n1 n2 hs)
    clear hs hm
    go_enter Try.func27, Try.ntmps27
    go_wp2_with fail
    rw [HW.out]
    refine (HC.out _ F0.out.f.i0 F0.out.f.i1).mono ?_
    rintro e w1 ⟨rfl, b1⟩
    have B1 := Lib.hid (below_then F0.out.f.b b1)
    clear b1
    go_wp2
    exact bodyPost_ret (v := .tuple #[.int .i64 0, .int .i64 0, .bool false]) (by simp [results, Try.results27, go_sem]) rfl ⟨rfl, B1.out⟩
  | true =>
    have HC := Lib.hid (fun W i1 i2 => specSame_is wa ha aa la ca wb hb ab lb cb true W i1 i2 n1 n2 hs)
    cases hmt : motB mx my with
    | false =>
      have hm : maB wa ha la wb hb lb mx my = false := by unfold maB; rw [hmt]; simp
      rw [maG_no hm, maN_no hm, hm]
      have HG := Lib.hid (fun W => specMot_is mx my false W hmt)
      clear hs hm hmt
      go_enter Try.func27, Try.ntmps27
      go_wp2_with fail
      rw [HW.out]
      refine (HC.out _ F0.out.f.i0 F0.out.f.i1).mono ?_
      rintro e w1 ⟨rfl, b1⟩
      have F1 := Lib.hid (F0.out.step b1)
      obtain ⟨n0, n1'⟩ := F1.out.m.cells
      clear b1 F0 HC HW
      go_wp2_with fail
      refine (HG.out _).mono ?_
      rintro e w2 ⟨rfl, b2⟩
      have B2 := Lib.hid (below_then F1.out.f.b b2)
      clear b2
      go_wp2
      exact bodyPost_ret (v := .tuple #[.int .i64 0, .int .i64 0, .bool false]) (by simp [results, Try.results27, go_sem]) rfl ⟨rfl, B2.out⟩
    | true =>
      have hm : maB wa ha la wb hb lb mx my = true := maB_iff.2 ⟨hs, hmt⟩
      rw [maG_yes hm, maN_yes hm, hm]
      have HG := Lib.hid (fun W => specMot_is mx my true W hmt)
      obtain ⟨g1, g2, _, _⟩ := same_iff.1 hs
      have b1' := good_bd g1
      have b2' := good_bd g2
      have hmm := motB_iff.1 hmt
      obtain ⟨W, H, rfl, rfl, rfl, rfl, hW, hH, hla, hlb⟩ := same_nat hs
      have HM := Lib.hid (fun Wd i1 i2 => specMt_any W H aa la ca ab lb cb mx my Wd i1 i2 hW hH hla hlb b1' b2' hmm)
      obtain ⟨e1, e2⟩ := match_is (la := la) hW.1 hlb mx my
      simp only [Int.toNat_natCast]
      rw [e1, e2] at HM
      clear hs hm hmt g1 g2 b1' b2' e1 e2 hmm hW hH hla hlb
      generalize gapK (mvR W H la mx my) lb lb.length = g at *
      generalize ovK cntO (mvR W H la mx my) lb lb.length = n at *
      go_enter Try.func27, Try.ntmps27
      go_wp2_with fail
      rw [HW.out]
      refine (HC.out _ F0.out.f.i0 F0.out.f.i1).mono ?_
      rintro e w1 ⟨rfl, b1⟩
      have F1 := Lib.hid (F0.out.step b1)
      obtain ⟨n0, n1'⟩ := F1.out.m.cells
      clear b1 F0 HC HW
      go_wp2_with fail
      refine (HG.out _).mono ?_
      rintro e w2 ⟨rfl, b2⟩
      have F2 := Lib.hid (F1.out.step b2)
      clear b2 F1 n0 n1'
      obtain ⟨⟨k0, k1, k2⟩, ⟨l0, l1, l2⟩, n0, n1'⟩ := F2.out.cells
      go_wp2_with fail
      refine (HM.out _ F2.out.f.i0 F2.out.f.i1).mono ?_
      rintro e w3 ⟨rfl, b3⟩
      have B3 := Lib.hid (below_then F2.out.f.b b3)
      clear b3
      go_wp2
      exact bodyPost_ret (v := .tuple #[.int .i64 g, .int .i64 n, .bool true]) (by simp [results, Try.results27, go_sem]) rfl ⟨rfl, B3.out⟩
end Go.Proofs.Ytggdkibbfmjelaa
