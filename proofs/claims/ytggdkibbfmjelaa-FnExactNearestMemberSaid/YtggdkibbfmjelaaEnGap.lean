/- The nearest member: mathematics; the program's sumOfGaps. -/
import Derived.Test.YtggdkibbfmjelaaEnMath
import Derived.Test.YtggdkibbfmjelaaBox
import Derived.IntWalk
import Derived.Test.YtggdkibbfmjelaaMvDf
namespace Go.Proofs.Ytggdkibbfmjelaa
open Go.RowKit
set_option linter.unusedVariables false
set_option linter.unusedSimpArgs false
theorem near_first (P : List Fv) (b : List Int) : nearI P b 1 = 0 ∧ nearS P b 1 = gapK (P.getD 0 (0, 0, [])).2.2 b b.length := by
  refine ⟨nearI_one P b, ?_⟩
  unfold nearS
  rw [nearI_one]
theorem near_yes {P : List Fv} {b : List Int} {j : Nat} (h : gapK (P.getD j (0, 0, [])).2.2 b b.length < nearS P b j) : nearI P b (j + 1) = j ∧ nearS P b (j + 1) = gapK (P.getD j (0, 0, [])).2.2 b b.length := by
  have e : nearI P b (j + 1) = j := by unfold nearI; exact if_pos h
  exact ⟨e, by unfold nearS; rw [e]⟩
theorem near_no {P : List Fv} {b : List Int} {j : Nat} (h : ¬ gapK (P.getD j (0, 0, [])).2.2 b b.length < nearS P b j) : nearI P b (j + 1) = nearI P b j ∧ nearS P b (j + 1) = nearS P b j := by
  have e : nearI P b (j + 1) = nearI P b j := by
    show (if gapK (P.getD j (0, 0, [])).2.2 b b.length < gapK (P.getD (nearI P b j) (0, 0, [])).2.2 b b.length then j else nearI P b j) = _
    exact if_neg h
  exact ⟨e, by unfold nearS; rw [e]⟩
theorem plains_getD {es : List FE} {j : Nat} (h : j < es.length) : ((plains es).getD j (0, 0, [])).2.2 = es[j].l := by
  have h2 : j < (plains es).length := by rw [plains_len]; exact h
  have e : (plains es).getD j (0, 0, []) = (plains es)[j] := by simp [List.getD, h2]
  rw [e, plains_get es j h2 h]
theorem nearS_bd {es : List FE} {W H : Nat} {b : List Int} (hok : OkE es W H) (hb : ∀ z ∈ b, -9999 ≤ z ∧ z ≤ 9000) (hn : b.length ≤ 64) (j : Nat) : 0 ≤ nearS (plains es) b j ∧ nearS (plains es) b j ≤ 1280000 := by
  unfold nearS
  have key : ∀ i, 0 ≤ gapK ((plains es).getD i (0, 0, [])).2.2 b b.length ∧ gapK ((plains es).getD i (0, 0, [])).2.2 b b.length ≤ 1280000 := by
    intro i
    have h1 : ∀ z ∈ ((plains es).getD i (0, 0, [])).2.2, -9999 ≤ z ∧ z ≤ 9000 := by
      rcases Nat.lt_or_ge i es.length with hi | hi
      · rw [plains_getD hi]; exact good_bd (hok.e i hi).2.2.2
      · have e : (plains es).getD i (0, 0, []) = (0, 0, []) := by simp [List.getD, List.getElem?_eq_none (show (plains es).length ≤ i by rw [plains_len]; exact hi)]
        rw [e]; intro z hz; simp at hz
    have := gapK_bd h1 hb b.length
    omega
  exact key _
theorem gapO_no {x y : Int} (h : x = -9999 ∨ y = -9999) : gapO x y = 0 := if_pos h
theorem gapO_yes {x y : Int} (h1 : ¬ x = -9999) (h2 : ¬ y = -9999) : gapO x y = max (x - y) (y - x) := if_neg (by omega)
set_option maxRecDepth 100000 in
set_option maxHeartbeats 4000000 in
theorem sumGaps_is (wa ha : Int) (aa : Option Addr) (la : List Int) (ca : Nat) (wb hb : Int) (ab : Option Addr) (lb : List Int) (cb : Nat) (w : World) (h1 : Ints .i64 w w.heap.size aa la) (h2 : Ints .i64 w w.heap.size ab lb) (hl : la.length = lb.length) (hn : lb.length ≤ 64) (ba : ∀ z ∈ la, -9999 ≤ z ∧ z ≤ 9000) (bb : ∀ z ∈ lb, -9999 ≤ z ∧ z ≤ 9000) :
    Calls Try.prog 87 #[.agg #[.int .i64 wa, .int .i64 ha, .slice aa la.length ca], .agg #[.int .i64 wb, .int .i64 hb, .slice ab lb.length cb]] w fun e w' => e = .returned (.int .i64 (gapK la lb lb.length)) ∧ Below w.heap.size w w' := by
  have F0 := Lib.hid (Lx2.new (wd0 := wa) (hg0 := ha) (c0 := ca) (wd1 := wb) (hg1 := hb) (c1 := cb) h1 h2)
  obtain ⟨w1, hw1⟩ : ∃ x, (w.alloc (.cells #[.int .i64 wa, .int .i64 ha, .slice aa la.length ca] 34)).alloc (.cells #[.int .i64 wb, .int .i64 hb, .slice ab lb.length cb] 34) = x := ⟨_, rfl⟩
  rw [hw1] at F0
  have HW := Lib.hid hw1
  have HD := Lib.hid (fun W i1 i2 => implDf_any wa ha aa la ca wb hb ab lb cb W i1 i2 hl hn ba bb)
  have HDL := Lib.hid (dfL_len la lb lb.length)
  have HDB := Lib.hid (dfL_bd ba bb lb.length)
  have HDS := Lib.hid (dfL_sum la lb lb.length).1
  clear h1 h2 hl ba bb hw1
  generalize dfL la lb lb.length = q at *
  have hq64 : q.length ≤ 64 := by have := HDL.out; omega
  have HZ := Lib.hid (fun a c W i => implSz_any a q c W i HDB.out hq64)
  go_enter Try.func87, Try.ntmps87
  go_wp2_with fail
  rw [HW.out]
  refine (HD.out _ F0.out.i0 F0.out.i1).mono ?_
  rintro e w2 ⟨a2, c2, rfl, o2, b2⟩
  have HO := Lib.hid o2.ints
  have B2 := Lib.hid (below_then F0.out.b b2)
  clear o2 b2 HD
  go_wp2_with fail
  refine (HZ.out _ _ _ HO.out).mono ?_
  rintro e w3 ⟨rfl, rfl⟩
  go_wp2
  go_ret
  exact ⟨by show Ending.returned (.int .i64 (szS q)) = _; rw [HDS.out], B2.out⟩
end Go.Proofs.Ytggdkibbfmjelaa
