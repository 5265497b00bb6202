/- The program's MotionError. -/
import Derived.Test.YtggdkibbfmjelaaMvDf
import Derived.Test.YtggdkibbfmjelaaComb
namespace Go.Proofs.Ytggdkibbfmjelaa
open Go.RowKit
set_option linter.unusedVariables false
set_option linter.unusedSimpArgs false
/-- what MotionError answers -/
def erG (wa ha : Int) (la : List Int) (wb hb : Int) (lb : List Int) : Int := if sameB wa ha la wb hb lb = true then gapK la lb lb.length else 0
def erN (wa ha : Int) (la : List Int) (wb hb : Int) (lb : List Int) : Int := if sameB wa ha la wb hb lb = true then ovK cntO la lb lb.length else 0
theorem erG_no {wa ha : Int} {la : List Int} {wb hb : Int} {lb : List Int} (h : sameB wa ha la wb hb lb = false) : erG wa ha la wb hb lb = 0 := if_neg (by rw [h]; simp)
theorem erN_no {wa ha : Int} {la : List Int} {wb hb : Int} {lb : List Int} (h : sameB wa ha la wb hb lb = false) : erN wa ha la wb hb lb = 0 := if_neg (by rw [h]; simp)
theorem erG_yes {wa ha : Int} {la : List Int} {wb hb : Int} {lb : List Int} (h : sameB wa ha la wb hb lb = true) : erG wa ha la wb hb lb = gapK la lb lb.length := if_pos h
theorem erN_yes {wa ha : Int} {la : List Int} {wb hb : Int} {lb : List Int} (h : sameB wa ha la wb hb lb = true) : erN wa ha la wb hb lb = ovK cntO la lb lb.length := if_pos h
set_option maxRecDepth 100000 in
set_option maxHeartbeats 4000000 in
theorem implErr_any (wa ha : Int) (aa : Option Addr) (la : List Int) (ca : Nat) (wb hb : Int) (ab : Option Addr) (lb : List Int) (cb : Nat) (w : World) (h1 : Ints .i64 w w.heap.size aa la) (h2 : Ints .i64 w w.heap.size ab lb) (n1 : la.length ≤ 1048576) (n2 : lb.length ≤ 1048576) :
    Calls Try.prog 26 #[.agg #[.int .i64 wa, .int .i64 ha, .slice aa la.length ca], .agg #[.int .i64 wb, .int .i64 hb, .slice ab lb.length cb]] w fun e w' => e = .returned (.tuple #[.int .i64 (erG wa ha la wb hb lb), .int .i64 (erN wa ha la wb hb lb), .bool (sameB wa ha la wb hb lb)]) ∧ Below w.heap.size w w' := by
  have F0 := Lib.hid (Lx2.new (wd0 := wa) (hg0 := ha) (c0 := ca) (wd1 := wb) (hg1 := hb) (c1 := cb) h1 h2)
  clear h1 h2
  cases hs : sameB wa ha la wb hb lb with
  | false =>
    rw [erG_no hs, erN_no hs]
    have hS := oneShape_is _ 2 2 _ _ _ _ _ false _ (fldRow_two (wa := wa) (ha := ha) (wb := wb) (hb := hb) (ca := ca) (cb := cb) 34 F0.out.i0 F0.out.i1 n1 n2) (by omega) (by omega) ((oneB_two wa ha la wb hb lb).trans hs)
    simp only [World.size_alloc] at hS
    have HS := Lib.hid hS
    clear hS hs
    go_enter Try.func26, Try.ntmps26
    go_wp2_with fail
    refine HS.out.mono ?_
    rintro e w1 ⟨rfl, b1⟩
    have B1 := Lib.hid (below_then (below_then F0.out.b (below_all _ _)) (by simpa using b1))
    clear b1
    go_wp2
    exact bodyPost_ret (v := .tuple #[.int .i64 0, .int .i64 0, .bool false]) (by simp [results, Try.results26, go_sem]) rfl ⟨rfl, B1.out⟩
  | true =>
    rw [erG_yes hs, erN_yes hs]
    have hS := oneShape_is _ 2 2 _ _ _ _ _ true _ (fldRow_two (wa := wa) (ha := ha) (wb := wb) (hb := hb) (ca := ca) (cb := cb) 34 F0.out.i0 F0.out.i1 n1 n2) (by omega) (by omega) ((oneB_two wa ha la wb hb lb).trans hs)
    simp only [World.size_alloc] at hS
    have HS := Lib.hid hS
    obtain ⟨g1, g2, e1, e2⟩ := same_iff.1 hs
    clear e1 e2
    have hle := same_len hs
    have b1' := good_bd g1
    have b2' := good_bd g2
    have hn64 := (good_le g2).2
    have HD := Lib.hid (fun W i1 i2 => implDf_any wa ha aa la ca wb hb ab lb cb W i1 i2 hle hn64 b1' b2')
    have HDL := Lib.hid (dfL_len la lb lb.length)
    have HDB := Lib.hid (dfL_bd b1' b2' lb.length)
    have HDS := Lib.hid (dfL_sum la lb lb.length)
    clear hS hs hle g1 g2 b1' b2'
    generalize dfL la lb lb.length = q at *
    have hq64 : q.length ≤ 64 := by have := HDL.out; omega
    have HZ := Lib.hid (fun a c W i => implSz_any a q c W i HDB.out hq64)
    have HDS1 := Lib.hid HDS.out.1
    have HDS2 := Lib.hid HDS.out.2
    go_enter Try.func26, Try.ntmps26
    go_wp2_with fail
    refine HS.out.mono ?_
    rintro e w1 ⟨rfl, b1⟩
    have F1 := Lib.hid ((F0.out.step (below_all _ _)).step (by simpa using b1))
    obtain ⟨k0, k1, k2⟩ := F1.out.k0.cells
    obtain ⟨l0, l1, l2⟩ := F1.out.k1.cells
    clear b1 F0 HS HDS HDL HDB
    go_wp2_with fail
    refine (HD.out _ F1.out.i0 F1.out.i1).mono ?_
    rintro e w2 ⟨a2, c2, rfl, o2, b2⟩
    have HO := Lib.hid o2.ints
    have B2 := Lib.hid (below_then F1.out.b b2)
    clear o2 b2 k0 k1 k2 l0 l1 l2 HD
    go_wp2_with fail
    refine (HZ.out _ _ _ HO.out).mono ?_
    rintro e w3 ⟨rfl, rfl⟩
    have B3 := B2
    go_wp2
    exact bodyPost_ret (v := .tuple #[.int .i64 (szS q), .int .i64 (q.length : Int), .bool true]) (by simp [results, Try.results26, go_sem]) rfl ⟨by rw [HDS1.out, HDS2.out], B3.out⟩
end Go.Proofs.Ytggdkibbfmjelaa
