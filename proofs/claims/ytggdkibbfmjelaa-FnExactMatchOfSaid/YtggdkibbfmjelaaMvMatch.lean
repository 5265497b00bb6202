/- The program's MatchOf. -/
import Derived.Test.YtggdkibbfmjelaaMvMove
import Derived.Test.YtggdkibbfmjelaaMvSpM
namespace Go.Proofs.Ytggdkibbfmjelaa
open Go.RowKit
set_option linter.unusedVariables false
set_option linter.unusedSimpArgs false
section
variable {wa ha : Int} {la : List Int} {wb hb : Int} {lb : List Int} {mx my : Int}
theorem maB_move_no (h : movB wa ha la mx my = false) : maB wa ha la wb hb lb mx my = false := by
  cases h2 : maB wa ha la wb hb lb mx my with
  | false => rfl
  | true =>
    obtain ⟨h3, h4⟩ := maB_iff.1 h2
    rw [movB_iff.2 ⟨(same_iff.1 h3).1, h4⟩] at h
    cases h
theorem maB_move (h : movB wa ha la mx my = true) : maB wa ha la wb hb lb mx my = sameB wa ha (mvR wa.toNat ha.toNat la mx my) wb hb lb ∧ maG wa ha la wb hb lb mx my = erG wa ha (mvR wa.toNat ha.toNat la mx my) wb hb lb ∧ maN wa ha la wb hb lb mx my = erN wa ha (mvR wa.toNat ha.toNat la mx my) wb hb lb := by
  obtain ⟨h1, h2⟩ := movB_iff.1 h
  have e : maB wa ha la wb hb lb mx my = sameB wa ha (mvR wa.toNat ha.toNat la mx my) wb hb lb := by
    unfold maB sameB
    rw [h1, h2, move_good h1 mx my]; simp
  refine ⟨e, ?_, ?_⟩
  · unfold maG erG; rw [e]
  · unfold maN erN; rw [e]
end
set_option maxRecDepth 100000 in
set_option maxHeartbeats 4000000 in
theorem implMatch_any (wa ha : Int) (aa : Option Addr) (la : List Int) (ca : Nat) (wb hb : Int) (ab : Option Addr) (lb : List Int) (cb : Nat) (mx my : Int) (w : World) (h1 : Ints .i64 w w.heap.size aa la) (h2 : Ints .i64 w w.heap.size ab lb) (n1 : la.length ≤ 1048576) (n2 : lb.length ≤ 1048576) :
    Calls Try.prog 28 #[.agg #[.int .i64 wa, .int .i64 ha, .slice aa la.length ca], .agg #[.int .i64 wb, .int .i64 hb, .slice ab lb.length cb], .agg #[.int .i64 mx, .int .i64 my]] w fun e w' => e = .returned (.tuple #[.int .i64 (maG wa ha la wb hb lb mx my), .int .i64 (maN wa ha la wb hb lb mx my), .bool (maB wa ha la wb hb lb mx my)]) ∧ Below w.heap.size w w' := by
  have F0 := Lib.hid (Lx3.new (wd0 := wa) (hg0 := ha) (c0 := ca) (wd1 := wb) (hg1 := hb) (c1 := cb) h1 h2 mx my)
  obtain ⟨W0, hW0⟩ : ∃ W, ((w.alloc (.cells #[.int .i64 wa, .int .i64 ha, .slice aa la.length ca] 34)).alloc (.cells #[.int .i64 wb, .int .i64 hb, .slice ab lb.length cb] 34)).alloc (.cells #[.int .i64 mx, .int .i64 my] 24) = W := ⟨_, rfl⟩
  rw [hW0] at F0
  have HW := Lib.hid hW0
  clear h1 h2 hW0
  have HMV := Lib.hid (fun W i => implMove_any wa ha aa la ca mx my W i n1)
  unfold FRet at HMV
  cases hm : movB wa ha la mx my with
  | false =>
    rw [moveR_no hm] at HMV
    have hB := maB_move_no (wb := wb) (hb := hb) (lb := lb) hm
    rw [maG_no hB, maN_no hB, hB]
    simp only [rW, rH, rL, rB, List.length_nil] at HMV
    clear hm hB
    go_enter Try.func28, Try.ntmps28
    go_wp2_with fail
    rw [HW.out]
    refine (HMV.out _ F0.out.f.i0).mono ?_
    rintro e w1 ⟨a1, c1, rfl, o1, b1⟩
    have B1 := Lib.hid (below_then F0.out.f.b b1)
    have B2 := Lib.hid (below_then B1.out (below_all w1 (.cells #[.int .i64 0, .int .i64 0, .slice a1 0 c1] 34)))
    clear b1 o1
    go_wp2
    exact bodyPost_ret (v := .tuple #[.int .i64 0, .int .i64 0, .bool false]) (by simp [results, Try.results28, go_sem]) rfl ⟨rfl, B2.out⟩
  | true =>
    rw [moveR_yes hm] at HMV
    obtain ⟨e1, e2, e3⟩ := maB_move (wb := wb) (hb := hb) (lb := lb) hm
    rw [e1, e2, e3]
    simp only [rW, rH, rL, rB] at HMV
    have hq64 := (good_le (move_good (movB_iff.1 hm).1 mx my)).2
    generalize mvR wa.toNat ha.toNat la mx my = q at *
    have HE := Lib.hid (fun a1 c1 Wd i1 i2 => implErr_any wa ha a1 q c1 wb hb ab lb cb Wd i1 i2 (by omega) n2)
    clear hm e1 e2 e3
    generalize erG wa ha q wb hb lb = g at *
    generalize erN wa ha q wb hb lb = n at *
    generalize sameB wa ha q wb hb lb = v at *
    go_enter Try.func28, Try.ntmps28
    go_wp2_with fail
    rw [HW.out]
    refine (HMV.out _ F0.out.f.i0).mono ?_
    rintro e w1 ⟨a1, c1, rfl, o1, b1⟩
    have F1 := Lib.hid (F0.out.step b1)
    have hz := F1.out.m.lt
    obtain ⟨k0, k1, k2⟩ := F1.out.f.k1.cells
    have HI1 := Lib.hid (ints_alloc o1.ints (.cells #[.int .i64 wa, .int .i64 ha, .slice a1 q.length c1] 34))
    have HI2 := Lib.hid (ints_alloc F1.out.f.i1 (.cells #[.int .i64 wa, .int .i64 ha, .slice a1 q.length c1] 34))
    have B1 := Lib.hid (below_then F1.out.f.b (below_all w1 (.cells #[.int .i64 wa, .int .i64 ha, .slice a1 q.length c1] 34)))
    have q1 : w.heap.size + 1 < w1.heap.size := by omega
    have q2 : ¬ w.heap.size + 1 = w1.heap.size := by omega
    clear b1 o1 F0 HW HMV
    go_wp2_with fail
    refine (HE.out _ _ _ HI1.out HI2.out).mono ?_
    rintro e w2 ⟨rfl, b2⟩
    have B2 := Lib.hid (below_then B1.out b2)
    clear b2
    go_wp2
    exact bodyPost_ret (v := .tuple #[.int .i64 g, .int .i64 n, .bool v]) (by simp [results, Try.results28, go_sem]) rfl ⟨rfl, B2.out⟩
end Go.Proofs.Ytggdkibbfmjelaa
