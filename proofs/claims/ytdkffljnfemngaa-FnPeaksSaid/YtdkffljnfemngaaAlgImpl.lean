/- The program's field algebra: the closures, and the functions over changeValues and combineCells. -/
import Derived.Test.YtdkffljnfemngaaAlgCh
import Derived.IntWalk
namespace Go.Proofs.Ytdkffljnfemngaa
open Go.RowKit
set_option linter.unusedVariables false
set_option linter.unusedSimpArgs false
theorem floor_low {n d : Int} (hd : 0 < d) (h : n.tmod d < 0) : n.tdiv d - 1 = n / d := by
  have h1 := Int.tmod_add_mul_tdiv n d
  have h2 := Int.lt_tmod_of_pos n hd
  have h3 : n = (n.tmod d + d) + (n.tdiv d - 1) * d := by rw [Int.sub_mul, Int.one_mul, Int.mul_comm (n.tdiv d)]; omega
  conv => rhs; rw [h3, Int.add_mul_ediv_right _ _ (by omega), Int.ediv_eq_zero_of_lt (by omega) (by omega)]
  omega
theorem floor_at {n d : Int} (hd : 0 < d) (h : 0 ≤ n.tmod d) : n.tdiv d = n / d := by
  have h1 := Int.tmod_add_mul_tdiv n d
  have h2 := Int.tmod_lt_of_pos n hd
  have h3 : n = n.tmod d + n.tdiv d * d := by rw [Int.mul_comm (n.tdiv d)]; omega
  conv => rhs; rw [h3, Int.add_mul_ediv_right _ _ (by omega), Int.ediv_eq_zero_of_lt (by omega) (by omega)]
  omega
theorem scale_hi {x n : Int} (x1 : -9000 ≤ x) (x2 : x ≤ 9000) (k1 : -100 ≤ n) (k2 : n ≤ 100) : x * n ≤ 900000 := by
  rcases Int.lt_or_le n 0 with h | h
  · have h1 : (9000 + x) * -n ≥ 0 := Int.mul_nonneg (by omega) (by omega)
    rw [Int.add_mul, Int.mul_neg, Int.mul_neg] at h1
    omega
  · have h1 : (9000 - x) * n ≥ 0 := Int.mul_nonneg (by omega) (by omega)
    rw [Int.sub_mul] at h1
    omega
theorem scale_lo {x n : Int} (x1 : -9000 ≤ x) (x2 : x ≤ 9000) (k1 : -100 ≤ n) (k2 : n ≤ 100) : -900000 ≤ x * n := by
  have h := scale_hi (x := -x) (n := n) (by omega) (by omega) k1 k2
  rw [Int.neg_mul] at h
  omega
theorem ent_fil : Entered 96 := enters_of Try.func96 (by kernel_rfl) rfl
set_option maxRecDepth 100000 in
set_option maxHeartbeats 4000000 in
theorem implFill_any (wa ha : Int) (aa : Option Addr) (la : List Int) (ca : Nat) (wb hb : Int) (ab : Option Addr) (lb : List Int) (cb : Nat) (w : World) (h1 : Ints .i64 w w.heap.size aa la) (h2 : Ints .i64 w w.heap.size ab lb) (n1 : la.length ≤ 1048576) (n2 : lb.length ≤ 1048576) :
    Calls Try.prog 73 #[.agg #[.int .i64 wa, .int .i64 ha, .slice aa la.length ca], .agg #[.int .i64 wb, .int .i64 hb, .slice ab lb.length cb]] w (FRet (fillR wa ha la wb hb lb) w) := by
  unfold fillR
  have F0 := Lib.hid (Fr2.new (wd0 := wa) (hg0 := ha) (c0 := ca) (wd1 := wb) (hg1 := hb) (c1 := cb) h1 h2)
  have HC := Lib.hid (combCells_any wa ha aa la ca wb hb ab lb cb 96 #[] _ _ F0.out.i0 F0.out.i1 n1 n2 ent_fil (fill_rule _))
  clear h1 h2
  generalize combR flF wa ha la wb hb lb = rr at *
  go_enter Try.func73, Try.ntmps73
  go_wp2_with fail
  refine HC.out.mono ?_
  rintro e w1 ⟨a1, c1, rfl, o1, b1⟩
  have O1 := Lib.hid (o1.more (C := w.heap.size + 1 + 1 + 1) (by simp))
  have F1 := Lib.hid (F0.out.step b1)
  have B1 := Lib.hid F1.out.b
  obtain ⟨r0, r1, r2⟩ := F1.out.r.cells
  have g0 := F1.out.r.frozen 0
  have g1 := F1.out.r.frozen 1
  have g2 := F1.out.r.frozen 2
  clear o1 b1 HC F0 F1
  go_wp2
  refine bodyPost_ret (v := .tuple #[.agg #[.int .i64 (rW rr), .int .i64 (rH rr), .slice a1 (rL rr).length c1], .bool (rB rr)]) (by simp [results, Try.results73, go_sem, r0, r1, r2]) rfl ⟨a1, c1, rfl, ?_, ?_⟩
  · exact (ownI_set (ownI_set (ownI_set O1.out (by show w.heap.size + 1 + 1 < _; omega) _) (by show w.heap.size + 1 + 1 < _; omega) _) (by show w.heap.size + 1 + 1 < _; omega) _).more (by omega)
  · exact ((B1.out.setCell (by show w.heap.size ≤ w.heap.size + 1 + 1; omega) _).setCell (by show w.heap.size ≤ w.heap.size + 1 + 1; omega) _).setCell (by show w.heap.size ≤ w.heap.size + 1 + 1; omega) _
end Go.Proofs.Ytdkffljnfemngaa
