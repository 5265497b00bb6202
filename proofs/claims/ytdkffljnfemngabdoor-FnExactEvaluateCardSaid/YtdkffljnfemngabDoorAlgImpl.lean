/- The program's field algebra: the closures, and the functions over changeValues and combineCells. -/
import Derived.Test.YtdkffljnfemngabDoorAlgCh
import Derived.IntWalk
namespace Go.Proofs.YtdkffljnfemngabDoor
open Go.RowKit
set_option linter.unusedVariables false
set_option linter.unusedSimpArgs false
theorem floor_low {n d : Int} (hd : 0 < d) (h : n.tmod d < 0) : n.tdiv d - 1 = n / d := by
  have h1 := Int.tmod_add_mul_tdiv n d
  have h2 := Int.lt_tmod_of_pos n hd
  have h3 : n = (n.tmod d + d) + (n.tdiv d - 1) * d := by rw [Int.sub_mul, Int.one_mul, Int.mul_comm (n.tdiv d)]; omega
  conv => rhs; rw [h3, Int.add_mul_ediv_right _ _ (by omega), Int.ediv_eq_zero_of_lt (by omega) (by omega)]
  omega
theorem floor_at {n d : Int} (hd : 0 < d) (h : 0 ≤ n.tmod d) : n.tdiv d = n / d := by
  have h1 := Int.tmod_add_mul_tdiv n d
  have h2 := Int.tmod_lt_of_pos n hd
  have h3 : n = n.tmod d + n.tdiv d * d := by rw [Int.mul_comm (n.tdiv d)]; omega
  conv => rhs; rw [h3, Int.add_mul_ediv_right _ _ (by omega), Int.ediv_eq_zero_of_lt (by omega) (by omega)]
  omega
theorem ent_exc : Entered 86 := enters_of Tryd.func86 (by kernel_rfl) rfl
set_option maxHeartbeats 1000000 in
theorem exc_one {B0 : Nat} {limit : Int} {w : World} (hlimit : B0 < w.heap.size) (climit : w.cell? ⟨B0, 0, none⟩ = some (.int .i64 limit))  : OneAt 86 #[.pointer (some ⟨B0, 0, none⟩)] (exF limit) w := by
  intro W x hx hb
  show Calls Tryd.prog 86 #[.int .i64 x, .pointer (some ⟨B0, 0, none⟩)] W fun e w' => e = .returned (.int .i64 (exF limit x)) ∧ Below W.heap.size W w'
  have dlimit := cell_below climit hlimit hb
  obtain ⟨x1, x2⟩ := hx
  clear hb climit
  by_cases h : limit < x
  · have e : exF limit x = 1 := if_pos h
    rw [e]
    clear e
    go_enter Tryd.func86, Tryd.ntmps86
    go_wp2
    go_ret
    exact ⟨rfl, Below.refl _ _⟩
  · have e : exF limit x = 0 := if_neg h
    rw [e]
    clear e
    go_enter Tryd.func86, Tryd.ntmps86
    go_wp2
    go_ret
    exact ⟨rfl, Below.refl _ _⟩
theorem scale_hi {x n : Int} (x1 : -9000 ≤ x) (x2 : x ≤ 9000) (k1 : -100 ≤ n) (k2 : n ≤ 100) : x * n ≤ 900000 := by
  rcases Int.lt_or_le n 0 with h | h
  · have h1 : (9000 + x) * -n ≥ 0 := Int.mul_nonneg (by omega) (by omega)
    rw [Int.add_mul, Int.mul_neg, Int.mul_neg] at h1
    omega
  · have h1 : (9000 - x) * n ≥ 0 := Int.mul_nonneg (by omega) (by omega)
    rw [Int.sub_mul] at h1
    omega
theorem scale_lo {x n : Int} (x1 : -9000 ≤ x) (x2 : x ≤ 9000) (k1 : -100 ≤ n) (k2 : n ≤ 100) : -900000 ≤ x * n := by
  have h := scale_hi (x := -x) (n := n) (by omega) (by omega) k1 k2
  rw [Int.neg_mul] at h
  omega
set_option maxRecDepth 100000 in
set_option maxHeartbeats 4000000 in
theorem implExceeds_any (wd hg : Int) (a : Option Addr) (l : List Int) (c : Nat) (limit : Int) (w : World) (hl : Ints .i64 w w.heap.size a l) (hn : l.length ≤ 1048576) :
    Calls Tryd.prog 73 #[.agg #[.int .i64 wd, .int .i64 hg, .slice a l.length c], .int .i64 limit] w (FRet (exceedsR wd hg l limit) w) := by
  have I0 := (ints_alloc (ints_alloc (ints_alloc hl (.cells #[.int .i64 wd, .int .i64 hg, .slice a l.length c] 41)) (.cells #[.int .i64 limit] 3)) (.cells #[.int .i64 0, .int .i64 0, .slice none 0 0] 41))
  have R0 := Box.new ((w.alloc (.cells #[.int .i64 wd, .int .i64 hg, .slice a l.length c] 41)).alloc (.cells #[.int .i64 limit] 3)) 41 (.int .i64 0) (.int .i64 0) (.slice none 0 0)
  simp only [World.size_alloc] at R0
  have B0 : Below w.heap.size w (((w.alloc (.cells #[.int .i64 wd, .int .i64 hg, .slice a l.length c] 41)).alloc (.cells #[.int .i64 limit] 3)).alloc (.cells #[.int .i64 0, .int .i64 0, .slice none 0 0] 41)) := ((((Below.refl w.heap.size w).alloc (by simp <;> omega) (.cells #[.int .i64 wd, .int .i64 hg, .slice a l.length c] 41)).alloc (by simp <;> omega) (.cells #[.int .i64 limit] 3)).alloc (by simp <;> omega) (.cells #[.int .i64 0, .int .i64 0, .slice none 0 0] 41))
  have C0 : (((w.alloc (.cells #[.int .i64 wd, .int .i64 hg, .slice a l.length c] 41)).alloc (.cells #[.int .i64 limit] 3)).alloc (.cells #[.int .i64 0, .int .i64 0, .slice none 0 0] 41)).cell? ⟨w.heap.size + 1, 0, none⟩ = some (.int .i64 limit) := by rw [World.cell?_alloc_past _ _ _ (by simp)]; rw [World.cell?_alloc_at _ _ _ _ (by simp)]; rfl
  have zw : (((w.alloc (.cells #[.int .i64 wd, .int .i64 hg, .slice a l.length c] 41)).alloc (.cells #[.int .i64 limit] 3)).alloc (.cells #[.int .i64 0, .int .i64 0, .slice none 0 0] 41)).heap.size = w.heap.size + 1 + 1 + 1 := by simp
  generalize hW : (((w.alloc (.cells #[.int .i64 wd, .int .i64 hg, .slice a l.length c] 41)).alloc (.cells #[.int .i64 limit] 3)).alloc (.cells #[.int .i64 0, .int .i64 0, .slice none 0 0] 41)) = W at I0 R0 B0 zw C0
  unfold exceedsR
  have HC := Lib.hid (changeV_any wd hg a l c 86 #[.pointer (some ⟨w.heap.size + 1, 0, none⟩)] (exF limit) W I0 hn ent_exc (exc_one (by omega) C0))
  have HW := Lib.hid hW
  have HR := Lib.hid R0
  have HB := Lib.hid B0
  have HZ := Lib.hid zw
  clear hl I0 R0 B0 zw hW C0
  generalize mapR (exF limit) wd hg l = rr at *
  go_enter Tryd.func73, Tryd.ntmps73
  go_wp2_with fail
  rw [HW.out]
  refine HC.out.mono ?_
  rintro e w1 ⟨a1, c1, rfl, o1, b1⟩
  have O1 := Lib.hid (o1.more (C := w.heap.size + 1 + 1 + 1) (by have := HZ.out; omega))
  have R1 := HR.out.below b1
  have B1 := Lib.hid (below_then HB.out b1)
  obtain ⟨r0, r1, r2⟩ := R1.cells
  have g0 := R1.frozen 0
  have g1 := R1.frozen 1
  have g2 := R1.frozen 2
  clear o1 b1 R1 HC HW HR
  go_wp2
  refine bodyPost_ret (v := .tuple #[.agg #[.int .i64 (rW rr), .int .i64 (rH rr), .slice a1 (rL rr).length c1], .bool (rB rr)]) (by simp [results, Tryd.results73, go_sem, r0, r1, r2]) rfl ⟨a1, c1, rfl, ?_, ?_⟩
  · exact (ownI_set (ownI_set (ownI_set O1.out (by show w.heap.size + 1 + 1 < _; omega) _) (by show w.heap.size + 1 + 1 < _; omega) _) (by show w.heap.size + 1 + 1 < _; omega) _).more (by omega)
  · exact ((B1.out.setCell (by show w.heap.size ≤ w.heap.size + 1 + 1; omega) _).setCell (by show w.heap.size ≤ w.heap.size + 1 + 1; omega) _).setCell (by show w.heap.size ≤ w.heap.size + 1 + 1; omega) _

end Go.Proofs.YtdkffljnfemngabDoor
