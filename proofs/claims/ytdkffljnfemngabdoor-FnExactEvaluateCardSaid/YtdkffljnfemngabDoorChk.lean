/- The model's l4Checked, l4Op, l4Floor. -/
import Derived.Test.YtdkffljnfemngabDoorSame
import Derived.Test.YtdkffljnfemngabDoorAlgRule
import Derived.IntWalk
namespace Go.Proofs.YtdkffljnfemngabDoor
open Go.RowKit
set_option linter.unusedVariables false
set_option linter.unusedSimpArgs false
theorem floor_up {x y : Int} (hy : 0 < y) : -((-x + y - 1) / y) = x / y := by
  have h1 := Int.emod_add_mul_ediv x y
  have h2 := Int.emod_nonneg x (by omega : y ≠ 0)
  have h3 := Int.emod_lt_of_pos x hy
  have h4 : -x + y - 1 = (y - 1 - x % y) + (-(x / y)) * y := by rw [Int.neg_mul, Int.mul_comm (x / y)]; omega
  rw [h4, Int.add_mul_ediv_right _ _ (by omega), Int.ediv_eq_zero_of_lt (by omega) (by omega)]
  omega
set_option maxHeartbeats 1000000 in
theorem l4Op_is (op x y : Int) (w : World) (ho : opB op = true) (hx : cellB x = true) (hy : cellB y = true) :
    Calls Tryd.prog 76 #[.int .i64 op, .int .i64 x, .int .i64 y] w fun e w' => e = .returned (.int .i64 (opF op x y)) ∧ w = w' := by
  obtain ⟨x1, x2⟩ := cell_bd hx
  obtain ⟨y1, y2⟩ := cell_bd hy
  unfold opB at ho
  simp only [Bool.and_eq_true, decide_eq_true_eq] at ho
  obtain ⟨o1, o2⟩ := ho
  clear hx hy
  have HM1 := Lib.hid (fun W => l1Least_is x y W)
  have HM2 := Lib.hid (fun W => l1Most_is x y W)
  rcases (by omega : op = 1 ∨ op = 2 ∨ op = 3 ∨ op = 4) with rfl | rfl | rfl | rfl
  · rw [show opF 1 x y = x + y from rfl]
    go_enter Tryd.func76, Tryd.ntmps76
    go_wp2
    go_ret
    exact ⟨rfl, rfl⟩
  · rw [show opF 2 x y = x - y from rfl]
    go_enter Tryd.func76, Tryd.ntmps76
    go_wp2
    go_ret
    exact ⟨rfl, rfl⟩
  · rw [show opF 3 x y = min x y from rfl]
    go_enter Tryd.func76, Tryd.ntmps76
    go_wp2_with (go_at_call 90; refine (HM1.out _).mono ?_; rintro e w1 ⟨rfl, rfl⟩)
    go_ret
    exact ⟨rfl, rfl⟩
  · rw [show opF 4 x y = max x y from rfl]
    go_enter Tryd.func76, Tryd.ntmps76
    go_wp2_with (go_at_call 59; refine (HM2.out _).mono ?_; rintro e w1 ⟨rfl, rfl⟩)
    go_ret
    exact ⟨rfl, rfl⟩
set_option maxRecDepth 100000 in
set_option maxHeartbeats 2000000 in
theorem chk_no (wd hg : Int) (a : Option Addr) (n c : Nat) (w : World) :
    Calls Tryd.prog 82 #[.agg #[.int .i64 wd, .int .i64 hg, .slice a n c], .bool false] w fun e w' => e = .returned (.tuple #[.agg #[.int .i64 0, .int .i64 0, .slice none 0 0], .bool false]) ∧ Below w.heap.size w w' := by
  have R0 := Box.new (w.alloc (.cells #[.int .i64 wd, .int .i64 hg, .slice a n c] 41)) 41 (.int .i64 0) (.int .i64 0) (.slice none 0 0)
  simp only [World.size_alloc] at R0
  obtain ⟨r0, r1, r2⟩ := R0.cells
  have g0 := R0.frozen 0
  have g1 := R0.frozen 1
  have g2 := R0.frozen 2
  have B1 : Hid (Below w.heap.size w ((w.alloc (.cells #[.int .i64 wd, .int .i64 hg, .slice a n c] 41)).alloc (.cells #[.int .i64 0, .int .i64 0, .slice none 0 0] 41))) := Lib.hid (((Below.refl _ _).alloc (Nat.le_refl _) _).alloc (by simp) _)
  clear R0
  go_enter Tryd.func82, Tryd.ntmps82
  go_wp2
  refine bodyPost_ret (v := .tuple #[.agg #[.int .i64 0, .int .i64 0, .slice none 0 0], .bool false]) (by simp [results, Tryd.results82, go_sem, r0, r1, r2]) rfl ⟨rfl, ?_⟩
  first | exact B1.out | exact ((B1.out.setCell (p := ⟨w.heap.size + 1, 0, none⟩) (by show w.heap.size ≤ w.heap.size + 1; omega) _).setCell (p := ⟨w.heap.size + 1, 1, none⟩) (by show w.heap.size ≤ w.heap.size + 1; omega) _).setCell (p := ⟨w.heap.size + 1, 2, none⟩) (by show w.heap.size ≤ w.heap.size + 1; omega) _
set_option maxRecDepth 100000 in
set_option maxHeartbeats 2000000 in
theorem chk_yes (wd hg : Int) (a : Option Addr) (l : List Int) (c : Nat) (w : World) (hl : Ints .i64 w w.heap.size a l) (hn : l.length ≤ 1048576) (hg' : goodB wd hg l = true) :
    Calls Tryd.prog 82 #[.agg #[.int .i64 wd, .int .i64 hg, .slice a l.length c], .bool true] w fun e w' => e = .returned (.tuple #[.agg #[.int .i64 wd, .int .i64 hg, .slice a l.length c], .bool true]) ∧ Below w.heap.size w w' := by
  have F0 := Lib.hid (Fr1.new (wd0 := wd) (hg0 := hg) (c0 := c) hl)
  have HC := Lib.hid (specGood_is wd hg a l c _ true _ F0.out.i0 (Nat.le_refl _) hn hg')
  clear hl hg'
  go_enter Tryd.func82, Tryd.ntmps82
  go_wp2_with fail
  refine HC.out.mono ?_
  rintro e w1 ⟨rfl, b1⟩
  have F1 := Lib.hid (F0.out.step b1)
  have B1 := Lib.hid F1.out.b
  obtain ⟨k0, k1, k2⟩ := F1.out.k0.cells
  obtain ⟨r0, r1, r2⟩ := F1.out.r.cells
  have g0 := F1.out.r.frozen 0
  have g1 := F1.out.r.frozen 1
  have g2 := F1.out.r.frozen 2
  clear b1 F0 F1
  go_wp2
  refine bodyPost_ret (v := .tuple #[.agg #[.int .i64 wd, .int .i64 hg, .slice a l.length c], .bool true]) (by simp [results, Tryd.results82, go_sem, r0, r1, r2]) rfl ⟨rfl, ?_⟩
  exact ((B1.out.setCell (by show w.heap.size ≤ w.heap.size + 1; omega) _).setCell (by show w.heap.size ≤ w.heap.size + 1; omega) _).setCell (by show w.heap.size ≤ w.heap.size + 1; omega) _
end Go.Proofs.YtdkffljnfemngabDoor
