/- The walk of FnExactStormDistance. -/
import Derived.Test.YthceffkkokgpnaaStDs
import Derived.Test.YthceffkkokgpnaaStLaw
import Derived.BigQuiet
namespace Go.Proofs.Ythceffkkokgpnaa
open Go.RowKit
set_option linter.unusedVariables false
set_option linter.unusedSimpArgs false
/-- two storms of the law's, by value -/
structure Lst2 (w : World) (x0 y0 n0 p0 x1 y1 n1 p1 : Int) (w' : World) : Prop where
  b : Below w.heap.size w w'
  k0 : SBox w' w.heap.size 23 x0 y0 n0 p0
  k1 : SBox w' (w.heap.size + 1) 23 x1 y1 n1 p1
section
variable {w w1 w2 : World} {x0 y0 n0 p0 x1 y1 n1 p1 : Int}
theorem Lst2.new (w : World) (x0 y0 n0 p0 x1 y1 n1 p1 : Int) : Lst2 w x0 y0 n0 p0 x1 y1 n1 p1 ((w.alloc (.cells #[.int .i64 x0, .int .i64 y0, .int .i64 n0, .int .i64 p0] 23)).alloc (.cells #[.int .i64 x1, .int .i64 y1, .int .i64 n1, .int .i64 p1] 23)) :=
  ⟨(below_all _ _).alloc (by simp) _, (SBox.new w _ x0 y0 n0 p0).below (below_all _ _), by have h := SBox.new (w.alloc (.cells #[.int .i64 x0, .int .i64 y0, .int .i64 n0, .int .i64 p0] 23)) 23 x1 y1 n1 p1; rw [World.size_alloc] at h; exact h⟩
theorem Lst2.step (h : Lst2 w x0 y0 n0 p0 x1 y1 n1 p1 w1) (b : Below w1.heap.size w1 w2) : Lst2 w x0 y0 n0 p0 x1 y1 n1 p1 w2 := ⟨below_then h.b b, h.k0.below b, h.k1.below b⟩
theorem Lst2.cells (h : Lst2 w x0 y0 n0 p0 x1 y1 n1 p1 w1) : (w1.cell? ⟨w.heap.size, 0, none⟩ = some (.int .i64 x0) ∧ w1.cell? ⟨w.heap.size, 1, none⟩ = some (.int .i64 y0) ∧ w1.cell? ⟨w.heap.size, 2, none⟩ = some (.int .i64 n0) ∧ w1.cell? ⟨w.heap.size, 3, none⟩ = some (.int .i64 p0)) ∧ w1.cell? ⟨w.heap.size + 1, 0, none⟩ = some (.int .i64 x1) ∧ w1.cell? ⟨w.heap.size + 1, 1, none⟩ = some (.int .i64 y1) ∧ w1.cell? ⟨w.heap.size + 1, 2, none⟩ = some (.int .i64 n1) ∧ w1.cell? ⟨w.heap.size + 1, 3, none⟩ = some (.int .i64 p1) := ⟨h.k0.cells, h.k1.cells⟩
end
set_option maxRecDepth 100000 in
set_option maxHeartbeats 16000000 in
theorem walk_StDsLaw (x0 y0 n0 p0 x1 y1 n1 p1 : Int) (w : World) :
    Calls Try.prog 3 #[.agg #[.int .i64 x0, .int .i64 y0, .int .i64 n0, .int .i64 p0], .agg #[.int .i64 x1, .int .i64 y1, .int .i64 n1, .int .i64 p1]] w fun e w' => e = .returned (.bool true) ∧ Below w.heap.size w w' := by
  have F0 := Lib.hid (Lst2.new w x0 y0 n0 p0 x1 y1 n1 p1)
  have HA := Lib.hid (fun W => toSt_is x0 y0 n0 p0 W)
  have HB := Lib.hid (fun W => toSt_is x1 y1 n1 p1 W)
  have HS := Lib.hid (fun W => specStD_any x0 y0 n0 p0 x1 y1 n1 p1 W)
  have HI := Lib.hid (fun W => implStD_any x0 y0 n0 p0 x1 y1 n1 p1 W)
  generalize (if (stB x0 y0 n0 p0 && stB x1 y1 n1 p1) = true then dsB (x0, y0, n0, p0) (x1, y1, n1, p1) else 0) = d at *
  generalize (stB x0 y0 n0 p0 && stB x1 y1 n1 p1) = v at *
  have er : (v != v) = false := by simp
  have ed : (d != d) = false := by simp
  obtain ⟨W1, hW1⟩ : ∃ x, (w.alloc (.cells #[.int .i64 x0, .int .i64 y0, .int .i64 n0, .int .i64 p0] 23)).alloc (.cells #[.int .i64 x1, .int .i64 y1, .int .i64 n1, .int .i64 p1] 23) = x := ⟨_, rfl⟩
  rw [hW1] at F0
  have HW := Lib.hid hW1
  clear hW1
  go_enter Try.func3, Try.ntmps3
  go_wp2_with fail
  rw [HW.out]
  obtain ⟨⟨a0, a1, a2, a3⟩, c0, c1, c2, c3⟩ := F0.out.cells
  have l0 := F0.out.k0.lt
  have l1 := F0.out.k1.lt
  have p0 := later_cell a0 l0
  have p1 := later_cell a1 l0
  have p2 := later_cell a2 l0
  have p3 := later_cell a3 l0
  have q0 := later_cell c0 l1
  have q1 := later_cell c1 l1
  have q2 := later_cell c2 l1
  have q3 := later_cell c3 l1
  clear a0 a1 a2 a3 c0 c1 c2 c3 l0 l1
  refine wp_region_later (by kernel_rfl) (by kernel_rfl) ?_
  repeat (go_big_quiet_step (first | (go_at_call 15; first | (with_reducible exact calls_later (HA.out _)) | (with_reducible exact calls_later (HB.out _))) | (go_at_call 14; exact calls_later (HS.out _))))
  refine wpQuiet_nil ?_
  intro _ hw'
  obtain ⟨pq1, hw''⟩ := hw'
  subst hw''
  have F1 := Lib.hid (F0.out.step pq1.below)
  clear p0 p1 p2 p3 q0 q1 q2 q3
  go_wp2_with fail
  obtain ⟨⟨a0, a1, a2, a3⟩, c0, c1, c2, c3⟩ := F1.out.cells
  have l0 := F1.out.k0.lt
  have l1 := F1.out.k1.lt
  have p0 := later_cell a0 l0
  have p1 := later_cell a1 l0
  have p2 := later_cell a2 l0
  have p3 := later_cell a3 l0
  have q0 := later_cell c0 l1
  have q1 := later_cell c1 l1
  have q2 := later_cell c2 l1
  have q3 := later_cell c3 l1
  clear a0 a1 a2 a3 c0 c1 c2 c3 l0 l1
  refine wp_region_later (by kernel_rfl) (by kernel_rfl) ?_
  repeat (go_big_quiet_step (first | (go_at_call 15; first | (with_reducible exact calls_later (HA.out _)) | (with_reducible exact calls_later (HB.out _))) | (go_at_call 16; exact calls_later (HI.out _))))
  refine wpQuiet_nil ?_
  intro _ hw'
  obtain ⟨pq2, hw''⟩ := hw'
  subst hw''
  have F2 := Lib.hid (F1.out.step pq2.below)
  clear p0 p1 p2 p3 q0 q1 q2 q3
  go_wp2
  go_ret
  exact ⟨rfl, F2.out.b⟩
end Go.Proofs.Ythceffkkokgpnaa
