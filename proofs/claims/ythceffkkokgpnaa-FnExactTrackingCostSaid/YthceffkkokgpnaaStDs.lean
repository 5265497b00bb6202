/- The distance of two storms: the model's and the program's. -/
import Derived.Test.YthceffkkokgpnaaStIs
import Derived.Test.YthceffkkokgpnaaStSp
import Derived.Test.YthceffkkokgpnaaMvDf
import Derived.Test.YthceffkkokgpnaaMvSpec
import Derived.Test.YthceffkkokgpnaaDrew
import Derived.BigQuiet
namespace Go.Proofs.Ythceffkkokgpnaa
open Go.RowKit
set_option linter.unusedVariables false
set_option linter.unusedSimpArgs false
theorem quietMoreS {P : Program} {f : FuncId} {args : Array Value} {w : World} {a n : Nat} {v : Value} (h : ∀ W : World, Calls P f args W fun e w' => e = .returned v ∧ W = w') :
    Calls P f args (w.drewN (a + n)) fun e w'' => e = .returned v ∧ ∃ m, w'' = w.drewN (a + m) := (h _).mono fun _ _ h9 => ⟨h9.1, n, h9.2.symm⟩
/-- block b is a struct of four numbers -/
def SBox (w : World) (b : Nat) (t : TypeId) (x y n p : Int) : Prop := w.heap[b]? = some (.cells #[.int .i64 x, .int .i64 y, .int .i64 n, .int .i64 p] t (0, 0))
section
variable {w w' : World} {b : Nat} {t : TypeId} {x y n p : Int}
theorem SBox.lt (h : SBox w b t x y n p) : b < w.heap.size := (Array.getElem?_eq_some_iff.1 h).1
theorem SBox.cells (h : SBox w b t x y n p) : w.cell? ⟨b, 0, none⟩ = some (.int .i64 x) ∧ w.cell? ⟨b, 1, none⟩ = some (.int .i64 y) ∧ w.cell? ⟨b, 2, none⟩ = some (.int .i64 n) ∧ w.cell? ⟨b, 3, none⟩ = some (.int .i64 p) := by
  unfold SBox at h
  refine ⟨?_, ?_, ?_, ?_⟩ <;> simp [World.cell?, h]
theorem SBox.below (h : SBox w b t x y n p) (k : Below w.heap.size w w') : SBox w' b t x y n p := (k.block b h.lt).trans h
theorem SBox.new (w : World) (t : TypeId) (x y n p : Int) : SBox (w.alloc (.cells #[.int .i64 x, .int .i64 y, .int .i64 n, .int .i64 p] t)) w.heap.size t x y n p := heap_alloc_new w _
end
/-- two storms, by value -/
structure Sx2 (w : World) (x0 y0 n0 p0 x1 y1 n1 p1 : Int) (w' : World) : Prop where
  b : Below w.heap.size w w'
  k0 : SBox w' w.heap.size 26 x0 y0 n0 p0
  k1 : SBox w' (w.heap.size + 1) 26 x1 y1 n1 p1
section
variable {w w1 w2 : World} {x0 y0 n0 p0 x1 y1 n1 p1 : Int}
theorem Sx2.new (w : World) (x0 y0 n0 p0 x1 y1 n1 p1 : Int) : Sx2 w x0 y0 n0 p0 x1 y1 n1 p1 ((w.alloc (.cells #[.int .i64 x0, .int .i64 y0, .int .i64 n0, .int .i64 p0] 26)).alloc (.cells #[.int .i64 x1, .int .i64 y1, .int .i64 n1, .int .i64 p1] 26)) :=
  ⟨(below_all _ _).alloc (by simp) _, (SBox.new w _ x0 y0 n0 p0).below (below_all _ _), by have h := SBox.new (w.alloc (.cells #[.int .i64 x0, .int .i64 y0, .int .i64 n0, .int .i64 p0] 26)) 26 x1 y1 n1 p1; rw [World.size_alloc] at h; exact h⟩
theorem Sx2.step (h : Sx2 w x0 y0 n0 p0 x1 y1 n1 p1 w1) (b : Below w1.heap.size w1 w2) : Sx2 w x0 y0 n0 p0 x1 y1 n1 p1 w2 := ⟨below_then h.b b, h.k0.below b, h.k1.below b⟩
end
theorem szS_two (u v : Int) : szS [u, v] = max u (-u) + max v (-v) := by unfold szS; simp
set_option maxRecDepth 100000 in
set_option maxHeartbeats 4000000 in
theorem specDs_any (x0 y0 n0 p0 x1 y1 n1 p1 : Int) (w : World) (hx : 0 ≤ x0 ∧ x0 ≤ 7) (hy : 0 ≤ y0 ∧ y0 ≤ 7) (kx : 0 ≤ x1 ∧ x1 ≤ 7) (ky : 0 ≤ y1 ∧ y1 ≤ 7) :
    Calls Try.prog 72 #[.agg #[.int .i64 x0, .int .i64 y0, .int .i64 n0, .int .i64 p0], .agg #[.int .i64 x1, .int .i64 y1, .int .i64 n1, .int .i64 p1]] w fun e w' => e = .returned (.int .i64 (dsB (x0, y0, n0, p0) (x1, y1, n1, p1))) ∧ Below w.heap.size w w' := by
  have F0 := Lib.hid (Sx2.new w x0 y0 n0 p0 x1 y1 n1 p1)
  have g1 := IntWalk.i64_in (x0 - x1) (by omega)
  have g2 := IntWalk.i64_in (y0 - y1) (by omega)
  have HA := Lib.hid (fun W => specAbs_is (x0 - x1) W (by omega))
  have HB := Lib.hid (fun W => specAbs_is (y0 - y1) W (by omega))
  show Calls _ _ _ _ fun e w' => e = .returned (.int .i64 (max (x0 - x1) (-(x0 - x1)) + max (y0 - y1) (-(y0 - y1)))) ∧ _
  have m1 : 0 ≤ max (x0 - x1) (-(x0 - x1)) ∧ max (x0 - x1) (-(x0 - x1)) ≤ 7 := by omega
  have m2 : 0 ≤ max (y0 - y1) (-(y0 - y1)) ∧ max (y0 - y1) (-(y0 - y1)) ≤ 7 := by omega
  generalize max (x0 - x1) (-(x0 - x1)) = u at *
  generalize max (y0 - y1) (-(y0 - y1)) = v at *
  clear hx hy kx ky
  have g3 := IntWalk.i64_in (u + v) (by omega)
  obtain ⟨W1, hW1⟩ : ∃ x, (w.alloc (.cells #[.int .i64 x0, .int .i64 y0, .int .i64 n0, .int .i64 p0] 26)).alloc (.cells #[.int .i64 x1, .int .i64 y1, .int .i64 n1, .int .i64 p1] 26) = x := ⟨_, rfl⟩
  rw [hW1] at F0
  have HW := Lib.hid hW1
  clear hW1
  go_enter Try.func72, Try.ntmps72
  go_wp2_with fail
  rw [HW.out]
  obtain ⟨a0, a1, a2, a3⟩ := F0.out.k0.cells
  obtain ⟨c0, c1, c2, c3⟩ := F0.out.k1.cells
  go_quiet ((go_at_call 126; first | exact Calls.quiet_of_same (quietSame (HA.out _)) | exact Calls.quiet_of_same (quietSame (HB.out _)) | exact quietMoreS HA.out | exact quietMoreS HB.out))
  clear a0 a1 a2 a3 c0 c1 c2 c3
  go_wp2
  go_ret
  exact ⟨rfl, below_drewN F0.out.b _⟩
set_option maxRecDepth 100000 in
set_option maxHeartbeats 4000000 in
theorem specStD_any (x0 y0 n0 p0 x1 y1 n1 p1 : Int) (w : World) :
    Calls Try.prog 14 #[.agg #[.int .i64 x0, .int .i64 y0, .int .i64 n0, .int .i64 p0], .agg #[.int .i64 x1, .int .i64 y1, .int .i64 n1, .int .i64 p1]] w fun e w' => e = .returned (.tuple #[.int .i64 (if (stB x0 y0 n0 p0 && stB x1 y1 n1 p1) = true then dsB (x0, y0, n0, p0) (x1, y1, n1, p1) else 0), .bool (stB x0 y0 n0 p0 && stB x1 y1 n1 p1)]) ∧ Below w.heap.size w w' := by
  have F0 := Lib.hid (Sx2.new w x0 y0 n0 p0 x1 y1 n1 p1)
  have HA := Lib.hid (fun W => specGood_any x0 y0 n0 p0 W)
  have HB := Lib.hid (fun W => specGood_any x1 y1 n1 p1 W)
  have HD := Lib.hid (fun (h0 : stB x0 y0 n0 p0 = true) (h1 : stB x1 y1 n1 p1 = true) W => specDs_any x0 y0 n0 p0 x1 y1 n1 p1 W (stB_iff.1 h0).1 (stB_iff.1 h0).2.1 (stB_iff.1 h1).1 (stB_iff.1 h1).2.1)
  generalize dsB (x0, y0, n0, p0) (x1, y1, n1, p1) = d at *
  generalize stB x0 y0 n0 p0 = u at *
  generalize stB x1 y1 n1 p1 = v at *
  obtain ⟨W1, hW1⟩ : ∃ x, (w.alloc (.cells #[.int .i64 x0, .int .i64 y0, .int .i64 n0, .int .i64 p0] 26)).alloc (.cells #[.int .i64 x1, .int .i64 y1, .int .i64 n1, .int .i64 p1] 26) = x := ⟨_, rfl⟩
  rw [hW1] at F0
  have HW := Lib.hid hW1
  clear hW1
  cases u with
  | false =>
    go_enter Try.func14, Try.ntmps14
    go_wp2_with fail
    rw [HW.out]
    obtain ⟨a0, a1, a2, a3⟩ := F0.out.k0.cells
    obtain ⟨c0, c1, c2, c3⟩ := F0.out.k1.cells
    go_wp2_with (go_at_call 71; (with_reducible refine (HA.out _).mono ?_); rintro e w2 ⟨rfl, b2⟩; have B2 := Lib.hid b2; clear b2)
    go_ret2
    exact ⟨rfl, below_then F0.out.b B2.out⟩
  | true =>
    cases v with
    | false =>
      go_enter Try.func14, Try.ntmps14
      go_wp2_with fail
      rw [HW.out]
      obtain ⟨a0, a1, a2, a3⟩ := F0.out.k0.cells
      obtain ⟨c0, c1, c2, c3⟩ := F0.out.k1.cells
      go_wp2_with fail
      refine (HA.out _).mono ?_
      rintro e w2 ⟨rfl, b2⟩
      have F2 := Lib.hid (F0.out.step b2)
      clear b2 F0 a0 a1 a2 a3 c0 c1 c2 c3
      obtain ⟨a0, a1, a2, a3⟩ := F2.out.k0.cells
      obtain ⟨c0, c1, c2, c3⟩ := F2.out.k1.cells
      go_wp2_with fail
      refine (HB.out _).mono ?_
      rintro e w3 ⟨rfl, b3⟩
      have F3 := Lib.hid (F2.out.step b3)
      clear b3 F2 a0 a1 a2 a3 c0 c1 c2 c3
      go_wp2
      go_ret2
      exact ⟨rfl, F3.out.b⟩
    | true =>
      go_enter Try.func14, Try.ntmps14
      go_wp2_with fail
      rw [HW.out]
      obtain ⟨a0, a1, a2, a3⟩ := F0.out.k0.cells
      obtain ⟨c0, c1, c2, c3⟩ := F0.out.k1.cells
      go_wp2_with fail
      refine (HA.out _).mono ?_
      rintro e w2 ⟨rfl, b2⟩
      have F2 := Lib.hid (F0.out.step b2)
      clear b2 F0 a0 a1 a2 a3 c0 c1 c2 c3
      obtain ⟨a0, a1, a2, a3⟩ := F2.out.k0.cells
      obtain ⟨c0, c1, c2, c3⟩ := F2.out.k1.cells
      go_wp2_with fail
      refine (HB.out _).mono ?_
      rintro e w3 ⟨rfl, b3⟩
      have F3 := Lib.hid (F2.out.step b3)
      clear b3 F2 a0 a1 a2 a3 c0 c1 c2 c3
      obtain ⟨a0, a1, a2, a3⟩ := F3.out.k0.cells
      obtain ⟨c0, c1, c2, c3⟩ := F3.out.k1.cells
      go_wp2_with fail
      refine (HD.out (by simp) (by simp) _).mono ?_
      rintro e w4 ⟨rfl, b4⟩
      have F4 := Lib.hid (F3.out.step b4)
      clear b4 F3 a0 a1 a2 a3 c0 c1 c2 c3
      go_wp2
      go_ret2
      exact ⟨rfl, F4.out.b⟩
set_option maxRecDepth 100000 in
set_option maxHeartbeats 4000000 in
theorem implStD_any (x0 y0 n0 p0 x1 y1 n1 p1 : Int) (w : World) :
    Calls Try.prog 16 #[.agg #[.int .i64 x0, .int .i64 y0, .int .i64 n0, .int .i64 p0], .agg #[.int .i64 x1, .int .i64 y1, .int .i64 n1, .int .i64 p1]] w fun e w' => e = .returned (.tuple #[.int .i64 (if (stB x0 y0 n0 p0 && stB x1 y1 n1 p1) = true then dsB (x0, y0, n0, p0) (x1, y1, n1, p1) else 0), .bool (stB x0 y0 n0 p0 && stB x1 y1 n1 p1)]) ∧ Below w.heap.size w w' := by
  have F0 := Lib.hid (Sx2.new w x0 y0 n0 p0 x1 y1 n1 p1)
  have HA := Lib.hid (fun W => isStorm_any x0 y0 n0 p0 W)
  have HB := Lib.hid (fun W => isStorm_any x1 y1 n1 p1 W)
  have HQ := Lib.hid (fun (h0 : stB x0 y0 n0 p0 = true) (h1 : stB x1 y1 n1 p1 = true) => And.intro (And.intro (stB_iff.1 h0).1 (stB_iff.1 h0).2.1) (And.intro (stB_iff.1 h1).1 (stB_iff.1 h1).2.1))
  obtain ⟨d, hd⟩ : ∃ d, dsB (x0, y0, n0, p0) (x1, y1, n1, p1) = d := ⟨_, rfl⟩
  have HDS := Lib.hid (show szS [x0 - x1, y0 - y1] = d from (szS_two _ _).trans hd)
  rw [hd]
  clear hd
  generalize stB x0 y0 n0 p0 = u at *
  generalize stB x1 y1 n1 p1 = v at *
  obtain ⟨W1, hW1⟩ : ∃ x, (w.alloc (.cells #[.int .i64 x0, .int .i64 y0, .int .i64 n0, .int .i64 p0] 26)).alloc (.cells #[.int .i64 x1, .int .i64 y1, .int .i64 n1, .int .i64 p1] 26) = x := ⟨_, rfl⟩
  rw [hW1] at F0
  have HW := Lib.hid hW1
  clear hW1
  cases u with
  | false =>
    go_enter Try.func16, Try.ntmps16
    go_wp2_with fail
    rw [HW.out]
    obtain ⟨a0, a1, a2, a3⟩ := F0.out.k0.cells
    obtain ⟨c0, c1, c2, c3⟩ := F0.out.k1.cells
    go_wp2_with (go_at_call 73; (with_reducible refine (HA.out _).mono ?_); rintro e w2 ⟨rfl, b2⟩; have B2 := Lib.hid b2; clear b2)
    go_ret2
    exact ⟨rfl, below_then F0.out.b B2.out⟩
  | true =>
    cases v with
    | false =>
      go_enter Try.func16, Try.ntmps16
      go_wp2_with fail
      rw [HW.out]
      obtain ⟨a0, a1, a2, a3⟩ := F0.out.k0.cells
      obtain ⟨c0, c1, c2, c3⟩ := F0.out.k1.cells
      go_wp2_with fail
      refine (HA.out _).mono ?_
      rintro e w2 ⟨rfl, b2⟩
      have F2 := Lib.hid (F0.out.step b2)
      clear b2 F0 a0 a1 a2 a3 c0 c1 c2 c3
      obtain ⟨a0, a1, a2, a3⟩ := F2.out.k0.cells
      obtain ⟨c0, c1, c2, c3⟩ := F2.out.k1.cells
      go_wp2_with fail
      refine (HB.out _).mono ?_
      rintro e w3 ⟨rfl, b3⟩
      have F3 := Lib.hid (F2.out.step b3)
      clear b3 F2 a0 a1 a2 a3 c0 c1 c2 c3
      go_wp2
      go_ret2
      exact ⟨rfl, F3.out.b⟩
    | true =>
      obtain ⟨⟨hx, hy⟩, kx, ky⟩ := HQ.out rfl rfl
      have g1 := IntWalk.i64_in (x0 - x1) (by omega)
      have g2 := IntWalk.i64_in (y0 - y1) (by omega)
      have HZ := Lib.hid (fun b W (h : Ints .i64 W W.heap.size (some ⟨b, 0, none⟩) [x0 - x1, y0 - y1]) => implSz_any (some ⟨b, 0, none⟩) [x0 - x1, y0 - y1] 2 W h (fun z hz => by
        simp only [List.mem_cons, List.not_mem_nil, or_false] at hz
        omega) (by simp))
      rw [HDS.out] at HZ
      obtain ⟨u1, hu1⟩ : ∃ q, x0 - x1 = q := ⟨_, rfl⟩
      obtain ⟨v1, hv1⟩ : ∃ q, y0 - y1 = q := ⟨_, rfl⟩
      rw [hu1] at g1 HZ
      rw [hv1] at g2 HZ
      have HU := Lib.hid hu1
      have HV := Lib.hid hv1
      clear hx hy kx ky HQ HDS
      go_enter Try.func16, Try.ntmps16
      go_wp2_with fail
      rw [HW.out]
      obtain ⟨a0, a1, a2, a3⟩ := F0.out.k0.cells
      obtain ⟨c0, c1, c2, c3⟩ := F0.out.k1.cells
      go_wp2_with fail
      refine (HA.out _).mono ?_
      rintro e w2 ⟨rfl, b2⟩
      have F2 := Lib.hid (F0.out.step b2)
      clear b2 F0 a0 a1 a2 a3 c0 c1 c2 c3
      obtain ⟨a0, a1, a2, a3⟩ := F2.out.k0.cells
      obtain ⟨c0, c1, c2, c3⟩ := F2.out.k1.cells
      go_wp2_with fail
      refine (HB.out _).mono ?_
      rintro e w3 ⟨rfl, b3⟩
      have F3 := Lib.hid (F2.out.step b3)
      clear b3 F2 a0 a1 a2 a3 c0 c1 c2 c3
      obtain ⟨a0, a1, a2, a3⟩ := F3.out.k0.cells
      obtain ⟨c0, c1, c2, c3⟩ := F3.out.k1.cells
      go_wp2_with fail
      have HI := Lib.hid (show Ints .i64 (w3.alloc (.cells #[.int .i64 u1, .int .i64 v1] 3)) (w3.alloc (.cells #[.int .i64 u1, .int .i64 v1] 3)).heap.size (some ⟨w3.heap.size, 0, none⟩) [u1, v1] from
        .inr ⟨w3.heap.size, 0, rfl, by simp, fun j hj => by
          match j, hj with
          | 0, _ => simp [go_sem]
          | 1, _ => simp [go_sem]⟩)
      refine (HZ.out _ _ HI.out).mono ?_
      rintro e w4 ⟨rfl, rfl⟩
      clear a0 a1 a2 a3 c0 c1 c2 c3
      go_wp2
      go_ret2
      exact ⟨rfl, F3.out.b.alloc F3.out.b.size _⟩
end Go.Proofs.Ythceffkkokgpnaa
