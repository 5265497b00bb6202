/- The distance of two storms: the model's and the program's. The program's TrackingCost. The model's l12Cost and TrackingCost. The best tracking: plain mathematics of the model's search and of the program's. What the functions of storms hand back. What BestTracking answers. The model's l12Best and BestTracking. The program's search for the best tracking: what lies in memory. A tracking is tried: the program's closure in BestTracking. All trackings are tried: the program's everyTracking and its closures. The search, whole: the program's goOn and everyTracking. The program's everyTracking. slices.Repeat of one -1. Sets of points: a map from points to bools that the call itself has made. Points of cells: pointAt, neighborsOf, cornersOf. The program's BestTracking. The laws' helpers on Storm. The walk of the law FnExactBestTracking. -/
import Derived.Test.YthceffkkokgpnaaStIs
import Derived.Test.YthceffkkokgpnaaStSp
import Derived.Test.YthceffkkokgpnaaSBox
import Derived.Test.YthceffkkokgpnaaMvDf
import Derived.Test.YthceffkkokgpnaaMvSpec
import Derived.Test.YthceffkkokgpnaaDrew
import Derived.BigQuiet
import Derived.Test.YthceffkkokgpnaaStTr
import Derived.Test.YthceffkkokgpnaaStTrS
import Derived.Test.YthceffkkokgpnaaStMath
import Derived.Test.YthceffkkokgpnaaSvRet
import Derived.Test.YthceffkkokgpnaaMake
import Derived.Test.YthceffkkokgpnaaLate
import Derived.Test.YthceffkkokgpnaaOnly
import Derived.Laws.CopyOwn
import Derived.Defers
import Derived.Test.YthceffkkokgpnaaShelfMul
import Derived.Laws.MakeOwn
import Derived.Deep.RegionLaw
import Derived.Deep.RegionHeld3
import Derived.Test.YthceffkkokgpnaaChecked
import Derived.Maps.OwnSet
import Derived.DeepKeys4
import Derived.Test.YthceffkkokgpnaaRgnVal
import Derived.RegionTactic
import Derived.Test.YthceffkkokgpnaaSts
import Derived.Test.YthceffkkokgpnaaBox
import Derived.StillTailTactics
namespace Go.Proofs.Ythceffkkokgpnaa
open Go.RowKit
set_option linter.unusedVariables false
set_option linter.unusedSimpArgs false
theorem quietMoreS {P : Program} {f : FuncId} {args : Array Value} {w : World} {a n : Nat} {v : Value} (h : ∀ W : World, Calls P f args W fun e w' => e = .returned v ∧ W = w') :
    Calls P f args (w.drewN (a + n)) fun e w'' => e = .returned v ∧ ∃ m, w'' = w.drewN (a + m) := (h _).mono fun _ _ h9 => ⟨h9.1, n, h9.2.symm⟩
/-- two storms, by value -/
structure Sx2 (w : World) (x0 y0 n0 p0 x1 y1 n1 p1 : Int) (w' : World) : Prop where
  b : Below w.heap.size w w'
  k0 : SBox w' w.heap.size 26 x0 y0 n0 p0
  k1 : SBox w' (w.heap.size + 1) 26 x1 y1 n1 p1
section
variable {w w1 w2 : World} {x0 y0 n0 p0 x1 y1 n1 p1 : Int}
theorem Sx2.new (w : World) (x0 y0 n0 p0 x1 y1 n1 p1 : Int) : Sx2 w x0 y0 n0 p0 x1 y1 n1 p1 ((w.alloc (.cells #[.int .i64 x0, .int .i64 y0, .int .i64 n0, .int .i64 p0] 26)).alloc (.cells #[.int .i64 x1, .int .i64 y1, .int .i64 n1, .int .i64 p1] 26)) :=
  ⟨(below_all _ _).alloc (by simp) _, (SBox.new w _ x0 y0 n0 p0).below (below_all _ _), by have h := SBox.new (w.alloc (.cells #[.int .i64 x0, .int .i64 y0, .int .i64 n0, .int .i64 p0] 26)) 26 x1 y1 n1 p1; rw [World.size_alloc] at h; exact h⟩
theorem Sx2.step (h : Sx2 w x0 y0 n0 p0 x1 y1 n1 p1 w1) (b : Below w1.heap.size w1 w2) : Sx2 w x0 y0 n0 p0 x1 y1 n1 p1 w2 := ⟨below_then h.b b, h.k0.below b, h.k1.below b⟩
end
theorem szS_two (u v : Int) : szS [u, v] = max u (-u) + max v (-v) := by unfold szS; simp
set_option maxRecDepth 100000 in
set_option maxHeartbeats 4000000 in
theorem specDs_any (x0 y0 n0 p0 x1 y1 n1 p1 : Int) (w : World) (hx : 0 ≤ x0 ∧ x0 ≤ 7) (hy : 0 ≤ y0 ∧ y0 ≤ 7) (kx : 0 ≤ x1 ∧ x1 ≤ 7) (ky : 0 ≤ y1 ∧ y1 ≤ 7) :
    Calls Try.prog 72 #[.agg #[.int .i64 x0, .int .i64 y0, .int .i64 n0, .int .i64 p0], .agg #[.int .i64 x1, .int .i64 y1, .int .i64 n1, .int .i64 p1]] w fun e w' => e = .returned (.int .i64 (dsB (x0, y0, n0, p0) (x1, y1, n1, p1))) ∧ Below w.heap.size w w' := by
  have F0 := Lib.hid (Sx2.new w x0 y0 n0 p0 x1 y1 n1 p1)
  have g1 := IntWalk.i64_in (x0 - x1) (by omega)
  have g2 := IntWalk.i64_in (y0 - y1) (by omega)
  have HA := Lib.hid (fun W => specAbs_is (x0 - x1) W (by omega))
  have HB := Lib.hid (fun W => specAbs_is (y0 - y1) W (by omega))
  show Calls _ _ _ _ fun e w' => e = .returned (.int .i64 (max (x0 - x1) (-(x0 - x1)) + max (y0 - y1) (-(y0 - y1)))) ∧ _
  have m1 : 0 ≤ max (x0 - x1) (-(x0 - x1)) ∧ max (x0 - x1) (-(x0 - x1)) ≤ 7 := by omega
  have m2 : 0 ≤ max (y0 - y1) (-(y0 - y1)) ∧ max (y0 - y1) (-(y0 - y1)) ≤ 7 := by omega
  generalize max (x0 - x1) (-(x0 - x1)) = u at *
  generalize max (y0 - y1) (-(y0 - y1)) = v at *
  clear hx hy kx ky
  have g3 := IntWalk.i64_in (u + v) (by omega)
  obtain ⟨W1, hW1⟩ : ∃ x, (w.alloc (.cells #[.int .i64 x0, .int .i64 y0, .int .i64 n0, .int .i64 p0] 26)).alloc (.cells #[.int .i64 x1, .int .i64 y1, .int .i64 n1, .int .i64 p1] 26) = x := ⟨_, rfl⟩
  rw [hW1] at F0
  have HW := Lib.hid hW1
  clear hW1
  go_enter Try.func72, Try.ntmps72
  go_wp2_with fail
  rw [HW.out]
  obtain ⟨a0, a1, a2, a3⟩ := F0.out.k0.cells
  obtain ⟨c0, c1, c2, c3⟩ := F0.out.k1.cells
  go_quiet ((go_at_call 126; first | exact Calls.quiet_of_same (quietSame (HA.out _)) | exact Calls.quiet_of_same (quietSame (HB.out _)) | exact quietMoreS HA.out | exact quietMoreS HB.out))
  clear a0 a1 a2 a3 c0 c1 c2 c3
  go_wp2
  go_ret
  exact ⟨rfl, below_drewN F0.out.b _⟩
set_option maxRecDepth 100000 in
set_option maxHeartbeats 4000000 in
theorem specStD_any (x0 y0 n0 p0 x1 y1 n1 p1 : Int) (w : World) :
    Calls Try.prog 14 #[.agg #[.int .i64 x0, .int .i64 y0, .int .i64 n0, .int .i64 p0], .agg #[.int .i64 x1, .int .i64 y1, .int .i64 n1, .int .i64 p1]] w fun e w' => e = .returned (.tuple #[.int .i64 (if (stB x0 y0 n0 p0 && stB x1 y1 n1 p1) = true then dsB (x0, y0, n0, p0) (x1, y1, n1, p1) else 0), .bool (stB x0 y0 n0 p0 && stB x1 y1 n1 p1)]) ∧ Below w.heap.size w w' := by
  have F0 := Lib.hid (Sx2.new w x0 y0 n0 p0 x1 y1 n1 p1)
  have HA := Lib.hid (fun W => specGood_any x0 y0 n0 p0 W)
  have HB := Lib.hid (fun W => specGood_any x1 y1 n1 p1 W)
  have HD := Lib.hid (fun (h0 : stB x0 y0 n0 p0 = true) (h1 : stB x1 y1 n1 p1 = true) W => specDs_any x0 y0 n0 p0 x1 y1 n1 p1 W (stB_iff.1 h0).1 (stB_iff.1 h0).2.1 (stB_iff.1 h1).1 (stB_iff.1 h1).2.1)
  generalize dsB (x0, y0, n0, p0) (x1, y1, n1, p1) = d at *
  generalize stB x0 y0 n0 p0 = u at *
  generalize stB x1 y1 n1 p1 = v at *
  obtain ⟨W1, hW1⟩ : ∃ x, (w.alloc (.cells #[.int .i64 x0, .int .i64 y0, .int .i64 n0, .int .i64 p0] 26)).alloc (.cells #[.int .i64 x1, .int .i64 y1, .int .i64 n1, .int .i64 p1] 26) = x := ⟨_, rfl⟩
  rw [hW1] at F0
  have HW := Lib.hid hW1
  clear hW1
  cases u with
  | false =>
    go_enter Try.func14, Try.ntmps14
    go_wp2_with fail
    rw [HW.out]
    obtain ⟨a0, a1, a2, a3⟩ := F0.out.k0.cells
    obtain ⟨c0, c1, c2, c3⟩ := F0.out.k1.cells
    go_wp2_with (go_at_call 71; (with_reducible refine (HA.out _).mono ?_); rintro e w2 ⟨rfl, b2⟩; have B2 := Lib.hid b2; clear b2)
    go_ret2
    exact ⟨rfl, below_then F0.out.b B2.out⟩
  | true =>
    cases v with
    | false =>
      go_enter Try.func14, Try.ntmps14
      go_wp2_with fail
      rw [HW.out]
      obtain ⟨a0, a1, a2, a3⟩ := F0.out.k0.cells
      obtain ⟨c0, c1, c2, c3⟩ := F0.out.k1.cells
      go_wp2_with fail
      refine (HA.out _).mono ?_
      rintro e w2 ⟨rfl, b2⟩
      have F2 := Lib.hid (F0.out.step b2)
      clear b2 F0 a0 a1 a2 a3 c0 c1 c2 c3
      obtain ⟨a0, a1, a2, a3⟩ := F2.out.k0.cells
      obtain ⟨c0, c1, c2, c3⟩ := F2.out.k1.cells
      go_wp2_with fail
      refine (HB.out _).mono ?_
      rintro e w3 ⟨rfl, b3⟩
      have F3 := Lib.hid (F2.out.step b3)
      clear b3 F2 a0 a1 a2 a3 c0 c1 c2 c3
      go_wp2
      go_ret2
      exact ⟨rfl, F3.out.b⟩
    | true =>
      go_enter Try.func14, Try.ntmps14
      go_wp2_with fail
      rw [HW.out]
      obtain ⟨a0, a1, a2, a3⟩ := F0.out.k0.cells
      obtain ⟨c0, c1, c2, c3⟩ := F0.out.k1.cells
      go_wp2_with fail
      refine (HA.out _).mono ?_
      rintro e w2 ⟨rfl, b2⟩
      have F2 := Lib.hid (F0.out.step b2)
      clear b2 F0 a0 a1 a2 a3 c0 c1 c2 c3
      obtain ⟨a0, a1, a2, a3⟩ := F2.out.k0.cells
      obtain ⟨c0, c1, c2, c3⟩ := F2.out.k1.cells
      go_wp2_with fail
      refine (HB.out _).mono ?_
      rintro e w3 ⟨rfl, b3⟩
      have F3 := Lib.hid (F2.out.step b3)
      clear b3 F2 a0 a1 a2 a3 c0 c1 c2 c3
      obtain ⟨a0, a1, a2, a3⟩ := F3.out.k0.cells
      obtain ⟨c0, c1, c2, c3⟩ := F3.out.k1.cells
      go_wp2_with fail
      refine (HD.out (by simp) (by simp) _).mono ?_
      rintro e w4 ⟨rfl, b4⟩
      have F4 := Lib.hid (F3.out.step b4)
      clear b4 F3 a0 a1 a2 a3 c0 c1 c2 c3
      go_wp2
      go_ret2
      exact ⟨rfl, F4.out.b⟩
set_option maxRecDepth 100000 in
set_option maxHeartbeats 4000000 in
theorem implStD_any (x0 y0 n0 p0 x1 y1 n1 p1 : Int) (w : World) :
    Calls Try.prog 16 #[.agg #[.int .i64 x0, .int .i64 y0, .int .i64 n0, .int .i64 p0], .agg #[.int .i64 x1, .int .i64 y1, .int .i64 n1, .int .i64 p1]] w fun e w' => e = .returned (.tuple #[.int .i64 (if (stB x0 y0 n0 p0 && stB x1 y1 n1 p1) = true then dsB (x0, y0, n0, p0) (x1, y1, n1, p1) else 0), .bool (stB x0 y0 n0 p0 && stB x1 y1 n1 p1)]) ∧ Below w.heap.size w w' := by
  have F0 := Lib.hid (Sx2.new w x0 y0 n0 p0 x1 y1 n1 p1)
  have HA := Lib.hid (fun W => isStorm_any x0 y0 n0 p0 W)
  have HB := Lib.hid (fun W => isStorm_any x1 y1 n1 p1 W)
  have HQ := Lib.hid (fun (h0 : stB x0 y0 n0 p0 = true) (h1 : stB x1 y1 n1 p1 = true) => And.intro (And.intro (stB_iff.1 h0).1 (stB_iff.1 h0).2.1) (And.intro (stB_iff.1 h1).1 (stB_iff.1 h1).2.1))
  obtain ⟨d, hd⟩ : ∃ d, dsB (x0, y0, n0, p0) (x1, y1, n1, p1) = d := ⟨_, rfl⟩
  have HDS := Lib.hid (show szS [x0 - x1, y0 - y1] = d from (szS_two _ _).trans hd)
  rw [hd]
  clear hd
  generalize stB x0 y0 n0 p0 = u at *
  generalize stB x1 y1 n1 p1 = v at *
  obtain ⟨W1, hW1⟩ : ∃ x, (w.alloc (.cells #[.int .i64 x0, .int .i64 y0, .int .i64 n0, .int .i64 p0] 26)).alloc (.cells #[.int .i64 x1, .int .i64 y1, .int .i64 n1, .int .i64 p1] 26) = x := ⟨_, rfl⟩
  rw [hW1] at F0
  have HW := Lib.hid hW1
  clear hW1
  cases u with
  | false =>
    go_enter Try.func16, Try.ntmps16
    go_wp2_with fail
    rw [HW.out]
    obtain ⟨a0, a1, a2, a3⟩ := F0.out.k0.cells
    obtain ⟨c0, c1, c2, c3⟩ := F0.out.k1.cells
    go_wp2_with (go_at_call 73; (with_reducible refine (HA.out _).mono ?_); rintro e w2 ⟨rfl, b2⟩; have B2 := Lib.hid b2; clear b2)
    go_ret2
    exact ⟨rfl, below_then F0.out.b B2.out⟩
  | true =>
    cases v with
    | false =>
      go_enter Try.func16, Try.ntmps16
      go_wp2_with fail
      rw [HW.out]
      obtain ⟨a0, a1, a2, a3⟩ := F0.out.k0.cells
      obtain ⟨c0, c1, c2, c3⟩ := F0.out.k1.cells
      go_wp2_with fail
      refine (HA.out _).mono ?_
      rintro e w2 ⟨rfl, b2⟩
      have F2 := Lib.hid (F0.out.step b2)
      clear b2 F0 a0 a1 a2 a3 c0 c1 c2 c3
      obtain ⟨a0, a1, a2, a3⟩ := F2.out.k0.cells
      obtain ⟨c0, c1, c2, c3⟩ := F2.out.k1.cells
      go_wp2_with fail
      refine (HB.out _).mono ?_
      rintro e w3 ⟨rfl, b3⟩
      have F3 := Lib.hid (F2.out.step b3)
      clear b3 F2 a0 a1 a2 a3 c0 c1 c2 c3
      go_wp2
      go_ret2
      exact ⟨rfl, F3.out.b⟩
    | true =>
      obtain ⟨⟨hx, hy⟩, kx, ky⟩ := HQ.out rfl rfl
      have g1 := IntWalk.i64_in (x0 - x1) (by omega)
      have g2 := IntWalk.i64_in (y0 - y1) (by omega)
      have HZ := Lib.hid (fun b W (h : Ints .i64 W W.heap.size (some ⟨b, 0, none⟩) [x0 - x1, y0 - y1]) => implSz_any (some ⟨b, 0, none⟩) [x0 - x1, y0 - y1] 2 W h (fun z hz => by
        simp only [List.mem_cons, List.not_mem_nil, or_false] at hz
        omega) (by simp))
      rw [HDS.out] at HZ
      obtain ⟨u1, hu1⟩ : ∃ q, x0 - x1 = q := ⟨_, rfl⟩
      obtain ⟨v1, hv1⟩ : ∃ q, y0 - y1 = q := ⟨_, rfl⟩
      rw [hu1] at g1 HZ
      rw [hv1] at g2 HZ
      have HU := Lib.hid hu1
      have HV := Lib.hid hv1
      clear hx hy kx ky HQ HDS
      go_enter Try.func16, Try.ntmps16
      go_wp2_with fail
      rw [HW.out]
      obtain ⟨a0, a1, a2, a3⟩ := F0.out.k0.cells
      obtain ⟨c0, c1, c2, c3⟩ := F0.out.k1.cells
      go_wp2_with fail
      refine (HA.out _).mono ?_
      rintro e w2 ⟨rfl, b2⟩
      have F2 := Lib.hid (F0.out.step b2)
      clear b2 F0 a0 a1 a2 a3 c0 c1 c2 c3
      obtain ⟨a0, a1, a2, a3⟩ := F2.out.k0.cells
      obtain ⟨c0, c1, c2, c3⟩ := F2.out.k1.cells
      go_wp2_with fail
      refine (HB.out _).mono ?_
      rintro e w3 ⟨rfl, b3⟩
      have F3 := Lib.hid (F2.out.step b3)
      clear b3 F2 a0 a1 a2 a3 c0 c1 c2 c3
      obtain ⟨a0, a1, a2, a3⟩ := F3.out.k0.cells
      obtain ⟨c0, c1, c2, c3⟩ := F3.out.k1.cells
      go_wp2_with fail
      have HI := Lib.hid (show Ints .i64 (w3.alloc (.cells #[.int .i64 u1, .int .i64 v1] 3)) (w3.alloc (.cells #[.int .i64 u1, .int .i64 v1] 3)).heap.size (some ⟨w3.heap.size, 0, none⟩) [u1, v1] from
        .inr ⟨w3.heap.size, 0, rfl, by simp, fun j hj => by
          match j, hj with
          | 0, _ => simp [go_sem]
          | 1, _ => simp [go_sem]⟩)
      refine (HZ.out _ _ HI.out).mono ?_
      rintro e w4 ⟨rfl, rfl⟩
      clear a0 a1 a2 a3 c0 c1 c2 c3
      go_wp2
      go_ret2
      exact ⟨rfl, F3.out.b.alloc F3.out.b.size _⟩
end Go.Proofs.Ythceffkkokgpnaa
namespace Go.Proofs.Ythceffkkokgpnaa
open Go.RowKit
set_option linter.unusedVariables false
set_option linter.unusedSimpArgs false
def tcB (a b : List StT) (t : List Int) (p : Int) : Bool := trB a b t && pnB p
def tcV (a b : List StT) (t : List Int) (p : Int) : Int := if tcB a b t p = true then tcC a b t p else 0
theorem tcV_no {a b : List StT} {t : List Int} {p : Int} (h : tcB a b t p = false) : tcV a b t p = 0 := if_neg (by rw [h]; simp)
theorem tcV_yes {a b : List StT} {t : List Int} {p : Int} (h : tcB a b t p = true) : tcV a b t p = tcC a b t p := if_pos h
theorem tcB_tr {a b : List StT} {t : List Int} {p : Int} (h : trB a b t = false) : tcB a b t p = false := by unfold tcB; rw [h]; rfl
theorem tcB_pn {a b : List StT} {t : List Int} {p : Int} (h : pnB p = false) : tcB a b t p = false := by unfold tcB; rw [h, Bool.and_false]
theorem tcB_yes {a b : List StT} {t : List Int} {p : Int} (h : trB a b t = true) (h2 : pnB p = true) : tcB a b t p = true := by unfold tcB; rw [h, h2]; rfl
theorem tr_ind {a b : List StT} {t : List Int} (h : trB a b t = true) {k : Nat} (hk : k < t.length) : -1 ≤ t[k] ∧ t[k] < (b.length : Int) := (trs_at (tr_parts h).2.2.2 hk).1
theorem oneC_none {a b : List StT} {t : List Int} {p : Int} {k : Nat} (hk : k < t.length) (h : t[k] = -1) : oneC a b t p k = p := by
  unfold oneC; rw [getD_int t hk, h]; rfl
theorem oneC_some {a b : List StT} {t : List Int} {p : Int} {k n : Nat} (hk : k < t.length) (h : t[k] = (n : Int)) (ha : k < a.length) (hb : n < b.length) : oneC a b t p k = dsB a[k] b[n] - p := by
  unfold oneC; rw [getD_int t hk, h, if_neg (by omega), getD_st a ha, show ((n : Int)).toNat = n from rfl, getD_st b hb]
theorem tc_bd {a b : List StT} {t : List Int} {p : Int} (h : trB a b t = true) (hp : 0 ≤ p ∧ p ≤ 20) {k : Nat} (hk : k ≤ a.length) : (-100 ≤ tcK a b t p k ∧ tcK a b t p k ≤ 200) ∧ -100 ≤ tiK a b t p k ∧ tiK a b t p k ≤ 300 := by
  obtain ⟨ha, hb, hl, hts⟩ := tr_parts h
  have h1 := tcK_bd ha hb hp (fun j hj => by rw [getD_int t (by omega)]; exact (trs_at hts (by omega)).1.2) k hk
  have h2 := sts_len ha
  have h3 := ti_tc a b t p k
  have h4 : 0 ≤ ((a.length : Int) - (k : Int)) * p := Int.mul_nonneg (by omega) hp.1
  have h5 : ((a.length : Int) - (k : Int)) * p ≤ 5 * 20 := Int.mul_le_mul (by omega) hp.2 hp.1 (by omega)
  omega
set_option maxRecDepth 100000 in
set_option maxHeartbeats 8000000 in
theorem implTC_any (aa : Option Addr) (la : List StT) (ca : Nat) (ab : Option Addr) (lb : List StT) (cb : Nat) (at_ : Option Addr) (t : List Int) (ct : Nat) (p : Int) (w : World) (h1 : Sts w w.heap.size aa la) (h2 : Sts w w.heap.size ab lb) (h3 : Ints .i64 w w.heap.size at_ t) (n1 : la.length ≤ 1048576) (n2 : lb.length ≤ 1048576) (n3 : t.length ≤ 1048576) (hc : t.length ≤ ct) :
    Calls Try.prog 21 #[.slice aa la.length ca, .slice ab lb.length cb, .slice at_ t.length ct, .int .i64 p] w fun e w' => e = .returned (.tuple #[.int .i64 (tcV la lb t p), .bool (tcB la lb t p)]) ∧ Below w.heap.size w w' := by
  have HT := Lib.hid (fun v (hv : trB la lb t = v) => isTr_any aa la ca ab lb cb at_ t ct v w h1 h2 h3 n1 n2 n3 hc hv)
  have HP := Lib.hid (fun v (hv : pnB p = v) W => isPen_is p v W hv)
  have H1 := Lib.hid h1
  have H2 := Lib.hid h2
  have H3 := Lib.hid h3
  clear h1 h2 h3
  cases ht : trB la lb t with
  | false =>
    have HE := Lib.hid (tcB_tr (p := p) ht)
    rw [tcV_no HE.out, HE.out]
    have HT1 := Lib.hid (HT.out false ht)
    clear HT ht
    go_enter Try.func21, Try.ntmps21
    go_wp2_with (go_at_call 78; (with_reducible refine (HT1.out).mono ?_); rintro e w1 ⟨rfl, b1⟩; have B1 := Lib.hid b1; clear b1)
    go_ret2
    exact ⟨rfl, B1.out⟩
  | true =>
    have HT1 := Lib.hid (HT.out true ht)
    cases hp : pnB p with
    | false =>
      have HE := Lib.hid (tcB_pn (a := la) (b := lb) (t := t) hp)
      rw [tcV_no HE.out, HE.out]
      have HP1 := Lib.hid (HP.out false hp)
      clear HT ht hp HP
      go_enter Try.func21, Try.ntmps21
      go_wp2_with (first | (go_at_call 78; (with_reducible refine (HT1.out).mono ?_); rintro e w1 ⟨rfl, b1⟩; have B1 := Lib.hid b1; clear b1) | (go_at_call 79; (with_reducible refine (HP1.out _).mono ?_); rintro e w2 ⟨rfl, rfl⟩))
      go_ret2
      exact ⟨rfl, B1.out⟩
    | true =>
      have HE := Lib.hid (tcB_yes ht hp)
      have HTR := Lib.hid ht
      rw [tcV_yes HE.out, HE.out]
      have HP1 := Lib.hid (HP.out true hp)
      have hp2 := pnB_iff.1 hp
      obtain ⟨ha, hb, hl, hts⟩ := tr_parts ht
      have HAA := Lib.hid ha
      have HBB := Lib.hid hb
      have HLL := Lib.hid hl
      have la5 := sts_len ha
      have lb5 := sts_len hb
      have HTI := Lib.hid (ti_end (b := lb) (p := p) hl)
      have HZ := Lib.hid (show ((la.length : Int) + (lb.length : Int)) * p = tiK la lb t p 0 from rfl)
      have HBD := Lib.hid (fun k (hk : k ≤ la.length) => (tc_bd (k := k) ht hp2 hk).2)
      have hz0 := HBD.out 0 (by omega)
      generalize tcC la lb t p = cend at *
      obtain ⟨z0, hz⟩ : ∃ z, tiK la lb t p 0 = z := ⟨_, rfl⟩
      rw [hz] at hz0 HZ
      have HZZ := Lib.hid hz
      have hadd := IntWalk.i64_in ((la.length : Int) + (lb.length : Int)) (by omega)
      have hmul : IntKind.i64.wrap (((la.length : Int) + (lb.length : Int)) * p) = z0 := by rw [HZ.out]; exact IntWalk.i64_in _ (by omega)
      have h2p := IntWalk.i64_in (2 * p) (by omega)
      have hlt5 : t.length ≤ 5 := by omega
      clear HT ht hp HP ha hb hl hts hz
      go_enter Try.func21, Try.ntmps21
      go_wp2_with (first | (go_at_call 78; (with_reducible refine (HT1.out).mono ?_); rintro e w1 ⟨rfl, b1⟩; have B1 := Lib.hid b1; clear b1) | (go_at_call 79; (with_reducible refine (HP1.out _).mono ?_); rintro e w2 ⟨rfl, rfl⟩))
      clear hmul hadd
      go_loopw [10, 34] (fun c i wr => ∃ k : Nat, k ≤ t.length ∧ i = .int .i64 k ∧ c = .int .i64 (tiK la lb t p k) ∧ Below w.heap.size w wr) (fun _ i _ => t.length - (intOf i).toNat)
      case atStart => exact ⟨0, Nat.zero_le _, rfl, by rw [HZZ.out], B1.out⟩
      case round =>
        obtain ⟨k, hk, rfl, rfl, hB⟩ := hrel
        have HBR := Lib.hid hB
        have HR := Lib.hid (HBD.out k (by have := HLL.out; omega))
        by_cases hlt : k < t.length
        · obtain ⟨b, o, rfl, hb9, hc9⟩ := (H3.out.below hB (Nat.le_refl _)).at_ hlt
          have hi : (k : Int) < (t.length : Int) := by omega
          have hi0 : (0 : Int) ≤ (k : Int) := by omega
          have hka : k < la.length := by have := HLL.out; omega
          have hia : (k : Int) < (la.length : Int) := by omega
          have HN := Lib.hid (show tiK la lb t p (k + 1) = tiK la lb t p k + (oneC la lb t p k - p) from rfl)
          have HR2 := Lib.hid (HBD.out (k + 1) (by omega))
          obtain ⟨zlo, zhi⟩ := tr_ind HTR.out hlt
          have HON := Lib.hid (fun (e : t[k] = -1) => oneC_none (a := la) (b := lb) (p := p) hlt e)
          have HOS := Lib.hid (fun (n : Nat) (e : t[k] = (n : Int)) (hb : n < lb.length) => oneC_some (p := p) hlt e hka hb)
          obtain ⟨q0, hq0⟩ : ∃ q, tiK la lb t p k = q := ⟨_, rfl⟩
          obtain ⟨q1, hq1⟩ : ∃ q, tiK la lb t p (k + 1) = q := ⟨_, rfl⟩
          rw [hq0] at HR HN
          rw [hq1] at HR2 HN
          rw [hq0]
          have HQ1 := Lib.hid hq1
          clear hq0 hq1
          generalize oneC la lb t p k = oc at *
          generalize t[k] = z at *
          by_cases hz : z = -1
          · subst hz
            have HF := Lib.hid (show q1 = q0 from by have := HON.out rfl; have := HN.out; omega)
            clear HON HOS hB
            go_wp2
            go_roundw
            case rel => exact ⟨k + 1, by omega, by go_num, by rw [HQ1.out, HF.out], HBR.out⟩
            case measure => simp [intOf]; omega
          · have hne : (z != -1) = true := by simp [hz]
            obtain ⟨n, rfl⟩ : ∃ n : Nat, z = (n : Int) := ⟨z.toNat, by omega⟩
            have hnb : n < lb.length := by omega
            have hjb : (n : Int) < (lb.length : Int) := by omega
            have hjb0 : (0 : Int) ≤ (n : Int) := by omega
            obtain ⟨b1, o1, rfl, hb1, c0, c1, c2, c3⟩ := (H1.out.below hB (Nat.le_refl _)).at_ hka
            obtain ⟨b2, o2, rfl, hb2, d0, d1, d2, d3⟩ := (H2.out.below hB (Nat.le_refl _)).at_ hnb
            have HDB := Lib.hid (dsB_bd (sts_ok HAA.out hka) (sts_ok HBB.out hnb))
            have HO := Lib.hid (HOS.out n rfl hnb)
            have hs1 := sts_ok HAA.out hka
            have hs2 := sts_ok HBB.out hnb
            generalize la[k] = s1 at *
            generalize lb[n] = s2 at *
            obtain ⟨x0, y0, m0, p0⟩ := s1
            obtain ⟨x1, y1, m1, p1⟩ := s2
            simp only at c0 c1 c2 c3 d0 d1 d2 d3
            have HD := Lib.hid (fun W => implStD_any x0 y0 m0 p0 x1 y1 m1 p1 W)
            rw [show stB x0 y0 m0 p0 = true from hs1, show stB x1 y1 m1 p1 = true from hs2] at HD
            rw [show (true && true) = true from rfl, if_pos rfl] at HD
            generalize dsB (x0, y0, m0, p0) (x1, y1, m1, p1) = d at *
            have hd := HDB.out
            have hr := HR.out
            have hr2 := HR2.out
            have HF := Lib.hid (show q1 = q0 + (d - 2 * p) from by have := HO.out; have := HN.out; omega)
            have hw1 := IntWalk.i64_in (d - 2 * p) (by omega)
            have hw2 := IntWalk.i64_in (q0 + (d - 2 * p)) (by rw [← HF.out]; omega)
            have hsz := hB.size
            have e0 := later_cell c0 (by omega)
            have e1 := later_cell c1 (by omega)
            have e2 := later_cell c2 (by omega)
            have e3 := later_cell c3 (by omega)
            have f0 := later_cell d0 (by omega)
            have f1 := later_cell d1 (by omega)
            have f2 := later_cell d2 (by omega)
            have f3 := later_cell d3 (by omega)
            clear c0 c1 c2 c3 d0 d1 d2 d3 HON HOS hB hs1 hs2 hd hr hr2 hsz hz
            go_wp2_with fail
            refine wp_region_later (by kernel_rfl) (by kernel_rfl) ?_
            repeat (go_big_quiet_step ((go_at_call 16; exact calls_later (HD.out _))))
            refine wpQuiet_nil ?_
            intro _ hw'
            obtain ⟨pq, hw''⟩ := hw'
            subst hw''
            have B2 := Lib.hid (HBR.out.trans (pq.below.mono HBR.out.size))
            clear e0 e1 e2 e3 f0 f1 f2 f3
            go_wp2
            go_roundw
            case rel => exact ⟨k + 1, by omega, by go_num, by rw [HQ1.out, HF.out], B2.out⟩
            case measure => simp [intOf]; omega
        · obtain rfl : k = t.length := by omega
          have HX := Lib.hid (show tiK la lb t p t.length = cend from by rw [HLL.out]; exact HTI.out)
          rw [HX.out]
          clear hB
          go_wp2
          go_ret2
          exact ⟨rfl, HBR.out⟩
end Go.Proofs.Ythceffkkokgpnaa
namespace Go.Proofs.Ythceffkkokgpnaa
open Go.RowKit
set_option linter.unusedVariables false
set_option linter.unusedSimpArgs false
set_option maxRecDepth 100000 in
set_option maxHeartbeats 8000000 in
theorem specCost_any (aa : Option Addr) (la : List StT) (ca : Nat) (ab : Option Addr) (lb : List StT) (cb : Nat) (at_ : Option Addr) (t : List Int) (ct : Nat) (p : Int) (w : World) (h1 : Sts w w.heap.size aa la) (h2 : Sts w w.heap.size ab lb) (h3 : Ints .i64 w w.heap.size at_ t) (htr : trB la lb t = true) (hp2 : 0 ≤ p ∧ p ≤ 20) :
    Calls Try.prog 77 #[.slice aa la.length ca, .slice ab lb.length cb, .slice at_ t.length ct, .int .i64 p] w fun e w' => e = .returned (.int .i64 (tcC la lb t p)) ∧ Below w.heap.size w w' := by
  have H1 := Lib.hid h1
  have H2 := Lib.hid h2
  have H3 := Lib.hid h3
  obtain ⟨ha, hb, hl, hts⟩ := tr_parts htr
  have HTR := Lib.hid htr
  have HAA := Lib.hid ha
  have HBB := Lib.hid hb
  have HLL := Lib.hid hl
  have la5 := sts_len ha
  have lb5 := sts_len hb
  have HTI := Lib.hid (show tcK la lb t p t.length = tcC la lb t p from rfl)
  have HZ := Lib.hid (show p * (lb.length : Int) = tcK la lb t p 0 from rfl)
  have HBD := Lib.hid (fun k (hk : k ≤ la.length) => (tc_bd (k := k) htr hp2 hk).1)
  have hz0 := HBD.out 0 (by omega)
  generalize tcC la lb t p = cend at *
  obtain ⟨z0, hz⟩ : ∃ z, tcK la lb t p 0 = z := ⟨_, rfl⟩
  rw [hz] at hz0 HZ
  have HZZ := Lib.hid hz
  have hmul : IntKind.i64.wrap (p * (lb.length : Int)) = z0 := by rw [HZ.out]; exact IntWalk.i64_in _ (by omega)
  have hlt5 : t.length ≤ 5 := by omega
  clear ha hb hl hts hz h1 h2 h3 htr
  go_enter Try.func77, Try.ntmps77
  go_wp2
  clear hmul
  go_loopw [9, 10] (fun c i wr => ∃ k : Nat, k ≤ t.length ∧ i = .int .i64 k ∧ c = .int .i64 (tcK la lb t p k) ∧ Below w.heap.size w wr) (fun _ i _ => t.length - (intOf i).toNat)
  case atStart => exact ⟨0, Nat.zero_le _, rfl, by rw [HZZ.out], Below.refl _ _⟩
  case round =>
    obtain ⟨k, hk, rfl, rfl, hB⟩ := hrel
    have HBR := Lib.hid hB
    have HR := Lib.hid (HBD.out k (by have := HLL.out; omega))
    by_cases hlt : k < t.length
    · obtain ⟨b, o, rfl, hb9, hc9⟩ := (H3.out.below hB (Nat.le_refl _)).at_ hlt
      have hi : (k : Int) < (t.length : Int) := by omega
      have hi0 : (0 : Int) ≤ (k : Int) := by omega
      have hka : k < la.length := by have := HLL.out; omega
      have hia : (k : Int) < (la.length : Int) := by omega
      have HN := Lib.hid (show tcK la lb t p (k + 1) = tcK la lb t p k + oneC la lb t p k from rfl)
      have HR2 := Lib.hid (HBD.out (k + 1) (by omega))
      obtain ⟨zlo, zhi⟩ := tr_ind HTR.out hlt
      have HON := Lib.hid (fun (e : t[k] = -1) => oneC_none (a := la) (b := lb) (p := p) hlt e)
      have HOS := Lib.hid (fun (n : Nat) (e : t[k] = (n : Int)) (hb : n < lb.length) => oneC_some (p := p) hlt e hka hb)
      obtain ⟨q0, hq0⟩ : ∃ q, tcK la lb t p k = q := ⟨_, rfl⟩
      obtain ⟨q1, hq1⟩ : ∃ q, tcK la lb t p (k + 1) = q := ⟨_, rfl⟩
      rw [hq0] at HR HN
      rw [hq1] at HR2 HN
      rw [hq0]
      have HQ1 := Lib.hid hq1
      clear hq0 hq1
      generalize oneC la lb t p k = oc at *
      generalize t[k] = z at *
      by_cases hz : z = -1
      · subst hz
        have HF := Lib.hid (show q1 = q0 + p from by have := HON.out rfl; have := HN.out; omega)
        have hr := HR.out
        have hw2 := IntWalk.i64_in (q0 + p) (by omega)
        clear HON HOS hB
        go_wp2
        go_roundw
        case rel => exact ⟨k + 1, by omega, by go_num, by rw [HQ1.out, HF.out], HBR.out⟩
        case measure => simp [intOf]; omega
      · obtain ⟨n, rfl⟩ : ∃ n : Nat, z = (n : Int) := ⟨z.toNat, by omega⟩
        have hneg : ¬ (n : Int) < 0 := by omega
        have hnb : n < lb.length := by omega
        have hjb : (n : Int) < (lb.length : Int) := by omega
        have hjb0 : (0 : Int) ≤ (n : Int) := by omega
        obtain ⟨b1, o1, rfl, hb1, c0, c1, c2, c3⟩ := (H1.out.below hB (Nat.le_refl _)).at_ hka
        obtain ⟨b2, o2, rfl, hb2, d0, d1, d2, d3⟩ := (H2.out.below hB (Nat.le_refl _)).at_ hnb
        have HDB := Lib.hid (dsB_bd (sts_ok HAA.out hka) (sts_ok HBB.out hnb))
        have HO := Lib.hid (HOS.out n rfl hnb)
        have hs1 := sts_ok HAA.out hka
        have hs2 := sts_ok HBB.out hnb
        generalize la[k] = s1 at *
        generalize lb[n] = s2 at *
        obtain ⟨x0, y0, m0, p0⟩ := s1
        obtain ⟨x1, y1, m1, p1⟩ := s2
        simp only at c0 c1 c2 c3 d0 d1 d2 d3
        have hs1' := stB_iff.1 (show stB x0 y0 m0 p0 = true from hs1)
        have hs2' := stB_iff.1 (show stB x1 y1 m1 p1 = true from hs2)
        have HD := Lib.hid (fun W => specDs_any x0 y0 m0 p0 x1 y1 m1 p1 W hs1'.1 hs1'.2.1 hs2'.1 hs2'.2.1)
        generalize dsB (x0, y0, m0, p0) (x1, y1, m1, p1) = d at *
        have hd := HDB.out
        have hr := HR.out
        have hr2 := HR2.out
        have HF := Lib.hid (show q1 = q0 + d - p from by have := HO.out; have := HN.out; omega)
        have hw1 := IntWalk.i64_in (q0 + d) (by omega)
        have hw2 := IntWalk.i64_in (q0 + d - p) (by rw [← HF.out]; omega)
        have hsz := hB.size
        have e9 := later_cell hc9 (by omega)
        have e0 := later_cell c0 (by omega)
        have e1 := later_cell c1 (by omega)
        have e2 := later_cell c2 (by omega)
        have e3 := later_cell c3 (by omega)
        have f0 := later_cell d0 (by omega)
        have f1 := later_cell d1 (by omega)
        have f2 := later_cell d2 (by omega)
        have f3 := later_cell d3 (by omega)
        clear c0 c1 c2 c3 d0 d1 d2 d3 HON HOS hB hs1 hs2 hs1' hs2' hd hr hr2 hsz hz
        go_wp2_with fail
        refine wp_region_later (by kernel_rfl) (by kernel_rfl) ?_
        repeat (go_big_quiet_step ((go_at_call 72; exact calls_later (HD.out _))))
        refine wpQuiet_nil ?_
        intro _ hw'
        obtain ⟨pq, hw''⟩ := hw'
        subst hw''
        have B2 := Lib.hid (HBR.out.trans (pq.below.mono HBR.out.size))
        clear e0 e1 e2 e3 f0 f1 f2 f3 e9
        go_wp2
        go_roundw
        case rel => exact ⟨k + 1, by omega, by go_num, by rw [HQ1.out, HF.out], B2.out⟩
        case measure => simp [intOf]; omega
    · obtain rfl : k = t.length := by omega
      rw [HTI.out]
      clear hB
      go_wp2
      go_ret
      exact ⟨rfl, HBR.out⟩
set_option maxRecDepth 100000 in
set_option maxHeartbeats 8000000 in
theorem specTC_any (aa : Option Addr) (la : List StT) (ca : Nat) (ab : Option Addr) (lb : List StT) (cb : Nat) (at_ : Option Addr) (t : List Int) (ct : Nat) (p : Int) (w : World) (h1 : Sts w w.heap.size aa la) (h2 : Sts w w.heap.size ab lb) (h3 : Ints .i64 w w.heap.size at_ t) (n1 : la.length ≤ 1048576) (n2 : lb.length ≤ 1048576) (n3 : t.length ≤ 1048576) (hc : t.length ≤ ct) :
    Calls Try.prog 18 #[.slice aa la.length ca, .slice ab lb.length cb, .slice at_ t.length ct, .int .i64 p] w fun e w' => e = .returned (.tuple #[.int .i64 (tcV la lb t p), .bool (tcB la lb t p)]) ∧ Below w.heap.size w w' := by
  have HT := Lib.hid (fun v (hv : trB la lb t = v) => specTr_any aa la ca ab lb cb at_ t ct v w h1 h2 h3 n1 n2 n3 hc hv)
  have HP := Lib.hid (fun v (hv : pnB p = v) W => specPen_is p v W hv)
  have HC := Lib.hid (fun (htr : trB la lb t = true) (hp2 : 0 ≤ p ∧ p ≤ 20) W (B : Below w.heap.size w W) => specCost_any aa la ca ab lb cb at_ t ct p W ((h1.below B (Nat.le_refl _)).more B.size) ((h2.below B (Nat.le_refl _)).more B.size) ((h3.below B (Nat.le_refl _)).more B.size) htr hp2)
  clear h1 h2 h3
  cases ht : trB la lb t with
  | false =>
    have HE := Lib.hid (tcB_tr (p := p) ht)
    rw [tcV_no HE.out, HE.out]
    have HT1 := Lib.hid (HT.out false ht)
    clear HT ht
    go_enter Try.func18, Try.ntmps18
    go_wp2_with (go_at_call 75; (with_reducible refine (HT1.out).mono ?_); rintro e w1 ⟨rfl, b1⟩; have B1 := Lib.hid b1; clear b1)
    go_ret2
    exact ⟨rfl, B1.out⟩
  | true =>
    have HT1 := Lib.hid (HT.out true ht)
    cases hp : pnB p with
    | false =>
      have HE := Lib.hid (tcB_pn (a := la) (b := lb) (t := t) hp)
      rw [tcV_no HE.out, HE.out]
      have HP1 := Lib.hid (HP.out false hp)
      clear HT ht hp HP
      go_enter Try.func18, Try.ntmps18
      go_wp2_with (first | (go_at_call 75; (with_reducible refine (HT1.out).mono ?_); rintro e w1 ⟨rfl, b1⟩; have B1 := Lib.hid b1; clear b1) | (go_at_call 76; (with_reducible refine (HP1.out _).mono ?_); rintro e w2 ⟨rfl, rfl⟩))
      go_ret2
      exact ⟨rfl, B1.out⟩
    | true =>
      have HE := Lib.hid (tcB_yes ht hp)
      rw [tcV_yes HE.out, HE.out]
      have HP1 := Lib.hid (HP.out true hp)
      have HC1 := Lib.hid (HC.out ht (pnB_iff.1 hp))
      clear HT ht hp HP HC
      generalize tcC la lb t p = cend at *
      go_enter Try.func18, Try.ntmps18
      go_wp2_with (first | (go_at_call 75; (with_reducible refine (HT1.out).mono ?_); rintro e w1 ⟨rfl, b1⟩; have B1 := Lib.hid b1; clear b1) | (go_at_call 76; (with_reducible refine (HP1.out _).mono ?_); rintro e w2 ⟨rfl, rfl⟩) | (go_at_call 77; (with_reducible refine (HC1.out _ B1.out).mono ?_); rintro e w3 ⟨rfl, b3⟩; have B3 := Lib.hid b3; clear b3))
      go_ret2
      exact ⟨rfl, below_then B1.out B3.out⟩
end Go.Proofs.Ythceffkkokgpnaa
namespace Go.Proofs.Ythceffkkokgpnaa
set_option linter.unusedVariables false
set_option linter.unusedSimpArgs false
/-- the best of the ways on behind q: none first, then each index that q does not hold -/
def bk (f : List Int → List Int × Int) (q : List Int) : Nat → List Int × Int
  | 0 => f (q ++ [-1])
  | k + 1 => if (k : Int) ∈ q then bk f q k else if (f (q ++ [(k : Int)])).2 < (bk f q k).2 then f (q ++ [(k : Int)]) else bk f q k
/-- the best tracking that continues q by d indices, and its cost -/
def bR (C : List Int → Int) (n : Nat) : Nat → List Int → List Int × Int
  | 0, q => (q, C q)
  | d + 1, q => bk (bR C n d) q n
/-- only a smaller cost is taken -/
def upd (s r : List Int × Int) : List Int × Int := if r.2 < s.2 then r else s
/-- the program's search: the first k indices from -1 on -/
def gk (f : List Int → List Int × Int → List Int × Int) (q : List Int) : Nat → List Int × Int → List Int × Int
  | 0, s => s
  | k + 1, s => if feB q ((k : Int) - 1) = true then f (q ++ [(k : Int) - 1]) (gk f q k s) else gk f q k s
def gR (C : List Int → Int) (n : Nat) : Nat → List Int → List Int × Int → List Int × Int
  | 0, q, s => upd s (q, C q)
  | d + 1, q, s => gk (gR C n d) q (n + 1) s
theorem upd_upd (s x y : List Int × Int) : upd (upd s x) y = upd s (if y.2 < x.2 then y else x) := by
  unfold upd
  by_cases h1 : x.2 < s.2
  · rw [if_pos h1]
    by_cases h2 : y.2 < x.2
    · rw [if_pos h2]; rw [if_pos (show y.2 < s.2 by omega)]
    · rw [if_neg h2]; rw [if_pos h1]
  · rw [if_neg h1]
    by_cases h2 : y.2 < x.2
    · rw [if_pos h2]
    · rw [if_neg h2, if_neg h1, if_neg (by omega)]
theorem feB_nat (q : List Int) (k : Nat) : feB q (k : Int) = !decide ((k : Int) ∈ q) := by
  unfold feB
  rw [decide_eq_false (by omega)]
  rfl
theorem gk_bk {f : List Int → List Int × Int → List Int × Int} {g : List Int → List Int × Int} (h : ∀ q s, f q s = upd s (g q)) (q : List Int) (s : List Int × Int) : ∀ k : Nat, gk f q (k + 1) s = upd s (bk g q k) := by
  intro k
  induction k with
  | zero =>
    show (if feB q (((0 : Nat) : Int) - 1) = true then f (q ++ [((0 : Nat) : Int) - 1]) s else s) = _
    rw [show (((0 : Nat) : Int) - 1) = -1 from rfl, if_pos (feB_none q), h]
    rfl
  | succ k ih =>
    show (if feB q (((k + 1 : Nat) : Int) - 1) = true then f (q ++ [((k + 1 : Nat) : Int) - 1]) (gk f q (k + 1) s) else gk f q (k + 1) s) = _
    rw [show ((k + 1 : Nat) : Int) - 1 = (k : Int) by omega, ih, feB_nat]
    show _ = upd s (if (k : Int) ∈ q then bk g q k else if (g (q ++ [(k : Int)])).2 < (bk g q k).2 then g (q ++ [(k : Int)]) else bk g q k)
    by_cases hk : (k : Int) ∈ q
    · rw [decide_eq_true hk, if_pos hk]; rfl
    · rw [decide_eq_false hk, if_neg hk]
      show f (q ++ [(k : Int)]) (upd s (bk g q k)) = _
      rw [h, upd_upd]
theorem gR_bR (C : List Int → Int) (n : Nat) : ∀ (d : Nat) (q : List Int) (s : List Int × Int), gR C n d q s = upd s (bR C n d q) := by
  intro d
  induction d with
  | zero => intro q s; rfl
  | succ d ih => intro q s; exact gk_bk ih q s n
theorem bk_all {P : List Int × Int → Prop} {f : List Int → List Int × Int} {q : List Int} {n : Nat} (h0 : P (f (q ++ [-1]))) (h : ∀ k : Nat, k < n → ¬ (k : Int) ∈ q → P (f (q ++ [(k : Int)]))) : ∀ k : Nat, k ≤ n → P (bk f q k) := by
  intro k
  induction k with
  | zero => intro _; exact h0
  | succ k ih =>
    intro hk
    unfold bk
    split
    · exact ih (by omega)
    · rename_i hm
      split
      · exact h k (by omega) hm
      · exact ih (by omega)
theorem bR_len (C : List Int → Int) (n : Nat) : ∀ (d : Nat) (q : List Int), (bR C n d q).1.length = q.length + d := by
  intro d
  induction d with
  | zero => intro q; rfl
  | succ d ih => intro q; exact bk_all (P := fun r => r.1.length = q.length + (d + 1)) (by rw [ih]; simp; omega) (fun k _ _ => by rw [ih]; simp; omega) n (Nat.le_refl _)
theorem bR_cost (C : List Int → Int) (n : Nat) : ∀ (d : Nat) (q : List Int), (bR C n d q).2 = C (bR C n d q).1 := by
  intro d
  induction d with
  | zero => intro q; rfl
  | succ d ih => intro q; exact bk_all (P := fun r => r.2 = C r.1) (ih _) (fun k _ _ => ih _) n (Nat.le_refl _)
/-- an index more -/
theorem trs_add {n : Nat} {q : List Int} {x : Int} (h : trsB n q = true) (h1 : -1 ≤ x) (h2 : x < (n : Int)) (h3 : feB q x = true) : trsB n (q ++ [x]) = true := by
  refine trs_all fun j hj => ?_
  rw [okJ_at hj]
  rw [List.length_append, List.length_singleton] at hj
  by_cases hjq : j < q.length
  · rw [List.getElem_append_left hjq, List.take_append_of_le_length (by omega)]
    obtain ⟨⟨g1, g2⟩, g3⟩ := trs_at h hjq
    rw [decide_eq_true g1, decide_eq_true g2, g3]
    rfl
  · obtain rfl : j = q.length := by omega
    rw [List.getElem_append_right (Nat.le_refl _), List.take_append_of_le_length (Nat.le_refl _), List.take_length]
    simp only [Nat.sub_self, List.getElem_cons_zero]
    rw [decide_eq_true h1, decide_eq_true h2, h3]
    rfl
theorem bR_trs (C : List Int → Int) (n : Nat) : ∀ (d : Nat) (q : List Int), trsB n q = true → trsB n (bR C n d q).1 = true := by
  intro d
  induction d with
  | zero => intro q h; exact h
  | succ d ih =>
    intro q h
    exact bk_all (P := fun r => trsB n r.1 = true) (ih _ (trs_add h (by omega) (by omega) (feB_none q))) (fun k hk hm => ih _ (trs_add h (by omega) (by omega) (feB_out hm))) n (Nat.le_refl _)
/-- .. not worse than none on all the way, and equal only if it is that one -/
theorem bR_first (C : List Int → Int) (n : Nat) : ∀ (d : Nat) (q : List Int), (bR C n d q).2 ≤ C (q ++ List.replicate d (-1)) ∧ ((bR C n d q).2 = C (q ++ List.replicate d (-1)) → (bR C n d q).1 = q ++ List.replicate d (-1)) := by
  intro d
  induction d with
  | zero => intro q; rw [List.replicate_zero, List.append_nil]; exact ⟨Int.le_refl _, fun _ => rfl⟩
  | succ d ih =>
    intro q
    have e : q ++ List.replicate (d + 1) (-1) = (q ++ [-1]) ++ List.replicate d (-1) := by rw [List.replicate_succ, List.append_assoc]; rfl
    rw [e]
    have h0 := ih (q ++ [-1])
    show (bk (bR C n d) q n).2 ≤ _ ∧ ((bk (bR C n d) q n).2 = _ → (bk (bR C n d) q n).1 = _)
    generalize C (q ++ [-1] ++ List.replicate d (-1)) = m at *
    generalize q ++ [-1] ++ List.replicate d (-1) = t at *
    have : ∀ k : Nat, (bk (bR C n d) q k).2 ≤ m ∧ ((bk (bR C n d) q k).2 = m → (bk (bR C n d) q k).1 = t) := by
      intro k
      induction k with
      | zero => exact h0
      | succ k ihk =>
        unfold bk
        split
        · exact ihk
        · split
          · rename_i h1 h2
            exact ⟨by omega, fun e => by omega⟩
          · exact ihk
    exact this n
theorem trs_none (n : Nat) : ∀ d : Nat, trsB n (List.replicate d (-1)) = true := by
  intro d
  induction d with
  | zero => rfl
  | succ d ih => rw [List.replicate_succ']; exact trs_add ih (by omega) (by omega) (feB_none _)
/-- the program's search from none on finds the model's -/
theorem gR_best (C : List Int → Int) (n d : Nat) : gR C n d [] (List.replicate d (-1), C (List.replicate d (-1))) = bR C n d [] := by
  rw [gR_bR]
  have h := bR_first C n d []
  have hc := bR_cost C n d []
  rw [List.nil_append] at h
  unfold upd
  split
  · rfl
  · rename_i h1
    have e : (bR C n d []).2 = C (List.replicate d (-1)) := by have := h.1; simp only at h1; omega
    have e2 := h.2 e
    rw [← e2]
    rw [← hc]
end Go.Proofs.Ythceffkkokgpnaa
namespace Go.Proofs.Ythceffkkokgpnaa
open Go.RowKit
/-- a list of numbers, a number and a bool, the list in memory of the call's own -/
def KvRet (r : List Int) (z : Int) (v : Bool) (w : World) (e : Ending) (w' : World) : Prop := ∃ a c, e = .returned (.tuple #[.slice a r.length c, .int .i64 z, .bool v]) ∧ OwnI w' w.heap.size a r ∧ Below w.heap.size w w'
/-- .. the list readable -/
def KsRet (r : List Int) (z : Int) (v : Bool) (w : World) (e : Ending) (w' : World) : Prop := ∃ a c, e = .returned (.tuple #[.slice a r.length c, .int .i64 z, .bool v]) ∧ Ints .i64 w' w'.heap.size a r ∧ Below w.heap.size w w'
end Go.Proofs.Ythceffkkokgpnaa
namespace Go.Proofs.Ythceffkkokgpnaa
set_option linter.unusedVariables false
set_option linter.unusedSimpArgs false
def btB (a b : List StT) (p : Int) : Bool := stsB a && (stsB b && pnB p)
def btF (a b : List StT) (p : Int) : List Int × Int := bR (fun t => tcC a b t p) b.length a.length []
def btR (a b : List StT) (p : Int) : List Int := if btB a b p = true then (btF a b p).1 else []
def btV (a b : List StT) (p : Int) : Int := if btB a b p = true then (btF a b p).2 else 0
theorem btR_no {a b : List StT} {p : Int} (h : btB a b p = false) : btR a b p = [] := if_neg (by rw [h]; simp)
theorem btV_no {a b : List StT} {p : Int} (h : btB a b p = false) : btV a b p = 0 := if_neg (by rw [h]; simp)
theorem btR_yes {a b : List StT} {p : Int} (h : btB a b p = true) : btR a b p = (btF a b p).1 := if_pos h
theorem btV_yes {a b : List StT} {p : Int} (h : btB a b p = true) : btV a b p = (btF a b p).2 := if_pos h
theorem btF_len (a b : List StT) (p : Int) : (btF a b p).1.length = a.length := by unfold btF; rw [bR_len]; simp
theorem bt_parts {a b : List StT} {p : Int} (h : btB a b p = true) : stsB a = true ∧ stsB b = true ∧ pnB p = true := by unfold btB at h; simpa using h
theorem btR_len (a b : List StT) (p : Int) : (btR a b p).length ≤ 5 := by
  cases h : btB a b p with
  | false => rw [btR_no h]; simp
  | true => rw [btR_yes h, btF_len]; exact sts_len (bt_parts h).1
/-- none of all is a tracking, if the arguments are well -/
theorem bt_none (a b : List StT) (p : Int) : tcB a b (List.replicate a.length (-1)) p = btB a b p := by
  unfold tcB btB
  cases ha : stsB a with
  | false => rw [tr_no_a ha]; rfl
  | true =>
    cases hb : stsB b with
    | false => rw [tr_no_b hb]; rfl
    | true => rw [tr_same ha hb (by simp), trs_none]; rfl
theorem bt_start (a b : List StT) (p : Int) : gR (fun t => tcC a b t p) b.length a.length [] (List.replicate a.length (-1), tcC a b (List.replicate a.length (-1)) p) = btF a b p := gR_best (fun t => tcC a b t p) b.length a.length
end Go.Proofs.Ythceffkkokgpnaa
namespace Go.Proofs.Ythceffkkokgpnaa
open Go.RowKit
set_option linter.unusedVariables false
set_option linter.unusedSimpArgs false
theorem ints_srcS {w : World} {B : Nat} {ad : Addr} {l : List Int} (h : Ints .i64 w B (some ad) l) : ∀ j v, (iv l)[j]? = some v → w.cell? (ad.add j) = some v := by
  intro j v hv
  obtain ⟨hj, hv⟩ := List.getElem?_eq_some_iff.1 hv
  rw [iv_length] at hj
  obtain ⟨b, o, e, _, hc⟩ := h.at_ hj
  injection e with e
  subst e
  have e : (⟨b, o, none⟩ : Addr).add j = ⟨b, o + j, none⟩ := by unfold Addr.add; split <;> simp_all
  rw [e, hc, ← hv, iv_get]
set_option maxHeartbeats 1000000 in
theorem ownT_any (ad : Addr) (l : List Int) (c : Nat) (w : World) (hl : Ints .i64 w w.heap.size (some ad) l) (hn : l.length ≤ 1048576) :
    Calls Try.prog 139 #[.slice (some ad) l.length c] w fun e w' => ∃ v, e = .returned v ∧ w'.ownsRow w.heap.size 3 1 v l.length (iv l) ∧ Below w.heap.size w w' := by
  obtain ⟨i0, hi0', hz0, hz1, hz2⟩ := info_parts infoInt
  have HC := Lib.hid (ints_srcS (hl.below (below_all w (.cells #[] 3)) (Nat.le_refl _)))
  have HO := Lib.hid (World.ownsRow_made (base := w.heap.size) (e := 3) (size := 1) w #[] 0 (Nat.le_refl _) (by simp) rfl)
  clear hl
  go_enter Try.func139, Try.ntmps139
  go_wp2_with (at_builtin; refine wpList_append_own _ rfl _ _ 30 rfl w.heap.size 3 i0 (.int .i64 0) 1 8 Try.underlying30 hi0' hz0 hz1 hz2 rfl (by decide) _ 0 [] rfl HO.out ad l.length c (iv l) rfl (by rw [iv_length]; simp) HC.out (iv_one l) (by unfold maxLen; omega) (by omega) (by simp) ?_; intro v' w1 hown' hgrow _; rw [Nat.zero_add, List.nil_append] at hown'; have HB := Lib.hid ((below_all w _).grown hgrow (by simp) (fun k hk => (HO.out.lt k hk).1)); have HO1 := Lib.hid hown'; clear hown' hgrow)
  go_ret
  exact ⟨v', rfl, HO1.out, HB.out⟩
set_option maxRecDepth 100000 in
set_option maxHeartbeats 16000000 in
theorem specBest_any (aa : Option Addr) (la : List StT) (ca : Nat) (ab : Option Addr) (lb : List StT) (cb : Nat) (p : Int) (ha : stsB la = true) (hb : stsB lb = true) (hp : 0 ≤ p ∧ p ≤ 20) :
    ∀ (d : Nat) (q : List Int) (ad : Addr) (ct : Nat) (W : World), q.length + d = la.length → trsB lb.length q = true → Sts W W.heap.size aa la → Sts W W.heap.size ab lb → Ints .i64 W W.heap.size (some ad) q →
    Calls Try.prog 93 #[.slice aa la.length ca, .slice ab lb.length cb, .int .i64 p, .slice (some ad) q.length ct] W fun e w' => ∃ a' c', e = .returned (.tuple #[.slice a' (bR (fun t => tcC la lb t p) lb.length d q).1.length c', .int .i64 (bR (fun t => tcC la lb t p) lb.length d q).2]) ∧ Ints .i64 w' w'.heap.size a' (bR (fun t => tcC la lb t p) lb.length d q).1 ∧ Below W.heap.size W w' := by
  have la5 := sts_len ha
  have lb5 := sts_len hb
  intro d
  induction d with
  | zero =>
    intro q ad ct W hq ht h1 h2 h3
    have HC := Lib.hid (specCost_any aa la ca ab lb cb (some ad) q ct p W h1 h2 h3 ((tr_same ha hb (by omega)).trans ht) hp)
    have H3 := Lib.hid h3
    have heq : ((q.length : Int) == (la.length : Int)) = true := by rw [beq_iff_eq]; omega
    show Calls _ _ _ _ fun e w' => ∃ a' c', e = .returned (.tuple #[.slice a' q.length c', .int .i64 (tcC la lb q p)]) ∧ Ints .i64 w' w'.heap.size a' q ∧ _
    generalize tcC la lb q p = z at *
    clear h1 h2 h3 ha hb ht hq
    go_enter Try.func93, Try.ntmps93
    go_wp2_with (go_at_call 77; (with_reducible refine HC.out.mono ?_); rintro e w1 ⟨rfl, b1⟩; have B1 := Lib.hid b1; clear b1)
    go_ret2
    exact ⟨_, _, rfl, ints_below H3.out B1.out, B1.out⟩
  | succ d ih =>
    intro q ad ct W hq ht h1 h2 h3
    obtain ⟨i0, hi0', hz0, hz1, hz2⟩ := info_parts infoInt
    have HIH := Lib.hid (fun q ad ct W' (G : Below W.heap.size W W') h4 h5 h6 => ih q ad ct W' h4 h5 ((h1.below G (Nat.le_refl _)).more G.size) ((h2.below G (Nat.le_refl _)).more G.size) h6)
    have hne : ((q.length : Int) == (la.length : Int)) = false := by rw [beq_eq_false_iff_ne]; omega
    have H3 := Lib.hid h3
    have HOW := Lib.hid (fun W' (G : Below W.heap.size W W') => ownT_any ad q ct W' ((h3.below G (Nat.le_refl _)).more G.size) (by omega))
    have HHAS := Lib.hid (fun k v W' (G : Below W.heap.size W W') hv => has_is (some ad) q ct W.heap.size k v W' (h3.below G (Nat.le_refl _)) (by omega) hv)
    have HQ := Lib.hid (And.intro hq trivial)
    have HT := Lib.hid ht
    have G0 := Lib.hid (Below.refl W.heap.size W)
    have hq4 : q.length ≤ 4 := by omega
    show Calls _ _ _ _ fun e w' => ∃ a' c', e = .returned (.tuple #[.slice a' (bk (bR (fun t => tcC la lb t p) lb.length d) q lb.length).1.length c', .int .i64 (bk (bR (fun t => tcC la lb t p) lb.length d) q lb.length).2]) ∧ Ints .i64 w' w'.heap.size a' (bk (bR (fun t => tcC la lb t p) lb.length d) q lb.length).1 ∧ _
    generalize bR (fun t => tcC la lb t p) lb.length d = f at *
    clear ih h1 h2 h3 ha hb hq ht
    go_enter Try.func93, Try.ntmps93
    go_wp2_with fail
    refine (HOW.out _ G0.out).mono ?_
    rintro e w1 ⟨v1, rfl, o1, b1⟩
    have O1 := Lib.hid o1
    have B1 := Lib.hid b1
    clear o1 b1
    go_wp2_with (at_builtin; refine wpList_append_own _ rfl _ _ 30 rfl W.heap.size 3 i0 (.int .i64 0) 1 8 Try.underlying30 hi0' hz0 hz1 hz2 rfl (by decide) v1 q.length (iv q) rfl (O1.out.alloc _) ⟨w1.heap.size, 0, none⟩ 1 1 [.int .i64 (-1)] rfl rfl (cell_one_new _ _ _) (by simp [Value.oneCell']) (by unfold maxLen; omega) (by omega) (by have := B1.out.size; simp; omega) ?_; intro v' w2 hown2 hgrow2 _; obtain ⟨g2, c2, rfl⟩ := own_slice hown2 (by omega); have O2 := Lib.hid (ownI_of (l := q ++ [-1]) (by rw [iv_snoc]; exact hown2) (by simp)); have G2 := Lib.hid ((B1.out.alloc B1.out.size _).grown hgrow2 (B1.out.alloc B1.out.size _).size (fun j hj => (O1.out.lt j hj).1)); clear hown2 hgrow2)
    obtain ⟨a9, c9, e9, o9⟩ := O2.out
    injection e9 with e9 e8 e7
    subst e9
    have HI2 := Lib.hid o9.ints
    clear e8 e7 O2 o9
    have hsn : (q ++ [(-1 : Int)]).length = q.length + 1 := by simp
    have HC := Lib.hid (HIH.out (q ++ [-1]) ⟨g2, 0, none⟩ c2 w2 G2.out (by have := HQ.out.1; rw [hsn]; omega) (trs_add HT.out (by omega) (by omega) (feB_none q)) HI2.out)
    rw [hsn] at HC
    refine HC.out.mono ?_
    rintro e w3 ⟨a3, c3, rfl, i3, b3⟩
    have I3 := Lib.hid i3
    have G3 := Lib.hid (below_then G2.out b3)
    clear i3 b3 HI2 HC O1 B1 G2 G0 hsn hne
    go_wp2
    go_loopw [10, 11, 12] (fun bst lst i wr => ∃ k a' c', k ≤ lb.length ∧ i = .int .i64 (k : Nat) ∧ bst = .slice a' (bk f q k).1.length c' ∧ lst = .int .i64 (bk f q k).2 ∧ Ints .i64 wr wr.heap.size a' (bk f q k).1 ∧ Below W.heap.size W wr) (fun _ _ i _ => lb.length - (intOf i).toNat)
    case atStart => exact ⟨0, a3, c3, Nat.zero_le _, rfl, rfl, rfl, I3.out, G3.out⟩
    case round =>
      obtain ⟨k, a', c', hk, rfl, rfl, rfl, hI, hB⟩ := hrel
      have HI := Lib.hid hI
      have HB := Lib.hid hB
      clear hI hB
      by_cases hlt : k < lb.length
      · have hi : (k : Int) < (lb.length : Int) := by omega
        have hi0 : (0 : Int) ≤ (k : Int) := by omega
        have HST := Lib.hid (show bk f q (k + 1) = if (k : Int) ∈ q then bk f q k else if (f (q ++ [(k : Int)])).2 < (bk f q k).2 then f (q ++ [(k : Int)]) else bk f q k from rfl)
        obtain ⟨cur, hcur⟩ : ∃ s, bk f q k = s := ⟨_, rfl⟩
        rw [hcur] at HI HST
        rw [hcur]
        clear hcur
        by_cases hin : (k : Int) ∈ q
        · rw [if_pos hin] at HST
          have HH1 := Lib.hid (HHAS.out (k : Int) true wr HB.out (decide_eq_true hin))
          clear hin
          go_wp2_with (go_at_call 129; (with_reducible refine HH1.out.mono ?_); rintro e w4 ⟨rfl, rfl⟩)
          go_roundw
          case rel => exact ⟨k + 1, a', c', by omega, by go_num, by rw [HST.out], by rw [HST.out], by rw [HST.out]; exact HI.out, HB.out⟩
          case measure => simp [intOf]; omega
        · rw [if_neg hin] at HST
          have HH1 := Lib.hid (HHAS.out (k : Int) false wr HB.out (decide_eq_false hin))
          have HFE := Lib.hid (feB_out hin)
          clear hin
          go_wp2_with (go_at_call 129; (with_reducible refine HH1.out.mono ?_); rintro e w4 ⟨rfl, rfl⟩)
          refine (HOW.out _ HB.out).mono ?_
          rintro e w5 ⟨v5, rfl, o5, b5⟩
          have O5 := Lib.hid o5
          have B5 := Lib.hid b5
          have z5 := b5.size
          clear o5 b5
          go_wp2_with (at_builtin; refine wpList_append_own _ rfl _ _ 30 rfl wr.heap.size 3 i0 (.int .i64 0) 1 8 Try.underlying30 hi0' hz0 hz1 hz2 rfl (by decide) v5 q.length (iv q) rfl (O5.out.alloc _) ⟨w5.heap.size, 0, none⟩ 1 1 [.int .i64 (k : Int)] rfl rfl (cell_one_new _ _ _) (by simp [Value.oneCell']) (by unfold maxLen; omega) (by omega) (by simp; omega) ?_; intro v' w6 hown6 hgrow6 _; obtain ⟨g6, c6, rfl⟩ := own_slice hown6 (by omega); have O6 := Lib.hid (ownI_of (l := q ++ [(k : Int)]) (by rw [iv_snoc]; exact hown6) (by simp)); have K6 := Lib.hid ((B5.out.alloc B5.out.size (.cells #[.int .i64 (k : Int)] 3)).grown hgrow6 (B5.out.alloc B5.out.size _).size (fun j hj => (O5.out.lt j hj).1)); clear hown6 hgrow6)
          obtain ⟨a9, c9, e9, o9⟩ := O6.out
          injection e9 with e9 e8 e7
          subst e9
          have HI6 := Lib.hid o9.ints
          have G6 := Lib.hid (HB.out.trans (K6.out.mono HB.out.size))
          have J6 := Lib.hid ((HI.out.below K6.out (Nat.le_refl _)).more K6.out.size)
          clear e8 e7 O6 o9
          have hsn : (q ++ [(k : Int)]).length = q.length + 1 := by simp
          have HC := Lib.hid (HIH.out (q ++ [(k : Int)]) ⟨g6, 0, none⟩ c6 w6 G6.out (by have := HQ.out.1; rw [hsn]; omega) (trs_add HT.out (by omega) (by omega) HFE.out) HI6.out)
          rw [hsn] at HC
          obtain ⟨new, hnew⟩ : ∃ s, f (q ++ [(k : Int)]) = s := ⟨_, rfl⟩
          rw [hnew] at HC HST
          clear hnew hsn
          refine HC.out.mono ?_
          rintro e w7 ⟨a7, c7, rfl, i7, b7⟩
          have I7 := Lib.hid i7
          have G7 := Lib.hid (below_then G6.out b7)
          have J7 := Lib.hid (ints_below J6.out b7)
          clear i7 b7 HC HI6 K6 J6 O5 B5 z5
          by_cases hc : new.2 < cur.2
          · rw [if_pos hc] at HST
            go_wp2
            go_roundw
            case rel => exact ⟨k + 1, a7, c7, by omega, by go_num, by rw [HST.out], by rw [HST.out], by rw [HST.out]; exact I7.out, G7.out⟩
            case measure => simp [intOf]; omega
          · rw [if_neg hc] at HST
            go_wp2
            go_roundw
            case rel => exact ⟨k + 1, a', c', by omega, by go_num, by rw [HST.out], by rw [HST.out], by rw [HST.out]; exact J7.out, G7.out⟩
            case measure => simp [intOf]; omega
      · obtain rfl : k = lb.length := by omega
        go_wp2
        go_ret2
        exact ⟨a', c', rfl, HI.out, HB.out⟩
set_option maxRecDepth 100000 in
set_option maxHeartbeats 8000000 in
theorem specBT_any (aa : Option Addr) (la : List StT) (ca : Nat) (ab : Option Addr) (lb : List StT) (cb : Nat) (p : Int) (w : World) (h1 : Sts w w.heap.size aa la) (h2 : Sts w w.heap.size ab lb) (n1 : la.length ≤ 1048576) (n2 : lb.length ≤ 1048576) :
    Calls Try.prog 41 #[.slice aa la.length ca, .slice ab lb.length cb, .int .i64 p] w (KsRet (btR la lb p) (btV la lb p) (btB la lb p) w) := by
  have HA := Lib.hid (fun u (hu : stsB la = u) => specList_any aa la ca u w h1 n1 hu)
  have HB := Lib.hid (fun u W (B : Below w.heap.size w W) (hu : stsB lb = u) => specList_any ab lb cb u W ((h2.below B (Nat.le_refl _)).more B.size) n2 hu)
  have HP := Lib.hid (fun v (hv : pnB p = v) W => specPen_is p v W hv)
  cases ha : stsB la with
  | false =>
    have HE : btB la lb p = false := by unfold btB; rw [ha]; rfl
    rw [btR_no HE, btV_no HE, HE]
    have HA1 := Lib.hid (HA.out false ha)
    clear HA HE ha h1 h2
    go_enter Try.func41, Try.ntmps41
    go_wp2_with (go_at_call 92; (with_reducible refine (HA1.out).mono ?_); rintro e w1 ⟨rfl, b1⟩; have B1 := Lib.hid b1; clear b1)
    refine bodyPost_ret (v := .tuple #[.slice (some ⟨w1.heap.size, 0, none⟩) 0 0, .int .i64 0, .bool false]) (by simp [results, Try.results41, go_sem]) rfl ?_
    exact ⟨_, _, rfl, .inl rfl, B1.out.alloc B1.out.size _⟩
  | true =>
    have HA1 := Lib.hid (HA.out true ha)
    cases hb : stsB lb with
    | false =>
      have HE : btB la lb p = false := by unfold btB; rw [ha, hb]; rfl
      rw [btR_no HE, btV_no HE, HE]
      have HB1 := Lib.hid (fun W h => HB.out false W h hb)
      clear HA HB HE ha hb h1 h2
      go_enter Try.func41, Try.ntmps41
      go_wp2_with fail
      refine (HA1.out).mono ?_
      rintro e w1 ⟨rfl, b1⟩
      have B1 := Lib.hid b1
      clear b1
      go_wp2_with fail
      refine (HB1.out _ B1.out).mono ?_
      rintro e w2 ⟨rfl, b2⟩
      have B2 := Lib.hid (below_then B1.out b2)
      clear b2
      go_wp2
      refine bodyPost_ret (v := .tuple #[.slice (some ⟨w2.heap.size, 0, none⟩) 0 0, .int .i64 0, .bool false]) (by simp [results, Try.results41, go_sem]) rfl ?_
      exact ⟨_, _, rfl, .inl rfl, B2.out.alloc B2.out.size _⟩
    | true =>
      have HB1 := Lib.hid (fun W h => HB.out true W h hb)
      cases hp : pnB p with
      | false =>
        have HE : btB la lb p = false := by unfold btB; rw [ha, hb, hp]; rfl
        rw [btR_no HE, btV_no HE, HE]
        have HP1 := Lib.hid (HP.out false hp)
        clear HA HB HE ha hb h1 h2 HP hp
        go_enter Try.func41, Try.ntmps41
        go_wp2_with fail
        refine (HA1.out).mono ?_
        rintro e w1 ⟨rfl, b1⟩
        have B1 := Lib.hid b1
        clear b1
        go_wp2_with fail
        refine (HB1.out _ B1.out).mono ?_
        rintro e w2 ⟨rfl, b2⟩
        have B2 := Lib.hid (below_then B1.out b2)
        clear b2
        go_wp2_with (go_at_call 76; (with_reducible refine (HP1.out _).mono ?_); rintro e w3 ⟨rfl, rfl⟩)
        refine bodyPost_ret (v := .tuple #[.slice (some ⟨w2.heap.size, 0, none⟩) 0 0, .int .i64 0, .bool false]) (by simp [results, Try.results41, go_sem]) rfl ?_
        exact ⟨_, _, rfl, .inl rfl, B2.out.alloc B2.out.size _⟩
      | true =>
        have HE : btB la lb p = true := by unfold btB; rw [ha, hb, hp]; rfl
        rw [btR_yes HE, btV_yes HE, HE]
        have HP1 := Lib.hid (HP.out true hp)
        have HBE := Lib.hid (fun b W (B : Below w.heap.size w W) => specBest_any aa la ca ab lb cb p ha hb (pnB_iff.1 hp) la.length [] ⟨b, 0, none⟩ 0 W (by simp) rfl ((h1.below B (Nat.le_refl _)).more B.size) ((h2.below B (Nat.le_refl _)).more B.size) (.inl rfl))
        unfold btF
        generalize bR (fun t => tcC la lb t p) lb.length la.length [] = r at *
        clear HA HB HE ha hb h1 h2 HP hp
        go_enter Try.func41, Try.ntmps41
        go_wp2_with fail
        refine (HA1.out).mono ?_
        rintro e w1 ⟨rfl, b1⟩
        have B1 := Lib.hid b1
        clear b1
        go_wp2_with fail
        refine (HB1.out _ B1.out).mono ?_
        rintro e w2 ⟨rfl, b2⟩
        have B2 := Lib.hid (below_then B1.out b2)
        clear b2
        go_wp2_with (go_at_call 76; (with_reducible refine (HP1.out _).mono ?_); rintro e w3 ⟨rfl, rfl⟩)
        have B3 := Lib.hid (B2.out.alloc B2.out.size (.cells #[] 3))
        refine (HBE.out _ _ B3.out).mono ?_
        rintro e w4 ⟨a4, c4, rfl, i4, b4⟩
        have I4 := Lib.hid i4
        have B4 := Lib.hid (below_then B3.out b4)
        clear i4 b4
        go_wp2
        refine bodyPost_ret (v := .tuple #[.slice a4 r.1.length c4, .int .i64 r.2, .bool true]) (by simp [results, Try.results41, go_sem]) rfl ?_
        exact ⟨a4, c4, rfl, I4.out, B4.out⟩
end Go.Proofs.Ythceffkkokgpnaa
namespace Go.Proofs.Ythceffkkokgpnaa
open Go.RowKit
set_option linter.unusedVariables false
set_option linter.unusedSimpArgs false
/-- block b holds one value -/
def OneB (w : World) (b : Nat) (t : TypeId) (v : Value) : Prop := w.heap[b]? = some (.cells #[v] t (0, 0))
section
variable {w w' : World} {b : Nat} {t : TypeId} {v : Value}
theorem OneB.lt (h : OneB w b t v) : b < w.heap.size := (Array.getElem?_eq_some_iff.1 h).1
theorem OneB.cell (h : OneB w b t v) : w.cell? ⟨b, 0, none⟩ = some v := by unfold OneB at h; simp [World.cell?, h]
theorem OneB.frozen (h : OneB w b t v) : w.frozen? ⟨b, 0, none⟩ = false := by unfold OneB at h; simp [World.frozen?, h]
theorem OneB.same (h : OneB w b t v) (k : w'.heap[b]? = w.heap[b]?) : OneB w' b t v := k.trans h
theorem OneB.below (h : OneB w b t v) (k : Below w.heap.size w w') : OneB w' b t v := h.same (k.block b h.lt)
theorem OneB.new (w : World) (t : TypeId) (v : Value) : OneB (w.alloc (.cells #[v] t)) w.heap.size t v := heap_alloc_new w _
theorem OneB.set (h : OneB w b t v) (v' : Value) : OneB (w.setCell ⟨b, 0, none⟩ v') b t v' := by
  unfold OneB at *
  simp [World.setCell, Array.getElem?_modify, h]
theorem set_blk (w : World) (b i : Nat) (v : Value) (h : i ≠ b) : (w.setCell ⟨b, 0, none⟩ v).heap[i]? = w.heap[i]? := Below.heap_setCell w ⟨b, 0, none⟩ v i h
end
theorem own_ne_blkT {w : World} {b base e n size : Nat} {t : TypeId} {cs : Array Value} {fr : Nat × Nat} {v : Value} {xs : List Value} (h : w.ownsRow base e size v n xs) (hb : w.heap[b]? = some (.cells cs t fr)) (hne : e ≠ t) : v.ownBlock ≠ some b := by
  rcases h.2 with ⟨rfl, _⟩ | ⟨g', cap, cur, rfl, _, hh, _⟩
  · simp [Value.ownBlock]
  · intro he
    have : g' = b := by simpa [Value.ownBlock] using he
    subst this
    rw [hb] at hh
    injection hh with hh
    injection hh with _ ht
    exact hne ht.symm
theorem own_same {w w' : World} {base e n size : Nat} {v : Value} {xs : List Value} (h : w.ownsRow base e size v n xs) (k : ∀ i, v.ownBlock = some i → w'.heap[i]? = w.heap[i]?) : w'.ownsRow base e size v n xs := by
  refine ⟨h.1, ?_⟩
  rcases h.2 with h1 | ⟨g, cap, cur, h1, h2, h3, h4⟩
  · exact .inl h1
  · exact .inr ⟨g, cap, cur, h1, h2, (k g (by rw [h1]; rfl)).trans h3, h4⟩
theorem own_shrinkT {w : World} {base e size n m g cap : Nat} {xs : List Value} (h : w.ownsRow base e size (.slice (some ⟨g, 0, none⟩) n cap) n xs) (hle : m ≤ n) : w.ownsRow base e size (.slice (some ⟨g, 0, none⟩) m cap) m (xs.take (m * size)) := by
  have hlen := h.1
  rcases h.2 with ⟨h1, _⟩ | ⟨g', cap', cur, h1, h2, h3, h4, h5, h6, h7⟩
  · cases h1
  · cases h1
    have hm := Nat.mul_le_mul_right size hle
    refine ⟨by rw [List.length_take]; omega, .inr ⟨g, cap, cur, rfl, h2, h3, by omega, h5, h6, ?_⟩⟩
    rw [← h7, List.take_take, Nat.min_eq_left hm]
/-- the arguments -/
structure Ag where
  aa : Option Addr
  la : List StT
  ca : Nat
  ab : Option Addr
  lb : List StT
  cb : Nat
  p : Int
/-- the blocks, in the order in which they are laid -/
structure Cn where
  pa : Nat
  pb : Nat
  pp : Nat
  g : Nat
  pB : Nat
  pL : Nat
  bF : Nat
  bS : Nat
  bU : Nat
  t0 : Nat
  bT : Nat
  bG : Nat
  bY : Nat
structure Cn.Ord (N : Cn) (B : Nat) : Prop where
  o0 : B ≤ N.pa
  o1 : N.pa < N.pb
  o2 : N.pb < N.pp
  o3 : N.pp < N.g
  o4 : N.g < N.pB
  o5 : N.pB < N.pL
  o6 : N.pL < N.bF
  o7 : N.bF < N.bS
  o8 : N.bS < N.bU
  o9 : N.bU < N.t0
  o10 : N.t0 < N.bT
  o11 : N.bT < N.bG
  o12 : N.bG < N.bY
def useV (N : Cn) : Value := .func (.func 96) #[] #[.pointer (some ⟨N.pa, 0, none⟩), .pointer (some ⟨N.pb, 0, none⟩), .pointer (some ⟨N.pp, 0, none⟩), .pointer (some ⟨N.pL, 0, none⟩), .pointer (some ⟨N.pB, 0, none⟩)]
def goV (N : Cn) : Value := .func (.func 143) #[] #[.pointer (some ⟨N.bT, 0, none⟩), .pointer (some ⟨N.bF, 0, none⟩), .pointer (some ⟨N.bU, 0, none⟩), .pointer (some ⟨N.bS, 0, none⟩), .pointer (some ⟨N.bY, 0, none⟩)]
def tryV (N : Cn) : Value := .func (.func 141) #[] #[.pointer (some ⟨N.bT, 0, none⟩), .pointer (some ⟨N.bG, 0, none⟩)]
/-- what the search finds: the tracking q so far, the best s.1 and its cost s.2 -/
structure Bt (w0 : World) (A : Ag) (N : Cn) (q : List Int) (s : List Int × Int) (W : World) : Prop where
  o : N.Ord w0.heap.size
  b : Below w0.heap.size w0 W
  a_ : OneB W N.pa 33 (.slice A.aa A.la.length A.ca)
  b_ : OneB W N.pb 33 (.slice A.ab A.lb.length A.cb)
  p_ : OneB W N.pp 3 (.int .i64 A.p)
  row : Row W N.g 3 (iv s.1)
  len : s.1.length = A.la.length
  best : OneB W N.pB 30 (.slice (some ⟨N.g, 0, none⟩) A.la.length A.la.length)
  l_ : OneB W N.pL 3 (.int .i64 s.2)
  f_ : OneB W N.bF 3 (.int .i64 A.la.length)
  s_ : OneB W N.bS 3 (.int .i64 A.lb.length)
  u_ : OneB W N.bU 124 (useV N)
  t_ : ∃ v, OneB W N.bT 30 v ∧ W.ownsRow N.t0 3 1 v q.length (iv q)
  g_ : OneB W N.bG 1 (goV N)
  y_ : OneB W N.bY 168 (tryV N)
section
variable {w0 W W' : World} {A : Ag} {N : Cn} {q q' : List Int} {s : List Int × Int}
/-- a call or an alloc: nothing that lies is turned -/
theorem Bt.below (h : Bt w0 A N q s W) (k : Below W.heap.size W W') : Bt w0 A N q s W' := by
  obtain ⟨v, h1, h2⟩ := h.t_
  exact ⟨h.o, below_then h.b k, h.a_.below k, h.b_.below k, h.p_.below k, h.row.of_block (k.block _ h.row.lt), h.len, h.best.below k, h.l_.below k, h.f_.below k, h.s_.below k, h.u_.below k, ⟨v, h1.below k, own_keeps h2 k⟩, h.g_.below k, h.y_.below k⟩
/-- the tracking is another one -/
theorem Bt.turn (h : Bt w0 A N q s W) {v' : Value} (hb : Below w0.heap.size w0 W') (k : ∀ i, i < N.t0 ∨ i = N.bG ∨ i = N.bY → i < W.heap.size → W'.heap[i]? = W.heap[i]?) (hT : OneB W' N.bT 30 v') (ho : W'.ownsRow N.t0 3 1 v' q'.length (iv q')) : Bt w0 A N q' s W' := by
  obtain ⟨o0, o1, o2, o3, o4, o5, o6, o7, o8, o9, o10, o11, o12⟩ := h.o
  exact ⟨h.o, hb, h.a_.same (k _ (.inl (by omega)) h.a_.lt), h.b_.same (k _ (.inl (by omega)) h.b_.lt), h.p_.same (k _ (.inl (by omega)) h.p_.lt), h.row.of_block (k _ (.inl (by omega)) h.row.lt), h.len, h.best.same (k _ (.inl (by omega)) h.best.lt), h.l_.same (k _ (.inl (by omega)) h.l_.lt), h.f_.same (k _ (.inl (by omega)) h.f_.lt), h.s_.same (k _ (.inl (by omega)) h.s_.lt), h.u_.same (k _ (.inl (by omega)) h.u_.lt), ⟨v', hT, ho⟩, h.g_.same (k _ (.inr (.inl rfl)) h.g_.lt), h.y_.same (k _ (.inr (.inr rfl)) h.y_.lt)⟩
/-- the least cost is another one -/
theorem Bt.least (h : Bt w0 A N q s W) (z : Int) : Bt w0 A N q (s.1, z) (W.setCell ⟨N.pL, 0, none⟩ (.int .i64 z)) := by
  obtain ⟨o0, o1, o2, o3, o4, o5, o6, o7, o8, o9, o10, o11, o12⟩ := h.o
  obtain ⟨v, h1, h2⟩ := h.t_
  have k : ∀ i, i ≠ N.pL → (W.setCell ⟨N.pL, 0, none⟩ (.int .i64 z)).heap[i]? = W.heap[i]? := fun i hi => set_blk W N.pL i _ hi
  exact ⟨h.o, h.b.setCell (p := ⟨N.pL, 0, none⟩) (by show _ ≤ N.pL; omega) _, h.a_.same (k _ (by omega)), h.b_.same (k _ (by omega)), h.p_.same (k _ (by omega)), h.row.of_block (k _ (by omega)), h.len, h.best.same (k _ (by omega)), h.l_.set _, h.f_.same (k _ (by omega)), h.s_.same (k _ (by omega)), h.u_.same (k _ (by omega)), ⟨v, h1.same (k _ (by omega)), own_same h2 (fun i hi => k i (by have := (h2.lt i hi).1; omega))⟩, h.g_.same (k _ (by omega)), h.y_.same (k _ (by omega))⟩
/-- the best is another one -/
theorem Bt.copy (h : Bt w0 A N q s W) {r : List Int} (k : W.grownBy W' (some N.g)) (hr : Row W' N.g 3 (iv r)) (hl : r.length = A.la.length) : Bt w0 A N q (r, s.2) W' := by
  obtain ⟨o0, o1, o2, o3, o4, o5, o6, o7, o8, o9, o10, o11, o12⟩ := h.o
  obtain ⟨v, h1, h2⟩ := h.t_
  have e : ∀ i, i ≠ N.g → i < W.heap.size → W'.heap[i]? = W.heap[i]? := fun i hi hl => k.block i hl (by intro e; injection e with e; exact hi e)
  exact ⟨h.o, h.b.grown k h.b.size (fun j hj => by injection hj with hj; omega), h.a_.same (e _ (by omega) h.a_.lt), h.b_.same (e _ (by omega) h.b_.lt), h.p_.same (e _ (by omega) h.p_.lt), hr, hl, h.best.same (e _ (by omega) h.best.lt), h.l_.same (e _ (by omega) h.l_.lt), h.f_.same (e _ (by omega) h.f_.lt), h.s_.same (e _ (by omega) h.s_.lt), h.u_.same (e _ (by omega) h.u_.lt), ⟨v, h1.same (e _ (by omega) h1.lt), own_same h2 (fun i hi => e i (by have := (h2.lt i hi).1; omega) (h2.lt i hi).2)⟩, h.g_.same (e _ (by omega) h.g_.lt), h.y_.same (e _ (by omega) h.y_.lt)⟩
end
end Go.Proofs.Ythceffkkokgpnaa
namespace Go.Proofs.Ythceffkkokgpnaa
open Go.RowKit
set_option linter.unusedVariables false
set_option linter.unusedSimpArgs false
theorem own_form {w : World} {B n : Nat} {v : Value} {q : List Int} (h : w.ownsRow B 3 1 v n (iv q)) (hn : n = q.length) : ∃ a c, v = .slice a q.length c ∧ q.length ≤ c ∧ Ints .i64 w w.heap.size a q := by
  obtain ⟨a, c, hv, ho⟩ := ownI_of h hn
  refine ⟨a, c, hv, ?_, ho.ints⟩
  rcases h.2 with ⟨h1, h2⟩ | ⟨g, cap, cur, h1, _, _, h4, _⟩
  · omega
  · rw [h1] at hv
    injection hv with _ _ h9
    omega
section
variable {w0 W W' : World} {A : Ag} {N : Cn} {q q' : List Int} {s : List Int × Int}
theorem Bt.copyQ (h : Bt w0 A N q s W) {cur : Array Value} {r : List Int} (hg : W.heap[N.g]? = some (.cells cur 3 (0, 0))) (hr : r.length = A.la.length) :
    Bt w0 A N q (r, s.2) (W.setRow N.g (iv r ++ cur.toList.drop (iv r).length).toArray) := by
  refine h.copy ⟨rfl, rfl, rfl, by simp [World.setRow], fun i hi hne => setRow_other W N.g i _ (by intro e; exact hne (by rw [e]))⟩ ?_ hr
  refine ⟨_, setRow_heap W N.g cur _ 3 (0, 0) hg, fun k hk => ?_⟩
  simp only [List.getElem?_toArray]
  rw [List.getElem?_append_left hk, List.getElem?_eq_getElem hk]
theorem row_cur {w : World} {g : Nat} {t : TypeId} {l : List Int} (h : Row w g t (iv l)) : ∃ cur : Array Value, w.heap[g]? = some (.cells cur t (0, 0)) ∧ l.length ≤ cur.size := by
  obtain ⟨cur, h1, h2⟩ := h
  refine ⟨cur, h1, ?_⟩
  rcases Nat.eq_zero_or_pos l.length with h0 | h0
  · omega
  · have h3 := h2 (l.length - 1) (by rw [iv_length]; omega)
    have h4 := (Array.getElem?_eq_some_iff.1 h3).1
    omega
end
theorem ints_src {w : World} {B : Nat} {ad : Addr} {l : List Int} (h : Ints .i64 w B (some ad) l) : ∀ j v, (iv l)[j]? = some v → w.cell? (ad.add j) = some v := by
  intro j v hv
  obtain ⟨hj, hv⟩ := List.getElem?_eq_some_iff.1 hv
  rw [iv_length] at hj
  obtain ⟨b, o, e, _, hc⟩ := h.at_ hj
  injection e with e
  subst e
  have e : (⟨b, o, none⟩ : Addr).add j = ⟨b, o + j, none⟩ := by unfold Addr.add; split <;> simp_all
  rw [e, hc, ← hv, iv_get]
set_option maxRecDepth 100000 in
set_option maxHeartbeats 8000000 in
theorem use_any (w0 : World) (A : Ag) (N : Cn) (q : List Int) (s : List Int × Int) (W : World) (v : Value) (K : Bt w0 A N q s W) (hv : OneB W N.bT 30 v) (hov : W.ownsRow N.t0 3 1 v q.length (iv q))
    (h1 : Sts w0 w0.heap.size A.aa A.la) (h2 : Sts w0 w0.heap.size A.ab A.lb) (htr : trB A.la A.lb q = true) (hp : pnB A.p = true) (hn : 0 < A.la.length ∨ s.2 ≤ tcC A.la A.lb q A.p) :
    Calls Try.prog 96 #[v, .pointer (some ⟨N.pa, 0, none⟩), .pointer (some ⟨N.pb, 0, none⟩), .pointer (some ⟨N.pp, 0, none⟩), .pointer (some ⟨N.pL, 0, none⟩), .pointer (some ⟨N.pB, 0, none⟩)] W fun e w' => e = .returned (.tuple #[]) ∧ Bt w0 A N q (upd s (q, tcC A.la A.lb q A.p)) w' := by
  obtain ⟨at_, ct, rfl, hct, hin⟩ := own_form hov rfl
  have HK := Lib.hid K
  have hlen : q.length = A.la.length := (tr_parts htr).2.2.1
  have la5 := sts_len (tr_parts htr).1
  have lb5 := sts_len (tr_parts htr).2.1
  have HT := Lib.hid (implTC_any A.aa A.la A.ca A.ab A.lb A.cb at_ q ct A.p W ((h1.below K.b (Nat.le_refl _)).more K.b.size) ((h2.below K.b (Nat.le_refl _)).more K.b.size) hin (by omega) (by omega) (by omega) hct)
  have hB := tcB_yes htr hp
  rw [tcV_yes hB, hB] at HT
  have HI := Lib.hid hin
  have HLEN := Lib.hid (And.intro hlen trivial)
  have HOV := Lib.hid hov
  have ca := K.a_.cell
  have cb := K.b_.cell
  have cp := K.p_.cell
  have O := Lib.hid K.o
  generalize tcC A.la A.lb q A.p = z at *
  have HU := Lib.hid (show upd s (q, z) = if z < s.2 then (q, z) else s from rfl)
  clear hB hlen hin hct htr hp h1 h2 hv hov K
  go_enter Try.func96, Try.ntmps96
  go_wp2_with fail
  refine HT.out.mono ?_
  rintro e w1 ⟨rfl, b1⟩
  have K1 := Lib.hid (HK.out.below b1)
  have I1 := Lib.hid (ints_below HI.out b1)
  have HOV1 := Lib.hid (own_keeps HOV.out b1)
  clear ca cb cp b1 HK HI HT HOV
  have cl := K1.out.l_.cell
  have fl := K1.out.l_.frozen
  have cB := K1.out.best.cell
  by_cases hc : z < s.2
  · rw [if_pos hc] at HU
    have K2 := Lib.hid (K1.out.least z)
    have nB : ¬ N.pB = N.pL := by have := O.out.o5; omega
    have nB2 : ¬ N.pL = N.pB := by omega
    obtain ⟨cur, hcur, hcz⟩ := row_cur K2.out.row
    have HC := Lib.hid (And.intro hcur hcz)
    have hov2 := own_same HOV1.out (w' := w1.setCell ⟨N.pL, 0, none⟩ (.int .i64 z)) (fun i hi => set_blk _ _ _ _ (by have := (HOV1.out.lt i hi).1; have := O.out.o6; have := O.out.o7; have := O.out.o8; have := O.out.o9; omega))
    obtain ⟨a9, c9, e9, h9⟩ := ownI_of hov2 rfl
    injection e9 with e9 e8 e10
    clear e8
    subst e9
    subst e10
    have I2 := Lib.hid h9.ints
    clear hcur hcz hov2 h9 HOV1
    obtain ⟨ad, rfl⟩ : ∃ ad, at_ = some ad := by
      rcases at_ with _ | ad
      · exfalso
        have h0 : 0 < q.length := by have := HLEN.out.1; rcases hn with hn | hn <;> omega
        obtain ⟨b, o, e, _⟩ := I2.out.at_ h0
        cases e
      · exact ⟨ad, rfl⟩
    go_wp2_with (with_reducible refine wpList_copy_own rfl (.tmp 21) (.tmp 22) 30 30 rfl 3 Try.underlying30 (by kernel_rfl) N.g 0 A.la.length A.la.length ad q.length _ rfl rfl cur 3 HC.out.1 (iv q) (by rw [iv_length, HLEN.out.1]; exact (Nat.min_self _).symm) (ints_src I2.out) (by rw [iv_length, HLEN.out.1]; have := HC.out.2; have := K2.out.len; show 0 + _ ≤ _; simp only at *; omega) (iv_one _) ?_)
    go_wp2
    go_end0
    exact ⟨rfl, by rw [HU.out]; exact K2.out.copyQ HC.out.1 HLEN.out.1⟩
  · rw [if_neg hc] at HU
    go_wp2
    go_end0
    exact ⟨rfl, by rw [HU.out]; exact K1.out⟩
end Go.Proofs.Ythceffkkokgpnaa
namespace Go.Proofs.Ythceffkkokgpnaa
open Go.RowKit
set_option linter.unusedVariables false
set_option linter.unusedSimpArgs false
theorem ent_use : ∀ (args : Array Value) (w : World), (callFunc 96 args).run Try.prog w = .ok (.enter 96 args) w := enters_of Try.func96 (by kernel_rfl) rfl
theorem ent_try : ∀ (args : Array Value) (w : World), (callFunc 141 args).run Try.prog w = .ok (.enter 141 args) w := enters_of Try.func141 (by kernel_rfl) rfl
theorem ent_go : ∀ (args : Array Value) (w : World), (callFunc 143 args).run Try.prog w = .ok (.enter 143 args) w := enters_of Try.func143 (by kernel_rfl) rfl
/-- the last index is taken back -/
theorem back_any (w0 : World) (A : Ag) (N : Cn) (q : List Int) (x : Int) (s : List Int × Int) (u : FrameMode) (W : World) (K : Bt w0 A N (q ++ [x]) s W) (hq : q.length ≤ 5) :
    CallsD Try.prog 142 #[.pointer (some ⟨N.bT, 0, none⟩)] u W fun e u' w' => u' = u ∧ (e = .returned (.tuple #[]) ∧ Bt w0 A N q s w') := by
  obtain ⟨v, h1, h2⟩ := K.t_
  have hlen : (q ++ [x]).length = q.length + 1 := by simp
  rw [hlen, iv_snoc] at h2
  obtain ⟨g, cap, rfl⟩ := own_slice h2 (by omega)
  have hcap : q.length + 1 ≤ cap := by
    rcases h2.2 with ⟨h3, _⟩ | ⟨g', cap', cur, h3, _, _, h4, _⟩
    · cases h3
    · cases h3; exact h4
  have hs := own_shrinkT h2 (m := q.length) (by omega)
  have hl9 : (iv q).length = q.length := iv_length q
  rw [Nat.mul_one, List.take_append_of_le_length (by omega), List.take_of_length_le (by omega)] at hs
  have c0 := h1.cell
  have f0 := h1.frozen
  have hw1 := IntWalk.i64_in (((q.length + 1 : Nat) : Int) - 1) (by omega)
  have hw2 : ((q.length + 1 : Nat) : Int) - 1 = (q.length : Int) := by omega
  rw [hw2] at hw1
  have hle : (q.length : Int) ≤ (cap : Int) := by omega
  have hle0 : (0 : Int) ≤ (q.length : Int) := by omega
  have KF := Lib.hid (K.turn (q' := q) (W' := W.setCell ⟨N.bT, 0, none⟩ (.slice (some ⟨g, 0, none⟩) q.length cap)) (K.b.setCell (p := ⟨N.bT, 0, none⟩) (by have o := K.o; have := o.o0; have := o.o1; have := o.o2; have := o.o3; have := o.o4; have := o.o5; have := o.o6; have := o.o7; have := o.o8; have := o.o9; have := o.o10; show _ ≤ N.bT; omega) _)
    (fun i hi _ => set_blk _ _ _ _ (by have := K.o.o10; have := K.o.o11; have := K.o.o12; omega)) (h1.set _) (own_same hs (fun i hi => set_blk _ _ _ _ (by
      have e : g = i := by simpa [Value.ownBlock] using hi
      subst e
      intro e
      exact own_ne_blkT h2 h1 (by decide) (by simp [Value.ownBlock, e])))))
  clear K h1 h2 hs hl9 hcap hlen
  go_enter_d Try.func142, Try.ntmps142
  go_wp2
  go_end0
  first | exact ⟨rfl, rfl, KF.out⟩ | exact ⟨rfl, KF.out⟩ | exact KF.out
set_option maxRecDepth 100000 in
set_option maxHeartbeats 8000000 in
/-- one index is tried: what goOn does behind it is told by HG -/
theorem try_any (w0 : World) (A : Ag) (N : Cn) (q : List Int) (x : Int) (s s' : List Int × Int) (W : World) (K : Bt w0 A N q s W) (hq : q.length ≤ 4)
    (HG : ∀ W1, Bt w0 A N (q ++ [x]) s W1 → Calls Try.prog 143 #[.pointer (some ⟨N.bT, 0, none⟩), .pointer (some ⟨N.bF, 0, none⟩), .pointer (some ⟨N.bU, 0, none⟩), .pointer (some ⟨N.bS, 0, none⟩), .pointer (some ⟨N.bY, 0, none⟩)] W1 fun e w' => e = .returned (.tuple #[]) ∧ Bt w0 A N (q ++ [x]) s' w') :
    Calls Try.prog 141 #[.int .i64 x, .pointer (some ⟨N.bT, 0, none⟩), .pointer (some ⟨N.bG, 0, none⟩)] W fun e w' => e = .returned (.tuple #[]) ∧ Bt w0 A N q s' w' := by
  obtain ⟨i0, hi0', hz0, hz1, hz2⟩ := info_parts infoInt
  have hmf : ∀ (fn : Fn) (first cap : Array Value) (w : World), (Instr.makeFunc fn first cap).run Try.prog w = .ok (.func fn first cap) w := fun _ _ _ _ => rfl
  have eg := ent_go
  obtain ⟨v, h1, h2⟩ := K.t_
  have HK := Lib.hid K
  have H1 := Lib.hid h1
  have H2 := Lib.hid h2
  have HHG := Lib.hid HG
  have HGG := Lib.hid K.g_
  have HYY := Lib.hid K.y_
  have c0 := h1.cell
  have f0 := h1.frozen
  have cg := K.g_.cell
  have ltT := h1.lt
  have nT : ¬ N.bT = W.heap.size := by omega
  have ltG := K.g_.lt
  have nG : ¬ N.bG = W.heap.size := by omega
  have nTG : ¬ N.bG = N.bT := by have := K.o.o11; omega
  have nTG2 : ¬ N.bT = N.bG := by omega
  have HW0 := Lib.hid (show w0.heap.size ≤ N.t0 ∧ w0.heap.size ≤ N.bT from by have o := K.o; have := o.o0; have := o.o1; have := o.o2; have := o.o3; have := o.o4; have := o.o5; have := o.o6; have := o.o7; have := o.o8; have := o.o9; have := o.o10; omega)
  have hbase : N.t0 ≤ W.heap.size := by have := K.o.o10; omega
  clear K h1 h2 HG
  go_enter_defers Try.func141, Try.ntmps141
  go_wp2_with (at_builtin; refine wpList_append_own _ rfl _ _ 30 rfl N.t0 3 i0 (.int .i64 0) 1 8 Try.underlying30 hi0' hz0 hz1 hz2 rfl (by decide) v q.length (iv q) rfl (H2.out.alloc _) ⟨W.heap.size, 0, none⟩ 1 1 [.int .i64 x] rfl rfl (cell_one_new _ _ _) (by simp [Value.oneCell']) (by unfold maxLen; omega) (by omega) (by simp; omega) ?_; intro v' w9 hown9 hgrow9 hsz9; obtain ⟨g9, cap9, rfl⟩ := own_slice hown9 (by omega); have HO9 := Lib.hid hown9; have HG9 := Lib.hid hgrow9; have T9 := (H1.out.below (below_all W (.cells #[.int .i64 x] 3))).same (hgrow9.block N.bT (by rw [World.size_alloc]; omega) (Ne.symm (own_ne_blkT H2.out H1.out (by decide)))); have HT9 := Lib.hid T9; have G9 := (HGG.out.below (below_all W (.cells #[.int .i64 x] 3))).same (hgrow9.block N.bG (by rw [World.size_alloc]; omega) (Ne.symm (own_ne_blkT H2.out HGG.out (by decide)))); have cg9 := G9.cell; unfold goV at cg9; have c9 := T9.cell; have f9 := T9.frozen; have hgo := hgrow9.size; clear hown9 hgrow9 T9 G9 c0 f0 cg)
  have KB3 := Lib.hid ((((HK.out.b.alloc HK.out.b.size (.cells #[.int .i64 x] 3)).grown HG9.out (HK.out.b.alloc HK.out.b.size _).size (fun j hj => Nat.le_trans HW0.out.1 (H2.out.lt j hj).1)).setCell (p := ⟨N.bT, 0, none⟩) HW0.out.2 (.slice (some ⟨g9, 0, none⟩) (q.length + 1) cap9)))
  have K3 := Lib.hid (HK.out.turn (q' := q ++ [x]) (W' := w9.setCell ⟨N.bT, 0, none⟩ (.slice (some ⟨g9, 0, none⟩) (q.length + 1) cap9)) KB3.out
    (fun i hi hlt => (set_blk _ _ _ _ (by have o := HK.out.o; have := o.o10; have := o.o11; have := o.o12; omega)).trans ((HG9.out.block i (by rw [World.size_alloc]; omega) (by
      intro e
      rcases hi with hi | rfl | rfl
      · have := (H2.out.lt i e.symm).1; omega
      · exact own_ne_blkT H2.out HGG.out (by decide) e.symm
      · exact own_ne_blkT H2.out HYY.out (by decide) e.symm)).trans (Below.heap_alloc W _ i hlt)))
    (HT9.out.set _) (by
      rw [List.length_append, List.length_singleton, iv_snoc]
      exact own_same HO9.out (fun i hi => set_blk _ _ _ _ (by
        intro e
        subst e
        exact own_ne_blkT HO9.out HT9.out (by decide) hi))))
  refine (HHG.out _ K3.out).mono ?_
  rintro e w4 ⟨rfl, K4⟩
  have HK4 := Lib.hid K4
  clear K4
  go_wp2
  refine leaves_cons (f := 142) (args := #[.pointer (some ⟨N.bT, 0, none⟩)]) (by simp) (by simp [go_sem]) ?_
  refine (back_any w0 A N q x s' .returning _ HK4.out (by omega)).mono ?_
  rintro e u' w'' ⟨rfl, rfl, KB⟩
  have HKB := Lib.hid KB
  clear KB
  simp [Leaves, settle, results, Try.results141, go_sem]
  exact HKB.out
end Go.Proofs.Ythceffkkokgpnaa
namespace Go.Proofs.Ythceffkkokgpnaa
open Go.RowKit
set_option linter.unusedVariables false
set_option linter.unusedSimpArgs false
set_option maxRecDepth 100000 in
set_option maxHeartbeats 8000000 in
theorem go_any (w0 : World) (A : Ag) (N : Cn) (h1 : Sts w0 w0.heap.size A.aa A.la) (h2 : Sts w0 w0.heap.size A.ab A.lb) (ha : stsB A.la = true) (hb : stsB A.lb = true) (hp : pnB A.p = true) :
    ∀ (d : Nat) (q : List Int) (s : List Int × Int) (W : World), q.length + d = A.la.length → (0 < A.la.length ∨ s.2 ≤ tcC A.la A.lb q A.p) → trsB A.lb.length q = true → Bt w0 A N q s W →
    Calls Try.prog 143 #[.pointer (some ⟨N.bT, 0, none⟩), .pointer (some ⟨N.bF, 0, none⟩), .pointer (some ⟨N.bU, 0, none⟩), .pointer (some ⟨N.bS, 0, none⟩), .pointer (some ⟨N.bY, 0, none⟩)] W fun e w' => e = .returned (.tuple #[]) ∧ Bt w0 A N q (gR (fun t => tcC A.la A.lb t A.p) A.lb.length d q s) w' := by
  have la5 := sts_len ha
  have lb5 := sts_len hb
  intro d
  induction d with
  | zero =>
    intro q s W hq hn ht K
    have htr : trB A.la A.lb q = true := (tr_same ha hb (by omega)).trans ht
    obtain ⟨v, o1, o2⟩ := K.t_
    have HU := Lib.hid (use_any w0 A N q s W v K o1 o2 h1 h2 htr hp hn)
    have eg := ent_use
    obtain ⟨at_, ct, rfl, hct, _⟩ := own_form o2 rfl
    have c0 := o1.cell
    have cf := K.f_.cell
    have cu := K.u_.cell
    unfold useV at cu
    have heq : ((q.length : Int) == (A.la.length : Int)) = true := by rw [beq_iff_eq]; omega
    show Calls _ _ _ _ fun e w' => e = .returned (.tuple #[]) ∧ Bt w0 A N q (upd s (q, tcC A.la A.lb q A.p)) w'
    generalize upd s (q, tcC A.la A.lb q A.p) = s' at *
    clear h1 h2 ha hb hp htr o1 o2 K hq ht hn
    go_enter Try.func143, Try.ntmps143
    go_wp2_with (go_at_fn 96; (with_reducible refine HU.out.mono ?_); rintro e w1 ⟨rfl, k1⟩; have K1 := Lib.hid k1; clear k1)
    first | go_end0 | refine bodyPost_ret (results_none rfl _ _ _) rfl ?_
    exact ⟨rfl, K1.out⟩
  | succ d ih =>
    intro q s W hq hn ht K
    have HIH := Lib.hid (fun q s W h1 h2 h3 => ih q s W h1 (.inl (by omega)) h2 h3)
    clear ih
    have hne : ((q.length : Int) == (A.la.length : Int)) = false := by rw [beq_eq_false_iff_ne]; omega
    have HK := Lib.hid K
    have HT := Lib.hid ht
    have HQ := Lib.hid hq
    obtain ⟨v, o1, o2⟩ := K.t_
    obtain ⟨at_, ct, rfl, hct, _⟩ := own_form o2 rfl
    have c0 := o1.cell
    have cf := K.f_.cell
    have eg := ent_try
    show Calls _ _ _ _ fun e w' => e = .returned (.tuple #[]) ∧ Bt w0 A N q (gk (gR (fun t => tcC A.la A.lb t A.p) A.lb.length d) q (A.lb.length + 1) s) w'
    have HF := Lib.hid (fun q s W h1 h2 h3 => HIH.out q s W h1 h2 h3)
    generalize gR (fun t => tcC A.la A.lb t A.p) A.lb.length d = f at *
    clear o1 o2 K ht HIH hn
    go_enter Try.func143, Try.ntmps143
    go_wp2
    clear c0 cf hne
    go_loopw [5] (fun i wr => ∃ k : Nat, k ≤ A.lb.length + 1 ∧ i = .int .i64 ((k : Int) - 1) ∧ Bt w0 A N q (gk f q k s) wr) (fun i _ => A.lb.length + 1 - (intOf i + 1).toNat)
    case atStart => exact ⟨0, Nat.zero_le _, rfl, HK.out⟩
    case round =>
      obtain ⟨k, hk, rfl, hK⟩ := hrel
      have HKR := Lib.hid hK
      have cs := hK.s_.cell
      by_cases hlt : k < A.lb.length + 1
      · have hi : (k : Int) - 1 < (A.lb.length : Int) := by omega
        have g1 : IntKind.i64.wrap ((k : Int) - 1 + 1) = ((k + 1 : Nat) : Int) - 1 := by rw [show (k : Int) - 1 + 1 = ((k + 1 : Nat) : Int) - 1 by omega]; exact IntWalk.i64_in _ (by omega)
        obtain ⟨v9, o1, o2⟩ := hK.t_
        obtain ⟨a9, c9, rfl, hc9, hin⟩ := own_form o2 rfl
        have ct9 := o1.cell
        have HFR := Lib.hid (fun u (hu : feB q ((k : Int) - 1) = u) => isFree_is a9 q c9 wr.heap.size ((k : Int) - 1) u wr hin (by omega) hu)
        have HSTEP := Lib.hid (show gk f q (k + 1) s = if feB q ((k : Int) - 1) = true then f (q ++ [(k : Int) - 1]) (gk f q k s) else gk f q k s from rfl)
        obtain ⟨s1, hs1⟩ : ∃ s1, gk f q k s = s1 := ⟨_, rfl⟩
        rw [hs1] at HKR HSTEP
        have cy := hK.y_.cell
        unfold tryV at cy
        clear hs1 hK o1 o2 hin
        cases hfr : feB q ((k : Int) - 1) with
        | false =>
          have HFR1 := Lib.hid (HFR.out false hfr)
          rw [hfr, if_neg (by simp)] at HSTEP
          clear hfr HFR
          go_wp2_with (go_at_call 82; (with_reducible refine HFR1.out.mono ?_); rintro e w3 ⟨rfl, rfl⟩)
          go_roundw
          case rel => exact ⟨k + 1, by omega, (by rw [Value.int.injEq]; exact ⟨rfl, by omega⟩), by rw [HSTEP.out]; exact HKR.out⟩
          case measure => simp [intOf]; omega
        | true =>
          have HFR1 := Lib.hid (HFR.out true hfr)
          have HNT := Lib.hid (trs_add HT.out (by omega) (by omega) hfr)
          rw [hfr, if_pos rfl] at HSTEP
          have HTRY := Lib.hid (try_any w0 A N q ((k : Int) - 1) s1 (f (q ++ [(k : Int) - 1]) s1) wr HKR.out (by have := HQ.out; omega) (fun W1 K1 => HF.out (q ++ [(k : Int) - 1]) s1 W1 (by have := HQ.out; rw [List.length_append, List.length_singleton]; omega) HNT.out K1))
          clear hfr HFR
          go_wp2_with (first | (go_at_call 82; (with_reducible refine HFR1.out.mono ?_); rintro e w3 ⟨rfl, rfl⟩) | (go_at_fn 141; (with_reducible refine HTRY.out.mono ?_); rintro e w4 ⟨rfl, k4⟩; have K4 := Lib.hid k4; clear k4))
          go_roundw
          case rel => exact ⟨k + 1, by omega, (by rw [Value.int.injEq]; exact ⟨rfl, by omega⟩), by rw [HSTEP.out]; exact K4.out⟩
          case measure => simp [intOf]; omega
      · obtain rfl : k = A.lb.length + 1 := by omega
        have hi : ¬ ((A.lb.length + 1 : Nat) : Int) - 1 < (A.lb.length : Int) := by omega
        clear hK
        go_wp2
        first | go_end0 | refine bodyPost_ret (results_none rfl _ _ _) rfl ?_
        exact ⟨rfl, HKR.out⟩
end Go.Proofs.Ythceffkkokgpnaa
namespace Go.Proofs.Ythceffkkokgpnaa
open Go.RowKit
set_option linter.unusedVariables false
set_option linter.unusedSimpArgs false
set_option maxRecDepth 100000 in
set_option maxHeartbeats 8000000 in
theorem every_any (w0 : World) (A : Ag) (M : Cn) (s : List Int × Int) (W : World) (h1 : Sts w0 w0.heap.size A.aa A.la) (h2 : Sts w0 w0.heap.size A.ab A.lb) (ha : stsB A.la = true) (hb : stsB A.lb = true) (hp : pnB A.p = true) (hn : 0 < A.la.length ∨ s.2 ≤ tcC A.la A.lb [] A.p)
    (o0 : w0.heap.size ≤ M.pa) (o1 : M.pa < M.pb) (o2 : M.pb < M.pp) (o3 : M.pp < M.g) (o4 : M.g < M.pB) (o5 : M.pB < M.pL) (o6 : M.pL < W.heap.size)
    (b : Below w0.heap.size w0 W) (a_ : OneB W M.pa 33 (.slice A.aa A.la.length A.ca)) (b_ : OneB W M.pb 33 (.slice A.ab A.lb.length A.cb)) (p_ : OneB W M.pp 3 (.int .i64 A.p)) (row : Row W M.g 3 (iv s.1)) (len : s.1.length = A.la.length) (best : OneB W M.pB 30 (.slice (some ⟨M.g, 0, none⟩) A.la.length A.la.length)) (l_ : OneB W M.pL 3 (.int .i64 s.2)) :
    Calls Try.prog 95 #[.int .i64 A.la.length, .int .i64 A.lb.length, useV M] W fun e w' => e = .returned (.tuple #[]) ∧ ∃ N : Cn, N.g = M.g ∧ N.pB = M.pB ∧ N.pL = M.pL ∧ Bt w0 A N [] (gR (fun t => tcC A.la A.lb t A.p) A.lb.length A.la.length [] s) w' := by
  have hmf : ∀ (fn : Fn) (first cap : Array Value) (w : World), (Instr.makeFunc fn first cap).run Try.prog w = .ok (.func fn first cap) w := fun _ _ _ _ => rfl
  have hsf : ∀ (a : Addr) (fn : Fn) (first cap : Array Value) (w : World), w.cell? a = some .nilFunc → w.frozen? a = false → Sem.run Try.prog (store a (.func fn first cap)) w = .ok () (w.setCell a (.func fn first cap)) := fun a fn first cap w h1 h2 => by rw [run_store _ _ _ _ _ rfl, h1, h2]; rfl
  have eg := ent_go
  obtain ⟨uv, hU⟩ : ∃ uv, useV M = uv := ⟨_, rfl⟩
  let N : Cn := { M with bF := W.heap.size, bS := W.heap.size + 1, bU := W.heap.size + 1 + 1, t0 := W.heap.size + 1 + 1 + 1, bT := W.heap.size + 1 + 1 + 1 + 1, bG := W.heap.size + 1 + 1 + 1 + 1 + 1, bY := W.heap.size + 1 + 1 + 1 + 1 + 1 + 1 }
  have HGO := Lib.hid (fun W' (K : Bt w0 A N [] s W') => go_any w0 A N h1 h2 ha hb hp A.la.length [] s W' (by simp) hn rfl K)
  have K0 := Lib.hid (show Bt w0 A N [] s (((((((W.alloc (.cells #[.int .i64 A.la.length] 3)).alloc (.cells #[.int .i64 A.lb.length] 3)).alloc (.cells #[uv] 124)).alloc (.cells #[] 3)).alloc (.cells #[.slice (some ⟨W.heap.size + 1 + 1 + 1, 0, none⟩) 0 0] 30)).alloc (.cells #[goV N] 1)).alloc (.cells #[tryV N] 168)) from by
    generalize hW1 : W.alloc (.cells #[.int .i64 A.la.length] 3) = W1
    have n1 : OneB W1 W.heap.size 3 (.int .i64 A.la.length) := by rw [← hW1]; exact OneB.new _ _ _
    have c1 : Below W.heap.size W W1 := by rw [← hW1]; exact below_all _ _
    have z1 : W1.heap.size = W.heap.size + 1 := by rw [← hW1]; simp
    generalize hW2 : W1.alloc (.cells #[.int .i64 A.lb.length] 3) = W2
    have n2 : OneB W2 (W.heap.size + 1) 3 (.int .i64 A.lb.length) := by rw [← hW2, ← z1]; exact OneB.new _ _ _
    have c2 : Below W1.heap.size W1 W2 := by rw [← hW2]; exact below_all _ _
    have z2 : W2.heap.size = W.heap.size + 1 + 1 := by rw [← hW2, World.size_alloc, z1]
    generalize hW3 : W2.alloc (.cells #[uv] 124) = W3
    have n3 : OneB W3 (W.heap.size + 1 + 1) 124 uv := by rw [← hW3, ← z2]; exact OneB.new _ _ _
    have c3 : Below W2.heap.size W2 W3 := by rw [← hW3]; exact below_all _ _
    have z3 : W3.heap.size = W.heap.size + 1 + 1 + 1 := by rw [← hW3, World.size_alloc, z2]
    generalize hW4 : W3.alloc (.cells #[] 3) = W4
    have n4 : W4.ownsRow (W.heap.size + 1 + 1 + 1) 3 1 (.slice (some ⟨W.heap.size + 1 + 1 + 1, 0, none⟩) 0 0) 0 [] := by
      rw [← hW4, ← z3]
      exact World.ownsRow_made (base := W3.heap.size) (e := 3) (size := 1) W3 #[] 0 (Nat.le_refl _) (by unfold maxLen; omega) rfl
    have c4 : Below W3.heap.size W3 W4 := by rw [← hW4]; exact below_all _ _
    have z4 : W4.heap.size = W.heap.size + 1 + 1 + 1 + 1 := by rw [← hW4, World.size_alloc, z3]
    generalize hW5 : W4.alloc (.cells #[.slice (some ⟨W.heap.size + 1 + 1 + 1, 0, none⟩) 0 0] 30) = W5
    have n5 : OneB W5 (W.heap.size + 1 + 1 + 1 + 1) 30 (.slice (some ⟨W.heap.size + 1 + 1 + 1, 0, none⟩) 0 0) := by rw [← hW5, ← z4]; exact OneB.new _ _ _
    have c5 : Below W4.heap.size W4 W5 := by rw [← hW5]; exact below_all _ _
    have z5 : W5.heap.size = W.heap.size + 1 + 1 + 1 + 1 + 1 := by rw [← hW5, World.size_alloc, z4]
    generalize hW6 : W5.alloc (.cells #[goV N] 1) = W6
    have n6 : OneB W6 (W.heap.size + 1 + 1 + 1 + 1 + 1) 1 (goV N) := by rw [← hW6, ← z5]; exact OneB.new _ _ _
    have c6 : Below W5.heap.size W5 W6 := by rw [← hW6]; exact below_all _ _
    have z6 : W6.heap.size = W.heap.size + 1 + 1 + 1 + 1 + 1 + 1 := by rw [← hW6, World.size_alloc, z5]
    generalize hW7 : W6.alloc (.cells #[tryV N] 168) = W7
    have n7 : OneB W7 (W.heap.size + 1 + 1 + 1 + 1 + 1 + 1) 168 (tryV N) := by rw [← hW7, ← z6]; exact OneB.new _ _ _
    have c7 : Below W6.heap.size W6 W7 := by rw [← hW7]; exact below_all _ _
    have d5 := below_then c6 c7
    have d4 : Below W4.heap.size W4 W7 := below_then c5 d5
    have d3 : Below W3.heap.size W3 W7 := below_then c4 d4
    have d2 : Below W2.heap.size W2 W7 := below_then c3 d3
    have d1 : Below W1.heap.size W1 W7 := below_then c2 d2
    have d0 : Below W.heap.size W W7 := below_then c1 d1
    exact ⟨⟨o0, o1, o2, o3, o4, o5, o6, by show W.heap.size < W.heap.size + 1; omega, by show W.heap.size + 1 < W.heap.size + 1 + 1; omega, by show W.heap.size + 1 + 1 < W.heap.size + 1 + 1 + 1; omega, by show W.heap.size + 1 + 1 + 1 < W.heap.size + 1 + 1 + 1 + 1; omega, by show W.heap.size + 1 + 1 + 1 + 1 < W.heap.size + 1 + 1 + 1 + 1 + 1; omega, by show W.heap.size + 1 + 1 + 1 + 1 + 1 < W.heap.size + 1 + 1 + 1 + 1 + 1 + 1; omega⟩,
      below_then b d0, a_.below d0, b_.below d0, p_.below d0, row.of_block (d0.block _ row.lt), len, best.below d0, l_.below d0, n1.below d1, n2.below d2, by have := n3.below d3; rw [← hU] at this; exact this, ⟨_, n5.below d5, own_keeps n4 d4⟩, n6.below c7, n7⟩)
  clear h1 h2 ha hb hp hn b a_ b_ p_ row len best l_ o0 o1 o2 o3 o4 o5 o6
  rw [hU]
  go_enter Try.func95, Try.ntmps95
  go_wp2_with fail
  refine (HGO.out _ K0.out).mono ?_
  rintro e w1 ⟨rfl, k1⟩
  have K1 := Lib.hid k1
  clear k1
  go_wp2
  go_end0
  exact ⟨rfl, N, rfl, rfl, rfl, K1.out⟩
end Go.Proofs.Ythceffkkokgpnaa
namespace Go.Proofs.Ythceffkkokgpnaa
open Go.RowKit
set_option linter.unusedVariables false
set_option linter.unusedSimpArgs false
/-- k times -1, then nothing yet -/
def repV (n k : Nat) : List Int := List.replicate k (-1) ++ List.replicate (n - k) 0
theorem repV_len {n k : Nat} (h : k ≤ n) : (repV n k).length = n := by unfold repV; simp; omega
theorem repV_zero (n : Nat) : repV n 0 = List.replicate n 0 := rfl
theorem repV_all (n : Nat) : repV n n = List.replicate n (-1) := by unfold repV; rw [Nat.sub_self]; simp
theorem iv_app (a b : List Int) : iv (a ++ b) = iv a ++ iv b := by unfold iv; rw [List.map_append]
theorem rep_splice {n k m : Nat} (h : k + m ≤ n) : splice (iv (repV n k)) k (iv (List.replicate m (-1))) = iv (repV n (k + m)) := by
  unfold splice
  have hl : (iv (List.replicate k (-1))).length = k := by rw [iv_length]; simp
  have h1 : (iv (repV n k)).take k = iv (List.replicate k (-1)) := by
    unfold repV; rw [iv_app, List.take_append_of_le_length (by omega), List.take_of_length_le (by omega)]
  have h2 : (iv (repV n k)).drop (k + (iv (List.replicate m (-1))).length) = iv (List.replicate (n - (k + m)) 0) := by
    unfold repV
    rw [iv_app, iv_length, List.length_replicate, List.drop_append, hl, List.drop_of_length_le (by omega), show k + m - k = m by omega]
    show [] ++ List.drop m (List.map _ _) = _
    rw [← List.map_drop, List.drop_replicate, show n - k - m = n - (k + m) by omega]
    rfl
  rw [h1, h2]
  unfold repV
  rw [iv_app, show List.replicate (k + m) (-1 : Int) = List.replicate k (-1) ++ List.replicate m (-1) from List.replicate_append_replicate.symm, iv_app, List.append_assoc]
theorem run_makeInt (n : Nat) (h : n ≤ 1048576) (W : World) :
    (Instr.makeSlice 30 (.int .i64 (n : Int)) (.int .i64 (n : Int))).run Try.prog W = .ok (.slice (some ⟨W.heap.size, 0, none⟩) n n) (W.alloc (.cells (madeCells #[.int .i64 0] (n * 1)) 3)) := by
  obtain ⟨i, hi, hz, hs, hb⟩ := info_parts infoInt
  have hr := run_make (P := Try.prog) W 30 3 i (.int .i64 0) Try.underlying30 hi hz .i64 .i64 n n (by omega) (Int.le_refl _) (by rw [hb]; omega) (by omega)
  simp only [Int.toNat_natCast, hs] at hr
  exact hr
theorem made_one (v : Value) (n : Nat) : madeCells #[v] n = (List.replicate n v).toArray := by
  apply Array.ext
  · simp [madeCells]
  · intro i h1 h2
    simp [madeCells, Nat.mod_one]
theorem iv_rep (n : Nat) (z : Int) : iv (List.replicate n z) = List.replicate n (.int .i64 z) := by unfold iv; rw [List.map_replicate]
set_option maxRecDepth 100000 in
set_option maxHeartbeats 8000000 in
theorem repeat_any (n b : Nat) (W : World) (hx : W.cell? ⟨b, 0, none⟩ = some (.int .i64 (-1))) (hn : n ≤ 1048576) :
    Calls Try.prog 94 #[.slice (some ⟨b, 0, none⟩) 1 1, .int .i64 n] W fun e w' => ∃ g, e = .returned (.slice (some ⟨g, 0, none⟩) n n) ∧ W.heap.size ≤ g ∧ Row w' g 3 (iv (List.replicate n (-1))) ∧ Below W.heap.size W w' := by
  have HM := Lib.hid (fun w => Try.bits_Mul 1 n (by omega) (by omega) w)
  rw [show (1 * n / 18446744073709551616 : Nat) = 0 by omega, show (1 * n % 18446744073709551616 : Nat) = n by omega] at HM
  have hneg : ¬ (n : Int) < 0 := by omega
  have hmx : ¬ (9223372036854775807 : Int) < (n : Int) := by omega
  go_enter Try.func94, Try.ntmps94
  go_wp2_with fail
  refine (HM.out _).mono ?_
  rintro e w1 ⟨rfl, rfl⟩
  obtain ⟨g, hg⟩ : ∃ q, w1.heap.size = q := ⟨_, rfl⟩
  have HG := Lib.hid (And.intro hg trivial)
  have hblt : b < w1.heap.size := by
    rcases Nat.lt_or_ge b w1.heap.size with h | h
    · exact h
    · simp [World.cell?, Array.getElem?_eq_none h] at hx
  have hmk := fun W => run_makeInt n hn W
  have B1 := Lib.hid (below_all w1 (.cells (madeCells #[.int .i64 0] n) 3))
  have R1 := Lib.hid (show (w1.alloc (.cells (madeCells #[.int .i64 0] n) 3)).heap[g]? = some (.cells (iv (repV n 0)).toArray 3 (0, 0)) from by
    rw [← hg, heap_alloc_new, repV_zero, made_one, iv_rep])
  have HX := Lib.hid ((B1.out.cell (p := ⟨b, 0, none⟩) hblt).trans hx)
  have HN := Lib.hid (And.intro hn trivial)
  have hmin : Nat.min 1 n ≤ n := Nat.min_le_right _ _
  go_wp2_with (with_reducible refine wpList_copy_splice rfl (.tmp 31) (.tmp 32) 30 30 rfl 3 Try.underlying30 (by kernel_rfl) _ _ _ _ _ _ rfl rfl g 0 (iv (repV n 0)) 3 R1.out (iv (List.replicate (Nat.min 1 n) (-1))) ?_ ?_ ?_ (iv_one _) w1.heap.size w1 B1.out (by have := HG.out.1; omega) ?_)
  case refine_1 => rw [iv_length, List.length_replicate]
  case refine_2 =>
    intro _
    intro j v hv
    obtain ⟨hj, hv⟩ := List.getElem?_eq_some_iff.1 hv
    rw [iv_length, List.length_replicate] at hj
    have h1 : Nat.min 1 n ≤ 1 := Nat.min_le_left _ _
    obtain rfl : j = 0 := by omega
    rw [HX.out, ← hv]
    simp [iv]
  case refine_3 => rw [iv_length, iv_length, List.length_replicate, repV_len (Nat.zero_le _)]; omega
  case refine_4 =>
    intro w2 hg2 hb2
    rw [rep_splice (n := n) (k := 0) (m := Nat.min 1 n) (by omega)] at hg2
    have HG2 := Lib.hid hg2.out
    have HB2 := Lib.hid hb2
    obtain ⟨k0, hk0⟩ : ∃ k0, 0 + Nat.min 1 n = k0 := ⟨_, rfl⟩
    have HK0 := Lib.hid (show k0 ≤ n ∧ (k0 = 0 → n = 0) from by
      rcases Nat.eq_zero_or_pos n with h | h
      · subst h; subst hk0; simp
      · have : Nat.min 1 n = 1 := Nat.min_eq_left h
        omega)
    rw [hk0] at HG2
    have hlen0 : (iv (List.replicate (Nat.min 1 n) (-1))).length = k0 := by rw [iv_length, List.length_replicate]; omega
    rw [hlen0]
    clear hg2 hb2 hlen0 hk0 hmk hneg hmx hx
    go_wp2_with fail
    go_loopw [8] (fun q wr => ∃ k : Nat, k ≤ n ∧ (k = 0 → n = 0) ∧ q = .int .i64 k ∧ wr.heap[g]? = some (.cells (iv (repV n k)).toArray 3 (0, 0)) ∧ Below g w1 wr) (fun q _ => n - (intOf q).toNat)
    case atStart => exact ⟨k0, HK0.out.1, HK0.out.2, rfl, HG2.out, by have h := HB2.out; first | exact h | (rw [← HG.out.1]; exact h)⟩
    case round =>
      obtain ⟨k, hk, hk0, rfl, hh, hB⟩ := hrel
      have HH := Lib.hid hh
      have HB := Lib.hid hB
      have HKN := Lib.hid hk0
      clear hh hB hk0
      by_cases hlt : k < n
      · have hi : (k : Int) < (n : Int) := by omega
        have hi0 : (0 : Int) ≤ (k : Int) := by omega
        have hle : (k : Int) ≤ (n : Int) := by omega
        have hk1 : 0 < k := by
          rcases Nat.eq_zero_or_pos k with h | h
          · have := HKN.out h; omega
          · exact h
        have hm1 : Nat.min k (n - k) ≤ n - k := Nat.min_le_right _ _
        have hm2 : Nat.min k (n - k) ≤ k := Nat.min_le_left _ _
        have hm3 : 0 < Nat.min k (n - k) := show 0 < min k (n - k) from by omega
        have HM9 := Lib.hid (And.intro hm1 (And.intro hm2 hm3))
        have ew : IntKind.i64.wrap ((k : Int) + (Nat.min k (n - k) : Nat)) = ((k + Nat.min k (n - k) : Nat) : Int) := by rw [show (k : Int) + (Nat.min k (n - k) : Nat) = ((k + Nat.min k (n - k) : Nat) : Int) by omega]; exact IntWalk.i64_in _ (by omega)
        have hsplit : (iv (List.replicate (Nat.min k (n - k)) (-1))).length = Nat.min k (n - k) := by rw [iv_length, List.length_replicate]
        obtain ⟨m, hm⟩ : ∃ m, Nat.min k (n - k) = m := ⟨_, rfl⟩
        have HMM := Lib.hid (And.intro hm trivial)
        rw [hm] at ew HM9 hsplit
        have HSP := Lib.hid (And.intro hsplit trivial)
        clear hm1 hm2 hm3 hm hsplit
        go_wp2_with fail
        have HSRC := Lib.hid (fun (j : Nat) (v : Value) (hv : (iv (List.replicate m (-1)))[j]? = some v) => show wr.drew.cell? ⟨g, j, none⟩ = some v from by
          obtain ⟨hj, hv⟩ := List.getElem?_eq_some_iff.1 hv
          rw [HSP.out.1] at hj
          have h9 : (iv (repV n k))[j]? = some (.int .i64 (-1)) := by
            unfold repV
            rw [iv_app, List.getElem?_append_left (by rw [iv_length, List.length_replicate]; have := HM9.out; omega), iv_rep, List.getElem?_replicate, if_pos (by have := HM9.out; omega)]
          have h8 : v = .int .i64 (-1) := by rw [← hv]; simp [iv]
          rw [h8]
          have h7 : wr.drew.heap[g]? = some (.cells (iv (repV n k)).toArray 3 (0, 0)) := HH.out
          simp [World.cell?, h7, h9])
        go_region_held3 (fun w' => True ∧ True) (exact ⟨trivial, trivial⟩) (first | (refine step_copy_splice rfl (.tmp 41) (.tmp 44) 30 30 rfl 3 Try.underlying30 (by kernel_rfl) _ _ _ _ _ _ (by rfl) (by rfl) g k (iv (repV n k)) 3 HH.out (iv (List.replicate m (-1))) (by rw [HSP.out.1]; exact HMM.out.1.symm) (fun _ => ⟨if_neg (by omega), ⟨g, 0, none⟩, rfl, fun j v hv => by have e : (⟨g, 0, none⟩ : Addr).add j = ⟨g, j, none⟩ := (by unfold Addr.add; split <;> simp_all); rw [e]; exact HSRC.out j v hv⟩) (by rw [HSP.out.1, iv_length, repV_len (by omega)]; have := HM9.out; omega) (iv_one _) g w1 HB.out.drew (Nat.le_refl _) ?_; intro w4 hg4 hb4; have HG4 := Lib.hid hg4.out; have HB4 := Lib.hid hb4; clear hg4 hb4))
        all_goals
          rw [HSP.out.1]
          go_wp2
          go_roundw
          case rel => exact ⟨k + m, by have := HM9.out; omega, by have := HM9.out; omega, by first | rfl | (rw [Value.int.injEq]; exact ⟨rfl, by omega⟩), by rw [← rep_splice (n := n) (k := k) (m := m) (by have := HM9.out; omega)]; exact HG4.out, HB4.out⟩
          case measure => have := HM9.out; simp [intOf]; omega
      · obtain rfl : k = n := by omega
        rw [repV_all] at HH
        have HR := Lib.hid (show Row wr g 3 (iv (List.replicate k (-1))) from ⟨_, HH.out, fun j hj => by simp [hj]⟩)
        go_wp2
        go_ret
        exact ⟨g, rfl, by have := HG.out.1; omega, HR.out, HG.out.1 ▸ HB.out⟩
end Go.Proofs.Ythceffkkokgpnaa
namespace Go.Proofs.Ythceffkkokgpnaa
open Go.RowKit Go.Maps
set_option linter.unusedVariables false
theorem ptLaidOut : laidOutB Try.prog = true := by kernel_rfl
theorem ptRow : (152 : TypeId) < Try.prog.types.size := of_decide_eq_true (by kernel_rfl)
theorem ptKeyed : Keyed Try.prog 152 := Keyed.of_law (deep_law_laid ptLaidOut (m := 2) (by omega) ptRow (by kernel_rfl) (by rw [Try.underlying152]))
theorem zeroBool (w : World) : (zeroValue 4).run Try.prog w = .ok (.bool false) w := by kernel_rfl
theorem ptKeyType : Try.prog.keyType 152 = true := by kernel_rfl
theorem ptCells : Try.prog.cellsOf 152 = 2 := by kernel_rfl
theorem intCells : Try.prog.cellsOf 3 = 1 := by kernel_rfl
theorem tySize : ∃ m, Try.prog.types.size = m + 2 := ⟨Try.prog.types.size - 2, by have : 2 ≤ Try.prog.types.size := of_decide_eq_true (by kernel_rfl); omega⟩
def okI (x : Int) : Prop := -9223372036854775808 ≤ x ∧ x ≤ 9223372036854775807
theorem okI_wf {x : Int} (h : okI x) : (Lit.int .i64 x).wf = true := by unfold okI at h; exact WalkArith.wf_i64 (by omega)
def pkey (x y : Int) : Lit := .string (keyBytes [.int .i64 x, .int .i64 y])
theorem pkey_is {x y : Int} (hx : okI x) (hy : okI y) : keyOf Try.prog 152 (.agg #[.int .i64 x, .int .i64 y]) = some (pkey x y) := by
  have hwx := okI_wf hx
  have hwy := okI_wf hy
  obtain ⟨m, hm⟩ := tySize
  unfold keyOf
  simp only [Try.underlying152]
  rw [if_pos (by simp [ptKeyType, Value.formed, Try.underlying152, ptCells]), hm]
  unfold Program.keyLits
  simp only [Try.underlying152, Value.cells]
  rw [if_pos (by simp [ptCells])]
  simp [intCells, Program.keyLits, Try.underlying3, hwx, hwy, pkey]
theorem pkey_inj {x y x' y' : Int} (hx : okI x) (hy : okI y) (hx' : okI x') (hy' : okI y') (h : pkey x y = pkey x' y') : x = x' ∧ y = y' := by
  have h1 := pkey_is hx hy
  have h2 := pkey_is hx' hy'
  rw [← h] at h2
  have e := ptKeyed.inj h1 h2
  simpa using e
theorem plainElem_bool_inv {H : Type} {P : Program} {e : TypeId} (he : P.underlying e = some .bool) {v : Value} {z : DataW H × List MemPlace} (h : plainElem P e v = some z) : ∃ x, v = .bool x ∧ z = (.lit (.bool x), []) := by
  unfold plainElem at h
  rw [he] at h
  cases v <;> simp at h
  exact ⟨_, rfl, h.symm⟩
/-- block b is a map of at most n entries, made by the call; at the point (x, y) it holds S x y -/
def PSet (w : World) (b n : Nat) (S : Int → Int → Bool) : Prop :=
  ∃ D : DataW Unit, w.ownsMap Try.prog 152 (plainElem Try.prog 4) b n D ∧ ∀ x y, okI x → okI y → D.atKey (pkey x y) (.lit (.bool false)) = .lit (.bool (S x y))
section
variable {w w' : World} {b n : Nat} {S : Int → Int → Bool}
theorem PSet.made (w : World) : PSet (w.alloc (.map #[] 0)) w.heap.size 0 (fun _ _ => false) :=
  ⟨.map [], World.ownsMap_made _ _ _ _, fun x y _ _ => rfl⟩
theorem PSet.lt (h : PSet w b n S) : b < w.heap.size := by obtain ⟨D, h1, _⟩ := h; exact h1.lt
theorem PSet.mono {m : Nat} (h : PSet w b n S) (hm : n ≤ m) : PSet w b m S := by obtain ⟨D, h1, h2⟩ := h; exact ⟨D, h1.mono hm, h2⟩
theorem PSet.kept {row : Option Nat} (h : PSet w b n S) (hg : w.grownBy w' row) (hne : some b ≠ row) : PSet w' b n S := by obtain ⟨D, h1, h2⟩ := h; exact ⟨D, h1.kept hg hne, h2⟩
theorem PSet.below {B : Nat} (h : PSet w b n S) (hb : Below B w w') (hB : b < B) : PSet w' b n S := by
  obtain ⟨D, ⟨es, clock, h3, h4⟩, h2⟩ := h
  exact ⟨D, ⟨es, clock, (hb.block b hB).trans h3, h4⟩, h2⟩
theorem PSet.alloc (h : PSet w b n S) (o : Obj) : PSet (w.alloc o) b n S := by obtain ⟨D, h1, h2⟩ := h; exact ⟨D, h1.alloc o, h2⟩
theorem PSet.drew (h : PSet w b n S) (d : Drew w w') : PSet w' b n S := by obtain ⟨m, rfl⟩ := d; exact h
theorem PSet.setCell (h : PSet w b n S) {a : Addr} (ha : b ≠ a.block) (u : Value) : PSet (w.setCell a u) b n S := by obtain ⟨D, h1, h2⟩ := h; exact ⟨D, h1.setCell ha u, h2⟩
theorem PSet.congr {S' : Int → Int → Bool} (h : PSet w b n S) (e : ∀ x y, okI x → okI y → S x y = S' x y) : PSet w b n S' := by
  obtain ⟨D, h1, h2⟩ := h; exact ⟨D, h1, fun x y hx hy => by rw [h2 x y hx hy, e x y hx hy]⟩
theorem PSet.look {t : TypeId} (h : PSet w b n S) (ht : Try.prog.underlying t = some (.map 152 4)) {x y : Int} (hx : okI x) (hy : okI y) :
    (Instr.lookup t (.map (some b)) (.agg #[.int .i64 x, .int .i64 y]) false).run Try.prog w = .ok (.bool (S x y)) w := by
  obtain ⟨D, h1, h2⟩ := h
  obtain ⟨v, ps, hr, hv⟩ := h1.lookup ptKeyed ht (zeroBool w) (plainElem_bool Try.underlying4 false) (pkey_is hx hy)
  rw [h2 x y hx hy] at hv
  obtain ⟨x', rfl, hz⟩ := plainElem_bool_inv Try.underlying4 hv
  simp only [Prod.mk.injEq, DataW.lit.injEq, Lit.bool.injEq] at hz
  rw [hr, hz.1]
theorem PSet.put {t : TypeId} (h : PSet w b n S) (ht : Try.prog.underlying t = some (.map 152 4)) (hn : n < maxLen) {x y : Int} (hx : okI x) (hy : okI y) (v : Bool) :
    ∃ w', (Instr.mapUpdate t (.map (some b)) (.agg #[.int .i64 x, .int .i64 y]) (.bool v)).run Try.prog w = .ok () w' ∧ PSet w' b (n + 1) (fun p q => if p = x ∧ q = y then v else S p q) ∧ w.grownBy w' (some b) ∧ w'.heap.size = w.heap.size := by
  obtain ⟨D, h1, h2⟩ := h
  obtain ⟨w', hr, h3, h4⟩ := h1.store ptKeyed ht hn (pkey_is hx hy) (plainElem_bool Try.underlying4 v)
  refine ⟨w', hr, ⟨_, h3, fun p q hp hq => ?_⟩, h4.grown, ?_⟩
  · show _ = DataW.lit (.bool (if p = x ∧ q = y then v else S p q))
    by_cases e : p = x ∧ q = y
    · rw [if_pos e]
      obtain ⟨rfl, rfl⟩ := e
      exact atKey_put_same h1.isMap (ptKeyed.key (pkey_is hp hq)) _ _
    · rw [if_neg e, ← h2 p q hp hq]
      exact atKey_put_other (fun e2 => e (pkey_inj hp hq hx hy e2)) _ _
  · obtain ⟨es, clock, es', clock', _, rfl⟩ := h4; simp [ChangeMaps.setBlock]
theorem PSet.del {t : TypeId} (h : PSet w b n S) (ht : Try.prog.underlying t = some (.map 152 4)) {x y : Int} (hx : okI x) (hy : okI y) (ty : TypeId) :
    ∃ w', (Builtin.delete_ #[t, 152] ty #[.map (some b), .agg #[.int .i64 x, .int .i64 y]]).run Try.prog w = .ok (.tuple #[]) w' ∧ PSet w' b n (fun p q => if p = x ∧ q = y then false else S p q) ∧ w.grownBy w' (some b) ∧ w'.heap.size = w.heap.size := by
  obtain ⟨D, h1, h2⟩ := h
  obtain ⟨w', hr, h3, h4⟩ := h1.drop ptKeyed ht (pkey_is hx hy) ty
  refine ⟨w', hr, ⟨_, h3, fun p q hp hq => ?_⟩, h4.grown, ?_⟩
  · show _ = DataW.lit (.bool (if p = x ∧ q = y then false else S p q))
    by_cases e : p = x ∧ q = y
    · rw [if_pos e]
      obtain ⟨rfl, rfl⟩ := e
      exact atKey_del_same _
    · rw [if_neg e, ← h2 p q hp hq]
      exact atKey_del_other (fun e2 => e (pkey_inj hp hq hx hy e2)) _
  · obtain ⟨es, clock, es', clock', _, rfl⟩ := h4; simp [ChangeMaps.setBlock]
end
section
variable (w : World) {ops : Array Oper} {rest : List Oper} {o : Oper} {a : Act} {Q : Exit → Act → World → Prop}
/-- 'm[p]', p a point, at the operation -/
theorem wpList_look_set (hg : o.guard = none) (m x : Operand) (t : TypeId) (hop : o.op = Op.lookup t m x false) (ht : Try.prog.underlying t = some (.map 152 4)) (b n : Nat) (S : Int → Int → Bool) (hm : a.eval m = .map (some b)) (hs : PSet w b n S)
    (p q : Int) (hx : a.eval x = .agg #[.int .i64 p, .int .i64 q]) (hp : okI p) (hq : okI q) (v : Bool) (hv : S p q = v) (hK : wpList Try.prog ops Q rest (a.put o.dst (.bool v)) w) : wpList Try.prog ops Q (o :: rest) a w := by
  refine wpList_plain hg fun K' hK' => ?_
  have hr := hs.look ht hp hq
  rw [hv] at hr
  unfold Oper.wp
  simp [execOp, hop, hm, hx, hr, Result.andThen]
  exact hK' _ _ hK
/-- 'm[p] = v' at the operation -/
theorem wpList_put_set (hg : o.guard = none) (m x y : Operand) (t : TypeId) (hop : o.op = Op.mapUpdate t m x y) (ht : Try.prog.underlying t = some (.map 152 4)) (b n : Nat) (S : Int → Int → Bool) (hm : a.eval m = .map (some b)) (hs : PSet w b n S) (hn : n < maxLen)
    (p q : Int) (hx : a.eval x = .agg #[.int .i64 p, .int .i64 q]) (hp : okI p) (hq : okI q) (v : Bool) (hv : a.eval y = .bool v)
    (hK : ∀ w', PSet w' b (n + 1) (fun p' q' => if p' = p ∧ q' = q then v else S p' q') → w.grownBy w' (some b) → w'.heap.size = w.heap.size → wpList Try.prog ops Q rest (a.put o.dst undef) w') : wpList Try.prog ops Q (o :: rest) a w := by
  refine wpList_plain hg fun K' hK' => ?_
  obtain ⟨w', hr, h1, h2, h3⟩ := hs.put ht hn hp hq v
  unfold Oper.wp
  simp [execOp, hop, hm, hx, hv, hr, Result.andThen]
  exact hK' _ _ (hK w' h1 h2 h3)
/-- 'delete(m, p)' at the operation -/
theorem wpList_del_set (hg : o.guard = none) (m x : Operand) (t : TypeId) (hop : o.op = Op.call { callee := Callee.builtin Builtin.delete, args := #[m, x], argTypes := #[t, 152] }) (ht : Try.prog.underlying t = some (.map 152 4)) (b n : Nat) (S : Int → Int → Bool) (hm : a.eval m = .map (some b)) (hs : PSet w b n S)
    (p q : Int) (hx : a.eval x = .agg #[.int .i64 p, .int .i64 q]) (hp : okI p) (hq : okI q)
    (hK : ∀ w', PSet w' b n (fun p' q' => if p' = p ∧ q' = q then false else S p' q') → w.grownBy w' (some b) → w'.heap.size = w.heap.size → wpList Try.prog ops Q rest (a.put o.dst (.tuple #[])) w') : wpList Try.prog ops Q (o :: rest) a w := by
  refine wpList_plain hg fun K' hK' => ?_
  obtain ⟨w', hr, h1, h2, h3⟩ := hs.del ht hp hq o.type
  unfold Oper.wp
  simp [execOp, hop, resolve, invoke, builtin, hm, hx, hr, Result.andThen]
  exact hK' _ _ (hK w' h1 h2 h3)
end
end Go.Proofs.Ythceffkkokgpnaa
namespace Go.Proofs.Ythceffkkokgpnaa
open Go.RowKit
set_option linter.unusedVariables false
set_option linter.unusedSimpArgs false
set_option maxHeartbeats 1000000 in
theorem pointAt_any (wd i : Int) (w : World) (h1 : 1 ≤ wd) (h2 : wd ≤ 8) (h3 : 0 ≤ i) (h4 : i ≤ 64) :
    Calls Try.prog 120 #[.int .i64 wd, .int .i64 i] w fun e w' => e = .returned (.agg #[.int .i64 (i % wd), .int .i64 (i / wd)]) ∧ Below w.heap.size w w' := by
  have hne : ¬ wd = 0 := by omega
  go_enter Try.func120, Try.ntmps120
  go_wp2
  go_region
  all_goals go_wp2
  all_goals refine bodyPost_ret (v := .agg #[.int .i64 (i % wd), .int .i64 (i / wd)]) (by simp [results, Try.results120, go_sem]) rfl ⟨rfl, ?_⟩
  all_goals exact (below_all _ _).drew
theorem below_drewN {B : Nat} {w w' : World} (h : Below B w w') (n : Nat) : Below B w (w'.drewN n) := ⟨h.os, h.tape, h.output, h.size, h.block⟩
set_option maxHeartbeats 1000000 in
theorem neighbors_any (x y : Int) (w : World) (hx : -1 ≤ x ∧ x ≤ 8) (hy : -1 ≤ y ∧ y ≤ 8) :
    Calls Try.prog 166 #[.agg #[.int .i64 x, .int .i64 y]] w fun e w' => e = .returned (.agg #[.int .i64 x, .int .i64 (y - 1), .int .i64 (x + 1), .int .i64 y, .int .i64 x, .int .i64 (y + 1), .int .i64 (x - 1), .int .i64 y]) ∧ Below w.heap.size w w' := by
  go_enter Try.func166, Try.ntmps166
  go_wp2
  go_quiet (fail)
  go_wp2
  refine bodyPost_ret (v := .agg #[.int .i64 x, .int .i64 (y - 1), .int .i64 (x + 1), .int .i64 y, .int .i64 x, .int .i64 (y + 1), .int .i64 (x - 1), .int .i64 y]) (by simp [results, Try.results166, go_sem]) rfl ⟨rfl, ?_⟩
  iterate 8 (refine Below.setCell ?_ (by simp) _)
  exact below_drewN ((below_all _ _).alloc (by simp) _) _
set_option maxHeartbeats 2000000 in
theorem cellsOf_any (wd hg : Int) (a : Option Addr) (l : List Int) (c : Nat) (w : World) (hl : Ints .i64 w w.heap.size a l) (hr : regB wd hg l = true) :
    Calls Try.prog 137 #[.int .i64 wd, .slice a l.length c] w fun e w' => ∃ b, e = .returned (.map (some b)) ∧ w.heap.size ≤ b ∧ PSet w' b 64 (inP wd l) ∧ Below w.heap.size w w' := by
  have HL := Lib.hid hl
  have hs := shapeB_iff.1 (reg_shape hr)
  have hp := prod_bd (reg_shape hr)
  have hlen := reg_len hr
  have HBD := Lib.hid (reg_bd hr)
  have hmm := @run_makeMap Try.prog
  clear hl hr
  go_enter Try.func137, Try.ntmps137
  go_wp2
  clear hmm
  have M0 := Lib.hid (PSet.made w)
  go_loopw [11] (fun i wr => ∃ k : Nat, k ≤ l.length ∧ i = .int .i64 k ∧ PSet wr w.heap.size k (inP wd (l.take k)) ∧ Below w.heap.size w wr) (fun i _ => l.length - (intOf i).toNat)
  case atStart => exact ⟨0, Nat.zero_le _, rfl, M0.out.congr (fun x y _ _ => rfl), below_all _ _⟩
  case round =>
    obtain ⟨k, hk, rfl, hm, hB⟩ := hrel
    have HM := Lib.hid hm
    have HB := Lib.hid hB
    by_cases hlt : k < l.length
    · obtain ⟨b, o, rfl, hb, hc⟩ := (HL.out.below hB (Nat.le_refl _)).at_ hlt
      have hz := HBD.out _ (List.getElem_mem hlt)
      have HTK := Lib.hid (List.take_succ_eq_append_getElem hlt)
      have hlm := hm.lt
      clear hm hB
      obtain ⟨z, hzz⟩ : ∃ z, l[k] = z := ⟨_, rfl⟩
      rw [hzz] at hc hz HTK
      have hi : (k : Int) < (l.length : Int) := by omega
      have hi0 : (0 : Int) ≤ (k : Int) := by omega
      clear hzz
      have m0 : okI (z % wd) := by have := Int.emod_nonneg z (b := wd) (by omega); have := Int.emod_lt_of_pos z (b := wd) (by omega); unfold okI; omega
      have m1 : okI (z / wd) := by have := Int.ediv_nonneg (a := z) (b := wd) (by omega) (by omega); have := Int.ediv_le_self (a := z) wd (by omega); unfold okI; omega
      have HP := Lib.hid (fun W => pointAt_any wd z W (by omega) (by omega) (by omega) (by omega))
      have Hm0 := Lib.hid m0
      have Hm1 := Lib.hid m1
      clear m0 m1
      go_wp2_with fail
      refine (HP.out _).mono ?_
      rintro e w1 ⟨rfl, b1⟩
      have M1 := Lib.hid (HM.out.below b1 hlm)
      have B1 := Lib.hid (HB.out.trans (b1.mono HB.out.size))
      clear b1
      generalize hxm : z % wd = xm at *
      generalize hym : z / wd = ym at *
      have HXM := Lib.hid hxm
      have HYM := Lib.hid hym
      clear hxm hym
      go_wp2_with (at_mapUpdate; refine wpList_put_set _ rfl _ _ _ 162 rfl Try.underlying162 w.heap.size k (inP wd (l.take k)) rfl M1.out (by unfold maxLen; omega) xm ym rfl Hm0.out Hm1.out true rfl ?_; intro w2 h2 g2 s2; have M2 := Lib.hid h2; have G2 := Lib.hid g2; clear h2 g2 s2)
      go_roundw
      case rel =>
        refine ⟨k + 1, by omega, by go_num, ?_, B1.out.grown G2.out B1.out.size (fun j e => by injection e with e; omega)⟩
        refine M2.out.congr fun p q _ _ => ?_
        rw [HTK.out, inP_snoc, HXM.out, HYM.out]
        by_cases e : p = xm ∧ q = ym
        · rw [if_pos e]; obtain ⟨rfl, rfl⟩ := e; simp
        · rw [if_neg e]
          have : (decide (xm = p) && decide (ym = q)) = false := by
            rw [Bool.and_eq_false_iff]
            by_cases e1 : p = xm
            · right; simp; exact fun h => e ⟨e1, h.symm⟩
            · left; simp; exact fun h => e1 h.symm
          rw [this]; simp
      case measure => simp [intOf]; omega
    · obtain rfl : k = l.length := by omega
      rw [List.take_length] at HM
      clear hm hB
      go_wp2
      go_ret
      exact ⟨_, rfl, Nat.le_refl _, HM.out.mono hlen, HB.out⟩
end Go.Proofs.Ythceffkkokgpnaa
namespace Go.Proofs.Ythceffkkokgpnaa
open Go.RowKit
set_option linter.unusedVariables false
set_option linter.unusedSimpArgs false
set_option maxRecDepth 100000 in
set_option maxHeartbeats 8000000 in
theorem implBT_any (aa : Option Addr) (la : List StT) (ca : Nat) (ab : Option Addr) (lb : List StT) (cb : Nat) (p : Int) (w : World) (h1 : Sts w w.heap.size aa la) (h2 : Sts w w.heap.size ab lb) (n1 : la.length ≤ 1048576) (n2 : lb.length ≤ 1048576) :
    Calls Try.prog 42 #[.slice aa la.length ca, .slice ab lb.length cb, .int .i64 p] w (KvRet (btR la lb p) (btV la lb p) (btB la lb p) w) := by
  have H1 := Lib.hid h1
  have H2 := Lib.hid h2
  obtain ⟨w0, hw0⟩ : ∃ q, ((w.alloc (.cells #[.slice aa la.length ca] 33)).alloc (.cells #[.slice ab lb.length cb] 33)).alloc (.cells #[.int .i64 p] 3) = q := ⟨_, rfl⟩
  have B0 := Lib.hid (show Below w.heap.size w w0 by rw [← hw0]; exact ((below_all _ _).alloc (by simp) _).alloc (by simp; omega) _)
  have a0 : OneB w0 w.heap.size 33 (.slice aa la.length ca) := by rw [← hw0]; exact ((OneB.new w _ _).below (below_all _ _)).below (below_all _ _)
  have b0 : OneB w0 (w.heap.size + 1) 33 (.slice ab lb.length cb) := by
    rw [← hw0]
    have h := OneB.new (w.alloc (.cells #[.slice aa la.length ca] 33)) 33 (.slice ab lb.length cb)
    rw [World.size_alloc] at h
    exact h.below (below_all _ _)
  have p0 : OneB w0 (w.heap.size + 1 + 1) 3 (.int .i64 p) := by
    rw [← hw0]
    have h := OneB.new ((w.alloc (.cells #[.slice aa la.length ca] 33)).alloc (.cells #[.slice ab lb.length cb] 33)) 3 (.int .i64 p)
    rw [World.size_alloc, World.size_alloc] at h
    exact h
  have s0 : w0.heap.size = w.heap.size + 1 + 1 + 1 := by rw [← hw0]; simp
  have S0 := Lib.hid (And.intro s0 trivial)
  have HW := Lib.hid hw0
  have HO0 := Lib.hid (And.intro a0 (And.intro b0 p0))
  have c0 := a0.cell
  have c1 := b0.cell
  have c2 := p0.cell
  clear h1 h2 hw0 a0 b0 p0 s0
  go_enter Try.func42, Try.ntmps42
  go_wp2_with fail
  rw [HW.out]
  clear c0 c1 c2
  have hx := (OneB.new w0 3 (.int .i64 (-1))).cell
  rw [S0.out.1] at hx
  have E1 := Lib.hid (below_all w0 (.cells #[.int .i64 (-1)] 3))
  refine (repeat_any la.length (w.heap.size + 1 + 1 + 1) _ hx n1).mono ?_
  rintro e w1 ⟨g, rfl, hgB, hr, b1⟩
  have E2 := Lib.hid (below_then E1.out b1)
  have z0 := S0.out.1
  have z1 := E1.out.size
  have z2 : (w0.alloc (.cells #[.int .i64 (-1)] 3)).heap.size = w0.heap.size + 1 := by simp
  have hg1 : w0.heap.size < g := by omega
  have hg2 : g < w1.heap.size := hr.lt
  have HR := Lib.hid hr
  have HG := Lib.hid (And.intro hg1 hg2)
  have a1 := HO0.out.1.below E2.out
  have b1' := HO0.out.2.1.below E2.out
  have p1 := HO0.out.2.2.below E2.out
  have cB := OneB.new w1 30 (.slice (some ⟨g, 0, none⟩) la.length la.length)
  have d1 := below_all w1 (.cells #[.slice (some ⟨g, 0, none⟩) la.length la.length] 30)
  have E3 := Lib.hid (below_then E2.out d1)
  have a2 := a1.below d1
  have b2 := b1'.below d1
  have p2 := p1.below d1
  have r2 := hr.of_block (d1.block g hg2)
  have HA2 := Lib.hid (And.intro a2 (And.intro b2 (And.intro p2 (And.intro cB r2))))
  have q0 := a2.cell
  have q1 := b2.cell
  have q2 := p2.cell
  have q3 := cB.cell
  have BW3 := Lib.hid (below_then B0.out E3.out)
  have HT := Lib.hid (implTC_any aa la ca ab lb cb (some ⟨g, 0, none⟩) (List.replicate la.length (-1)) la.length p (w1.alloc (.cells #[.slice (some ⟨g, 0, none⟩) la.length la.length] 30)) ((H1.out.below BW3.out (Nat.le_refl _)).more BW3.out.size) ((H2.out.below BW3.out (Nat.le_refl _)).more BW3.out.size) (show At _ (some ⟨g, 0, none⟩) g _ from .inr ⟨rfl, r2⟩).ints n1 n2 (by simp; omega) (by simp))
  rw [List.length_replicate] at HT
  rw [bt_none] at HT
  have HS := Lib.hid (bt_start la lb p)
  have HV := Lib.hid (fun (h : btB la lb p = true) => show tcV la lb (List.replicate la.length (-1)) p = tcC la lb (List.replicate la.length (-1)) p from tcV_yes ((bt_none la lb p).trans h))
  generalize tcV la lb (List.replicate la.length (-1)) p = cost at *
  clear hx b1 hgB hr z1 z2 a1 b1' p1 cB d1 a2 b2 p2 r2 z0 hg1 hg2
  go_wp2_with fail
  refine HT.out.mono ?_
  rintro e w3 ⟨rfl, b3⟩
  have E4 := Lib.hid (below_then E3.out b3)
  have d4 := below_then b3 (below_all w3 (.cells #[.int .i64 cost] 3))
  have a4 := HA2.out.1.below d4
  have b4 := HA2.out.2.1.below d4
  have p4 := HA2.out.2.2.1.below d4
  have B4 := HA2.out.2.2.2.1.below d4
  have r4 := HA2.out.2.2.2.2.of_block (d4.block g HA2.out.2.2.2.2.lt)
  have l4 := OneB.new w3 3 (.int .i64 cost)
  have hz3 : w1.heap.size < w3.heap.size := by have := b3.size; simp at this; omega
  have HZ3 := Lib.hid (And.intro hz3 trivial)
  have BW4 := Lib.hid (below_then BW3.out d4)
  have HA4 := Lib.hid (And.intro a4 (And.intro b4 (And.intro p4 (And.intro B4 (And.intro r4 l4)))))
  clear q0 q1 q2 q3 b3 d4 hz3 HT HA2
  have q0 := a4.cell
  have q1 := b4.cell
  clear a4 b4 p4 B4 r4 l4
  cases hbt : btB la lb p with
  | false =>
    have HRV := Lib.hid (And.intro (btR_no hbt) (And.intro (btV_no hbt) hbt))
    clear HV HS hbt
    go_wp2
    refine bodyPost_ret (v := .tuple #[.slice (some ⟨w3.heap.size + 1, 0, none⟩) 0 0, .int .i64 0, .bool false]) (by simp [results, Try.results42, go_sem]) rfl ?_
    rw [HRV.out.1, HRV.out.2.1, HRV.out.2.2]
    exact ⟨_, _, rfl, OwnI.none_, BW4.out.alloc BW4.out.size _⟩
  | true =>
    obtain ⟨ha, hb, hp⟩ := bt_parts hbt
    have HRV := Lib.hid (And.intro (btR_yes hbt) (And.intro (btV_yes hbt) hbt))
    have HC := Lib.hid (HV.out hbt)
    let M : Cn := ⟨w.heap.size, w.heap.size + 1, w.heap.size + 1 + 1, g, w1.heap.size, w3.heap.size, 0, 0, 0, 0, 0, 0, 0⟩
    have HEV := Lib.hid (every_any w ⟨aa, la, ca, ab, lb, cb, p⟩ M (List.replicate la.length (-1), cost) (w3.alloc (.cells #[.int .i64 cost] 3)) H1.out H2.out ha hb hp (by
        rcases Nat.eq_zero_or_pos la.length with h | h
        · right
          show cost ≤ tcC la lb [] p
          rw [HC.out, h]
          exact Int.le_refl _
        · exact .inl h)
      (Nat.le_refl _) (by show w.heap.size < w.heap.size + 1; omega) (by show w.heap.size + 1 < w.heap.size + 1 + 1; omega) (by show w.heap.size + 1 + 1 < g; have := HG.out.1; have := S0.out.1; omega) (by show g < w1.heap.size; exact HG.out.2) (by show w1.heap.size < w3.heap.size; exact HZ3.out.1) (by show w3.heap.size < _; simp)
      BW4.out HA4.out.1 HA4.out.2.1 HA4.out.2.2.1 HA4.out.2.2.2.2.1 (by simp) HA4.out.2.2.2.1 HA4.out.2.2.2.2.2)
    have hmf : ∀ (fn : Fn) (first cap : Array Value) (w : World), (Instr.makeFunc fn first cap).run Try.prog w = .ok (.func fn first cap) w := fun _ _ _ _ => rfl
    clear HV hbt ha hb hp
    go_wp2_with fail
    refine HEV.out.mono ?_
    rintro e w5 ⟨rfl, N, n1', n2', n3', K5⟩
    have HS2 := Lib.hid (show gR (fun t => tcC la lb t p) lb.length la.length [] (List.replicate la.length (-1), cost) = btF la lb p from by rw [HC.out]; exact HS.out)
    have k5 := K5
    rw [show gR (fun t => tcC la lb t p) lb.length la.length [] (List.replicate la.length (-1), cost) = btF la lb p from HS2.out] at k5
    have cB := k5.best.cell
    have cL := k5.l_.cell
    rw [n2'] at cB
    rw [n3'] at cL
    rw [n1'] at cB
    have R5 := Lib.hid (show Row w5 g 3 (iv (btF la lb p).1) from by have h := k5.row; rw [n1'] at h; exact h)
    have B5 := Lib.hid (show Below w.heap.size w w5 from k5.b)
    have HL := Lib.hid (btF_len la lb p)
    have cB : w5.cell? ⟨w1.heap.size, 0, none⟩ = some (.slice (some ⟨g, 0, none⟩) la.length la.length) := cB
    have cL : w5.cell? ⟨w3.heap.size, 0, none⟩ = some (.int .i64 (btF la lb p).2) := cL
    clear K5 k5 HEV q0 q1 hmf
    generalize btF la lb p = r at *
    go_wp2_with fail
    go_quiet (fail)
    go_wp2
    refine bodyPost_ret (v := .tuple #[.slice (some ⟨g, 0, none⟩) la.length la.length, .int .i64 r.2, .bool true]) (by simp [results, Try.results42, go_sem]) rfl ?_
    rw [HRV.out.1, HRV.out.2.1, HRV.out.2.2]
    refine ⟨some ⟨g, 0, none⟩, la.length, by rw [HL.out], ⟨g, ?_, .inr ⟨rfl, ?_⟩⟩, ?_⟩
    · have := HG.out.1; have := S0.out.1; omega
    · exact R5.out.of_block rfl
    · exact below_drewN B5.out _
end Go.Proofs.Ythceffkkokgpnaa
namespace Go.Proofs.Ythceffkkokgpnaa
open Go.RowKit
set_option linter.unusedVariables false
set_option linter.unusedSimpArgs false
theorem stv_set (l : List StT) : ∀ (k : Nat) (x0 x1 x2 x3 : Int), k < l.length → ((((stv l).set (k * 4) (.int .i64 x0)).set (k * 4 + 1) (.int .i64 x1)).set (k * 4 + 2) (.int .i64 x2)).set (k * 4 + 3) (.int .i64 x3) = stv (l.set k (x0, x1, x2, x3)) := by
  induction l with
  | nil => intro k x0 x1 x2 x3 h; simp at h
  | cons q r ih =>
    intro k x0 x1 x2 x3 h
    cases k with
    | zero => rfl
    | succ k =>
      have e : (k + 1) * 4 = k * 4 + 1 + 1 + 1 + 1 := by omega
      rw [stv_cons, e]
      show Value.int .i64 q.1 :: Value.int .i64 q.2.1 :: Value.int .i64 q.2.2.1 :: Value.int .i64 q.2.2.2 :: ((((stv r).set (k * 4) (.int .i64 x0)).set (k * 4 + 1) (.int .i64 x1)).set (k * 4 + 2) (.int .i64 x2)).set (k * 4 + 3) (.int .i64 x3) = _
      rw [ih k x0 x1 x2 x3 (by simpa using h)]
      rfl
theorem stv_zero (n : Nat) : stv (List.replicate n ((0, 0, 0, 0) : StT)) = List.replicate (n * 4) (.int .i64 0) := by
  induction n with
  | zero => rfl
  | succ n ih =>
    rw [List.replicate_succ, stv_cons, ih, show (n + 1) * 4 = n * 4 + 1 + 1 + 1 + 1 by omega, List.replicate_succ, List.replicate_succ, List.replicate_succ, List.replicate_succ]
/-- the first k copied, the others nothing -/
def mixSt (l : List StT) (k : Nat) : List StT := l.take k ++ List.replicate (l.length - k) (0, 0, 0, 0)
theorem mixSt_zero (l : List StT) : mixSt l 0 = List.replicate l.length (0, 0, 0, 0) := by simp [mixSt]
theorem mixSt_len (l : List StT) (k : Nat) (h : k ≤ l.length) : (mixSt l k).length = l.length := by simp [mixSt]; omega
theorem mixSt_all (l : List StT) : mixSt l l.length = l := by simp [mixSt]
theorem mixSt_step (l : List StT) (k : Nat) (h : k < l.length) : (mixSt l k).set k l[k] = mixSt l (k + 1) := by
  unfold mixSt
  rw [List.set_append_right _ _ (by simp; omega), List.length_take, Nat.min_eq_left (by omega), Nat.sub_self, show l.length - k = (l.length - (k + 1)) + 1 by omega, List.replicate_succ, List.set_cons_zero, List.take_succ_eq_append_getElem h, List.append_assoc]
  rfl
theorem infoSt : (Try.prog.info? 26).map (fun i => (i.zero, i.size, i.bytes)) = some (some (.agg #[.int .i64 0, .int .i64 0, .int .i64 0, .int .i64 0]), 4, 32) := by kernel_rfl
theorem run_make_st (n : Nat) (h : n ≤ 1048576) (W : World) :
    (Instr.makeSlice 33 (.int .i64 (n : Int)) (.int .i64 (n : Int))).run Try.prog W = .ok (.slice (some ⟨W.heap.size, 0, none⟩) n n) (W.alloc (.cells (madeCells #[.int .i64 0, .int .i64 0, .int .i64 0, .int .i64 0] (n * 4)) 26)) := by
  obtain ⟨i, hi, hzz⟩ := Option.map_eq_some_iff.1 infoSt
  simp only [Prod.mk.injEq] at hzz
  obtain ⟨hz, hs, hb⟩ := hzz
  have hr := run_make (P := Try.prog) W 33 26 i (.agg #[.int .i64 0, .int .i64 0, .int .i64 0, .int .i64 0]) Try.underlying33 hi hz .i64 .i64 n n (by omega) (Int.le_refl _) (by rw [hb]; omega) (by omega)
  simp only [Int.toNat_natCast, hs] at hr
  exact hr
theorem row_made_st (n : Nat) (W : World) : Row (W.alloc (.cells (madeCells #[.int .i64 0, .int .i64 0, .int .i64 0, .int .i64 0] (n * 4)) 26)) W.heap.size 26 (stv (List.replicate n ((0, 0, 0, 0) : StT))) := by
  refine ⟨_, heap_alloc_new W _, fun k hk => ?_⟩
  rw [stv_length, List.length_replicate] at hk
  have e : (stv (List.replicate n ((0, 0, 0, 0) : StT)))[k]? = some (.int .i64 0) := by rw [stv_zero]; simp [hk]
  rw [← List.getElem?_eq_getElem, e]
  have hm : k % 4 = 0 ∨ k % 4 = 1 ∨ k % 4 = 2 ∨ k % 4 = 3 := by omega
  rcases hm with hm | hm | hm | hm <;> simp [madeCells, hk, hm]
theorem szSt_any (a : Option Addr) (n c : Nat) (left : Int) (w : World) (hn : n ≤ maxLen) (h0 : 0 ≤ left) (h1 : left ≤ 1048576) :
    Calls Try.prog 17 #[.slice a n c, .int .i64 left] w fun e w' => e = .returned (.int .i64 (if (n : Int) ≤ left then left - n else -1)) ∧ w = w' := by
  unfold maxLen at hn
  by_cases h : (n : Int) ≤ left
  · rw [if_pos h]
    go_enter Try.func17, Try.ntmps17
    go_wp2
    go_ret
    exact ⟨rfl, rfl⟩
  · rw [if_neg h]
    go_enter Try.func17, Try.ntmps17
    go_wp2
    go_ret
    exact ⟨rfl, rfl⟩
set_option maxHeartbeats 1000000 in
theorem toSt_is (x0 x1 x2 x3 : Int) (w : World) : Calls Try.prog 15 #[.agg #[.int .i64 x0, .int .i64 x1, .int .i64 x2, .int .i64 x3]] w fun e w' => e = .returned (.agg #[.int .i64 x0, .int .i64 x1, .int .i64 x2, .int .i64 x3]) ∧ Below w.heap.size w w' := by
  go_enter Try.func15, Try.ntmps15
  go_wp2
  refine bodyPost_ret (v := .agg #[.int .i64 x0, .int .i64 x1, .int .i64 x2, .int .i64 x3]) (by simp [results, Try.results15, go_sem]) rfl ⟨rfl, ?_⟩
  have b3 : ∀ o1 o2 o3, Below w.heap.size w (((w.alloc o1).alloc o2).alloc o3) := fun o1 o2 o3 => (((Below.refl _ _).alloc (Nat.le_refl _) _).alloc (by simp) _).alloc (by simp; omega) _
  repeat' first | exact b3 _ _ _ | refine Below.setCell ?_ (by simp <;> omega) _
set_option maxHeartbeats 1000000 in
theorem eqSt_yes (x0 x1 x2 x3 : Int) (w : World) : Calls Try.prog 80 #[.agg #[.int .i64 x0, .int .i64 x1, .int .i64 x2, .int .i64 x3], .agg #[.int .i64 x0, .int .i64 x1, .int .i64 x2, .int .i64 x3]] w fun e w' => e = .returned (.bool true) ∧ Below w.heap.size w w' := by
  go_enter Try.func80, Try.ntmps80
  go_wp2
  go_ret
  exact ⟨rfl, ((Below.refl _ _).alloc (Nat.le_refl _) _).alloc (by simp) _⟩
set_option maxRecDepth 100000 in
set_option maxHeartbeats 4000000 in
theorem toSts_any (a : Option Addr) (l : List StT) (c : Nat) (w : World) (hl : Sts w w.heap.size a l) (hn : l.length ≤ 1048576) :
    Calls Try.prog 19 #[.slice a l.length c] w fun e w' => e = .returned (.slice (some ⟨w.heap.size, 0, none⟩) l.length l.length) ∧ Row w' w.heap.size 26 (stv l) ∧ Below w.heap.size w w' ∧ w.heap.size < w'.heap.size := by
  have HL := Lib.hid hl
  clear hl
  have hmk := fun W => run_make_st l.length (by omega) W
  have HR0 := Lib.hid (row_made_st l.length w)
  go_enter Try.func19, Try.ntmps19
  go_wp2
  clear hmk
  go_loopw [4] (fun i wr => ∃ k : Nat, k ≤ l.length ∧ i = .int .i64 k ∧ Row wr w.heap.size 26 (stv (mixSt l k)) ∧ Below w.heap.size w wr) (fun i _ => l.length - (intOf i).toNat)
  case atStart => exact ⟨0, Nat.zero_le _, rfl, by rw [mixSt_zero]; exact HR0.out, (Below.refl _ _).alloc (Nat.le_refl _) _⟩
  case round =>
    obtain ⟨k, hk, rfl, hrow, hB⟩ := hrel
    have HR := Lib.hid hrow
    have HB := Lib.hid hB
    by_cases hlt : k < l.length
    · obtain ⟨b, o, rfl, hb, q0, q1, q2, q3⟩ := (HL.out.below hB (Nat.le_refl _)).at_ hlt
      have hml := mixSt_len l k hk
      have hnl := stv_length (mixSt l k)
      obtain ⟨u0, hu0⟩ : ∃ u, wr.cell? ⟨w.heap.size, k * 4, none⟩ = some u := ⟨_, hrow.cell (k := k * 4) (by omega)⟩
      obtain ⟨u1, hu1⟩ : ∃ u, wr.cell? ⟨w.heap.size, k * 4 + 1, none⟩ = some u := ⟨_, hrow.cell (k := k * 4 + 1) (by omega)⟩
      obtain ⟨u2, hu2⟩ : ∃ u, wr.cell? ⟨w.heap.size, k * 4 + 2, none⟩ = some u := ⟨_, hrow.cell (k := k * 4 + 2) (by omega)⟩
      obtain ⟨u3, hu3⟩ : ∃ u, wr.cell? ⟨w.heap.size, k * 4 + 3, none⟩ = some u := ⟨_, hrow.cell (k := k * 4 + 3) (by omega)⟩
      have f0 := hrow.frozen (k * 4)
      have f1 := hrow.frozen (k * 4 + 1)
      have f2 := hrow.frozen (k * 4 + 2)
      have f3 := hrow.frozen (k * 4 + 3)
      have hz := hrow.lt
      have HST := Lib.hid (mixSt_step l k hlt)
      have HNS := Lib.hid (fun x0 x1 x2 x3 => stv_set (mixSt l k) k x0 x1 x2 x3 (by omega))
      clear hrow hB hml hnl
      have hi : (k : Int) < (l.length : Int) := by omega
      have hi0 : (0 : Int) ≤ (k : Int) := by omega
      obtain ⟨x0, hx0⟩ : ∃ x, l[k].1 = x := ⟨_, rfl⟩
      rw [hx0] at q0
      obtain ⟨x1, hx1⟩ : ∃ x, l[k].2.1 = x := ⟨_, rfl⟩
      rw [hx1] at q1
      obtain ⟨x2, hx2⟩ : ∃ x, l[k].2.2.1 = x := ⟨_, rfl⟩
      rw [hx2] at q2
      obtain ⟨x3, hx3⟩ : ∃ x, l[k].2.2.2 = x := ⟨_, rfl⟩
      rw [hx3] at q3
      have HXY := Lib.hid (show l[k] = (x0, x1, x2, x3) by rw [← hx0, ← hx1, ← hx2, ← hx3])
      clear hx0 hx1 hx2 hx3
      go_wp2_with fail
      refine (toSt_is x0 x1 x2 x3 wr).mono ?_
      rintro e w1 ⟨rfl, b1⟩
      have hu0' : w1.cell? ⟨w.heap.size, k * 4, none⟩ = some u0 := (b1.cell (p := ⟨w.heap.size, k * 4, none⟩) hz).trans hu0
      have hu1' : w1.cell? ⟨w.heap.size, k * 4 + 1, none⟩ = some u1 := (b1.cell (p := ⟨w.heap.size, k * 4 + 1, none⟩) hz).trans hu1
      have hu2' : w1.cell? ⟨w.heap.size, k * 4 + 2, none⟩ = some u2 := (b1.cell (p := ⟨w.heap.size, k * 4 + 2, none⟩) hz).trans hu2
      have hu3' : w1.cell? ⟨w.heap.size, k * 4 + 3, none⟩ = some u3 := (b1.cell (p := ⟨w.heap.size, k * 4 + 3, none⟩) hz).trans hu3
      have f0' : w1.frozen? ⟨w.heap.size, k * 4, none⟩ = false := (b1.frozen (p := ⟨w.heap.size, k * 4, none⟩) hz).trans f0
      have f1' : w1.frozen? ⟨w.heap.size, k * 4 + 1, none⟩ = false := (b1.frozen (p := ⟨w.heap.size, k * 4 + 1, none⟩) hz).trans f1
      have f2' : w1.frozen? ⟨w.heap.size, k * 4 + 2, none⟩ = false := (b1.frozen (p := ⟨w.heap.size, k * 4 + 2, none⟩) hz).trans f2
      have f3' : w1.frozen? ⟨w.heap.size, k * 4 + 3, none⟩ = false := (b1.frozen (p := ⟨w.heap.size, k * 4 + 3, none⟩) hz).trans f3
      have HR1 := Lib.hid (HR.out.of_block (b1.block w.heap.size hz))
      have HB1 := Lib.hid (HB.out.trans (b1.mono HB.out.size))
      clear hu0 f0 hu1 f1 hu2 f2 hu3 f3 b1 q0 q1 q2 q3
      go_wp2
      go_roundw
      case rel =>
        refine ⟨k + 1, by omega, by go_num, ?_, ((((HB1.out.setCell (p := ⟨w.heap.size, k * 4, none⟩) (Nat.le_refl _) _).setCell (p := ⟨w.heap.size, k * 4 + 1, none⟩) (Nat.le_refl _) _).setCell (p := ⟨w.heap.size, k * 4 + 2, none⟩) (Nat.le_refl _) _).setCell (p := ⟨w.heap.size, k * 4 + 3, none⟩) (Nat.le_refl _) _)⟩
        have h := ((((HR1.out.set (k * 4) (.int .i64 x0)).set (k * 4 + 1) (.int .i64 x1)).set (k * 4 + 2) (.int .i64 x2)).set (k * 4 + 3) (.int .i64 x3))
        rw [HNS.out, ← HXY.out, HST.out] at h
        exact h
      case measure => simp [intOf]; omega
    · obtain rfl : k = l.length := by omega
      rw [mixSt_all] at HR
      have hz := hrow.lt
      clear hrow hB
      go_wp2
      go_ret
      exact ⟨rfl, HR.out, HB.out, hz⟩
set_option maxRecDepth 100000 in
set_option maxHeartbeats 2000000 in
theorem eqSts_yes (a a' : Option Addr) (l : List StT) (c c' : Nat) (w : World) (hl : Sts w w.heap.size a l) (hl' : Sts w w.heap.size a' l) (hn : l.length ≤ 1048576) :
    Calls Try.prog 22 #[.slice a l.length c, .slice a' l.length c'] w fun e w' => e = .returned (.bool true) ∧ Below w.heap.size w w' := by
  have HL := Lib.hid hl
  have HL' := Lib.hid hl'
  clear hl hl'
  go_enter Try.func22, Try.ntmps22
  go_wp2
  go_loopw [5] (fun i wr => ∃ k : Nat, k ≤ l.length ∧ i = .int .i64 k ∧ Below w.heap.size w wr) (fun i _ => l.length - (intOf i).toNat)
  case atStart => exact ⟨0, Nat.zero_le _, rfl, Below.refl _ _⟩
  case round =>
    obtain ⟨k, hk, rfl, hB⟩ := hrel
    have HB := Lib.hid hB
    by_cases hlt : k < l.length
    · obtain ⟨b, o, rfl, hb, q0, q1, q2, q3⟩ := (HL.out.below hB (Nat.le_refl _)).at_ hlt
      obtain ⟨b', o', rfl, hb', p0, p1, p2, p3⟩ := (HL'.out.below hB (Nat.le_refl _)).at_ hlt
      clear hB
      have hi : (k : Int) < (l.length : Int) := by omega
      have hi0 : (0 : Int) ≤ (k : Int) := by omega
      generalize l[k].1 = x0 at *
      generalize l[k].2.1 = x1 at *
      generalize l[k].2.2.1 = x2 at *
      generalize l[k].2.2.2 = x3 at *
      go_wp2_with fail
      go_still_tail 8, (by kernel_rfl)
      change wpList _ _ _ _ _ wr.drew
      have HB1 := Lib.hid (HB.out.drew)
      generalize wr.drew = w2 at *
      go_wp2_with fail
      refine (eqSt_yes x0 x1 x2 x3 w2).mono ?_
      rintro e w3 ⟨rfl, b3⟩
      have HB3 := Lib.hid (HB1.out.trans (b3.mono HB1.out.size))
      clear b3
      go_wp2
      go_roundw
      case rel => exact ⟨k + 1, by omega, by go_num, HB3.out⟩
      case measure => simp [intOf]; omega
    · have hge : (l.length : Int) ≤ (k : Int) := by omega
      go_wp2
      go_ret
      exact ⟨rfl, HB.out⟩
/-- n structs of numbers from k on -/
def marksSt (k : Int) (n : Nat) : List StT := (List.range n).map fun (i : Nat) => (k + 4 * (i : Int), k + 4 * (i : Int) + 1, k + 4 * (i : Int) + 2, k + 4 * (i : Int) + 3)
theorem marksSt_length (k : Int) (n : Nat) : (marksSt k n).length = n := by simp [marksSt]
theorem marksSt_get (k : Int) (n i : Nat) (h : i < (marksSt k n).length) : (marksSt k n)[i] = (k + 4 * (i : Int), k + 4 * (i : Int) + 1, k + 4 * (i : Int) + 2, k + 4 * (i : Int) + 3) := by simp [marksSt]
def partSt (k : Int) (l : List StT) (i : Nat) : List StT := marksSt k i ++ l.drop i
theorem partSt_zero (k : Int) (l : List StT) : partSt k l 0 = l := by simp [partSt, marksSt]
theorem partSt_length (k : Int) (l : List StT) (i : Nat) (h : i ≤ l.length) : (partSt k l i).length = l.length := by simp [partSt, marksSt_length]; omega
theorem partSt_all (k : Int) (l : List StT) : partSt k l l.length = marksSt k l.length := by simp [partSt]
theorem partSt_step (k : Int) (l : List StT) (i : Nat) (h : i < l.length) : (partSt k l i).set i (k + 4 * (i : Int), k + 4 * (i : Int) + 1, k + 4 * (i : Int) + 2, k + 4 * (i : Int) + 3) = partSt k l (i + 1) := by
  unfold partSt
  rw [List.set_append_right _ _ (by rw [marksSt_length]; omega), marksSt_length, Nat.sub_self, List.drop_eq_getElem_cons h, List.set_cons_zero]
  unfold marksSt
  rw [List.range_succ, List.map_append, List.append_assoc]
  rfl
set_option maxRecDepth 100000 in
set_option maxHeartbeats 4000000 in
theorem markSts_any (a : Option Addr) (l : List StT) (c g : Nat) (k0 : Int) (w : World) (hl : AtSt w a g l) (hn : l.length ≤ 1048576) (h0 : 0 ≤ k0) (h1 : k0 ≤ 8388608) :
    Calls Try.prog 26 #[.slice a l.length c, .int .i64 k0] w fun e w' => e = .returned (.int .i64 (k0 + 4 * (l.length : Int))) ∧ AtSt w' a g (marksSt k0 l.length) ∧ Only g w w' := by
  have HL := Lib.hid hl
  clear hl
  go_enter Try.func26, Try.ntmps26
  go_wp2
  go_loopw [1, 5] (fun q i wr => ∃ k : Nat, k ≤ l.length ∧ i = .int .i64 k ∧ q = .int .i64 (k0 + 4 * (k : Int)) ∧ AtSt wr a g (partSt k0 l k) ∧ Only g w wr) (fun _ i _ => l.length - (intOf i).toNat)
  case atStart => exact ⟨0, Nat.zero_le _, rfl, by simp, by rw [partSt_zero]; exact HL.out, Only.refl g w⟩
  case round =>
    obtain ⟨k, hk, rfl, rfl, hat, ho⟩ := hrel
    have hpl := partSt_length k0 l k hk
    by_cases hlt : k < l.length
    · rcases hat with hat | ⟨rfl, hrow⟩
      · rw [hat] at hpl; simp at hpl; omega
      · have hnl := stv_length (partSt k0 l k)
        obtain ⟨z0, hc0⟩ : ∃ z, wr.cell? ⟨g, k * 4, none⟩ = some z := ⟨_, hrow.cell (k := k * 4) (by omega)⟩
        obtain ⟨z1, hc1⟩ : ∃ z, wr.cell? ⟨g, k * 4 + 1, none⟩ = some z := ⟨_, hrow.cell (k := k * 4 + 1) (by omega)⟩
        obtain ⟨z2, hc2⟩ : ∃ z, wr.cell? ⟨g, k * 4 + 2, none⟩ = some z := ⟨_, hrow.cell (k := k * 4 + 2) (by omega)⟩
        obtain ⟨z3, hc3⟩ : ∃ z, wr.cell? ⟨g, k * 4 + 3, none⟩ = some z := ⟨_, hrow.cell (k := k * 4 + 3) (by omega)⟩
        have hf0 := hrow.frozen (k * 4)
        have hf1 := hrow.frozen (k * 4 + 1)
        have hf2 := hrow.frozen (k * 4 + 2)
        have hf3 := hrow.frozen (k * 4 + 3)
        have HR := Lib.hid ((((hrow.set (k * 4) (.int .i64 (k0 + 4 * (k : Int)))).set (k * 4 + 1) (.int .i64 (k0 + 4 * (k : Int) + 1))).set (k * 4 + 2) (.int .i64 (k0 + 4 * (k : Int) + 2))).set (k * 4 + 3) (.int .i64 (k0 + 4 * (k : Int) + 3)))
        have HNS := Lib.hid (stv_set (partSt k0 l k) k (k0 + 4 * (k : Int)) (k0 + 4 * (k : Int) + 1) (k0 + 4 * (k : Int) + 2) (k0 + 4 * (k : Int) + 3) (by omega))
        have HO := Lib.hid ho
        have HS := Lib.hid (partSt_step k0 l k hlt)
        have hi : (k : Int) < (l.length : Int) := by omega
        have hi0 : (0 : Int) ≤ (k : Int) := by omega
        obtain ⟨m0, hm0⟩ : ∃ m, k0 + 4 * (k : Int) = m := ⟨_, rfl⟩
        have hmb : 0 ≤ m0 ∧ m0 ≤ 16777216 := by omega
        rw [hm0] at HR HNS HS
        have HM := Lib.hid hm0
        clear hpl hrow ho HL hnl
        rw [hm0]
        clear hm0
        have e2 : m0 + 2 = m0 + 1 + 1 := by omega
        rw [e2] at HR HNS HS
        have e3 : m0 + 3 = m0 + 1 + 1 + 1 := by omega
        rw [e3] at HR HNS HS
        have HE := Lib.hid (show k0 + 4 * (k : Int) = m0 from HM.out)
        clear e2 e3
        go_wp2
        go_roundw
        case rel => exact ⟨k + 1, by omega, by go_num, by have := HE.out; rw [Value.int.injEq]; exact ⟨rfl, by omega⟩, .inr ⟨rfl, by have := HR.out; rw [HNS.out, HS.out] at this; exact this⟩, ((((HO.out.setCell (k * 4) _).setCell (k * 4 + 1) _).setCell (k * 4 + 2) _).setCell (k * 4 + 3) _)⟩
        case measure => simp [intOf]; omega
    · obtain rfl : k = l.length := by omega
      have HP := Lib.hid (partSt_all k0 l)
      clear hpl HL
      go_wp2
      go_ret
      exact ⟨rfl, by rw [← HP.out]; exact hat, ho⟩
set_option maxRecDepth 100000 in
set_option maxHeartbeats 4000000 in
theorem heldSts_any (a : Option Addr) (n c : Nat) (k0 : Int) (w : World) (hl : Sts w w.heap.size a (marksSt k0 n)) (hn : n ≤ 1048576) (h0 : 0 ≤ k0) (h1 : k0 ≤ 8388608) :
    Calls Try.prog 40 #[.slice a n c, .int .i64 k0] w fun e w' => e = .returned (.int .i64 (k0 + 4 * (n : Int))) ∧ w = w' := by
  have HL := Lib.hid hl
  clear hl
  go_enter Try.func40, Try.ntmps40
  go_wp2
  go_loop [1, 5] (fun q i => ∃ k : Nat, k ≤ n ∧ i = .int .i64 k ∧ q = .int .i64 (k0 + 4 * (k : Int))) (fun _ i => n - (intOf i).toNat)
  case atStart => exact ⟨0, Nat.zero_le _, rfl, by simp⟩
  case round =>
    obtain ⟨k, hk, rfl, rfl⟩ := hrel
    by_cases hlt : k < n
    · obtain ⟨b, o, rfl, hb, c0, c1, c2, c3⟩ := HL.out.at_ (j := k) (by rw [marksSt_length]; exact hlt)
      rw [marksSt_get] at c0 c1 c2 c3
      simp only at c0 c1 c2 c3
      obtain ⟨m0, hm0⟩ : ∃ m, k0 + 4 * (k : Int) = m := ⟨_, rfl⟩
      have hmb : 0 ≤ m0 ∧ m0 ≤ 16777216 := by omega
      have hi : (k : Int) < (n : Int) := by omega
      have hi0 : (0 : Int) ≤ (k : Int) := by omega
      rw [hm0] at c0 c1 c2 c3
      rw [hm0]
      have HM := Lib.hid hm0
      clear hm0
      have e2 : m0 + 2 = m0 + 1 + 1 := by omega
      rw [e2] at c2
      have e3 : m0 + 3 = m0 + 1 + 1 + 1 := by omega
      rw [e3] at c3
      have HE := Lib.hid (show k0 + 4 * (k : Int) = m0 from HM.out)
      clear e2 e3
      go_wp2
      go_round
      case rel => exact ⟨k + 1, by omega, by go_num, by have := HE.out; rw [Value.int.injEq]; exact ⟨rfl, by omega⟩⟩
      case measure => simp [intOf]; omega
    · obtain rfl : k = n := by omega
      go_wp2
      go_ret
      exact ⟨rfl, rfl⟩
end Go.Proofs.Ythceffkkokgpnaa
namespace Go.Proofs.Ythceffkkokgpnaa
open Go.RowKit
set_option linter.unusedVariables false
set_option linter.unusedSimpArgs false
set_option maxRecDepth 100000 in
set_option maxHeartbeats 16000000 in
theorem walk_BtLaw (a0 : Option Addr) (l0 : List StT) (c0 : Nat) (a1 : Option Addr) (l1 : List StT) (c1 : Nat) (x2 : Int) (w : World) (hl0 : Sts w w.heap.size a0 l0) (hm0 : l0.length ≤ maxLen) (hl1 : Sts w w.heap.size a1 l1) (hm1 : l1.length ≤ maxLen) :
    Calls Try.prog 8 #[.slice a0 l0.length c0, .slice a1 l1.length c1, .int .i64 x2] w fun e w' => e = .returned (.bool true) ∧ Below w.heap.size w w' := by
  have HZ0 := Lib.hid (fun W h => szSt_any a0 l0.length c0 (1048576) W hm0 h (by omega))
  have HZ1 := Lib.hid (fun W h => szSt_any a1 l1.length c1 (1048576 - (l0.length : Int)) W hm1 h (by omega))
  unfold maxLen at hm0 hm1
  by_cases hn0 : (l0.length : Int) ≤ 1048576
  · rw [if_pos hn0] at HZ0
    have q0 : l0.length ≤ 1048576 := by omega
    have hz0 : ¬ (1048576 - (l0.length : Int) < 0) := by omega
    by_cases hn1 : (l1.length : Int) ≤ 1048576 - (l0.length : Int)
    · rw [if_pos hn1] at HZ1
      have q1 : l1.length ≤ 1048576 := by omega
      have hz1 : ¬ (1048576 - (l0.length : Int) - (l1.length : Int) < 0) := by omega
      have HT0 := Lib.hid (fun W (G : Below w.heap.size w W) => toSts_any a0 l0 c0 W ((hl0.below G (Nat.le_refl _)).more G.size) q0)
      have HT1 := Lib.hid (fun W (G : Below w.heap.size w W) => toSts_any a1 l1 c1 W ((hl1.below G (Nat.le_refl _)).more G.size) q1)
      have HS := Lib.hid (fun p0 p1 W (h0 : Sts W W.heap.size (some ⟨p0, 0, none⟩) l0) (h1 : Sts W W.heap.size (some ⟨p1, 0, none⟩) l1) => specBT_any (some ⟨p0, 0, none⟩) l0 l0.length (some ⟨p1, 0, none⟩) l1 l1.length x2 W h0 h1 q0 q1)
      have HI := Lib.hid (fun p0 p1 W (h0 : Sts W W.heap.size (some ⟨p0, 0, none⟩) l0) (h1 : Sts W W.heap.size (some ⟨p1, 0, none⟩) l1) => implBT_any (some ⟨p0, 0, none⟩) l0 l0.length (some ⟨p1, 0, none⟩) l1 l1.length x2 W h0 h1 q0 q1)
      have hr1 : (btR l0 l1 x2).length ≤ 1048576 := (by have := btR_len l0 l1 x2; omega)
      unfold KsRet at HS
      unfold KvRet at HI
      generalize btR l0 l1 x2 = r at *
      generalize btV l0 l1 x2 = v at *
      generalize btB l0 l1 x2 = rb at *
      have er : (rb != rb) = false := by simp
      have ev : (v != v) = false := by simp
      have G0 := Lib.hid (Below.refl w.heap.size w)
      clear hl0 hl1
      go_enter Try.func8, Try.ntmps8
      go_wp2_with fail
      refine (HZ0.out _ (by omega)).mono ?_
      rintro e w1 ⟨rfl, rfl⟩
      go_wp2_with fail
      refine (HZ1.out _ (by omega)).mono ?_
      rintro e w1 ⟨rfl, rfl⟩
      go_wp2_with fail
      refine (HT0.out _ G0.out).mono ?_
      rintro e w11 ⟨rfl, r1, b1, z1⟩
      have G1 := Lib.hid (below_then G0.out b1)
      have Pa1 := Lib.hid (show AtSt w11 (some ⟨w.heap.size, 0, none⟩) w.heap.size l0 from .inr ⟨rfl, r1⟩)
      clear r1
      have s1 := b1.size
      clear b1 G0
      go_wp2_with fail
      refine (HT1.out _ G1.out).mono ?_
      rintro e w12 ⟨rfl, r2, b2, z2⟩
      have G2 := Lib.hid (below_then G1.out b2)
      have Pa2 := Lib.hid (Pa1.out.below b2)
      have Pb2 := Lib.hid (show AtSt w12 (some ⟨w11.heap.size, 0, none⟩) w11.heap.size l1 from .inr ⟨rfl, r2⟩)
      clear r2
      have s2 := b2.size
      clear b2 G1 Pa1
      go_wp2_with fail
      refine (HS.out _ _ _ Pa2.out.reads Pb2.out.reads).mono ?_
      rintro e w13 ⟨aV, cV, rfl, p3, b3⟩
      have u3 := b3.size
      have G3 := Lib.hid (below_then G2.out b3)
      have Pa3 := Lib.hid (Pa2.out.below b3)
      have Pb3 := Lib.hid (Pb2.out.below b3)
      have V3 := Lib.hid p3
      clear p3
      have s3 := b3.size
      clear b3 G2 Pa2 Pb2
      go_wp2_with fail
      clear Pa3
      clear Pb3
      refine (HT0.out _ G3.out).mono ?_
      rintro e w14 ⟨rfl, r4, b4, z4⟩
      have G4 := Lib.hid (below_then G3.out b4)
      have V4 := Lib.hid (V3.out.below b4 (by omega))
      have Xa4 := Lib.hid (show AtSt w14 (some ⟨w13.heap.size, 0, none⟩) w13.heap.size l0 from .inr ⟨rfl, r4⟩)
      clear r4
      have s4 := b4.size
      clear b4 G3 V3
      go_wp2_with fail
      refine (HT1.out _ G4.out).mono ?_
      rintro e w15 ⟨rfl, r5, b5, z5⟩
      have G5 := Lib.hid (below_then G4.out b5)
      have V5 := Lib.hid (V4.out.below b5 (by omega))
      have Xa5 := Lib.hid (Xa4.out.below b5)
      have Xb5 := Lib.hid (show AtSt w15 (some ⟨w14.heap.size, 0, none⟩) w14.heap.size l1 from .inr ⟨rfl, r5⟩)
      clear r5
      have s5 := b5.size
      clear b5 G4 V4 Xa4
      go_wp2_with fail
      refine (HI.out _ _ _ Xa5.out.reads Xb5.out.reads).mono ?_
      rintro e w16 ⟨aR, cR, rfl, p6, b6⟩
      have u6 := b6.size
      have G6 := Lib.hid (below_then G5.out b6)
      have V6 := Lib.hid (V5.out.below b6 (by omega))
      have Xa6 := Lib.hid (Xa5.out.below b6)
      have Xb6 := Lib.hid (Xb5.out.below b6)
      obtain ⟨gR, hgR, hgnR, at6⟩ := p6.pick b6.size
      have R6 := Lib.hid at6
      clear at6
      clear p6
      have s6 := b6.size
      clear b6 G5 V5 Xa5 Xb5
      go_wp2_with fail
      refine (eqInts_yes _ _ r _ _ _ _ _ R6.out.ints V6.out hr1).mono ?_
      rintro e w17 ⟨rfl, d7⟩
      have b7 := d7.below w16.heap.size
      clear d7
      have G7 := Lib.hid (below_then G6.out b7)
      have V7 := Lib.hid (V6.out.below b7 (by omega))
      have Xa7 := Lib.hid (Xa6.out.below b7)
      have Xb7 := Lib.hid (Xb6.out.below b7)
      have R7 := Lib.hid (R6.out.below b7)
      have s7 := b7.size
      clear b7 G6 V6 Xa6 Xb6 R6
      go_wp2_with fail
      refine (HT0.out _ G7.out).mono ?_
      rintro e w18 ⟨rfl, r8, b8, z8⟩
      have G8 := Lib.hid (below_then G7.out b8)
      have V8 := Lib.hid (V7.out.below b8 (by omega))
      have Xa8 := Lib.hid (Xa7.out.below b8)
      have Xb8 := Lib.hid (Xb7.out.below b8)
      have R8 := Lib.hid (R7.out.below b8)
      have E8 := Lib.hid (show AtSt w18 (some ⟨w17.heap.size, 0, none⟩) w17.heap.size l0 from .inr ⟨rfl, r8⟩)
      clear r8
      have s8 := b8.size
      clear b8 G7 V7 Xa7 Xb7 R7
      go_wp2_with fail
      refine (eqSts_yes _ _ l0 _ _ _ Xa8.out.reads E8.out.reads q0).mono ?_
      rintro e w19 ⟨rfl, b9⟩
      have G9 := Lib.hid (below_then G8.out b9)
      have V9 := Lib.hid (V8.out.below b9 (by omega))
      have Xa9 := Lib.hid (Xa8.out.below b9)
      have Xb9 := Lib.hid (Xb8.out.below b9)
      have R9 := Lib.hid (R8.out.below b9)
      have E9 := Lib.hid (E8.out.below b9)
      have s9 := b9.size
      clear b9 G8 V8 Xa8 Xb8 R8 E8
      clear E9
      go_wp2_with fail
      refine (HT1.out _ G9.out).mono ?_
      rintro e w20 ⟨rfl, r10, b10, z10⟩
      have G10 := Lib.hid (below_then G9.out b10)
      have V10 := Lib.hid (V9.out.below b10 (by omega))
      have Xa10 := Lib.hid (Xa9.out.below b10)
      have Xb10 := Lib.hid (Xb9.out.below b10)
      have R10 := Lib.hid (R9.out.below b10)
      have E10 := Lib.hid (show AtSt w20 (some ⟨w19.heap.size, 0, none⟩) w19.heap.size l1 from .inr ⟨rfl, r10⟩)
      clear r10
      have s10 := b10.size
      clear b10 G9 V9 Xa9 Xb9 R9
      go_wp2_with fail
      refine (eqSts_yes _ _ l1 _ _ _ Xb10.out.reads E10.out.reads q1).mono ?_
      rintro e w21 ⟨rfl, b11⟩
      have G11 := Lib.hid (below_then G10.out b11)
      have V11 := Lib.hid (V10.out.below b11 (by omega))
      have Xa11 := Lib.hid (Xa10.out.below b11)
      have Xb11 := Lib.hid (Xb10.out.below b11)
      have R11 := Lib.hid (R10.out.below b11)
      have E11 := Lib.hid (E10.out.below b11)
      have s11 := b11.size
      clear b11 G10 V10 Xa10 Xb10 R10 E10
      clear E11
      go_wp2_with fail
      refine (markSts_any _ l0 _ w13.heap.size (1) _ Xa11.out q0 (by omega) (by omega)).mono ?_
      rintro e w22 ⟨rfl, t12, o12⟩
      have s12 := o12.1.size
      have G12 := Lib.hid (below_turn G11.out o12.1 G11.out.size (by omega))
      have V12 := Lib.hid (V11.out.turn o12.1 (by omega) (by omega))
      have Xb12 := Lib.hid (Xb11.out.only o12 (by omega))
      have R12 := Lib.hid (R11.out.only o12 (by omega))
      clear t12 o12 G11 V11 Xa11 Xb11 R11
      go_wp2_with fail
      refine (markSts_any _ l1 _ w14.heap.size (1 + 4 * (l0.length : Int)) _ Xb12.out q1 (by omega) (by omega)).mono ?_
      rintro e w23 ⟨rfl, t13, o13⟩
      have s13 := o13.1.size
      have G13 := Lib.hid (below_turn G12.out o13.1 G12.out.size (by omega))
      have V13 := Lib.hid (V12.out.turn o13.1 (by omega) (by omega))
      have R13 := Lib.hid (R12.out.only o13 (by omega))
      clear t13 o13 G12 V12 Xb12 R12
      go_wp2_with fail
      refine (eqInts_yes _ _ r _ _ _ _ _ R13.out.ints V13.out hr1).mono ?_
      rintro e w24 ⟨rfl, d14⟩
      have b14 := d14.below w23.heap.size
      clear d14
      have G14 := Lib.hid (below_then G13.out b14)
      have V14 := Lib.hid (V13.out.below b14 (by omega))
      have R14 := Lib.hid (R13.out.below b14)
      have s14 := b14.size
      clear b14 G13 V13 R13
      have hk0 : ¬ (1 + 4 * (l0.length : Int) + 4 * (l1.length : Int) < 0) := by omega
      go_wp2_with fail
      refine (markInts_any _ r _ gR 1 _ R14.out hr1 (by omega) (by omega)).mono ?_
      rintro e w25 ⟨rfl, t15, o15⟩
      have s15 := o15.1.size
      have G15 := Lib.hid (below_turn G14.out o15.1 G14.out.size (by omega))
      have V15 := Lib.hid (V14.out.turn o15.1 (by omega) (by omega))
      have M15 := Lib.hid t15
      clear t15 o15 G14 V14 R14
      have hh1 : ¬ (1 + (r.length : Int) < 0) := by omega
      go_wp2_with fail
      refine (heldInts_any _ r.length _ _ 1 _ M15.out.ints hr1 (by omega) (by omega)).mono ?_
      rintro e w91 ⟨rfl, rfl⟩
      go_wp2_with fail
      refine (HT0.out _ G15.out).mono ?_
      rintro e w26 ⟨rfl, r16, b16, z16⟩
      have G16 := Lib.hid (below_then G15.out b16)
      have V16 := Lib.hid (V15.out.below b16 (by omega))
      have M16 := Lib.hid (M15.out.below b16)
      have Pa16 := Lib.hid (show AtSt w26 (some ⟨w25.heap.size, 0, none⟩) w25.heap.size l0 from .inr ⟨rfl, r16⟩)
      clear r16
      have s16 := b16.size
      clear b16 G15 V15 M15
      go_wp2_with fail
      refine (HT1.out _ G16.out).mono ?_
      rintro e w27 ⟨rfl, r17, b17, z17⟩
      have G17 := Lib.hid (below_then G16.out b17)
      have V17 := Lib.hid (V16.out.below b17 (by omega))
      have M17 := Lib.hid (M16.out.below b17)
      have Pa17 := Lib.hid (Pa16.out.below b17)
      have Pb17 := Lib.hid (show AtSt w27 (some ⟨w26.heap.size, 0, none⟩) w26.heap.size l1 from .inr ⟨rfl, r17⟩)
      clear r17
      have s17 := b17.size
      clear b17 G16 V16 M16 Pa16
      go_wp2_with fail
      refine (HI.out _ _ _ Pa17.out.reads Pb17.out.reads).mono ?_
      rintro e w28 ⟨aR, cR, rfl, p18, b18⟩
      have u18 := b18.size
      have G18 := Lib.hid (below_then G17.out b18)
      have V18 := Lib.hid (V17.out.below b18 (by omega))
      have M18 := Lib.hid (M17.out.below b18)
      have Pa18 := Lib.hid (Pa17.out.below b18)
      have Pb18 := Lib.hid (Pb17.out.below b18)
      obtain ⟨gR, hgR, hgnR, at18⟩ := p18.pick b18.size
      have R18 := Lib.hid at18
      clear at18
      clear p18
      have s18 := b18.size
      clear b18 G17 V17 M17 Pa17 Pb17
      go_wp2_with fail
      clear Pa18
      clear Pb18
      refine (eqInts_yes _ _ r _ _ _ _ _ R18.out.ints V18.out hr1).mono ?_
      rintro e w29 ⟨rfl, d19⟩
      have b19 := d19.below w28.heap.size
      clear d19
      have G19 := Lib.hid (below_then G18.out b19)
      have V19 := Lib.hid (V18.out.below b19 (by omega))
      have M19 := Lib.hid (M18.out.below b19)
      have R19 := Lib.hid (R18.out.below b19)
      have s19 := b19.size
      clear b19 G18 V18 M18 R18
      clear R19
      have hh2 : ¬ (1 + (r.length : Int) < 0) := by omega
      go_wp2_with fail
      refine (heldInts_any _ r.length _ _ 1 _ M19.out.ints hr1 (by omega) (by omega)).mono ?_
      rintro e w92 ⟨rfl, rfl⟩
      go_wp2
      go_ret
      exact ⟨rfl, G19.out⟩
    · rw [if_neg hn1] at HZ1
      have hz1 : ¬ (1048576 - (l0.length : Int) - (l1.length : Int) ≥ 0) ∨ True := .inr trivial
      clear hl0 hl1
      go_enter Try.func8, Try.ntmps8
      go_wp2_with fail
      refine (HZ0.out _ (by omega)).mono ?_
      rintro e w1 ⟨rfl, rfl⟩
      go_wp2_with fail
      refine (HZ1.out _ (by omega)).mono ?_
      rintro e w1 ⟨rfl, rfl⟩
      go_wp2
      go_ret
      exact ⟨rfl, Below.refl _ _⟩
  · rw [if_neg hn0] at HZ0
    have hz0 : ¬ (1048576 - (l0.length : Int) ≥ 0) ∨ True := .inr trivial
    clear hl0 hl1
    go_enter Try.func8, Try.ntmps8
    go_wp2_with fail
    refine (HZ0.out _ (by omega)).mono ?_
    rintro e w1 ⟨rfl, rfl⟩
    go_wp2
    go_ret
    exact ⟨rfl, Below.refl _ _⟩
end Go.Proofs.Ythceffkkokgpnaa
