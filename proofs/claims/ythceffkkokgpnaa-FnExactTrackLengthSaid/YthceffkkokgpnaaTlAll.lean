/- The distance of two storms: the model's and the program's. The program's TrackingCost. What BestTracking answers. Tracks: plain mathematics. Tracks: the storms of the lists in memory. Whether a list is a region: the model's and the program's answers are regB. GrowRegion of the model; l1Has, l8Beside. Trackings: the model's l12Tracking. The model's l12Cost and TrackingCost. What the functions of storms hand back. The model's l12Best and BestTracking. Tracks: the model's l12Lists, l12Length and TrackLength. The program's search for the best tracking: what lies in memory. A tracking is tried: the program's closure in BestTracking. All trackings are tried: the program's everyTracking and its closures. The search, whole: the program's goOn and everyTracking. The program's everyTracking. slices.Repeat of one -1. Sets of points: a map from points to bools that the call itself has made. Points of cells: pointAt, neighborsOf, cornersOf. The program's BestTracking. Tracks: the program's trackingsOf and lengthFrom. Tracks: the program's trackingsOf, lengthFrom, TrackLength. Tracks: the program's lengthFrom and TrackLength. Lists of lists of storms, copied by the laws. The walk of the law FnExactTrackLength. -/
import Derived.Test.YthceffkkokgpnaaStIs
import Derived.Test.YthceffkkokgpnaaStSp
import Derived.Test.YthceffkkokgpnaaSBox
import Derived.Test.YthceffkkokgpnaaMvDf
import Derived.Test.YthceffkkokgpnaaMvSpec
import Derived.Test.YthceffkkokgpnaaDrew
import Derived.BigQuiet
import Derived.Test.YthceffkkokgpnaaStTr
import Derived.Test.YthceffkkokgpnaaBtMath
import Derived.Test.YthceffkkokgpnaaLs
import Derived.Test.YthceffkkokgpnaaRgnMath
import Derived.Test.YthceffkkokgpnaaGood
import Derived.IntWalk
import Derived.Test.YthceffkkokgpnaaSvRet
import Derived.Test.YthceffkkokgpnaaMake
import Derived.Test.YthceffkkokgpnaaLate
import Derived.Test.YthceffkkokgpnaaOnly
import Derived.Laws.CopyOwn
import Derived.Defers
import Derived.Test.YthceffkkokgpnaaShelfMul
import Derived.Test.YthceffkkokgpnaaStMath
import Derived.Laws.MakeOwn
import Derived.Deep.RegionLaw
import Derived.Deep.RegionHeld3
import Derived.Test.YthceffkkokgpnaaChecked
import Derived.Maps.OwnSet
import Derived.DeepKeys4
import Derived.RegionTactic
import Derived.Deep.AppendLies
import Derived.Laws.OwnMore
namespace Go.Proofs.Ythceffkkokgpnaa
open Go.RowKit
set_option linter.unusedVariables false
set_option linter.unusedSimpArgs false
theorem quietMoreS {P : Program} {f : FuncId} {args : Array Value} {w : World} {a n : Nat} {v : Value} (h : ∀ W : World, Calls P f args W fun e w' => e = .returned v ∧ W = w') :
    Calls P f args (w.drewN (a + n)) fun e w'' => e = .returned v ∧ ∃ m, w'' = w.drewN (a + m) := (h _).mono fun _ _ h9 => ⟨h9.1, n, h9.2.symm⟩
/-- two storms, by value -/
structure Sx2 (w : World) (x0 y0 n0 p0 x1 y1 n1 p1 : Int) (w' : World) : Prop where
  b : Below w.heap.size w w'
  k0 : SBox w' w.heap.size 26 x0 y0 n0 p0
  k1 : SBox w' (w.heap.size + 1) 26 x1 y1 n1 p1
section
variable {w w1 w2 : World} {x0 y0 n0 p0 x1 y1 n1 p1 : Int}
theorem Sx2.new (w : World) (x0 y0 n0 p0 x1 y1 n1 p1 : Int) : Sx2 w x0 y0 n0 p0 x1 y1 n1 p1 ((w.alloc (.cells #[.int .i64 x0, .int .i64 y0, .int .i64 n0, .int .i64 p0] 26)).alloc (.cells #[.int .i64 x1, .int .i64 y1, .int .i64 n1, .int .i64 p1] 26)) :=
  ⟨(below_all _ _).alloc (by simp) _, (SBox.new w _ x0 y0 n0 p0).below (below_all _ _), by have h := SBox.new (w.alloc (.cells #[.int .i64 x0, .int .i64 y0, .int .i64 n0, .int .i64 p0] 26)) 26 x1 y1 n1 p1; rw [World.size_alloc] at h; exact h⟩
theorem Sx2.step (h : Sx2 w x0 y0 n0 p0 x1 y1 n1 p1 w1) (b : Below w1.heap.size w1 w2) : Sx2 w x0 y0 n0 p0 x1 y1 n1 p1 w2 := ⟨below_then h.b b, h.k0.below b, h.k1.below b⟩
end
theorem szS_two (u v : Int) : szS [u, v] = max u (-u) + max v (-v) := by unfold szS; simp
set_option maxRecDepth 100000 in
set_option maxHeartbeats 4000000 in
theorem specDs_any (x0 y0 n0 p0 x1 y1 n1 p1 : Int) (w : World) (hx : 0 ≤ x0 ∧ x0 ≤ 7) (hy : 0 ≤ y0 ∧ y0 ≤ 7) (kx : 0 ≤ x1 ∧ x1 ≤ 7) (ky : 0 ≤ y1 ∧ y1 ≤ 7) :
    Calls Try.prog 72 #[.agg #[.int .i64 x0, .int .i64 y0, .int .i64 n0, .int .i64 p0], .agg #[.int .i64 x1, .int .i64 y1, .int .i64 n1, .int .i64 p1]] w fun e w' => e = .returned (.int .i64 (dsB (x0, y0, n0, p0) (x1, y1, n1, p1))) ∧ Below w.heap.size w w' := by
  have F0 := Lib.hid (Sx2.new w x0 y0 n0 p0 x1 y1 n1 p1)
  have g1 := IntWalk.i64_in (x0 - x1) (by omega)
  have g2 := IntWalk.i64_in (y0 - y1) (by omega)
  have HA := Lib.hid (fun W => specAbs_is (x0 - x1) W (by omega))
  have HB := Lib.hid (fun W => specAbs_is (y0 - y1) W (by omega))
  show Calls _ _ _ _ fun e w' => e = .returned (.int .i64 (max (x0 - x1) (-(x0 - x1)) + max (y0 - y1) (-(y0 - y1)))) ∧ _
  have m1 : 0 ≤ max (x0 - x1) (-(x0 - x1)) ∧ max (x0 - x1) (-(x0 - x1)) ≤ 7 := by omega
  have m2 : 0 ≤ max (y0 - y1) (-(y0 - y1)) ∧ max (y0 - y1) (-(y0 - y1)) ≤ 7 := by omega
  generalize max (x0 - x1) (-(x0 - x1)) = u at *
  generalize max (y0 - y1) (-(y0 - y1)) = v at *
  clear hx hy kx ky
  have g3 := IntWalk.i64_in (u + v) (by omega)
  obtain ⟨W1, hW1⟩ : ∃ x, (w.alloc (.cells #[.int .i64 x0, .int .i64 y0, .int .i64 n0, .int .i64 p0] 26)).alloc (.cells #[.int .i64 x1, .int .i64 y1, .int .i64 n1, .int .i64 p1] 26) = x := ⟨_, rfl⟩
  rw [hW1] at F0
  have HW := Lib.hid hW1
  clear hW1
  go_enter Try.func72, Try.ntmps72
  go_wp2_with fail
  rw [HW.out]
  obtain ⟨a0, a1, a2, a3⟩ := F0.out.k0.cells
  obtain ⟨c0, c1, c2, c3⟩ := F0.out.k1.cells
  go_quiet ((go_at_call 126; first | exact Calls.quiet_of_same (quietSame (HA.out _)) | exact Calls.quiet_of_same (quietSame (HB.out _)) | exact quietMoreS HA.out | exact quietMoreS HB.out))
  clear a0 a1 a2 a3 c0 c1 c2 c3
  go_wp2
  go_ret
  exact ⟨rfl, below_drewN F0.out.b _⟩
set_option maxRecDepth 100000 in
set_option maxHeartbeats 4000000 in
theorem specStD_any (x0 y0 n0 p0 x1 y1 n1 p1 : Int) (w : World) :
    Calls Try.prog 14 #[.agg #[.int .i64 x0, .int .i64 y0, .int .i64 n0, .int .i64 p0], .agg #[.int .i64 x1, .int .i64 y1, .int .i64 n1, .int .i64 p1]] w fun e w' => e = .returned (.tuple #[.int .i64 (if (stB x0 y0 n0 p0 && stB x1 y1 n1 p1) = true then dsB (x0, y0, n0, p0) (x1, y1, n1, p1) else 0), .bool (stB x0 y0 n0 p0 && stB x1 y1 n1 p1)]) ∧ Below w.heap.size w w' := by
  have F0 := Lib.hid (Sx2.new w x0 y0 n0 p0 x1 y1 n1 p1)
  have HA := Lib.hid (fun W => specGood_any x0 y0 n0 p0 W)
  have HB := Lib.hid (fun W => specGood_any x1 y1 n1 p1 W)
  have HD := Lib.hid (fun (h0 : stB x0 y0 n0 p0 = true) (h1 : stB x1 y1 n1 p1 = true) W => specDs_any x0 y0 n0 p0 x1 y1 n1 p1 W (stB_iff.1 h0).1 (stB_iff.1 h0).2.1 (stB_iff.1 h1).1 (stB_iff.1 h1).2.1)
  generalize dsB (x0, y0, n0, p0) (x1, y1, n1, p1) = d at *
  generalize stB x0 y0 n0 p0 = u at *
  generalize stB x1 y1 n1 p1 = v at *
  obtain ⟨W1, hW1⟩ : ∃ x, (w.alloc (.cells #[.int .i64 x0, .int .i64 y0, .int .i64 n0, .int .i64 p0] 26)).alloc (.cells #[.int .i64 x1, .int .i64 y1, .int .i64 n1, .int .i64 p1] 26) = x := ⟨_, rfl⟩
  rw [hW1] at F0
  have HW := Lib.hid hW1
  clear hW1
  cases u with
  | false =>
    go_enter Try.func14, Try.ntmps14
    go_wp2_with fail
    rw [HW.out]
    obtain ⟨a0, a1, a2, a3⟩ := F0.out.k0.cells
    obtain ⟨c0, c1, c2, c3⟩ := F0.out.k1.cells
    go_wp2_with (go_at_call 71; (with_reducible refine (HA.out _).mono ?_); rintro e w2 ⟨rfl, b2⟩; have B2 := Lib.hid b2; clear b2)
    go_ret2
    exact ⟨rfl, below_then F0.out.b B2.out⟩
  | true =>
    cases v with
    | false =>
      go_enter Try.func14, Try.ntmps14
      go_wp2_with fail
      rw [HW.out]
      obtain ⟨a0, a1, a2, a3⟩ := F0.out.k0.cells
      obtain ⟨c0, c1, c2, c3⟩ := F0.out.k1.cells
      go_wp2_with fail
      refine (HA.out _).mono ?_
      rintro e w2 ⟨rfl, b2⟩
      have F2 := Lib.hid (F0.out.step b2)
      clear b2 F0 a0 a1 a2 a3 c0 c1 c2 c3
      obtain ⟨a0, a1, a2, a3⟩ := F2.out.k0.cells
      obtain ⟨c0, c1, c2, c3⟩ := F2.out.k1.cells
      go_wp2_with fail
      refine (HB.out _).mono ?_
      rintro e w3 ⟨rfl, b3⟩
      have F3 := Lib.hid (F2.out.step b3)
      clear b3 F2 a0 a1 a2 a3 c0 c1 c2 c3
      go_wp2
      go_ret2
      exact ⟨rfl, F3.out.b⟩
    | true =>
      go_enter Try.func14, Try.ntmps14
      go_wp2_with fail
      rw [HW.out]
      obtain ⟨a0, a1, a2, a3⟩ := F0.out.k0.cells
      obtain ⟨c0, c1, c2, c3⟩ := F0.out.k1.cells
      go_wp2_with fail
      refine (HA.out _).mono ?_
      rintro e w2 ⟨rfl, b2⟩
      have F2 := Lib.hid (F0.out.step b2)
      clear b2 F0 a0 a1 a2 a3 c0 c1 c2 c3
      obtain ⟨a0, a1, a2, a3⟩ := F2.out.k0.cells
      obtain ⟨c0, c1, c2, c3⟩ := F2.out.k1.cells
      go_wp2_with fail
      refine (HB.out _).mono ?_
      rintro e w3 ⟨rfl, b3⟩
      have F3 := Lib.hid (F2.out.step b3)
      clear b3 F2 a0 a1 a2 a3 c0 c1 c2 c3
      obtain ⟨a0, a1, a2, a3⟩ := F3.out.k0.cells
      obtain ⟨c0, c1, c2, c3⟩ := F3.out.k1.cells
      go_wp2_with fail
      refine (HD.out (by simp) (by simp) _).mono ?_
      rintro e w4 ⟨rfl, b4⟩
      have F4 := Lib.hid (F3.out.step b4)
      clear b4 F3 a0 a1 a2 a3 c0 c1 c2 c3
      go_wp2
      go_ret2
      exact ⟨rfl, F4.out.b⟩
set_option maxRecDepth 100000 in
set_option maxHeartbeats 4000000 in
theorem implStD_any (x0 y0 n0 p0 x1 y1 n1 p1 : Int) (w : World) :
    Calls Try.prog 16 #[.agg #[.int .i64 x0, .int .i64 y0, .int .i64 n0, .int .i64 p0], .agg #[.int .i64 x1, .int .i64 y1, .int .i64 n1, .int .i64 p1]] w fun e w' => e = .returned (.tuple #[.int .i64 (if (stB x0 y0 n0 p0 && stB x1 y1 n1 p1) = true then dsB (x0, y0, n0, p0) (x1, y1, n1, p1) else 0), .bool (stB x0 y0 n0 p0 && stB x1 y1 n1 p1)]) ∧ Below w.heap.size w w' := by
  have F0 := Lib.hid (Sx2.new w x0 y0 n0 p0 x1 y1 n1 p1)
  have HA := Lib.hid (fun W => isStorm_any x0 y0 n0 p0 W)
  have HB := Lib.hid (fun W => isStorm_any x1 y1 n1 p1 W)
  have HQ := Lib.hid (fun (h0 : stB x0 y0 n0 p0 = true) (h1 : stB x1 y1 n1 p1 = true) => And.intro (And.intro (stB_iff.1 h0).1 (stB_iff.1 h0).2.1) (And.intro (stB_iff.1 h1).1 (stB_iff.1 h1).2.1))
  obtain ⟨d, hd⟩ : ∃ d, dsB (x0, y0, n0, p0) (x1, y1, n1, p1) = d := ⟨_, rfl⟩
  have HDS := Lib.hid (show szS [x0 - x1, y0 - y1] = d from (szS_two _ _).trans hd)
  rw [hd]
  clear hd
  generalize stB x0 y0 n0 p0 = u at *
  generalize stB x1 y1 n1 p1 = v at *
  obtain ⟨W1, hW1⟩ : ∃ x, (w.alloc (.cells #[.int .i64 x0, .int .i64 y0, .int .i64 n0, .int .i64 p0] 26)).alloc (.cells #[.int .i64 x1, .int .i64 y1, .int .i64 n1, .int .i64 p1] 26) = x := ⟨_, rfl⟩
  rw [hW1] at F0
  have HW := Lib.hid hW1
  clear hW1
  cases u with
  | false =>
    go_enter Try.func16, Try.ntmps16
    go_wp2_with fail
    rw [HW.out]
    obtain ⟨a0, a1, a2, a3⟩ := F0.out.k0.cells
    obtain ⟨c0, c1, c2, c3⟩ := F0.out.k1.cells
    go_wp2_with (go_at_call 73; (with_reducible refine (HA.out _).mono ?_); rintro e w2 ⟨rfl, b2⟩; have B2 := Lib.hid b2; clear b2)
    go_ret2
    exact ⟨rfl, below_then F0.out.b B2.out⟩
  | true =>
    cases v with
    | false =>
      go_enter Try.func16, Try.ntmps16
      go_wp2_with fail
      rw [HW.out]
      obtain ⟨a0, a1, a2, a3⟩ := F0.out.k0.cells
      obtain ⟨c0, c1, c2, c3⟩ := F0.out.k1.cells
      go_wp2_with fail
      refine (HA.out _).mono ?_
      rintro e w2 ⟨rfl, b2⟩
      have F2 := Lib.hid (F0.out.step b2)
      clear b2 F0 a0 a1 a2 a3 c0 c1 c2 c3
      obtain ⟨a0, a1, a2, a3⟩ := F2.out.k0.cells
      obtain ⟨c0, c1, c2, c3⟩ := F2.out.k1.cells
      go_wp2_with fail
      refine (HB.out _).mono ?_
      rintro e w3 ⟨rfl, b3⟩
      have F3 := Lib.hid (F2.out.step b3)
      clear b3 F2 a0 a1 a2 a3 c0 c1 c2 c3
      go_wp2
      go_ret2
      exact ⟨rfl, F3.out.b⟩
    | true =>
      obtain ⟨⟨hx, hy⟩, kx, ky⟩ := HQ.out rfl rfl
      have g1 := IntWalk.i64_in (x0 - x1) (by omega)
      have g2 := IntWalk.i64_in (y0 - y1) (by omega)
      have HZ := Lib.hid (fun b W (h : Ints .i64 W W.heap.size (some ⟨b, 0, none⟩) [x0 - x1, y0 - y1]) => implSz_any (some ⟨b, 0, none⟩) [x0 - x1, y0 - y1] 2 W h (fun z hz => by
        simp only [List.mem_cons, List.not_mem_nil, or_false] at hz
        omega) (by simp))
      rw [HDS.out] at HZ
      obtain ⟨u1, hu1⟩ : ∃ q, x0 - x1 = q := ⟨_, rfl⟩
      obtain ⟨v1, hv1⟩ : ∃ q, y0 - y1 = q := ⟨_, rfl⟩
      rw [hu1] at g1 HZ
      rw [hv1] at g2 HZ
      have HU := Lib.hid hu1
      have HV := Lib.hid hv1
      clear hx hy kx ky HQ HDS
      go_enter Try.func16, Try.ntmps16
      go_wp2_with fail
      rw [HW.out]
      obtain ⟨a0, a1, a2, a3⟩ := F0.out.k0.cells
      obtain ⟨c0, c1, c2, c3⟩ := F0.out.k1.cells
      go_wp2_with fail
      refine (HA.out _).mono ?_
      rintro e w2 ⟨rfl, b2⟩
      have F2 := Lib.hid (F0.out.step b2)
      clear b2 F0 a0 a1 a2 a3 c0 c1 c2 c3
      obtain ⟨a0, a1, a2, a3⟩ := F2.out.k0.cells
      obtain ⟨c0, c1, c2, c3⟩ := F2.out.k1.cells
      go_wp2_with fail
      refine (HB.out _).mono ?_
      rintro e w3 ⟨rfl, b3⟩
      have F3 := Lib.hid (F2.out.step b3)
      clear b3 F2 a0 a1 a2 a3 c0 c1 c2 c3
      obtain ⟨a0, a1, a2, a3⟩ := F3.out.k0.cells
      obtain ⟨c0, c1, c2, c3⟩ := F3.out.k1.cells
      go_wp2_with fail
      have HI := Lib.hid (show Ints .i64 (w3.alloc (.cells #[.int .i64 u1, .int .i64 v1] 3)) (w3.alloc (.cells #[.int .i64 u1, .int .i64 v1] 3)).heap.size (some ⟨w3.heap.size, 0, none⟩) [u1, v1] from
        .inr ⟨w3.heap.size, 0, rfl, by simp, fun j hj => by
          match j, hj with
          | 0, _ => simp [go_sem]
          | 1, _ => simp [go_sem]⟩)
      refine (HZ.out _ _ HI.out).mono ?_
      rintro e w4 ⟨rfl, rfl⟩
      clear a0 a1 a2 a3 c0 c1 c2 c3
      go_wp2
      go_ret2
      exact ⟨rfl, F3.out.b.alloc F3.out.b.size _⟩
end Go.Proofs.Ythceffkkokgpnaa
namespace Go.Proofs.Ythceffkkokgpnaa
open Go.RowKit
set_option linter.unusedVariables false
set_option linter.unusedSimpArgs false
def tcB (a b : List StT) (t : List Int) (p : Int) : Bool := trB a b t && pnB p
def tcV (a b : List StT) (t : List Int) (p : Int) : Int := if tcB a b t p = true then tcC a b t p else 0
theorem tcV_no {a b : List StT} {t : List Int} {p : Int} (h : tcB a b t p = false) : tcV a b t p = 0 := if_neg (by rw [h]; simp)
theorem tcV_yes {a b : List StT} {t : List Int} {p : Int} (h : tcB a b t p = true) : tcV a b t p = tcC a b t p := if_pos h
theorem tcB_tr {a b : List StT} {t : List Int} {p : Int} (h : trB a b t = false) : tcB a b t p = false := by unfold tcB; rw [h]; rfl
theorem tcB_pn {a b : List StT} {t : List Int} {p : Int} (h : pnB p = false) : tcB a b t p = false := by unfold tcB; rw [h, Bool.and_false]
theorem tcB_yes {a b : List StT} {t : List Int} {p : Int} (h : trB a b t = true) (h2 : pnB p = true) : tcB a b t p = true := by unfold tcB; rw [h, h2]; rfl
theorem tr_ind {a b : List StT} {t : List Int} (h : trB a b t = true) {k : Nat} (hk : k < t.length) : -1 ≤ t[k] ∧ t[k] < (b.length : Int) := (trs_at (tr_parts h).2.2.2 hk).1
theorem oneC_none {a b : List StT} {t : List Int} {p : Int} {k : Nat} (hk : k < t.length) (h : t[k] = -1) : oneC a b t p k = p := by
  unfold oneC; rw [getD_int t hk, h]; rfl
theorem oneC_some {a b : List StT} {t : List Int} {p : Int} {k n : Nat} (hk : k < t.length) (h : t[k] = (n : Int)) (ha : k < a.length) (hb : n < b.length) : oneC a b t p k = dsB a[k] b[n] - p := by
  unfold oneC; rw [getD_int t hk, h, if_neg (by omega), getD_st a ha, show ((n : Int)).toNat = n from rfl, getD_st b hb]
theorem tc_bd {a b : List StT} {t : List Int} {p : Int} (h : trB a b t = true) (hp : 0 ≤ p ∧ p ≤ 20) {k : Nat} (hk : k ≤ a.length) : (-100 ≤ tcK a b t p k ∧ tcK a b t p k ≤ 200) ∧ -100 ≤ tiK a b t p k ∧ tiK a b t p k ≤ 300 := by
  obtain ⟨ha, hb, hl, hts⟩ := tr_parts h
  have h1 := tcK_bd ha hb hp (fun j hj => by rw [getD_int t (by omega)]; exact (trs_at hts (by omega)).1.2) k hk
  have h2 := sts_len ha
  have h3 := ti_tc a b t p k
  have h4 : 0 ≤ ((a.length : Int) - (k : Int)) * p := Int.mul_nonneg (by omega) hp.1
  have h5 : ((a.length : Int) - (k : Int)) * p ≤ 5 * 20 := Int.mul_le_mul (by omega) hp.2 hp.1 (by omega)
  omega
set_option maxRecDepth 100000 in
set_option maxHeartbeats 8000000 in
theorem implTC_any (aa : Option Addr) (la : List StT) (ca : Nat) (ab : Option Addr) (lb : List StT) (cb : Nat) (at_ : Option Addr) (t : List Int) (ct : Nat) (p : Int) (w : World) (h1 : Sts w w.heap.size aa la) (h2 : Sts w w.heap.size ab lb) (h3 : Ints .i64 w w.heap.size at_ t) (n1 : la.length ≤ 1048576) (n2 : lb.length ≤ 1048576) (n3 : t.length ≤ 1048576) (hc : t.length ≤ ct) :
    Calls Try.prog 21 #[.slice aa la.length ca, .slice ab lb.length cb, .slice at_ t.length ct, .int .i64 p] w fun e w' => e = .returned (.tuple #[.int .i64 (tcV la lb t p), .bool (tcB la lb t p)]) ∧ Below w.heap.size w w' := by
  have HT := Lib.hid (fun v (hv : trB la lb t = v) => isTr_any aa la ca ab lb cb at_ t ct v w h1 h2 h3 n1 n2 n3 hc hv)
  have HP := Lib.hid (fun v (hv : pnB p = v) W => isPen_is p v W hv)
  have H1 := Lib.hid h1
  have H2 := Lib.hid h2
  have H3 := Lib.hid h3
  clear h1 h2 h3
  cases ht : trB la lb t with
  | false =>
    have HE := Lib.hid (tcB_tr (p := p) ht)
    rw [tcV_no HE.out, HE.out]
    have HT1 := Lib.hid (HT.out false ht)
    clear HT ht
    go_enter Try.func21, Try.ntmps21
    go_wp2_with (go_at_call 78; (with_reducible refine (HT1.out).mono ?_); rintro e w1 ⟨rfl, b1⟩; have B1 := Lib.hid b1; clear b1)
    go_ret2
    exact ⟨rfl, B1.out⟩
  | true =>
    have HT1 := Lib.hid (HT.out true ht)
    cases hp : pnB p with
    | false =>
      have HE := Lib.hid (tcB_pn (a := la) (b := lb) (t := t) hp)
      rw [tcV_no HE.out, HE.out]
      have HP1 := Lib.hid (HP.out false hp)
      clear HT ht hp HP
      go_enter Try.func21, Try.ntmps21
      go_wp2_with (first | (go_at_call 78; (with_reducible refine (HT1.out).mono ?_); rintro e w1 ⟨rfl, b1⟩; have B1 := Lib.hid b1; clear b1) | (go_at_call 79; (with_reducible refine (HP1.out _).mono ?_); rintro e w2 ⟨rfl, rfl⟩))
      go_ret2
      exact ⟨rfl, B1.out⟩
    | true =>
      have HE := Lib.hid (tcB_yes ht hp)
      have HTR := Lib.hid ht
      rw [tcV_yes HE.out, HE.out]
      have HP1 := Lib.hid (HP.out true hp)
      have hp2 := pnB_iff.1 hp
      obtain ⟨ha, hb, hl, hts⟩ := tr_parts ht
      have HAA := Lib.hid ha
      have HBB := Lib.hid hb
      have HLL := Lib.hid hl
      have la5 := sts_len ha
      have lb5 := sts_len hb
      have HTI := Lib.hid (ti_end (b := lb) (p := p) hl)
      have HZ := Lib.hid (show ((la.length : Int) + (lb.length : Int)) * p = tiK la lb t p 0 from rfl)
      have HBD := Lib.hid (fun k (hk : k ≤ la.length) => (tc_bd (k := k) ht hp2 hk).2)
      have hz0 := HBD.out 0 (by omega)
      generalize tcC la lb t p = cend at *
      obtain ⟨z0, hz⟩ : ∃ z, tiK la lb t p 0 = z := ⟨_, rfl⟩
      rw [hz] at hz0 HZ
      have HZZ := Lib.hid hz
      have hadd := IntWalk.i64_in ((la.length : Int) + (lb.length : Int)) (by omega)
      have hmul : IntKind.i64.wrap (((la.length : Int) + (lb.length : Int)) * p) = z0 := by rw [HZ.out]; exact IntWalk.i64_in _ (by omega)
      have h2p := IntWalk.i64_in (2 * p) (by omega)
      have hlt5 : t.length ≤ 5 := by omega
      clear HT ht hp HP ha hb hl hts hz
      go_enter Try.func21, Try.ntmps21
      go_wp2_with (first | (go_at_call 78; (with_reducible refine (HT1.out).mono ?_); rintro e w1 ⟨rfl, b1⟩; have B1 := Lib.hid b1; clear b1) | (go_at_call 79; (with_reducible refine (HP1.out _).mono ?_); rintro e w2 ⟨rfl, rfl⟩))
      clear hmul hadd
      go_loopw [10, 34] (fun c i wr => ∃ k : Nat, k ≤ t.length ∧ i = .int .i64 k ∧ c = .int .i64 (tiK la lb t p k) ∧ Below w.heap.size w wr) (fun _ i _ => t.length - (intOf i).toNat)
      case atStart => exact ⟨0, Nat.zero_le _, rfl, by rw [HZZ.out], B1.out⟩
      case round =>
        obtain ⟨k, hk, rfl, rfl, hB⟩ := hrel
        have HBR := Lib.hid hB
        have HR := Lib.hid (HBD.out k (by have := HLL.out; omega))
        by_cases hlt : k < t.length
        · obtain ⟨b, o, rfl, hb9, hc9⟩ := (H3.out.below hB (Nat.le_refl _)).at_ hlt
          have hi : (k : Int) < (t.length : Int) := by omega
          have hi0 : (0 : Int) ≤ (k : Int) := by omega
          have hka : k < la.length := by have := HLL.out; omega
          have hia : (k : Int) < (la.length : Int) := by omega
          have HN := Lib.hid (show tiK la lb t p (k + 1) = tiK la lb t p k + (oneC la lb t p k - p) from rfl)
          have HR2 := Lib.hid (HBD.out (k + 1) (by omega))
          obtain ⟨zlo, zhi⟩ := tr_ind HTR.out hlt
          have HON := Lib.hid (fun (e : t[k] = -1) => oneC_none (a := la) (b := lb) (p := p) hlt e)
          have HOS := Lib.hid (fun (n : Nat) (e : t[k] = (n : Int)) (hb : n < lb.length) => oneC_some (p := p) hlt e hka hb)
          obtain ⟨q0, hq0⟩ : ∃ q, tiK la lb t p k = q := ⟨_, rfl⟩
          obtain ⟨q1, hq1⟩ : ∃ q, tiK la lb t p (k + 1) = q := ⟨_, rfl⟩
          rw [hq0] at HR HN
          rw [hq1] at HR2 HN
          rw [hq0]
          have HQ1 := Lib.hid hq1
          clear hq0 hq1
          generalize oneC la lb t p k = oc at *
          generalize t[k] = z at *
          by_cases hz : z = -1
          · subst hz
            have HF := Lib.hid (show q1 = q0 from by have := HON.out rfl; have := HN.out; omega)
            clear HON HOS hB
            go_wp2
            go_roundw
            case rel => exact ⟨k + 1, by omega, by go_num, by rw [HQ1.out, HF.out], HBR.out⟩
            case measure => simp [intOf]; omega
          · have hne : (z != -1) = true := by simp [hz]
            obtain ⟨n, rfl⟩ : ∃ n : Nat, z = (n : Int) := ⟨z.toNat, by omega⟩
            have hnb : n < lb.length := by omega
            have hjb : (n : Int) < (lb.length : Int) := by omega
            have hjb0 : (0 : Int) ≤ (n : Int) := by omega
            obtain ⟨b1, o1, rfl, hb1, c0, c1, c2, c3⟩ := (H1.out.below hB (Nat.le_refl _)).at_ hka
            obtain ⟨b2, o2, rfl, hb2, d0, d1, d2, d3⟩ := (H2.out.below hB (Nat.le_refl _)).at_ hnb
            have HDB := Lib.hid (dsB_bd (sts_ok HAA.out hka) (sts_ok HBB.out hnb))
            have HO := Lib.hid (HOS.out n rfl hnb)
            have hs1 := sts_ok HAA.out hka
            have hs2 := sts_ok HBB.out hnb
            generalize la[k] = s1 at *
            generalize lb[n] = s2 at *
            obtain ⟨x0, y0, m0, p0⟩ := s1
            obtain ⟨x1, y1, m1, p1⟩ := s2
            simp only at c0 c1 c2 c3 d0 d1 d2 d3
            have HD := Lib.hid (fun W => implStD_any x0 y0 m0 p0 x1 y1 m1 p1 W)
            rw [show stB x0 y0 m0 p0 = true from hs1, show stB x1 y1 m1 p1 = true from hs2] at HD
            rw [show (true && true) = true from rfl, if_pos rfl] at HD
            generalize dsB (x0, y0, m0, p0) (x1, y1, m1, p1) = d at *
            have hd := HDB.out
            have hr := HR.out
            have hr2 := HR2.out
            have HF := Lib.hid (show q1 = q0 + (d - 2 * p) from by have := HO.out; have := HN.out; omega)
            have hw1 := IntWalk.i64_in (d - 2 * p) (by omega)
            have hw2 := IntWalk.i64_in (q0 + (d - 2 * p)) (by rw [← HF.out]; omega)
            have hsz := hB.size
            have e0 := later_cell c0 (by omega)
            have e1 := later_cell c1 (by omega)
            have e2 := later_cell c2 (by omega)
            have e3 := later_cell c3 (by omega)
            have f0 := later_cell d0 (by omega)
            have f1 := later_cell d1 (by omega)
            have f2 := later_cell d2 (by omega)
            have f3 := later_cell d3 (by omega)
            clear c0 c1 c2 c3 d0 d1 d2 d3 HON HOS hB hs1 hs2 hd hr hr2 hsz hz
            go_wp2_with fail
            refine wp_region_later (by kernel_rfl) (by kernel_rfl) ?_
            repeat (go_big_quiet_step ((go_at_call 16; exact calls_later (HD.out _))))
            refine wpQuiet_nil ?_
            intro _ hw'
            obtain ⟨pq, hw''⟩ := hw'
            subst hw''
            have B2 := Lib.hid (HBR.out.trans (pq.below.mono HBR.out.size))
            clear e0 e1 e2 e3 f0 f1 f2 f3
            go_wp2
            go_roundw
            case rel => exact ⟨k + 1, by omega, by go_num, by rw [HQ1.out, HF.out], B2.out⟩
            case measure => simp [intOf]; omega
        · obtain rfl : k = t.length := by omega
          have HX := Lib.hid (show tiK la lb t p t.length = cend from by rw [HLL.out]; exact HTI.out)
          rw [HX.out]
          clear hB
          go_wp2
          go_ret2
          exact ⟨rfl, HBR.out⟩
end Go.Proofs.Ythceffkkokgpnaa
namespace Go.Proofs.Ythceffkkokgpnaa
set_option linter.unusedVariables false
set_option linter.unusedSimpArgs false
def btB (a b : List StT) (p : Int) : Bool := stsB a && (stsB b && pnB p)
def btF (a b : List StT) (p : Int) : List Int × Int := bR (fun t => tcC a b t p) b.length a.length []
def btR (a b : List StT) (p : Int) : List Int := if btB a b p = true then (btF a b p).1 else []
def btV (a b : List StT) (p : Int) : Int := if btB a b p = true then (btF a b p).2 else 0
theorem btR_no {a b : List StT} {p : Int} (h : btB a b p = false) : btR a b p = [] := if_neg (by rw [h]; simp)
theorem btV_no {a b : List StT} {p : Int} (h : btB a b p = false) : btV a b p = 0 := if_neg (by rw [h]; simp)
theorem btR_yes {a b : List StT} {p : Int} (h : btB a b p = true) : btR a b p = (btF a b p).1 := if_pos h
theorem btV_yes {a b : List StT} {p : Int} (h : btB a b p = true) : btV a b p = (btF a b p).2 := if_pos h
theorem btF_len (a b : List StT) (p : Int) : (btF a b p).1.length = a.length := by unfold btF; rw [bR_len]; simp
theorem bt_parts {a b : List StT} {p : Int} (h : btB a b p = true) : stsB a = true ∧ stsB b = true ∧ pnB p = true := by unfold btB at h; simpa using h
theorem btR_len (a b : List StT) (p : Int) : (btR a b p).length ≤ 5 := by
  cases h : btB a b p with
  | false => rw [btR_no h]; simp
  | true => rw [btR_yes h, btF_len]; exact sts_len (bt_parts h).1
/-- none of all is a tracking, if the arguments are well -/
theorem bt_none (a b : List StT) (p : Int) : tcB a b (List.replicate a.length (-1)) p = btB a b p := by
  unfold tcB btB
  cases ha : stsB a with
  | false => rw [tr_no_a ha]; rfl
  | true =>
    cases hb : stsB b with
    | false => rw [tr_no_b hb]; rfl
    | true => rw [tr_same ha hb (by simp), trs_none]; rfl
theorem bt_start (a b : List StT) (p : Int) : gR (fun t => tcC a b t p) b.length a.length [] (List.replicate a.length (-1), tcC a b (List.replicate a.length (-1)) p) = btF a b p := gR_best (fun t => tcC a b t p) b.length a.length
end Go.Proofs.Ythceffkkokgpnaa
namespace Go.Proofs.Ythceffkkokgpnaa
set_option linter.unusedVariables false
set_option linter.unusedSimpArgs false
/-- lists and a penalty that are well -/
def tkB (L : List (List StT)) (p : Int) : Bool := decide (L.length ≤ 6) && (L.all stsB && pnB p)
theorem tk_len {L : List (List StT)} {p : Int} (h : tkB L p = true) : L.length ≤ 6 := by unfold tkB at h; rw [Bool.and_eq_true] at h; exact of_decide_eq_true h.1
theorem tk_pn {L : List (List StT)} {p : Int} (h : tkB L p = true) : pnB p = true := by unfold tkB at h; simp only [Bool.and_eq_true] at h; exact h.2.2
theorem tk_at {L : List (List StT)} {p : Int} (h : tkB L p = true) {k : Nat} (hk : k < L.length) : stsB L[k] = true := by
  unfold tkB at h
  simp only [Bool.and_eq_true, List.all_eq_true] at h
  exact h.2.1 _ (List.getElem_mem hk)
theorem tk_long {L : List (List StT)} {p : Int} (h : 6 < L.length) : tkB L p = false := by unfold tkB; rw [decide_eq_false (by omega)]; rfl
theorem tk_no_pn {L : List (List StT)} {p : Int} (h : pnB p = false) : tkB L p = false := by unfold tkB; rw [h]; simp
theorem tk_bad {L : List (List StT)} {p : Int} {k : Nat} (hk : k < L.length) (h : stsB L[k] = false) : tkB L p = false := by
  cases e : tkB L p with
  | false => rfl
  | true => rw [tk_at e hk] at h; cases h
theorem tk_yes {L : List (List StT)} {p : Int} (h6 : L.length ≤ 6) (h : ∀ k (hk : k < L.length), stsB L[k] = true) (hp : pnB p = true) : tkB L p = true := by
  unfold tkB
  rw [decide_eq_true h6, hp, Bool.and_true, Bool.true_and, List.all_eq_true]
  intro x hx
  obtain ⟨k, hk, rfl⟩ := List.getElem_of_mem hx
  exact h k hk
/-- the best tracking from the list k to the next one -/
def bT (L : List (List StT)) (p : Int) (k : Nat) : List Int := (btF (L.getD k []) (L.getD (k + 1) []) p).1
theorem getD_ls (L : List (List StT)) {k : Nat} (h : k < L.length) : L.getD k [] = L[k] := by rw [List.getD_eq_getElem?_getD, List.getElem?_eq_getElem h]; rfl
/-- how many storms a track has from a storm of the list k on; n: how many lists follow -/
def lnN (L : List (List StT)) (p : Int) (k : Nat) (s : Int) : Nat → Int
  | 0 => 1
  | n + 1 => if (bT L p k).getD s.toNat 0 < 0 then 1 else 1 + lnN L p (k + 1) ((bT L p k).getD s.toNat 0) n
theorem lnN_bd (L : List (List StT)) (p : Int) : ∀ (n k : Nat) (s : Int), 1 ≤ lnN L p k s n ∧ lnN L p k s n ≤ (n : Int) + 1 := by
  intro n
  induction n with
  | zero => intro k s; show 1 ≤ (1 : Int) ∧ (1 : Int) ≤ _; omega
  | succ n ih =>
    intro k s
    unfold lnN
    split
    · omega
    · have := ih (k + 1) ((bT L p k).getD s.toNat 0)
      omega
/-- the indices of a best tracking -/
theorem bT_ok {L : List (List StT)} {p : Int} (h : tkB L p = true) {k : Nat} (hk : k + 1 < L.length) : (bT L p k).length = (L.getD k []).length ∧ ∀ j (hj : j < (bT L p k).length), -1 ≤ (bT L p k)[j] ∧ (bT L p k)[j] < ((L.getD (k + 1) []).length : Int) := by
  refine ⟨btF_len _ _ _, fun j hj => ?_⟩
  have ht : trsB (L.getD (k + 1) []).length (bT L p k) = true := bR_trs _ _ _ _ rfl
  exact (trs_at ht hj).1
theorem bt_well {L : List (List StT)} {p : Int} (h : tkB L p = true) {k : Nat} (hk : k + 1 < L.length) : btB (L.getD k []) (L.getD (k + 1) []) p = true := by
  unfold btB
  rw [getD_ls L (show k < L.length by omega), getD_ls L hk, tk_at h (by omega), tk_at h hk, tk_pn h]
  rfl
/-- the length of the track from a storm of a list, and whether there is one -/
def trkB (L : List (List StT)) (p i s : Int) : Bool := tkB L p && (decide (0 ≤ i) && decide (i < (L.length : Int))) && (decide (0 ≤ s) && decide (s < ((L.getD i.toNat []).length : Int)))
def trkV (L : List (List StT)) (p i s : Int) : Int := if trkB L p i s = true then lnN L p i.toNat s (L.length - 1 - i.toNat) else 0
theorem trkV_no {L : List (List StT)} {p i s : Int} (h : trkB L p i s = false) : trkV L p i s = 0 := if_neg (by rw [h]; simp)
theorem trkV_yes {L : List (List StT)} {p i s : Int} (h : trkB L p i s = true) : trkV L p i s = lnN L p i.toNat s (L.length - 1 - i.toNat) := if_pos h
end Go.Proofs.Ythceffkkokgpnaa
namespace Go.Proofs.Ythceffkkokgpnaa
def lvs (L : List LE) : List (List StT) := L.map (·.l)
theorem lvs_len (L : List LE) : (lvs L).length = L.length := by unfold lvs; simp
theorem lvs_at {L : List LE} {k : Nat} (h : k < L.length) : (lvs L).getD k [] = L[k].l := by unfold lvs; rw [List.getD_eq_getElem?_getD, List.getElem?_map, List.getElem?_eq_getElem h]; rfl
theorem tk_is (L : List LE) (p : Int) : tkB (lvs L) p = (decide (L.length ≤ 6) && (((L.map (·.l)).all stsB) && pnB p)) := by unfold tkB; rw [lvs_len]; rfl
end Go.Proofs.Ythceffkkokgpnaa
namespace Go.Proofs.Ythceffkkokgpnaa
open Go.RowKit
set_option linter.unusedVariables false
set_option linter.unusedSimpArgs false
set_option maxHeartbeats 1000000 in
theorem implRegion_is (wd hg : Int) (a : Option Addr) (l : List Int) (c B : Nat) (v : Bool) (w : World) (hl : Ints .i64 w B a l) (hn : l.length ≤ 1048576) (h : regB wd hg l = v) :
    Calls Try.prog 136 #[.int .i64 wd, .int .i64 hg, .slice a l.length c] w fun e w' => e = .returned (.bool v) ∧ w = w' := by
  cases hs : shapeB wd hg with
  | false =>
    obtain rfl : v = false := by rw [← h]; exact reg_no_shape hs
    have C1 := Lib.hid (fun W => implShape_is wd hg false W hs)
    clear h hs hl
    go_enter Try.func136, Try.ntmps136
    go_wp2_with (go_at_call 159; refine (C1.out _).mono ?_; rintro e w1 ⟨rfl, rfl⟩)
    go_ret
    exact ⟨rfl, rfl⟩
  | true =>
    have C1 := Lib.hid (fun W => implShape_is wd hg true W hs)
    have hp := prod_bd hs
    have HV := Lib.hid h
    have HS := Lib.hid hs
    have HL := Lib.hid hl
    obtain ⟨p, hpp⟩ : ∃ p : Int, wd * hg = p := ⟨_, rfl⟩
    rw [hpp] at hp
    have HP := Lib.hid hpp
    clear h hs hl hpp
    go_enter Try.func136, Try.ntmps136
    go_wp2_with (go_at_call 159; refine (C1.out _).mono ?_; rintro e w1 ⟨rfl, rfl⟩)
    go_loop [7, 16] (fun m i => ∃ k : Nat, k ≤ l.length ∧ i = .int .i64 k ∧ m = .int .i64 (prevL l k) ∧ ∀ j (h : j < l.length), j < k → prevL l j < l[j] ∧ l[j] < wd * hg) (fun _ i => l.length - (intOf i).toNat)
    case atStart => exact ⟨0, Nat.zero_le _, rfl, rfl, fun _ _ h => by omega⟩
    case round =>
      obtain ⟨k, hk, rfl, rfl, hall⟩ := hrel
      have HA := Lib.hid hall
      have hpv := ris_prev k hk hall
      clear hall
      by_cases hlt : k < l.length
      · obtain ⟨b, o, rfl, hb, hc⟩ := HL.out.at_ hlt
        have hi : (k : Int) < (l.length : Int) := by omega
        have hi0 : (0 : Int) ≤ (k : Int) := by omega
        have HNO := Lib.hid (fun (h : ¬ (prevL l k < l[k] ∧ l[k] < wd * hg)) => reg_no_at hlt h)
        have HYES := Lib.hid (fun (h : prevL l k < l[k] ∧ l[k] < wd * hg) => fun j (hj : j < l.length) (hjk : j < k + 1) => (by
          rcases Nat.lt_or_ge j k with h2 | h2
          · exact HA.out j hj h2
          · obtain rfl : j = k := by omega
            exact h : prevL l j < l[j] ∧ l[j] < wd * hg))
        have HPS := Lib.hid (prevL_succ hlt)
        generalize l[k] = x at *
        generalize prevL l k = m at *
        have hmul := HP.out
        by_cases h1 : m < x
        · by_cases h2 : x < p
          · have HY := Lib.hid (HYES.out ⟨h1, by rw [HP.out]; exact h2⟩)
            clear HYES HNO
            go_wp2
            go_round
            case rel => exact ⟨k + 1, by omega, by go_num, by rw [HPS.out], HY.out⟩
            case measure => simp [intOf]; omega
          · obtain rfl : v = false := by rw [← HV.out]; exact HNO.out (fun h => h2 (by rw [← HP.out]; exact h.2))
            clear HYES HNO
            go_wp2
            go_ret
            exact ⟨rfl, rfl⟩
        · obtain rfl : v = false := by rw [← HV.out]; exact HNO.out (fun h => h1 h.1)
          clear HYES HNO
          go_wp2
          go_ret
          exact ⟨rfl, rfl⟩
      · obtain rfl : v = true := by rw [← HV.out]; exact reg_yes HS.out (fun j hj => HA.out j hj (by omega))
        go_wp2
        go_ret
        exact ⟨rfl, rfl⟩
end Go.Proofs.Ythceffkkokgpnaa
namespace Go.Proofs.Ythceffkkokgpnaa
open Go.RowKit
set_option linter.unusedVariables false
set_option linter.unusedSimpArgs false
theorem mem_take {l : List Int} {k : Nat} {n : Int} (h : k < l.length) : (n ∈ l.take (k + 1)) ↔ (n ∈ l.take k ∨ n = l[k]) := by
  rw [List.take_succ_eq_append_getElem h, List.mem_append, List.mem_singleton]
set_option maxHeartbeats 1000000 in
theorem has_is (a : Option Addr) (l : List Int) (c B : Nat) (n : Int) (v : Bool) (w : World) (hl : Ints .i64 w B a l) (hn : l.length ≤ 1048576) (h : decide (n ∈ l) = v) :
    Calls Try.prog 129 #[.slice a l.length c, .int .i64 n] w fun e w' => e = .returned (.bool v) ∧ w = w' := by
  have HL := Lib.hid hl
  have HV := Lib.hid h
  clear hl h
  go_enter Try.func129, Try.ntmps129
  go_wp2
  go_loop [5] (fun i => ∃ k : Nat, k ≤ l.length ∧ i = .int .i64 k ∧ ¬ n ∈ l.take k) (fun i => l.length - (intOf i).toNat)
  case atStart => exact ⟨0, Nat.zero_le _, rfl, by simp⟩
  case round =>
    obtain ⟨k, hk, rfl, hno⟩ := hrel
    have HN := Lib.hid hno
    clear hno
    by_cases hlt : k < l.length
    · obtain ⟨b, o, rfl, hb, hc⟩ := HL.out.at_ hlt
      have hi : (k : Int) < (l.length : Int) := by omega
      have hi0 : (0 : Int) ≤ (k : Int) := by omega
      have HM := Lib.hid (mem_take (n := n) hlt)
      have HIN := Lib.hid (fun (e : l[k] = n) => (show n ∈ l from e ▸ List.getElem_mem hlt))
      obtain ⟨x, hx⟩ : ∃ x, l[k] = x := ⟨_, rfl⟩
      rw [hx] at hc HM HIN
      clear hx
      by_cases he : x = n
      · obtain rfl : v = true := by rw [← HV.out]; exact decide_eq_true (HIN.out he)
        subst he
        have e1 : (x == x) = true := by simp
        clear HM HIN HN HV
        go_wp2
        go_ret
        exact ⟨rfl, rfl⟩
      · have e1 : (x == n) = false := by rw [beq_eq_false_iff_ne]; exact he
        have HE := Lib.hid he
        clear he
        go_wp2
        go_round
        case rel => exact ⟨k + 1, by omega, by go_num, fun h => by rcases HM.out.1 h with h | h; exact HN.out h; exact HE.out h.symm⟩
        case measure => simp [intOf]; omega
    · obtain rfl : v = false := by
        rw [← HV.out]
        have := HN.out
        rw [List.take_of_length_le (by omega)] at this
        exact decide_eq_false this
      go_wp2
      go_ret
      exact ⟨rfl, rfl⟩
theorem sq_bd (x : Int) (h : -64 ≤ x ∧ x ≤ 64) : 0 ≤ x * x ∧ x * x ≤ 4096 := by
  rcases Int.lt_or_le x 0 with h1 | h1
  · have h2 := Int.mul_nonneg (a := -x) (b := -x) (by omega) (by omega)
    have h3 := Int.mul_le_mul (a := -x) (b := -x) (c := 64) (d := 64) (by omega) (by omega) (by omega) (by omega)
    rw [Int.neg_mul_neg] at h2 h3; omega
  · have h2 := Int.mul_nonneg h1 h1
    have h3 := Int.mul_le_mul (a := x) (b := x) (c := 64) (d := 64) (by omega) (by omega) (by omega) (by omega)
    omega
theorem beq_eq_decide (a b : Int) : (a == b) = decide (a = b) := by
  by_cases h : a = b
  · subst h; simp
  · rw [beq_eq_false_iff_ne.2 h, decide_eq_false h]
set_option maxHeartbeats 1000000 in
theorem beside_is (wd a b : Int) (v : Bool) (w : World) (h1 : 1 ≤ wd) (h2 : wd ≤ 8) (ha : 0 ≤ a ∧ a ≤ 64) (hb : 0 ≤ b ∧ b ≤ 64) (h : besB wd a b = v) :
    Calls Try.prog 134 #[.int .i64 wd, .int .i64 a, .int .i64 b] w (Quiet (.bool v) w) := by
  have hne : ¬ wd = 0 := by omega
  have HV := Lib.hid h
  have a1 := Int.emod_nonneg a (b := wd) (by omega)
  have a2 := Int.emod_lt_of_pos a (b := wd) (by omega)
  have a3 := Int.ediv_nonneg (a := a) (b := wd) (by omega) (by omega)
  have a4 := Int.ediv_le_self (a := a) wd (by omega)
  have b1 := Int.emod_nonneg b (b := wd) (by omega)
  have b2 := Int.emod_lt_of_pos b (b := wd) (by omega)
  have b3 := Int.ediv_nonneg (a := b) (b := wd) (by omega) (by omega)
  have b4 := Int.ediv_le_self (a := b) wd (by omega)
  unfold besB at HV
  clear h
  go_enter Try.func134, Try.ntmps134
  go_wp2
  go_quiet (fail)
  go_wp2
  go_ret
  refine ⟨?_, ⟨_, rfl⟩⟩
  rw [← HV.out]
  obtain ⟨X, hX⟩ : ∃ X, a % wd - b % wd = X := ⟨_, rfl⟩
  obtain ⟨Y, hY⟩ : ∃ Y, a / wd - b / wd = Y := ⟨_, rfl⟩
  rw [hX, hY]
  have x1 := sq_bd X (by omega)
  have x2 := sq_bd Y (by omega)
  rw [IntWalk.wrap64_in (X * X) (by omega), IntWalk.wrap64_in (Y * Y) (by omega), IntWalk.wrap64_in (X * X + Y * Y) (by omega)]
  rw [beq_eq_decide]
  rfl
/-- whether a cell belongs to the grown region, asked at the first m cells -/
def nearGr (wd : Int) (l : List Int) (i : Int) (m : Nat) : Bool := decide (i ∈ l) || (l.take m).any fun k => besB wd i k
theorem nearGr_zero (wd : Int) (l : List Int) (i : Int) : nearGr wd l i 0 = decide (i ∈ l) := by simp [nearGr]
theorem nearGr_all (wd : Int) (l : List Int) (i : Int) : nearGr wd l i l.length = nearB wd l i := by simp [nearGr, nearB]
theorem nearGr_step (wd : Int) (l : List Int) (i : Int) (m : Nat) (h : m < l.length) : nearGr wd l i (m + 1) = (nearGr wd l i m || besB wd i l[m]) := by
  unfold nearGr; rw [List.take_succ_eq_append_getElem h, List.any_append, Bool.or_assoc]; simp
end Go.Proofs.Ythceffkkokgpnaa
namespace Go.Proofs.Ythceffkkokgpnaa
open Go.RowKit
set_option linter.unusedVariables false
set_option linter.unusedSimpArgs false
theorem quietMoreT {P : Program} {f : FuncId} {args : Array Value} {w : World} {a n : Nat} {v : Value} (h : ∀ W : World, Calls P f args W fun e w' => e = .returned v ∧ W = w') :
    Calls P f args (w.drewN (a + n)) fun e w'' => e = .returned v ∧ ∃ m, w'' = w.drewN (a + m) := (h _).mono fun _ _ h9 => ⟨h9.1, n, h9.2.symm⟩
set_option maxRecDepth 100000 in
set_option maxHeartbeats 8000000 in
theorem specTr_any (aa : Option Addr) (la : List StT) (ca : Nat) (ab : Option Addr) (lb : List StT) (cb : Nat) (at_ : Option Addr) (t : List Int) (ct : Nat) (v : Bool) (w : World) (h1 : Sts w w.heap.size aa la) (h2 : Sts w w.heap.size ab lb) (h3 : Ints .i64 w w.heap.size at_ t) (n1 : la.length ≤ 1048576) (n2 : lb.length ≤ 1048576) (n3 : t.length ≤ 1048576) (hc : t.length ≤ ct) (h : trB la lb t = v) :
    Calls Try.prog 75 #[.slice aa la.length ca, .slice ab lb.length cb, .slice at_ t.length ct] w fun e w' => e = .returned (.bool v) ∧ Below w.heap.size w w' := by
  have HA := Lib.hid (fun u W (h : Sts W W.heap.size aa la) (hu : stsB la = u) => specList_any aa la ca u W h n1 hu)
  have HB := Lib.hid (fun u W (h : Sts W W.heap.size ab lb) (hu : stsB lb = u) => specList_any ab lb cb u W h n2 hu)
  have H1 := Lib.hid h1
  have H2 := Lib.hid h2
  have H3 := Lib.hid h3
  have HV := Lib.hid h
  have HCP := Lib.hid hc
  clear h1 h2 h3 h hc
  cases ha : stsB la with
  | false =>
    obtain rfl : v = false := by rw [← HV.out]; exact tr_no_a ha
    have HA1 := Lib.hid (fun W h => HA.out false W h ha)
    clear HA ha
    go_enter Try.func75, Try.ntmps75
    go_wp2_with (go_at_call 92; (with_reducible refine (HA1.out _ H1.out).mono ?_); rintro e w1 ⟨rfl, b1⟩; have B1 := Lib.hid b1; clear b1)
    go_ret
    exact ⟨rfl, B1.out⟩
  | true =>
    have HA1 := Lib.hid (fun W h => HA.out true W h ha)
    have HAA := Lib.hid ha
    clear HA ha
    cases hb : stsB lb with
    | false =>
      obtain rfl : v = false := by rw [← HV.out]; exact tr_no_b hb
      have HB1 := Lib.hid (fun W h => HB.out false W h hb)
      clear HB hb
      go_enter Try.func75, Try.ntmps75
      go_wp2_with fail
      refine (HA1.out _ H1.out).mono ?_
      rintro e w1 ⟨rfl, b1⟩
      have B1 := Lib.hid b1
      have H21 := Lib.hid (sts_below H2.out b1)
      clear b1
      go_wp2_with fail
      refine (HB1.out _ H21.out).mono ?_
      rintro e w2 ⟨rfl, b2⟩
      have B2 := Lib.hid (below_then B1.out b2)
      clear b2
      go_wp2
      go_ret
      exact ⟨rfl, B2.out⟩
    | true =>
      have HB1 := Lib.hid (fun W h => HB.out true W h hb)
      have HBB := Lib.hid hb
      clear HB hb
      by_cases hlen : (t.length : Int) = (la.length : Int)
      · have HV2 := Lib.hid (show trsB lb.length t = v from by rw [← HV.out]; exact (tr_same HAA.out HBB.out hlen).symm)
        have nlen : ((t.length : Int) != (la.length : Int)) = false := by simp [hlen]
        have hlb := sts_len HBB.out
        have hlt5 : t.length ≤ 5 := by have := sts_len HAA.out; omega
        clear hlen
        go_enter Try.func75, Try.ntmps75
        go_wp2_with fail
        refine (HA1.out _ H1.out).mono ?_
        rintro e w1 ⟨rfl, b1⟩
        have B1 := Lib.hid b1
        have H21 := Lib.hid (sts_below H2.out b1)
        clear b1
        go_wp2_with fail
        refine (HB1.out _ H21.out).mono ?_
        rintro e w2 ⟨rfl, b2⟩
        have B2 := Lib.hid (below_then B1.out b2)
        clear b2
        go_wp2
        clear nlen
        have hwb := IntWalk.i64_in ((lb.length : Int) - 1) (by omega)
        go_loopw [7] (fun i wr => ∃ k : Nat, k ≤ t.length ∧ i = .int .i64 k ∧ (∀ j, j < k → okJ lb.length t j = true) ∧ Below w.heap.size w wr) (fun i _ => t.length - (intOf i).toNat)
        case atStart => exact ⟨0, Nat.zero_le _, rfl, by intro j h; omega, B2.out⟩
        case round =>
          obtain ⟨k, hk, rfl, hno, hB⟩ := hrel
          have HN := Lib.hid hno
          have HBR := Lib.hid hB
          clear hno
          by_cases hlt : k < t.length
          · obtain ⟨b, o, rfl, hb9, hc9⟩ := (H3.out.below hB (Nat.le_refl _)).at_ hlt
            have hi : (k : Int) < (t.length : Int) := by omega
            have hi0 : (0 : Int) ≤ (k : Int) := by omega
            have hcap : (k : Int) ≤ (ct : Int) := by have := HCP.out; omega
            have htl : (t.take k).length = k := by rw [List.length_take]; omega
            have HTK := Lib.hid (ints_take H3.out k)
            have HF := Lib.hid (fun u (hu : decide (t[k] ∈ t.take k) = u) W (G : Below w.heap.size w W) => has_is (some ⟨b, o, none⟩) (t.take k) ct w.heap.size t[k] u W (HTK.out.below G (Nat.le_refl _)) (by omega) hu)
            rw [htl] at HF
            have HOK := Lib.hid (okJ_at (n := lb.length) hlt)
            have HBAD := Lib.hid (fun h => trs_bad (n := lb.length) hlt h)
            have HNX := Lib.hid (fun (hx : okJ lb.length t k = true) j (hj : j < k + 1) => show okJ lb.length t j = true by
              rcases Nat.lt_or_ge j k with h1 | h1
              · exact HN.out j h1
              · obtain rfl : j = k := by omega
                exact hx)
            have HIN := Lib.hid (fun u (hu : (decide (-1 ≤ t[k]) && decide (t[k] ≤ (lb.length : Int) - 1)) = u) W => l1In_is t[k] (-1) ((lb.length : Int) - 1) u W hu)
            generalize t[k] = z at *
            generalize t.take k = q at *
            clear htl hB
            have hQN := fun n => (show ∀ m, Below w.heap.size w (wr.drewN m) from fun m => below_drewN HBR.out m) n
            clear hQN
            by_cases hz : -1 ≤ z ∧ z < (lb.length : Int)
            · have HIN1 := Lib.hid (HIN.out true (by rw [decide_eq_true hz.1, decide_eq_true (by omega)]; rfl))
              have HOK2 := Lib.hid (show okJ lb.length t k = feB q z by rw [HOK.out, decide_eq_true hz.1, decide_eq_true hz.2]; rfl)
              by_cases hz0 : 0 ≤ z
              · obtain ⟨u, hu⟩ : ∃ u, decide (z ∈ q) = u := ⟨_, rfl⟩
                have HF1 := Lib.hid (fun W G => HF.out u hu W G)
                have HFE := Lib.hid (show feB q z = !u by unfold feB; rw [decide_eq_false (show ¬ z = -1 by omega), hu]; rfl)
                clear hu HF HIN HOK hz
                have HFN := Lib.hid (fun n => HF1.out (wr.drewN n) (below_drewN HBR.out n))
                cases u with
                | true =>
                  obtain rfl : v = false := by rw [← HV2.out]; exact HBAD.out (HOK2.out.trans HFE.out)
                  go_wp2_with fail
                  go_quiet (first | (go_at_call 101; first | exact Calls.quiet_of_same (quietSame (HIN1.out _)) | exact quietMoreT HIN1.out) | (go_at_call 129; first | exact Calls.quiet_of_same (quietSame (HF1.out _ HBR.out)) | exact (HFN.out _).mono fun _ _ h9 => ⟨h9.1, _, h9.2.symm⟩))
                  go_wp2
                  go_ret
                  exact ⟨rfl, below_drewN HBR.out _⟩
                | false =>
                  have HNX1 := Lib.hid (HNX.out (HOK2.out.trans HFE.out))
                  go_wp2_with fail
                  go_quiet (first | (go_at_call 101; first | exact Calls.quiet_of_same (quietSame (HIN1.out _)) | exact quietMoreT HIN1.out) | (go_at_call 129; first | exact Calls.quiet_of_same (quietSame (HF1.out _ HBR.out)) | exact (HFN.out _).mono fun _ _ h9 => ⟨h9.1, _, h9.2.symm⟩))
                  go_wp2
                  go_roundw
                  case rel => exact ⟨k + 1, by omega, by go_num, HNX1.out, below_drewN HBR.out _⟩
                  case measure => simp [intOf]; omega
              · obtain rfl : z = -1 := by omega
                have HNX1 := Lib.hid (HNX.out (HOK2.out.trans (feB_none q)))
                clear HF HIN HOK hz hz0
                go_wp2_with fail
                go_quiet ((go_at_call 101; first | exact Calls.quiet_of_same (quietSame (HIN1.out _)) | exact quietMoreT HIN1.out))
                go_wp2
                go_roundw
                case rel => exact ⟨k + 1, by omega, by go_num, HNX1.out, below_drewN HBR.out _⟩
                case measure => simp [intOf]; omega
            · have HIN1 := Lib.hid (HIN.out false (by
                by_cases h1 : -1 ≤ z
                · rw [decide_eq_false (p := z ≤ (lb.length : Int) - 1) (by omega), Bool.and_false]
                · rw [decide_eq_false h1]; rfl))
              obtain rfl : v = false := by
                rw [← HV2.out]
                refine HBAD.out ?_
                rw [HOK.out]
                by_cases h1 : -1 ≤ z
                · rw [decide_eq_false (p := z < (lb.length : Int)) (by omega), Bool.and_false]; rfl
                · rw [decide_eq_false h1]; rfl
              clear HF HIN HOK hz
              go_wp2_with fail
              go_quiet ((go_at_call 101; first | exact Calls.quiet_of_same (quietSame (HIN1.out _)) | exact quietMoreT HIN1.out))
              go_wp2
              go_ret
              exact ⟨rfl, below_drewN HBR.out _⟩
          · obtain rfl : k = t.length := by omega
            obtain rfl : v = true := by rw [← HV2.out]; exact trs_all (fun j hj => HN.out j hj)
            clear hB
            go_wp2
            go_ret
            exact ⟨rfl, HBR.out⟩
      · obtain rfl : v = false := by rw [← HV.out]; exact tr_no_len hlen
        have nlen : ((t.length : Int) != (la.length : Int)) = true := by simp [hlen]
        clear hlen
        go_enter Try.func75, Try.ntmps75
        go_wp2_with fail
        refine (HA1.out _ H1.out).mono ?_
        rintro e w1 ⟨rfl, b1⟩
        have B1 := Lib.hid b1
        have H21 := Lib.hid (sts_below H2.out b1)
        clear b1
        go_wp2_with fail
        refine (HB1.out _ H21.out).mono ?_
        rintro e w2 ⟨rfl, b2⟩
        have B2 := Lib.hid (below_then B1.out b2)
        clear b2
        go_wp2
        go_ret
        exact ⟨rfl, B2.out⟩
end Go.Proofs.Ythceffkkokgpnaa
namespace Go.Proofs.Ythceffkkokgpnaa
open Go.RowKit
set_option linter.unusedVariables false
set_option linter.unusedSimpArgs false
set_option maxRecDepth 100000 in
set_option maxHeartbeats 8000000 in
theorem specCost_any (aa : Option Addr) (la : List StT) (ca : Nat) (ab : Option Addr) (lb : List StT) (cb : Nat) (at_ : Option Addr) (t : List Int) (ct : Nat) (p : Int) (w : World) (h1 : Sts w w.heap.size aa la) (h2 : Sts w w.heap.size ab lb) (h3 : Ints .i64 w w.heap.size at_ t) (htr : trB la lb t = true) (hp2 : 0 ≤ p ∧ p ≤ 20) :
    Calls Try.prog 77 #[.slice aa la.length ca, .slice ab lb.length cb, .slice at_ t.length ct, .int .i64 p] w fun e w' => e = .returned (.int .i64 (tcC la lb t p)) ∧ Below w.heap.size w w' := by
  have H1 := Lib.hid h1
  have H2 := Lib.hid h2
  have H3 := Lib.hid h3
  obtain ⟨ha, hb, hl, hts⟩ := tr_parts htr
  have HTR := Lib.hid htr
  have HAA := Lib.hid ha
  have HBB := Lib.hid hb
  have HLL := Lib.hid hl
  have la5 := sts_len ha
  have lb5 := sts_len hb
  have HTI := Lib.hid (show tcK la lb t p t.length = tcC la lb t p from rfl)
  have HZ := Lib.hid (show p * (lb.length : Int) = tcK la lb t p 0 from rfl)
  have HBD := Lib.hid (fun k (hk : k ≤ la.length) => (tc_bd (k := k) htr hp2 hk).1)
  have hz0 := HBD.out 0 (by omega)
  generalize tcC la lb t p = cend at *
  obtain ⟨z0, hz⟩ : ∃ z, tcK la lb t p 0 = z := ⟨_, rfl⟩
  rw [hz] at hz0 HZ
  have HZZ := Lib.hid hz
  have hmul : IntKind.i64.wrap (p * (lb.length : Int)) = z0 := by rw [HZ.out]; exact IntWalk.i64_in _ (by omega)
  have hlt5 : t.length ≤ 5 := by omega
  clear ha hb hl hts hz h1 h2 h3 htr
  go_enter Try.func77, Try.ntmps77
  go_wp2
  clear hmul
  go_loopw [9, 10] (fun c i wr => ∃ k : Nat, k ≤ t.length ∧ i = .int .i64 k ∧ c = .int .i64 (tcK la lb t p k) ∧ Below w.heap.size w wr) (fun _ i _ => t.length - (intOf i).toNat)
  case atStart => exact ⟨0, Nat.zero_le _, rfl, by rw [HZZ.out], Below.refl _ _⟩
  case round =>
    obtain ⟨k, hk, rfl, rfl, hB⟩ := hrel
    have HBR := Lib.hid hB
    have HR := Lib.hid (HBD.out k (by have := HLL.out; omega))
    by_cases hlt : k < t.length
    · obtain ⟨b, o, rfl, hb9, hc9⟩ := (H3.out.below hB (Nat.le_refl _)).at_ hlt
      have hi : (k : Int) < (t.length : Int) := by omega
      have hi0 : (0 : Int) ≤ (k : Int) := by omega
      have hka : k < la.length := by have := HLL.out; omega
      have hia : (k : Int) < (la.length : Int) := by omega
      have HN := Lib.hid (show tcK la lb t p (k + 1) = tcK la lb t p k + oneC la lb t p k from rfl)
      have HR2 := Lib.hid (HBD.out (k + 1) (by omega))
      obtain ⟨zlo, zhi⟩ := tr_ind HTR.out hlt
      have HON := Lib.hid (fun (e : t[k] = -1) => oneC_none (a := la) (b := lb) (p := p) hlt e)
      have HOS := Lib.hid (fun (n : Nat) (e : t[k] = (n : Int)) (hb : n < lb.length) => oneC_some (p := p) hlt e hka hb)
      obtain ⟨q0, hq0⟩ : ∃ q, tcK la lb t p k = q := ⟨_, rfl⟩
      obtain ⟨q1, hq1⟩ : ∃ q, tcK la lb t p (k + 1) = q := ⟨_, rfl⟩
      rw [hq0] at HR HN
      rw [hq1] at HR2 HN
      rw [hq0]
      have HQ1 := Lib.hid hq1
      clear hq0 hq1
      generalize oneC la lb t p k = oc at *
      generalize t[k] = z at *
      by_cases hz : z = -1
      · subst hz
        have HF := Lib.hid (show q1 = q0 + p from by have := HON.out rfl; have := HN.out; omega)
        have hr := HR.out
        have hw2 := IntWalk.i64_in (q0 + p) (by omega)
        clear HON HOS hB
        go_wp2
        go_roundw
        case rel => exact ⟨k + 1, by omega, by go_num, by rw [HQ1.out, HF.out], HBR.out⟩
        case measure => simp [intOf]; omega
      · obtain ⟨n, rfl⟩ : ∃ n : Nat, z = (n : Int) := ⟨z.toNat, by omega⟩
        have hneg : ¬ (n : Int) < 0 := by omega
        have hnb : n < lb.length := by omega
        have hjb : (n : Int) < (lb.length : Int) := by omega
        have hjb0 : (0 : Int) ≤ (n : Int) := by omega
        obtain ⟨b1, o1, rfl, hb1, c0, c1, c2, c3⟩ := (H1.out.below hB (Nat.le_refl _)).at_ hka
        obtain ⟨b2, o2, rfl, hb2, d0, d1, d2, d3⟩ := (H2.out.below hB (Nat.le_refl _)).at_ hnb
        have HDB := Lib.hid (dsB_bd (sts_ok HAA.out hka) (sts_ok HBB.out hnb))
        have HO := Lib.hid (HOS.out n rfl hnb)
        have hs1 := sts_ok HAA.out hka
        have hs2 := sts_ok HBB.out hnb
        generalize la[k] = s1 at *
        generalize lb[n] = s2 at *
        obtain ⟨x0, y0, m0, p0⟩ := s1
        obtain ⟨x1, y1, m1, p1⟩ := s2
        simp only at c0 c1 c2 c3 d0 d1 d2 d3
        have hs1' := stB_iff.1 (show stB x0 y0 m0 p0 = true from hs1)
        have hs2' := stB_iff.1 (show stB x1 y1 m1 p1 = true from hs2)
        have HD := Lib.hid (fun W => specDs_any x0 y0 m0 p0 x1 y1 m1 p1 W hs1'.1 hs1'.2.1 hs2'.1 hs2'.2.1)
        generalize dsB (x0, y0, m0, p0) (x1, y1, m1, p1) = d at *
        have hd := HDB.out
        have hr := HR.out
        have hr2 := HR2.out
        have HF := Lib.hid (show q1 = q0 + d - p from by have := HO.out; have := HN.out; omega)
        have hw1 := IntWalk.i64_in (q0 + d) (by omega)
        have hw2 := IntWalk.i64_in (q0 + d - p) (by rw [← HF.out]; omega)
        have hsz := hB.size
        have e9 := later_cell hc9 (by omega)
        have e0 := later_cell c0 (by omega)
        have e1 := later_cell c1 (by omega)
        have e2 := later_cell c2 (by omega)
        have e3 := later_cell c3 (by omega)
        have f0 := later_cell d0 (by omega)
        have f1 := later_cell d1 (by omega)
        have f2 := later_cell d2 (by omega)
        have f3 := later_cell d3 (by omega)
        clear c0 c1 c2 c3 d0 d1 d2 d3 HON HOS hB hs1 hs2 hs1' hs2' hd hr hr2 hsz hz
        go_wp2_with fail
        refine wp_region_later (by kernel_rfl) (by kernel_rfl) ?_
        repeat (go_big_quiet_step ((go_at_call 72; exact calls_later (HD.out _))))
        refine wpQuiet_nil ?_
        intro _ hw'
        obtain ⟨pq, hw''⟩ := hw'
        subst hw''
        have B2 := Lib.hid (HBR.out.trans (pq.below.mono HBR.out.size))
        clear e0 e1 e2 e3 f0 f1 f2 f3 e9
        go_wp2
        go_roundw
        case rel => exact ⟨k + 1, by omega, by go_num, by rw [HQ1.out, HF.out], B2.out⟩
        case measure => simp [intOf]; omega
    · obtain rfl : k = t.length := by omega
      rw [HTI.out]
      clear hB
      go_wp2
      go_ret
      exact ⟨rfl, HBR.out⟩
set_option maxRecDepth 100000 in
set_option maxHeartbeats 8000000 in
theorem specTC_any (aa : Option Addr) (la : List StT) (ca : Nat) (ab : Option Addr) (lb : List StT) (cb : Nat) (at_ : Option Addr) (t : List Int) (ct : Nat) (p : Int) (w : World) (h1 : Sts w w.heap.size aa la) (h2 : Sts w w.heap.size ab lb) (h3 : Ints .i64 w w.heap.size at_ t) (n1 : la.length ≤ 1048576) (n2 : lb.length ≤ 1048576) (n3 : t.length ≤ 1048576) (hc : t.length ≤ ct) :
    Calls Try.prog 18 #[.slice aa la.length ca, .slice ab lb.length cb, .slice at_ t.length ct, .int .i64 p] w fun e w' => e = .returned (.tuple #[.int .i64 (tcV la lb t p), .bool (tcB la lb t p)]) ∧ Below w.heap.size w w' := by
  have HT := Lib.hid (fun v (hv : trB la lb t = v) => specTr_any aa la ca ab lb cb at_ t ct v w h1 h2 h3 n1 n2 n3 hc hv)
  have HP := Lib.hid (fun v (hv : pnB p = v) W => specPen_is p v W hv)
  have HC := Lib.hid (fun (htr : trB la lb t = true) (hp2 : 0 ≤ p ∧ p ≤ 20) W (B : Below w.heap.size w W) => specCost_any aa la ca ab lb cb at_ t ct p W ((h1.below B (Nat.le_refl _)).more B.size) ((h2.below B (Nat.le_refl _)).more B.size) ((h3.below B (Nat.le_refl _)).more B.size) htr hp2)
  clear h1 h2 h3
  cases ht : trB la lb t with
  | false =>
    have HE := Lib.hid (tcB_tr (p := p) ht)
    rw [tcV_no HE.out, HE.out]
    have HT1 := Lib.hid (HT.out false ht)
    clear HT ht
    go_enter Try.func18, Try.ntmps18
    go_wp2_with (go_at_call 75; (with_reducible refine (HT1.out).mono ?_); rintro e w1 ⟨rfl, b1⟩; have B1 := Lib.hid b1; clear b1)
    go_ret2
    exact ⟨rfl, B1.out⟩
  | true =>
    have HT1 := Lib.hid (HT.out true ht)
    cases hp : pnB p with
    | false =>
      have HE := Lib.hid (tcB_pn (a := la) (b := lb) (t := t) hp)
      rw [tcV_no HE.out, HE.out]
      have HP1 := Lib.hid (HP.out false hp)
      clear HT ht hp HP
      go_enter Try.func18, Try.ntmps18
      go_wp2_with (first | (go_at_call 75; (with_reducible refine (HT1.out).mono ?_); rintro e w1 ⟨rfl, b1⟩; have B1 := Lib.hid b1; clear b1) | (go_at_call 76; (with_reducible refine (HP1.out _).mono ?_); rintro e w2 ⟨rfl, rfl⟩))
      go_ret2
      exact ⟨rfl, B1.out⟩
    | true =>
      have HE := Lib.hid (tcB_yes ht hp)
      rw [tcV_yes HE.out, HE.out]
      have HP1 := Lib.hid (HP.out true hp)
      have HC1 := Lib.hid (HC.out ht (pnB_iff.1 hp))
      clear HT ht hp HP HC
      generalize tcC la lb t p = cend at *
      go_enter Try.func18, Try.ntmps18
      go_wp2_with (first | (go_at_call 75; (with_reducible refine (HT1.out).mono ?_); rintro e w1 ⟨rfl, b1⟩; have B1 := Lib.hid b1; clear b1) | (go_at_call 76; (with_reducible refine (HP1.out _).mono ?_); rintro e w2 ⟨rfl, rfl⟩) | (go_at_call 77; (with_reducible refine (HC1.out _ B1.out).mono ?_); rintro e w3 ⟨rfl, b3⟩; have B3 := Lib.hid b3; clear b3))
      go_ret2
      exact ⟨rfl, below_then B1.out B3.out⟩
end Go.Proofs.Ythceffkkokgpnaa
namespace Go.Proofs.Ythceffkkokgpnaa
open Go.RowKit
/-- a list of numbers, a number and a bool, the list in memory of the call's own -/
def KvRet (r : List Int) (z : Int) (v : Bool) (w : World) (e : Ending) (w' : World) : Prop := ∃ a c, e = .returned (.tuple #[.slice a r.length c, .int .i64 z, .bool v]) ∧ OwnI w' w.heap.size a r ∧ Below w.heap.size w w'
/-- .. the list readable -/
def KsRet (r : List Int) (z : Int) (v : Bool) (w : World) (e : Ending) (w' : World) : Prop := ∃ a c, e = .returned (.tuple #[.slice a r.length c, .int .i64 z, .bool v]) ∧ Ints .i64 w' w'.heap.size a r ∧ Below w.heap.size w w'
end Go.Proofs.Ythceffkkokgpnaa
namespace Go.Proofs.Ythceffkkokgpnaa
open Go.RowKit
set_option linter.unusedVariables false
set_option linter.unusedSimpArgs false
theorem ints_srcS {w : World} {B : Nat} {ad : Addr} {l : List Int} (h : Ints .i64 w B (some ad) l) : ∀ j v, (iv l)[j]? = some v → w.cell? (ad.add j) = some v := by
  intro j v hv
  obtain ⟨hj, hv⟩ := List.getElem?_eq_some_iff.1 hv
  rw [iv_length] at hj
  obtain ⟨b, o, e, _, hc⟩ := h.at_ hj
  injection e with e
  subst e
  have e : (⟨b, o, none⟩ : Addr).add j = ⟨b, o + j, none⟩ := by unfold Addr.add; split <;> simp_all
  rw [e, hc, ← hv, iv_get]
set_option maxHeartbeats 1000000 in
theorem ownT_any (ad : Addr) (l : List Int) (c : Nat) (w : World) (hl : Ints .i64 w w.heap.size (some ad) l) (hn : l.length ≤ 1048576) :
    Calls Try.prog 139 #[.slice (some ad) l.length c] w fun e w' => ∃ v, e = .returned v ∧ w'.ownsRow w.heap.size 3 1 v l.length (iv l) ∧ Below w.heap.size w w' := by
  obtain ⟨i0, hi0', hz0, hz1, hz2⟩ := info_parts infoInt
  have HC := Lib.hid (ints_srcS (hl.below (below_all w (.cells #[] 3)) (Nat.le_refl _)))
  have HO := Lib.hid (World.ownsRow_made (base := w.heap.size) (e := 3) (size := 1) w #[] 0 (Nat.le_refl _) (by simp) rfl)
  clear hl
  go_enter Try.func139, Try.ntmps139
  go_wp2_with (at_builtin; refine wpList_append_own _ rfl _ _ 30 rfl w.heap.size 3 i0 (.int .i64 0) 1 8 Try.underlying30 hi0' hz0 hz1 hz2 rfl (by decide) _ 0 [] rfl HO.out ad l.length c (iv l) rfl (by rw [iv_length]; simp) HC.out (iv_one l) (by unfold maxLen; omega) (by omega) (by simp) ?_; intro v' w1 hown' hgrow _; rw [Nat.zero_add, List.nil_append] at hown'; have HB := Lib.hid ((below_all w _).grown hgrow (by simp) (fun k hk => (HO.out.lt k hk).1)); have HO1 := Lib.hid hown'; clear hown' hgrow)
  go_ret
  exact ⟨v', rfl, HO1.out, HB.out⟩
set_option maxRecDepth 100000 in
set_option maxHeartbeats 16000000 in
theorem specBest_any (aa : Option Addr) (la : List StT) (ca : Nat) (ab : Option Addr) (lb : List StT) (cb : Nat) (p : Int) (ha : stsB la = true) (hb : stsB lb = true) (hp : 0 ≤ p ∧ p ≤ 20) :
    ∀ (d : Nat) (q : List Int) (ad : Addr) (ct : Nat) (W : World), q.length + d = la.length → trsB lb.length q = true → Sts W W.heap.size aa la → Sts W W.heap.size ab lb → Ints .i64 W W.heap.size (some ad) q →
    Calls Try.prog 93 #[.slice aa la.length ca, .slice ab lb.length cb, .int .i64 p, .slice (some ad) q.length ct] W fun e w' => ∃ a' c', e = .returned (.tuple #[.slice a' (bR (fun t => tcC la lb t p) lb.length d q).1.length c', .int .i64 (bR (fun t => tcC la lb t p) lb.length d q).2]) ∧ Ints .i64 w' w'.heap.size a' (bR (fun t => tcC la lb t p) lb.length d q).1 ∧ Below W.heap.size W w' := by
  have la5 := sts_len ha
  have lb5 := sts_len hb
  intro d
  induction d with
  | zero =>
    intro q ad ct W hq ht h1 h2 h3
    have HC := Lib.hid (specCost_any aa la ca ab lb cb (some ad) q ct p W h1 h2 h3 ((tr_same ha hb (by omega)).trans ht) hp)
    have H3 := Lib.hid h3
    have heq : ((q.length : Int) == (la.length : Int)) = true := by rw [beq_iff_eq]; omega
    show Calls _ _ _ _ fun e w' => ∃ a' c', e = .returned (.tuple #[.slice a' q.length c', .int .i64 (tcC la lb q p)]) ∧ Ints .i64 w' w'.heap.size a' q ∧ _
    generalize tcC la lb q p = z at *
    clear h1 h2 h3 ha hb ht hq
    go_enter Try.func93, Try.ntmps93
    go_wp2_with (go_at_call 77; (with_reducible refine HC.out.mono ?_); rintro e w1 ⟨rfl, b1⟩; have B1 := Lib.hid b1; clear b1)
    go_ret2
    exact ⟨_, _, rfl, ints_below H3.out B1.out, B1.out⟩
  | succ d ih =>
    intro q ad ct W hq ht h1 h2 h3
    obtain ⟨i0, hi0', hz0, hz1, hz2⟩ := info_parts infoInt
    have HIH := Lib.hid (fun q ad ct W' (G : Below W.heap.size W W') h4 h5 h6 => ih q ad ct W' h4 h5 ((h1.below G (Nat.le_refl _)).more G.size) ((h2.below G (Nat.le_refl _)).more G.size) h6)
    have hne : ((q.length : Int) == (la.length : Int)) = false := by rw [beq_eq_false_iff_ne]; omega
    have H3 := Lib.hid h3
    have HOW := Lib.hid (fun W' (G : Below W.heap.size W W') => ownT_any ad q ct W' ((h3.below G (Nat.le_refl _)).more G.size) (by omega))
    have HHAS := Lib.hid (fun k v W' (G : Below W.heap.size W W') hv => has_is (some ad) q ct W.heap.size k v W' (h3.below G (Nat.le_refl _)) (by omega) hv)
    have HQ := Lib.hid (And.intro hq trivial)
    have HT := Lib.hid ht
    have G0 := Lib.hid (Below.refl W.heap.size W)
    have hq4 : q.length ≤ 4 := by omega
    show Calls _ _ _ _ fun e w' => ∃ a' c', e = .returned (.tuple #[.slice a' (bk (bR (fun t => tcC la lb t p) lb.length d) q lb.length).1.length c', .int .i64 (bk (bR (fun t => tcC la lb t p) lb.length d) q lb.length).2]) ∧ Ints .i64 w' w'.heap.size a' (bk (bR (fun t => tcC la lb t p) lb.length d) q lb.length).1 ∧ _
    generalize bR (fun t => tcC la lb t p) lb.length d = f at *
    clear ih h1 h2 h3 ha hb hq ht
    go_enter Try.func93, Try.ntmps93
    go_wp2_with fail
    refine (HOW.out _ G0.out).mono ?_
    rintro e w1 ⟨v1, rfl, o1, b1⟩
    have O1 := Lib.hid o1
    have B1 := Lib.hid b1
    clear o1 b1
    go_wp2_with (at_builtin; refine wpList_append_own _ rfl _ _ 30 rfl W.heap.size 3 i0 (.int .i64 0) 1 8 Try.underlying30 hi0' hz0 hz1 hz2 rfl (by decide) v1 q.length (iv q) rfl (O1.out.alloc _) ⟨w1.heap.size, 0, none⟩ 1 1 [.int .i64 (-1)] rfl rfl (cell_one_new _ _ _) (by simp [Value.oneCell']) (by unfold maxLen; omega) (by omega) (by have := B1.out.size; simp; omega) ?_; intro v' w2 hown2 hgrow2 _; obtain ⟨g2, c2, rfl⟩ := own_slice hown2 (by omega); have O2 := Lib.hid (ownI_of (l := q ++ [-1]) (by rw [iv_snoc]; exact hown2) (by simp)); have G2 := Lib.hid ((B1.out.alloc B1.out.size _).grown hgrow2 (B1.out.alloc B1.out.size _).size (fun j hj => (O1.out.lt j hj).1)); clear hown2 hgrow2)
    obtain ⟨a9, c9, e9, o9⟩ := O2.out
    injection e9 with e9 e8 e7
    subst e9
    have HI2 := Lib.hid o9.ints
    clear e8 e7 O2 o9
    have hsn : (q ++ [(-1 : Int)]).length = q.length + 1 := by simp
    have HC := Lib.hid (HIH.out (q ++ [-1]) ⟨g2, 0, none⟩ c2 w2 G2.out (by have := HQ.out.1; rw [hsn]; omega) (trs_add HT.out (by omega) (by omega) (feB_none q)) HI2.out)
    rw [hsn] at HC
    refine HC.out.mono ?_
    rintro e w3 ⟨a3, c3, rfl, i3, b3⟩
    have I3 := Lib.hid i3
    have G3 := Lib.hid (below_then G2.out b3)
    clear i3 b3 HI2 HC O1 B1 G2 G0 hsn hne
    go_wp2
    go_loopw [10, 11, 12] (fun bst lst i wr => ∃ k a' c', k ≤ lb.length ∧ i = .int .i64 (k : Nat) ∧ bst = .slice a' (bk f q k).1.length c' ∧ lst = .int .i64 (bk f q k).2 ∧ Ints .i64 wr wr.heap.size a' (bk f q k).1 ∧ Below W.heap.size W wr) (fun _ _ i _ => lb.length - (intOf i).toNat)
    case atStart => exact ⟨0, a3, c3, Nat.zero_le _, rfl, rfl, rfl, I3.out, G3.out⟩
    case round =>
      obtain ⟨k, a', c', hk, rfl, rfl, rfl, hI, hB⟩ := hrel
      have HI := Lib.hid hI
      have HB := Lib.hid hB
      clear hI hB
      by_cases hlt : k < lb.length
      · have hi : (k : Int) < (lb.length : Int) := by omega
        have hi0 : (0 : Int) ≤ (k : Int) := by omega
        have HST := Lib.hid (show bk f q (k + 1) = if (k : Int) ∈ q then bk f q k else if (f (q ++ [(k : Int)])).2 < (bk f q k).2 then f (q ++ [(k : Int)]) else bk f q k from rfl)
        obtain ⟨cur, hcur⟩ : ∃ s, bk f q k = s := ⟨_, rfl⟩
        rw [hcur] at HI HST
        rw [hcur]
        clear hcur
        by_cases hin : (k : Int) ∈ q
        · rw [if_pos hin] at HST
          have HH1 := Lib.hid (HHAS.out (k : Int) true wr HB.out (decide_eq_true hin))
          clear hin
          go_wp2_with (go_at_call 129; (with_reducible refine HH1.out.mono ?_); rintro e w4 ⟨rfl, rfl⟩)
          go_roundw
          case rel => exact ⟨k + 1, a', c', by omega, by go_num, by rw [HST.out], by rw [HST.out], by rw [HST.out]; exact HI.out, HB.out⟩
          case measure => simp [intOf]; omega
        · rw [if_neg hin] at HST
          have HH1 := Lib.hid (HHAS.out (k : Int) false wr HB.out (decide_eq_false hin))
          have HFE := Lib.hid (feB_out hin)
          clear hin
          go_wp2_with (go_at_call 129; (with_reducible refine HH1.out.mono ?_); rintro e w4 ⟨rfl, rfl⟩)
          refine (HOW.out _ HB.out).mono ?_
          rintro e w5 ⟨v5, rfl, o5, b5⟩
          have O5 := Lib.hid o5
          have B5 := Lib.hid b5
          have z5 := b5.size
          clear o5 b5
          go_wp2_with (at_builtin; refine wpList_append_own _ rfl _ _ 30 rfl wr.heap.size 3 i0 (.int .i64 0) 1 8 Try.underlying30 hi0' hz0 hz1 hz2 rfl (by decide) v5 q.length (iv q) rfl (O5.out.alloc _) ⟨w5.heap.size, 0, none⟩ 1 1 [.int .i64 (k : Int)] rfl rfl (cell_one_new _ _ _) (by simp [Value.oneCell']) (by unfold maxLen; omega) (by omega) (by simp; omega) ?_; intro v' w6 hown6 hgrow6 _; obtain ⟨g6, c6, rfl⟩ := own_slice hown6 (by omega); have O6 := Lib.hid (ownI_of (l := q ++ [(k : Int)]) (by rw [iv_snoc]; exact hown6) (by simp)); have K6 := Lib.hid ((B5.out.alloc B5.out.size (.cells #[.int .i64 (k : Int)] 3)).grown hgrow6 (B5.out.alloc B5.out.size _).size (fun j hj => (O5.out.lt j hj).1)); clear hown6 hgrow6)
          obtain ⟨a9, c9, e9, o9⟩ := O6.out
          injection e9 with e9 e8 e7
          subst e9
          have HI6 := Lib.hid o9.ints
          have G6 := Lib.hid (HB.out.trans (K6.out.mono HB.out.size))
          have J6 := Lib.hid ((HI.out.below K6.out (Nat.le_refl _)).more K6.out.size)
          clear e8 e7 O6 o9
          have hsn : (q ++ [(k : Int)]).length = q.length + 1 := by simp
          have HC := Lib.hid (HIH.out (q ++ [(k : Int)]) ⟨g6, 0, none⟩ c6 w6 G6.out (by have := HQ.out.1; rw [hsn]; omega) (trs_add HT.out (by omega) (by omega) HFE.out) HI6.out)
          rw [hsn] at HC
          obtain ⟨new, hnew⟩ : ∃ s, f (q ++ [(k : Int)]) = s := ⟨_, rfl⟩
          rw [hnew] at HC HST
          clear hnew hsn
          refine HC.out.mono ?_
          rintro e w7 ⟨a7, c7, rfl, i7, b7⟩
          have I7 := Lib.hid i7
          have G7 := Lib.hid (below_then G6.out b7)
          have J7 := Lib.hid (ints_below J6.out b7)
          clear i7 b7 HC HI6 K6 J6 O5 B5 z5
          by_cases hc : new.2 < cur.2
          · rw [if_pos hc] at HST
            go_wp2
            go_roundw
            case rel => exact ⟨k + 1, a7, c7, by omega, by go_num, by rw [HST.out], by rw [HST.out], by rw [HST.out]; exact I7.out, G7.out⟩
            case measure => simp [intOf]; omega
          · rw [if_neg hc] at HST
            go_wp2
            go_roundw
            case rel => exact ⟨k + 1, a', c', by omega, by go_num, by rw [HST.out], by rw [HST.out], by rw [HST.out]; exact J7.out, G7.out⟩
            case measure => simp [intOf]; omega
      · obtain rfl : k = lb.length := by omega
        go_wp2
        go_ret2
        exact ⟨a', c', rfl, HI.out, HB.out⟩
set_option maxRecDepth 100000 in
set_option maxHeartbeats 8000000 in
theorem specBT_any (aa : Option Addr) (la : List StT) (ca : Nat) (ab : Option Addr) (lb : List StT) (cb : Nat) (p : Int) (w : World) (h1 : Sts w w.heap.size aa la) (h2 : Sts w w.heap.size ab lb) (n1 : la.length ≤ 1048576) (n2 : lb.length ≤ 1048576) :
    Calls Try.prog 41 #[.slice aa la.length ca, .slice ab lb.length cb, .int .i64 p] w (KsRet (btR la lb p) (btV la lb p) (btB la lb p) w) := by
  have HA := Lib.hid (fun u (hu : stsB la = u) => specList_any aa la ca u w h1 n1 hu)
  have HB := Lib.hid (fun u W (B : Below w.heap.size w W) (hu : stsB lb = u) => specList_any ab lb cb u W ((h2.below B (Nat.le_refl _)).more B.size) n2 hu)
  have HP := Lib.hid (fun v (hv : pnB p = v) W => specPen_is p v W hv)
  cases ha : stsB la with
  | false =>
    have HE : btB la lb p = false := by unfold btB; rw [ha]; rfl
    rw [btR_no HE, btV_no HE, HE]
    have HA1 := Lib.hid (HA.out false ha)
    clear HA HE ha h1 h2
    go_enter Try.func41, Try.ntmps41
    go_wp2_with (go_at_call 92; (with_reducible refine (HA1.out).mono ?_); rintro e w1 ⟨rfl, b1⟩; have B1 := Lib.hid b1; clear b1)
    refine bodyPost_ret (v := .tuple #[.slice (some ⟨w1.heap.size, 0, none⟩) 0 0, .int .i64 0, .bool false]) (by simp [results, Try.results41, go_sem]) rfl ?_
    exact ⟨_, _, rfl, .inl rfl, B1.out.alloc B1.out.size _⟩
  | true =>
    have HA1 := Lib.hid (HA.out true ha)
    cases hb : stsB lb with
    | false =>
      have HE : btB la lb p = false := by unfold btB; rw [ha, hb]; rfl
      rw [btR_no HE, btV_no HE, HE]
      have HB1 := Lib.hid (fun W h => HB.out false W h hb)
      clear HA HB HE ha hb h1 h2
      go_enter Try.func41, Try.ntmps41
      go_wp2_with fail
      refine (HA1.out).mono ?_
      rintro e w1 ⟨rfl, b1⟩
      have B1 := Lib.hid b1
      clear b1
      go_wp2_with fail
      refine (HB1.out _ B1.out).mono ?_
      rintro e w2 ⟨rfl, b2⟩
      have B2 := Lib.hid (below_then B1.out b2)
      clear b2
      go_wp2
      refine bodyPost_ret (v := .tuple #[.slice (some ⟨w2.heap.size, 0, none⟩) 0 0, .int .i64 0, .bool false]) (by simp [results, Try.results41, go_sem]) rfl ?_
      exact ⟨_, _, rfl, .inl rfl, B2.out.alloc B2.out.size _⟩
    | true =>
      have HB1 := Lib.hid (fun W h => HB.out true W h hb)
      cases hp : pnB p with
      | false =>
        have HE : btB la lb p = false := by unfold btB; rw [ha, hb, hp]; rfl
        rw [btR_no HE, btV_no HE, HE]
        have HP1 := Lib.hid (HP.out false hp)
        clear HA HB HE ha hb h1 h2 HP hp
        go_enter Try.func41, Try.ntmps41
        go_wp2_with fail
        refine (HA1.out).mono ?_
        rintro e w1 ⟨rfl, b1⟩
        have B1 := Lib.hid b1
        clear b1
        go_wp2_with fail
        refine (HB1.out _ B1.out).mono ?_
        rintro e w2 ⟨rfl, b2⟩
        have B2 := Lib.hid (below_then B1.out b2)
        clear b2
        go_wp2_with (go_at_call 76; (with_reducible refine (HP1.out _).mono ?_); rintro e w3 ⟨rfl, rfl⟩)
        refine bodyPost_ret (v := .tuple #[.slice (some ⟨w2.heap.size, 0, none⟩) 0 0, .int .i64 0, .bool false]) (by simp [results, Try.results41, go_sem]) rfl ?_
        exact ⟨_, _, rfl, .inl rfl, B2.out.alloc B2.out.size _⟩
      | true =>
        have HE : btB la lb p = true := by unfold btB; rw [ha, hb, hp]; rfl
        rw [btR_yes HE, btV_yes HE, HE]
        have HP1 := Lib.hid (HP.out true hp)
        have HBE := Lib.hid (fun b W (B : Below w.heap.size w W) => specBest_any aa la ca ab lb cb p ha hb (pnB_iff.1 hp) la.length [] ⟨b, 0, none⟩ 0 W (by simp) rfl ((h1.below B (Nat.le_refl _)).more B.size) ((h2.below B (Nat.le_refl _)).more B.size) (.inl rfl))
        unfold btF
        generalize bR (fun t => tcC la lb t p) lb.length la.length [] = r at *
        clear HA HB HE ha hb h1 h2 HP hp
        go_enter Try.func41, Try.ntmps41
        go_wp2_with fail
        refine (HA1.out).mono ?_
        rintro e w1 ⟨rfl, b1⟩
        have B1 := Lib.hid b1
        clear b1
        go_wp2_with fail
        refine (HB1.out _ B1.out).mono ?_
        rintro e w2 ⟨rfl, b2⟩
        have B2 := Lib.hid (below_then B1.out b2)
        clear b2
        go_wp2_with (go_at_call 76; (with_reducible refine (HP1.out _).mono ?_); rintro e w3 ⟨rfl, rfl⟩)
        have B3 := Lib.hid (B2.out.alloc B2.out.size (.cells #[] 3))
        refine (HBE.out _ _ B3.out).mono ?_
        rintro e w4 ⟨a4, c4, rfl, i4, b4⟩
        have I4 := Lib.hid i4
        have B4 := Lib.hid (below_then B3.out b4)
        clear i4 b4
        go_wp2
        refine bodyPost_ret (v := .tuple #[.slice a4 r.1.length c4, .int .i64 r.2, .bool true]) (by simp [results, Try.results41, go_sem]) rfl ?_
        exact ⟨a4, c4, rfl, I4.out, B4.out⟩
end Go.Proofs.Ythceffkkokgpnaa
namespace Go.Proofs.Ythceffkkokgpnaa
open Go.RowKit
set_option linter.unusedVariables false
set_option linter.unusedSimpArgs false
theorem lnN_stopS {M : List (List StT)} {p : Int} {k x m : Nat} (hx : x < (bT M p k).length) (h : (bT M p k)[x] < 0) : lnN M p k (x : Int) (m + 1) = 1 := by
  unfold lnN
  rw [show ((x : Int)).toNat = x from rfl, getD_int _ hx, if_pos h]
theorem lnN_goS {M : List (List StT)} {p : Int} {k x m : Nat} (hx : x < (bT M p k).length) (h : ¬ (bT M p k)[x] < 0) : lnN M p k (x : Int) (m + 1) = 1 + lnN M p (k + 1) (bT M p k)[x] m := by
  show (if _ then _ else _) = _
  rw [show ((x : Int)).toNat = x from rfl, getD_int _ hx, if_neg h]
set_option maxRecDepth 100000 in
set_option maxHeartbeats 8000000 in
theorem specLists_any (a : Option Addr) (L : List LE) (c : Nat) (p : Int) (w : World) (hl : Lss w w.heap.size a L) (hf : lsFit L) :
    Calls Try.prog 97 #[.slice a L.length c, .int .i64 p] w fun e w' => e = .returned (.bool (tkB (lvs L) p)) ∧ Below w.heap.size w w' := by
  have HL := Lib.hid hl
  have hn : L.length ≤ 1048576 := by unfold lsFit at hf; omega
  have HSM := Lib.hid (fun k (h : k < L.length) => show L[k].l.length ≤ 1048576 from by
    have h1 := lsN_at h
    have h2 := lsN_mono L (k + 1) L.length h
    unfold lsFit at hf
    omega)
  have HP := Lib.hid (fun v (hv : pnB p = v) W => specPen_is p v W hv)
  clear hl hf
  go_enter Try.func97, Try.ntmps97
  go_wp2
  go_loopw [5] (fun i wr => ∃ k : Nat, k ≤ L.length ∧ k ≤ 7 ∧ i = .int .i64 k ∧ Below w.heap.size w wr ∧ ∀ j (x : j < L.length), j < k → stsB L[j].l = true) (fun i _ => L.length - (intOf i).toNat)
  case atStart => exact ⟨0, Nat.zero_le _, by omega, rfl, Below.refl _ _, fun _ _ h => by omega⟩
  case round =>
    obtain ⟨k, hk, hk7, rfl, hB, hall⟩ := hrel
    have HB := Lib.hid hB
    have HA := Lib.hid hall
    by_cases hlt : k < L.length ∧ k ≤ 6
    · obtain ⟨hlt, hk6⟩ := hlt
      obtain ⟨b1, o1, rfl, hb1, c0, hs⟩ := (HL.out.below hB (Nat.le_refl _)).at_ hlt
      have hi : (k : Int) < (L.length : Int) := by omega
      have hi6 : (k : Int) ≤ 6 := by omega
      have hi0 : (0 : Int) ≤ (k : Int) := by omega
      have HNX := Lib.hid (fun (hx : stsB L[k].l = true) j (x : j < L.length) (hj : j < k + 1) => show stsB L[j].l = true by
        rcases Nat.lt_or_ge j k with h1 | h1
        · exact HA.out j x h1
        · obtain rfl : j = k := by omega
          exact hx)
      have HBAD := Lib.hid (fun (hx : stsB L[k].l = false) => show tkB (lvs L) p = false from by
        have e : (lvs L)[k]'(by rw [lvs_len]; exact hlt) = L[k].l := by rw [← getD_ls (lvs L) (by rw [lvs_len]; exact hlt)]; exact lvs_at hlt
        exact tk_bad (k := k) (by rw [lvs_len]; exact hlt) (by rw [e]; exact hx))
      have HC := Lib.hid (fun v (hv : stsB L[k].l = v) => specList_any L[k].a L[k].l L[k].c v wr (hs.more hB.size) (HSM.out k hlt) hv)
      clear hB hall hs
      generalize L[k] = E at *
      cases hx : stsB E.l with
      | false =>
        have HS := Lib.hid (HBAD.out hx)
        have HC1 := Lib.hid (HC.out false hx)
        clear hx HC
        go_wp2_with fail
        refine HC1.out.mono ?_
        rintro e w1 ⟨rfl, b1⟩
        have B1 := Lib.hid b1
        clear b1
        go_wp2_with fail
        go_ret
        exact ⟨by rw [HS.out]; rfl, HB.out.trans (B1.out.mono HB.out.size)⟩
      | true =>
        have HS := Lib.hid (HNX.out hx)
        have HC1 := Lib.hid (HC.out true hx)
        clear hx HC
        go_wp2_with fail
        refine HC1.out.mono ?_
        rintro e w1 ⟨rfl, b1⟩
        have B1 := Lib.hid b1
        clear b1
        go_wp2_with fail
        go_roundw
        case rel => exact ⟨k + 1, by omega, by omega, by go_num, HB.out.trans (B1.out.mono HB.out.size), HS.out⟩
        case measure => simp [intOf]; omega
    · clear hall hB
      obtain ⟨v, hv⟩ : ∃ v, pnB p = v := ⟨_, rfl⟩
      have HP1 := Lib.hid (HP.out v hv)
      by_cases h6 : L.length ≤ 6
      · obtain rfl : k = L.length := by omega
        have HE := Lib.hid (show tkB (lvs L) p = v by
          rw [tk_is, decide_eq_true h6, Bool.true_and, hv]
          have : (L.map (·.l)).all stsB = true := by
            rw [List.all_eq_true]
            intro q hq
            obtain ⟨E, hE, rfl⟩ := List.mem_map.1 hq
            obtain ⟨j, hj, rfl⟩ := List.getElem_of_mem hE
            exact HA.out j hj hj
          rw [this, Bool.true_and])
        have hi6 : (L.length : Int) ≤ 6 := by omega
        clear hv HP
        go_wp2_with (go_at_call 76; (with_reducible refine (HP1.out _).mono ?_); rintro e w2 ⟨rfl, rfl⟩)
        go_ret
        exact ⟨by rw [HE.out]; rfl, HB.out⟩
      · have HE := Lib.hid (show tkB (lvs L) p = false from tk_long (by rw [lvs_len]; omega))
        have hk6 : ¬ (k : Int) ≤ 6 := by omega
        have hi6 : ¬ (L.length : Int) ≤ 6 := by omega
        clear hv HP
        by_cases hkL : (k : Int) < (L.length : Int)
        all_goals
          go_wp2_with (go_at_call 76; (with_reducible refine (HP1.out _).mono ?_); rintro e w2 ⟨rfl, rfl⟩)
          go_ret
          exact ⟨by rw [HE.out]; rfl, HB.out⟩
set_option maxRecDepth 100000 in
set_option maxHeartbeats 8000000 in
theorem specLen_any (a : Option Addr) (L : List LE) (c : Nat) (p : Int) (k n : Nat) (s : Int) (w : World) (hl : Lss w w.heap.size a L) (hf : lsFit L) (hk : tkB (lvs L) p = true) (hkl : k + n + 1 = L.length) (hs : 0 ≤ s ∧ s < (((lvs L).getD k []).length : Int)) :
    Calls Try.prog 98 #[.slice a L.length c, .int .i64 p, .int .i64 k, .int .i64 s] w fun e w' => e = .returned (.int .i64 (lnN (lvs L) p k s n)) ∧ Below w.heap.size w w' := by
  have HL := Lib.hid hl
  have HK := Lib.hid hk
  have HS := Lib.hid hs
  have hn6 : L.length ≤ 6 := by have := tk_len hk; rw [lvs_len] at this; exact this
  have HSM := Lib.hid (fun k (h : k < L.length) => show L[k].l.length ≤ 1048576 from by
    have h1 := lsN_at h
    have h2 := lsN_mono L (k + 1) L.length h
    unfold lsFit at hf
    omega)
  have HBT := Lib.hid (fun k (h : k + 1 < L.length) => show bR (fun t => tcC L[k].l L[k + 1].l t p) L[k + 1].l.length L[k].l.length [] = (bT (lvs L) p k, (btF L[k].l L[k + 1].l p).2) from by
    unfold bT
    rw [lvs_at (by omega), lvs_at h]
    rfl)
  have HWE := Lib.hid (fun k (h : k < L.length) => show stsB L[k].l = true from by
    have := tk_at hk (k := k) (by rw [lvs_len]; exact h)
    rw [← getD_ls (lvs L) (by rw [lvs_len]; exact h), lvs_at h] at this
    exact this)
  obtain ⟨res, hres⟩ : ∃ z, lnN (lvs L) p k s n = z := ⟨_, rfl⟩
  have HRES := Lib.hid hres
  rw [hres]
  clear hl hf hk hs hres
  go_enter Try.func98, Try.ntmps98
  go_wp2
  go_loopw [2, 3, 9] (fun i st ln wr => ∃ (i0 j : Nat) (z : Int), j ≤ n ∧ i0 = k + j ∧ i = .int .i64 (i0 : Int) ∧ st = .int .i64 z ∧ ln = .int .i64 (1 + (j : Int)) ∧ (0 ≤ z ∧ z < (((lvs L).getD i0 []).length : Int)) ∧ res = (j : Int) + lnN (lvs L) p i0 z (n - j) ∧ Below w.heap.size w wr) (fun i _ _ _ => L.length - (intOf i).toNat)
  case atStart => exact ⟨k, 0, s, Nat.zero_le _, rfl, rfl, rfl, rfl, HS.out, by rw [← HRES.out]; simp, Below.refl _ _⟩
  case round =>
    obtain ⟨i, j, z, hj, hi, rfl, rfl, rfl, hz, he, hB⟩ := hrel
    have HB := Lib.hid hB
    have HE := Lib.hid he
    by_cases hlt : j < n
    · have hil : i + 1 < L.length := by omega
      obtain ⟨b, o, rfl, hb, c0, s0⟩ := (HL.out.below hB (Nat.le_refl _)).at_ (j := i) (by omega)
      obtain ⟨b2, o2, e2, hb2, c1, s1⟩ := (HL.out.below hB (Nat.le_refl _)).at_ hil
      injection e2 with e2
      injection e2 with e3 e4 e5
      subst e3
      subst e4
      clear e5
      have HW0 := Lib.hid (HWE.out i (by omega))
      have HW1 := Lib.hid (HWE.out (i + 1) hil)
      have hp := pnB_iff.1 (tk_pn HK.out)
      obtain ⟨hlen, hok⟩ := bT_ok HK.out (k := i) (by rw [lvs_len]; exact hil)
      obtain ⟨x, rfl⟩ : ∃ x : Nat, z = (x : Int) := ⟨z.toNat, by omega⟩
      have hx : x < (bT (lvs L) p i).length := by have := hz.2; omega
      obtain ⟨y1, y2⟩ := hok x hx
      have HST := Lib.hid (fun (h : (bT (lvs L) p i)[x] < 0) => lnN_stopS (m := n - j - 1) hx h)
      have HGO := Lib.hid (fun (h : ¬ (bT (lvs L) p i)[x] < 0) => lnN_goS (m := n - j - 1) hx h)
      rw [show n - j = (n - j - 1) + 1 by omega] at he
      have HE2 := Lib.hid he
      have HBE := Lib.hid (fun bb W (G : Below wr.heap.size wr W) => specBest_any L[i].a L[i].l L[i].c L[i + 1].a L[i + 1].l L[i + 1].c p HW0.out HW1.out hp L[i].l.length [] ⟨bb, 0, none⟩ 0 W (by simp) rfl (((s0.more hB.size).below G (Nat.le_refl _)).more G.size) (((s1.more hB.size).below G (Nat.le_refl _)).more G.size) (.inl rfl))
      rw [HBT.out i hil] at HBE
      generalize (btF L[i].l L[i + 1].l p).2 = v2 at *
      have HX := Lib.hid hx
      have Y2 := Lib.hid y2
      have hsz := hB.size
      have hix0 : (0 : Int) ≤ (x : Int) := by omega
      have hi6 : i ≤ 6 := by omega
      have hii : (i : Int) + 1 < (L.length : Int) := by omega
      have hi1 : (i : Int) < (L.length : Int) := by omega
      have hi2 : (0 : Int) ≤ (i : Int) := by omega
      have hi3 : (0 : Int) ≤ (i : Int) + 1 := by omega
      have g0 : IntKind.i64.wrap (i : Int) = (i : Int) := IntWalk.i64_in _ (by omega)
      have g1 : IntKind.i64.wrap ((i : Int) + 1) = (i : Int) + 1 := IntWalk.i64_in _ (by omega)
      have g2 : IntKind.i64.wrap (1 + (j : Int) + 1) = 1 + (j : Int) + 1 := IntWalk.i64_in _ (by omega)
      generalize L[i] = X at *
      generalize L[i + 1] = Y at *
      have HI := Lib.hid hi
      clear s0 s1 hB hz he hok hlen hi
      have hbb : b < wr.heap.size := by omega
      have Wq := Lib.hid (Below.refl wr.heap.size wr).drew
      have Wz1 := Lib.hid ((Below.refl wr.heap.size wr).alloc (Nat.le_refl _) (.cells #[] 3)).drew
      have Wz2 := Lib.hid (Wq.out.alloc Wq.out.size (.cells #[] 3))
      have HCELL := Lib.hid (fun W (G : Below wr.heap.size wr W) => And.intro ((G.cell (p := ⟨b, o + i, none⟩) hbb).trans c0) ((G.cell (p := ⟨b, o + (i + 1), none⟩) hbb).trans c1))
      obtain ⟨c0', c1'⟩ := HCELL.out _ Wq.out
      obtain ⟨c2', c3'⟩ := HCELL.out _ Wz1.out
      obtain ⟨c4', c5'⟩ := HCELL.out _ Wz2.out
      go_wp2_with fail
      go_region_held3 (fun w' => w'.cell? ⟨b, o + i, none⟩ = some (.slice X.a X.l.length X.c) ∧ w'.cell? ⟨b, o + (i + 1), none⟩ = some (.slice Y.a Y.l.length Y.c))
        (first | exact HCELL.out _ W5.out | exact HCELL.out _ Wq.out | exact HCELL.out _ Wz1.out | exact HCELL.out _ Wz2.out | go_keep)
        (first | (go_at_call 93; refine (HBE.out _ _ Wz1.out).mono ?_; rintro e w5 ⟨a5, c5, rfl, o5, b5⟩; have W5 := Lib.hid (below_then Wz1.out b5); have O5 := Lib.hid o5; clear o5 b5) | (go_at_call 93; refine (HBE.out _ _ Wz2.out).mono ?_; rintro e w5 ⟨a5, c5, rfl, o5, b5⟩; have W5 := Lib.hid (below_then Wz2.out b5); have O5 := Lib.hid o5; clear o5 b5))
      all_goals
        rename_i hHeld
        clear hHeld c0' c1' c2' c3' c4' c5' c0 c1 HCELL HBE
        have hx := HX.out
        have hxi : (x : Int) < ((bT (lvs L) p i).length : Int) := by omega
        obtain ⟨b6, o6, rfl, hb6, c6⟩ := O5.out.at_ hx
        have B5 := Lib.hid (HB.out.trans (W5.out.mono HB.out.size))
        generalize (bT (lvs L) p i)[x] = y at *
        generalize (bT (lvs L) p i).length = bl at *
        clear O5
        by_cases hy : y < 0
        · have HF := Lib.hid (show res = 1 + (j : Int) by rw [HE2.out, HST.out hy]; omega)
          clear HST HGO hx
          go_wp2
          go_ret
          exact ⟨(by first | (rw [HF.out]; done) | (rw [HF.out]; rfl)), B5.out⟩
        · have HF := Lib.hid (show res = ((j + 1 : Nat) : Int) + lnN (lvs L) p (i + 1) y (n - (j + 1)) by rw [HE2.out, HGO.out (by omega), show n - (j + 1) = n - j - 1 by omega]; omega)
          have hy0 : 0 ≤ y := by omega
          have HY := Lib.hid (And.intro hy0 Y2.out)
          clear HST HGO hx
          go_wp2
          go_roundw
          case rel => exact ⟨i + 1, j + 1, y, by omega, by have := HI.out; omega, by go_num, rfl, by rw [Value.int.injEq]; exact ⟨rfl, by omega⟩, HY.out, HF.out, B5.out⟩
          case measure => simp [intOf]; omega
    · obtain rfl : j = n := by omega
      have HF := Lib.hid (show res = 1 + (j : Int) by rw [HE.out, Nat.sub_self]; show _ + 1 = _; omega)
      have hi6 : ¬ (i : Int) + 1 < (L.length : Int) := by omega
      have hk6 : i ≤ 6 := by omega
      have g1 : IntKind.i64.wrap ((i : Int) + 1) = (i : Int) + 1 := IntWalk.i64_in _ (by omega)
      clear hz he hB hi
      go_wp2
      go_ret
      exact ⟨(by first | (rw [HF.out]; done) | (rw [HF.out]; rfl)), HB.out⟩
set_option maxRecDepth 100000 in
set_option maxHeartbeats 8000000 in
theorem specTL_any (a : Option Addr) (L : List LE) (c : Nat) (p i s : Int) (w : World) (hl : Lss w w.heap.size a L) (hf : lsFit L) :
    Calls Try.prog 48 #[.slice a L.length c, .int .i64 p, .int .i64 i, .int .i64 s] w fun e w' => e = .returned (.tuple #[.int .i64 (trkV (lvs L) p i s), .bool (trkB (lvs L) p i s)]) ∧ Below w.heap.size w w' := by
  have HL := Lib.hid hl
  have HF := Lib.hid hf
  have HT := Lib.hid (specLists_any a L c p w hl hf)
  have HLN := Lib.hid (lvs_len L)
  have hn : L.length ≤ 1048576 := by unfold lsFit at hf; omega
  have HSM := Lib.hid (fun k (h : k < L.length) => show L[k].l.length ≤ 1048576 from by
    have h1 := lsN_at h
    have h2 := lsN_mono L (k + 1) L.length h
    unfold lsFit at hf
    omega)
  have gl : IntKind.i64.wrap ((L.length : Int) - 1) = (L.length : Int) - 1 := IntWalk.i64_in _ (by omega)
  clear hl hf
  by_cases hk : tkB (lvs L) p = true
  · have HK := Lib.hid hk
    rw [hk] at HT
    clear hk
    by_cases hi : 0 ≤ i ∧ i < (L.length : Int)
    · obtain ⟨hi1, hi2⟩ := hi
      obtain ⟨k, rfl⟩ : ∃ k : Nat, i = (k : Int) := ⟨i.toNat, by omega⟩
      have HI := Lib.hid (fun W => l1In_is (k : Int) 0 ((L.length : Int) - 1) true W (by rw [← Bool.decide_and]; exact decide_eq_true (by omega)))
      have hkl : k < L.length := by omega
      have HD := Lib.hid (show (lvs L).getD k [] = L[k].l from lvs_at hkl)
      have hsm := HSM.out k hkl
      have gk : IntKind.i64.wrap ((L[k].l.length : Int) - 1) = (L[k].l.length : Int) - 1 := IntWalk.i64_in _ (by omega)
      by_cases hs : 0 ≤ s ∧ s < (L[k].l.length : Int)
      · obtain ⟨hs1, hs2⟩ := hs
        have HJ := Lib.hid (fun W => l1In_is s 0 ((L[k].l.length : Int) - 1) true W (by rw [← Bool.decide_and]; exact decide_eq_true (by omega)))
        have HB := Lib.hid (show trkB (lvs L) p (k : Int) s = true from by unfold trkB; rw [HK.out, show (lvs L).getD ((k : Int)).toNat [] = L[k].l from HD.out, HLN.out]; simp [hi2, hs1, hs2])
        have HV := Lib.hid (show trkV (lvs L) p (k : Int) s = lnN (lvs L) p k s (L.length - 1 - k) from by rw [trkV_yes HB.out, HLN.out]; rfl)
        rw [HB.out, HV.out]
        have HLF := Lib.hid (fun w1 (b1 : Below w.heap.size w w1) => specLen_any a L c p k (L.length - 1 - k) s w1 (lss_below HL.out b1) HF.out HK.out (by omega) ⟨hs1, by rw [HD.out]; exact hs2⟩)
        generalize lnN (lvs L) p k s (L.length - 1 - k) = res at *
        go_enter Try.func48, Try.ntmps48
        go_wp2_with fail
        refine HT.out.mono ?_
        rintro e w1 ⟨rfl, b1⟩
        have B1 := Lib.hid b1
        have HLF1 := Lib.hid (HLF.out w1 b1)
        obtain ⟨b, o, rfl, hb, hc, _⟩ := (HL.out.below b1 (Nat.le_refl _)).at_ hkl
        clear b1 HT HLF
        generalize L[k] = X at *
        have hc0 : k = 0 → w1.cell? ⟨b, o, none⟩ = some (.slice X.a X.l.length X.c) := by rintro rfl; exact hc
        go_wp2_with (first | (go_at_call 101; first | ((with_reducible refine (HI.out _).mono ?_); rintro e w8 ⟨rfl, rfl⟩) | ((with_reducible refine (HJ.out _).mono ?_); rintro e w8 ⟨rfl, rfl⟩)) | (go_at_call 98; refine HLF1.out.mono ?_; rintro e w2 ⟨rfl, b2⟩; have B2 := Lib.hid b2; clear b2))
        go_ret2
        exact ⟨rfl, below_then B1.out B2.out⟩
      · have HJ := Lib.hid (fun W => l1In_is s 0 ((L[k].l.length : Int) - 1) false W (by rw [← Bool.decide_and]; exact decide_eq_false (by omega)))
        have HB := Lib.hid (show trkB (lvs L) p (k : Int) s = false from by
          unfold trkB
          rw [HK.out, show (lvs L).getD ((k : Int)).toNat [] = L[k].l from HD.out, show (decide (0 ≤ s) && decide (s < (L[k].l.length : Int))) = false by rw [← Bool.decide_and]; exact decide_eq_false hs, Bool.and_false])
        rw [trkV_no HB.out, HB.out]
        go_enter Try.func48, Try.ntmps48
        go_wp2_with fail
        refine HT.out.mono ?_
        rintro e w1 ⟨rfl, b1⟩
        have B1 := Lib.hid b1
        obtain ⟨b, o, rfl, hb, hc, _⟩ := (HL.out.below b1 (Nat.le_refl _)).at_ hkl
        clear b1 HT hs
        generalize L[k] = X at *
        go_wp2_with (first | (go_at_call 101; first | ((with_reducible refine (HI.out _).mono ?_); rintro e w8 ⟨rfl, rfl⟩) | ((with_reducible refine (HJ.out _).mono ?_); rintro e w8 ⟨rfl, rfl⟩)))
        go_ret2
        exact ⟨rfl, B1.out⟩
    · have HI := Lib.hid (fun W => l1In_is i 0 ((L.length : Int) - 1) false W (by rw [← Bool.decide_and]; exact decide_eq_false (by omega)))
      have HB := Lib.hid (show trkB (lvs L) p i s = false from by
        unfold trkB
        rw [HLN.out, show (decide (0 ≤ i) && decide (i < (L.length : Int))) = false by rw [← Bool.decide_and]; exact decide_eq_false hi, Bool.and_false, Bool.false_and])
      rw [trkV_no HB.out, HB.out]
      clear hi
      go_enter Try.func48, Try.ntmps48
      go_wp2_with fail
      refine HT.out.mono ?_
      rintro e w1 ⟨rfl, b1⟩
      have B1 := Lib.hid b1
      clear b1 HT
      go_wp2_with (go_at_call 101; ((with_reducible refine (HI.out _).mono ?_); rintro e w8 ⟨rfl, rfl⟩))
      go_ret2
      exact ⟨rfl, B1.out⟩
  · have hk' : tkB (lvs L) p = false := by cases e : tkB (lvs L) p with | false => rfl | true => exact absurd e hk
    have HB := Lib.hid (show trkB (lvs L) p i s = false from by unfold trkB; rw [hk']; rfl)
    rw [trkV_no HB.out, HB.out]
    rw [hk'] at HT
    clear hk hk'
    go_enter Try.func48, Try.ntmps48
    go_wp2_with fail
    refine HT.out.mono ?_
    rintro e w1 ⟨rfl, b1⟩
    have B1 := Lib.hid b1
    clear b1 HT
    go_wp2_with fail
    go_ret2
    exact ⟨rfl, B1.out⟩
end Go.Proofs.Ythceffkkokgpnaa
namespace Go.Proofs.Ythceffkkokgpnaa
open Go.RowKit
set_option linter.unusedVariables false
set_option linter.unusedSimpArgs false
/-- block b holds one value -/
def OneB (w : World) (b : Nat) (t : TypeId) (v : Value) : Prop := w.heap[b]? = some (.cells #[v] t (0, 0))
section
variable {w w' : World} {b : Nat} {t : TypeId} {v : Value}
theorem OneB.lt (h : OneB w b t v) : b < w.heap.size := (Array.getElem?_eq_some_iff.1 h).1
theorem OneB.cell (h : OneB w b t v) : w.cell? ⟨b, 0, none⟩ = some v := by unfold OneB at h; simp [World.cell?, h]
theorem OneB.frozen (h : OneB w b t v) : w.frozen? ⟨b, 0, none⟩ = false := by unfold OneB at h; simp [World.frozen?, h]
theorem OneB.same (h : OneB w b t v) (k : w'.heap[b]? = w.heap[b]?) : OneB w' b t v := k.trans h
theorem OneB.below (h : OneB w b t v) (k : Below w.heap.size w w') : OneB w' b t v := h.same (k.block b h.lt)
theorem OneB.new (w : World) (t : TypeId) (v : Value) : OneB (w.alloc (.cells #[v] t)) w.heap.size t v := heap_alloc_new w _
theorem OneB.set (h : OneB w b t v) (v' : Value) : OneB (w.setCell ⟨b, 0, none⟩ v') b t v' := by
  unfold OneB at *
  simp [World.setCell, Array.getElem?_modify, h]
theorem set_blk (w : World) (b i : Nat) (v : Value) (h : i ≠ b) : (w.setCell ⟨b, 0, none⟩ v).heap[i]? = w.heap[i]? := Below.heap_setCell w ⟨b, 0, none⟩ v i h
end
theorem own_ne_blkT {w : World} {b base e n size : Nat} {t : TypeId} {cs : Array Value} {fr : Nat × Nat} {v : Value} {xs : List Value} (h : w.ownsRow base e size v n xs) (hb : w.heap[b]? = some (.cells cs t fr)) (hne : e ≠ t) : v.ownBlock ≠ some b := by
  rcases h.2 with ⟨rfl, _⟩ | ⟨g', cap, cur, rfl, _, hh, _⟩
  · simp [Value.ownBlock]
  · intro he
    have : g' = b := by simpa [Value.ownBlock] using he
    subst this
    rw [hb] at hh
    injection hh with hh
    injection hh with _ ht
    exact hne ht.symm
theorem own_same {w w' : World} {base e n size : Nat} {v : Value} {xs : List Value} (h : w.ownsRow base e size v n xs) (k : ∀ i, v.ownBlock = some i → w'.heap[i]? = w.heap[i]?) : w'.ownsRow base e size v n xs := by
  refine ⟨h.1, ?_⟩
  rcases h.2 with h1 | ⟨g, cap, cur, h1, h2, h3, h4⟩
  · exact .inl h1
  · exact .inr ⟨g, cap, cur, h1, h2, (k g (by rw [h1]; rfl)).trans h3, h4⟩
theorem own_shrinkT {w : World} {base e size n m g cap : Nat} {xs : List Value} (h : w.ownsRow base e size (.slice (some ⟨g, 0, none⟩) n cap) n xs) (hle : m ≤ n) : w.ownsRow base e size (.slice (some ⟨g, 0, none⟩) m cap) m (xs.take (m * size)) := by
  have hlen := h.1
  rcases h.2 with ⟨h1, _⟩ | ⟨g', cap', cur, h1, h2, h3, h4, h5, h6, h7⟩
  · cases h1
  · cases h1
    have hm := Nat.mul_le_mul_right size hle
    refine ⟨by rw [List.length_take]; omega, .inr ⟨g, cap, cur, rfl, h2, h3, by omega, h5, h6, ?_⟩⟩
    rw [← h7, List.take_take, Nat.min_eq_left hm]
/-- the arguments -/
structure Ag where
  aa : Option Addr
  la : List StT
  ca : Nat
  ab : Option Addr
  lb : List StT
  cb : Nat
  p : Int
/-- the blocks, in the order in which they are laid -/
structure Cn where
  pa : Nat
  pb : Nat
  pp : Nat
  g : Nat
  pB : Nat
  pL : Nat
  bF : Nat
  bS : Nat
  bU : Nat
  t0 : Nat
  bT : Nat
  bG : Nat
  bY : Nat
structure Cn.Ord (N : Cn) (B : Nat) : Prop where
  o0 : B ≤ N.pa
  o1 : N.pa < N.pb
  o2 : N.pb < N.pp
  o3 : N.pp < N.g
  o4 : N.g < N.pB
  o5 : N.pB < N.pL
  o6 : N.pL < N.bF
  o7 : N.bF < N.bS
  o8 : N.bS < N.bU
  o9 : N.bU < N.t0
  o10 : N.t0 < N.bT
  o11 : N.bT < N.bG
  o12 : N.bG < N.bY
def useV (N : Cn) : Value := .func (.func 96) #[] #[.pointer (some ⟨N.pa, 0, none⟩), .pointer (some ⟨N.pb, 0, none⟩), .pointer (some ⟨N.pp, 0, none⟩), .pointer (some ⟨N.pL, 0, none⟩), .pointer (some ⟨N.pB, 0, none⟩)]
def goV (N : Cn) : Value := .func (.func 143) #[] #[.pointer (some ⟨N.bT, 0, none⟩), .pointer (some ⟨N.bF, 0, none⟩), .pointer (some ⟨N.bU, 0, none⟩), .pointer (some ⟨N.bS, 0, none⟩), .pointer (some ⟨N.bY, 0, none⟩)]
def tryV (N : Cn) : Value := .func (.func 141) #[] #[.pointer (some ⟨N.bT, 0, none⟩), .pointer (some ⟨N.bG, 0, none⟩)]
/-- what the search finds: the tracking q so far, the best s.1 and its cost s.2 -/
structure Bt (w0 : World) (A : Ag) (N : Cn) (q : List Int) (s : List Int × Int) (W : World) : Prop where
  o : N.Ord w0.heap.size
  b : Below w0.heap.size w0 W
  a_ : OneB W N.pa 33 (.slice A.aa A.la.length A.ca)
  b_ : OneB W N.pb 33 (.slice A.ab A.lb.length A.cb)
  p_ : OneB W N.pp 3 (.int .i64 A.p)
  row : Row W N.g 3 (iv s.1)
  len : s.1.length = A.la.length
  best : OneB W N.pB 30 (.slice (some ⟨N.g, 0, none⟩) A.la.length A.la.length)
  l_ : OneB W N.pL 3 (.int .i64 s.2)
  f_ : OneB W N.bF 3 (.int .i64 A.la.length)
  s_ : OneB W N.bS 3 (.int .i64 A.lb.length)
  u_ : OneB W N.bU 124 (useV N)
  t_ : ∃ v, OneB W N.bT 30 v ∧ W.ownsRow N.t0 3 1 v q.length (iv q)
  g_ : OneB W N.bG 1 (goV N)
  y_ : OneB W N.bY 168 (tryV N)
section
variable {w0 W W' : World} {A : Ag} {N : Cn} {q q' : List Int} {s : List Int × Int}
/-- a call or an alloc: nothing that lies is turned -/
theorem Bt.below (h : Bt w0 A N q s W) (k : Below W.heap.size W W') : Bt w0 A N q s W' := by
  obtain ⟨v, h1, h2⟩ := h.t_
  exact ⟨h.o, below_then h.b k, h.a_.below k, h.b_.below k, h.p_.below k, h.row.of_block (k.block _ h.row.lt), h.len, h.best.below k, h.l_.below k, h.f_.below k, h.s_.below k, h.u_.below k, ⟨v, h1.below k, own_keeps h2 k⟩, h.g_.below k, h.y_.below k⟩
/-- the tracking is another one -/
theorem Bt.turn (h : Bt w0 A N q s W) {v' : Value} (hb : Below w0.heap.size w0 W') (k : ∀ i, i < N.t0 ∨ i = N.bG ∨ i = N.bY → i < W.heap.size → W'.heap[i]? = W.heap[i]?) (hT : OneB W' N.bT 30 v') (ho : W'.ownsRow N.t0 3 1 v' q'.length (iv q')) : Bt w0 A N q' s W' := by
  obtain ⟨o0, o1, o2, o3, o4, o5, o6, o7, o8, o9, o10, o11, o12⟩ := h.o
  exact ⟨h.o, hb, h.a_.same (k _ (.inl (by omega)) h.a_.lt), h.b_.same (k _ (.inl (by omega)) h.b_.lt), h.p_.same (k _ (.inl (by omega)) h.p_.lt), h.row.of_block (k _ (.inl (by omega)) h.row.lt), h.len, h.best.same (k _ (.inl (by omega)) h.best.lt), h.l_.same (k _ (.inl (by omega)) h.l_.lt), h.f_.same (k _ (.inl (by omega)) h.f_.lt), h.s_.same (k _ (.inl (by omega)) h.s_.lt), h.u_.same (k _ (.inl (by omega)) h.u_.lt), ⟨v', hT, ho⟩, h.g_.same (k _ (.inr (.inl rfl)) h.g_.lt), h.y_.same (k _ (.inr (.inr rfl)) h.y_.lt)⟩
/-- the least cost is another one -/
theorem Bt.least (h : Bt w0 A N q s W) (z : Int) : Bt w0 A N q (s.1, z) (W.setCell ⟨N.pL, 0, none⟩ (.int .i64 z)) := by
  obtain ⟨o0, o1, o2, o3, o4, o5, o6, o7, o8, o9, o10, o11, o12⟩ := h.o
  obtain ⟨v, h1, h2⟩ := h.t_
  have k : ∀ i, i ≠ N.pL → (W.setCell ⟨N.pL, 0, none⟩ (.int .i64 z)).heap[i]? = W.heap[i]? := fun i hi => set_blk W N.pL i _ hi
  exact ⟨h.o, h.b.setCell (p := ⟨N.pL, 0, none⟩) (by show _ ≤ N.pL; omega) _, h.a_.same (k _ (by omega)), h.b_.same (k _ (by omega)), h.p_.same (k _ (by omega)), h.row.of_block (k _ (by omega)), h.len, h.best.same (k _ (by omega)), h.l_.set _, h.f_.same (k _ (by omega)), h.s_.same (k _ (by omega)), h.u_.same (k _ (by omega)), ⟨v, h1.same (k _ (by omega)), own_same h2 (fun i hi => k i (by have := (h2.lt i hi).1; omega))⟩, h.g_.same (k _ (by omega)), h.y_.same (k _ (by omega))⟩
/-- the best is another one -/
theorem Bt.copy (h : Bt w0 A N q s W) {r : List Int} (k : W.grownBy W' (some N.g)) (hr : Row W' N.g 3 (iv r)) (hl : r.length = A.la.length) : Bt w0 A N q (r, s.2) W' := by
  obtain ⟨o0, o1, o2, o3, o4, o5, o6, o7, o8, o9, o10, o11, o12⟩ := h.o
  obtain ⟨v, h1, h2⟩ := h.t_
  have e : ∀ i, i ≠ N.g → i < W.heap.size → W'.heap[i]? = W.heap[i]? := fun i hi hl => k.block i hl (by intro e; injection e with e; exact hi e)
  exact ⟨h.o, h.b.grown k h.b.size (fun j hj => by injection hj with hj; omega), h.a_.same (e _ (by omega) h.a_.lt), h.b_.same (e _ (by omega) h.b_.lt), h.p_.same (e _ (by omega) h.p_.lt), hr, hl, h.best.same (e _ (by omega) h.best.lt), h.l_.same (e _ (by omega) h.l_.lt), h.f_.same (e _ (by omega) h.f_.lt), h.s_.same (e _ (by omega) h.s_.lt), h.u_.same (e _ (by omega) h.u_.lt), ⟨v, h1.same (e _ (by omega) h1.lt), own_same h2 (fun i hi => e i (by have := (h2.lt i hi).1; omega) (h2.lt i hi).2)⟩, h.g_.same (e _ (by omega) h.g_.lt), h.y_.same (e _ (by omega) h.y_.lt)⟩
end
end Go.Proofs.Ythceffkkokgpnaa
namespace Go.Proofs.Ythceffkkokgpnaa
open Go.RowKit
set_option linter.unusedVariables false
set_option linter.unusedSimpArgs false
theorem own_form {w : World} {B n : Nat} {v : Value} {q : List Int} (h : w.ownsRow B 3 1 v n (iv q)) (hn : n = q.length) : ∃ a c, v = .slice a q.length c ∧ q.length ≤ c ∧ Ints .i64 w w.heap.size a q := by
  obtain ⟨a, c, hv, ho⟩ := ownI_of h hn
  refine ⟨a, c, hv, ?_, ho.ints⟩
  rcases h.2 with ⟨h1, h2⟩ | ⟨g, cap, cur, h1, _, _, h4, _⟩
  · omega
  · rw [h1] at hv
    injection hv with _ _ h9
    omega
section
variable {w0 W W' : World} {A : Ag} {N : Cn} {q q' : List Int} {s : List Int × Int}
theorem Bt.copyQ (h : Bt w0 A N q s W) {cur : Array Value} {r : List Int} (hg : W.heap[N.g]? = some (.cells cur 3 (0, 0))) (hr : r.length = A.la.length) :
    Bt w0 A N q (r, s.2) (W.setRow N.g (iv r ++ cur.toList.drop (iv r).length).toArray) := by
  refine h.copy ⟨rfl, rfl, rfl, by simp [World.setRow], fun i hi hne => setRow_other W N.g i _ (by intro e; exact hne (by rw [e]))⟩ ?_ hr
  refine ⟨_, setRow_heap W N.g cur _ 3 (0, 0) hg, fun k hk => ?_⟩
  simp only [List.getElem?_toArray]
  rw [List.getElem?_append_left hk, List.getElem?_eq_getElem hk]
theorem row_cur {w : World} {g : Nat} {t : TypeId} {l : List Int} (h : Row w g t (iv l)) : ∃ cur : Array Value, w.heap[g]? = some (.cells cur t (0, 0)) ∧ l.length ≤ cur.size := by
  obtain ⟨cur, h1, h2⟩ := h
  refine ⟨cur, h1, ?_⟩
  rcases Nat.eq_zero_or_pos l.length with h0 | h0
  · omega
  · have h3 := h2 (l.length - 1) (by rw [iv_length]; omega)
    have h4 := (Array.getElem?_eq_some_iff.1 h3).1
    omega
end
theorem ints_src {w : World} {B : Nat} {ad : Addr} {l : List Int} (h : Ints .i64 w B (some ad) l) : ∀ j v, (iv l)[j]? = some v → w.cell? (ad.add j) = some v := by
  intro j v hv
  obtain ⟨hj, hv⟩ := List.getElem?_eq_some_iff.1 hv
  rw [iv_length] at hj
  obtain ⟨b, o, e, _, hc⟩ := h.at_ hj
  injection e with e
  subst e
  have e : (⟨b, o, none⟩ : Addr).add j = ⟨b, o + j, none⟩ := by unfold Addr.add; split <;> simp_all
  rw [e, hc, ← hv, iv_get]
set_option maxRecDepth 100000 in
set_option maxHeartbeats 8000000 in
theorem use_any (w0 : World) (A : Ag) (N : Cn) (q : List Int) (s : List Int × Int) (W : World) (v : Value) (K : Bt w0 A N q s W) (hv : OneB W N.bT 30 v) (hov : W.ownsRow N.t0 3 1 v q.length (iv q))
    (h1 : Sts w0 w0.heap.size A.aa A.la) (h2 : Sts w0 w0.heap.size A.ab A.lb) (htr : trB A.la A.lb q = true) (hp : pnB A.p = true) (hn : 0 < A.la.length ∨ s.2 ≤ tcC A.la A.lb q A.p) :
    Calls Try.prog 96 #[v, .pointer (some ⟨N.pa, 0, none⟩), .pointer (some ⟨N.pb, 0, none⟩), .pointer (some ⟨N.pp, 0, none⟩), .pointer (some ⟨N.pL, 0, none⟩), .pointer (some ⟨N.pB, 0, none⟩)] W fun e w' => e = .returned (.tuple #[]) ∧ Bt w0 A N q (upd s (q, tcC A.la A.lb q A.p)) w' := by
  obtain ⟨at_, ct, rfl, hct, hin⟩ := own_form hov rfl
  have HK := Lib.hid K
  have hlen : q.length = A.la.length := (tr_parts htr).2.2.1
  have la5 := sts_len (tr_parts htr).1
  have lb5 := sts_len (tr_parts htr).2.1
  have HT := Lib.hid (implTC_any A.aa A.la A.ca A.ab A.lb A.cb at_ q ct A.p W ((h1.below K.b (Nat.le_refl _)).more K.b.size) ((h2.below K.b (Nat.le_refl _)).more K.b.size) hin (by omega) (by omega) (by omega) hct)
  have hB := tcB_yes htr hp
  rw [tcV_yes hB, hB] at HT
  have HI := Lib.hid hin
  have HLEN := Lib.hid (And.intro hlen trivial)
  have HOV := Lib.hid hov
  have ca := K.a_.cell
  have cb := K.b_.cell
  have cp := K.p_.cell
  have O := Lib.hid K.o
  generalize tcC A.la A.lb q A.p = z at *
  have HU := Lib.hid (show upd s (q, z) = if z < s.2 then (q, z) else s from rfl)
  clear hB hlen hin hct htr hp h1 h2 hv hov K
  go_enter Try.func96, Try.ntmps96
  go_wp2_with fail
  refine HT.out.mono ?_
  rintro e w1 ⟨rfl, b1⟩
  have K1 := Lib.hid (HK.out.below b1)
  have I1 := Lib.hid (ints_below HI.out b1)
  have HOV1 := Lib.hid (own_keeps HOV.out b1)
  clear ca cb cp b1 HK HI HT HOV
  have cl := K1.out.l_.cell
  have fl := K1.out.l_.frozen
  have cB := K1.out.best.cell
  by_cases hc : z < s.2
  · rw [if_pos hc] at HU
    have K2 := Lib.hid (K1.out.least z)
    have nB : ¬ N.pB = N.pL := by have := O.out.o5; omega
    have nB2 : ¬ N.pL = N.pB := by omega
    obtain ⟨cur, hcur, hcz⟩ := row_cur K2.out.row
    have HC := Lib.hid (And.intro hcur hcz)
    have hov2 := own_same HOV1.out (w' := w1.setCell ⟨N.pL, 0, none⟩ (.int .i64 z)) (fun i hi => set_blk _ _ _ _ (by have := (HOV1.out.lt i hi).1; have := O.out.o6; have := O.out.o7; have := O.out.o8; have := O.out.o9; omega))
    obtain ⟨a9, c9, e9, h9⟩ := ownI_of hov2 rfl
    injection e9 with e9 e8 e10
    clear e8
    subst e9
    subst e10
    have I2 := Lib.hid h9.ints
    clear hcur hcz hov2 h9 HOV1
    obtain ⟨ad, rfl⟩ : ∃ ad, at_ = some ad := by
      rcases at_ with _ | ad
      · exfalso
        have h0 : 0 < q.length := by have := HLEN.out.1; rcases hn with hn | hn <;> omega
        obtain ⟨b, o, e, _⟩ := I2.out.at_ h0
        cases e
      · exact ⟨ad, rfl⟩
    go_wp2_with (with_reducible refine wpList_copy_own rfl (.tmp 21) (.tmp 22) 30 30 rfl 3 Try.underlying30 (by kernel_rfl) N.g 0 A.la.length A.la.length ad q.length _ rfl rfl cur 3 HC.out.1 (iv q) (by rw [iv_length, HLEN.out.1]; exact (Nat.min_self _).symm) (ints_src I2.out) (by rw [iv_length, HLEN.out.1]; have := HC.out.2; have := K2.out.len; show 0 + _ ≤ _; simp only at *; omega) (iv_one _) ?_)
    go_wp2
    go_end0
    exact ⟨rfl, by rw [HU.out]; exact K2.out.copyQ HC.out.1 HLEN.out.1⟩
  · rw [if_neg hc] at HU
    go_wp2
    go_end0
    exact ⟨rfl, by rw [HU.out]; exact K1.out⟩
end Go.Proofs.Ythceffkkokgpnaa
namespace Go.Proofs.Ythceffkkokgpnaa
open Go.RowKit
set_option linter.unusedVariables false
set_option linter.unusedSimpArgs false
theorem ent_use : ∀ (args : Array Value) (w : World), (callFunc 96 args).run Try.prog w = .ok (.enter 96 args) w := enters_of Try.func96 (by kernel_rfl) rfl
theorem ent_try : ∀ (args : Array Value) (w : World), (callFunc 141 args).run Try.prog w = .ok (.enter 141 args) w := enters_of Try.func141 (by kernel_rfl) rfl
theorem ent_go : ∀ (args : Array Value) (w : World), (callFunc 143 args).run Try.prog w = .ok (.enter 143 args) w := enters_of Try.func143 (by kernel_rfl) rfl
/-- the last index is taken back -/
theorem back_any (w0 : World) (A : Ag) (N : Cn) (q : List Int) (x : Int) (s : List Int × Int) (u : FrameMode) (W : World) (K : Bt w0 A N (q ++ [x]) s W) (hq : q.length ≤ 5) :
    CallsD Try.prog 142 #[.pointer (some ⟨N.bT, 0, none⟩)] u W fun e u' w' => u' = u ∧ (e = .returned (.tuple #[]) ∧ Bt w0 A N q s w') := by
  obtain ⟨v, h1, h2⟩ := K.t_
  have hlen : (q ++ [x]).length = q.length + 1 := by simp
  rw [hlen, iv_snoc] at h2
  obtain ⟨g, cap, rfl⟩ := own_slice h2 (by omega)
  have hcap : q.length + 1 ≤ cap := by
    rcases h2.2 with ⟨h3, _⟩ | ⟨g', cap', cur, h3, _, _, h4, _⟩
    · cases h3
    · cases h3; exact h4
  have hs := own_shrinkT h2 (m := q.length) (by omega)
  have hl9 : (iv q).length = q.length := iv_length q
  rw [Nat.mul_one, List.take_append_of_le_length (by omega), List.take_of_length_le (by omega)] at hs
  have c0 := h1.cell
  have f0 := h1.frozen
  have hw1 := IntWalk.i64_in (((q.length + 1 : Nat) : Int) - 1) (by omega)
  have hw2 : ((q.length + 1 : Nat) : Int) - 1 = (q.length : Int) := by omega
  rw [hw2] at hw1
  have hle : (q.length : Int) ≤ (cap : Int) := by omega
  have hle0 : (0 : Int) ≤ (q.length : Int) := by omega
  have KF := Lib.hid (K.turn (q' := q) (W' := W.setCell ⟨N.bT, 0, none⟩ (.slice (some ⟨g, 0, none⟩) q.length cap)) (K.b.setCell (p := ⟨N.bT, 0, none⟩) (by have o := K.o; have := o.o0; have := o.o1; have := o.o2; have := o.o3; have := o.o4; have := o.o5; have := o.o6; have := o.o7; have := o.o8; have := o.o9; have := o.o10; show _ ≤ N.bT; omega) _)
    (fun i hi _ => set_blk _ _ _ _ (by have := K.o.o10; have := K.o.o11; have := K.o.o12; omega)) (h1.set _) (own_same hs (fun i hi => set_blk _ _ _ _ (by
      have e : g = i := by simpa [Value.ownBlock] using hi
      subst e
      intro e
      exact own_ne_blkT h2 h1 (by decide) (by simp [Value.ownBlock, e])))))
  clear K h1 h2 hs hl9 hcap hlen
  go_enter_d Try.func142, Try.ntmps142
  go_wp2
  go_end0
  first | exact ⟨rfl, rfl, KF.out⟩ | exact ⟨rfl, KF.out⟩ | exact KF.out
set_option maxRecDepth 100000 in
set_option maxHeartbeats 8000000 in
/-- one index is tried: what goOn does behind it is told by HG -/
theorem try_any (w0 : World) (A : Ag) (N : Cn) (q : List Int) (x : Int) (s s' : List Int × Int) (W : World) (K : Bt w0 A N q s W) (hq : q.length ≤ 4)
    (HG : ∀ W1, Bt w0 A N (q ++ [x]) s W1 → Calls Try.prog 143 #[.pointer (some ⟨N.bT, 0, none⟩), .pointer (some ⟨N.bF, 0, none⟩), .pointer (some ⟨N.bU, 0, none⟩), .pointer (some ⟨N.bS, 0, none⟩), .pointer (some ⟨N.bY, 0, none⟩)] W1 fun e w' => e = .returned (.tuple #[]) ∧ Bt w0 A N (q ++ [x]) s' w') :
    Calls Try.prog 141 #[.int .i64 x, .pointer (some ⟨N.bT, 0, none⟩), .pointer (some ⟨N.bG, 0, none⟩)] W fun e w' => e = .returned (.tuple #[]) ∧ Bt w0 A N q s' w' := by
  obtain ⟨i0, hi0', hz0, hz1, hz2⟩ := info_parts infoInt
  have hmf : ∀ (fn : Fn) (first cap : Array Value) (w : World), (Instr.makeFunc fn first cap).run Try.prog w = .ok (.func fn first cap) w := fun _ _ _ _ => rfl
  have eg := ent_go
  obtain ⟨v, h1, h2⟩ := K.t_
  have HK := Lib.hid K
  have H1 := Lib.hid h1
  have H2 := Lib.hid h2
  have HHG := Lib.hid HG
  have HGG := Lib.hid K.g_
  have HYY := Lib.hid K.y_
  have c0 := h1.cell
  have f0 := h1.frozen
  have cg := K.g_.cell
  have ltT := h1.lt
  have nT : ¬ N.bT = W.heap.size := by omega
  have ltG := K.g_.lt
  have nG : ¬ N.bG = W.heap.size := by omega
  have nTG : ¬ N.bG = N.bT := by have := K.o.o11; omega
  have nTG2 : ¬ N.bT = N.bG := by omega
  have HW0 := Lib.hid (show w0.heap.size ≤ N.t0 ∧ w0.heap.size ≤ N.bT from by have o := K.o; have := o.o0; have := o.o1; have := o.o2; have := o.o3; have := o.o4; have := o.o5; have := o.o6; have := o.o7; have := o.o8; have := o.o9; have := o.o10; omega)
  have hbase : N.t0 ≤ W.heap.size := by have := K.o.o10; omega
  clear K h1 h2 HG
  go_enter_defers Try.func141, Try.ntmps141
  go_wp2_with (at_builtin; refine wpList_append_own _ rfl _ _ 30 rfl N.t0 3 i0 (.int .i64 0) 1 8 Try.underlying30 hi0' hz0 hz1 hz2 rfl (by decide) v q.length (iv q) rfl (H2.out.alloc _) ⟨W.heap.size, 0, none⟩ 1 1 [.int .i64 x] rfl rfl (cell_one_new _ _ _) (by simp [Value.oneCell']) (by unfold maxLen; omega) (by omega) (by simp; omega) ?_; intro v' w9 hown9 hgrow9 hsz9; obtain ⟨g9, cap9, rfl⟩ := own_slice hown9 (by omega); have HO9 := Lib.hid hown9; have HG9 := Lib.hid hgrow9; have T9 := (H1.out.below (below_all W (.cells #[.int .i64 x] 3))).same (hgrow9.block N.bT (by rw [World.size_alloc]; omega) (Ne.symm (own_ne_blkT H2.out H1.out (by decide)))); have HT9 := Lib.hid T9; have G9 := (HGG.out.below (below_all W (.cells #[.int .i64 x] 3))).same (hgrow9.block N.bG (by rw [World.size_alloc]; omega) (Ne.symm (own_ne_blkT H2.out HGG.out (by decide)))); have cg9 := G9.cell; unfold goV at cg9; have c9 := T9.cell; have f9 := T9.frozen; have hgo := hgrow9.size; clear hown9 hgrow9 T9 G9 c0 f0 cg)
  have KB3 := Lib.hid ((((HK.out.b.alloc HK.out.b.size (.cells #[.int .i64 x] 3)).grown HG9.out (HK.out.b.alloc HK.out.b.size _).size (fun j hj => Nat.le_trans HW0.out.1 (H2.out.lt j hj).1)).setCell (p := ⟨N.bT, 0, none⟩) HW0.out.2 (.slice (some ⟨g9, 0, none⟩) (q.length + 1) cap9)))
  have K3 := Lib.hid (HK.out.turn (q' := q ++ [x]) (W' := w9.setCell ⟨N.bT, 0, none⟩ (.slice (some ⟨g9, 0, none⟩) (q.length + 1) cap9)) KB3.out
    (fun i hi hlt => (set_blk _ _ _ _ (by have o := HK.out.o; have := o.o10; have := o.o11; have := o.o12; omega)).trans ((HG9.out.block i (by rw [World.size_alloc]; omega) (by
      intro e
      rcases hi with hi | rfl | rfl
      · have := (H2.out.lt i e.symm).1; omega
      · exact own_ne_blkT H2.out HGG.out (by decide) e.symm
      · exact own_ne_blkT H2.out HYY.out (by decide) e.symm)).trans (Below.heap_alloc W _ i hlt)))
    (HT9.out.set _) (by
      rw [List.length_append, List.length_singleton, iv_snoc]
      exact own_same HO9.out (fun i hi => set_blk _ _ _ _ (by
        intro e
        subst e
        exact own_ne_blkT HO9.out HT9.out (by decide) hi))))
  refine (HHG.out _ K3.out).mono ?_
  rintro e w4 ⟨rfl, K4⟩
  have HK4 := Lib.hid K4
  clear K4
  go_wp2
  refine leaves_cons (f := 142) (args := #[.pointer (some ⟨N.bT, 0, none⟩)]) (by simp) (by simp [go_sem]) ?_
  refine (back_any w0 A N q x s' .returning _ HK4.out (by omega)).mono ?_
  rintro e u' w'' ⟨rfl, rfl, KB⟩
  have HKB := Lib.hid KB
  clear KB
  simp [Leaves, settle, results, Try.results141, go_sem]
  exact HKB.out
end Go.Proofs.Ythceffkkokgpnaa
namespace Go.Proofs.Ythceffkkokgpnaa
open Go.RowKit
set_option linter.unusedVariables false
set_option linter.unusedSimpArgs false
set_option maxRecDepth 100000 in
set_option maxHeartbeats 8000000 in
theorem go_any (w0 : World) (A : Ag) (N : Cn) (h1 : Sts w0 w0.heap.size A.aa A.la) (h2 : Sts w0 w0.heap.size A.ab A.lb) (ha : stsB A.la = true) (hb : stsB A.lb = true) (hp : pnB A.p = true) :
    ∀ (d : Nat) (q : List Int) (s : List Int × Int) (W : World), q.length + d = A.la.length → (0 < A.la.length ∨ s.2 ≤ tcC A.la A.lb q A.p) → trsB A.lb.length q = true → Bt w0 A N q s W →
    Calls Try.prog 143 #[.pointer (some ⟨N.bT, 0, none⟩), .pointer (some ⟨N.bF, 0, none⟩), .pointer (some ⟨N.bU, 0, none⟩), .pointer (some ⟨N.bS, 0, none⟩), .pointer (some ⟨N.bY, 0, none⟩)] W fun e w' => e = .returned (.tuple #[]) ∧ Bt w0 A N q (gR (fun t => tcC A.la A.lb t A.p) A.lb.length d q s) w' := by
  have la5 := sts_len ha
  have lb5 := sts_len hb
  intro d
  induction d with
  | zero =>
    intro q s W hq hn ht K
    have htr : trB A.la A.lb q = true := (tr_same ha hb (by omega)).trans ht
    obtain ⟨v, o1, o2⟩ := K.t_
    have HU := Lib.hid (use_any w0 A N q s W v K o1 o2 h1 h2 htr hp hn)
    have eg := ent_use
    obtain ⟨at_, ct, rfl, hct, _⟩ := own_form o2 rfl
    have c0 := o1.cell
    have cf := K.f_.cell
    have cu := K.u_.cell
    unfold useV at cu
    have heq : ((q.length : Int) == (A.la.length : Int)) = true := by rw [beq_iff_eq]; omega
    show Calls _ _ _ _ fun e w' => e = .returned (.tuple #[]) ∧ Bt w0 A N q (upd s (q, tcC A.la A.lb q A.p)) w'
    generalize upd s (q, tcC A.la A.lb q A.p) = s' at *
    clear h1 h2 ha hb hp htr o1 o2 K hq ht hn
    go_enter Try.func143, Try.ntmps143
    go_wp2_with (go_at_fn 96; (with_reducible refine HU.out.mono ?_); rintro e w1 ⟨rfl, k1⟩; have K1 := Lib.hid k1; clear k1)
    first | go_end0 | refine bodyPost_ret (results_none rfl _ _ _) rfl ?_
    exact ⟨rfl, K1.out⟩
  | succ d ih =>
    intro q s W hq hn ht K
    have HIH := Lib.hid (fun q s W h1 h2 h3 => ih q s W h1 (.inl (by omega)) h2 h3)
    clear ih
    have hne : ((q.length : Int) == (A.la.length : Int)) = false := by rw [beq_eq_false_iff_ne]; omega
    have HK := Lib.hid K
    have HT := Lib.hid ht
    have HQ := Lib.hid hq
    obtain ⟨v, o1, o2⟩ := K.t_
    obtain ⟨at_, ct, rfl, hct, _⟩ := own_form o2 rfl
    have c0 := o1.cell
    have cf := K.f_.cell
    have eg := ent_try
    show Calls _ _ _ _ fun e w' => e = .returned (.tuple #[]) ∧ Bt w0 A N q (gk (gR (fun t => tcC A.la A.lb t A.p) A.lb.length d) q (A.lb.length + 1) s) w'
    have HF := Lib.hid (fun q s W h1 h2 h3 => HIH.out q s W h1 h2 h3)
    generalize gR (fun t => tcC A.la A.lb t A.p) A.lb.length d = f at *
    clear o1 o2 K ht HIH hn
    go_enter Try.func143, Try.ntmps143
    go_wp2
    clear c0 cf hne
    go_loopw [5] (fun i wr => ∃ k : Nat, k ≤ A.lb.length + 1 ∧ i = .int .i64 ((k : Int) - 1) ∧ Bt w0 A N q (gk f q k s) wr) (fun i _ => A.lb.length + 1 - (intOf i + 1).toNat)
    case atStart => exact ⟨0, Nat.zero_le _, rfl, HK.out⟩
    case round =>
      obtain ⟨k, hk, rfl, hK⟩ := hrel
      have HKR := Lib.hid hK
      have cs := hK.s_.cell
      by_cases hlt : k < A.lb.length + 1
      · have hi : (k : Int) - 1 < (A.lb.length : Int) := by omega
        have g1 : IntKind.i64.wrap ((k : Int) - 1 + 1) = ((k + 1 : Nat) : Int) - 1 := by rw [show (k : Int) - 1 + 1 = ((k + 1 : Nat) : Int) - 1 by omega]; exact IntWalk.i64_in _ (by omega)
        obtain ⟨v9, o1, o2⟩ := hK.t_
        obtain ⟨a9, c9, rfl, hc9, hin⟩ := own_form o2 rfl
        have ct9 := o1.cell
        have HFR := Lib.hid (fun u (hu : feB q ((k : Int) - 1) = u) => isFree_is a9 q c9 wr.heap.size ((k : Int) - 1) u wr hin (by omega) hu)
        have HSTEP := Lib.hid (show gk f q (k + 1) s = if feB q ((k : Int) - 1) = true then f (q ++ [(k : Int) - 1]) (gk f q k s) else gk f q k s from rfl)
        obtain ⟨s1, hs1⟩ : ∃ s1, gk f q k s = s1 := ⟨_, rfl⟩
        rw [hs1] at HKR HSTEP
        have cy := hK.y_.cell
        unfold tryV at cy
        clear hs1 hK o1 o2 hin
        cases hfr : feB q ((k : Int) - 1) with
        | false =>
          have HFR1 := Lib.hid (HFR.out false hfr)
          rw [hfr, if_neg (by simp)] at HSTEP
          clear hfr HFR
          go_wp2_with (go_at_call 82; (with_reducible refine HFR1.out.mono ?_); rintro e w3 ⟨rfl, rfl⟩)
          go_roundw
          case rel => exact ⟨k + 1, by omega, (by rw [Value.int.injEq]; exact ⟨rfl, by omega⟩), by rw [HSTEP.out]; exact HKR.out⟩
          case measure => simp [intOf]; omega
        | true =>
          have HFR1 := Lib.hid (HFR.out true hfr)
          have HNT := Lib.hid (trs_add HT.out (by omega) (by omega) hfr)
          rw [hfr, if_pos rfl] at HSTEP
          have HTRY := Lib.hid (try_any w0 A N q ((k : Int) - 1) s1 (f (q ++ [(k : Int) - 1]) s1) wr HKR.out (by have := HQ.out; omega) (fun W1 K1 => HF.out (q ++ [(k : Int) - 1]) s1 W1 (by have := HQ.out; rw [List.length_append, List.length_singleton]; omega) HNT.out K1))
          clear hfr HFR
          go_wp2_with (first | (go_at_call 82; (with_reducible refine HFR1.out.mono ?_); rintro e w3 ⟨rfl, rfl⟩) | (go_at_fn 141; (with_reducible refine HTRY.out.mono ?_); rintro e w4 ⟨rfl, k4⟩; have K4 := Lib.hid k4; clear k4))
          go_roundw
          case rel => exact ⟨k + 1, by omega, (by rw [Value.int.injEq]; exact ⟨rfl, by omega⟩), by rw [HSTEP.out]; exact K4.out⟩
          case measure => simp [intOf]; omega
      · obtain rfl : k = A.lb.length + 1 := by omega
        have hi : ¬ ((A.lb.length + 1 : Nat) : Int) - 1 < (A.lb.length : Int) := by omega
        clear hK
        go_wp2
        first | go_end0 | refine bodyPost_ret (results_none rfl _ _ _) rfl ?_
        exact ⟨rfl, HKR.out⟩
end Go.Proofs.Ythceffkkokgpnaa
namespace Go.Proofs.Ythceffkkokgpnaa
open Go.RowKit
set_option linter.unusedVariables false
set_option linter.unusedSimpArgs false
set_option maxRecDepth 100000 in
set_option maxHeartbeats 8000000 in
theorem every_any (w0 : World) (A : Ag) (M : Cn) (s : List Int × Int) (W : World) (h1 : Sts w0 w0.heap.size A.aa A.la) (h2 : Sts w0 w0.heap.size A.ab A.lb) (ha : stsB A.la = true) (hb : stsB A.lb = true) (hp : pnB A.p = true) (hn : 0 < A.la.length ∨ s.2 ≤ tcC A.la A.lb [] A.p)
    (o0 : w0.heap.size ≤ M.pa) (o1 : M.pa < M.pb) (o2 : M.pb < M.pp) (o3 : M.pp < M.g) (o4 : M.g < M.pB) (o5 : M.pB < M.pL) (o6 : M.pL < W.heap.size)
    (b : Below w0.heap.size w0 W) (a_ : OneB W M.pa 33 (.slice A.aa A.la.length A.ca)) (b_ : OneB W M.pb 33 (.slice A.ab A.lb.length A.cb)) (p_ : OneB W M.pp 3 (.int .i64 A.p)) (row : Row W M.g 3 (iv s.1)) (len : s.1.length = A.la.length) (best : OneB W M.pB 30 (.slice (some ⟨M.g, 0, none⟩) A.la.length A.la.length)) (l_ : OneB W M.pL 3 (.int .i64 s.2)) :
    Calls Try.prog 95 #[.int .i64 A.la.length, .int .i64 A.lb.length, useV M] W fun e w' => e = .returned (.tuple #[]) ∧ ∃ N : Cn, N.g = M.g ∧ N.pB = M.pB ∧ N.pL = M.pL ∧ Bt w0 A N [] (gR (fun t => tcC A.la A.lb t A.p) A.lb.length A.la.length [] s) w' := by
  have hmf : ∀ (fn : Fn) (first cap : Array Value) (w : World), (Instr.makeFunc fn first cap).run Try.prog w = .ok (.func fn first cap) w := fun _ _ _ _ => rfl
  have hsf : ∀ (a : Addr) (fn : Fn) (first cap : Array Value) (w : World), w.cell? a = some .nilFunc → w.frozen? a = false → Sem.run Try.prog (store a (.func fn first cap)) w = .ok () (w.setCell a (.func fn first cap)) := fun a fn first cap w h1 h2 => by rw [run_store _ _ _ _ _ rfl, h1, h2]; rfl
  have eg := ent_go
  obtain ⟨uv, hU⟩ : ∃ uv, useV M = uv := ⟨_, rfl⟩
  let N : Cn := { M with bF := W.heap.size, bS := W.heap.size + 1, bU := W.heap.size + 1 + 1, t0 := W.heap.size + 1 + 1 + 1, bT := W.heap.size + 1 + 1 + 1 + 1, bG := W.heap.size + 1 + 1 + 1 + 1 + 1, bY := W.heap.size + 1 + 1 + 1 + 1 + 1 + 1 }
  have HGO := Lib.hid (fun W' (K : Bt w0 A N [] s W') => go_any w0 A N h1 h2 ha hb hp A.la.length [] s W' (by simp) hn rfl K)
  have K0 := Lib.hid (show Bt w0 A N [] s (((((((W.alloc (.cells #[.int .i64 A.la.length] 3)).alloc (.cells #[.int .i64 A.lb.length] 3)).alloc (.cells #[uv] 124)).alloc (.cells #[] 3)).alloc (.cells #[.slice (some ⟨W.heap.size + 1 + 1 + 1, 0, none⟩) 0 0] 30)).alloc (.cells #[goV N] 1)).alloc (.cells #[tryV N] 168)) from by
    generalize hW1 : W.alloc (.cells #[.int .i64 A.la.length] 3) = W1
    have n1 : OneB W1 W.heap.size 3 (.int .i64 A.la.length) := by rw [← hW1]; exact OneB.new _ _ _
    have c1 : Below W.heap.size W W1 := by rw [← hW1]; exact below_all _ _
    have z1 : W1.heap.size = W.heap.size + 1 := by rw [← hW1]; simp
    generalize hW2 : W1.alloc (.cells #[.int .i64 A.lb.length] 3) = W2
    have n2 : OneB W2 (W.heap.size + 1) 3 (.int .i64 A.lb.length) := by rw [← hW2, ← z1]; exact OneB.new _ _ _
    have c2 : Below W1.heap.size W1 W2 := by rw [← hW2]; exact below_all _ _
    have z2 : W2.heap.size = W.heap.size + 1 + 1 := by rw [← hW2, World.size_alloc, z1]
    generalize hW3 : W2.alloc (.cells #[uv] 124) = W3
    have n3 : OneB W3 (W.heap.size + 1 + 1) 124 uv := by rw [← hW3, ← z2]; exact OneB.new _ _ _
    have c3 : Below W2.heap.size W2 W3 := by rw [← hW3]; exact below_all _ _
    have z3 : W3.heap.size = W.heap.size + 1 + 1 + 1 := by rw [← hW3, World.size_alloc, z2]
    generalize hW4 : W3.alloc (.cells #[] 3) = W4
    have n4 : W4.ownsRow (W.heap.size + 1 + 1 + 1) 3 1 (.slice (some ⟨W.heap.size + 1 + 1 + 1, 0, none⟩) 0 0) 0 [] := by
      rw [← hW4, ← z3]
      exact World.ownsRow_made (base := W3.heap.size) (e := 3) (size := 1) W3 #[] 0 (Nat.le_refl _) (by unfold maxLen; omega) rfl
    have c4 : Below W3.heap.size W3 W4 := by rw [← hW4]; exact below_all _ _
    have z4 : W4.heap.size = W.heap.size + 1 + 1 + 1 + 1 := by rw [← hW4, World.size_alloc, z3]
    generalize hW5 : W4.alloc (.cells #[.slice (some ⟨W.heap.size + 1 + 1 + 1, 0, none⟩) 0 0] 30) = W5
    have n5 : OneB W5 (W.heap.size + 1 + 1 + 1 + 1) 30 (.slice (some ⟨W.heap.size + 1 + 1 + 1, 0, none⟩) 0 0) := by rw [← hW5, ← z4]; exact OneB.new _ _ _
    have c5 : Below W4.heap.size W4 W5 := by rw [← hW5]; exact below_all _ _
    have z5 : W5.heap.size = W.heap.size + 1 + 1 + 1 + 1 + 1 := by rw [← hW5, World.size_alloc, z4]
    generalize hW6 : W5.alloc (.cells #[goV N] 1) = W6
    have n6 : OneB W6 (W.heap.size + 1 + 1 + 1 + 1 + 1) 1 (goV N) := by rw [← hW6, ← z5]; exact OneB.new _ _ _
    have c6 : Below W5.heap.size W5 W6 := by rw [← hW6]; exact below_all _ _
    have z6 : W6.heap.size = W.heap.size + 1 + 1 + 1 + 1 + 1 + 1 := by rw [← hW6, World.size_alloc, z5]
    generalize hW7 : W6.alloc (.cells #[tryV N] 168) = W7
    have n7 : OneB W7 (W.heap.size + 1 + 1 + 1 + 1 + 1 + 1) 168 (tryV N) := by rw [← hW7, ← z6]; exact OneB.new _ _ _
    have c7 : Below W6.heap.size W6 W7 := by rw [← hW7]; exact below_all _ _
    have d5 := below_then c6 c7
    have d4 : Below W4.heap.size W4 W7 := below_then c5 d5
    have d3 : Below W3.heap.size W3 W7 := below_then c4 d4
    have d2 : Below W2.heap.size W2 W7 := below_then c3 d3
    have d1 : Below W1.heap.size W1 W7 := below_then c2 d2
    have d0 : Below W.heap.size W W7 := below_then c1 d1
    exact ⟨⟨o0, o1, o2, o3, o4, o5, o6, by show W.heap.size < W.heap.size + 1; omega, by show W.heap.size + 1 < W.heap.size + 1 + 1; omega, by show W.heap.size + 1 + 1 < W.heap.size + 1 + 1 + 1; omega, by show W.heap.size + 1 + 1 + 1 < W.heap.size + 1 + 1 + 1 + 1; omega, by show W.heap.size + 1 + 1 + 1 + 1 < W.heap.size + 1 + 1 + 1 + 1 + 1; omega, by show W.heap.size + 1 + 1 + 1 + 1 + 1 < W.heap.size + 1 + 1 + 1 + 1 + 1 + 1; omega⟩,
      below_then b d0, a_.below d0, b_.below d0, p_.below d0, row.of_block (d0.block _ row.lt), len, best.below d0, l_.below d0, n1.below d1, n2.below d2, by have := n3.below d3; rw [← hU] at this; exact this, ⟨_, n5.below d5, own_keeps n4 d4⟩, n6.below c7, n7⟩)
  clear h1 h2 ha hb hp hn b a_ b_ p_ row len best l_ o0 o1 o2 o3 o4 o5 o6
  rw [hU]
  go_enter Try.func95, Try.ntmps95
  go_wp2_with fail
  refine (HGO.out _ K0.out).mono ?_
  rintro e w1 ⟨rfl, k1⟩
  have K1 := Lib.hid k1
  clear k1
  go_wp2
  go_end0
  exact ⟨rfl, N, rfl, rfl, rfl, K1.out⟩
end Go.Proofs.Ythceffkkokgpnaa
namespace Go.Proofs.Ythceffkkokgpnaa
open Go.RowKit
set_option linter.unusedVariables false
set_option linter.unusedSimpArgs false
/-- k times -1, then nothing yet -/
def repV (n k : Nat) : List Int := List.replicate k (-1) ++ List.replicate (n - k) 0
theorem repV_len {n k : Nat} (h : k ≤ n) : (repV n k).length = n := by unfold repV; simp; omega
theorem repV_zero (n : Nat) : repV n 0 = List.replicate n 0 := rfl
theorem repV_all (n : Nat) : repV n n = List.replicate n (-1) := by unfold repV; rw [Nat.sub_self]; simp
theorem iv_app (a b : List Int) : iv (a ++ b) = iv a ++ iv b := by unfold iv; rw [List.map_append]
theorem rep_splice {n k m : Nat} (h : k + m ≤ n) : splice (iv (repV n k)) k (iv (List.replicate m (-1))) = iv (repV n (k + m)) := by
  unfold splice
  have hl : (iv (List.replicate k (-1))).length = k := by rw [iv_length]; simp
  have h1 : (iv (repV n k)).take k = iv (List.replicate k (-1)) := by
    unfold repV; rw [iv_app, List.take_append_of_le_length (by omega), List.take_of_length_le (by omega)]
  have h2 : (iv (repV n k)).drop (k + (iv (List.replicate m (-1))).length) = iv (List.replicate (n - (k + m)) 0) := by
    unfold repV
    rw [iv_app, iv_length, List.length_replicate, List.drop_append, hl, List.drop_of_length_le (by omega), show k + m - k = m by omega]
    show [] ++ List.drop m (List.map _ _) = _
    rw [← List.map_drop, List.drop_replicate, show n - k - m = n - (k + m) by omega]
    rfl
  rw [h1, h2]
  unfold repV
  rw [iv_app, show List.replicate (k + m) (-1 : Int) = List.replicate k (-1) ++ List.replicate m (-1) from List.replicate_append_replicate.symm, iv_app, List.append_assoc]
theorem run_makeInt (n : Nat) (h : n ≤ 1048576) (W : World) :
    (Instr.makeSlice 30 (.int .i64 (n : Int)) (.int .i64 (n : Int))).run Try.prog W = .ok (.slice (some ⟨W.heap.size, 0, none⟩) n n) (W.alloc (.cells (madeCells #[.int .i64 0] (n * 1)) 3)) := by
  obtain ⟨i, hi, hz, hs, hb⟩ := info_parts infoInt
  have hr := run_make (P := Try.prog) W 30 3 i (.int .i64 0) Try.underlying30 hi hz .i64 .i64 n n (by omega) (Int.le_refl _) (by rw [hb]; omega) (by omega)
  simp only [Int.toNat_natCast, hs] at hr
  exact hr
theorem made_one (v : Value) (n : Nat) : madeCells #[v] n = (List.replicate n v).toArray := by
  apply Array.ext
  · simp [madeCells]
  · intro i h1 h2
    simp [madeCells, Nat.mod_one]
theorem iv_rep (n : Nat) (z : Int) : iv (List.replicate n z) = List.replicate n (.int .i64 z) := by unfold iv; rw [List.map_replicate]
set_option maxRecDepth 100000 in
set_option maxHeartbeats 8000000 in
theorem repeat_any (n b : Nat) (W : World) (hx : W.cell? ⟨b, 0, none⟩ = some (.int .i64 (-1))) (hn : n ≤ 1048576) :
    Calls Try.prog 94 #[.slice (some ⟨b, 0, none⟩) 1 1, .int .i64 n] W fun e w' => ∃ g, e = .returned (.slice (some ⟨g, 0, none⟩) n n) ∧ W.heap.size ≤ g ∧ Row w' g 3 (iv (List.replicate n (-1))) ∧ Below W.heap.size W w' := by
  have HM := Lib.hid (fun w => Try.bits_Mul 1 n (by omega) (by omega) w)
  rw [show (1 * n / 18446744073709551616 : Nat) = 0 by omega, show (1 * n % 18446744073709551616 : Nat) = n by omega] at HM
  have hneg : ¬ (n : Int) < 0 := by omega
  have hmx : ¬ (9223372036854775807 : Int) < (n : Int) := by omega
  go_enter Try.func94, Try.ntmps94
  go_wp2_with fail
  refine (HM.out _).mono ?_
  rintro e w1 ⟨rfl, rfl⟩
  obtain ⟨g, hg⟩ : ∃ q, w1.heap.size = q := ⟨_, rfl⟩
  have HG := Lib.hid (And.intro hg trivial)
  have hblt : b < w1.heap.size := by
    rcases Nat.lt_or_ge b w1.heap.size with h | h
    · exact h
    · simp [World.cell?, Array.getElem?_eq_none h] at hx
  have hmk := fun W => run_makeInt n hn W
  have B1 := Lib.hid (below_all w1 (.cells (madeCells #[.int .i64 0] n) 3))
  have R1 := Lib.hid (show (w1.alloc (.cells (madeCells #[.int .i64 0] n) 3)).heap[g]? = some (.cells (iv (repV n 0)).toArray 3 (0, 0)) from by
    rw [← hg, heap_alloc_new, repV_zero, made_one, iv_rep])
  have HX := Lib.hid ((B1.out.cell (p := ⟨b, 0, none⟩) hblt).trans hx)
  have HN := Lib.hid (And.intro hn trivial)
  have hmin : Nat.min 1 n ≤ n := Nat.min_le_right _ _
  go_wp2_with (with_reducible refine wpList_copy_splice rfl (.tmp 31) (.tmp 32) 30 30 rfl 3 Try.underlying30 (by kernel_rfl) _ _ _ _ _ _ rfl rfl g 0 (iv (repV n 0)) 3 R1.out (iv (List.replicate (Nat.min 1 n) (-1))) ?_ ?_ ?_ (iv_one _) w1.heap.size w1 B1.out (by have := HG.out.1; omega) ?_)
  case refine_1 => rw [iv_length, List.length_replicate]
  case refine_2 =>
    intro _
    intro j v hv
    obtain ⟨hj, hv⟩ := List.getElem?_eq_some_iff.1 hv
    rw [iv_length, List.length_replicate] at hj
    have h1 : Nat.min 1 n ≤ 1 := Nat.min_le_left _ _
    obtain rfl : j = 0 := by omega
    rw [HX.out, ← hv]
    simp [iv]
  case refine_3 => rw [iv_length, iv_length, List.length_replicate, repV_len (Nat.zero_le _)]; omega
  case refine_4 =>
    intro w2 hg2 hb2
    rw [rep_splice (n := n) (k := 0) (m := Nat.min 1 n) (by omega)] at hg2
    have HG2 := Lib.hid hg2.out
    have HB2 := Lib.hid hb2
    obtain ⟨k0, hk0⟩ : ∃ k0, 0 + Nat.min 1 n = k0 := ⟨_, rfl⟩
    have HK0 := Lib.hid (show k0 ≤ n ∧ (k0 = 0 → n = 0) from by
      rcases Nat.eq_zero_or_pos n with h | h
      · subst h; subst hk0; simp
      · have : Nat.min 1 n = 1 := Nat.min_eq_left h
        omega)
    rw [hk0] at HG2
    have hlen0 : (iv (List.replicate (Nat.min 1 n) (-1))).length = k0 := by rw [iv_length, List.length_replicate]; omega
    rw [hlen0]
    clear hg2 hb2 hlen0 hk0 hmk hneg hmx hx
    go_wp2_with fail
    go_loopw [8] (fun q wr => ∃ k : Nat, k ≤ n ∧ (k = 0 → n = 0) ∧ q = .int .i64 k ∧ wr.heap[g]? = some (.cells (iv (repV n k)).toArray 3 (0, 0)) ∧ Below g w1 wr) (fun q _ => n - (intOf q).toNat)
    case atStart => exact ⟨k0, HK0.out.1, HK0.out.2, rfl, HG2.out, by have h := HB2.out; first | exact h | (rw [← HG.out.1]; exact h)⟩
    case round =>
      obtain ⟨k, hk, hk0, rfl, hh, hB⟩ := hrel
      have HH := Lib.hid hh
      have HB := Lib.hid hB
      have HKN := Lib.hid hk0
      clear hh hB hk0
      by_cases hlt : k < n
      · have hi : (k : Int) < (n : Int) := by omega
        have hi0 : (0 : Int) ≤ (k : Int) := by omega
        have hle : (k : Int) ≤ (n : Int) := by omega
        have hk1 : 0 < k := by
          rcases Nat.eq_zero_or_pos k with h | h
          · have := HKN.out h; omega
          · exact h
        have hm1 : Nat.min k (n - k) ≤ n - k := Nat.min_le_right _ _
        have hm2 : Nat.min k (n - k) ≤ k := Nat.min_le_left _ _
        have hm3 : 0 < Nat.min k (n - k) := show 0 < min k (n - k) from by omega
        have HM9 := Lib.hid (And.intro hm1 (And.intro hm2 hm3))
        have ew : IntKind.i64.wrap ((k : Int) + (Nat.min k (n - k) : Nat)) = ((k + Nat.min k (n - k) : Nat) : Int) := by rw [show (k : Int) + (Nat.min k (n - k) : Nat) = ((k + Nat.min k (n - k) : Nat) : Int) by omega]; exact IntWalk.i64_in _ (by omega)
        have hsplit : (iv (List.replicate (Nat.min k (n - k)) (-1))).length = Nat.min k (n - k) := by rw [iv_length, List.length_replicate]
        obtain ⟨m, hm⟩ : ∃ m, Nat.min k (n - k) = m := ⟨_, rfl⟩
        have HMM := Lib.hid (And.intro hm trivial)
        rw [hm] at ew HM9 hsplit
        have HSP := Lib.hid (And.intro hsplit trivial)
        clear hm1 hm2 hm3 hm hsplit
        go_wp2_with fail
        have HSRC := Lib.hid (fun (j : Nat) (v : Value) (hv : (iv (List.replicate m (-1)))[j]? = some v) => show wr.drew.cell? ⟨g, j, none⟩ = some v from by
          obtain ⟨hj, hv⟩ := List.getElem?_eq_some_iff.1 hv
          rw [HSP.out.1] at hj
          have h9 : (iv (repV n k))[j]? = some (.int .i64 (-1)) := by
            unfold repV
            rw [iv_app, List.getElem?_append_left (by rw [iv_length, List.length_replicate]; have := HM9.out; omega), iv_rep, List.getElem?_replicate, if_pos (by have := HM9.out; omega)]
          have h8 : v = .int .i64 (-1) := by rw [← hv]; simp [iv]
          rw [h8]
          have h7 : wr.drew.heap[g]? = some (.cells (iv (repV n k)).toArray 3 (0, 0)) := HH.out
          simp [World.cell?, h7, h9])
        go_region_held3 (fun w' => True ∧ True) (exact ⟨trivial, trivial⟩) (first | (refine step_copy_splice rfl (.tmp 41) (.tmp 44) 30 30 rfl 3 Try.underlying30 (by kernel_rfl) _ _ _ _ _ _ (by rfl) (by rfl) g k (iv (repV n k)) 3 HH.out (iv (List.replicate m (-1))) (by rw [HSP.out.1]; exact HMM.out.1.symm) (fun _ => ⟨if_neg (by omega), ⟨g, 0, none⟩, rfl, fun j v hv => by have e : (⟨g, 0, none⟩ : Addr).add j = ⟨g, j, none⟩ := (by unfold Addr.add; split <;> simp_all); rw [e]; exact HSRC.out j v hv⟩) (by rw [HSP.out.1, iv_length, repV_len (by omega)]; have := HM9.out; omega) (iv_one _) g w1 HB.out.drew (Nat.le_refl _) ?_; intro w4 hg4 hb4; have HG4 := Lib.hid hg4.out; have HB4 := Lib.hid hb4; clear hg4 hb4))
        all_goals
          rw [HSP.out.1]
          go_wp2
          go_roundw
          case rel => exact ⟨k + m, by have := HM9.out; omega, by have := HM9.out; omega, by first | rfl | (rw [Value.int.injEq]; exact ⟨rfl, by omega⟩), by rw [← rep_splice (n := n) (k := k) (m := m) (by have := HM9.out; omega)]; exact HG4.out, HB4.out⟩
          case measure => have := HM9.out; simp [intOf]; omega
      · obtain rfl : k = n := by omega
        rw [repV_all] at HH
        have HR := Lib.hid (show Row wr g 3 (iv (List.replicate k (-1))) from ⟨_, HH.out, fun j hj => by simp [hj]⟩)
        go_wp2
        go_ret
        exact ⟨g, rfl, by have := HG.out.1; omega, HR.out, HG.out.1 ▸ HB.out⟩
end Go.Proofs.Ythceffkkokgpnaa
namespace Go.Proofs.Ythceffkkokgpnaa
open Go.RowKit Go.Maps
set_option linter.unusedVariables false
theorem ptLaidOut : laidOutB Try.prog = true := by kernel_rfl
theorem ptRow : (152 : TypeId) < Try.prog.types.size := of_decide_eq_true (by kernel_rfl)
theorem ptKeyed : Keyed Try.prog 152 := Keyed.of_law (deep_law_laid ptLaidOut (m := 2) (by omega) ptRow (by kernel_rfl) (by rw [Try.underlying152]))
theorem zeroBool (w : World) : (zeroValue 4).run Try.prog w = .ok (.bool false) w := by kernel_rfl
theorem ptKeyType : Try.prog.keyType 152 = true := by kernel_rfl
theorem ptCells : Try.prog.cellsOf 152 = 2 := by kernel_rfl
theorem intCells : Try.prog.cellsOf 3 = 1 := by kernel_rfl
theorem tySize : ∃ m, Try.prog.types.size = m + 2 := ⟨Try.prog.types.size - 2, by have : 2 ≤ Try.prog.types.size := of_decide_eq_true (by kernel_rfl); omega⟩
def okI (x : Int) : Prop := -9223372036854775808 ≤ x ∧ x ≤ 9223372036854775807
theorem okI_wf {x : Int} (h : okI x) : (Lit.int .i64 x).wf = true := by unfold okI at h; exact WalkArith.wf_i64 (by omega)
def pkey (x y : Int) : Lit := .string (keyBytes [.int .i64 x, .int .i64 y])
theorem pkey_is {x y : Int} (hx : okI x) (hy : okI y) : keyOf Try.prog 152 (.agg #[.int .i64 x, .int .i64 y]) = some (pkey x y) := by
  have hwx := okI_wf hx
  have hwy := okI_wf hy
  obtain ⟨m, hm⟩ := tySize
  unfold keyOf
  simp only [Try.underlying152]
  rw [if_pos (by simp [ptKeyType, Value.formed, Try.underlying152, ptCells]), hm]
  unfold Program.keyLits
  simp only [Try.underlying152, Value.cells]
  rw [if_pos (by simp [ptCells])]
  simp [intCells, Program.keyLits, Try.underlying3, hwx, hwy, pkey]
theorem pkey_inj {x y x' y' : Int} (hx : okI x) (hy : okI y) (hx' : okI x') (hy' : okI y') (h : pkey x y = pkey x' y') : x = x' ∧ y = y' := by
  have h1 := pkey_is hx hy
  have h2 := pkey_is hx' hy'
  rw [← h] at h2
  have e := ptKeyed.inj h1 h2
  simpa using e
theorem plainElem_bool_inv {H : Type} {P : Program} {e : TypeId} (he : P.underlying e = some .bool) {v : Value} {z : DataW H × List MemPlace} (h : plainElem P e v = some z) : ∃ x, v = .bool x ∧ z = (.lit (.bool x), []) := by
  unfold plainElem at h
  rw [he] at h
  cases v <;> simp at h
  exact ⟨_, rfl, h.symm⟩
/-- block b is a map of at most n entries, made by the call; at the point (x, y) it holds S x y -/
def PSet (w : World) (b n : Nat) (S : Int → Int → Bool) : Prop :=
  ∃ D : DataW Unit, w.ownsMap Try.prog 152 (plainElem Try.prog 4) b n D ∧ ∀ x y, okI x → okI y → D.atKey (pkey x y) (.lit (.bool false)) = .lit (.bool (S x y))
section
variable {w w' : World} {b n : Nat} {S : Int → Int → Bool}
theorem PSet.made (w : World) : PSet (w.alloc (.map #[] 0)) w.heap.size 0 (fun _ _ => false) :=
  ⟨.map [], World.ownsMap_made _ _ _ _, fun x y _ _ => rfl⟩
theorem PSet.lt (h : PSet w b n S) : b < w.heap.size := by obtain ⟨D, h1, _⟩ := h; exact h1.lt
theorem PSet.mono {m : Nat} (h : PSet w b n S) (hm : n ≤ m) : PSet w b m S := by obtain ⟨D, h1, h2⟩ := h; exact ⟨D, h1.mono hm, h2⟩
theorem PSet.kept {row : Option Nat} (h : PSet w b n S) (hg : w.grownBy w' row) (hne : some b ≠ row) : PSet w' b n S := by obtain ⟨D, h1, h2⟩ := h; exact ⟨D, h1.kept hg hne, h2⟩
theorem PSet.below {B : Nat} (h : PSet w b n S) (hb : Below B w w') (hB : b < B) : PSet w' b n S := by
  obtain ⟨D, ⟨es, clock, h3, h4⟩, h2⟩ := h
  exact ⟨D, ⟨es, clock, (hb.block b hB).trans h3, h4⟩, h2⟩
theorem PSet.alloc (h : PSet w b n S) (o : Obj) : PSet (w.alloc o) b n S := by obtain ⟨D, h1, h2⟩ := h; exact ⟨D, h1.alloc o, h2⟩
theorem PSet.drew (h : PSet w b n S) (d : Drew w w') : PSet w' b n S := by obtain ⟨m, rfl⟩ := d; exact h
theorem PSet.setCell (h : PSet w b n S) {a : Addr} (ha : b ≠ a.block) (u : Value) : PSet (w.setCell a u) b n S := by obtain ⟨D, h1, h2⟩ := h; exact ⟨D, h1.setCell ha u, h2⟩
theorem PSet.congr {S' : Int → Int → Bool} (h : PSet w b n S) (e : ∀ x y, okI x → okI y → S x y = S' x y) : PSet w b n S' := by
  obtain ⟨D, h1, h2⟩ := h; exact ⟨D, h1, fun x y hx hy => by rw [h2 x y hx hy, e x y hx hy]⟩
theorem PSet.look {t : TypeId} (h : PSet w b n S) (ht : Try.prog.underlying t = some (.map 152 4)) {x y : Int} (hx : okI x) (hy : okI y) :
    (Instr.lookup t (.map (some b)) (.agg #[.int .i64 x, .int .i64 y]) false).run Try.prog w = .ok (.bool (S x y)) w := by
  obtain ⟨D, h1, h2⟩ := h
  obtain ⟨v, ps, hr, hv⟩ := h1.lookup ptKeyed ht (zeroBool w) (plainElem_bool Try.underlying4 false) (pkey_is hx hy)
  rw [h2 x y hx hy] at hv
  obtain ⟨x', rfl, hz⟩ := plainElem_bool_inv Try.underlying4 hv
  simp only [Prod.mk.injEq, DataW.lit.injEq, Lit.bool.injEq] at hz
  rw [hr, hz.1]
theorem PSet.put {t : TypeId} (h : PSet w b n S) (ht : Try.prog.underlying t = some (.map 152 4)) (hn : n < maxLen) {x y : Int} (hx : okI x) (hy : okI y) (v : Bool) :
    ∃ w', (Instr.mapUpdate t (.map (some b)) (.agg #[.int .i64 x, .int .i64 y]) (.bool v)).run Try.prog w = .ok () w' ∧ PSet w' b (n + 1) (fun p q => if p = x ∧ q = y then v else S p q) ∧ w.grownBy w' (some b) ∧ w'.heap.size = w.heap.size := by
  obtain ⟨D, h1, h2⟩ := h
  obtain ⟨w', hr, h3, h4⟩ := h1.store ptKeyed ht hn (pkey_is hx hy) (plainElem_bool Try.underlying4 v)
  refine ⟨w', hr, ⟨_, h3, fun p q hp hq => ?_⟩, h4.grown, ?_⟩
  · show _ = DataW.lit (.bool (if p = x ∧ q = y then v else S p q))
    by_cases e : p = x ∧ q = y
    · rw [if_pos e]
      obtain ⟨rfl, rfl⟩ := e
      exact atKey_put_same h1.isMap (ptKeyed.key (pkey_is hp hq)) _ _
    · rw [if_neg e, ← h2 p q hp hq]
      exact atKey_put_other (fun e2 => e (pkey_inj hp hq hx hy e2)) _ _
  · obtain ⟨es, clock, es', clock', _, rfl⟩ := h4; simp [ChangeMaps.setBlock]
theorem PSet.del {t : TypeId} (h : PSet w b n S) (ht : Try.prog.underlying t = some (.map 152 4)) {x y : Int} (hx : okI x) (hy : okI y) (ty : TypeId) :
    ∃ w', (Builtin.delete_ #[t, 152] ty #[.map (some b), .agg #[.int .i64 x, .int .i64 y]]).run Try.prog w = .ok (.tuple #[]) w' ∧ PSet w' b n (fun p q => if p = x ∧ q = y then false else S p q) ∧ w.grownBy w' (some b) ∧ w'.heap.size = w.heap.size := by
  obtain ⟨D, h1, h2⟩ := h
  obtain ⟨w', hr, h3, h4⟩ := h1.drop ptKeyed ht (pkey_is hx hy) ty
  refine ⟨w', hr, ⟨_, h3, fun p q hp hq => ?_⟩, h4.grown, ?_⟩
  · show _ = DataW.lit (.bool (if p = x ∧ q = y then false else S p q))
    by_cases e : p = x ∧ q = y
    · rw [if_pos e]
      obtain ⟨rfl, rfl⟩ := e
      exact atKey_del_same _
    · rw [if_neg e, ← h2 p q hp hq]
      exact atKey_del_other (fun e2 => e (pkey_inj hp hq hx hy e2)) _
  · obtain ⟨es, clock, es', clock', _, rfl⟩ := h4; simp [ChangeMaps.setBlock]
end
section
variable (w : World) {ops : Array Oper} {rest : List Oper} {o : Oper} {a : Act} {Q : Exit → Act → World → Prop}
/-- 'm[p]', p a point, at the operation -/
theorem wpList_look_set (hg : o.guard = none) (m x : Operand) (t : TypeId) (hop : o.op = Op.lookup t m x false) (ht : Try.prog.underlying t = some (.map 152 4)) (b n : Nat) (S : Int → Int → Bool) (hm : a.eval m = .map (some b)) (hs : PSet w b n S)
    (p q : Int) (hx : a.eval x = .agg #[.int .i64 p, .int .i64 q]) (hp : okI p) (hq : okI q) (v : Bool) (hv : S p q = v) (hK : wpList Try.prog ops Q rest (a.put o.dst (.bool v)) w) : wpList Try.prog ops Q (o :: rest) a w := by
  refine wpList_plain hg fun K' hK' => ?_
  have hr := hs.look ht hp hq
  rw [hv] at hr
  unfold Oper.wp
  simp [execOp, hop, hm, hx, hr, Result.andThen]
  exact hK' _ _ hK
/-- 'm[p] = v' at the operation -/
theorem wpList_put_set (hg : o.guard = none) (m x y : Operand) (t : TypeId) (hop : o.op = Op.mapUpdate t m x y) (ht : Try.prog.underlying t = some (.map 152 4)) (b n : Nat) (S : Int → Int → Bool) (hm : a.eval m = .map (some b)) (hs : PSet w b n S) (hn : n < maxLen)
    (p q : Int) (hx : a.eval x = .agg #[.int .i64 p, .int .i64 q]) (hp : okI p) (hq : okI q) (v : Bool) (hv : a.eval y = .bool v)
    (hK : ∀ w', PSet w' b (n + 1) (fun p' q' => if p' = p ∧ q' = q then v else S p' q') → w.grownBy w' (some b) → w'.heap.size = w.heap.size → wpList Try.prog ops Q rest (a.put o.dst undef) w') : wpList Try.prog ops Q (o :: rest) a w := by
  refine wpList_plain hg fun K' hK' => ?_
  obtain ⟨w', hr, h1, h2, h3⟩ := hs.put ht hn hp hq v
  unfold Oper.wp
  simp [execOp, hop, hm, hx, hv, hr, Result.andThen]
  exact hK' _ _ (hK w' h1 h2 h3)
/-- 'delete(m, p)' at the operation -/
theorem wpList_del_set (hg : o.guard = none) (m x : Operand) (t : TypeId) (hop : o.op = Op.call { callee := Callee.builtin Builtin.delete, args := #[m, x], argTypes := #[t, 152] }) (ht : Try.prog.underlying t = some (.map 152 4)) (b n : Nat) (S : Int → Int → Bool) (hm : a.eval m = .map (some b)) (hs : PSet w b n S)
    (p q : Int) (hx : a.eval x = .agg #[.int .i64 p, .int .i64 q]) (hp : okI p) (hq : okI q)
    (hK : ∀ w', PSet w' b n (fun p' q' => if p' = p ∧ q' = q then false else S p' q') → w.grownBy w' (some b) → w'.heap.size = w.heap.size → wpList Try.prog ops Q rest (a.put o.dst (.tuple #[])) w') : wpList Try.prog ops Q (o :: rest) a w := by
  refine wpList_plain hg fun K' hK' => ?_
  obtain ⟨w', hr, h1, h2, h3⟩ := hs.del ht hp hq o.type
  unfold Oper.wp
  simp [execOp, hop, resolve, invoke, builtin, hm, hx, hr, Result.andThen]
  exact hK' _ _ (hK w' h1 h2 h3)
end
end Go.Proofs.Ythceffkkokgpnaa
namespace Go.Proofs.Ythceffkkokgpnaa
open Go.RowKit
set_option linter.unusedVariables false
set_option linter.unusedSimpArgs false
set_option maxHeartbeats 1000000 in
theorem pointAt_any (wd i : Int) (w : World) (h1 : 1 ≤ wd) (h2 : wd ≤ 8) (h3 : 0 ≤ i) (h4 : i ≤ 64) :
    Calls Try.prog 120 #[.int .i64 wd, .int .i64 i] w fun e w' => e = .returned (.agg #[.int .i64 (i % wd), .int .i64 (i / wd)]) ∧ Below w.heap.size w w' := by
  have hne : ¬ wd = 0 := by omega
  go_enter Try.func120, Try.ntmps120
  go_wp2
  go_region
  all_goals go_wp2
  all_goals refine bodyPost_ret (v := .agg #[.int .i64 (i % wd), .int .i64 (i / wd)]) (by simp [results, Try.results120, go_sem]) rfl ⟨rfl, ?_⟩
  all_goals exact (below_all _ _).drew
theorem below_drewN {B : Nat} {w w' : World} (h : Below B w w') (n : Nat) : Below B w (w'.drewN n) := ⟨h.os, h.tape, h.output, h.size, h.block⟩
set_option maxHeartbeats 1000000 in
theorem neighbors_any (x y : Int) (w : World) (hx : -1 ≤ x ∧ x ≤ 8) (hy : -1 ≤ y ∧ y ≤ 8) :
    Calls Try.prog 166 #[.agg #[.int .i64 x, .int .i64 y]] w fun e w' => e = .returned (.agg #[.int .i64 x, .int .i64 (y - 1), .int .i64 (x + 1), .int .i64 y, .int .i64 x, .int .i64 (y + 1), .int .i64 (x - 1), .int .i64 y]) ∧ Below w.heap.size w w' := by
  go_enter Try.func166, Try.ntmps166
  go_wp2
  go_quiet (fail)
  go_wp2
  refine bodyPost_ret (v := .agg #[.int .i64 x, .int .i64 (y - 1), .int .i64 (x + 1), .int .i64 y, .int .i64 x, .int .i64 (y + 1), .int .i64 (x - 1), .int .i64 y]) (by simp [results, Try.results166, go_sem]) rfl ⟨rfl, ?_⟩
  iterate 8 (refine Below.setCell ?_ (by simp) _)
  exact below_drewN ((below_all _ _).alloc (by simp) _) _
set_option maxHeartbeats 2000000 in
theorem cellsOf_any (wd hg : Int) (a : Option Addr) (l : List Int) (c : Nat) (w : World) (hl : Ints .i64 w w.heap.size a l) (hr : regB wd hg l = true) :
    Calls Try.prog 137 #[.int .i64 wd, .slice a l.length c] w fun e w' => ∃ b, e = .returned (.map (some b)) ∧ w.heap.size ≤ b ∧ PSet w' b 64 (inP wd l) ∧ Below w.heap.size w w' := by
  have HL := Lib.hid hl
  have hs := shapeB_iff.1 (reg_shape hr)
  have hp := prod_bd (reg_shape hr)
  have hlen := reg_len hr
  have HBD := Lib.hid (reg_bd hr)
  have hmm := @run_makeMap Try.prog
  clear hl hr
  go_enter Try.func137, Try.ntmps137
  go_wp2
  clear hmm
  have M0 := Lib.hid (PSet.made w)
  go_loopw [11] (fun i wr => ∃ k : Nat, k ≤ l.length ∧ i = .int .i64 k ∧ PSet wr w.heap.size k (inP wd (l.take k)) ∧ Below w.heap.size w wr) (fun i _ => l.length - (intOf i).toNat)
  case atStart => exact ⟨0, Nat.zero_le _, rfl, M0.out.congr (fun x y _ _ => rfl), below_all _ _⟩
  case round =>
    obtain ⟨k, hk, rfl, hm, hB⟩ := hrel
    have HM := Lib.hid hm
    have HB := Lib.hid hB
    by_cases hlt : k < l.length
    · obtain ⟨b, o, rfl, hb, hc⟩ := (HL.out.below hB (Nat.le_refl _)).at_ hlt
      have hz := HBD.out _ (List.getElem_mem hlt)
      have HTK := Lib.hid (List.take_succ_eq_append_getElem hlt)
      have hlm := hm.lt
      clear hm hB
      obtain ⟨z, hzz⟩ : ∃ z, l[k] = z := ⟨_, rfl⟩
      rw [hzz] at hc hz HTK
      have hi : (k : Int) < (l.length : Int) := by omega
      have hi0 : (0 : Int) ≤ (k : Int) := by omega
      clear hzz
      have m0 : okI (z % wd) := by have := Int.emod_nonneg z (b := wd) (by omega); have := Int.emod_lt_of_pos z (b := wd) (by omega); unfold okI; omega
      have m1 : okI (z / wd) := by have := Int.ediv_nonneg (a := z) (b := wd) (by omega) (by omega); have := Int.ediv_le_self (a := z) wd (by omega); unfold okI; omega
      have HP := Lib.hid (fun W => pointAt_any wd z W (by omega) (by omega) (by omega) (by omega))
      have Hm0 := Lib.hid m0
      have Hm1 := Lib.hid m1
      clear m0 m1
      go_wp2_with fail
      refine (HP.out _).mono ?_
      rintro e w1 ⟨rfl, b1⟩
      have M1 := Lib.hid (HM.out.below b1 hlm)
      have B1 := Lib.hid (HB.out.trans (b1.mono HB.out.size))
      clear b1
      generalize hxm : z % wd = xm at *
      generalize hym : z / wd = ym at *
      have HXM := Lib.hid hxm
      have HYM := Lib.hid hym
      clear hxm hym
      go_wp2_with (at_mapUpdate; refine wpList_put_set _ rfl _ _ _ 162 rfl Try.underlying162 w.heap.size k (inP wd (l.take k)) rfl M1.out (by unfold maxLen; omega) xm ym rfl Hm0.out Hm1.out true rfl ?_; intro w2 h2 g2 s2; have M2 := Lib.hid h2; have G2 := Lib.hid g2; clear h2 g2 s2)
      go_roundw
      case rel =>
        refine ⟨k + 1, by omega, by go_num, ?_, B1.out.grown G2.out B1.out.size (fun j e => by injection e with e; omega)⟩
        refine M2.out.congr fun p q _ _ => ?_
        rw [HTK.out, inP_snoc, HXM.out, HYM.out]
        by_cases e : p = xm ∧ q = ym
        · rw [if_pos e]; obtain ⟨rfl, rfl⟩ := e; simp
        · rw [if_neg e]
          have : (decide (xm = p) && decide (ym = q)) = false := by
            rw [Bool.and_eq_false_iff]
            by_cases e1 : p = xm
            · right; simp; exact fun h => e ⟨e1, h.symm⟩
            · left; simp; exact fun h => e1 h.symm
          rw [this]; simp
      case measure => simp [intOf]; omega
    · obtain rfl : k = l.length := by omega
      rw [List.take_length] at HM
      clear hm hB
      go_wp2
      go_ret
      exact ⟨_, rfl, Nat.le_refl _, HM.out.mono hlen, HB.out⟩
end Go.Proofs.Ythceffkkokgpnaa
namespace Go.Proofs.Ythceffkkokgpnaa
open Go.RowKit
set_option linter.unusedVariables false
set_option linter.unusedSimpArgs false
set_option maxRecDepth 100000 in
set_option maxHeartbeats 8000000 in
theorem implBT_any (aa : Option Addr) (la : List StT) (ca : Nat) (ab : Option Addr) (lb : List StT) (cb : Nat) (p : Int) (w : World) (h1 : Sts w w.heap.size aa la) (h2 : Sts w w.heap.size ab lb) (n1 : la.length ≤ 1048576) (n2 : lb.length ≤ 1048576) :
    Calls Try.prog 42 #[.slice aa la.length ca, .slice ab lb.length cb, .int .i64 p] w (KvRet (btR la lb p) (btV la lb p) (btB la lb p) w) := by
  have H1 := Lib.hid h1
  have H2 := Lib.hid h2
  obtain ⟨w0, hw0⟩ : ∃ q, ((w.alloc (.cells #[.slice aa la.length ca] 33)).alloc (.cells #[.slice ab lb.length cb] 33)).alloc (.cells #[.int .i64 p] 3) = q := ⟨_, rfl⟩
  have B0 := Lib.hid (show Below w.heap.size w w0 by rw [← hw0]; exact ((below_all _ _).alloc (by simp) _).alloc (by simp; omega) _)
  have a0 : OneB w0 w.heap.size 33 (.slice aa la.length ca) := by rw [← hw0]; exact ((OneB.new w _ _).below (below_all _ _)).below (below_all _ _)
  have b0 : OneB w0 (w.heap.size + 1) 33 (.slice ab lb.length cb) := by
    rw [← hw0]
    have h := OneB.new (w.alloc (.cells #[.slice aa la.length ca] 33)) 33 (.slice ab lb.length cb)
    rw [World.size_alloc] at h
    exact h.below (below_all _ _)
  have p0 : OneB w0 (w.heap.size + 1 + 1) 3 (.int .i64 p) := by
    rw [← hw0]
    have h := OneB.new ((w.alloc (.cells #[.slice aa la.length ca] 33)).alloc (.cells #[.slice ab lb.length cb] 33)) 3 (.int .i64 p)
    rw [World.size_alloc, World.size_alloc] at h
    exact h
  have s0 : w0.heap.size = w.heap.size + 1 + 1 + 1 := by rw [← hw0]; simp
  have S0 := Lib.hid (And.intro s0 trivial)
  have HW := Lib.hid hw0
  have HO0 := Lib.hid (And.intro a0 (And.intro b0 p0))
  have c0 := a0.cell
  have c1 := b0.cell
  have c2 := p0.cell
  clear h1 h2 hw0 a0 b0 p0 s0
  go_enter Try.func42, Try.ntmps42
  go_wp2_with fail
  rw [HW.out]
  clear c0 c1 c2
  have hx := (OneB.new w0 3 (.int .i64 (-1))).cell
  rw [S0.out.1] at hx
  have E1 := Lib.hid (below_all w0 (.cells #[.int .i64 (-1)] 3))
  refine (repeat_any la.length (w.heap.size + 1 + 1 + 1) _ hx n1).mono ?_
  rintro e w1 ⟨g, rfl, hgB, hr, b1⟩
  have E2 := Lib.hid (below_then E1.out b1)
  have z0 := S0.out.1
  have z1 := E1.out.size
  have z2 : (w0.alloc (.cells #[.int .i64 (-1)] 3)).heap.size = w0.heap.size + 1 := by simp
  have hg1 : w0.heap.size < g := by omega
  have hg2 : g < w1.heap.size := hr.lt
  have HR := Lib.hid hr
  have HG := Lib.hid (And.intro hg1 hg2)
  have a1 := HO0.out.1.below E2.out
  have b1' := HO0.out.2.1.below E2.out
  have p1 := HO0.out.2.2.below E2.out
  have cB := OneB.new w1 30 (.slice (some ⟨g, 0, none⟩) la.length la.length)
  have d1 := below_all w1 (.cells #[.slice (some ⟨g, 0, none⟩) la.length la.length] 30)
  have E3 := Lib.hid (below_then E2.out d1)
  have a2 := a1.below d1
  have b2 := b1'.below d1
  have p2 := p1.below d1
  have r2 := hr.of_block (d1.block g hg2)
  have HA2 := Lib.hid (And.intro a2 (And.intro b2 (And.intro p2 (And.intro cB r2))))
  have q0 := a2.cell
  have q1 := b2.cell
  have q2 := p2.cell
  have q3 := cB.cell
  have BW3 := Lib.hid (below_then B0.out E3.out)
  have HT := Lib.hid (implTC_any aa la ca ab lb cb (some ⟨g, 0, none⟩) (List.replicate la.length (-1)) la.length p (w1.alloc (.cells #[.slice (some ⟨g, 0, none⟩) la.length la.length] 30)) ((H1.out.below BW3.out (Nat.le_refl _)).more BW3.out.size) ((H2.out.below BW3.out (Nat.le_refl _)).more BW3.out.size) (show At _ (some ⟨g, 0, none⟩) g _ from .inr ⟨rfl, r2⟩).ints n1 n2 (by simp; omega) (by simp))
  rw [List.length_replicate] at HT
  rw [bt_none] at HT
  have HS := Lib.hid (bt_start la lb p)
  have HV := Lib.hid (fun (h : btB la lb p = true) => show tcV la lb (List.replicate la.length (-1)) p = tcC la lb (List.replicate la.length (-1)) p from tcV_yes ((bt_none la lb p).trans h))
  generalize tcV la lb (List.replicate la.length (-1)) p = cost at *
  clear hx b1 hgB hr z1 z2 a1 b1' p1 cB d1 a2 b2 p2 r2 z0 hg1 hg2
  go_wp2_with fail
  refine HT.out.mono ?_
  rintro e w3 ⟨rfl, b3⟩
  have E4 := Lib.hid (below_then E3.out b3)
  have d4 := below_then b3 (below_all w3 (.cells #[.int .i64 cost] 3))
  have a4 := HA2.out.1.below d4
  have b4 := HA2.out.2.1.below d4
  have p4 := HA2.out.2.2.1.below d4
  have B4 := HA2.out.2.2.2.1.below d4
  have r4 := HA2.out.2.2.2.2.of_block (d4.block g HA2.out.2.2.2.2.lt)
  have l4 := OneB.new w3 3 (.int .i64 cost)
  have hz3 : w1.heap.size < w3.heap.size := by have := b3.size; simp at this; omega
  have HZ3 := Lib.hid (And.intro hz3 trivial)
  have BW4 := Lib.hid (below_then BW3.out d4)
  have HA4 := Lib.hid (And.intro a4 (And.intro b4 (And.intro p4 (And.intro B4 (And.intro r4 l4)))))
  clear q0 q1 q2 q3 b3 d4 hz3 HT HA2
  have q0 := a4.cell
  have q1 := b4.cell
  clear a4 b4 p4 B4 r4 l4
  cases hbt : btB la lb p with
  | false =>
    have HRV := Lib.hid (And.intro (btR_no hbt) (And.intro (btV_no hbt) hbt))
    clear HV HS hbt
    go_wp2
    refine bodyPost_ret (v := .tuple #[.slice (some ⟨w3.heap.size + 1, 0, none⟩) 0 0, .int .i64 0, .bool false]) (by simp [results, Try.results42, go_sem]) rfl ?_
    rw [HRV.out.1, HRV.out.2.1, HRV.out.2.2]
    exact ⟨_, _, rfl, OwnI.none_, BW4.out.alloc BW4.out.size _⟩
  | true =>
    obtain ⟨ha, hb, hp⟩ := bt_parts hbt
    have HRV := Lib.hid (And.intro (btR_yes hbt) (And.intro (btV_yes hbt) hbt))
    have HC := Lib.hid (HV.out hbt)
    let M : Cn := ⟨w.heap.size, w.heap.size + 1, w.heap.size + 1 + 1, g, w1.heap.size, w3.heap.size, 0, 0, 0, 0, 0, 0, 0⟩
    have HEV := Lib.hid (every_any w ⟨aa, la, ca, ab, lb, cb, p⟩ M (List.replicate la.length (-1), cost) (w3.alloc (.cells #[.int .i64 cost] 3)) H1.out H2.out ha hb hp (by
        rcases Nat.eq_zero_or_pos la.length with h | h
        · right
          show cost ≤ tcC la lb [] p
          rw [HC.out, h]
          exact Int.le_refl _
        · exact .inl h)
      (Nat.le_refl _) (by show w.heap.size < w.heap.size + 1; omega) (by show w.heap.size + 1 < w.heap.size + 1 + 1; omega) (by show w.heap.size + 1 + 1 < g; have := HG.out.1; have := S0.out.1; omega) (by show g < w1.heap.size; exact HG.out.2) (by show w1.heap.size < w3.heap.size; exact HZ3.out.1) (by show w3.heap.size < _; simp)
      BW4.out HA4.out.1 HA4.out.2.1 HA4.out.2.2.1 HA4.out.2.2.2.2.1 (by simp) HA4.out.2.2.2.1 HA4.out.2.2.2.2.2)
    have hmf : ∀ (fn : Fn) (first cap : Array Value) (w : World), (Instr.makeFunc fn first cap).run Try.prog w = .ok (.func fn first cap) w := fun _ _ _ _ => rfl
    clear HV hbt ha hb hp
    go_wp2_with fail
    refine HEV.out.mono ?_
    rintro e w5 ⟨rfl, N, n1', n2', n3', K5⟩
    have HS2 := Lib.hid (show gR (fun t => tcC la lb t p) lb.length la.length [] (List.replicate la.length (-1), cost) = btF la lb p from by rw [HC.out]; exact HS.out)
    have k5 := K5
    rw [show gR (fun t => tcC la lb t p) lb.length la.length [] (List.replicate la.length (-1), cost) = btF la lb p from HS2.out] at k5
    have cB := k5.best.cell
    have cL := k5.l_.cell
    rw [n2'] at cB
    rw [n3'] at cL
    rw [n1'] at cB
    have R5 := Lib.hid (show Row w5 g 3 (iv (btF la lb p).1) from by have h := k5.row; rw [n1'] at h; exact h)
    have B5 := Lib.hid (show Below w.heap.size w w5 from k5.b)
    have HL := Lib.hid (btF_len la lb p)
    have cB : w5.cell? ⟨w1.heap.size, 0, none⟩ = some (.slice (some ⟨g, 0, none⟩) la.length la.length) := cB
    have cL : w5.cell? ⟨w3.heap.size, 0, none⟩ = some (.int .i64 (btF la lb p).2) := cL
    clear K5 k5 HEV q0 q1 hmf
    generalize btF la lb p = r at *
    go_wp2_with fail
    go_quiet (fail)
    go_wp2
    refine bodyPost_ret (v := .tuple #[.slice (some ⟨g, 0, none⟩) la.length la.length, .int .i64 r.2, .bool true]) (by simp [results, Try.results42, go_sem]) rfl ?_
    rw [HRV.out.1, HRV.out.2.1, HRV.out.2.2]
    refine ⟨some ⟨g, 0, none⟩, la.length, by rw [HL.out], ⟨g, ?_, .inr ⟨rfl, ?_⟩⟩, ?_⟩
    · have := HG.out.1; have := S0.out.1; omega
    · exact R5.out.of_block rfl
    · exact below_drewN B5.out _
end Go.Proofs.Ythceffkkokgpnaa
namespace Go.Proofs.Ythceffkkokgpnaa
open Go.RowKit
set_option linter.unusedVariables false
set_option linter.unusedSimpArgs false
theorem noList_any (a : Option Addr) (l : List StT) (c : Nat) (w : World) (hl : Sts w w.heap.size a l) (hn : l.length ≤ 1048576) :
    Calls Try.prog 145 #[.slice a l.length c] w fun e w' => e = .returned (.bool (!stsB l)) ∧ Below w.heap.size w w' := by
  have HC := Lib.hid (fun v h => isList_any a l c v w hl hn h)
  clear hl
  obtain ⟨v, hv⟩ : ∃ v, stsB l = v := ⟨_, rfl⟩
  have HC1 := Lib.hid (HC.out v hv)
  rw [hv]
  clear hv HC
  cases v
  all_goals
    go_enter Try.func145, Try.ntmps145
    go_wp2_with (go_at_call 130; refine (HC1.out).mono ?_; rintro e w1 ⟨rfl, b1⟩; have B1 := Lib.hid b1; clear b1)
    go_ret
    exact ⟨rfl, B1.out⟩
theorem ent_noList : ∀ (args : Array Value) (w : World), (callFunc 145 args).run Try.prog w = .ok (.enter 145 args) w := enters_of Try.func145 (by kernel_rfl) rfl
def badLs (L : List LE) (z : Int) : Prop := (z = -1 ∧ ∀ j (x : j < L.length), stsB L[j].l = true) ∨ (0 ≤ z ∧ ∃ (k : Nat) (h : k < L.length), stsB L[k].l = false)
set_option maxHeartbeats 4000000 in
theorem indexLs_any (a : Option Addr) (L : List LE) (c : Nat) (w : World) (hl : Lss w w.heap.size a L) (hf : lsFit L) :
    Calls Try.prog 170 #[.slice a L.length c, .func (.func 145) #[] #[]] w fun e w' => ∃ z, e = .returned (.int .i64 z) ∧ badLs L z ∧ z < 1048577 ∧ Below w.heap.size w w' := by
  have HL := Lib.hid hl
  have hn : L.length ≤ 1048576 := by unfold lsFit at hf; omega
  have HSM := Lib.hid (fun k (h : k < L.length) => show L[k].l.length ≤ 1048576 from by
    have h1 := lsN_at h
    have h2 := lsN_mono L (k + 1) L.length h
    unfold lsFit at hf
    omega)
  clear hl hf
  have eg := ent_noList
  go_enter Try.func170, Try.ntmps170
  go_wp2
  go_loopw [8] (fun i wr => ∃ k : Nat, k ≤ L.length ∧ i = .int .i64 k ∧ Below w.heap.size w wr ∧ ∀ j (x : j < L.length), j < k → stsB L[j].l = true) (fun i _ => L.length - (intOf i).toNat)
  case atStart => exact ⟨0, Nat.zero_le _, rfl, Below.refl _ _, fun _ _ h => by omega⟩
  case round =>
    obtain ⟨k, hk, rfl, hB, hall⟩ := hrel
    have HB := Lib.hid hB
    have HA := Lib.hid hall
    by_cases hlt : k < L.length
    · obtain ⟨b1, o1, rfl, hb1, c0, hs⟩ := (HL.out.below hB (Nat.le_refl _)).at_ hlt
      have hi : (k : Int) < (L.length : Int) := by omega
      have hi0 : (0 : Int) ≤ (k : Int) := by omega
      have HNX := Lib.hid (fun (hx : stsB L[k].l = true) j (x : j < L.length) (hj : j < k + 1) => show stsB L[j].l = true by
        rcases Nat.lt_or_ge j k with h1 | h1
        · exact HA.out j x h1
        · obtain rfl : j = k := by omega
          exact hx)
      have HBAD := Lib.hid (fun (hx : stsB L[k].l = false) => show badLs L (k : Int) from .inr ⟨by omega, k, hlt, hx⟩)
      have HC := Lib.hid (noList_any L[k].a L[k].l L[k].c wr (hs.more hB.size) (HSM.out k hlt))
      clear hB hall hs
      generalize L[k] = E at *
      cases hx : stsB E.l with
      | false =>
        rw [hx] at HC
        have HS := Lib.hid (HBAD.out hx)
        clear hx
        go_wp2_with (go_at_fn 145; refine (HC.out).mono ?_; rintro e w1 ⟨rfl, b1⟩; have B1 := Lib.hid b1; clear b1)
        go_ret
        exact ⟨_, rfl, HS.out, by omega, HB.out.trans (B1.out.mono HB.out.size)⟩
      | true =>
        rw [hx] at HC
        have HS := Lib.hid (HNX.out hx)
        clear hx
        go_wp2_with (go_at_fn 145; refine (HC.out).mono ?_; rintro e w1 ⟨rfl, b1⟩; have B1 := Lib.hid b1; clear b1)
        go_roundw
        case rel => exact ⟨k + 1, by omega, by go_num, HB.out.trans (B1.out.mono HB.out.size), HS.out⟩
        case measure => simp [intOf]; omega
    · obtain rfl : k = L.length := by omega
      have HE := Lib.hid (show badLs L (-1) from .inl ⟨rfl, fun j x => HA.out j x x⟩)
      clear hall hB
      go_wp2
      go_ret
      exact ⟨_, rfl, HE.out, by omega, HB.out⟩
theorem bad_ls {L : List LE} {z : Int} (h : badLs L z) : (L.map (·.l)).all stsB = decide (z < 0) := by
  rcases h with ⟨rfl, h⟩ | ⟨h0, k, hk, h⟩
  · rw [decide_eq_true (by omega), List.all_eq_true]
    intro p hp
    obtain ⟨E, hE, rfl⟩ := List.mem_map.1 hp
    obtain ⟨j, hj, rfl⟩ := List.getElem_of_mem hE
    exact h j hj
  · rw [decide_eq_false (by omega)]
    cases e : ((L.map (·.l)).all stsB) with
    | false => rfl
    | true =>
      rw [List.all_eq_true] at e
      rw [e _ (List.mem_map.2 ⟨_, List.getElem_mem hk, rfl⟩)] at h
      cases h
set_option maxHeartbeats 1000000 in
theorem containsLs_any (a : Option Addr) (L : List LE) (c : Nat) (w : World) (hl : Lss w w.heap.size a L) (hf : lsFit L) :
    Calls Try.prog 144 #[.slice a L.length c, .func (.func 145) #[] #[]] w fun e w' => e = .returned (.bool (!((L.map (·.l)).all stsB))) ∧ Below w.heap.size w w' := by
  have HC := Lib.hid (indexLs_any a L c w hl hf)
  clear hl hf
  go_enter Try.func144, Try.ntmps144
  go_wp2_with fail
  refine (HC.out).mono ?_
  rintro e w1 ⟨z, rfl, hz, hz9, b1⟩
  have HZ := Lib.hid (bad_ls hz)
  have HB := Lib.hid b1
  clear b1 hz
  by_cases h0 : z < 0
  · rw [decide_eq_true h0] at HZ
    have h1 : ¬ z ≥ 0 := by omega
    go_wp2
    go_ret
    exact ⟨(by rw [HZ.out]; show Ending.returned (Value.bool (decide (0 ≤ z))) = _; rw [decide_eq_false (by omega)]; rfl), HB.out⟩
  · rw [decide_eq_false h0] at HZ
    have h1 : z ≥ 0 := by omega
    go_wp2
    go_ret
    exact ⟨by rw [HZ.out]; rfl, HB.out⟩
/-- rows of numbers, each in memory of its own -/
def tqV (E : List (Option Addr × Nat × Nat)) (R : List (List Int)) : List Value := List.zipWith (fun e r => Value.slice e.1 r.length e.2.2) E R
structure Tq (w : World) (E : List (Option Addr × Nat × Nat)) (R : List (List Int)) : Prop where
  len : E.length = R.length
  row : ∀ j (h1 : j < E.length) (h2 : j < R.length), At w E[j].1 E[j].2.1 R[j]
theorem Tq.below {w w' : World} {E : List (Option Addr × Nat × Nat)} {R : List (List Int)} (h : Tq w E R) (k : Below w.heap.size w w') : Tq w' E R := ⟨h.len, fun j h1 h2 => (h.row j h1 h2).below k⟩
theorem Tq.grown {w w' : World} {E : List (Option Addr × Nat × Nat)} {R : List (List Int)} {base n size : Nat} {v : Value} {xs : List Value} (h : Tq w E R) (o : w.ownsRow base 30 size v n xs) (k : w.grownBy w' v.ownBlock) : Tq w' E R :=
  ⟨h.len, fun j h1 h2 => by
    rcases h.row j h1 h2 with h3 | ⟨h3, h4⟩
    · exact .inl h3
    · refine .inr ⟨h3, h4.of_block (k.block _ h4.lt (Ne.symm ?_))⟩
      obtain ⟨cur, hc, _⟩ := h4
      exact own_ne_blkT o hc (by decide)⟩
theorem Tq.snoc {w : World} {E : List (Option Addr × Nat × Nat)} {R : List (List Int)} (h : Tq w E R) {e : Option Addr × Nat × Nat} {r : List Int} (hr : At w e.1 e.2.1 r) : Tq w (E ++ [e]) (R ++ [r]) :=
  ⟨by simp [h.len], fun j h1 h2 => by
    have hl := h.len
    rw [List.length_append, List.length_singleton] at h1
    by_cases hj : j < E.length
    · rw [List.getElem_append_left hj, List.getElem_append_left (by omega)]
      exact h.row j hj (by omega)
    · obtain rfl : j = E.length := by omega
      rw [List.getElem_append_right (Nat.le_refl _), List.getElem_append_right (by omega)]
      simp only [hl, Nat.sub_self, List.getElem_cons_zero]
      exact hr⟩
theorem tqV_snoc {E : List (Option Addr × Nat × Nat)} {R : List (List Int)} (h : E.length = R.length) (e : Option Addr × Nat × Nat) (r : List Int) : tqV (E ++ [e]) (R ++ [r]) = tqV E R ++ [.slice e.1 r.length e.2.2] := by
  unfold tqV; rw [List.zipWith_append h]; rfl
theorem tqV_len {E : List (Option Addr × Nat × Nat)} {R : List (List Int)} (h : E.length = R.length) : (tqV E R).length = R.length := by unfold tqV; rw [List.length_zipWith]; omega
/-- the best trackings of the first k lists to their next ones -/
def trL (M : List (List StT)) (p : Int) (k : Nat) : List (List Int) := (List.range k).map (bT M p)
theorem trL_len (M : List (List StT)) (p : Int) (k : Nat) : (trL M p k).length = k := by unfold trL; simp
theorem trL_succ (M : List (List StT)) (p : Int) (k : Nat) : trL M p (k + 1) = trL M p k ++ [bT M p k] := by unfold trL; rw [List.range_succ, List.map_append]; rfl
theorem trL_at (M : List (List StT)) (p : Int) {k j : Nat} (h : j < (trL M p k).length) : (trL M p k)[j] = bT M p j := by simp only [trL, List.getElem_map, List.getElem_range]
end Go.Proofs.Ythceffkkokgpnaa
namespace Go.Proofs.Ythceffkkokgpnaa
open Go.RowKit
set_option linter.unusedVariables false
set_option linter.unusedSimpArgs false
theorem infoRowT : (Try.prog.info? 30).map (fun i => (i.zero, i.size, i.bytes)) = some (some (.slice none 0 0), 1, 24) := by kernel_rfl
set_option maxRecDepth 100000 in
set_option maxHeartbeats 8000000 in
theorem trackings_any (a : Option Addr) (L : List LE) (c : Nat) (p : Int) (w : World) (hl : Lss w w.heap.size a L) (hf : lsFit L) :
    Calls Try.prog 99 #[.slice a L.length c, .int .i64 p] w fun e w' => ∃ v E, e = .returned (.tuple #[v, .bool (tkB (lvs L) p)]) ∧ Below w.heap.size w w' ∧ (tkB (lvs L) p = true → w'.ownsRow w.heap.size 30 1 v (L.length - 1) (tqV E (trL (lvs L) p (L.length - 1))) ∧ Tq w' E (trL (lvs L) p (L.length - 1))) := by
  obtain ⟨iP, hP', hPz, hP1, hP2⟩ := info_parts infoRowT
  have HL := Lib.hid hl
  have HK := Lib.hid (tk_is L p)
  have HCN := Lib.hid (containsLs_any a L c w hl hf)
  have HP := Lib.hid (fun v (hv : pnB p = v) W => isPen_is p v W hv)
  have HSM := Lib.hid (fun k (h : k < L.length) => show L[k].l.length ≤ 1048576 from by
    have h1 := lsN_at h
    have h2 := lsN_mono L (k + 1) L.length h
    unfold lsFit at hf
    omega)
  clear hl
  by_cases h6 : L.length ≤ 6
  · have h6' : ¬ (L.length : Int) > 6 := by omega
    rw [decide_eq_true h6] at HK
    cases hp : pnB p with
    | false =>
      rw [hp] at HK
      have HE := Lib.hid (show tkB (lvs L) p = false by rw [HK.out]; simp)
      rw [HE.out]
      have HP1 := Lib.hid (HP.out false hp)
      clear HP hp hf
      go_enter Try.func99, Try.ntmps99
      go_wp2_with (go_at_call 79; (with_reducible refine (HP1.out _).mono ?_); rintro e w2 ⟨rfl, rfl⟩)
      go_ret2
      exact ⟨_, [], rfl, Below.refl _ _, fun h => by cases h⟩
    | true =>
      have HP1 := Lib.hid (HP.out true hp)
      rw [hp] at HK
      cases hall : ((L.map (·.l)).all stsB) with
      | false =>
        rw [hall] at HK HCN
        have HE := Lib.hid (show tkB (lvs L) p = false by rw [HK.out]; simp)
        rw [HE.out]
        clear HP hp hall hf
        go_enter Try.func99, Try.ntmps99
        go_wp2_with (first | (go_at_call 79; (with_reducible refine (HP1.out _).mono ?_); rintro e w2 ⟨rfl, rfl⟩) | (go_at_call 144; refine (HCN.out).mono ?_; rintro e w1 ⟨rfl, b1⟩; have B1 := Lib.hid b1; clear b1))
        go_ret2
        exact ⟨_, [], rfl, B1.out, fun h => by cases h⟩
      | true =>
        rw [hall] at HK HCN
        have HE := Lib.hid (show tkB (lvs L) p = true by rw [HK.out]; rfl)
        have HWELL := Lib.hid (fun k (h : k + 1 < L.length) => show btB L[k].l L[k + 1].l p = true from by
          have h9 := bt_well HE.out (k := k) (by rw [lvs_len]; exact h)
          rw [lvs_at (by omega), lvs_at h] at h9
          exact h9)
        have HBT := Lib.hid (fun k (h : k + 1 < L.length) => show btR L[k].l L[k + 1].l p = bT (lvs L) p k from by
          rw [btR_yes (HWELL.out k h)]
          unfold bT
          rw [lvs_at (by omega), lvs_at h])
        rw [HE.out]
        clear HP hp hall hf
        go_enter Try.func99, Try.ntmps99
        go_wp2_with (first | (go_at_call 79; (with_reducible refine (HP1.out _).mono ?_); rintro e w2 ⟨rfl, rfl⟩) | (go_at_call 144; refine (HCN.out).mono ?_; rintro e w1 ⟨rfl, b1⟩; have B1 := Lib.hid b1; clear b1))
        have O1 := Lib.hid (World.ownsRow_made (base := w.heap.size) (e := 30) (size := 1) w1 #[] 0 B1.out.size (by unfold maxLen; omega) rfl)
        have B2 := Lib.hid (B1.out.alloc B1.out.size (.cells #[] 30))
        go_loopw [6, 7] (fun v i wr => ∃ (k : Nat) (E : List (Option Addr × Nat × Nat)), (k + 1 ≤ L.length ∨ k = 0) ∧ i = .int .i64 ((k : Int) + 1) ∧ wr.ownsRow w.heap.size 30 1 v k (tqV E (trL (lvs L) p k)) ∧ Tq wr E (trL (lvs L) p k) ∧ Below w.heap.size w wr) (fun _ i _ => L.length + 1 - (intOf i).toNat)
        case atStart => exact ⟨0, [], .inr rfl, rfl, O1.out, ⟨rfl, fun j h => by simp at h⟩, B2.out⟩
        case round =>
          obtain ⟨k, E, hk, rfl, hown, hq, hB⟩ := hrel
          have HO := Lib.hid hown
          have HQ := Lib.hid hq
          have HB := Lib.hid hB
          clear hown hq
          by_cases hlt : k + 1 < L.length
          · obtain ⟨b, o, rfl, hb, c0, s0⟩ := (HL.out.below hB (Nat.le_refl _)).at_ (j := k) (by omega)
            obtain ⟨b2, o2, e2, hb2, c1, s1⟩ := (HL.out.below hB (Nat.le_refl _)).at_ hlt
            injection e2 with e2
            injection e2 with e3 e4 e5
            subst e3
            subst e4
            clear e5
            have hi : (k : Int) + 1 < (L.length : Int) := by omega
            have hi0 : (0 : Int) ≤ (k : Int) + 1 := by omega
            have hi1 : (k : Int) < (L.length : Int) := by omega
            have hi2 : (0 : Int) ≤ (k : Int) := by omega
            have g0 : IntKind.i64.wrap (k : Int) = (k : Int) := IntWalk.i64_in _ (by omega)
            have g1 : IntKind.i64.wrap ((k : Int) + 1 - 1) = (k : Int) := by rw [show (k : Int) + 1 - 1 = (k : Int) by omega]; exact IntWalk.i64_in _ (by omega)
            have g2 : IntKind.i64.wrap ((k : Int) + 1 + 1) = ((k + 1 : Nat) : Int) + 1 := by rw [show (k : Int) + 1 + 1 = ((k + 1 : Nat) : Int) + 1 by omega]; exact IntWalk.i64_in _ (by omega)
            have HC := Lib.hid (fun W (G : Below wr.heap.size wr W) => implBT_any L[k].a L[k].l L[k].c L[k + 1].a L[k + 1].l L[k + 1].c p W (((s0.more hB.size).below G (Nat.le_refl _)).more G.size) (((s1.more hB.size).below G (Nat.le_refl _)).more G.size) (HSM.out _ (by omega)) (HSM.out _ hlt))
            unfold KvRet at HC
            rw [HBT.out k hlt] at HC
            have HTS := Lib.hid (trL_succ (lvs L) p k)
            have HTN := Lib.hid (trL_len (lvs L) p k)
            have hsz := hB.size
            have hk6 : k ≤ 6 := by omega
            generalize L[k] = X at *
            generalize L[k + 1] = Y at *
            generalize bT (lvs L) p k = r at *
            clear s0 s1 hB
            have Wq := Lib.hid (Below.refl wr.heap.size wr).drew
            have hbb : b < wr.heap.size := by omega
            have HCELL := Lib.hid (fun W (G : Below wr.heap.size wr W) => And.intro ((G.cell (p := ⟨b, o + k, none⟩) hbb).trans c0) ((G.cell (p := ⟨b, o + (k + 1), none⟩) hbb).trans c1))
            obtain ⟨c0', c1'⟩ := HCELL.out _ Wq.out
            go_wp2_with fail
            go_region_held3 (fun w' => w'.cell? ⟨b, o + k, none⟩ = some (.slice X.a X.l.length X.c) ∧ w'.cell? ⟨b, o + (k + 1), none⟩ = some (.slice Y.a Y.l.length Y.c))
              (first | exact HCELL.out _ W5.out | exact HCELL.out _ Wq.out | go_keep)
              (first | (go_at_call 42; refine (HC.out _ Wq.out).mono ?_; rintro e w5 ⟨a5, c5, rfl, o5, b5⟩; have W5 := Lib.hid (below_then Wq.out b5); have O5 := Lib.hid o5; clear o5 b5))
            all_goals
              rename_i hHeld
              clear hHeld c0' c1' c0 c1
              have OW5 := Lib.hid (own_keeps HO.out W5.out)
              have Q5 := Lib.hid (HQ.out.below W5.out)
              have B5 := Lib.hid (HB.out.trans (W5.out.mono HB.out.size))
              obtain ⟨gr, hgr1, hgr2⟩ := O5.out
              have HGR := Lib.hid hgr2
              clear hgr1 hgr2 O5
              go_wp2_with (at_builtin; refine wpList_append_own _ rfl _ _ 112 rfl w.heap.size 30 iP (.slice none 0 0) 1 24 Try.underlying112 hP' hPz hP1 hP2 rfl (by decide) u6 k (tqV E (trL (lvs L) p k)) rfl (OW5.out.alloc _) ⟨w5.heap.size, 0, none⟩ 1 1 [.slice a5 r.length c5] rfl rfl (World.news_of_block (heap_alloc_new _ _)) (by simp [Value.oneCell']) (by unfold maxLen; omega) (by omega) (by have := B5.out.size; simp; omega) ?_; intro v' w9 hown9 hgrow9 _; have HO9 := Lib.hid hown9; have HG9 := Lib.hid hgrow9; clear hown9 hgrow9)
              have Q9 := Lib.hid (((Q5.out.below (below_all w5 (.cells #[.slice a5 r.length c5] 30))).snoc (e := (a5, gr, c5)) (HGR.out.below (below_all w5 _))).grown (OW5.out.alloc _) HG9.out)
              have B9 := Lib.hid ((B5.out.alloc B5.out.size (.cells #[.slice a5 r.length c5] 30)).grown HG9.out (B5.out.alloc B5.out.size _).size (fun j hj => (OW5.out.lt j hj).1))
              go_roundw
              case rel => exact ⟨k + 1, E ++ [(a5, gr, c5)], .inl (by omega), by first | rfl | go_num, by rw [HTS.out, tqV_snoc HQ.out.len]; exact HO9.out, by rw [HTS.out]; exact Q9.out, B9.out⟩
              case measure => simp [intOf]; omega
          · have hlt2 : ¬ (k : Int) + 1 < (L.length : Int) := by omega
            have HKL := Lib.hid (show k = L.length - 1 by omega)
            clear hB
            go_wp2
            go_ret2
            have HOQ := Lib.hid (show wr.ownsRow w.heap.size 30 1 u6 (L.length - 1) (tqV E (trL (lvs L) p (L.length - 1))) ∧ Tq wr E (trL (lvs L) p (L.length - 1)) from by rw [← HKL.out]; exact ⟨HO.out, HQ.out⟩)
            first | exact ⟨_, rfl, HB.out, E, HOQ.out⟩ | exact ⟨_, E, rfl, HB.out, fun _ => HOQ.out⟩
  · have HE := Lib.hid (show tkB (lvs L) p = false by rw [HK.out, decide_eq_false h6]; rfl)
    have h6' : (L.length : Int) > 6 := by omega
    rw [HE.out]
    clear hf
    go_enter Try.func99, Try.ntmps99
    go_wp2
    go_ret2
    exact ⟨_, [], rfl, Below.refl _ _, fun h => by cases h⟩
end Go.Proofs.Ythceffkkokgpnaa
namespace Go.Proofs.Ythceffkkokgpnaa
open Go.RowKit
set_option linter.unusedVariables false
set_option linter.unusedSimpArgs false
theorem lnN_stop {M : List (List StT)} {p : Int} {k x m : Nat} (hx : x < (bT M p k).length) (h : (bT M p k)[x] < 0) : lnN M p k (x : Int) (m + 1) = 1 := by
  unfold lnN
  rw [show ((x : Int)).toNat = x from rfl, getD_int _ hx, if_pos h]
theorem lnN_go {M : List (List StT)} {p : Int} {k x m : Nat} (hx : x < (bT M p k).length) (h : ¬ (bT M p k)[x] < 0) : lnN M p k (x : Int) (m + 1) = 1 + lnN M p (k + 1) (bT M p k)[x] m := by
  show (if _ then _ else _) = _
  rw [show ((x : Int)).toNat = x from rfl, getD_int _ hx, if_neg h]
set_option maxRecDepth 100000 in
set_option maxHeartbeats 8000000 in
theorem lengthFrom_any (M : List (List StT)) (p : Int) (k n : Nat) (a : Option Addr) (c : Nat) (s : Int) (w : World) (hk : tkB M p = true) (hn : k + n + 1 = M.length) (hs : 0 ≤ s ∧ s < ((M.getD k []).length : Int))
    (hr : ∀ j, j < n → ∃ b o av cv, a = some ⟨b, o, none⟩ ∧ w.cell? ⟨b, o + j, none⟩ = some (.slice av (bT M p (k + j)).length cv) ∧ Ints .i64 w w.heap.size av (bT M p (k + j))) :
    Calls Try.prog 100 #[.slice a n c, .int .i64 s] w fun e w' => e = .returned (.int .i64 (lnN M p k s n)) ∧ w = w' := by
  have HK := Lib.hid hk
  have HR := Lib.hid hr
  have HN := Lib.hid (And.intro hn trivial)
  have hn6 : n ≤ 6 := by have := tk_len hk; omega
  obtain ⟨res, hres⟩ : ∃ z, lnN M p k s n = z := ⟨_, rfl⟩
  have HRES := Lib.hid hres
  have HS := Lib.hid hs
  rw [hres]
  clear hk hr hn hres hs
  go_enter Try.func100, Try.ntmps100
  go_wp2
  go_loop [1, 5, 10] (fun st ln i => ∃ (j : Nat) (z : Int), j ≤ n ∧ i = .int .i64 j ∧ st = .int .i64 z ∧ ln = .int .i64 (1 + (j : Int)) ∧ (0 ≤ z ∧ z < ((M.getD (k + j) []).length : Int)) ∧ res = (j : Int) + lnN M p (k + j) z (n - j)) (fun _ _ i => n - (intOf i).toNat)
  case atStart => exact ⟨0, s, Nat.zero_le _, rfl, rfl, rfl, HS.out, by rw [← HRES.out]; simp⟩
  case round =>
    obtain ⟨j, z, hj, rfl, rfl, rfl, hz, he⟩ := hrel
    have HZ := Lib.hid hz
    have HE := Lib.hid he
    by_cases hlt : j < n
    · obtain ⟨b, o, av, cv, rfl, hc, hi9⟩ := HR.out j hlt
      have hi : (j : Int) < (n : Int) := by omega
      have hi0 : (0 : Int) ≤ (j : Int) := by omega
      obtain ⟨hlen, hok⟩ := bT_ok HK.out (k := k + j) (by have := HN.out.1; omega)
      obtain ⟨x, rfl⟩ : ∃ x : Nat, z = (x : Int) := ⟨z.toNat, by omega⟩
      have hx : x < (bT M p (k + j)).length := by have := hz.2; omega
      have hix : (x : Int) < ((bT M p (k + j)).length : Int) := by omega
      have hix0 : (0 : Int) ≤ (x : Int) := by omega
      obtain ⟨b2, o2, rfl, hb2, hc2⟩ := hi9.at_ hx
      obtain ⟨y1, y2⟩ := hok x hx
      have HST := Lib.hid (fun (h : (bT M p (k + j))[x] < 0) => lnN_stop (m := n - j - 1) hx h)
      have HGO := Lib.hid (fun (h : ¬ (bT M p (k + j))[x] < 0) => lnN_go (m := n - j - 1) hx h)
      have hm : n - j = (n - j - 1) + 1 := by omega
      rw [hm] at HE
      have gw := IntWalk.i64_in (1 + (j : Int) + 1) (by omega)
      clear hz he hlen hok hi9 hm
      generalize (bT M p (k + j))[x] = y at *
      generalize (bT M p (k + j)).length = bl at *
      by_cases hy : y = -1
      · subst hy
        have HF := Lib.hid (show res = 1 + (j : Int) by rw [HE.out, HST.out (by omega)]; omega)
        clear HST HGO
        go_wp2
        go_ret
        exact ⟨(by first | (rw [HF.out]; done) | (rw [HF.out]; rfl)), rfl⟩
      · have hne : (y == -1) = false := by rw [beq_eq_false_iff_ne]; exact hy
        have HF := Lib.hid (show res = ((j + 1 : Nat) : Int) + lnN M p (k + (j + 1)) y (n - (j + 1)) by rw [HE.out, HGO.out (by omega), show k + (j + 1) = k + j + 1 by omega, show n - (j + 1) = n - j - 1 by omega]; omega)
        clear HST HGO
        go_wp2
        go_round
        case rel => exact ⟨j + 1, y, by omega, by go_num, rfl, by rw [Value.int.injEq]; exact ⟨rfl, by omega⟩, ⟨by omega, by rw [show k + (j + 1) = k + j + 1 by omega]; exact y2⟩, HF.out⟩
        case measure => simp [intOf]; omega
    · obtain rfl : j = n := by omega
      have HF := Lib.hid (show res = 1 + (j : Int) by rw [HE.out, Nat.sub_self]; show _ + 1 = _; omega)
      clear hz he
      go_wp2
      go_ret
      exact ⟨(by first | (rw [HF.out]; done) | (rw [HF.out]; rfl)), rfl⟩
theorem trk_parts {M : List (List StT)} {p i s : Int} : trkB M p i s = true ↔ tkB M p = true ∧ (0 ≤ i ∧ i < (M.length : Int)) ∧ 0 ≤ s ∧ s < ((M.getD i.toNat []).length : Int) := by unfold trkB; simp [and_assoc]
theorem trk_no {M : List (List StT)} {p i s : Int} (h : ¬ (tkB M p = true ∧ (0 ≤ i ∧ i < (M.length : Int)) ∧ 0 ≤ s ∧ s < ((M.getD i.toNat []).length : Int))) : trkB M p i s = false := by
  cases e : trkB M p i s with
  | false => rfl
  | true => exact absurd (trk_parts.1 e) h
theorem tq_rows {w : World} {base g n cap : Nat} {E : List (Option Addr × Nat × Nat)} {R : List (List Int)} (o : w.ownsRow base 30 1 (.slice (some ⟨g, 0, none⟩) n cap) n (tqV E R)) (q : Tq w E R) (hR : R.length = n) (m : Nat) (hm : m < n) :
    ∃ av cv, w.cell? ⟨g, m, none⟩ = some (.slice av (R[m]'(by omega)).length cv) ∧ Ints .i64 w w.heap.size av (R[m]'(by omega)) := by
  have hl := q.len
  have h1 := o.cellAt m (by omega)
  refine ⟨(E[m]'(by omega)).1, (E[m]'(by omega)).2.2, ?_, (q.row m (by omega) (by omega)).ints⟩
  rw [h1]
  unfold tqV
  rw [List.getElem?_eq_getElem (by rw [List.length_zipWith]; omega), List.getElem_zipWith]
set_option maxRecDepth 100000 in
set_option maxHeartbeats 8000000 in
theorem implTL_any (a : Option Addr) (L : List LE) (c : Nat) (p i s : Int) (w : World) (hl : Lss w w.heap.size a L) (hf : lsFit L) :
    Calls Try.prog 49 #[.slice a L.length c, .int .i64 p, .int .i64 i, .int .i64 s] w fun e w' => e = .returned (.tuple #[.int .i64 (trkV (lvs L) p i s), .bool (trkB (lvs L) p i s)]) ∧ Below w.heap.size w w' := by
  have HL := Lib.hid hl
  have HT := Lib.hid (trackings_any a L c p w hl hf)
  have HLN := Lib.hid (lvs_len L)
  clear hl hf
  by_cases hk : tkB (lvs L) p = true
  · have HK := Lib.hid hk
    rw [hk] at HT
    clear hk
    by_cases hi1 : 0 ≤ i
    · by_cases hi2 : i < (L.length : Int)
      · obtain ⟨k, rfl⟩ : ∃ k : Nat, i = (k : Int) := ⟨i.toNat, by omega⟩
        have hkl : k < L.length := by omega
        have HD := Lib.hid (show (lvs L).getD ((k : Int)).toNat [] = L[k].l from lvs_at hkl)
        by_cases hs1 : 0 ≤ s
        · by_cases hs2 : s < (L[k].l.length : Int)
          · have HB := Lib.hid (show trkB (lvs L) p (k : Int) s = true from trk_parts.2 ⟨HK.out, ⟨hi1, by rw [HLN.out]; exact hi2⟩, hs1, by rw [HD.out]; exact hs2⟩)
            have HV := Lib.hid (show trkV (lvs L) p (k : Int) s = lnN (lvs L) p k s (L.length - 1 - k) from by rw [trkV_yes HB.out, HLN.out]; rfl)
            rw [HB.out, HV.out]
            have HLF := Lib.hid (fun a2 c2 W h => lengthFrom_any (lvs L) p k (L.length - 1 - k) a2 c2 s W HK.out (by rw [HLN.out]; omega) ⟨hs1, by rw [show (lvs L).getD k [] = L[k].l from HD.out]; exact hs2⟩ h)
            have HTA := Lib.hid (fun j (h : j < (trL (lvs L) p (L.length - 1)).length) => trL_at (lvs L) p h)
            have HTL := Lib.hid (trL_len (lvs L) p (L.length - 1))
            generalize lnN (lvs L) p k s (L.length - 1 - k) = res at *
            generalize trL (lvs L) p (L.length - 1) = R at *
            go_enter Try.func49, Try.ntmps49
            go_wp2_with fail
            refine HT.out.mono ?_
            rintro e w1 ⟨v, E, rfl, b1, ht⟩
            obtain ⟨o1, q1⟩ := ht trivial
            have B1 := Lib.hid b1
            have Q1 := Lib.hid q1
            have O1 := Lib.hid o1
            obtain ⟨b, o, rfl, hb, hc, _⟩ := (HL.out.below b1 (Nat.le_refl _)).at_ hkl
            clear b1 q1 ht HT
            generalize L[k] = X at *
            rcases o1.2 with ⟨rfl, hz⟩ | ⟨g, cap, cur, rfl, hg1, hg2, hg3, hg4, hg5, hg6⟩
            · have hk0 : k = 0 := by omega
              subst hk0
              clear o1
              simp only [Nat.add_zero] at hc
              have hLne : ¬ L = [] := by rintro rfl; simp at hkl
              have hn0 : L.length - 1 = 0 := hz
              have HLF2 := Lib.hid (HLF.out none 0 w1 (fun j hj => by omega))
              rw [show L.length - 1 - 0 = 0 by omega] at HLF2
              clear HLF
              go_wp2_with (go_at_call 100; (with_reducible refine HLF2.out.mono ?_); rintro e w2 ⟨rfl, rfl⟩)
              go_ret2
              exact ⟨rfl, B1.out⟩
            · have hle : (k : Int) ≤ ((L.length - 1 : Nat) : Int) := by omega
              have hcap : (k : Int) ≤ (cap : Int) := by omega
              have HROW := Lib.hid (fun m (hm : m < L.length - 1) => tq_rows O1.out Q1.out HTL.out m hm)
              clear o1
              by_cases hck : cap = k
              · subst hck
                have hn0 : L.length - 1 - cap = 0 := by omega
                have HLF2 := Lib.hid (HLF.out (some ⟨g, 0, none⟩) 0 w1 (fun j hj => by omega))
                rw [hn0] at HLF2
                clear HLF
                go_wp2_with (go_at_call 100; (with_reducible refine HLF2.out.mono ?_); rintro e w2 ⟨rfl, rfl⟩)
                go_ret2
                exact ⟨rfl, B1.out⟩
              · have HLF2 := Lib.hid (HLF.out (some ⟨g, k, none⟩) (cap - k) w1 (fun j hj => by
                  obtain ⟨av, cv, h1, h2⟩ := HROW.out (k + j) (by omega)
                  rw [HTA.out (k + j) (by rw [HTL.out]; omega)] at h1 h2
                  exact ⟨g, k, av, cv, rfl, h1, h2⟩))
                clear HLF
                go_wp2_with (go_at_call 100; (with_reducible refine HLF2.out.mono ?_); rintro e w2 ⟨rfl, rfl⟩)
                go_ret2
                exact ⟨rfl, B1.out⟩
          · have HB := Lib.hid (show trkB (lvs L) p (k : Int) s = false from trk_no (by rintro ⟨_, _, _, h⟩; rw [HD.out] at h; exact hs2 h))
            rw [trkV_no HB.out, HB.out]
            go_enter Try.func49, Try.ntmps49
            go_wp2_with fail
            refine HT.out.mono ?_
            rintro e w1 ⟨v, E, rfl, b1, ht⟩
            have B1 := Lib.hid b1
            obtain ⟨b, o, rfl, hb, hc, _⟩ := (HL.out.below b1 (Nat.le_refl _)).at_ hkl
            clear b1 ht HT
            generalize L[k] = X at *
            by_cases hk0 : k = 0
            · subst hk0
              simp only [Nat.add_zero] at hc
              have hLne : ¬ L = [] := by rintro rfl; simp at hkl
              go_wp2_with fail
              go_ret2
              exact ⟨rfl, B1.out⟩
            · go_wp2_with fail
              go_ret2
              exact ⟨rfl, B1.out⟩
        · have HB := Lib.hid (show trkB (lvs L) p (k : Int) s = false from trk_no (by rintro ⟨_, _, h, _⟩; exact hs1 h))
          rw [trkV_no HB.out, HB.out]
          have hs1' : s < 0 := by omega
          go_enter Try.func49, Try.ntmps49
          go_wp2_with fail
          refine HT.out.mono ?_
          rintro e w1 ⟨v, E, rfl, b1, ht⟩
          have B1 := Lib.hid b1
          clear b1 ht HT
          go_wp2_with fail
          go_ret2
          exact ⟨rfl, B1.out⟩
      · have HB := Lib.hid (show trkB (lvs L) p i s = false from trk_no (by rintro ⟨_, ⟨_, h⟩, _⟩; rw [HLN.out] at h; exact hi2 h))
        rw [trkV_no HB.out, HB.out]
        have hi2' : i ≥ (L.length : Int) := by omega
        go_enter Try.func49, Try.ntmps49
        go_wp2_with fail
        refine HT.out.mono ?_
        rintro e w1 ⟨v, E, rfl, b1, ht⟩
        have B1 := Lib.hid b1
        clear b1 ht HT
        go_wp2_with fail
        go_ret2
        exact ⟨rfl, B1.out⟩
    · have HB := Lib.hid (show trkB (lvs L) p i s = false from trk_no (by rintro ⟨_, ⟨h, _⟩, _⟩; exact hi1 h))
      rw [trkV_no HB.out, HB.out]
      have hi1' : i < 0 := by omega
      go_enter Try.func49, Try.ntmps49
      go_wp2_with fail
      refine HT.out.mono ?_
      rintro e w1 ⟨v, E, rfl, b1, ht⟩
      have B1 := Lib.hid b1
      clear b1 ht HT
      go_wp2_with fail
      go_ret2
      exact ⟨rfl, B1.out⟩
  · have hk' : tkB (lvs L) p = false := by cases e : tkB (lvs L) p with | false => rfl | true => exact absurd e hk
    have HB := Lib.hid (show trkB (lvs L) p i s = false from trk_no (by rintro ⟨h, _⟩; exact hk h))
    rw [trkV_no HB.out, HB.out]
    rw [hk'] at HT
    clear hk hk'
    go_enter Try.func49, Try.ntmps49
    go_wp2_with fail
    refine HT.out.mono ?_
    rintro e w1 ⟨v, E, rfl, b1, ht⟩
    have B1 := Lib.hid b1
    clear b1 ht HT
    go_wp2_with fail
    go_ret2
    exact ⟨rfl, B1.out⟩
end Go.Proofs.Ythceffkkokgpnaa
namespace Go.Proofs.Ythceffkkokgpnaa
open Go.RowKit
set_option linter.unusedVariables false
set_option linter.unusedSimpArgs false
/-- the first lists, copied into the blocks E, then nothing -/
def lsV (E : List Nat) (L : List LE) (n : Nat) : List Value := (List.zipWith (fun (e : Nat) (x : LE) => Value.slice (some ⟨e, 0, none⟩) x.l.length x.l.length) E L) ++ List.replicate (n - E.length) (.slice none 0 0)
theorem lsV_len {E : List Nat} {L : List LE} (h : E.length ≤ L.length) : (lsV E L L.length).length = L.length := by unfold lsV; simp; omega
theorem lsV_step {E : List Nat} {L : List LE} (g : Nat) (h : E.length < L.length) : (lsV E L L.length).set E.length (.slice (some ⟨g, 0, none⟩) (L[E.length]).l.length (L[E.length]).l.length) = lsV (E ++ [g]) L L.length := by
  unfold lsV
  have hz : (List.zipWith (fun (e : Nat) (x : LE) => Value.slice (some ⟨e, 0, none⟩) x.l.length x.l.length) E L).length = E.length := by simp; omega
  rw [List.set_append_right _ _ (by omega), hz, Nat.sub_self, show L.length - E.length = (L.length - (E ++ [g]).length) + 1 by simp; omega, List.replicate_succ, List.set_cons_zero]
  have hs : List.zipWith (fun (e : Nat) (x : LE) => Value.slice (some ⟨e, 0, none⟩) x.l.length x.l.length) (E ++ [g]) L = List.zipWith (fun (e : Nat) (x : LE) => Value.slice (some ⟨e, 0, none⟩) x.l.length x.l.length) E L ++ [.slice (some ⟨g, 0, none⟩) (L[E.length]).l.length (L[E.length]).l.length] := by
    have e1 : L = L.take E.length ++ L.drop E.length := (List.take_append_drop _ _).symm
    have e2 : L.drop E.length = L[E.length] :: L.drop (E.length + 1) := List.drop_eq_getElem_cons h
    conv => lhs; rw [e1, e2]
    conv => rhs; lhs; rw [e1]
    rw [List.zipWith_append (by simp; omega)]
    conv => rhs; lhs; rw [← List.append_nil E, List.zipWith_append (by simp; omega)]
    simp
    rw [e2]
    rfl
  rw [hs, List.append_assoc]
  rfl
theorem infoSts : (Try.prog.info? 33).map (fun i => (i.zero, i.size, i.bytes)) = some (some (.slice none 0 0), 1, 24) := by kernel_rfl
theorem run_make_ls (n : Nat) (h : n ≤ 1048576) (W : World) :
    (Instr.makeSlice 66 (.int .i64 (n : Int)) (.int .i64 (n : Int))).run Try.prog W = .ok (.slice (some ⟨W.heap.size, 0, none⟩) n n) (W.alloc (.cells (madeCells #[.slice none 0 0] (n * 1)) 33)) := by
  obtain ⟨i, hi, hzz⟩ := Option.map_eq_some_iff.1 infoSts
  simp only [Prod.mk.injEq] at hzz
  obtain ⟨hz, hs, hb⟩ := hzz
  have hr := run_make (P := Try.prog) W 66 33 i (.slice none 0 0) Try.underlying66 hi hz .i64 .i64 n n (by omega) (Int.le_refl _) (by rw [hb]; omega) (by omega)
  simp only [Int.toNat_natCast, hs] at hr
  exact hr
theorem made_oneL (v : Value) (n : Nat) : madeCells #[v] n = (List.replicate n v).toArray := by
  apply Array.ext
  · simp [madeCells]
  · intro i h1 h2
    simp [madeCells, Nat.mod_one]
theorem row_made_ls (n : Nat) (W : World) : Row (W.alloc (.cells (madeCells #[.slice none 0 0] n) 33)) W.heap.size 33 (List.replicate n (.slice none 0 0)) :=
  ⟨_, heap_alloc_new W _, fun k hk => by rw [made_oneL]; simp at hk; simp [hk]⟩
/-- the copies that a law makes: the lists, in memory that no one else holds -/
def LsPost (a : Option Addr) (L : List LE) (w : World) (e : Ending) (w' : World) : Prop :=
  ∃ L' : List LE, e = .returned (.slice (some ⟨w.heap.size, 0, none⟩) L'.length L'.length) ∧ L'.map (·.l) = L.map (·.l) ∧ Lss w' w'.heap.size (some ⟨w.heap.size, 0, none⟩) L' ∧ Below w.heap.size w w'
set_option maxRecDepth 100000 in
set_option maxHeartbeats 4000000 in
theorem toLs_any (a : Option Addr) (L : List LE) (c : Nat) (w : World) (hl : Lss w w.heap.size a L) (hf : lsFit L) :
    Calls Try.prog 45 #[.slice a L.length c] w (LsPost a L w) := by
  have HL := Lib.hid hl
  have hn : L.length ≤ 1048576 := by unfold lsFit at hf; omega
  have HSM := Lib.hid (fun k (h : k < L.length) => show L[k].l.length ≤ 1048576 from by
    have h1 := lsN_at h
    have h2 := lsN_mono L (k + 1) L.length h
    unfold lsFit at hf
    omega)
  clear hl hf
  have hmk := fun W => run_make_ls L.length hn W
  have HR0 := Lib.hid (row_made_ls L.length w)
  obtain ⟨g, hg⟩ : ∃ q, w.heap.size = q := ⟨_, rfl⟩
  have HG := Lib.hid (And.intro hg trivial)
  have B0 := Lib.hid (below_all w (.cells (madeCells #[.slice none 0 0] L.length) 33))
  rw [hg] at HR0
  go_enter Try.func45, Try.ntmps45
  go_wp2
  clear hmk
  go_loopw [4] (fun i wr => ∃ E : List Nat, E.length ≤ L.length ∧ i = .int .i64 E.length ∧ Row wr g 33 (lsV E L L.length) ∧ (∀ j (h : j < E.length) (h2 : j < L.length), g < E[j] ∧ Row wr E[j] 26 (stv L[j].l)) ∧ Below w.heap.size w wr) (fun i _ => L.length - (intOf i).toNat)
  case atStart => exact ⟨[], Nat.zero_le _, rfl, HR0.out, fun j h => by simp at h, B0.out⟩
  case round =>
    obtain ⟨E, hk, rfl, hrow, hin, hB⟩ := hrel
    have HR := Lib.hid hrow
    have HIN := Lib.hid hin
    have HB := Lib.hid hB
    by_cases hlt : E.length < L.length
    · obtain ⟨b, o, rfl, hb, hc, hs⟩ := (HL.out.below hB (Nat.le_refl _)).at_ hlt
      have hi : (E.length : Int) < (L.length : Int) := by omega
      have hi0 : (0 : Int) ≤ (E.length : Int) := by omega
      have hvl := lsV_len hk
      obtain ⟨u0, hu0⟩ : ∃ u, wr.cell? ⟨g, E.length, none⟩ = some u := ⟨_, hrow.cell (k := E.length) (by omega)⟩
      have f0 := hrow.frozen E.length
      have hgl := hrow.lt
      have HST := Lib.hid (fun g' => lsV_step (E := E) (L := L) g' hlt)
      have HC := Lib.hid (toSts_any L[E.length].a L[E.length].l L[E.length].c wr (hs.more hB.size) (HSM.out _ hlt))
      have HSL := Lib.hid (show ∀ x, L[E.length] = x → L[E.length].l = x.l from fun x h => by rw [h])
      obtain ⟨X, hX⟩ : ∃ X, L[E.length] = X := ⟨_, rfl⟩
      have HXX := Lib.hid (And.intro hX trivial)
      rw [hX] at hc HC HST
      clear hrow hin hB hs hvl hX
      go_wp2_with fail
      refine HC.out.mono ?_
      rintro e w5 ⟨rfl, r5, b5, z5⟩
      have hu0' : w5.cell? ⟨g, E.length, none⟩ = some u0 := (b5.cell (p := ⟨g, E.length, none⟩) hgl).trans hu0
      have f0' : w5.frozen? ⟨g, E.length, none⟩ = false := (b5.frozen (p := ⟨g, E.length, none⟩) hgl).trans f0
      have HR5 := Lib.hid (HR.out.of_block (b5.block g hgl))
      have HB5 := Lib.hid (HB.out.trans (b5.mono HB.out.size))
      have R5 := Lib.hid r5
      have HI5 := Lib.hid (fun j (h : j < E.length) (h2 : j < L.length) => And.intro (HIN.out j h h2).1 ((HIN.out j h h2).2.of_block (b5.block _ (HIN.out j h h2).2.lt)))
      have hgw : g < wr.heap.size := hgl
      have HGW := Lib.hid (And.intro hgw trivial)
      clear hu0 f0 r5 b5 hc hgl hgw
      go_wp2
      go_roundw
      case rel =>
        refine ⟨E ++ [wr.heap.size], by rw [List.length_append, List.length_singleton]; omega, by rw [List.length_append, List.length_singleton]; go_num, ?_, ?_, HB5.out.setCell (p := ⟨g, E.length, none⟩) (by show _ ≤ g; have := HG.out.1; omega) _⟩
        · have h := HR5.out.set E.length (.slice (some ⟨wr.heap.size, 0, none⟩) X.l.length X.l.length)
          rw [HST.out] at h
          exact h
        · intro j h h2
          rw [List.length_append, List.length_singleton] at h
          by_cases hjl : j < E.length
          · rw [List.getElem_append_left hjl]
            obtain ⟨q1, q2⟩ := HI5.out j hjl h2
            exact ⟨q1, q2.of_block (Below.heap_setCell _ _ _ _ (by show E[j] ≠ g; omega))⟩
          · obtain rfl : j = E.length := by omega
            rw [List.getElem_append_right (Nat.le_refl _)]
            simp only [Nat.sub_self, List.getElem_cons_zero]
            have h9 : stv L[E.length].l = stv X.l := by rw [HXX.out.1]
            rw [h9]
            exact ⟨HGW.out.1, R5.out.of_block (Below.heap_setCell _ _ _ _ (by show wr.heap.size ≠ g; have := HGW.out.1; omega))⟩
      case measure => simp [intOf]; omega
    · have hEL : E.length = L.length := by omega
      have HP := Lib.hid (show ∃ L' : List LE, L'.length = L.length ∧ L'.map (·.l) = L.map (·.l) ∧ Lss wr wr.heap.size (some ⟨g, 0, none⟩) L' from by
        refine ⟨List.zipWith (fun (e : Nat) (x : LE) => ⟨some ⟨e, 0, none⟩, x.l, x.l.length⟩) E L, by simp; omega, ?_, ?_⟩
        · rw [List.map_zipWith]
          apply List.ext_getElem
          · simp; omega
          · intro i h1 h2; simp
        · refine .inr ⟨g, 0, rfl, hrow.lt, fun j hj => ?_⟩
          have hj' : j < L.length := by simp at hj; omega
          have hjE : j < E.length := by omega
          have hcell := hrow.cell (k := j) (by rw [lsV_len hk]; exact hj')
          have hv : (lsV E L L.length)[j]'(by rw [lsV_len hk]; exact hj') = .slice (some ⟨E[j], 0, none⟩) L[j].l.length L[j].l.length := by
            unfold lsV
            rw [List.getElem_append_left (by simp; omega)]
            simp
          rw [Nat.zero_add, hcell, hv]
          simp only [List.getElem_zipWith]
          exact ⟨(by first | rfl | trivial), (Sts.of_row (hin j hjE hj').2)⟩)
      clear hrow hin hB
      go_wp2
      go_ret
      obtain ⟨L', h1, h2, h3⟩ := HP.out
      exact ⟨L', by rw [h1]; have := HG.out.1; simp only [this]; rfl, h2, by rw [HG.out.1]; exact h3, HB.out⟩
end Go.Proofs.Ythceffkkokgpnaa
namespace Go.Proofs.Ythceffkkokgpnaa
open Go.RowKit
set_option linter.unusedVariables false
set_option linter.unusedSimpArgs false
theorem ls_len {L L' : List LE} (h : L'.map (·.l) = L.map (·.l)) : L'.length = L.length := by have := congrArg List.length h; simpa using this
theorem ls_get {L L' : List LE} (h : L'.map (·.l) = L.map (·.l)) (k : Nat) : (L'.getD k ⟨none, [], 0⟩).l = (L.getD k ⟨none, [], 0⟩).l := by
  have h1 := congrArg (fun q => q[k]?) h
  simp only [List.getElem?_map] at h1
  rw [List.getD_eq_getElem?_getD, List.getD_eq_getElem?_getD]
  cases e1 : L'[k]? with
  | none => cases e2 : L[k]? with
    | none => rfl
    | some y => rw [e1, e2] at h1; cases h1
  | some x => cases e2 : L[k]? with
    | none => rw [e1, e2] at h1; cases h1
    | some y => rw [e1, e2] at h1; exact Option.some.inj h1
theorem lsN_same {L L' : List LE} (h : L'.map (·.l) = L.map (·.l)) : ∀ k, lsN L' k = lsN L k := by
  intro k
  induction k with
  | zero => rfl
  | succ k ih => show lsN L' k + _ = lsN L k + _; rw [ih, ls_get h]
theorem lsFit_same {L L' : List LE} (h : L'.map (·.l) = L.map (·.l)) (hf : lsFit L) : lsFit L' := by unfold lsFit at *; rw [ls_len h, lsN_same h]; exact hf
set_option maxRecDepth 100000 in
set_option maxHeartbeats 16000000 in
theorem walk_TlLw (a0 : Option Addr) (L0 : List LE) (c0 : Nat) (x1 x2 x3 : Int) (w : World) (hl0 : Lss w w.heap.size a0 L0) (hm0 : L0.length ≤ maxLen) (hs0 : ∀ e ∈ L0, e.l.length ≤ maxLen) :
    Calls Try.prog 10 #[.slice a0 L0.length c0, .int .i64 x1, .int .i64 x2, .int .i64 x3] w fun e w' => e = .returned (.bool true) ∧ Below w.heap.size w w' := by
  have HZ0 := Lib.hid (szLs_any a0 L0 c0 w hl0 hm0 hs0)
  have HL := Lib.hid hl0
  have G0 := Lib.hid (Below.refl w.heap.size w)
  clear hl0 hm0 hs0
  go_enter Try.func10, Try.ntmps10
  go_wp2_with fail
  refine HZ0.out.mono ?_
  rintro e w1 ⟨⟨z, rfl, hz⟩, rfl⟩
  by_cases h0 : z < 0
  · clear hz HZ0
    go_wp2_with fail
    go_ret
    exact ⟨rfl, G0.out⟩
  · have HF := Lib.hid (hz (by omega))
    have HT0 := Lib.hid (fun W (G : Below w.heap.size w W) => toLs_any a0 L0 c0 W ((HL.out.below G (Nat.le_refl _)).more G.size) HF.out)
    have HS := Lib.hid (fun a L W (he : L.map (·.l) = L0.map (·.l)) (h : Lss W W.heap.size a L) => specTL_any a L L.length x1 x2 x3 W h (lsFit_same he HF.out))
    have HI := Lib.hid (fun a L W (he : L.map (·.l) = L0.map (·.l)) (h : Lss W W.heap.size a L) => implTL_any a L L.length x1 x2 x3 W h (lsFit_same he HF.out))
    have HV := Lib.hid (fun L (he : L.map (·.l) = L0.map (·.l)) => show lvs L = lvs L0 from he)
    have hsz : True := trivial
    clear hz HZ0
    go_wp2_with fail
    refine (HT0.out _ G0.out).mono ?_
    rintro e w2 ⟨L2, rfl, e2, r2, b2⟩
    have G2 := Lib.hid (below_then G0.out b2)
    have HS2 := Lib.hid (HS.out _ _ _ e2 r2)
    rw [HV.out L2 e2] at HS2
    clear e2 r2 b2 HS
    go_wp2_with fail
    refine HS2.out.mono ?_
    rintro e w3 ⟨rfl, b3⟩
    have G3 := Lib.hid (below_then G2.out b3)
    clear b3 HS2
    go_wp2_with fail
    refine (HT0.out _ G3.out).mono ?_
    rintro e w4 ⟨L4, rfl, e4, r4, b4⟩
    have G4 := Lib.hid (below_then G3.out b4)
    have HI4 := Lib.hid (HI.out _ _ _ e4 r4)
    rw [HV.out L4 e4] at HI4
    have R4 := Lib.hid r4
    have E4 := Lib.hid e4
    clear e4 r4 b4 HI
    generalize trkV (lvs L0) x1 x2 x3 = v at *
    generalize trkB (lvs L0) x1 x2 x3 = rb at *
    have er : (rb != rb) = false := by simp
    have ev : (v != v) = false := by simp
    go_wp2_with fail
    refine HI4.out.mono ?_
    rintro e w5 ⟨rfl, b5⟩
    have G5 := Lib.hid (below_then G4.out b5)
    have R5 := Lib.hid (lss_below R4.out b5)
    clear b5 HI4 R4
    go_wp2_with fail
    refine (HT0.out _ G5.out).mono ?_
    rintro e w6 ⟨L6, rfl, e6, r6, b6⟩
    have G6 := Lib.hid (below_then G5.out b6)
    have HE := Lib.hid (eqLs_yes _ _ L4 L6 L4.length L6.length w6 (lss_below R5.out b6) r6 (E4.out.trans e6.symm) (lsFit_same E4.out HF.out))
    clear e6 r6 b6 HT0 R5
    go_wp2_with fail
    refine HE.out.mono ?_
    rintro e w7 ⟨rfl, b7⟩
    have G7 := Lib.hid (below_then G6.out b7)
    clear b7
    go_wp2_with fail
    go_ret
    exact ⟨rfl, G7.out⟩
end Go.Proofs.Ythceffkkokgpnaa
