/- WarmerThan, the model's and the program's, and the walk of FnExactWarmerThan. -/
import Derived.Test.YtnafnkilmiebiaaDoorConvMath
namespace Go.Proofs.YtnafnkilmiebiaaDoor
open Go.RowKit
set_option linter.unusedVariables false
set_option linter.unusedSimpArgs false
def wtB (x a y b : Int) : Bool := qpB 1 x a && qpB 1 y b
def wtV (x a y b : Int) : Bool := wtB x a y b && decide (y * partZ b + zeroZ b < x * partZ a + zeroZ a)
def wtT (x a y b : Int) : Value := .tuple #[.bool (wtV x a y b), .bool (wtB x a y b)]
theorem wtT_no {x a y b : Int} (h : wtB x a y b = false) : wtT x a y b = .tuple #[.bool false, .bool false] := by unfold wtT wtV; rw [h]; rfl
theorem wtT_yes {x a y b : Int} (h : wtB x a y b = true) : wtT x a y b = .tuple #[.bool (decide (y * partZ b + zeroZ b < x * partZ a + zeroZ a)), .bool true] := by unfold wtT wtV; rw [h]; rfl
theorem qp_no1 {k x u : Int} (h : unitB u = false) : qpB k x u = false := by unfold qpB; rw [h]; rfl
theorem qp_no2 {k x u : Int} (h : tenB x = false) : qpB k x u = false := by unfold qpB; rw [h]; simp
theorem qp_no3 {k x u : Int} (h : ¬ kindZ u = k) : qpB k x u = false := by
  unfold qpB
  have : (kindZ u == k) = false := by simpa using h
  rw [this]; simp
theorem qp_yes {k x u : Int} (h0 : unitB u = true) (h1 : kindZ u = k) (h2 : tenB x = true) : qpB k x u = true := by unfold qpB; rw [h0, h1, h2]; simp
theorem qp_out {k x u : Int} (h : qpB k x u = true) : unitB u = true ∧ kindZ u = k ∧ tenB x = true := by
  unfold qpB at h
  simp at h
  exact ⟨h.1.1, h.1.2, h.2⟩
/-- a unit of temperature -/
theorem unit_warm {u : Int} (h : unitB u = true) (hk : kindZ u = 1) : u = 1 ∨ u = 2 ∨ u = 3 := by
  rcases unit_cases h with rfl | rfl | rfl | rfl | rfl | rfl | rfl | rfl <;> first | omega | (exact absurd hk (by decide))

set_option maxHeartbeats 1000000 in
theorem implWT_any (x a y b : Int) (w : World) (hu : UTab w) :
    Calls Tryd.prog 21 #[.int .i64 x, .int .i64 a, .int .i64 y, .int .i64 b] w fun e w' => e = .returned (wtT x a y b) ∧ Below w.heap.size w w' := by
  have H1 := Lib.hid (parts_any 1 x a w hu)
  have H2 := Lib.hid (fun W (h : Below w.heap.size w W) => parts_any 1 y b W (hu.below h))
  clear hu
  have R := Lib.hid (show wtT x a y b = if (qpB 1 x a && qpB 1 y b) = true then .tuple #[.bool (decide (qpN 1 y b < qpN 1 x a)), .bool true] else .tuple #[.bool false, .bool false] by
    cases h1 : qpB 1 x a with
    | false => rw [wtT_no (by unfold wtB; rw [h1]; rfl)]; rfl
    | true =>
      cases h2 : qpB 1 y b with
      | false => rw [wtT_no (by unfold wtB; rw [h2]; simp)]; rfl
      | true =>
        rw [wtT_yes (by unfold wtB; rw [h1, h2]; rfl), show qpN 1 y b = _ from if_pos h2, show qpN 1 x a = _ from if_pos h1]; rfl)
  generalize qpN 1 x a = n1 at *
  generalize qpN 1 y b = n2 at *
  generalize qpB 1 x a = b1 at *
  generalize qpB 1 y b = b2 at *
  cases b1 <;> cases b2
  all_goals
    go_enter Tryd.func21, Tryd.ntmps21
    go_wp2_with fail
    refine H1.out.mono ?_
    rintro e w1 ⟨rfl, q1⟩
    have HB1 := Lib.hid q1
    clear q1
    go_wp2_with fail
    refine (H2.out _ HB1.out).mono ?_
    rintro e w2 ⟨rfl, q2⟩
    have HB2 := Lib.hid (below_then HB1.out q2)
    clear q2
    go_wp2
    go_ret2
    exact ⟨by rw [R.out]; rfl, HB2.out⟩

set_option maxHeartbeats 2000000 in
theorem specWT_any (x a y b : Int) (w : World) :
    Calls Tryd.prog 20 #[.int .i64 x, .int .i64 a, .int .i64 y, .int .i64 b] w fun e w' => e = .returned (wtT x a y b) ∧ w = w' := by
  cases hx : tenB x with
  | false =>
    have C1 := Lib.hid (fun W => specTen_is x false W hx)
    have R := Lib.hid (wtT_no (x := x) (a := a) (y := y) (b := b) (by unfold wtB; rw [qp_no2 hx]; rfl))
    clear hx
    go_enter Tryd.func20, Tryd.ntmps20
    go_wp2_with fail
    refine (C1.out _).mono ?_
    rintro e w1 ⟨rfl, rfl⟩
    go_wp2
    go_ret2
    exact ⟨by rw [R.out]; rfl, rfl⟩
  | true =>
  have C1 := Lib.hid (fun W => specTen_is x true W hx)
  cases hy : tenB y with
  | false =>
    have C2 := Lib.hid (fun W => specTen_is y false W hy)
    have R := Lib.hid (wtT_no (x := x) (a := a) (y := y) (b := b) (by unfold wtB; rw [qp_no2 hy]; simp))
    clear hx hy
    go_enter Tryd.func20, Tryd.ntmps20
    go_wp2_with fail
    refine (C1.out _).mono ?_
    rintro e w1 ⟨rfl, rfl⟩
    go_wp2_with fail
    refine (C2.out _).mono ?_
    rintro e w1 ⟨rfl, rfl⟩
    go_wp2
    go_ret2
    exact ⟨by rw [R.out]; rfl, rfl⟩
  | true =>
  have C2 := Lib.hid (fun W => specTen_is y true W hy)
  cases ha : unitB a with
  | false =>
    have C3 := Lib.hid (fun W => specUnit_is a false W ha)
    have R := Lib.hid (wtT_no (x := x) (a := a) (y := y) (b := b) (by unfold wtB; rw [qp_no1 ha]; rfl))
    clear hx hy ha
    go_enter Tryd.func20, Tryd.ntmps20
    go_wp2_with fail
    refine (C1.out _).mono ?_
    rintro e w1 ⟨rfl, rfl⟩
    go_wp2_with fail
    refine (C2.out _).mono ?_
    rintro e w1 ⟨rfl, rfl⟩
    go_wp2_with fail
    refine (C3.out _).mono ?_
    rintro e w1 ⟨rfl, rfl⟩
    go_wp2
    go_ret2
    exact ⟨by rw [R.out]; rfl, rfl⟩
  | true =>
  have C3 := Lib.hid (fun W => specUnit_is a true W ha)
  cases hb : unitB b with
  | false =>
    have C4 := Lib.hid (fun W => specUnit_is b false W hb)
    have R := Lib.hid (wtT_no (x := x) (a := a) (y := y) (b := b) (by unfold wtB; rw [qp_no1 hb]; simp))
    clear hx hy ha hb
    go_enter Tryd.func20, Tryd.ntmps20
    go_wp2_with fail
    refine (C1.out _).mono ?_
    rintro e w1 ⟨rfl, rfl⟩
    go_wp2_with fail
    refine (C2.out _).mono ?_
    rintro e w1 ⟨rfl, rfl⟩
    go_wp2_with fail
    refine (C3.out _).mono ?_
    rintro e w1 ⟨rfl, rfl⟩
    go_wp2_with fail
    refine (C4.out _).mono ?_
    rintro e w1 ⟨rfl, rfl⟩
    go_wp2
    go_ret2
    exact ⟨by rw [R.out]; rfl, rfl⟩
  | true =>
  have C4 := Lib.hid (fun W => specUnit_is b true W hb)
  have K1 := Lib.hid (fun W => specKind_any a W)
  have K2 := Lib.hid (fun W => specKind_any b W)
  by_cases ka : kindZ a = 1
  · by_cases kb : kindZ b = 1
    · have R := Lib.hid (wtT_yes (x := x) (a := a) (y := y) (b := b) (by unfold wtB; rw [qp_yes ha ka hx, qp_yes hb kb hy]; rfl))
      rw [ka] at K1
      rw [kb] at K2
      obtain ⟨x0, x1⟩ := ten_iff.1 hx
      obtain ⟨y0, y1⟩ := ten_iff.1 hy
      have B1 := Lib.hid (fun W => basic_any x a W ha x0 x1)
      have B2 := Lib.hid (fun W => basic_any y b W hb y0 y1)
      have hbd : -600000 ≤ basN x a ∧ basN x a ≤ 600000 ∧ 1 ≤ basD a ∧ basD a ≤ 9 := by
        rcases unit_warm ha ka with rfl | rfl | rfl <;> simp [basN, basD] <;> omega
      have hbd2 : -600000 ≤ basN y b ∧ basN y b ≤ 600000 ∧ 1 ≤ basD b ∧ basD b ≤ 9 := by
        rcases unit_warm hb kb with rfl | rfl | rfl <;> simp [basN, basD] <;> omega
      have heq : decide (basN y b * basD a < basN x a * basD b) = decide (y * partZ b + zeroZ b < x * partZ a + zeroZ a) := by
        rw [decide_eq_decide]
        rcases unit_warm ha ka with rfl | rfl | rfl <;> rcases unit_warm hb kb with rfl | rfl | rfl <;> simp [basN, basD, partZ, zeroZ] <;> omega
      rw [← heq] at R
      have m1 : -6000000 ≤ basN x a * basD b ∧ basN x a * basD b ≤ 6000000 := by
        rcases unit_warm hb kb with rfl | rfl | rfl <;> simp [basD] <;> omega
      have m2 : -6000000 ≤ basN y b * basD a ∧ basN y b * basD a ≤ 6000000 := by
        rcases unit_warm ha ka with rfl | rfl | rfl <;> simp [basD] <;> omega
      clear ha hb hx hy ka kb heq
      generalize basN x a = na at *
      generalize basN y b = nb at *
      generalize basD a = da at *
      generalize basD b = db at *
      go_enter Tryd.func20, Tryd.ntmps20
      go_wp2_with fail
      refine (C1.out _).mono ?_
      rintro e w1 ⟨rfl, rfl⟩
      go_wp2_with fail
      refine (C2.out _).mono ?_
      rintro e w1 ⟨rfl, rfl⟩
      go_wp2_with fail
      refine (C3.out _).mono ?_
      rintro e w1 ⟨rfl, rfl⟩
      go_wp2_with fail
      refine (C4.out _).mono ?_
      rintro e w1 ⟨rfl, rfl⟩
      go_wp2_with fail
      refine (K1.out _).mono ?_
      rintro e w1 ⟨rfl, rfl⟩
      go_wp2_with fail
      refine (K2.out _).mono ?_
      rintro e w1 ⟨rfl, rfl⟩
      go_wp2_with fail
      refine (B1.out _).mono ?_
      rintro e w1 ⟨rfl, rfl⟩
      go_wp2_with fail
      refine (B2.out _).mono ?_
      rintro e w1 ⟨rfl, rfl⟩
      go_wp2
      go_ret2
      exact ⟨by rw [R.out]; rfl, rfl⟩
    · have R := Lib.hid (wtT_no (x := x) (a := a) (y := y) (b := b) (by unfold wtB; rw [qp_no3 kb]; simp))
      rw [ka] at K1
      have hne : (kindZ b - 1 != 0) = true := by simp; omega
      clear ha hb hx hy ka kb
      generalize kindZ b = kb at *
      go_enter Tryd.func20, Tryd.ntmps20
      go_wp2_with fail
      refine (C1.out _).mono ?_
      rintro e w1 ⟨rfl, rfl⟩
      go_wp2_with fail
      refine (C2.out _).mono ?_
      rintro e w1 ⟨rfl, rfl⟩
      go_wp2_with fail
      refine (C3.out _).mono ?_
      rintro e w1 ⟨rfl, rfl⟩
      go_wp2_with fail
      refine (C4.out _).mono ?_
      rintro e w1 ⟨rfl, rfl⟩
      go_wp2_with fail
      refine (K1.out _).mono ?_
      rintro e w1 ⟨rfl, rfl⟩
      go_wp2_with fail
      refine (K2.out _).mono ?_
      rintro e w1 ⟨rfl, rfl⟩
      go_wp2
      go_ret2
      exact ⟨by rw [R.out]; rfl, rfl⟩
  · have R := Lib.hid (wtT_no (x := x) (a := a) (y := y) (b := b) (by unfold wtB; rw [qp_no3 ka]; rfl))
    have hne : (kindZ a - 1 != 0) = true := by simp; omega
    clear ha hb hx hy ka
    generalize kindZ a = ka at *
    go_enter Tryd.func20, Tryd.ntmps20
    go_wp2_with fail
    refine (C1.out _).mono ?_
    rintro e w1 ⟨rfl, rfl⟩
    go_wp2_with fail
    refine (C2.out _).mono ?_
    rintro e w1 ⟨rfl, rfl⟩
    go_wp2_with fail
    refine (C3.out _).mono ?_
    rintro e w1 ⟨rfl, rfl⟩
    go_wp2_with fail
    refine (C4.out _).mono ?_
    rintro e w1 ⟨rfl, rfl⟩
    go_wp2_with fail
    refine (K1.out _).mono ?_
    rintro e w1 ⟨rfl, rfl⟩
    go_wp2
    go_ret2
    exact ⟨by rw [R.out]; rfl, rfl⟩

set_option maxHeartbeats 1000000 in
theorem walk_WarmerThan (x a y b : Int) (w : World) (hu : UTab w) :
    Calls Tryd.prog 8 #[.int .i64 x, .int .i64 a, .int .i64 y, .int .i64 b] w fun e w' => e = .returned (.bool true) ∧ Below w.heap.size w w' := by
  have H1 := Lib.hid (fun W => specWT_any x a y b W)
  have H2 := Lib.hid (implWT_any x a y b w hu)
  clear hu
  unfold wtT at H1 H2
  generalize wtV x a y b = n at *
  generalize wtB x a y b = k at *
  go_enter Tryd.func8, Tryd.ntmps8
  go_wp2_with fail
  refine (H1.out _).mono ?_
  rintro e w1 ⟨rfl, rfl⟩
  go_wp2_with fail
  refine H2.out.mono ?_
  rintro e w2 ⟨rfl, b2⟩
  have HB2 := Lib.hid b2
  clear b2
  go_wp2
  go_ret
  exact ⟨rfl, HB2.out⟩
end Go.Proofs.YtnafnkilmiebiaaDoor
