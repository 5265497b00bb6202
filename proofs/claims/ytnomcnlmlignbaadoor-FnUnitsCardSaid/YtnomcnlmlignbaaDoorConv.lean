/- ConvertTenths, the model's and the program's, and the walk of FnExactConvertTenths. -/
import Derived.Test.YtnomcnlmlignbaaDoorConvMath
namespace Go.Proofs.YtnomcnlmlignbaaDoor
open Go.RowKit
set_option linter.unusedVariables false
set_option linter.unusedSimpArgs false
theorem conv_bd {x f t : Int} (hx : tenB x = true) (hf : unitB f = true) (ht : unitB t = true) : -1000000000 ≤ x * partZ f + zeroZ f - zeroZ t ∧ x * partZ f + zeroZ f - zeroZ t ≤ 1000000000 := by
  obtain ⟨a1, a2, a3, a4, a5, a6⟩ := part_bd hf hx
  obtain ⟨b1, b2, b3, b4, b5, b6⟩ := part_bd ht hx
  omega
def cvT (x f t : Int) : Value := .tuple #[.int .i64 (convN x f t), .bool (convOk x f t)]
theorem cvT_no {x f t : Int} (h : convOk x f t = false) : cvT x f t = .tuple #[.int .i64 0, .bool false] := by unfold cvT convN; rw [h]; rfl
theorem cvT_yes {x f t : Int} (h : convOk x f t = true) : cvT x f t = .tuple #[.int .i64 (convZ x f t), .bool true] := by unfold cvT convN; rw [h]; rfl

set_option maxHeartbeats 1000000 in
theorem implCT_any (x f t : Int) (w : World) (hu : UTab w) :
    Calls Tryd.prog 24 #[.int .i64 x, .int .i64 f, .int .i64 t] w fun e w' => e = .returned (cvT x f t) ∧ Below w.heap.size w w' := by
  have C1 := Lib.hid (rowOf_any t w hu)
  have HP := Lib.hid (fun k W (h : Below w.heap.size w W) => parts_any k x f W (hu.below h))
  clear hu
  cases ht : unitB t with
  | false =>
    have R := Lib.hid (cvT_no (x := x) (f := f) (t := t) (by unfold convOk; rw [ht]; simp))
    rw [ht] at C1
    clear ht
    generalize rowU t = r0 at *
    generalize rowK t = r1 at *
    generalize rowW t = r2 at *
    generalize rowP t = r3 at *
    generalize rowZ t = r4 at *
    go_enter Tryd.func24, Tryd.ntmps24
    go_wp2_with fail
    refine C1.out.mono ?_
    rintro e w1 ⟨rfl, q1⟩
    have HB1 := Lib.hid (Below.alloc q1 q1.size (.cells #[.int .i64 r0, .int .i64 r1, .string r2, .int .i64 r3, .int .i64 r4] 100))
    clear q1
    go_wp2
    go_ret2
    exact ⟨by rw [R.out]; rfl, HB1.out⟩
  | true =>
    rw [rowK_yes ht, rowP_yes ht, rowZ_yes ht, ht] at C1
    cases hq : qpB (kindZ t) x f with
    | false =>
      have hn : qpN (kindZ t) x f = 0 := if_neg (by rw [hq]; simp)
      have R := Lib.hid (cvT_no (x := x) (f := f) (t := t) (by
        unfold qpB at hq
        unfold convOk
        cases h1 : unitB f <;> cases h2 : tenB x <;> simp_all))
      have HP2 := Lib.hid (HP.out (kindZ t))
      rw [hn, hq] at HP2
      clear ht hq hn HP
      generalize rowU t = r0 at *
      generalize rowW t = r2 at *
      generalize kindZ t = r1 at *
      generalize partZ t = r3 at *
      generalize zeroZ t = r4 at *
      go_enter Tryd.func24, Tryd.ntmps24
      go_wp2_with fail
      refine C1.out.mono ?_
      rintro e w1 ⟨rfl, q1⟩
      have HB1 := Lib.hid (Below.alloc q1 q1.size (.cells #[.int .i64 r0, .int .i64 r1, .string r2, .int .i64 r3, .int .i64 r4] 100))
      have X1 := Lib.hid (Box5.new w1 100 (.int .i64 r0) (.int .i64 r1) (.string r2) (.int .i64 r3) (.int .i64 r4))
      clear q1
      go_wp2_with fail
      refine (HP2.out _ HB1.out).mono ?_
      rintro e w2 ⟨rfl, q2⟩
      have HB2 := Lib.hid (below_then HB1.out q2)
      clear q2
      go_wp2
      go_ret2
      exact ⟨by rw [R.out]; rfl, HB2.out⟩
    | true =>
      have hf : unitB f = true := by unfold qpB at hq; cases h : unitB f <;> simp_all
      have hx : tenB x = true := by unfold qpB at hq; cases h : tenB x <;> simp_all
      have hk : kindZ f = kindZ t := by unfold qpB at hq; simp [hf, hx] at hq; exact hq
      have hn : qpN (kindZ t) x f = x * partZ f + zeroZ f := if_pos hq
      have hbd := conv_bd hx hf ht
      obtain ⟨p1, p2, p3, p4, p5, p6⟩ := part_bd hf hx
      obtain ⟨s1, s2, s3, s4, _, _⟩ := part_bd ht hx
      have HR := Lib.hid (fun W => implRound_any (x * partZ f + zeroZ f - zeroZ t) (partZ t) W (by omega) (by omega) (by omega) (by omega))
      have hcz : rdiv (x * partZ f + zeroZ f - zeroZ t) (partZ t) = convZ x f t := rfl
      rw [hcz] at HR
      have hok : convOk x f t = tenB (convZ x f t) := by unfold convOk; rw [hx, hf, ht, hk]; simp
      have HP2 := Lib.hid (HP.out (kindZ t))
      rw [hn, hq] at HP2
      clear hcz
      cases hz : tenB (convZ x f t) with
      | false =>
        have C4 := Lib.hid (fun W => implTen_is _ false W hz)
        have R := Lib.hid (cvT_no (x := x) (f := f) (t := t) (by rw [hok, hz]))
        clear ht hq hn HP hf hx hk hok hz
        generalize rowU t = r0 at *
        generalize rowW t = r2 at *
        generalize kindZ t = r1 at *
        generalize partZ t = r3 at *
        generalize zeroZ t = r4 at *
        generalize convZ x f t = cz at *
        generalize x * partZ f = px at *
        generalize zeroZ f = zf at *
        go_enter Tryd.func24, Tryd.ntmps24
        go_wp2_with fail
        refine C1.out.mono ?_
        rintro e w1 ⟨rfl, q1⟩
        have HB1 := Lib.hid (Below.alloc q1 q1.size (.cells #[.int .i64 r0, .int .i64 r1, .string r2, .int .i64 r3, .int .i64 r4] 100))
        have X1 := Lib.hid (Box5.new w1 100 (.int .i64 r0) (.int .i64 r1) (.string r2) (.int .i64 r3) (.int .i64 r4))
        clear q1
        go_wp2_with fail
        refine (HP2.out _ HB1.out).mono ?_
        rintro e w2 ⟨rfl, q2⟩
        have HB2 := Lib.hid (below_then HB1.out q2)
        obtain ⟨c0, c1, c2, c3, c4⟩ := (X1.out.below q2).cells
        clear q2
        go_wp2_with fail
        refine (HR.out _).mono ?_
        rintro e w3 ⟨rfl, rfl⟩
        go_wp2_with fail
        refine (C4.out _).mono ?_
        rintro e w3 ⟨rfl, rfl⟩
        go_wp2
        go_ret2
        exact ⟨by rw [R.out]; rfl, HB2.out⟩
      | true =>
        have C4 := Lib.hid (fun W => implTen_is _ true W hz)
        have R := Lib.hid (cvT_yes (x := x) (f := f) (t := t) (by rw [hok, hz]))
        clear ht hq hn HP hf hx hk hok hz
        generalize rowU t = r0 at *
        generalize rowW t = r2 at *
        generalize kindZ t = r1 at *
        generalize partZ t = r3 at *
        generalize zeroZ t = r4 at *
        generalize convZ x f t = cz at *
        generalize x * partZ f = px at *
        generalize zeroZ f = zf at *
        go_enter Tryd.func24, Tryd.ntmps24
        go_wp2_with fail
        refine C1.out.mono ?_
        rintro e w1 ⟨rfl, q1⟩
        have HB1 := Lib.hid (Below.alloc q1 q1.size (.cells #[.int .i64 r0, .int .i64 r1, .string r2, .int .i64 r3, .int .i64 r4] 100))
        have X1 := Lib.hid (Box5.new w1 100 (.int .i64 r0) (.int .i64 r1) (.string r2) (.int .i64 r3) (.int .i64 r4))
        clear q1
        go_wp2_with fail
        refine (HP2.out _ HB1.out).mono ?_
        rintro e w2 ⟨rfl, q2⟩
        have HB2 := Lib.hid (below_then HB1.out q2)
        obtain ⟨c0, c1, c2, c3, c4⟩ := (X1.out.below q2).cells
        clear q2
        go_wp2_with fail
        refine (HR.out _).mono ?_
        rintro e w3 ⟨rfl, rfl⟩
        go_wp2_with fail
        refine (C4.out _).mono ?_
        rintro e w3 ⟨rfl, rfl⟩
        go_wp2
        go_ret2
        exact ⟨by rw [R.out]; rfl, HB2.out⟩

end Go.Proofs.YtnomcnlmlignbaaDoor
