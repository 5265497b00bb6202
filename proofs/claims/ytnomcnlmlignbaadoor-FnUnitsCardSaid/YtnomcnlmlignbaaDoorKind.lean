/- SameKind and the parts of a quantity; the walk of FnExactSameKind. -/
import Derived.Test.YtnomcnlmlignbaaDoorRow
namespace Go.Proofs.YtnomcnlmlignbaaDoor
open Go.RowKit
set_option linter.unusedVariables false
set_option linter.unusedSimpArgs false
def skB (a b : Int) : Bool := unitB a && unitB b
def skV (a b : Int) : Bool := skB a b && (kindZ a == kindZ b)
theorem rowK_yes {u : Int} (h : unitB u = true) : rowK u = kindZ u := if_pos h
theorem rowP_yes {u : Int} (h : unitB u = true) : rowP u = partZ u := if_pos h
theorem rowZ_yes {u : Int} (h : unitB u = true) : rowZ u = zeroZ u := if_pos h

set_option maxHeartbeats 1000000 in
theorem specSame_any (a b : Int) (w : World) :
    Calls Tryd.prog 31 #[.int .i64 a, .int .i64 b] w fun e w' => e = .returned (.tuple #[.bool (skV a b), .bool (skB a b)]) ∧ w = w' := by
  cases ha : unitB a with
  | false =>
    have C1 := Lib.hid (fun W => specUnit_is a false W ha)
    have R := Lib.hid (show Value.tuple #[.bool (skV a b), .bool (skB a b)] = .tuple #[.bool false, .bool false] by unfold skV skB; rw [ha]; rfl)
    clear ha
    go_enter Tryd.func31, Tryd.ntmps31
    go_wp2_with fail
    refine (C1.out _).mono ?_
    rintro e w1 ⟨rfl, rfl⟩
    go_wp2
    go_ret2
    exact ⟨by rw [R.out]; rfl, rfl⟩
  | true =>
    have C1 := Lib.hid (fun W => specUnit_is a true W ha)
    cases hb : unitB b with
    | false =>
      have C2 := Lib.hid (fun W => specUnit_is b false W hb)
      have R := Lib.hid (show Value.tuple #[.bool (skV a b), .bool (skB a b)] = .tuple #[.bool false, .bool false] by unfold skV skB; rw [ha, hb]; rfl)
      clear ha hb
      go_enter Tryd.func31, Tryd.ntmps31
      go_wp2_with fail
      refine (C1.out _).mono ?_
      rintro e w1 ⟨rfl, rfl⟩
      go_wp2_with fail
      refine (C2.out _).mono ?_
      rintro e w1 ⟨rfl, rfl⟩
      go_wp2
      go_ret2
      exact ⟨by rw [R.out]; rfl, rfl⟩
    | true =>
      have C2 := Lib.hid (fun W => specUnit_is b true W hb)
      have K1 := Lib.hid (fun W => specKind_any a W)
      have K2 := Lib.hid (fun W => specKind_any b W)
      have R := Lib.hid (show Value.tuple #[.bool (skV a b), .bool (skB a b)] = .tuple #[.bool (kindZ a - 1 == kindZ b - 1), .bool true] by
        unfold skV skB
        rw [ha, hb]
        have : (kindZ a - 1 == kindZ b - 1) = (kindZ a == kindZ b) := by
          rw [Bool.eq_iff_iff]; simp only [beq_iff_eq]; omega
        rw [this]; rfl)
      clear ha hb
      generalize kindZ a = ka at *
      generalize kindZ b = kb at *
      go_enter Tryd.func31, Tryd.ntmps31
      go_wp2_with fail
      refine (C1.out _).mono ?_
      rintro e w1 ⟨rfl, rfl⟩
      go_wp2_with fail
      refine (C2.out _).mono ?_
      rintro e w1 ⟨rfl, rfl⟩
      go_wp2_with fail
      refine (K1.out _).mono ?_
      rintro e w1 ⟨rfl, rfl⟩
      go_wp2_with fail
      refine (K2.out _).mono ?_
      rintro e w1 ⟨rfl, rfl⟩
      go_wp2
      go_ret2
      exact ⟨by rw [R.out]; rfl, rfl⟩

set_option maxHeartbeats 1000000 in
theorem implSame_any (a b : Int) (w : World) (ht : UTab w) :
    Calls Tryd.prog 30 #[.int .i64 a, .int .i64 b] w fun e w' => e = .returned (.tuple #[.bool (skV a b), .bool (skB a b)]) ∧ Below w.heap.size w w' := by
  have C1 := Lib.hid (fun W (h : Below w.heap.size w W) => rowOf_any a W (ht.below h))
  have C2 := Lib.hid (fun W (h : Below w.heap.size w W) => rowOf_any b W (ht.below h))
  have R := Lib.hid (show Value.tuple #[.bool (skV a b), .bool (skB a b)] = if (unitB a && unitB b) = true then .tuple #[.bool (rowK a == rowK b), .bool true] else .tuple #[.bool false, .bool false] by
    cases ha : unitB a <;> cases hb : unitB b <;> simp [skV, skB, rowK, ha, hb])
  clear ht
  generalize rowU a = a0 at *
  generalize rowK a = a1 at *
  generalize rowW a = a2 at *
  generalize rowP a = a3 at *
  generalize rowZ a = a4 at *
  generalize rowU b = b0 at *
  generalize rowK b = b1 at *
  generalize rowW b = b2 at *
  generalize rowP b = b3 at *
  generalize rowZ b = b4 at *
  generalize unitB a = ua at *
  generalize unitB b = ub at *
  cases ua <;> cases ub
  all_goals
    go_enter Tryd.func30, Tryd.ntmps30
    go_wp2_with fail
    refine (C1.out _ (Below.refl _ _)).mono ?_
    rintro e w1 ⟨rfl, q1⟩
    have HB1 := Lib.hid q1
    have X1 := Lib.hid (Box5.new w1 100 (.int .i64 a0) (.int .i64 a1) (.string a2) (.int .i64 a3) (.int .i64 a4))
    have HB2 := Lib.hid (HB1.out.alloc HB1.out.size (.cells #[.int .i64 a0, .int .i64 a1, .string a2, .int .i64 a3, .int .i64 a4] 100))
    clear q1
    go_wp2_with fail
    refine (C2.out _ HB2.out).mono ?_
    rintro e w2 ⟨rfl, q2⟩
    have HB3 := Lib.hid (below_then HB2.out q2)
    obtain ⟨c0, c1, c2, c3, c4⟩ := (X1.out.below q2).cells
    have hlt : w1.heap.size < w2.heap.size := by have := q2.size; simp at this; omega
    have HB4 := Lib.hid (HB3.out.alloc HB3.out.size (.cells #[.int .i64 b0, .int .i64 b1, .string b2, .int .i64 b3, .int .i64 b4] 100))
    clear q2
    go_wp2
    go_ret2
    exact ⟨by rw [R.out]; rfl, HB4.out⟩

end Go.Proofs.YtnomcnlmlignbaaDoor
