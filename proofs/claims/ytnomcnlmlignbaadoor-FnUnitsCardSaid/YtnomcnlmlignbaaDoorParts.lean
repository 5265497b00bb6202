/- ConvertTenths and WarmerThan, the model's and the program's; the walks of their laws. -/
import Derived.Test.YtnomcnlmlignbaaDoorKind
namespace Go.Proofs.YtnomcnlmlignbaaDoor
open Go.RowKit
set_option linter.unusedVariables false
set_option linter.unusedSimpArgs false
theorem part_bd {x u : Int} (hu : unitB u = true) (hx : tenB x = true) : 5 ≤ partZ u ∧ partZ u ≤ 900 ∧ -49167 ≤ zeroZ u ∧ zeroZ u ≤ 0 ∧ -89999100 ≤ x * partZ u ∧ x * partZ u ≤ 89999100 := by
  have h := ten_iff.1 hx
  rcases unit_cases hu with rfl | rfl | rfl | rfl | rfl | rfl | rfl | rfl <;> simp [partZ, zeroZ] <;> omega
/-- a quantity of a kind, in parts -/
def qpB (k x u : Int) : Bool := unitB u && (kindZ u == k) && tenB x
def qpN (k x u : Int) : Int := if qpB k x u = true then x * partZ u + zeroZ u else 0

set_option maxHeartbeats 400000 in
theorem partsOf_any (r0 r1 : Int) (r2 : ByteArray) (r3 r4 x : Int) (w : World) (h0 : -89999100 ≤ x * r3) (h1 : x * r3 ≤ 89999100) (h2 : -49167 ≤ r4) (h3 : r4 ≤ 0) :
    Calls Tryd.prog 114 #[.agg #[.int .i64 r0, .int .i64 r1, .string r2, .int .i64 r3, .int .i64 r4], .int .i64 x] w fun e w' => e = .returned (.int .i64 (x * r3 + r4)) ∧ Below w.heap.size w w' := by
  go_enter Tryd.func114, Tryd.ntmps114
  go_wp2
  go_ret
  exact ⟨rfl, below_all _ _⟩

set_option maxHeartbeats 1000000 in
theorem parts_any (k x u : Int) (w : World) (ht : UTab w) :
    Calls Tryd.prog 79 #[.int .i64 k, .int .i64 x, .int .i64 u] w fun e w' => e = .returned (.tuple #[.int .i64 (qpN k x u), .bool (qpB k x u)]) ∧ Below w.heap.size w w' := by
  have C1 := Lib.hid (rowOf_any u w ht)
  clear ht
  cases hu : unitB u with
  | false =>
    have R := Lib.hid (show Value.tuple #[.int .i64 (qpN k x u), .bool (qpB k x u)] = .tuple #[.int .i64 0, .bool false] by
      have hb : qpB k x u = false := by unfold qpB; rw [hu]; rfl
      rw [hb]; unfold qpN; rw [hb]; rfl)
    rw [hu] at C1
    clear hu
    generalize rowU u = r0 at *
    generalize rowK u = r1 at *
    generalize rowW u = r2 at *
    generalize rowP u = r3 at *
    generalize rowZ u = r4 at *
    go_enter Tryd.func79, Tryd.ntmps79
    go_wp2_with fail
    refine C1.out.mono ?_
    rintro e w1 ⟨rfl, q1⟩
    have HB1 := Lib.hid (Below.alloc q1 q1.size (.cells #[.int .i64 r0, .int .i64 r1, .string r2, .int .i64 r3, .int .i64 r4] 100))
    clear q1
    go_wp2
    go_ret2
    exact ⟨by rw [R.out]; rfl, HB1.out⟩
  | true =>
    rw [rowK_yes hu, rowP_yes hu, rowZ_yes hu, hu] at C1
    by_cases hk : kindZ u = k
    · cases hx : tenB x with
      | false =>
        have T1 := Lib.hid (fun W => implTen_is x false W hx)
        have R := Lib.hid (show Value.tuple #[.int .i64 (qpN k x u), .bool (qpB k x u)] = .tuple #[.int .i64 0, .bool false] by
          have hb : qpB k x u = false := by unfold qpB; rw [hx]; simp
          rw [hb]; unfold qpN; rw [hb]; rfl)
        rw [hk] at C1
        clear hu hk hx
        generalize rowU u = r0 at *
        generalize rowW u = r2 at *
        generalize partZ u = r3 at *
        generalize zeroZ u = r4 at *
        go_enter Tryd.func79, Tryd.ntmps79
        go_wp2_with fail
        refine C1.out.mono ?_
        rintro e w1 ⟨rfl, q1⟩
        have HB1 := Lib.hid (Below.alloc q1 q1.size (.cells #[.int .i64 r0, .int .i64 k, .string r2, .int .i64 r3, .int .i64 r4] 100))
        clear q1
        go_wp2_with fail
        refine (T1.out _).mono ?_
        rintro e w2 ⟨rfl, rfl⟩
        go_wp2
        go_ret2
        exact ⟨by rw [R.out]; rfl, HB1.out⟩
      | true =>
        have T1 := Lib.hid (fun W => implTen_is x true W hx)
        have R := Lib.hid (show Value.tuple #[.int .i64 (qpN k x u), .bool (qpB k x u)] = .tuple #[.int .i64 (x * partZ u + zeroZ u), .bool true] by
          have hb : qpB k x u = true := by unfold qpB; rw [hu, hx, hk]; simp
          rw [hb]; unfold qpN; rw [hb]; rfl)
        obtain ⟨p1, p2, p3, p4, p5, p6⟩ := part_bd hu hx
        rw [hk] at C1
        clear hu hk hx
        generalize rowU u = r0 at *
        generalize rowW u = r2 at *
        generalize partZ u = r3 at *
        generalize zeroZ u = r4 at *
        have P := Lib.hid (fun W => partsOf_any r0 k r2 r3 r4 x W p5 p6 p3 p4)
        go_enter Tryd.func79, Tryd.ntmps79
        go_wp2_with fail
        refine C1.out.mono ?_
        rintro e w1 ⟨rfl, q1⟩
        have HB1 := Lib.hid (Below.alloc q1 q1.size (.cells #[.int .i64 r0, .int .i64 k, .string r2, .int .i64 r3, .int .i64 r4] 100))
        have X1 := Lib.hid (Box5.new w1 100 (.int .i64 r0) (.int .i64 k) (.string r2) (.int .i64 r3) (.int .i64 r4))
        clear q1
        go_wp2_with fail
        refine (T1.out _).mono ?_
        rintro e w2 ⟨rfl, rfl⟩
        obtain ⟨c0, c1, c2, c3, c4⟩ := X1.out.cells
        go_wp2_with fail
        refine (P.out _).mono ?_
        rintro e w3 ⟨rfl, q3⟩
        have HB3 := Lib.hid (below_then HB1.out q3)
        clear q3
        go_wp2
        go_ret2
        exact ⟨by rw [R.out]; rfl, HB3.out⟩
    · have hne : (kindZ u != k) = true := by simpa using hk
      have R := Lib.hid (show Value.tuple #[.int .i64 (qpN k x u), .bool (qpB k x u)] = .tuple #[.int .i64 0, .bool false] by
        have hb : qpB k x u = false := by unfold qpB; have : (kindZ u == k) = false := by simpa using hk
                                          rw [this]; simp
        rw [hb]; unfold qpN; rw [hb]; rfl)
      clear hu hk
      generalize rowU u = r0 at *
      generalize kindZ u = r1 at *
      generalize rowW u = r2 at *
      generalize partZ u = r3 at *
      generalize zeroZ u = r4 at *
      go_enter Tryd.func79, Tryd.ntmps79
      go_wp2_with fail
      refine C1.out.mono ?_
      rintro e w1 ⟨rfl, q1⟩
      have HB1 := Lib.hid (Below.alloc q1 q1.size (.cells #[.int .i64 r0, .int .i64 r1, .string r2, .int .i64 r3, .int .i64 r4] 100))
      clear q1
      go_wp2
      go_ret2
      exact ⟨by rw [R.out]; rfl, HB1.out⟩
end Go.Proofs.YtnomcnlmlignbaaDoor
