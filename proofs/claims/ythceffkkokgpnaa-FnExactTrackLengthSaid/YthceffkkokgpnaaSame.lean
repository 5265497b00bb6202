/- The model's comparison of shapes; its least and greatest of two. -/
import Derived.Test.YthceffkkokgpnaaAlgMath
import Derived.Test.YthceffkkokgpnaaLater
namespace Go.Proofs.Ythceffkkokgpnaa
open Go.RowKit
set_option linter.unusedVariables false
set_option linter.unusedSimpArgs false
theorem l1Most_is (x y : Int) (w : World) : Calls Try.prog 162 #[.int .i64 x, .int .i64 y] w fun e w' => e = .returned (.int .i64 (max x y)) ∧ w = w' := by
  by_cases h : y < x
  · have e : max x y = x := by omega
    rw [e]
    clear e
    go_enter Try.func162, Try.ntmps162
    go_wp2
    go_ret
    exact ⟨rfl, rfl⟩
  · have e : max x y = y := by omega
    rw [e]
    clear e
    go_enter Try.func162, Try.ntmps162
    go_wp2
    go_ret
    exact ⟨rfl, rfl⟩
set_option maxRecDepth 100000 in
set_option maxHeartbeats 4000000 in
theorem specSame_is (wa ha : Int) (aa : Option Addr) (la : List Int) (ca : Nat) (wb hb : Int) (ab : Option Addr) (lb : List Int) (cb : Nat) (v : Bool) (w : World) (h1 : Ints .i64 w w.heap.size aa la) (h2 : Ints .i64 w w.heap.size ab lb) (n1 : la.length ≤ 1048576) (n2 : lb.length ≤ 1048576) (h : sameB wa ha la wb hb lb = v) :
    Calls Try.prog 110 #[.agg #[.int .i64 wa, .int .i64 ha, .slice aa la.length ca], .agg #[.int .i64 wb, .int .i64 hb, .slice ab lb.length cb]] w fun e w' => e = .returned (.bool v) ∧ Below w.heap.size w w' := by
  have HV := Lib.hid h
  have i1 := ints_alloc (ints_alloc h1 (.cells #[.int .i64 wa, .int .i64 ha, .slice aa la.length ca] 54)) (.cells #[.int .i64 wb, .int .i64 hb, .slice ab lb.length cb] 54)
  have i2 := ints_alloc (ints_alloc h2 (.cells #[.int .i64 wa, .int .i64 ha, .slice aa la.length ca] 54)) (.cells #[.int .i64 wb, .int .i64 hb, .slice ab lb.length cb] 54)
  have x1 := (Box.new w 54 (.int .i64 wa) (.int .i64 ha) (.slice aa la.length ca)).alloc (.cells #[.int .i64 wb, .int .i64 hb, .slice ab lb.length cb] 54)
  have x2 := Box.new (w.alloc (.cells #[.int .i64 wa, .int .i64 ha, .slice aa la.length ca] 54)) 54 (.int .i64 wb) (.int .i64 hb) (.slice ab lb.length cb)
  simp only [World.size_alloc] at x2
  have b0 : Below w.heap.size w ((w.alloc (.cells #[.int .i64 wa, .int .i64 ha, .slice aa la.length ca] 54)).alloc (.cells #[.int .i64 wb, .int .i64 hb, .slice ab lb.length cb] 54)) := ((Below.refl _ _).alloc (Nat.le_refl _) _).alloc (by simp) _
  have HI1 := Lib.hid i1
  have HI2 := Lib.hid i2
  have HX1 := Lib.hid x1
  have HX2 := Lib.hid x2
  have HB := Lib.hid b0
  clear h h1 h2 i1 i2 x1 x2 b0
  cases ga : goodB wa ha la with
  | false =>
    obtain rfl : v = false := by rw [← HV.out]; exact same_left ga
    have HC1 := Lib.hid (specGood_is wa ha aa la ca _ false _ HI1.out (Nat.le_refl _) n1 ga)
    clear ga
    go_enter Try.func110, Try.ntmps110
    go_wp2_with fail
    refine HC1.out.mono ?_
    rintro e w1 ⟨rfl, b⟩
    have HB1 := Lib.hid (below_then HB.out b)
    clear b
    go_wp2
    go_ret
    exact ⟨rfl, HB1.out⟩
  | true =>
    have HC1 := Lib.hid (specGood_is wa ha aa la ca _ true _ HI1.out (Nat.le_refl _) n1 ga)
    have HC2 := Lib.hid (fun v W h hg => specGood_is wb hb ab lb cb _ v W h (Nat.le_refl _) n2 hg)
    have hcut : goodB wb hb lb = false → v = false := fun gb => by rw [← HV.out]; exact same_right gb
    have hcut2 : goodB wb hb lb = true → v = (decide (wa = wb) && decide (ha = hb)) := fun gb => by rw [← HV.out]; unfold sameB; rw [ga, gb]; simp
    have HT := Lib.hid hcut
    have HT2 := Lib.hid hcut2
    clear ga hcut hcut2
    cases gb : goodB wb hb lb with
    | false =>
      obtain rfl := HT.out gb
      have HC3 := Lib.hid (fun W h => HC2.out false W h gb)
      clear gb HT HT2 HC2 HV
      go_enter Try.func110, Try.ntmps110
      go_wp2_with fail
      refine HC1.out.mono ?_
      rintro e w1 ⟨rfl, b⟩
      have HB1 := Lib.hid (below_then HB.out b)
      have HI3 := Lib.hid (ints_below HI2.out b)
      obtain ⟨k0, k1, k2⟩ := (HX2.out.below b).cells
      clear b
      go_wp2_with fail
      refine (HC3.out _ HI3.out).mono ?_
      rintro e w2 ⟨rfl, b⟩
      have HB2 := Lib.hid (below_then HB1.out b)
      clear b k0 k1 k2
      go_wp2
      go_ret
      exact ⟨rfl, HB2.out⟩
    | true =>
      have HV2 := Lib.hid (HT2.out gb)
      have HC3 := Lib.hid (fun W h => HC2.out true W h gb)
      clear gb HT HT2 HC2 HV
      rcases Classical.em (wa = wb) with hw | hw
      · have e1 : (wa == wb) = true := by simp [hw]
        rcases Classical.em (ha = hb) with hh | hh
        · obtain rfl : v = true := by rw [HV2.out, decide_eq_true hw, decide_eq_true hh]; rfl
          have e2 : (ha == hb) = true := by simp [hh]
          clear hw hh HV2
          go_enter Try.func110, Try.ntmps110
          go_wp2_with fail
          refine HC1.out.mono ?_
          rintro e w1 ⟨rfl, b⟩
          have HB1 := Lib.hid (below_then HB.out b)
          have HI3 := Lib.hid (ints_below HI2.out b)
          have HX3 := Lib.hid (HX1.out.below b)
          have HX4 := Lib.hid (HX2.out.below b)
          obtain ⟨k0, k1, k2⟩ := HX4.out.cells
          clear b
          go_wp2_with fail
          refine (HC3.out _ HI3.out).mono ?_
          rintro e w2 ⟨rfl, b⟩
          have HB2 := Lib.hid (below_then HB1.out b)
          clear k0 k1 k2
          obtain ⟨k0, k1, k2⟩ := (HX3.out.below b).cells
          obtain ⟨l0, l1, l2⟩ := (HX4.out.below b).cells
          clear b
          go_wp2
          go_ret
          exact ⟨rfl, HB2.out⟩
        · obtain rfl : v = false := by rw [HV2.out, decide_eq_false hh]; simp
          have e2 : (ha == hb) = false := by simp [hh]
          clear hw hh HV2
          go_enter Try.func110, Try.ntmps110
          go_wp2_with fail
          refine HC1.out.mono ?_
          rintro e w1 ⟨rfl, b⟩
          have HB1 := Lib.hid (below_then HB.out b)
          have HI3 := Lib.hid (ints_below HI2.out b)
          have HX3 := Lib.hid (HX1.out.below b)
          have HX4 := Lib.hid (HX2.out.below b)
          obtain ⟨k0, k1, k2⟩ := HX4.out.cells
          clear b
          go_wp2_with fail
          refine (HC3.out _ HI3.out).mono ?_
          rintro e w2 ⟨rfl, b⟩
          have HB2 := Lib.hid (below_then HB1.out b)
          clear k0 k1 k2
          obtain ⟨k0, k1, k2⟩ := (HX3.out.below b).cells
          obtain ⟨l0, l1, l2⟩ := (HX4.out.below b).cells
          clear b
          go_wp2
          go_ret
          exact ⟨rfl, HB2.out⟩
      · obtain rfl : v = false := by rw [HV2.out, decide_eq_false hw]; simp
        have e1 : (wa == wb) = false := by simp [hw]
        clear hw HV2
        go_enter Try.func110, Try.ntmps110
        go_wp2_with fail
        refine HC1.out.mono ?_
        rintro e w1 ⟨rfl, b⟩
        have HB1 := Lib.hid (below_then HB.out b)
        have HI3 := Lib.hid (ints_below HI2.out b)
        have HX3 := Lib.hid (HX1.out.below b)
        have HX4 := Lib.hid (HX2.out.below b)
        obtain ⟨k0, k1, k2⟩ := HX4.out.cells
        clear b
        go_wp2_with fail
        refine (HC3.out _ HI3.out).mono ?_
        rintro e w2 ⟨rfl, b⟩
        have HB2 := Lib.hid (below_then HB1.out b)
        clear k0 k1 k2
        obtain ⟨k0, k1, k2⟩ := (HX3.out.below b).cells
        obtain ⟨l0, l1, l2⟩ := (HX4.out.below b).cells
        clear b
        go_wp2
        go_ret
        exact ⟨rfl, HB2.out⟩
end Go.Proofs.Ythceffkkokgpnaa
