/- OverlapUnits, the model's and the program's. -/
import Derived.Test.YtccplndimdmjpaaDoorRgMath
import Derived.Test.YtccplndimdmjpaaDoorSame
import Derived.IntWalk
namespace Go.Proofs.YtccplndimdmjpaaDoor
open Go.RowKit
set_option linter.unusedVariables false
set_option linter.unusedSimpArgs false
theorem ret_two {a b : Int} {v : Value} (h : a = b) : Ending.returned (.tuple #[.int .i64 a, v]) = .returned (.tuple #[.int .i64 b, v]) := by rw [h]
theorem ov_bd {a c i k : Int} (h : ovB a c i k = true) : (1 ≤ a ∧ a ≤ 8) ∧ (1 ≤ c ∧ c ≤ 8) ∧ (0 ≤ i ∧ i < a) ∧ 0 ≤ k ∧ k < c := by
  unfold ovB at h
  simp only [Bool.and_eq_true] at h
  obtain ⟨h1, h2⟩ := h
  have := shapeB_iff.1 h1
  have := inB_iff.1 h2
  omega
set_option maxHeartbeats 1000000 in
theorem l7Overlap_is (a c i k : Int) (w : World) (h : ovB a c i k = true) : Calls Tryd.prog 40 #[.int .i64 a, .int .i64 c, .int .i64 i, .int .i64 k] w fun e w' => e = .returned (.int .i64 (ovl a c i k)) ∧ w = w' := by
  obtain ⟨p1, p2, p3, p4, e1, e2, e3, e4, b1, b2, b3, b4⟩ := ov_nat h
  obtain ⟨⟨a1, a2⟩, ⟨c1, c2⟩, ⟨i1, i2⟩, k1, k2⟩ := ov_bd h
  clear h
  have HL := Lib.hid (fun W => l1Least_is (p2 : Int) p4 W)
  have HM := Lib.hid (fun W => l1Most_is (p1 : Int) p3 W)
  have HX := Lib.hid (fun W => l1Most_is 0 (min (p2 : Int) p4 - max (p1 : Int) p3) W)
  have HO : Hid (ovl a c i k = max 0 (min (p2 : Int) p4 - max (p1 : Int) p3)) := Lib.hid (by unfold ovl; rw [e1, e2, e3, e4])
  obtain ⟨m, hm⟩ : ∃ m, min (p2 : Int) p4 = m := ⟨_, rfl⟩
  obtain ⟨n, hn⟩ : ∃ m, max (p1 : Int) p3 = m := ⟨_, rfl⟩
  have m1 : 0 ≤ m := by omega
  have m2 : m ≤ 64 := by omega
  have n1 : 0 ≤ n := by omega
  have n2 : n ≤ 64 := by omega
  rw [hm, hn] at HX HO
  rw [hm] at HL
  rw [hn] at HM
  clear hm hn
  go_enter Tryd.func40, Tryd.ntmps40
  go_wp2_with fail
  refine (HL.out _).mono ?_
  rintro e w1 ⟨rfl, rfl⟩
  go_wp2_with fail
  refine (HM.out _).mono ?_
  rintro e w1 ⟨rfl, rfl⟩
  go_wp2_with fail
  refine (HX.out _).mono ?_
  rintro e w1 ⟨rfl, rfl⟩
  go_wp2
  go_ret
  exact ⟨ret_int HO.out.symm, rfl⟩
set_option maxHeartbeats 2000000 in
theorem implOv_any (a c i k : Int) (w : World) : Calls Tryd.prog 70 #[.int .i64 a, .int .i64 c, .int .i64 i, .int .i64 k] w fun e w' => e = .returned (.tuple #[.int .i64 (ovN a c i k), .bool (ovB a c i k)]) ∧ w = w' := by
  cases hs1 : (decide (1 ≤ a) && decide (a ≤ 8)) with
  | false =>
    have hb : ovB a c i k = false := by unfold ovB shapeB; rw [hs1]; rfl
    rw [ovN_no hb, hb]
    have C1 := Lib.hid (fun W => implSide_is a false W hs1)
    clear hs1 hb
    go_enter Tryd.func70, Tryd.ntmps70
    go_wp2_with (go_at_call 69; refine (C1.out _).mono ?_; rintro e w1 ⟨rfl, rfl⟩)
    go_ret2
    exact ⟨rfl, rfl⟩
  | true =>
    have C1 := Lib.hid (fun W => implSide_is a true W hs1)
    cases hs2 : (decide (1 ≤ c) && decide (c ≤ 8)) with
    | false =>
      have hb : ovB a c i k = false := by unfold ovB shapeB; rw [hs2]; simp
      rw [ovN_no hb, hb]
      have C2 := Lib.hid (fun W => implSide_is c false W hs2)
      clear hs1 hs2 hb
      go_enter Tryd.func70, Tryd.ntmps70
      go_wp2_with fail
      refine (C1.out _).mono ?_
      rintro e w1 ⟨rfl, rfl⟩
      go_wp2_with fail
      refine (C2.out _).mono ?_
      rintro e w1 ⟨rfl, rfl⟩
      go_wp2
      go_ret2
      exact ⟨rfl, rfl⟩
    | true =>
      have C2 := Lib.hid (fun W => implSide_is c true W hs2)
      have hs : shapeB a c = true := by unfold shapeB; rw [hs1, hs2]; rfl
      obtain ⟨⟨a1, a2⟩, c1, c2⟩ := shapeB_iff.1 hs
      cases hin : inB a c i k with
      | false =>
        have hb : ovB a c i k = false := by unfold ovB; rw [hs, hin]; rfl
        rw [ovN_no hb, hb]
        have hn := inB_not.1 hin
        clear hs hb hin hs1 hs2
        by_cases h1 : i < 0
        · go_enter Tryd.func70, Tryd.ntmps70
          go_wp2_with fail
          refine (C1.out _).mono ?_
          rintro e w1 ⟨rfl, rfl⟩
          go_wp2_with fail
          refine (C2.out _).mono ?_
          rintro e w1 ⟨rfl, rfl⟩
          go_wp2
          go_ret2
          exact ⟨rfl, rfl⟩
        by_cases h2 : a ≤ i
        · go_enter Tryd.func70, Tryd.ntmps70
          go_wp2_with fail
          refine (C1.out _).mono ?_
          rintro e w1 ⟨rfl, rfl⟩
          go_wp2_with fail
          refine (C2.out _).mono ?_
          rintro e w1 ⟨rfl, rfl⟩
          go_wp2
          go_ret2
          exact ⟨rfl, rfl⟩
        by_cases h3 : k < 0
        · go_enter Tryd.func70, Tryd.ntmps70
          go_wp2_with fail
          refine (C1.out _).mono ?_
          rintro e w1 ⟨rfl, rfl⟩
          go_wp2_with fail
          refine (C2.out _).mono ?_
          rintro e w1 ⟨rfl, rfl⟩
          go_wp2
          go_ret2
          exact ⟨rfl, rfl⟩
        have h4 : c ≤ k := by omega
        clear hn
        go_enter Tryd.func70, Tryd.ntmps70
        go_wp2_with fail
        refine (C1.out _).mono ?_
        rintro e w1 ⟨rfl, rfl⟩
        go_wp2_with fail
        refine (C2.out _).mono ?_
        rintro e w1 ⟨rfl, rfl⟩
        go_wp2
        go_ret2
        exact ⟨rfl, rfl⟩
      | true =>
        have hb : ovB a c i k = true := by unfold ovB; rw [hs, hin]; rfl
        rw [ovN_yes hb, hb]
        obtain ⟨p1, p2, p3, p4, e1, e2, e3, e4, b1, b2, b3, b4⟩ := ov_nat hb
        obtain ⟨⟨i1, i2⟩, k1, k2⟩ := inB_iff.1 hin
        have HO : Hid (ovl a c i k = max 0 (min (p2 : Int) p4 - max (p1 : Int) p3)) := Lib.hid (by unfold ovl; rw [e1, e2, e3, e4])
        generalize ovl a c i k = r at *
        clear hs hb hin hs1 hs2
        go_enter Tryd.func70, Tryd.ntmps70
        go_wp2_with fail
        refine (C1.out _).mono ?_
        rintro e w1 ⟨rfl, rfl⟩
        go_wp2_with fail
        refine (C2.out _).mono ?_
        rintro e w1 ⟨rfl, rfl⟩
        go_wp2
        all_goals (go_ret2; exact ⟨ret_two (by rw [HO.out]; omega), rfl⟩)
end Go.Proofs.YtccplndimdmjpaaDoor
