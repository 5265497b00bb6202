/- RoundTenths, the model's and the program's, and the walk of FnExactRoundTenths. -/
import Derived.Test.YtnafnkilmiebiaaDoorUnit
namespace Go.Proofs.YtnafnkilmiebiaaDoor
open Go.RowKit
set_option linter.unusedVariables false
set_option linter.unusedSimpArgs false
def stepB (s : Int) : Bool := decide (1 ≤ s ∧ s ≤ 1000)
def rtB (x s : Int) : Bool := tenB x && stepB s && tenB (rdiv x s * s)
def rtN (x s : Int) : Int := if rtB x s = true then rdiv x s * s else 0
theorem rdiv_mul_bd {x s : Int} (h0 : 1 ≤ s) (h1 : s ≤ 1000) (h2 : -99999 ≤ x) (h3 : x ≤ 99999) : -200000 ≤ rdiv x s * s ∧ rdiv x s * s ≤ 200000 ∧ -201000 ≤ rdiv x s ∧ rdiv x s ≤ 201000 := by
  have hs : (0 : Int) < 2 * s := by omega
  by_cases h : x < 0
  · rw [rdiv_neg h]
    have a := Int.ediv_mul_le (-2 * x + s) (b := 2 * s) (by omega)
    have b : 0 ≤ (-2 * x + s) / (2 * s) := Int.ediv_nonneg (by omega) (by omega)
    have c : (-2 * x + s) / (2 * s) ≤ -2 * x + s := Int.ediv_le_self _ (by omega)
    have d : 0 ≤ (-2 * x + s) / (2 * s) * s := Int.mul_nonneg b (by omega)
    generalize (-2 * x + s) / (2 * s) = q at *
    have e : q * (2 * s) = 2 * (q * s) := by rw [Int.mul_left_comm]
    have f : -q * s = -(q * s) := Int.neg_mul q s
    rw [f]
    rw [e] at a
    generalize q * s = p at *
    omega
  · rw [rdiv_pos h]
    have a := Int.ediv_mul_le (2 * x + s) (b := 2 * s) (by omega)
    have b : 0 ≤ (2 * x + s) / (2 * s) := Int.ediv_nonneg (by omega) (by omega)
    have c : (2 * x + s) / (2 * s) ≤ 2 * x + s := Int.ediv_le_self _ (by omega)
    have d : 0 ≤ (2 * x + s) / (2 * s) * s := Int.mul_nonneg b (by omega)
    generalize (2 * x + s) / (2 * s) = q at *
    have e : q * (2 * s) = 2 * (q * s) := by rw [Int.mul_left_comm]
    rw [e] at a
    generalize q * s = p at *
    omega

set_option maxHeartbeats 400000 in
theorem implRT_any (x s : Int) (w : World) : Calls Tryd.prog 27 #[.int .i64 x, .int .i64 s] w fun e w' => e = .returned (.tuple #[.int .i64 (rtN x s), .bool (rtB x s)]) ∧ w = w' := by
  cases hx : tenB x with
  | false =>
    have hb : rtB x s = false := by unfold rtB; rw [hx]; rfl
    have hn : rtN x s = 0 := if_neg (by rw [hb]; simp)
    rw [hn, hb]
    have C1 := Lib.hid (fun W => implTen_is x false W hx)
    clear hb hn hx
    go_enter Tryd.func27, Tryd.ntmps27
    go_wp2_with fail
    refine (C1.out _).mono ?_
    rintro e w1 ⟨rfl, rfl⟩
    go_wp2
    go_ret2
    exact ⟨rfl, rfl⟩
  | true =>
    have C1 := Lib.hid (fun W => implTen_is x true W hx)
    have hx' := ten_iff.1 hx
    by_cases h1 : s < 1
    · have hb : rtB x s = false := by unfold rtB stepB; rw [hx, decide_eq_false (by omega)]; rfl
      have hn : rtN x s = 0 := if_neg (by rw [hb]; simp)
      rw [hn, hb]
      clear hb hn hx
      go_enter Tryd.func27, Tryd.ntmps27
      go_wp2_with fail
      refine (C1.out _).mono ?_
      rintro e w1 ⟨rfl, rfl⟩
      go_wp2
      go_ret2
      exact ⟨rfl, rfl⟩
    · by_cases h2 : 1000 < s
      · have hb : rtB x s = false := by unfold rtB stepB; rw [hx, decide_eq_false (by omega)]; rfl
        have hn : rtN x s = 0 := if_neg (by rw [hb]; simp)
        rw [hn, hb]
        clear hb hn hx
        go_enter Tryd.func27, Tryd.ntmps27
        go_wp2_with fail
        refine (C1.out _).mono ?_
        rintro e w1 ⟨rfl, rfl⟩
        go_wp2
        go_ret2
        exact ⟨rfl, rfl⟩
      · have hs : stepB s = true := by unfold stepB; rw [decide_eq_true_iff]; omega
        obtain ⟨b1, b2, b3, b4⟩ := rdiv_mul_bd (x := x) (s := s) (by omega) (by omega) hx'.1 hx'.2
        have HR := Lib.hid (fun W => implRound_any x s W (by omega) (by omega) (by omega) (by omega))
        have hbb : rtB x s = tenB (rdiv x s * s) := by unfold rtB; rw [hx, hs]; rfl
        have hmul : s * rdiv x s = rdiv x s * s := Int.mul_comm _ _
        cases hv : tenB (rdiv x s * s) with
        | false =>
          have hn : rtN x s = 0 := if_neg (by rw [hbb, hv]; simp)
          rw [hn, hbb, hv]
          have C2 := Lib.hid (fun W => implTen_is _ false W hv)
          clear hbb hn hx hs hv
          generalize hq : rdiv x s = q at *
          generalize hp : q * s = p at *
          clear hq hp
          go_enter Tryd.func27, Tryd.ntmps27
          go_wp2_with fail
          refine (C1.out _).mono ?_
          rintro e w1 ⟨rfl, rfl⟩
          go_wp2_with fail
          refine (HR.out _).mono ?_
          rintro e w1 ⟨rfl, rfl⟩
          go_wp2_with fail
          refine (C2.out _).mono ?_
          rintro e w1 ⟨rfl, rfl⟩
          go_wp2
          go_ret2
          exact ⟨rfl, rfl⟩
        | true =>
          have hn : rtN x s = rdiv x s * s := if_pos (by rw [hbb, hv])
          rw [hn, hbb, hv]
          have C2 := Lib.hid (fun W => implTen_is _ true W hv)
          clear hbb hn hx hs hv
          generalize hq : rdiv x s = q at *
          generalize hp : q * s = p at *
          clear hq hp
          go_enter Tryd.func27, Tryd.ntmps27
          go_wp2_with fail
          refine (C1.out _).mono ?_
          rintro e w1 ⟨rfl, rfl⟩
          go_wp2_with fail
          refine (HR.out _).mono ?_
          rintro e w1 ⟨rfl, rfl⟩
          go_wp2_with fail
          refine (C2.out _).mono ?_
          rintro e w1 ⟨rfl, rfl⟩
          go_wp2
          go_ret2
          exact ⟨rfl, rfl⟩

set_option maxHeartbeats 400000 in
theorem specRT_any (x s : Int) (w : World) : Calls Tryd.prog 28 #[.int .i64 x, .int .i64 s] w fun e w' => e = .returned (.tuple #[.int .i64 (rtN x s), .bool (rtB x s)]) ∧ w = w' := by
  cases hx : tenB x with
  | false =>
    have hb : rtB x s = false := by unfold rtB; rw [hx]; rfl
    have hn : rtN x s = 0 := if_neg (by rw [hb]; simp)
    rw [hn, hb]
    have C1 := Lib.hid (fun W => specTen_is x false W hx)
    clear hb hn hx
    go_enter Tryd.func28, Tryd.ntmps28
    go_wp2_with fail
    refine (C1.out _).mono ?_
    rintro e w1 ⟨rfl, rfl⟩
    go_wp2
    go_ret2
    exact ⟨rfl, rfl⟩
  | true =>
    have C1 := Lib.hid (fun W => specTen_is x true W hx)
    have hx' := ten_iff.1 hx
    cases hs : stepB s with
    | false =>
      have C3 := Lib.hid (fun W => in_at s 1 1000 false W hs)
      have hb : rtB x s = false := by unfold rtB; rw [hx, hs]; rfl
      have hn : rtN x s = 0 := if_neg (by rw [hb]; simp)
      rw [hn, hb]
      clear hb hn hx hs
      go_enter Tryd.func28, Tryd.ntmps28
      go_wp2_with fail
      refine (C1.out _).mono ?_
      rintro e w1 ⟨rfl, rfl⟩
      go_wp2_with fail
      refine (C3.out _).mono ?_
      rintro e w1 ⟨rfl, rfl⟩
      go_wp2
      go_ret2
      exact ⟨rfl, rfl⟩
    | true =>
      have C3 := Lib.hid (fun W => in_at s 1 1000 true W hs)
      have hss : 1 ≤ s ∧ s ≤ 1000 := of_decide_eq_true hs
      obtain ⟨b1, b2, b3, b4⟩ := rdiv_mul_bd (x := x) (s := s) hss.1 hss.2 hx'.1 hx'.2
      have HR := Lib.hid (fun W => specRound_any x s W (by omega) (by omega) (by omega) (by omega))
      have hbb : rtB x s = tenB (rdiv x s * s) := by unfold rtB; rw [hx, hs]; rfl
      cases hv : tenB (rdiv x s * s) with
      | false =>
        have hn : rtN x s = 0 := if_neg (by rw [hbb, hv]; simp)
        rw [hn, hbb, hv]
        have C2 := Lib.hid (fun W => specTen_is _ false W hv)
        clear hbb hn hx hs hv
        generalize hq : rdiv x s = q at *
        generalize hp : q * s = p at *
        clear hq
        go_enter Tryd.func28, Tryd.ntmps28
        go_wp2_with fail
        refine (C1.out _).mono ?_
        rintro e w1 ⟨rfl, rfl⟩
        go_wp2_with fail
        refine (C3.out _).mono ?_
        rintro e w1 ⟨rfl, rfl⟩
        go_wp2_with fail
        refine (HR.out _).mono ?_
        rintro e w1 ⟨rfl, rfl⟩
        go_wp2_with fail
        refine (C2.out _).mono ?_
        rintro e w1 ⟨rfl, rfl⟩
        go_wp2
        go_ret2
        exact ⟨rfl, rfl⟩
      | true =>
        have hn : rtN x s = rdiv x s * s := if_pos (by rw [hbb, hv])
        rw [hn, hbb, hv]
        have C2 := Lib.hid (fun W => specTen_is _ true W hv)
        clear hbb hn hx hs hv
        generalize hq : rdiv x s = q at *
        generalize hp : q * s = p at *
        clear hq
        go_enter Tryd.func28, Tryd.ntmps28
        go_wp2_with fail
        refine (C1.out _).mono ?_
        rintro e w1 ⟨rfl, rfl⟩
        go_wp2_with fail
        refine (C3.out _).mono ?_
        rintro e w1 ⟨rfl, rfl⟩
        go_wp2_with fail
        refine (HR.out _).mono ?_
        rintro e w1 ⟨rfl, rfl⟩
        go_wp2_with fail
        refine (C2.out _).mono ?_
        rintro e w1 ⟨rfl, rfl⟩
        go_wp2
        go_ret2
        exact ⟨rfl, rfl⟩

end Go.Proofs.YtnafnkilmiebiaaDoor
