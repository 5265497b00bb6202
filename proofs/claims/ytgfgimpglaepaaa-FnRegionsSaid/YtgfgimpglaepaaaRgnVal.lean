/- Whether a list is a region: the model's and the program's answers are regB. -/
import Derived.Test.YtgfgimpglaepaaaRgnMath
import Derived.Test.YtgfgimpglaepaaaGood
import Derived.IntWalk
namespace Go.Proofs.Ytgfgimpglaepaaa
open Go.RowKit
set_option linter.unusedVariables false
set_option linter.unusedSimpArgs false
set_option maxHeartbeats 2000000 in
theorem rising_is (a : Option Addr) (l : List Int) (c B : Nat) (hi : Int) (v : Bool) (w : World) (hl : Ints .i64 w B a l) (hn : l.length ≤ 1048576) (h0 : -1 ≤ hi) (h1 : hi ≤ 64) (h : risB (hi + 1) l = v) :
    Calls Try.prog 91 #[.slice a l.length c, .int .i64 0, .int .i64 hi] w (Quiet (.bool v) w) := by
  have HL := Lib.hid hl
  have HV := Lib.hid h
  clear hl h
  go_enter Try.func91, Try.ntmps91
  go_wp2
  go_loopw [7] (fun i wr => ∃ k : Nat, k ≤ l.length ∧ i = .int .i64 k ∧ (∀ j (h : j < l.length), j < k → prevL l j < l[j] ∧ l[j] < hi + 1) ∧ Drew w wr) (fun i _ => l.length - (intOf i).toNat)
  case atStart => exact ⟨0, Nat.zero_le _, rfl, fun _ _ h => by omega, Drew.refl w⟩
  case round =>
    obtain ⟨k, hk, rfl, hall, hw⟩ := hrel
    have HA := Lib.hid hall
    have hp := ris_prev k hk hall
    clear hall
    have HW := Lib.hid hw
    by_cases hlt : k < l.length
    · obtain ⟨b, o, rfl, hb, hc⟩ := (HL.out.drew hw).at_ hlt
      clear hw
      have hi' : (k : Int) < (l.length : Int) := by omega
      have hi0 : (0 : Int) ≤ (k : Int) := by omega
      have HNO := Lib.hid (fun (h : ¬ (prevL l k < l[k] ∧ l[k] < hi + 1)) => ris_no hlt h)
      have HYES := Lib.hid (fun (h : prevL l k < l[k] ∧ l[k] < hi + 1) => fun j (hj : j < l.length) (hjk : j < k + 1) => (by
        rcases Nat.lt_or_ge j k with h2 | h2
        · exact HA.out j hj h2
        · obtain rfl : j = k := by omega
          exact h : prevL l j < l[j] ∧ l[j] < hi + 1))
      cases k with
      | zero =>
        rw [prevL_zero] at hp HNO HYES
        rw [Nat.add_zero] at hc
        have d0 : decide ((0 : Int) < 0) = false := by decide
        generalize l[0] = x at *
        cases hx : (decide (0 ≤ x) && decide (x ≤ hi)) with
        | true =>
          have C := Lib.hid (fun W => l1In_is x 0 hi true W hx)
          simp only [Bool.and_eq_true, decide_eq_true_eq] at hx
          have HY := Lib.hid (HYES.out ⟨by omega, by omega⟩)
          clear hx HNO HYES
          go_wp2
          go_quiet ((go_at_call 76; exact Calls.quiet_of_same (quietSame (C.out _))))
          go_wp2
          go_roundw
          case rel => exact ⟨1, by omega, by go_num, HY.out, HW.out.more _⟩
          case measure => simp [intOf]; omega
        | false =>
          have C := Lib.hid (fun W => l1In_is x 0 hi false W hx)
          have hx2 : ¬ (0 ≤ x ∧ x ≤ hi) := by simpa using hx
          obtain rfl : v = false := by rw [← HV.out]; exact HNO.out (fun h => hx2 ⟨by omega, by omega⟩)
          clear hx hx2 HNO HYES
          go_wp2
          go_quiet ((go_at_call 76; exact Calls.quiet_of_same (quietSame (C.out _))))
          go_wp2
          go_ret
          exact ⟨rfl, HW.out.more _⟩
      | succ j =>
        have hj : j < l.length := by omega
        have hc' := ((HL.out.below (HW.out.below B) (Nat.le_refl _)).at_ hj)
        obtain ⟨b', o', e', hb', hc'⟩ := hc'
        have e2 := Option.some.inj e'
        injection e2 with e3 e4
        subst e3 e4
        clear e' hb'
        rw [prevL_succ hj] at hp HNO HYES
        obtain ⟨x, hx⟩ : ∃ x, l[j + 1] = x := ⟨_, rfl⟩
        obtain ⟨y, hy⟩ : ∃ y, l[j] = y := ⟨_, rfl⟩
        rw [hx] at hc HNO HYES
        rw [hy] at hc' hp HNO HYES
        have HX := Lib.hid hx
        have HY0 := Lib.hid hy
        clear hx hy
        have g1 : IntKind.i64.wrap ((j : Int) + 1 - 1) = (j : Int) := by rw [show (j : Int) + 1 - 1 = (j : Int) by omega]; exact IntWalk.i64_in _ (by omega)
        have g1b : IntKind.i64.wrap (j : Int) = (j : Int) := IntWalk.i64_in _ (by omega)
        have g2 : (0 : Int) ≤ (j : Int) := by omega
        have g3 : (j : Int) < (l.length : Int) := by omega
        have g4 : decide ((0 : Int) < (j : Int) + 1) = true := by (have : (0 : Int) < (j : Int) + 1 := by omega); exact decide_eq_true this
        cases hx : (decide (0 ≤ x) && decide (x ≤ hi)) with
        | true =>
          have C := Lib.hid (fun W => l1In_is x 0 hi true W hx)
          simp only [Bool.and_eq_true, decide_eq_true_eq] at hx
          by_cases hyx : y < x
          · have HY := Lib.hid (HYES.out ⟨hyx, by omega⟩)
            clear hx HNO HYES
            go_wp2
            go_quiet ((go_at_call 76; exact Calls.quiet_of_same (quietSame (C.out _))))
            go_wp2
            go_roundw
            case rel => exact ⟨j + 2, by omega, by go_num, HY.out, HW.out.more _⟩
            case measure => simp [intOf]; omega
          · obtain rfl : v = false := by rw [← HV.out]; exact HNO.out (fun h => hyx h.1)
            clear hx HNO HYES
            go_wp2
            go_quiet ((go_at_call 76; exact Calls.quiet_of_same (quietSame (C.out _))))
            go_wp2
            go_ret
            exact ⟨rfl, HW.out.more _⟩
        | false =>
          have C := Lib.hid (fun W => l1In_is x 0 hi false W hx)
          have hx2 : ¬ (0 ≤ x ∧ x ≤ hi) := by simpa using hx
          obtain rfl : v = false := by rw [← HV.out]; exact HNO.out (fun h => hx2 ⟨by omega, by omega⟩)
          clear hx hx2 HNO HYES
          go_wp2
          go_quiet ((go_at_call 76; exact Calls.quiet_of_same (quietSame (C.out _))))
          go_wp2
          go_ret
          exact ⟨rfl, HW.out.more _⟩
    · obtain rfl : v = true := by rw [← HV.out]; exact ris_iff.2 (fun j hj => HA.out j hj (by omega))
      clear hw
      go_wp2
      go_ret
      exact ⟨rfl, HW.out⟩
set_option maxHeartbeats 1000000 in
theorem specRegion_is (wd hg : Int) (a : Option Addr) (l : List Int) (c B : Nat) (v : Bool) (w : World) (hl : Ints .i64 w B a l) (hn : l.length ≤ 1048576) (h : regB wd hg l = v) :
    Calls Try.prog 60 #[.int .i64 wd, .int .i64 hg, .slice a l.length c] w (Quiet (.bool v) w) := by
  cases hs : shapeB wd hg with
  | false =>
    obtain rfl : v = false := by rw [← h]; exact reg_no_shape hs
    have C1 := Lib.hid (fun W => specShape_is wd hg false W hs)
    clear h hs hl
    go_enter Try.func60, Try.ntmps60
    go_wp2_with fail
    refine (C1.out _).mono ?_
    rintro e w1 ⟨rfl, rfl⟩
    go_wp2
    go_ret
    exact ⟨rfl, Drew.refl _⟩
  | true =>
    have C1 := Lib.hid (fun W => specShape_is wd hg true W hs)
    have hp := prod_bd hs
    obtain ⟨p, hpp⟩ : ∃ p : Int, wd * hg = p := ⟨_, rfl⟩
    have hr : risB (p - 1 + 1) l = v := by rw [← h, ← hpp, show wd * hg - 1 + 1 = wd * hg by omega]; unfold regB; rw [hs]; rfl
    rw [hpp] at hp
    have C2 := Lib.hid (fun W h => rising_is a l c B (p - 1) v W h hn (by omega) (by omega) hr)
    have HL := Lib.hid hl
    clear h hs hr hl
    go_enter Try.func60, Try.ntmps60
    go_wp2_with fail
    refine (C1.out _).mono ?_
    rintro e w1 ⟨rfl, rfl⟩
    go_wp2_with fail
    refine (C2.out _ HL.out).mono ?_
    rintro e w1 ⟨rfl, d1⟩
    have D1 := Lib.hid d1
    clear d1
    cases v <;> (go_wp2; go_ret; exact ⟨rfl, D1.out⟩)
set_option maxHeartbeats 1000000 in
theorem implRegion_is (wd hg : Int) (a : Option Addr) (l : List Int) (c B : Nat) (v : Bool) (w : World) (hl : Ints .i64 w B a l) (hn : l.length ≤ 1048576) (h : regB wd hg l = v) :
    Calls Try.prog 56 #[.int .i64 wd, .int .i64 hg, .slice a l.length c] w fun e w' => e = .returned (.bool v) ∧ w = w' := by
  cases hs : shapeB wd hg with
  | false =>
    obtain rfl : v = false := by rw [← h]; exact reg_no_shape hs
    have C1 := Lib.hid (fun W => implShape_is wd hg false W hs)
    clear h hs hl
    go_enter Try.func56, Try.ntmps56
    go_wp2_with (go_at_call 88; refine (C1.out _).mono ?_; rintro e w1 ⟨rfl, rfl⟩)
    go_ret
    exact ⟨rfl, rfl⟩
  | true =>
    have C1 := Lib.hid (fun W => implShape_is wd hg true W hs)
    have hp := prod_bd hs
    have HV := Lib.hid h
    have HS := Lib.hid hs
    have HL := Lib.hid hl
    obtain ⟨p, hpp⟩ : ∃ p : Int, wd * hg = p := ⟨_, rfl⟩
    rw [hpp] at hp
    have HP := Lib.hid hpp
    clear h hs hl hpp
    go_enter Try.func56, Try.ntmps56
    go_wp2_with (go_at_call 88; refine (C1.out _).mono ?_; rintro e w1 ⟨rfl, rfl⟩)
    go_loop [7, 16] (fun m i => ∃ k : Nat, k ≤ l.length ∧ i = .int .i64 k ∧ m = .int .i64 (prevL l k) ∧ ∀ j (h : j < l.length), j < k → prevL l j < l[j] ∧ l[j] < wd * hg) (fun _ i => l.length - (intOf i).toNat)
    case atStart => exact ⟨0, Nat.zero_le _, rfl, rfl, fun _ _ h => by omega⟩
    case round =>
      obtain ⟨k, hk, rfl, rfl, hall⟩ := hrel
      have HA := Lib.hid hall
      have hpv := ris_prev k hk hall
      clear hall
      by_cases hlt : k < l.length
      · obtain ⟨b, o, rfl, hb, hc⟩ := HL.out.at_ hlt
        have hi : (k : Int) < (l.length : Int) := by omega
        have hi0 : (0 : Int) ≤ (k : Int) := by omega
        have HNO := Lib.hid (fun (h : ¬ (prevL l k < l[k] ∧ l[k] < wd * hg)) => reg_no_at hlt h)
        have HYES := Lib.hid (fun (h : prevL l k < l[k] ∧ l[k] < wd * hg) => fun j (hj : j < l.length) (hjk : j < k + 1) => (by
          rcases Nat.lt_or_ge j k with h2 | h2
          · exact HA.out j hj h2
          · obtain rfl : j = k := by omega
            exact h : prevL l j < l[j] ∧ l[j] < wd * hg))
        have HPS := Lib.hid (prevL_succ hlt)
        generalize l[k] = x at *
        generalize prevL l k = m at *
        have hmul := HP.out
        by_cases h1 : m < x
        · by_cases h2 : x < p
          · have HY := Lib.hid (HYES.out ⟨h1, by rw [HP.out]; exact h2⟩)
            clear HYES HNO
            go_wp2
            go_round
            case rel => exact ⟨k + 1, by omega, by go_num, by rw [HPS.out], HY.out⟩
            case measure => simp [intOf]; omega
          · obtain rfl : v = false := by rw [← HV.out]; exact HNO.out (fun h => h2 (by rw [← HP.out]; exact h.2))
            clear HYES HNO
            go_wp2
            go_ret
            exact ⟨rfl, rfl⟩
        · obtain rfl : v = false := by rw [← HV.out]; exact HNO.out (fun h => h1 h.1)
          clear HYES HNO
          go_wp2
          go_ret
          exact ⟨rfl, rfl⟩
      · obtain rfl : v = true := by rw [← HV.out]; exact reg_yes HS.out (fun j hj => HA.out j hj (by omega))
        go_wp2
        go_ret
        exact ⟨rfl, rfl⟩
end Go.Proofs.Ytgfgimpglaepaaa
