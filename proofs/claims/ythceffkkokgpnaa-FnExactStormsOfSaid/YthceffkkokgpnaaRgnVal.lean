/- Whether a list is a region: the model's and the program's answers are regB. -/
import Derived.Test.YthceffkkokgpnaaRgnMath
import Derived.Test.YthceffkkokgpnaaGood
import Derived.IntWalk
namespace Go.Proofs.Ythceffkkokgpnaa
open Go.RowKit
set_option linter.unusedVariables false
set_option linter.unusedSimpArgs false
set_option maxHeartbeats 1000000 in
theorem implRegion_is (wd hg : Int) (a : Option Addr) (l : List Int) (c B : Nat) (v : Bool) (w : World) (hl : Ints .i64 w B a l) (hn : l.length ≤ 1048576) (h : regB wd hg l = v) :
    Calls Try.prog 136 #[.int .i64 wd, .int .i64 hg, .slice a l.length c] w fun e w' => e = .returned (.bool v) ∧ w = w' := by
  cases hs : shapeB wd hg with
  | false =>
    obtain rfl : v = false := by rw [← h]; exact reg_no_shape hs
    have C1 := Lib.hid (fun W => implShape_is wd hg false W hs)
    clear h hs hl
    go_enter Try.func136, Try.ntmps136
    go_wp2_with (go_at_call 159; refine (C1.out _).mono ?_; rintro e w1 ⟨rfl, rfl⟩)
    go_ret
    exact ⟨rfl, rfl⟩
  | true =>
    have C1 := Lib.hid (fun W => implShape_is wd hg true W hs)
    have hp := prod_bd hs
    have HV := Lib.hid h
    have HS := Lib.hid hs
    have HL := Lib.hid hl
    obtain ⟨p, hpp⟩ : ∃ p : Int, wd * hg = p := ⟨_, rfl⟩
    rw [hpp] at hp
    have HP := Lib.hid hpp
    clear h hs hl hpp
    go_enter Try.func136, Try.ntmps136
    go_wp2_with (go_at_call 159; refine (C1.out _).mono ?_; rintro e w1 ⟨rfl, rfl⟩)
    go_loop [7, 16] (fun m i => ∃ k : Nat, k ≤ l.length ∧ i = .int .i64 k ∧ m = .int .i64 (prevL l k) ∧ ∀ j (h : j < l.length), j < k → prevL l j < l[j] ∧ l[j] < wd * hg) (fun _ i => l.length - (intOf i).toNat)
    case atStart => exact ⟨0, Nat.zero_le _, rfl, rfl, fun _ _ h => by omega⟩
    case round =>
      obtain ⟨k, hk, rfl, rfl, hall⟩ := hrel
      have HA := Lib.hid hall
      have hpv := ris_prev k hk hall
      clear hall
      by_cases hlt : k < l.length
      · obtain ⟨b, o, rfl, hb, hc⟩ := HL.out.at_ hlt
        have hi : (k : Int) < (l.length : Int) := by omega
        have hi0 : (0 : Int) ≤ (k : Int) := by omega
        have HNO := Lib.hid (fun (h : ¬ (prevL l k < l[k] ∧ l[k] < wd * hg)) => reg_no_at hlt h)
        have HYES := Lib.hid (fun (h : prevL l k < l[k] ∧ l[k] < wd * hg) => fun j (hj : j < l.length) (hjk : j < k + 1) => (by
          rcases Nat.lt_or_ge j k with h2 | h2
          · exact HA.out j hj h2
          · obtain rfl : j = k := by omega
            exact h : prevL l j < l[j] ∧ l[j] < wd * hg))
        have HPS := Lib.hid (prevL_succ hlt)
        generalize l[k] = x at *
        generalize prevL l k = m at *
        have hmul := HP.out
        by_cases h1 : m < x
        · by_cases h2 : x < p
          · have HY := Lib.hid (HYES.out ⟨h1, by rw [HP.out]; exact h2⟩)
            clear HYES HNO
            go_wp2
            go_round
            case rel => exact ⟨k + 1, by omega, by go_num, by rw [HPS.out], HY.out⟩
            case measure => simp [intOf]; omega
          · obtain rfl : v = false := by rw [← HV.out]; exact HNO.out (fun h => h2 (by rw [← HP.out]; exact h.2))
            clear HYES HNO
            go_wp2
            go_ret
            exact ⟨rfl, rfl⟩
        · obtain rfl : v = false := by rw [← HV.out]; exact HNO.out (fun h => h1 h.1)
          clear HYES HNO
          go_wp2
          go_ret
          exact ⟨rfl, rfl⟩
      · obtain rfl : v = true := by rw [← HV.out]; exact reg_yes HS.out (fun j hj => HA.out j hj (by omega))
        go_wp2
        go_ret
        exact ⟨rfl, rfl⟩
end Go.Proofs.Ythceffkkokgpnaa
