/- Whether storms and lists of storms are well: the model's side. -/
import Derived.Test.YthceffkkokgpnaaStMath
import Derived.Test.YthceffkkokgpnaaGood
import Derived.Test.YthceffkkokgpnaaLate
namespace Go.Proofs.Ythceffkkokgpnaa
open Go.RowKit
set_option linter.unusedVariables false
set_option linter.unusedSimpArgs false
theorem st_ins (x y n p : Int) : stB x y n p = ((decide (0 ≤ x) && decide (x ≤ 7)) && ((decide (0 ≤ y) && decide (y ≤ 7)) && ((decide (1 ≤ n) && decide (n ≤ 64)) && (decide (-9000 ≤ p) && decide (p ≤ 9000))))) := rfl
set_option maxHeartbeats 2000000 in
theorem specGood_any (x y n p : Int) (w : World) :
    Calls Try.prog 71 #[.agg #[.int .i64 x, .int .i64 y, .int .i64 n, .int .i64 p]] w fun e w' => e = .returned (.bool (stB x y n p)) ∧ Below w.heap.size w w' := by
  rw [st_ins]
  obtain ⟨vx, hx⟩ : ∃ v, (decide (0 ≤ x) && decide (x ≤ 7)) = v := ⟨_, rfl⟩
  obtain ⟨vy, hy⟩ : ∃ v, (decide (0 ≤ y) && decide (y ≤ 7)) = v := ⟨_, rfl⟩
  obtain ⟨vn, hn⟩ : ∃ v, (decide (1 ≤ n) && decide (n ≤ 64)) = v := ⟨_, rfl⟩
  obtain ⟨vp, hp⟩ : ∃ v, (decide (-9000 ≤ p) && decide (p ≤ 9000)) = v := ⟨_, rfl⟩
  rw [hx, hy, hn, hp]
  have HX := Lib.hid (fun W => l1In_is x 0 7 vx W hx)
  have HY := Lib.hid (fun W => l1In_is y 0 7 vy W hy)
  have HN := Lib.hid (fun W => l1In_is n 1 64 vn W hn)
  have HP := Lib.hid (fun W => l1In_is p (-9000) 9000 vp W hp)
  clear hx hy hn hp
  have fin : ∀ o, Below w.heap.size w (w.alloc o) := fun o => below_all _ _
  cases vx
  · go_enter Try.func71, Try.ntmps71
    go_wp2_with (go_at_call 101; (with_reducible refine (HX.out _).mono ?_); rintro e w1 ⟨rfl, rfl⟩)
    go_ret
    exact ⟨rfl, fin _⟩
  · cases vy
    · go_enter Try.func71, Try.ntmps71
      go_wp2_with (go_at_call 101; first | ((with_reducible refine (HX.out _).mono ?_); rintro e w1 ⟨rfl, rfl⟩) | ((with_reducible refine (HY.out _).mono ?_); rintro e w1 ⟨rfl, rfl⟩))
      go_ret
      exact ⟨rfl, fin _⟩
    · cases vn <;> cases vp
      all_goals
        go_enter Try.func71, Try.ntmps71
        go_wp2_with (go_at_call 101; first | ((with_reducible refine (HX.out _).mono ?_); rintro e w1 ⟨rfl, rfl⟩) | ((with_reducible refine (HY.out _).mono ?_); rintro e w1 ⟨rfl, rfl⟩) | ((with_reducible refine (HN.out _).mono ?_); rintro e w1 ⟨rfl, rfl⟩) | ((with_reducible refine (HP.out _).mono ?_); rintro e w1 ⟨rfl, rfl⟩))
        go_ret
        exact ⟨rfl, fin _⟩
set_option maxHeartbeats 4000000 in
theorem specList_any (a : Option Addr) (l : List StT) (c : Nat) (v : Bool) (w : World) (hl : Sts w w.heap.size a l) (hn : l.length ≤ 1048576) (h : stsB l = v) :
    Calls Try.prog 92 #[.slice a l.length c] w fun e w' => e = .returned (.bool v) ∧ Below w.heap.size w w' := by
  have HL := Lib.hid hl
  have HV := Lib.hid h
  clear hl h
  go_enter Try.func92, Try.ntmps92
  go_wp2
  go_loopw [3] (fun i wr => ∃ k : Nat, k ≤ l.length ∧ k ≤ 6 ∧ i = .int .i64 k ∧ Below w.heap.size w wr ∧ ∀ j (x : j < l.length), j < k → stOk l[j] = true) (fun i _ => l.length - (intOf i).toNat)
  case atStart => exact ⟨0, Nat.zero_le _, by omega, rfl, Below.refl _ _, fun _ _ h => by omega⟩
  case round =>
    obtain ⟨k, hk, hk6, rfl, hB, hall⟩ := hrel
    have HB := Lib.hid hB
    have HA := Lib.hid hall
    by_cases hlt : k < l.length
    · by_cases h5 : k ≤ 5
      · obtain ⟨b1, o1, rfl, hb1, c0, c1, c2, c3⟩ := (HL.out.below hB (Nat.le_refl _)).at_ hlt
        have hi : (k : Int) < (l.length : Int) := by omega
        have hi0 : (0 : Int) ≤ (k : Int) := by omega
        have hi5 : (k : Int) ≤ 5 := by omega
        have HNX := Lib.hid (fun (hx : stOk l[k] = true) j (x : j < l.length) (hj : j < k + 1) => show stOk l[j] = true by
          rcases Nat.lt_or_ge j k with h1 | h1
          · exact HA.out j x h1
          · obtain rfl : j = k := by omega
            exact hx)
        have HBAD := Lib.hid (fun (hx : stOk l[k] = false) => sts_bad hlt hx)
        have HC := Lib.hid (fun W => specGood_any l[k].1 l[k].2.1 l[k].2.2.1 l[k].2.2.2 W)
        unfold stOk at HNX HBAD
        clear hB hall
        generalize l[k].1 = x1 at *
        generalize l[k].2.1 = x2 at *
        generalize l[k].2.2.1 = x3 at *
        generalize l[k].2.2.2 = x4 at *
        cases hs : stB x1 x2 x3 x4 with
        | false =>
          obtain rfl : v = false := by rw [← HV.out]; exact HBAD.out hs
          rw [hs] at HC
          clear hs
          go_wp2_with (go_at_call 71; refine (HC.out _).mono ?_; rintro e w1 ⟨rfl, b1⟩; have B1 := Lib.hid b1; clear b1)
          go_ret
          exact ⟨rfl, HB.out.trans (B1.out.mono HB.out.size)⟩
        | true =>
          rw [hs] at HC
          have HS := Lib.hid (HNX.out hs)
          clear hs
          go_wp2_with (go_at_call 71; refine (HC.out _).mono ?_; rintro e w1 ⟨rfl, b1⟩; have B1 := Lib.hid b1; clear b1)
          go_roundw
          case rel => exact ⟨k + 1, by omega, by omega, by go_num, HB.out.trans (B1.out.mono HB.out.size), HS.out⟩
          case measure => simp [intOf]; omega
      · obtain rfl : v = false := by rw [← HV.out]; exact sts_long (by omega)
        have hi : (k : Int) < (l.length : Int) := by omega
        have hi5 : ¬ (k : Int) ≤ 5 := by omega
        have hl5 : ¬ (l.length : Int) ≤ 5 := by omega
        clear hB hall
        go_wp2
        go_ret
        exact ⟨rfl, HB.out⟩
    · obtain rfl : k = l.length := by omega
      by_cases h5 : l.length ≤ 5
      · obtain rfl : v = true := by rw [← HV.out]; exact sts_all h5 (fun j x => HA.out j x x)
        have hl5 : (l.length : Int) ≤ 5 := by omega
        clear hB hall
        go_wp2
        go_ret
        exact ⟨rfl, HB.out⟩
      · obtain rfl : v = false := by rw [← HV.out]; exact sts_long (by omega)
        have hl5 : ¬ (l.length : Int) ≤ 5 := by omega
        clear hB hall
        go_wp2
        go_ret
        exact ⟨rfl, HB.out⟩
theorem specPen_is (x : Int) (v : Bool) (w : World) (h : pnB x = v) :
    Calls Try.prog 76 #[.int .i64 x] w fun e w' => e = .returned (.bool v) ∧ w = w' := by
  have HC := Lib.hid (fun W => l1In_is x 0 20 v W h)
  clear h
  go_enter Try.func76, Try.ntmps76
  go_wp2_with (go_at_call 101; (with_reducible refine (HC.out _).mono ?_); rintro e w1 ⟨rfl, rfl⟩)
  go_ret
  exact ⟨rfl, rfl⟩
end Go.Proofs.Ythceffkkokgpnaa
