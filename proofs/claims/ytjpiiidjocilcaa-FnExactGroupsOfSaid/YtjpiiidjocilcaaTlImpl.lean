/- Validity of a tally: the program's answer is tlB. -/
import Derived.Test.YtjpiiidjocilcaaTlGood
namespace Go.Proofs.Ytjpiiidjocilcaa
open Go.RowKit
set_option linter.unusedVariables false
set_option linter.unusedSimpArgs false
set_option maxHeartbeats 4000000 in
theorem implTlIs_any (a b : Option Addr) (l r : List Int) (c d : Nat) (w : World) (hl : Ints .i64 w w.heap.size a l) (hr : Ints .i64 w w.heap.size b r) :
    Calls Try.prog 16 #[.agg #[.slice a l.length c, .slice b r.length d]] w fun e w' => e = .returned (.bool (tlB l r)) ∧ Below w.heap.size w w' := by
  obtain ⟨v, h⟩ : ∃ v, tlB l r = v := ⟨_, rfl⟩
  rw [h]
  have HV := Lib.hid h
  clear h
  by_cases h1 : l.length = 11
  · by_cases h2 : r.length = 11
    · have n1 : ((l.length : Int) != 11) = false := by simp [h1]
      have n2 : ((r.length : Int) != 11) = false := by simp [h2]
      have HL := Lib.hid (ints_alloc hl (.cells #[.slice a l.length c, .slice b r.length d] 27))
      have HR := Lib.hid (ints_alloc hr (.cells #[.slice a l.length c, .slice b r.length d] 27))
      have H1 := Lib.hid h1
      have H2 := Lib.hid h2
      clear h1 h2 hl hr
      go_enter Try.func16, Try.ntmps16
      go_wp2
      clear n1 n2
      go_loopw [19] (fun i wr => ∃ k : Nat, k ≤ l.length ∧ i = .int .i64 k ∧ wr = (w.alloc (.cells #[.slice a l.length c, .slice b r.length d] 27)) ∧ ∀ j (x : j < l.length) (y : j < r.length), j < k → caseB l[j] r[j] = true) (fun i _ => l.length - (intOf i).toNat)
      case atStart => exact ⟨0, Nat.zero_le _, rfl, rfl, fun _ _ _ h => by omega⟩
      case round =>
        obtain ⟨k, hk, rfl, rfl, hall⟩ := hrel
        have HA := Lib.hid hall
        by_cases hlt : k < l.length
        · have hlt2 : k < r.length := by rw [H2.out, ← H1.out]; exact hlt
          obtain ⟨b1, o1, rfl, hb1, hc1⟩ := HL.out.at_ hlt
          obtain ⟨b2, o2, rfl, hb2, hc2⟩ := HR.out.at_ hlt2
          simp at hb1 hb2
          have h11 : l.length ≤ 11 := Nat.le_of_eq H1.out
          have hi : (k : Int) < (l.length : Int) := by omega
          have hi0 : (0 : Int) ≤ (k : Int) := by omega
          have hi2 : (k : Int) < (r.length : Int) := by omega
          have HBAD := Lib.hid (fun h => tl_bad hlt hlt2 h)
          have HNX := Lib.hid (fun (hx : caseB l[k] r[k] = true) j (x : j < l.length) (y : j < r.length) (hj : j < k + 1) => show caseB l[j] r[j] = true by
            rcases Nat.lt_or_ge j k with h1 | h1
            · exact HA.out j x y h1
            · obtain rfl : j = k := by omega
              exact hx)
          clear hall
          generalize l[k] = x at *
          generalize r[k] = y at *
          by_cases y0 : y < 0
          · obtain rfl : v = false := by rw [← HV.out]; exact HBAD.out (by unfold caseB; simp; omega)
            go_wp2
            go_ret
            exact ⟨rfl, below_all _ _⟩
          · by_cases yx : y > x
            · obtain rfl : v = false := by rw [← HV.out]; exact HBAD.out (by unfold caseB; simp; omega)
              go_wp2
              go_ret
              exact ⟨rfl, below_all _ _⟩
            · by_cases x1 : x > 1000
              · obtain rfl : v = false := by rw [← HV.out]; exact HBAD.out (by unfold caseB; simp; omega)
                go_wp2
                go_ret
                exact ⟨rfl, below_all _ _⟩
              · have HY := Lib.hid (show caseB x y = true by unfold caseB; simp; omega)
                go_wp2
                go_roundw
                case rel => exact ⟨k + 1, by omega, by go_num, by trivial, HNX.out HY.out⟩
                case measure => simp [intOf]; omega
        · obtain rfl : k = l.length := by omega
          obtain rfl : v = true := by rw [← HV.out]; exact tl_all H1.out H2.out (fun j x y => HA.out j x y x)
          clear hall
          go_wp2
          go_ret
          exact ⟨rfl, below_all _ _⟩
    · obtain rfl : v = false := by rw [← HV.out]; exact tl_short2 h2
      have n1 : ((l.length : Int) != 11) = false := by simp [h1]
      have n2 : ((r.length : Int) != 11) = true := by simp; omega
      clear h1 h2
      go_enter Try.func16, Try.ntmps16
      go_wp2
      go_ret
      exact ⟨rfl, below_all _ _⟩
  · obtain rfl : v = false := by rw [← HV.out]; exact tl_short h1
    have n1 : ((l.length : Int) != 11) = true := by simp; omega
    clear h1
    go_enter Try.func16, Try.ntmps16
    go_wp2
    go_ret
    exact ⟨rfl, below_all _ _⟩
end Go.Proofs.Ytjpiiidjocilcaa
