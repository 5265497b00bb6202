/- The model's common divisor, reduced fractions, and their order. -/
import Derived.Test.YtjpiiidjocilcaaShLaw
import Derived.Test.YtjpiiidjocilcaaGood
import Derived.Test.YtjpiiidjocilcaaLate
import Derived.BigQuiet
namespace Go.Proofs.Ytjpiiidjocilcaa
open Go.RowKit
set_option linter.unusedVariables false
set_option linter.unusedSimpArgs false
/-- the greatest common divisor of two numbers that are not negative -/
def gcdZ (a b : Int) : Int := ((Nat.gcd a.toNat b.toNat : Nat) : Int)
theorem gcdZ_zero (x : Nat) : gcdZ x 0 = x := by unfold gcdZ; simp
theorem gcdZ_step {x y : Nat} (h : 0 < y) : gcdZ y ((x : Int).tmod y) = gcdZ x y := by
  unfold gcdZ
  rw [Int.tmod_eq_emod_of_nonneg (by omega), ← Int.natCast_emod]
  simp only [Int.toNat_natCast]
  rw [Nat.gcd_comm y, ← Nat.gcd_rec, Nat.gcd_comm y x]

set_option maxHeartbeats 1000000 in
theorem specGcd_any (x y : Nat) (w : World) (hx : x ≤ 4611686018427387904) (hy : y ≤ 4611686018427387904) :
    Calls Try.prog 85 #[.int .i64 x, .int .i64 y] w fun e w' => e = .returned (.int .i64 (gcdZ x y)) ∧ w = w' := by
  obtain ⟨z, hz⟩ : ∃ z, gcdZ x y = z := ⟨_, rfl⟩
  rw [hz]
  have HZ := Lib.hid hz
  clear hz
  go_enter Try.func85, Try.ntmps85
  go_wp2
  go_loop [0, 1] (fun p q => ∃ m n : Nat, p = .int .i64 m ∧ q = .int .i64 n ∧ m ≤ 4611686018427387904 ∧ n ≤ 4611686018427387904 ∧ gcdZ m n = z) (fun _ q => (intOf q).toNat)
  case atStart => exact ⟨x, y, rfl, rfl, hx, hy, HZ.out⟩
  case round =>
    obtain ⟨m, n, rfl, rfl, hm, hn, hg⟩ := hrel
    have HG := Lib.hid hg
    clear hg
    by_cases h : 0 < n
    · have h0 : (0 : Int) < (n : Int) := by omega
      have hs := Lib.hid (gcdZ_step (x := m) h)
      have e1 : (m : Int).tmod n = ((m % n : Nat) : Int) := by rw [Int.tmod_eq_emod_of_nonneg (by omega), ← Int.natCast_emod]
      have hlt : m % n < n := Nat.mod_lt _ h
      obtain ⟨t, ht⟩ : ∃ t, m % n = t := ⟨_, rfl⟩
      rw [ht] at e1 hlt
      have HT := Lib.hid e1
      clear ht
      have hn0 : ¬ (n : Int) = 0 := by omega
      go_wp2
      go_round
      case rel => exact ⟨n, t, rfl, rfl, hn, by omega, by rw [← HT.out, hs.out]; exact HG.out⟩
      case measure => simp [intOf]; omega
    · obtain rfl : n = 0 := by omega
      go_wp2
      go_ret
      exact ⟨by rw [← HG.out, show ((0 : Nat) : Int) = 0 from rfl, gcdZ_zero]; rfl, rfl⟩

/-- a reduced fraction -/
def redN (a b : Int) : Int := a / gcdZ a b
def redD (a b : Int) : Int := b / gcdZ a b
theorem gcdZ_pos {x y : Nat} (h : 0 < y) : 0 < gcdZ x y := by unfold gcdZ; simp; exact .inr h
set_option maxHeartbeats 1000000 in
theorem specShare_any (x y : Nat) (w : World) (hx : x ≤ 1000000) (hy : y ≤ 1000000) (h0 : 0 < y) :
    Calls Try.prog 64 #[.int .i64 x, .int .i64 y] w fun e w' => e = .returned (.agg #[.int .i64 (redN x y), .int .i64 (redD x y)]) ∧ Below w.heap.size w w' := by
  have HC := Lib.hid (fun W => specGcd_any x y W (by omega) (by omega))
  have hp := gcdZ_pos (x := x) h0
  have HN := Lib.hid (show redN x y = (x : Int) / (gcdZ x y) from rfl)
  have HD := Lib.hid (show redD x y = (y : Int) / (gcdZ x y) from rfl)
  generalize gcdZ x y = z at *
  have hz : ¬ z = 0 := by omega
  have b1 : 0 ≤ (x : Int) / z ∧ (x : Int) / z ≤ x := ⟨Int.ediv_nonneg (by omega) (by omega), Int.ediv_le_self _ (by omega)⟩
  have b2 : 0 ≤ (y : Int) / z ∧ (y : Int) / z ≤ y := ⟨Int.ediv_nonneg (by omega) (by omega), Int.ediv_le_self _ (by omega)⟩
  rw [HN.out, HD.out]
  clear HN HD
  obtain ⟨p, hp1⟩ : ∃ p, (x : Int) / z = p := ⟨_, rfl⟩
  obtain ⟨q, hq1⟩ : ∃ q, (y : Int) / z = q := ⟨_, rfl⟩
  rw [hp1] at b1
  rw [hq1] at b2
  rw [hp1, hq1]
  go_enter Try.func64, Try.ntmps64
  go_wp2_with fail
  refine (HC.out _).mono ?_
  rintro e w1 ⟨rfl, rfl⟩
  go_wp2_with fail
  go_region
  go_wp2
  refine bodyPost_ret (v := .agg #[.int .i64 p, .int .i64 q]) (by simp [results, Try.results64, go_sem]) rfl ⟨rfl, ?_⟩
  exact (below_all _ _).drew
end Go.Proofs.Ytjpiiidjocilcaa
