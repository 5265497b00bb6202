/- One cell of a field: hasCell, l2Has, l2At. -/
import Derived.Test.YthceffkkokgpnaaBox
namespace Go.Proofs.Ythceffkkokgpnaa
open Go.RowKit
set_option linter.unusedVariables false
set_option linter.unusedSimpArgs false
def inB (wd hg x y : Int) : Bool := decide (0 ≤ x) && decide (x < wd) && (decide (0 ≤ y) && decide (y < hg))
theorem inB_iff {wd hg x y : Int} : inB wd hg x y = true ↔ (0 ≤ x ∧ x < wd) ∧ 0 ≤ y ∧ y < hg := by unfold inB; simp
theorem inB_not {wd hg x y : Int} : inB wd hg x y = false ↔ x < 0 ∨ wd ≤ x ∨ y < 0 ∨ hg ≤ y := by
  cases h : inB wd hg x y with
  | true => have := inB_iff.1 h; constructor; (intro h; cases h); (intro h; omega)
  | false => refine ⟨fun _ => ?_, fun _ => rfl⟩; rcases Classical.em (x < 0 ∨ wd ≤ x ∨ y < 0 ∨ hg ≤ y) with h1 | h1; exact h1; have := (inB_iff (wd := wd) (hg := hg) (x := x) (y := y)).2 (by omega); rw [h] at this; cases this
/-- a cell's place -/
def place (wd x y : Int) : Nat := (y * wd + x).toNat
theorem place_int {wd hg x y : Int} (hs : shapeB wd hg = true) (h : inB wd hg x y = true) : y * wd + x = (place wd x y : Int) ∧ (place wd x y : Int) < wd * hg ∧ 0 ≤ y * wd ∧ y * wd ≤ 64 := by
  obtain ⟨⟨h1, h2⟩, h3, h4⟩ := shapeB_iff.1 hs
  obtain ⟨⟨g1, g2⟩, g3, g4⟩ := inB_iff.1 h
  have e1 : 0 ≤ y * wd := Int.mul_nonneg g3 (by omega)
  have e2 : y * wd ≤ (hg - 1) * wd := Int.mul_le_mul_of_nonneg_right (by omega) (by omega)
  have e3 : (hg - 1) * wd = wd * hg - wd := by rw [Int.sub_mul, Int.one_mul, Int.mul_comm]
  have e4 := prod_bd hs
  unfold place
  omega
theorem place_lt {wd hg x y : Int} {l : List Int} (hg' : goodB wd hg l = true) (h : inB wd hg x y = true) : place wd x y < l.length := by
  have := place_int (good_shape hg') h
  have := good_len hg'
  omega
set_option maxHeartbeats 400000 in
theorem implHas_is (wd hg : Int) (a : Option Addr) (n c : Nat) (x y : Int) (v : Bool) (w : World) (h : inB wd hg x y = v) :
    Calls Try.prog 121 #[.agg #[.int .i64 wd, .int .i64 hg, .slice a n c], .int .i64 x, .int .i64 y] w fun e w' => e = .returned (.bool v) ∧ Below w.heap.size w w' := by
  by_cases h1 : 0 ≤ x
  · by_cases h2 : x < wd
    · by_cases h3 : 0 ≤ y
      · by_cases h4 : y < hg
        · obtain rfl : v = true := by rw [← h]; exact inB_iff.2 ⟨⟨h1, h2⟩, h3, h4⟩
          clear h
          go_enter Try.func121, Try.ntmps121
          go_wp2
          go_ret
          exact ⟨rfl, below_all _ _⟩
        · obtain rfl : v = false := by rw [← h]; exact inB_not.2 (by omega)
          clear h
          go_enter Try.func121, Try.ntmps121
          go_wp2
          go_ret
          exact ⟨rfl, below_all _ _⟩
      · obtain rfl : v = false := by rw [← h]; exact inB_not.2 (by omega)
        clear h
        go_enter Try.func121, Try.ntmps121
        go_wp2
        go_ret
        exact ⟨rfl, below_all _ _⟩
    · obtain rfl : v = false := by rw [← h]; exact inB_not.2 (by omega)
      clear h
      go_enter Try.func121, Try.ntmps121
      go_wp2
      go_ret
      exact ⟨rfl, below_all _ _⟩
  · obtain rfl : v = false := by rw [← h]; exact inB_not.2 (by omega)
    clear h
    go_enter Try.func121, Try.ntmps121
    go_wp2
    go_ret
    exact ⟨rfl, below_all _ _⟩

set_option maxHeartbeats 400000 in
theorem specHas_is (wd hg : Int) (a : Option Addr) (n c : Nat) (x y : Int) (v : Bool) (w : World) (hs : shapeB wd hg = true) (h : inB wd hg x y = v) :
    Calls Try.prog 156 #[.agg #[.int .i64 wd, .int .i64 hg, .slice a n c], .int .i64 x, .int .i64 y] w fun e w' => e = .returned (.bool v) ∧ Below w.heap.size w w' := by
  obtain ⟨⟨s1, s2⟩, s3, s4⟩ := shapeB_iff.1 hs
  clear hs
  cases h1 : (decide (0 ≤ x) && decide (x ≤ wd - 1)) with
  | true =>
    have h2 : (decide (0 ≤ y) && decide (y ≤ hg - 1)) = v := by
      rw [← h]; unfold inB
      have e1 : decide (x < wd) = decide (x ≤ wd - 1) := by rw [decide_eq_decide]; omega
      have e2 : decide (y < hg) = decide (y ≤ hg - 1) := by rw [decide_eq_decide]; omega
      rw [e1, e2, h1]; rfl
    have C1 := Lib.hid (fun W => l1In_is x 0 (wd - 1) true W h1)
    have C2 := Lib.hid (fun W => l1In_is y 0 (hg - 1) v W h2)
    clear h h1 h2
    go_enter Try.func156, Try.ntmps156
    go_wp2_with fail
    refine (C1.out _).mono ?_
    rintro e w1 ⟨rfl, rfl⟩
    go_wp2_with fail
    refine (C2.out _).mono ?_
    rintro e w1 ⟨rfl, rfl⟩
    cases v <;> (go_wp2; go_ret; exact ⟨rfl, below_all _ _⟩)
  | false =>
    have h2 : v = false := by
      rw [← h]; unfold inB
      have e1 : decide (x < wd) = decide (x ≤ wd - 1) := by rw [decide_eq_decide]; omega
      rw [e1, h1]; rfl
    subst h2
    have C1 := Lib.hid (fun W => l1In_is x 0 (wd - 1) false W h1)
    clear h h1
    go_enter Try.func156, Try.ntmps156
    go_wp2_with fail
    refine (C1.out _).mono ?_
    rintro e w1 ⟨rfl, rfl⟩
    go_wp2
    go_ret
    exact ⟨rfl, below_all _ _⟩

set_option maxHeartbeats 400000 in
theorem specAt_any (wd hg : Int) (a : Option Addr) (l : List Int) (c B : Nat) (x y : Int) (k : Nat) (w : World) (hl : Ints .i64 w B a l) (hB : B ≤ w.heap.size) (hk : k < l.length) (hn : l.length ≤ 1048576) (hp : y * wd + x = (k : Int)) (h0 : 0 ≤ y * wd) (h1 : y * wd ≤ 64) (h2 : 0 ≤ x) (h3 : x ≤ 8) :
    Calls Try.prog 157 #[.agg #[.int .i64 wd, .int .i64 hg, .slice a l.length c], .int .i64 x, .int .i64 y] w fun e w' => e = .returned (.int .i64 l[k]) ∧ Below w.heap.size w w' := by
  obtain ⟨b, o, rfl, hb, hc⟩ := (hl.below ((Below.refl B w).alloc hB (.cells #[.int .i64 wd, .int .i64 hg, .slice a l.length c] 54)) (Nat.le_refl _)).at_ hk
  have hi : (k : Int) < (l.length : Int) := by omega
  have hi0 : (0 : Int) ≤ (k : Int) := by omega
  generalize l[k] = z at *
  clear hl
  go_enter Try.func157, Try.ntmps157
  go_wp2
  go_ret
  exact ⟨rfl, below_all _ _⟩

end Go.Proofs.Ythceffkkokgpnaa
