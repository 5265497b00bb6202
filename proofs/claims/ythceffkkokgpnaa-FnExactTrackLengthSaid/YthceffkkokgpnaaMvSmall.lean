/- A motion: whether it is one, the opposite one; the model's and the program's. -/
import Derived.Test.YthceffkkokgpnaaMvMath
import Derived.Test.YthceffkkokgpnaaSame
import Derived.Test.YthceffkkokgpnaaMBox
namespace Go.Proofs.Ythceffkkokgpnaa
open Go.RowKit
set_option linter.unusedVariables false
set_option linter.unusedSimpArgs false
set_option maxHeartbeats 1000000 in
theorem implShift_is (n : Int) (v : Bool) (w : World) (h : shB1 n = v) : Calls Try.prog 158 #[.int .i64 n] w fun e w' => e = .returned (.bool v) ∧ w = w' := by
  subst h
  unfold shB1
  by_cases h1 : -2 ≤ n
  · by_cases h2 : n ≤ 2
    · go_enter Try.func158, Try.ntmps158
      go_wp2
      go_ret
      exact ⟨by simp [h1, h2], rfl⟩
    · go_enter Try.func158, Try.ntmps158
      go_wp2
      go_ret
      exact ⟨by simp [h1, h2], rfl⟩
  · go_enter Try.func158, Try.ntmps158
    go_wp2
    go_ret
    exact ⟨by simp [show ¬ -2 ≤ n by omega], rfl⟩
set_option maxHeartbeats 1000000 in
theorem implMot_is (x y : Int) (v : Bool) (w : World) (h : motB x y = v) : Calls Try.prog 116 #[.agg #[.int .i64 x, .int .i64 y]] w fun e w' => e = .returned (.bool v) ∧ Below w.heap.size w w' := by
  subst h
  cases h1 : shB1 x with
  | false =>
    have C1 := Lib.hid (fun W => implShift_is x false W h1)
    rw [show motB x y = false by unfold motB; rw [h1]; rfl]
    clear h1
    go_enter Try.func116, Try.ntmps116
    go_wp2_with (go_at_call 158; (with_reducible refine (C1.out _).mono ?_); rintro e w1 ⟨rfl, rfl⟩)
    go_ret
    exact ⟨rfl, below_all _ _⟩
  | true =>
    have C1 := Lib.hid (fun W => implShift_is x true W h1)
    obtain ⟨v, hv⟩ : ∃ v, shB1 y = v := ⟨_, rfl⟩
    have C2 := Lib.hid (fun W => implShift_is y v W hv)
    rw [show motB x y = v by unfold motB; rw [h1, hv]; rfl]
    clear h1 hv
    go_enter Try.func116, Try.ntmps116
    go_wp2_with (go_at_call 158; first | ((with_reducible refine (C1.out _).mono ?_); rintro e w1 ⟨rfl, rfl⟩) | ((with_reducible refine (C2.out _).mono ?_); rintro e w1 ⟨rfl, rfl⟩))
    go_ret
    exact ⟨rfl, below_all _ _⟩
set_option maxHeartbeats 1000000 in
theorem specMot_is (x y : Int) (v : Bool) (w : World) (h : motB x y = v) : Calls Try.prog 114 #[.agg #[.int .i64 x, .int .i64 y]] w fun e w' => e = .returned (.bool v) ∧ Below w.heap.size w w' := by
  subst h
  cases h1 : shB1 x with
  | false =>
    have C1 := Lib.hid (fun W => l1In_is x (-2) 2 false W h1)
    rw [show motB x y = false by unfold motB; rw [h1]; rfl]
    clear h1
    go_enter Try.func114, Try.ntmps114
    go_wp2_with (go_at_call 101; (with_reducible refine (C1.out _).mono ?_); rintro e w1 ⟨rfl, rfl⟩)
    go_ret
    exact ⟨rfl, below_all _ _⟩
  | true =>
    have C1 := Lib.hid (fun W => l1In_is x (-2) 2 true W h1)
    obtain ⟨v, hv⟩ : ∃ v, shB1 y = v := ⟨_, rfl⟩
    have C2 := Lib.hid (fun W => l1In_is y (-2) 2 v W hv)
    rw [show motB x y = v by unfold motB; rw [h1, hv]; rfl]
    clear h1 hv
    go_enter Try.func114, Try.ntmps114
    go_wp2_with (go_at_call 101; first | ((with_reducible refine (C1.out _).mono ?_); rintro e w1 ⟨rfl, rfl⟩) | ((with_reducible refine (C2.out _).mono ?_); rintro e w1 ⟨rfl, rfl⟩))
    go_ret
    exact ⟨rfl, below_all _ _⟩
/-- the opposite motion, or none -/
def rvX (x y : Int) : Int := if motB x y = true then -x else 0
def rvY (x y : Int) : Int := if motB x y = true then -y else 0
set_option maxHeartbeats 1000000 in
theorem implRev_any (x y : Int) (w : World) : Calls Try.prog 61 #[.agg #[.int .i64 x, .int .i64 y]] w fun e w' => e = .returned (.tuple #[.agg #[.int .i64 (rvX x y), .int .i64 (rvY x y)], .bool (motB x y)]) ∧ Below w.heap.size w w' := by
  have M0 := (MBox.new w 83 x y).below (below_all _ (.cells #[.int .i64 0, .int .i64 0] 83))
  have R0 := MBox.new (w.alloc (.cells #[.int .i64 x, .int .i64 y] 83)) 83 0 0
  have B0 := ((Below.refl w.heap.size w).alloc (Nat.le_refl _) (.cells #[.int .i64 x, .int .i64 y] 83)).alloc (by simp) (.cells #[.int .i64 0, .int .i64 0] 83)
  obtain ⟨W0, hW0⟩ : ∃ W, (w.alloc (.cells #[.int .i64 x, .int .i64 y] 83)).alloc (.cells #[.int .i64 0, .int .i64 0] 83) = W := ⟨_, rfl⟩
  rw [hW0] at M0 R0 B0
  simp only [World.size_alloc] at R0
  have HW := Lib.hid hW0
  have HB := Lib.hid B0
  have HM := Lib.hid M0
  have HR := Lib.hid R0
  clear hW0 B0 M0 R0
  cases h : motB x y with
  | false =>
    have C1 := Lib.hid (fun W => implMot_is x y false W h)
    rw [show rvX x y = 0 from if_neg (by rw [h]; simp), show rvY x y = 0 from if_neg (by rw [h]; simp)]
    clear h
    go_enter Try.func61, Try.ntmps61
    go_wp2_with fail
    rw [HW.out]
    refine (C1.out _).mono ?_
    rintro e w1 ⟨rfl, b1⟩
    obtain ⟨r0, r1⟩ := (HR.out.below b1).cells
    have HB1 := Lib.hid (below_then HB.out b1)
    have f0 : w1.frozen? ⟨w.heap.size + 1, 0, none⟩ = false := (HR.out.below b1).frozen _
    have f1 : w1.frozen? ⟨w.heap.size + 1, 1, none⟩ = false := (HR.out.below b1).frozen _
    clear b1
    go_wp2
    refine bodyPost_ret (v := .tuple #[.agg #[.int .i64 0, .int .i64 0], .bool false]) (by simp [results, Try.results61, go_sem, r0, r1]) rfl ⟨rfl, ?_⟩
    exact (HB1.out.setCell (p := ⟨w.heap.size + 1, 0, none⟩) (by simp) _).setCell (p := ⟨w.heap.size + 1, 1, none⟩) (by simp) _
  | true =>
    have C1 := Lib.hid (fun W => implMot_is x y true W h)
    obtain ⟨⟨h1, h2⟩, h3, h4⟩ := motB_iff.1 h
    rw [show rvX x y = -x from if_pos h, show rvY x y = -y from if_pos h]
    clear h
    go_enter Try.func61, Try.ntmps61
    go_wp2_with fail
    rw [HW.out]
    refine (C1.out _).mono ?_
    rintro e w1 ⟨rfl, b1⟩
    obtain ⟨r0, r1⟩ := (HR.out.below b1).cells
    obtain ⟨m2, m3⟩ := (HM.out.below b1).cells
    have HB1 := Lib.hid (below_then HB.out b1)
    have f0 : w1.frozen? ⟨w.heap.size + 1, 0, none⟩ = false := (HR.out.below b1).frozen _
    have f1 : w1.frozen? ⟨w.heap.size + 1, 1, none⟩ = false := (HR.out.below b1).frozen _
    clear b1
    go_wp2
    refine bodyPost_ret (v := .tuple #[.agg #[.int .i64 (-x), .int .i64 (-y)], .bool true]) (by simp [results, Try.results61, go_sem, r0, r1]) rfl ⟨rfl, ?_⟩
    exact (HB1.out.setCell (p := ⟨w.heap.size + 1, 0, none⟩) (by simp) _).setCell (p := ⟨w.heap.size + 1, 1, none⟩) (by simp) _
end Go.Proofs.Ythceffkkokgpnaa
