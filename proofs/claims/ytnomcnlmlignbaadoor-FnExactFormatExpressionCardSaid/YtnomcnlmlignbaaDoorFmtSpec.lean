/- l5Text, the model's text of an expression. -/
import Derived.Test.YtnomcnlmlignbaaDoorFmtMath
import Derived.Test.YtnomcnlmlignbaaDoorDepth
import Derived.Deep.RegionHeld3
namespace Go.Proofs.YtnomcnlmlignbaaDoor
open Go.RowKit
set_option linter.unusedVariables false
set_option linter.unusedSimpArgs false
theorem cat_run3 (P : Program) (a b : ByteArray) (h : a.size + b.size ≤ 100000) (W : World) : (Op.stringOp .add a b).run P W = .ok (.string (a ++ b)) W := run_string_add_sum W a b (by omega)
theorem sum_is (k v : Int) (w : World) : Calls Tryd.prog 117 #[.agg #[.int .i64 k, .int .i64 v]] w fun e w' => e = .returned (.bool (sumK k)) ∧ Below w.heap.size w w' := by
  have HB := Lib.hid (below_all w (.cells #[.int .i64 k, .int .i64 v] 112))
  by_cases h3 : k = 3
  · subst h3
    go_enter Tryd.func117, Tryd.ntmps117
    go_wp2
    go_ret
    exact ⟨rfl, HB.out⟩
  · have h3b : (k == 3) = false := by rw [beq_eq_false_iff_ne]; exact h3
    by_cases h4 : k = 4
    · subst h4
      go_enter Tryd.func117, Tryd.ntmps117
      go_wp2
      go_ret
      exact ⟨rfl, HB.out⟩
    · have h4b : (k == 4) = false := by rw [beq_eq_false_iff_ne]; exact h4
      have R := Lib.hid (show sumK k = false by unfold sumK; rw [h3b, h4b]; rfl)
      clear h3 h4
      go_enter Tryd.func117, Tryd.ntmps117
      go_wp2
      go_ret
      exact ⟨by rw [R.out]; rfl, HB.out⟩
set_option maxRecDepth 100000 in
set_option maxHeartbeats 1000000 in
theorem text_leaf (b o i : Nat) (l : List Nd) (c : Nat) (k v : Int) (w : World) (hk : arity k v = some 0) (hi : i < l.length) (q0 : w.cell? ⟨b, o + i * 2, none⟩ = some (.int .i64 k)) (q1 : w.cell? ⟨b, o + i * 2 + 1, none⟩ = some (.int .i64 v)) :
    Calls Tryd.prog 90 #[.slice (some ⟨b, o, none⟩) l.length c, .int .i64 (i : Int)] w fun e w' => e = .returned (.string (txtE (.n0 k v))) ∧ Below w.heap.size w w' := by
  have i1 : (i : Int) < (l.length : Int) := by omega
  have i0 : (0 : Int) ≤ (i : Int) := by omega
  have HB := Lib.hid (below_all w (.cells #[.int .i64 k, .int .i64 v] 112))
  by_cases h1 : k = 1
  · subst h1
    have hv : v = 0 ∨ v = 1 ∨ v = 2 ∨ v = 3 := by
      unfold arity at hk
      rw [if_pos rfl] at hk
      split at hk
      · omega
      · cases hk
    clear hk
    rcases hv with rfl | rfl | rfl | rfl
    all_goals
      go_enter Tryd.func90, Tryd.ntmps90
      go_wp2
      go_ret
      exact ⟨by first | rfl | (unfold txtE varS; rfl), HB.out⟩
  · have hv : k = 2 ∧ 0 ≤ v ∧ v ≤ 9000 := by
      unfold arity at hk
      rw [if_neg h1] at hk
      (repeat' split at hk) <;> first | omega | (exfalso; simp at hk)
    obtain ⟨rfl, v0, v9⟩ := hv
    obtain ⟨n, rfl⟩ : ∃ n : Nat, v = (n : Int) := ⟨v.toNat, by omega⟩
    have HN := Lib.hid (num_nat n (by omega))
    clear hk
    go_enter Tryd.func90, Tryd.ntmps90
    go_wp2_with fail
    refine (HN.out _).mono ?_
    rintro e w1 ⟨rfl, d⟩
    have HB2 := Lib.hid (HB.out.trans (d.below _))
    clear d
    go_wp2
    go_ret
    exact ⟨by first | rfl | (unfold txtE digS; rfl), HB2.out⟩

end Go.Proofs.YtnomcnlmlignbaaDoor
