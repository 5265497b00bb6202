/- The model's arity of a node; its test of an expression. -/
import Derived.Test.YtnomcnlmlignbaaDoorNodes
import Derived.Test.YtnomcnlmlignbaaDoorGood
namespace Go.Proofs.YtnomcnlmlignbaaDoor
open Go.RowKit
set_option linter.unusedVariables false
set_option linter.unusedSimpArgs false
def arI (k v : Int) : Int := match arity k v with | some a => (a : Int) | none => -1
theorem arI_some {k v : Int} {a : Nat} (h : arity k v = some a) : arI k v = a := by unfold arI; rw [h]
theorem arI_none {k v : Int} (h : arity k v = none) : arI k v = -1 := by unfold arI; rw [h]
theorem arity_1 {v : Int} (b : Bool) (h : (decide (0 ≤ v) && decide (v ≤ 3)) = b) : arI 1 v = if b = true then 0 else -1 := by
  subst h
  unfold arI arity
  rw [if_pos rfl]
  by_cases h1 : 0 ≤ v <;> by_cases h2 : v ≤ 3 <;> simp [h1, h2]
theorem arity_2 {v : Int} (b : Bool) (h : (decide (0 ≤ v) && decide (v ≤ 9000)) = b) : arI 2 v = if b = true then 0 else -1 := by
  subst h
  unfold arI arity
  rw [if_neg (by decide), if_pos rfl]
  by_cases h1 : 0 ≤ v <;> by_cases h2 : v ≤ 9000 <;> simp [h1, h2]
theorem arity_7 {v : Int} (b : Bool) (h : (decide (0 ≤ v) && decide (v ≤ 9000)) = b) : arI 7 v = if b = true then 1 else -1 := by
  subst h
  unfold arI arity
  rw [if_neg (by decide), if_neg (by decide), if_pos rfl]
  by_cases h1 : 0 ≤ v <;> by_cases h2 : v ≤ 9000 <;> simp [h1, h2]
theorem arity_m {k v : Int} (h1 : 3 ≤ k) (h2 : k ≤ 6) : arI k v = if v = 0 then 2 else -1 := by
  unfold arI arity
  rw [if_neg (by omega), if_neg (by omega), if_neg (by omega), if_pos ⟨h1, h2⟩]
  by_cases h : v = 0 <;> simp [h]
theorem arity_o {k v : Int} (h1 : ¬ k = 1) (h2 : ¬ k = 2) (h3 : ¬ k = 7) (h4 : ¬ (3 ≤ k ∧ k ≤ 6)) : arI k v = -1 := by
  unfold arI arity
  rw [if_neg h1, if_neg h2, if_neg h3, if_neg h4]

set_option maxHeartbeats 4000000 in
theorem specArity_any (k v : Int) (w : World) :
    Calls Tryd.prog 115 #[.agg #[.int .i64 k, .int .i64 v]] w fun e w' => e = .returned (.int .i64 (arI k v)) ∧ Below w.heap.size w w' := by
  have HB := Lib.hid ((Below.refl w.heap.size w).alloc (Nat.le_refl _) (.cells #[.int .i64 k, .int .i64 v] 112))
  by_cases h1 : k = 1
  · subst h1
    have LK := Lib.hid (fun W => l1In_is 1 3 6 false W rfl)
    cases hb : (decide (0 ≤ v) && decide (v ≤ 3)) with
    | true =>
      have R := Lib.hid (arity_1 true hb)
      have LV := Lib.hid (fun W => l1In_is v 0 3 true W hb)
      clear hb
      go_enter Tryd.func115, Tryd.ntmps115
      go_wp2_with (first | (go_at_call 100; first | ((with_reducible refine (LV.out _).mono ?_); rintro e w8 ⟨rfl, rfl⟩) | ((with_reducible refine (LK.out _).mono ?_); rintro e w8 ⟨rfl, rfl⟩)) | fail)
      go_ret
      exact ⟨by rw [R.out]; rfl, HB.out⟩
    | false =>
      have R := Lib.hid (arity_1 false hb)
      have LV := Lib.hid (fun W => l1In_is v 0 3 false W hb)
      clear hb
      go_enter Tryd.func115, Tryd.ntmps115
      go_wp2_with (first | (go_at_call 100; first | ((with_reducible refine (LV.out _).mono ?_); rintro e w8 ⟨rfl, rfl⟩) | ((with_reducible refine (LK.out _).mono ?_); rintro e w8 ⟨rfl, rfl⟩)) | fail)
      go_ret
      exact ⟨by rw [R.out]; rfl, HB.out⟩
  · have e1 : (k == 1) = false := by rw [beq_eq_false_iff_ne]; exact h1
    by_cases h2 : k = 2
    · subst h2
      have LK := Lib.hid (fun W => l1In_is 2 3 6 false W rfl)
      clear e1 h1
      cases hb : (decide (0 ≤ v) && decide (v ≤ 9000)) with
      | true =>
        have R := Lib.hid (arity_2 true hb)
        have LV := Lib.hid (fun W => l1In_is v 0 9000 true W hb)
        clear hb
        go_enter Tryd.func115, Tryd.ntmps115
        go_wp2_with (first | (go_at_call 100; first | ((with_reducible refine (LV.out _).mono ?_); rintro e w8 ⟨rfl, rfl⟩) | ((with_reducible refine (LK.out _).mono ?_); rintro e w8 ⟨rfl, rfl⟩)) | fail)
        go_ret
        exact ⟨by rw [R.out]; rfl, HB.out⟩
      | false =>
        have R := Lib.hid (arity_2 false hb)
        have LV := Lib.hid (fun W => l1In_is v 0 9000 false W hb)
        clear hb
        go_enter Tryd.func115, Tryd.ntmps115
        go_wp2_with (first | (go_at_call 100; first | ((with_reducible refine (LV.out _).mono ?_); rintro e w8 ⟨rfl, rfl⟩) | ((with_reducible refine (LK.out _).mono ?_); rintro e w8 ⟨rfl, rfl⟩)) | fail)
        go_ret
        exact ⟨by rw [R.out]; rfl, HB.out⟩
    · have e2 : (k == 2) = false := by rw [beq_eq_false_iff_ne]; exact h2
      by_cases h3 : k = 7
      · subst h3
        have LK := Lib.hid (fun W => l1In_is 7 3 6 false W rfl)
        clear e1 h1 e2 h2
        cases hb : (decide (0 ≤ v) && decide (v ≤ 9000)) with
        | true =>
          have R := Lib.hid (arity_7 true hb)
          have LV := Lib.hid (fun W => l1In_is v 0 9000 true W hb)
          clear hb
          go_enter Tryd.func115, Tryd.ntmps115
          go_wp2_with (first | (go_at_call 100; first | ((with_reducible refine (LV.out _).mono ?_); rintro e w8 ⟨rfl, rfl⟩) | ((with_reducible refine (LK.out _).mono ?_); rintro e w8 ⟨rfl, rfl⟩)) | fail)
          go_ret
          exact ⟨by rw [R.out]; rfl, HB.out⟩
        | false =>
          have R := Lib.hid (arity_7 false hb)
          have LV := Lib.hid (fun W => l1In_is v 0 9000 false W hb)
          clear hb
          go_enter Tryd.func115, Tryd.ntmps115
          go_wp2_with (first | (go_at_call 100; first | ((with_reducible refine (LV.out _).mono ?_); rintro e w8 ⟨rfl, rfl⟩) | ((with_reducible refine (LK.out _).mono ?_); rintro e w8 ⟨rfl, rfl⟩)) | fail)
          go_ret
          exact ⟨by rw [R.out]; rfl, HB.out⟩
      · have e3 : (k == 7) = false := by rw [beq_eq_false_iff_ne]; exact h3
        by_cases h4 : 3 ≤ k ∧ k ≤ 6
        · have LK := Lib.hid (fun W => l1In_is k 3 6 true W (by rw [decide_eq_true h4.1, decide_eq_true h4.2]; rfl))
          have R := Lib.hid (arity_m (v := v) h4.1 h4.2)
          clear h1 h2 h3 h4
          by_cases hv : v = 0
          · subst hv
            go_enter Tryd.func115, Tryd.ntmps115
            go_wp2_with (first | (go_at_call 100; ((with_reducible refine (LK.out _).mono ?_); rintro e w8 ⟨rfl, rfl⟩)) | fail)
            go_ret
            exact ⟨by rw [R.out]; rfl, HB.out⟩
          · have ev : (v == 0) = false := by rw [beq_eq_false_iff_ne]; exact hv
            have R2 := Lib.hid (R.out.trans (if_neg hv))
            clear hv R
            go_enter Tryd.func115, Tryd.ntmps115
            go_wp2_with (first | (go_at_call 100; ((with_reducible refine (LK.out _).mono ?_); rintro e w8 ⟨rfl, rfl⟩)) | fail)
            go_ret
            exact ⟨by rw [R2.out]; rfl, HB.out⟩
        · have LK := Lib.hid (fun W => l1In_is k 3 6 false W (by rw [← Bool.decide_and]; exact decide_eq_false h4))
          have R := Lib.hid (arity_o (v := v) h1 h2 h3 h4)
          clear h1 h2 h3 h4
          go_enter Tryd.func115, Tryd.ntmps115
          go_wp2_with (first | (go_at_call 100; ((with_reducible refine (LK.out _).mono ?_); rintro e w8 ⟨rfl, rfl⟩)) | fail)
          go_ret
          exact ⟨by rw [R.out]; rfl, HB.out⟩

set_option maxRecDepth 100000 in
set_option maxHeartbeats 4000000 in
theorem specExprGood_any (a : Option Addr) (l : List Nd) (c : Nat) (w : World) (hl : Nds w w.heap.size a l) (hn : l.length ≤ 1048576) :
    Calls Tryd.prog 89 #[.slice a l.length c] w fun e w' => e = .returned (.bool (exprB l)) ∧ Below w.heap.size w w' := by
  have HL := Lib.hid hl
  clear hl
  by_cases h15 : (l.length : Int) ≤ 15
  · have HE := Lib.hid (exprB_short (l := l) (by omega))
    go_enter Tryd.func89, Tryd.ntmps89
    go_wp2
    go_loopw [3, 4] (fun o i wr => ∃ k n : Nat, k ≤ l.length ∧ n ≤ k ∧ i = .int .i64 k ∧ o = .int .i64 n ∧ opens (l.take k) 0 = some n ∧ Below w.heap.size w wr) (fun _ i _ => l.length - (intOf i).toNat)
    case atStart => exact ⟨0, 0, Nat.zero_le _, Nat.le_refl _, rfl, rfl, by simp [opens], Below.refl _ _⟩
    case round =>
      obtain ⟨k, n, hk, hnk, rfl, rfl, ho, hB⟩ := hrel
      have HO := Lib.hid ho
      have HB := Lib.hid hB
      clear ho hB
      by_cases hlt : k < l.length
      · obtain ⟨b, o, rfl, hb, q0, q1⟩ := (HL.out.below HB.out (Nat.le_refl _)).at_ hlt
        have hi : (k : Int) < (l.length : Int) := by omega
        have hi0 : (0 : Int) ≤ (k : Int) := by omega
        cases ha : arity l[k].1 l[k].2 with
        | none =>
          have R := Lib.hid (HE.out.symm.trans (exprB_none (opens_stop hlt HO.out (by rw [ha]; intro a h; cases h))))
          have HC := Lib.hid (fun W => specArity_any l[k].1 l[k].2 W)
          rw [arI_none ha] at HC
          clear ha
          generalize l[k].1 = x at *
          generalize l[k].2 = y at *
          go_wp2_with (go_at_call 115; refine (HC.out _).mono ?_; rintro e w1 ⟨rfl, b1⟩; have HB1 := Lib.hid (HB.out.trans (b1.mono HB.out.size)); clear b1)
          go_ret
          exact ⟨by rw [HE.out, R.out]; rfl, HB1.out⟩
        | some m =>
          have HC := Lib.hid (fun W => specArity_any l[k].1 l[k].2 W)
          have hm2 := arity_le ha
          rw [arI_some ha] at HC
          by_cases hmn : m ≤ n
          · have R := Lib.hid (opens_step hlt HO.out ha hmn)
            clear ha
            generalize l[k].1 = x at *
            generalize l[k].2 = y at *
            have hm0 : (0 : Int) ≤ (m : Int) := by omega
            have hmn' : (m : Int) ≤ (n : Int) := by omega
            go_wp2_with (go_at_call 115; refine (HC.out _).mono ?_; rintro e w1 ⟨rfl, b1⟩; have HB1 := Lib.hid (HB.out.trans (b1.mono HB.out.size)); clear b1)
            go_roundw
            case rel => exact ⟨k + 1, n - m + 1, by omega, by omega, by go_num, by go_num, R.out, HB1.out⟩
            case measure => simp [intOf]; omega
          · have R := Lib.hid (HE.out.symm.trans (exprB_none (opens_stop hlt HO.out (by rw [ha]; intro a h; injection h with h; omega))))
            clear ha
            generalize l[k].1 = x at *
            generalize l[k].2 = y at *
            have hm0 : (0 : Int) ≤ (m : Int) := by omega
            have hmn' : (n : Int) < (m : Int) := by omega
            go_wp2_with (go_at_call 115; refine (HC.out _).mono ?_; rintro e w1 ⟨rfl, b1⟩; have HB1 := Lib.hid (HB.out.trans (b1.mono HB.out.size)); clear b1)
            go_ret
            exact ⟨by rw [HE.out, R.out]; rfl, HB1.out⟩
      · obtain rfl : k = l.length := by omega
        have hO := HO.out
        rw [List.take_length] at hO
        by_cases h1 : n = 1
        · subst h1
          have R := Lib.hid (show exprB l = true by rw [HE.out, hO]; simp)
          clear hO HO
          go_wp2
          go_ret
          exact ⟨by rw [R.out]; rfl, HB.out⟩
        · have R := Lib.hid (show exprB l = false by rw [HE.out, hO]; simp [h1])
          have e1 : ((n : Int) == 1) = false := by rw [beq_eq_false_iff_ne]; omega
          clear hO HO
          go_wp2
          go_ret
          exact ⟨by rw [R.out]; rfl, HB.out⟩
  · have R := Lib.hid (exprB_long (l := l) (by omega))
    have h15' : (15 : Int) < (l.length : Int) := by omega
    go_enter Tryd.func89, Tryd.ntmps89
    go_wp2
    go_ret
    exact ⟨by rw [R.out]; rfl, Below.refl _ _⟩
end Go.Proofs.YtnomcnlmlignbaaDoor
