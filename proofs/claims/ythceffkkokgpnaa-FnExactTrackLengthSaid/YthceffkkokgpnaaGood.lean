/- Validity of a field: the model's and the program's answers are goodB; shapes, cells. -/
import Derived.Test.YthceffkkokgpnaaFieldLaw
namespace Go.Proofs.Ythceffkkokgpnaa
open Go.RowKit
set_option linter.unusedVariables false
set_option linter.unusedSimpArgs false
theorem l1In_is (x a b : Int) (v : Bool) (w : World) (h : (decide (a ≤ x) && decide (x ≤ b)) = v) :
    Calls Try.prog 101 #[.int .i64 x, .int .i64 a, .int .i64 b] w fun e w' => e = .returned (.bool v) ∧ w = w' := by
  by_cases h1 : a ≤ x
  · by_cases h2 : x ≤ b
    · have d1 : decide (a ≤ x) = true := decide_eq_true h1
      have d2 : decide (x ≤ b) = true := decide_eq_true h2
      rw [d1, d2] at h
      subst h
      go_enter Try.func101, Try.ntmps101
      go_wp2
      go_ret
      exact ⟨rfl, rfl⟩
    · have d1 : decide (a ≤ x) = true := decide_eq_true h1
      have d2 : decide (x ≤ b) = false := decide_eq_false h2
      rw [d1, d2] at h
      subst h
      go_enter Try.func101, Try.ntmps101
      go_wp2
      go_ret
      exact ⟨rfl, rfl⟩
  · have d1 : decide (a ≤ x) = false := decide_eq_false h1
    rw [d1] at h
    subst h
    go_enter Try.func101, Try.ntmps101
    go_wp2
    go_ret
    exact ⟨rfl, rfl⟩

theorem specShape_is (wd hg : Int) (v : Bool) (w : World) (h : shapeB wd hg = v) :
    Calls Try.prog 132 #[.int .i64 wd, .int .i64 hg] w fun e w' => e = .returned (.bool v) ∧ w = w' := by
  cases h1 : (decide (1 ≤ wd) && decide (wd ≤ 8)) with
  | true =>
    have h2 : (decide (1 ≤ hg) && decide (hg ≤ 8)) = v := by rw [← h]; unfold shapeB; rw [h1]; rfl
    have C1 := Lib.hid (fun W => l1In_is wd 1 8 true W h1)
    have C2 := Lib.hid (fun W => l1In_is hg 1 8 v W h2)
    clear h h1 h2
    go_enter Try.func132, Try.ntmps132
    go_wp2_with fail
    refine (C1.out _).mono ?_
    rintro e w1 ⟨rfl, rfl⟩
    go_wp2_with fail
    refine (C2.out _).mono ?_
    rintro e w1 ⟨rfl, rfl⟩
    cases v <;> (go_wp2; go_ret; exact ⟨rfl, rfl⟩)
  | false =>
    have h2 : v = false := by rw [← h]; unfold shapeB; rw [h1]; rfl
    subst h2
    have C1 := Lib.hid (fun W => l1In_is wd 1 8 false W h1)
    clear h h1
    go_enter Try.func132, Try.ntmps132
    go_wp2_with fail
    refine (C1.out _).mono ?_
    rintro e w1 ⟨rfl, rfl⟩
    go_wp2
    go_ret
    exact ⟨rfl, rfl⟩

theorem specValue_is (n : Int) (v : Bool) (w : World) (h : cellB n = v) :
    Calls Try.prog 133 #[.int .i64 n] w fun e w' => e = .returned (.bool v) ∧ w = w' := by
  cases v with
  | true =>
    rcases cellB_iff.1 h with rfl | ⟨h1, h2⟩
    · clear h
      go_enter Try.func133, Try.ntmps133
      go_wp2
      go_ret
      exact ⟨rfl, rfl⟩
    · have C1 := Lib.hid (fun W => l1In_is n (-9000) 9000 true W (by simp; omega))
      have e1 : (n == -9999) = false := by rw [beq_eq_false_iff_ne]; omega
      clear h
      go_enter Try.func133, Try.ntmps133
      go_wp2_with (go_at_call 101; refine (C1.out _).mono ?_; rintro e w1 ⟨rfl, rfl⟩)
      go_ret
      exact ⟨rfl, rfl⟩
  | false =>
    obtain ⟨h0, h1⟩ := cellB_not.1 h
    have C1 := Lib.hid (fun W => l1In_is n (-9000) 9000 false W (by rw [Bool.and_eq_false_iff]; rcases h1 with h1 | h1; (left; simp; omega); (right; simp; omega)))
    have e1 : (n == -9999) = false := by rw [beq_eq_false_iff_ne]; omega
    clear h h0 h1
    go_enter Try.func133, Try.ntmps133
    go_wp2_with (go_at_call 101; refine (C1.out _).mono ?_; rintro e w1 ⟨rfl, rfl⟩)
    go_ret
    exact ⟨rfl, rfl⟩

theorem implSide_is (n : Int) (v : Bool) (w : World) (h : (decide (1 ≤ n) && decide (n ≤ 8)) = v) :
    Calls Try.prog 183 #[.int .i64 n] w fun e w' => e = .returned (.bool v) ∧ w = w' := by
  by_cases h1 : 1 ≤ n
  · by_cases h2 : n ≤ 8
    · have d1 : decide (1 ≤ n) = true := decide_eq_true h1
      have d2 : decide (n ≤ 8) = true := decide_eq_true h2
      rw [d1, d2] at h
      subst h
      go_enter Try.func183, Try.ntmps183
      go_wp2
      go_ret
      exact ⟨rfl, rfl⟩
    · have d1 : decide (1 ≤ n) = true := decide_eq_true h1
      have d2 : decide (n ≤ 8) = false := decide_eq_false h2
      rw [d1, d2] at h
      subst h
      go_enter Try.func183, Try.ntmps183
      go_wp2
      go_ret
      exact ⟨rfl, rfl⟩
  · have d1 : decide (1 ≤ n) = false := decide_eq_false h1
    rw [d1] at h
    subst h
    go_enter Try.func183, Try.ntmps183
    go_wp2
    go_ret
    exact ⟨rfl, rfl⟩

theorem implShape_is (wd hg : Int) (v : Bool) (w : World) (h : shapeB wd hg = v) :
    Calls Try.prog 159 #[.int .i64 wd, .int .i64 hg] w fun e w' => e = .returned (.bool v) ∧ w = w' := by
  cases h1 : (decide (1 ≤ wd) && decide (wd ≤ 8)) with
  | true =>
    have h2 : (decide (1 ≤ hg) && decide (hg ≤ 8)) = v := by rw [← h]; unfold shapeB; rw [h1]; rfl
    have C1 := Lib.hid (fun W => implSide_is wd true W h1)
    have C2 := Lib.hid (fun W => implSide_is hg v W h2)
    clear h h1 h2
    go_enter Try.func159, Try.ntmps159
    go_wp2_with fail
    refine (C1.out _).mono ?_
    rintro e w1 ⟨rfl, rfl⟩
    go_wp2_with fail
    refine (C2.out _).mono ?_
    rintro e w1 ⟨rfl, rfl⟩
    cases v <;> (go_wp2; go_ret; exact ⟨rfl, rfl⟩)
  | false =>
    have h2 : v = false := by rw [← h]; unfold shapeB; rw [h1]; rfl
    subst h2
    have C1 := Lib.hid (fun W => implSide_is wd false W h1)
    clear h h1
    go_enter Try.func159, Try.ntmps159
    go_wp2_with fail
    refine (C1.out _).mono ?_
    rintro e w1 ⟨rfl, rfl⟩
    go_wp2
    go_ret
    exact ⟨rfl, rfl⟩

def valB (n : Int) : Bool := decide (-9000 ≤ n) && decide (n ≤ 9000)
theorem implValue_is (n : Int) (v : Bool) (w : World) (h : valB n = v) :
    Calls Try.prog 128 #[.int .i64 n] w fun e w' => e = .returned (.bool v) ∧ w = w' := by
  unfold valB at h
  by_cases h1 : -9000 ≤ n
  · by_cases h2 : n ≤ 9000
    · have d1 : decide (-9000 ≤ n) = true := decide_eq_true h1
      have d2 : decide (n ≤ 9000) = true := decide_eq_true h2
      rw [d1, d2] at h
      subst h
      go_enter Try.func128, Try.ntmps128
      go_wp2
      go_ret
      exact ⟨rfl, rfl⟩
    · have d1 : decide (-9000 ≤ n) = true := decide_eq_true h1
      have d2 : decide (n ≤ 9000) = false := decide_eq_false h2
      rw [d1, d2] at h
      subst h
      go_enter Try.func128, Try.ntmps128
      go_wp2
      go_ret
      exact ⟨rfl, rfl⟩
  · have d1 : decide (-9000 ≤ n) = false := decide_eq_false h1
    rw [d1] at h
    subst h
    go_enter Try.func128, Try.ntmps128
    go_wp2
    go_ret
    exact ⟨rfl, rfl⟩
theorem cellB_val {n : Int} (h : ¬ n = -9999) : cellB n = valB n := by unfold cellB valB; rw [decide_eq_false h]; rfl

theorem implCell_is (n : Int) (v : Bool) (w : World) (h : cellB n = v) :
    Calls Try.prog 160 #[.int .i64 n] w fun e w' => e = .returned (.bool v) ∧ w = w' := by
  by_cases h0 : n = -9999
  · subst h0
    obtain rfl : v = true := by rw [← h]; rfl
    clear h
    go_enter Try.func160, Try.ntmps160
    go_wp2
    go_ret
    exact ⟨rfl, rfl⟩
  · have C := Lib.hid (fun W => implValue_is n v W (by rw [← cellB_val h0]; exact h))
    have e1 : (n == -9999) = false := by rw [beq_eq_false_iff_ne]; exact h0
    clear h h0
    go_enter Try.func160, Try.ntmps160
    go_wp2_with (go_at_call 128; refine (C.out _).mono ?_; rintro e w1 ⟨rfl, rfl⟩)
    go_ret
    exact ⟨rfl, rfl⟩

set_option maxHeartbeats 1000000 in
theorem specGood_is (wd hg : Int) (a : Option Addr) (l : List Int) (c B : Nat) (v : Bool) (w : World) (hl : Ints .i64 w B a l) (hB : B ≤ w.heap.size) (hn : l.length ≤ 1048576) (h : goodB wd hg l = v) :
    Calls Try.prog 85 #[.agg #[.int .i64 wd, .int .i64 hg, .slice a l.length c]] w fun e w' => e = .returned (.bool v) ∧ Below w.heap.size w w' := by
  have HL := Lib.hid (hl.below ((Below.refl B w).alloc hB (.cells #[.int .i64 wd, .int .i64 hg, .slice a l.length c] 54)) (Nat.le_refl _))
  have HG := Lib.hid h
  clear hl h
  cases hs : shapeB wd hg with
  | false =>
    obtain rfl : v = false := by rw [← HG.out]; exact good_no_shape hs
    have C1 := Lib.hid (fun W => specShape_is wd hg false W hs)
    clear hs
    go_enter Try.func85, Try.ntmps85
    go_wp2_with (go_at_call 132; refine (C1.out _).mono ?_; rintro e w1 ⟨rfl, rfl⟩)
    go_ret
    exact ⟨rfl, (Below.refl _ _).alloc (Nat.le_refl _) _⟩
  | true =>
    have C1 := Lib.hid (fun W => specShape_is wd hg true W hs)
    have hp := prod_bd hs
    by_cases hle : (l.length : Int) = wd * hg
    · have HS := Lib.hid hs
      have HLE := Lib.hid hle
      have hne : ((l.length : Int) != wd * hg) = false := by simp [hle]
      clear hs hle
      go_enter Try.func85, Try.ntmps85
      go_wp2_with (go_at_call 132; refine (C1.out _).mono ?_; rintro e w1 ⟨rfl, rfl⟩)
      clear hne
      go_loop [3] (fun i => ∃ k : Nat, k ≤ l.length ∧ i = .int .i64 k ∧ ∀ j (h : j < l.length), j < k → cellB l[j] = true) (fun i => l.length - (intOf i).toNat)
      case atStart => exact ⟨0, Nat.zero_le _, rfl, fun _ _ h => by omega⟩
      case round =>
        obtain ⟨k, hk, rfl, hall⟩ := hrel
        have HA := Lib.hid hall
        clear hall
        by_cases hlt : k < l.length
        · obtain ⟨b, o, rfl, hb, hc⟩ := HL.out.at_ hlt
          have hi : (k : Int) < (l.length : Int) := by omega
          have hi0 : (0 : Int) ≤ (k : Int) := by omega
          cases hcb : cellB l[k] with
          | true =>
            have C2 := Lib.hid (fun W => specValue_is l[k] true W hcb)
            have HCB := Lib.hid hcb
            clear hcb
            generalize hx : l[k] = x at *
            have HX := Lib.hid hx
            clear hx
            go_wp2_with (go_at_call 133; refine (C2.out _).mono ?_; rintro e w1 ⟨rfl, rfl⟩)
            go_round
            case rel => exact ⟨k + 1, by omega, by go_num, fun j hj hjk => by
              rcases Nat.lt_or_ge j k with h1 | h1
              · exact HA.out j hj h1
              · obtain rfl : j = k := by omega
                rw [HX.out]; exact HCB.out⟩
            case measure => simp [intOf]; omega
          | false =>
            obtain rfl : v = false := by rw [← HG.out]; exact good_no_cell hlt hcb
            have C2 := Lib.hid (fun W => specValue_is l[k] false W hcb)
            clear hcb
            generalize l[k] = x at *
            go_wp2_with (go_at_call 133; refine (C2.out _).mono ?_; rintro e w1 ⟨rfl, rfl⟩)
            go_ret
            exact ⟨rfl, (Below.refl _ _).alloc (Nat.le_refl _) _⟩
        · obtain rfl : v = true := by rw [← HG.out]; exact good_yes HS.out HLE.out (fun j hj => HA.out j hj (by omega))
          go_wp2
          go_ret
          exact ⟨rfl, (Below.refl _ _).alloc (Nat.le_refl _) _⟩
    · obtain rfl : v = false := by rw [← HG.out]; exact good_no_len hle
      have hne : ((l.length : Int) != wd * hg) = true := by simp [hle]
      clear hs hle
      go_enter Try.func85, Try.ntmps85
      go_wp2_with (go_at_call 132; refine (C1.out _).mono ?_; rintro e w1 ⟨rfl, rfl⟩)
      go_ret
      exact ⟨rfl, (Below.refl _ _).alloc (Nat.le_refl _) _⟩

set_option maxHeartbeats 1000000 in
theorem implGood_is (wd hg : Int) (a : Option Addr) (l : List Int) (c B : Nat) (v : Bool) (w : World) (hl : Ints .i64 w B a l) (hB : B ≤ w.heap.size) (hn : l.length ≤ 1048576) (h : goodB wd hg l = v) :
    Calls Try.prog 118 #[.agg #[.int .i64 wd, .int .i64 hg, .slice a l.length c]] w fun e w' => e = .returned (.bool v) ∧ Below w.heap.size w w' := by
  have HL := Lib.hid (hl.below ((Below.refl B w).alloc hB (.cells #[.int .i64 wd, .int .i64 hg, .slice a l.length c] 54)) (Nat.le_refl _))
  have HG := Lib.hid h
  clear hl h
  cases hs : shapeB wd hg with
  | false =>
    obtain rfl : v = false := by rw [← HG.out]; exact good_no_shape hs
    have C1 := Lib.hid (fun W => implShape_is wd hg false W hs)
    clear hs
    go_enter Try.func118, Try.ntmps118
    go_wp2_with (go_at_call 159; refine (C1.out _).mono ?_; rintro e w1 ⟨rfl, rfl⟩)
    go_ret
    exact ⟨rfl, (Below.refl _ _).alloc (Nat.le_refl _) _⟩
  | true =>
    have C1 := Lib.hid (fun W => implShape_is wd hg true W hs)
    have hp := prod_bd hs
    by_cases hle : (l.length : Int) = wd * hg
    · have HS := Lib.hid hs
      have HLE := Lib.hid hle
      have hne : ((l.length : Int) != wd * hg) = false := by simp [hle]
      clear hs hle
      go_enter Try.func118, Try.ntmps118
      go_wp2_with (go_at_call 159; refine (C1.out _).mono ?_; rintro e w1 ⟨rfl, rfl⟩)
      clear hne
      go_loop [25] (fun i => ∃ k : Nat, k ≤ l.length ∧ i = .int .i64 k ∧ ∀ j (h : j < l.length), j < k → cellB l[j] = true) (fun i => l.length - (intOf i).toNat)
      case atStart => exact ⟨0, Nat.zero_le _, rfl, fun _ _ h => by omega⟩
      case round =>
        obtain ⟨k, hk, rfl, hall⟩ := hrel
        have HA := Lib.hid hall
        clear hall
        by_cases hlt : k < l.length
        · obtain ⟨b, o, rfl, hb, hc⟩ := HL.out.at_ hlt
          have hi : (k : Int) < (l.length : Int) := by omega
          have hi0 : (0 : Int) ≤ (k : Int) := by omega
          cases hcb : cellB l[k] with
          | true =>
            have C2 := Lib.hid (fun W => implCell_is l[k] true W hcb)
            have HCB := Lib.hid hcb
            clear hcb
            generalize hx : l[k] = x at *
            have HX := Lib.hid hx
            clear hx
            go_wp2_with (go_at_call 160; refine (C2.out _).mono ?_; rintro e w1 ⟨rfl, rfl⟩)
            go_round
            case rel => exact ⟨k + 1, by omega, by go_num, fun j hj hjk => by
              rcases Nat.lt_or_ge j k with h1 | h1
              · exact HA.out j hj h1
              · obtain rfl : j = k := by omega
                rw [HX.out]; exact HCB.out⟩
            case measure => simp [intOf]; omega
          | false =>
            obtain rfl : v = false := by rw [← HG.out]; exact good_no_cell hlt hcb
            have C2 := Lib.hid (fun W => implCell_is l[k] false W hcb)
            clear hcb
            generalize l[k] = x at *
            go_wp2_with (go_at_call 160; refine (C2.out _).mono ?_; rintro e w1 ⟨rfl, rfl⟩)
            go_ret
            exact ⟨rfl, (Below.refl _ _).alloc (Nat.le_refl _) _⟩
        · obtain rfl : v = true := by rw [← HG.out]; exact good_yes HS.out HLE.out (fun j hj => HA.out j hj (by omega))
          go_wp2
          go_ret
          exact ⟨rfl, (Below.refl _ _).alloc (Nat.le_refl _) _⟩
    · obtain rfl : v = false := by rw [← HG.out]; exact good_no_len hle
      have hne : ((l.length : Int) != wd * hg) = true := by simp [hle]
      clear hs hle
      go_enter Try.func118, Try.ntmps118
      go_wp2_with (go_at_call 159; refine (C1.out _).mono ?_; rintro e w1 ⟨rfl, rfl⟩)
      go_ret
      exact ⟨rfl, (Below.refl _ _).alloc (Nat.le_refl _) _⟩
end Go.Proofs.Ythceffkkokgpnaa
