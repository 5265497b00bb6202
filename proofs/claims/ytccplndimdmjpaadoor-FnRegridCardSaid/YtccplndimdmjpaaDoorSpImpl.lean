/- The program's SplitValue. -/
import Derived.Test.YtccplndimdmjpaaDoorSpGr
import Derived.Test.YtccplndimdmjpaaDoorRgDiv
import Derived.Test.YtccplndimdmjpaaDoorMake
import Derived.IntWalk
namespace Go.Proofs.YtccplndimdmjpaaDoor
open Go.RowKit
set_option linter.unusedVariables false
set_option linter.unusedSimpArgs false
/-- the first k numbers of L, and zeros behind them, n in all -/
def padK (L : List Int) (n k : Nat) : List Int := L.take k ++ List.replicate (n - k) 0
theorem padK_len {L : List Int} {n k : Nat} (h1 : k ≤ L.length) (h2 : k ≤ n) : (padK L n k).length = n := by unfold padK; simp; omega
theorem padK_zero (L : List Int) (n : Nat) : padK L n 0 = List.replicate n 0 := by simp [padK]
theorem padK_all (L : List Int) : padK L L.length L.length = L := by simp [padK]
theorem padK_step {L : List Int} {n k : Nat} (h1 : k < L.length) (h2 : k < n) : (padK L n k).set k L[k] = padK L n (k + 1) := by
  unfold padK
  have hz : (L.take k).length = k := by rw [List.length_take]; omega
  rw [List.set_append_right _ _ (by omega), hz, Nat.sub_self, List.take_succ_eq_append_getElem h1, List.append_assoc]
  obtain ⟨m, hm⟩ : ∃ m, n - k = m + 1 := ⟨n - k - 1, by omega⟩
  rw [hm, List.replicate_succ, List.set_cons_zero]
  have : n - (k + 1) = m := by omega
  rw [this]
  rfl
theorem padK_at {L : List Int} {n k : Nat} (h1 : k ≤ L.length) (h2 : k < n) (h : k < (padK L n k).length) : (padK L n k)[k] = 0 := by
  have e : padK L n k = L.take k ++ List.replicate (n - k) 0 := rfl
  simp only [e]
  rw [List.getElem_append_right (by rw [List.length_take]; omega)]
  simp
theorem padK_getD {L : List Int} {n i : Nat} (hi : i < L.length) : (padK L n L.length).getD i 0 = L.getD i 0 := by
  unfold padK
  rw [List.take_length]
  simp [List.getD, List.getElem?_append, hi]
theorem bits_zero : BitsOf 0 [] := ⟨by decide, fun i => by simp⟩
theorem bits_put {C : Nat} {R : List Int} {z : Int} (h : BitsOf C R) (hl : R.length < 64) (hz : 0 < z) : BitsOf (putBit C R.length) (R ++ [z]) := by
  refine ⟨put_lt hl h.1, fun i => ?_⟩
  rw [put_test]
  simp only [Bool.or_eq_true, decide_eq_true_eq, List.length_append, List.length_singleton]
  rw [h.2 i]
  constructor
  · rintro (⟨h1, h2⟩ | h1)
    · exact ⟨by omega, by simp [List.getD, List.getElem?_append, h1] at h2 ⊢; exact h2⟩
    · subst h1; exact ⟨by omega, by simp [List.getD, List.getElem?_append]; exact hz⟩
  · rintro ⟨h1, h2⟩
    rcases Nat.lt_or_ge i R.length with h3 | h3
    · exact .inl ⟨h3, by simp [List.getD, List.getElem?_append, h3] at h2 ⊢; exact h2⟩
    · exact .inr (by omega)
theorem bits_stay {C : Nat} {R : List Int} {z : Int} (h : BitsOf C R) (hz : ¬ 0 < z) : BitsOf C (R ++ [z]) := by
  refine ⟨h.1, fun i => ?_⟩
  rw [h.2 i]
  simp only [List.length_append, List.length_singleton]
  constructor
  · rintro ⟨h1, h2⟩
    exact ⟨by omega, by simp [List.getD, List.getElem?_append, h1] at h2 ⊢; exact h2⟩
  · rintro ⟨h1, h2⟩
    rcases Nat.lt_or_ge i R.length with h3 | h3
    · exact ⟨h3, by simp [List.getD, List.getElem?_append, h3] at h2 ⊢; exact h2⟩
    · have : i = R.length := by omega
      subst this
      simp [List.getD, List.getElem?_append] at h2
      exact absurd h2 hz
theorem bits_drop {C b : Nat} {R : List Int} (h : BitsOf C R) (hb : b < R.length) (h64 : R.length ≤ 64) : BitsOf (dropBit C b) (R.set b (-1)) := by
  refine ⟨drop_lt h.1, fun i => ?_⟩
  rw [drop_test C i (by omega) h.1]
  simp only [Bool.and_eq_true, Bool.not_eq_true', decide_eq_false_iff_not, List.length_set]
  rw [h.2 i]
  constructor
  · rintro ⟨⟨h1, h2⟩, h3⟩
    refine ⟨h1, ?_⟩
    rw [gd_at (by rw [List.length_set]; exact h1), List.getElem_set, if_neg h3, ← gd_at h1]
    exact h2
  · rintro ⟨h1, h2⟩
    rw [gd_at (by rw [List.length_set]; exact h1), List.getElem_set] at h2
    split at h2
    · omega
    · rename_i h3
      rw [← gd_at h1] at h2
      exact ⟨⟨h1, h2⟩, h3⟩
/-- the sum of weights that can be taken, or 0 -/
def wsT (ws : List Int) : Int := if wsB ws = true then tot ws else 0
theorem wsB_iff {ws : List Int} : wsB ws = true ↔ (1 ≤ ws.length ∧ ws.length ≤ 64) ∧ (∀ x ∈ ws, 0 ≤ x ∧ x ≤ 64) ∧ 0 < tot ws := by
  unfold wsB
  simp only [Bool.and_eq_true, decide_eq_true_eq, List.all_eq_true, wB_iff]
  constructor
  · rintro ⟨⟨h2, h3⟩, h4⟩; exact ⟨h2, h3, h4⟩
  · rintro ⟨h2, h3, h4⟩; exact ⟨⟨h2, h3⟩, h4⟩
theorem wsB_not {ws : List Int} (h : ¬ ((1 ≤ ws.length ∧ ws.length ≤ 64) ∧ (∀ x ∈ ws, 0 ≤ x ∧ x ≤ 64) ∧ 0 < tot ws)) : wsB ws = false := by
  cases e : wsB ws with
  | false => rfl
  | true => exact absurd (wsB_iff.1 e) h
theorem wsT_no {ws : List Int} (h : wsB ws = false) : wsT ws = 0 := if_neg (by rw [h]; simp)
theorem wsT_yes {ws : List Int} (h : wsB ws = true) : wsT ws = tot ws := if_pos h
theorem tot_pos_bd {ws : List Int} (h : ∀ x ∈ ws, 0 ≤ x ∧ x ≤ 64) : 0 ≤ tot ws ∧ tot ws ≤ 64 * (ws.length : Int) := by
  induction ws with
  | nil => simp [tot]
  | cons x r ih =>
    have h1 := h x (by simp)
    have h2 := ih (fun z hz => h z (by simp [hz]))
    simp only [tot, List.length_cons]
    omega
set_option maxHeartbeats 2000000 in
theorem sumW_is (a : Option Addr) (ws : List Int) (c B : Nat) (w : World) (hl : Ints .i64 w B a ws) (hn : ws.length ≤ 1048576) :
    Calls Tryd.prog 32 #[.slice a ws.length c] w fun e w' => e = .returned (.tuple #[.int .i64 (wsT ws), .bool (wsB ws)]) ∧ w = w' := by
  have HL := Lib.hid hl
  clear hl
  by_cases h64 : ws.length ≤ 64
  · obtain ⟨t0, ht0⟩ : ∃ t, wsT ws = t := ⟨_, rfl⟩
    obtain ⟨b0, hb0⟩ : ∃ t, wsB ws = t := ⟨_, rfl⟩
    rw [ht0, hb0]
    have HT0 := Lib.hid ht0
    have HB0 := Lib.hid hb0
    clear ht0 hb0
    go_enter Tryd.func32, Tryd.ntmps32
    go_wp2
    go_loop [4, 12] (fun s i => ∃ k : Nat, k ≤ ws.length ∧ i = .int .i64 k ∧ s = .int .i64 (tot (ws.take k)) ∧ ∀ j (h : j < ws.length), j < k → 0 ≤ ws[j] ∧ ws[j] ≤ 64) (fun _ i => ws.length - (intOf i).toNat)
    case atStart => exact ⟨0, Nat.zero_le _, rfl, rfl, fun _ _ h => by omega⟩
    case round =>
      obtain ⟨k, hk, rfl, rfl, hall⟩ := hrel
      have hbd : 0 ≤ tot (ws.take k) ∧ tot (ws.take k) ≤ 4096 := by
        have h1 := tot_pos_bd (ws := ws.take k) (fun x hx => by
          obtain ⟨j, hj, rfl⟩ := List.getElem_of_mem hx
          rw [List.length_take] at hj
          rw [List.getElem_take]
          exact hall j (by omega) (by omega))
        rw [List.length_take] at h1
        omega
      have HA := Lib.hid hall
      clear hall
      by_cases hlt : k < ws.length
      · obtain ⟨b, o, rfl, hb, hc⟩ := HL.out.at_ hlt
        have hi : (k : Int) < (ws.length : Int) := by omega
        have hi0 : (0 : Int) ≤ (k : Int) := by omega
        by_cases hz : 0 ≤ ws[k] ∧ ws[k] ≤ 64
        · have HZ := Lib.hid hz
          have HS := Lib.hid (show tot (ws.take (k + 1)) = tot (ws.take k) + ws[k] by rw [snoc_takeI ws k hlt, tot_snocI])
          have HE := Lib.hid (show ∀ j (h : j < ws.length), j < k + 1 → 0 ≤ ws[j] ∧ ws[j] ≤ 64 from fun j hj h9 => by
            rcases Nat.lt_or_ge j k with h1 | h1
            · exact HA.out j hj h1
            · obtain rfl : j = k := by omega
              exact hz)
          obtain ⟨h1, h2⟩ := hz
          generalize ws[k] = x at *
          generalize tot (ws.take k) = t at *
          go_wp2
          go_round
          case rel => exact ⟨k + 1, by omega, by go_num, by rw [HS.out], HE.out⟩
          case measure => simp [intOf]; omega
        · have hno : wsB ws = false := wsB_not (fun h9 => hz (h9.2.1 _ (List.getElem_mem hlt)))
          obtain rfl : b0 = false := by rw [← HB0.out]; exact hno
          obtain rfl : t0 = 0 := by rw [← HT0.out]; exact wsT_no hno
          clear hno
          generalize ws[k] = x at *
          by_cases h1 : x < 0
          · clear hz
            go_wp2
            go_ret2
            exact ⟨rfl, rfl⟩
          · have h2 : 64 < x := by omega
            clear hz
            go_wp2
            go_ret2
            exact ⟨rfl, rfl⟩
      · obtain rfl : k = ws.length := by omega
        rw [List.take_length] at hbd
        have hall := HA.out
        have e1 : decide (0 < tot ws) = b0 ∧ tot ws = t0 := by
          by_cases hp : 0 < tot ws
          · have hy : wsB ws = true := wsB_iff.2 ⟨⟨by
              rcases Nat.eq_zero_or_pos ws.length with h | h
              · have := List.eq_nil_of_length_eq_zero h; subst this; simp [tot] at hp
              · exact h, h64⟩, fun x hx => by obtain ⟨j, hj, rfl⟩ := List.getElem_of_mem hx; exact hall j hj hj, hp⟩
            exact ⟨by rw [← HB0.out, hy]; simp [hp], by rw [← HT0.out, wsT_yes hy]⟩
          · have hy : wsB ws = false := wsB_not (fun h9 => hp h9.2.2)
            exact ⟨by rw [← HB0.out, hy]; simp [hp], by rw [← HT0.out, wsT_no hy]; omega⟩
        obtain ⟨e2, e3⟩ := e1
        rw [e3] at e2 hbd
        have E3 := Lib.hid (show tot (ws.take ws.length) = t0 by rw [List.take_length]; exact e3)
        clear e3 hall HA
        rw [E3.out]
        go_wp2
        go_ret2
        exact ⟨rfl, rfl⟩
  · have hno : wsB ws = false := wsB_not (fun h9 => h64 h9.1.2)
    rw [wsT_no hno, hno]
    have h65 : (64 : Int) < (ws.length : Int) := by omega
    clear hno h64
    go_enter Tryd.func32, Tryd.ntmps32
    go_wp2
    go_ret2
    exact ⟨rfl, rfl⟩
end Go.Proofs.YtccplndimdmjpaaDoor
