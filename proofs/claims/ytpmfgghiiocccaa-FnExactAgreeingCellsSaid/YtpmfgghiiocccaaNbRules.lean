/- The rules of the filters: the greatest, the least, the mean, the median, how many reach a threshold. -/
import Derived.Test.YtpmfgghiiocccaaNbMath
import Derived.Test.YtpmfgghiiocccaaGood
import Derived.Test.YtpmfgghiiocccaaMake
import Derived.Test.YtpmfgghiiocccaaUnit
namespace Go.Proofs.Ytpmfgghiiocccaa
open Go.RowKit
set_option linter.unusedVariables false
set_option linter.unusedSimpArgs false
theorem take_ne {l : List Int} {k : Nat} (h1 : 1 ≤ k) (h2 : k ≤ l.length) : l.take k ≠ [] := by intro h; have := congrArg List.length h; rw [List.length_take, List.length_nil] at this; omega
theorem take_one {l : List Int} (h : 0 < l.length) : l.take 1 = [l[0]] := by have := List.take_succ_eq_append_getElem h; simpa using this
theorem hi_next {l : List Int} {k : Nat} (h1 : 1 ≤ k) (h : k < l.length) : hiV (l.take (k + 1)) = max (hiV (l.take k)) l[k] := by
  rw [snoc_takeI l k h, hiV_snoc, if_neg (take_ne h1 (by omega))]; split <;> omega
theorem lo_next {l : List Int} {k : Nat} (h1 : 1 ≤ k) (h : k < l.length) : loV (l.take (k + 1)) = min (loV (l.take k)) l[k] := by
  rw [snoc_takeI l k h, loV_snoc, if_neg (take_ne h1 (by omega))]; split <;> omega
set_option maxHeartbeats 1000000 in
theorem max_is (a : Option Addr) (l : List Int) (c B : Nat) (w : World) (hl : Ints .i64 w B a l) (h0 : 0 < l.length) (hn : l.length ≤ 64) :
    Calls Try.prog 62 #[.slice a l.length c] w fun e w' => e = .returned (.int .i64 (hiV l)) ∧ w = w' := by
  rcases hl with rfl | ⟨b, o, rfl, hb, hc⟩
  · simp at h0
  · have HC := Lib.hid hc
    have c0 := hc 0 h0
    have H1 := Lib.hid (show hiV (l.take 1) = l[0] by rw [take_one h0]; rfl)
    rw [Nat.add_zero] at c0
    generalize l[0] = z0 at *
    clear hc
    have hlen : (0 : Int) < (l.length : Int) := by omega
    have hlen1 : ¬ (l.length : Int) < 1 := by omega
    go_enter Try.func62, Try.ntmps62
    go_wp2
    go_loop [3, 4] (fun m i => ∃ k : Nat, 1 ≤ k ∧ k ≤ l.length ∧ i = .int .i64 k ∧ m = .int .i64 (hiV (l.take k))) (fun _ i => l.length - (intOf i).toNat)
    case atStart => exact ⟨1, Nat.le_refl _, h0, rfl, by rw [H1.out]⟩
    case round =>
      obtain ⟨k, h1, hk, rfl, rfl⟩ := hrel
      by_cases hlt : k < l.length
      · have hi : (k : Int) < (l.length : Int) := by omega
        have hi0 : (0 : Int) ≤ (k : Int) := by omega
        have ck := HC.out k hlt
        have HT := Lib.hid (hi_next h1 hlt)
        generalize l[k] = z at *
        generalize hiV (l.take k) = m at *
        by_cases hm : m ≤ z
        · go_wp2
          all_goals go_round
          all_goals first | exact ⟨k + 1, by omega, by omega, by go_num, by rw [HT.out]; first | rfl | (congr 1; omega)⟩ | (simp [intOf]; omega)
        · go_wp2
          all_goals go_round
          all_goals first | exact ⟨k + 1, by omega, by omega, by go_num, by rw [HT.out]; first | rfl | (congr 1; omega)⟩ | (simp [intOf]; omega)
      · obtain rfl : k = l.length := by omega
        have HT := Lib.hid (List.take_of_length_le (Nat.le_refl l.length))
        rw [HT.out]
        go_wp2
        go_ret
        exact ⟨rfl, rfl⟩
set_option maxHeartbeats 1000000 in
theorem min_is (a : Option Addr) (l : List Int) (c B : Nat) (w : World) (hl : Ints .i64 w B a l) (h0 : 0 < l.length) (hn : l.length ≤ 64) :
    Calls Try.prog 63 #[.slice a l.length c] w fun e w' => e = .returned (.int .i64 (loV l)) ∧ w = w' := by
  rcases hl with rfl | ⟨b, o, rfl, hb, hc⟩
  · simp at h0
  · have HC := Lib.hid hc
    have c0 := hc 0 h0
    have H1 := Lib.hid (show loV (l.take 1) = l[0] by rw [take_one h0]; rfl)
    rw [Nat.add_zero] at c0
    generalize l[0] = z0 at *
    clear hc
    have hlen : (0 : Int) < (l.length : Int) := by omega
    have hlen1 : ¬ (l.length : Int) < 1 := by omega
    go_enter Try.func63, Try.ntmps63
    go_wp2
    go_loop [3, 4] (fun m i => ∃ k : Nat, 1 ≤ k ∧ k ≤ l.length ∧ i = .int .i64 k ∧ m = .int .i64 (loV (l.take k))) (fun _ i => l.length - (intOf i).toNat)
    case atStart => exact ⟨1, Nat.le_refl _, h0, rfl, by rw [H1.out]⟩
    case round =>
      obtain ⟨k, h1, hk, rfl, rfl⟩ := hrel
      by_cases hlt : k < l.length
      · have hi : (k : Int) < (l.length : Int) := by omega
        have hi0 : (0 : Int) ≤ (k : Int) := by omega
        have ck := HC.out k hlt
        have HT := Lib.hid (lo_next h1 hlt)
        generalize l[k] = z at *
        generalize loV (l.take k) = m at *
        by_cases hm : m ≤ z
        · go_wp2
          all_goals go_round
          all_goals first | exact ⟨k + 1, by omega, by omega, by go_num, by rw [HT.out]; first | rfl | (congr 1; omega)⟩ | (simp [intOf]; omega)
        · go_wp2
          all_goals go_round
          all_goals first | exact ⟨k + 1, by omega, by omega, by go_num, by rw [HT.out]; first | rfl | (congr 1; omega)⟩ | (simp [intOf]; omega)
      · obtain rfl : k = l.length := by omega
        have HT := Lib.hid (List.take_of_length_le (Nat.le_refl l.length))
        rw [HT.out]
        go_wp2
        go_ret
        exact ⟨rfl, rfl⟩
/-- numbers that are values -/
def Valued (l : List Int) : Prop := ∀ z ∈ l, -9000 ≤ z ∧ z ≤ 9000
theorem Valued.tot {l : List Int} (h : Valued l) (hn : l.length ≤ 64) (k : Nat) : -640000 ≤ Proofs.Ytpmfgghiiocccaa.tot (l.take k) ∧ Proofs.Ytpmfgghiiocccaa.tot (l.take k) ≤ 640000 := by
  exact tot_take_bd k (fun z hz => by have := h z hz; omega) hn
set_option maxHeartbeats 1000000 in
theorem meanOf_is (a : Option Addr) (l : List Int) (c B : Nat) (w : World) (hl : Ints .i64 w B a l) (h0 : 0 < l.length) (hn : l.length ≤ 64) (hv : Valued l) :
    Calls Try.prog 59 #[.slice a l.length c] w fun e w' => e = .returned (.int .i64 (meanF l)) ∧ w = w' := by
  rcases hl with rfl | ⟨b, o, rfl, hb, hc⟩
  · simp at h0
  · have HC := Lib.hid hc
    have HV := Lib.hid hv
    have ht : -640000 ≤ tot l ∧ tot l ≤ 640000 := by have := hv.tot hn l.length; rwa [List.take_of_length_le (Nat.le_refl l.length)] at this
    have HR := Lib.hid (fun W => implRound_any (tot l) (l.length : Int) W (by omega) (by omega) (by omega) (by omega))
    unfold meanF
    generalize rdiv (tot l) (l.length : Int) = res at *
    clear hc hv ht
    go_enter Try.func59, Try.ntmps59
    go_wp2
    go_loop [3, 8] (fun s i => ∃ k : Nat, k ≤ l.length ∧ i = .int .i64 k ∧ s = .int .i64 (tot (l.take k))) (fun _ i => l.length - (intOf i).toNat)
    case atStart => exact ⟨0, Nat.zero_le _, rfl, rfl⟩
    case round =>
      obtain ⟨k, hk, rfl, rfl⟩ := hrel
      have hbd := HV.out.tot hn k
      by_cases hlt : k < l.length
      · have hi : (k : Int) < (l.length : Int) := by omega
        have hi0 : (0 : Int) ≤ (k : Int) := by omega
        have ck := HC.out k hlt
        have HT := Lib.hid (snoc_takeI l k hlt)
        have hzb := HV.out l[k] (List.getElem_mem hlt)
        generalize l[k] = z at *
        have HS := Lib.hid (tot_snoc (l.take k) z)
        go_wp2
        go_round
        case rel => exact ⟨k + 1, by omega, by go_num, by rw [HT.out, HS.out]⟩
        case measure => simp [intOf]; omega
      · obtain rfl : k = l.length := by omega
        have HT := Lib.hid (List.take_of_length_le (Nat.le_refl l.length))
        rw [HT.out]
        go_wp2_with fail
        refine (HR.out _).mono ?_
        rintro e w1 ⟨rfl, rfl⟩
        go_wp2
        go_ret
        exact ⟨rfl, rfl⟩
set_option maxHeartbeats 1000000 in
theorem cntOf_is (a : Option Addr) (l : List Int) (c B : Nat) (t : Int) (w : World) (hl : Ints .i64 w B a l) (hn : l.length ≤ 64) :
    Calls Try.prog 52 #[.slice a l.length c, .int .i64 t] w fun e w' => e = .returned (.int .i64 (cntN t l : Int)) ∧ w = w' := by
  have HL := Lib.hid hl
  clear hl
  go_enter Try.func52, Try.ntmps52
  go_wp2
  go_loop [5, 10] (fun s i => ∃ k : Nat, k ≤ l.length ∧ i = .int .i64 k ∧ s = .int .i64 (cntN t (l.take k) : Int)) (fun _ i => l.length - (intOf i).toNat)
  case atStart => exact ⟨0, Nat.zero_le _, rfl, rfl⟩
  case round =>
    obtain ⟨k, hk, rfl, rfl⟩ := hrel
    have hbd := cnt_le t (l.take k)
    rw [List.length_take] at hbd
    by_cases hlt : k < l.length
    · have hi : (k : Int) < (l.length : Int) := by omega
      have hi0 : (0 : Int) ≤ (k : Int) := by omega
      obtain ⟨b, o, rfl, hb, hc⟩ := HL.out.at_ hlt
      have HT := Lib.hid (snoc_takeI l k hlt)
      generalize l[k] = z at *
      by_cases hz : t ≤ z
      · have HV := Lib.hid (cnt_hit (l := l.take k) hz)
        rw [← HT.out] at HV
        go_wp2
        go_round
        case rel => exact ⟨k + 1, by omega, by go_num, by rw [HV.out]; push_cast; rfl⟩
        case measure => simp [intOf]; omega
      · have HV := Lib.hid (cnt_miss (l := l.take k) hz)
        rw [← HT.out] at HV
        go_wp2
        go_round
        case rel => exact ⟨k + 1, by omega, by go_num, by rw [HV.out]⟩
        case measure => simp [intOf]; omega
    · obtain rfl : k = l.length := by omega
      have HT := Lib.hid (List.take_of_length_le (Nat.le_refl l.length))
      rw [HT.out]
      go_wp2
      go_ret
      exact ⟨rfl, rfl⟩
/-- the row that the sort works on: e values in order, a gap, the others as they came -/
def sortRow (l : List Int) (e : Nat) (g : Int) (m : Nat) : List Int := gap (insAll (l.take e)) g m ++ l.drop (e + 1)
theorem sortRow_len {l : List Int} {e m : Nat} (g : Int) (he : e < l.length) (hm : m ≤ e) : (sortRow l e g m).length = l.length := by
  have h := insAll_len (l.take e)
  rw [List.length_take] at h
  unfold sortRow
  rw [List.length_append, gap_len (by omega), List.length_drop]
  omega
theorem sorted_len {l : List Int} {e : Nat} (he : e ≤ l.length) : (insAll (l.take e)).length = e := by
  rw [insAll_len, List.length_take]; omega
theorem sortRow_start {l : List Int} {e : Nat} (he : e < l.length) : insAll (l.take e) ++ l.drop e = sortRow l e l[e] e := by
  have h := sorted_len (Nat.le_of_lt he)
  unfold sortRow
  have h2 : gap (insAll (l.take e)) l[e] e = insAll (l.take e) ++ [l[e]] := by
    have := gap_end (insAll (l.take e)) l[e]
    rwa [h] at this
  rw [h2, List.append_assoc]
  conv => lhs; rw [List.drop_eq_getElem_cons he]
  rfl
theorem sortRow_prev {l : List Int} {e m : Nat} {g : Int} (he : e < l.length) (hm : m < e) (h1 : m < (sortRow l e g (m + 1)).length) (h2 : m < (insAll (l.take e)).length) : (sortRow l e g (m + 1))[m] = (insAll (l.take e))[m] := by
  simp only [sortRow]
  rw [List.getElem_append_left (by rw [gap_len (by omega)]; omega)]
  exact gap_get h2 _
theorem sortRow_step {l : List Int} {e m : Nat} {g : Int} (he : e < l.length) (hm : m < e) (h2 : m < (insAll (l.take e)).length) : (sortRow l e g (m + 1)).set (m + 1) (insAll (l.take e))[m] = sortRow l e (insAll (l.take e))[m] m := by
  unfold sortRow
  rw [List.set_append_left _ _ (by rw [gap_len (by omega)]; omega), gap_step h2]
theorem sortRow_fill {l : List Int} {e m : Nat} {g : Int} (he : e < l.length) (hm : m ≤ e) (hs : spotN (insAll (l.take e)) l[e] e = m) : (sortRow l e g m).set m l[e] = insAll (l.take (e + 1)) ++ l.drop (e + 1) := by
  have h := sorted_len (Nat.le_of_lt he)
  unfold sortRow
  rw [List.set_append_left _ _ (by rw [gap_len (by omega)]; omega), gap_fill (by omega), snoc_takeI l e he, insAll_snoc]
  unfold ins
  rw [h, hs]
/-- what CoverageFilter answers -/
def covR (wd hg : Int) (l : List Int) (r t : Int) : Option (Int × Int × List Int) := if valB t = true then filtR (covF t) wd hg l r else none
theorem covR_len (wd hg : Int) (l : List Int) (r t : Int) : (rL (covR wd hg l r t)).length ≤ 64 := by
  unfold covR; split; exact filtR_len _ _ _ _ _; simp [rL]
end Go.Proofs.Ytpmfgghiiocccaa
