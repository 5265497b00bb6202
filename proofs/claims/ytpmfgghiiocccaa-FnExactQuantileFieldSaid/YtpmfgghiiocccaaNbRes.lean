/- The model's rules for ascending values: l6Result. -/
import Derived.Test.YtpmfgghiiocccaaNbRules
namespace Go.Proofs.Ytpmfgghiiocccaa
open Go.RowKit
set_option linter.unusedVariables false
set_option linter.unusedSimpArgs false
/-- the model's rule, given the values in order -/
def ResRule (K t : Int) (F : List Int → Int) : Prop := ∀ (vs : List Int) (a : Option Addr) (c B : Nat) (w : World), vs.length ≤ 64 → Valued vs → Ints .i64 w B a (insAll vs) →
  Calls Try.prog 58 #[.slice a (insAll vs).length c, .int .i64 K, .int .i64 t] w fun e w' => e = .returned (.int .i64 (gapC F 0 vs)) ∧ w = w'
theorem res_none (K t : Int) (a : Option Addr) (c : Nat) (w : World) : Calls Try.prog 58 #[.slice a 0 c, .int .i64 K, .int .i64 t] w fun e w' => e = .returned (.int .i64 (-9999)) ∧ w = w' := by
  go_enter Try.func58, Try.ntmps58
  go_wp2
  go_ret
  exact ⟨rfl, rfl⟩
/-- it is enough to know it for at least one value -/
theorem res_of {K t : Int} {F : List Int → Int} (h : ∀ (vs : List Int) (a : Option Addr) (c B : Nat) (w : World), 0 < vs.length → vs.length ≤ 64 → Valued vs → Ints .i64 w B a (insAll vs) →
    Calls Try.prog 58 #[.slice a vs.length c, .int .i64 K, .int .i64 t] w fun e w' => e = .returned (.int .i64 (F vs)) ∧ w = w') : ResRule K t F := by
  intro vs a c B w h1 h2 h3
  rcases Nat.eq_zero_or_pos vs.length with h0 | h0
  · obtain rfl := List.eq_nil_of_length_eq_zero h0
    rw [gapC_none]
    exact res_none K t a c w
  · rw [gapC_some (List.length_pos_iff.1 h0), insAll_len]
    exact h vs a c B w h0 h1 h2 h3
theorem ins_valued {vs : List Int} (h : Valued vs) : Valued (insAll vs) := fun z hz => h z (insAll_mem.1 hz)
theorem res_max : ResRule 1 0 hiV := res_of fun vs a c B w h0 h1 h2 h3 => by
  have hlen := insAll_len vs
  have hk : vs.length - 1 < (insAll vs).length := by omega
  obtain ⟨b, o, rfl, hb, hc⟩ := h3.at_ hk
  rw [ins_last (List.length_pos_iff.1 h0) hk] at hc
  generalize hiV vs = y at *
  clear h2 h3 hlen hk
  generalize vs.length = n at *
  obtain ⟨k, rfl⟩ : ∃ k, n = k + 1 := ⟨n - 1, by omega⟩
  have e1 : k + 1 - 1 = k := by omega
  rw [e1] at hc
  have p1 : ((k + 1 : Nat) : Int) - 1 = (k : Int) := by omega
  have p2 : (((k + 1 : Nat) : Int) == 0) = false := by rw [beq_eq_false_iff_ne]; omega
  have p3 : (0 : Int) ≤ (k : Int) := by omega
  have p4 : (k : Int) < ((k + 1 : Nat) : Int) := by omega
  clear e1
  go_enter Try.func58, Try.ntmps58
  go_wp2
  exact bodyPost_ret (v := .int .i64 y) (by simp [results, Try.results58, go_sem]) rfl ⟨rfl, rfl⟩
theorem res_min : ResRule 2 0 loV := res_of fun vs a c B w h0 h1 h2 h3 => by
  have hlen := insAll_len vs
  have hk : 0 < (insAll vs).length := by omega
  obtain ⟨b, o, rfl, hb, hc⟩ := h3.at_ hk
  rw [ins_first (List.length_pos_iff.1 h0) hk, Nat.add_zero] at hc
  generalize loV vs = y at *
  clear h2 h3 hlen hk
  generalize vs.length = n at *
  have p2 : ((n : Int) == 0) = false := by rw [beq_eq_false_iff_ne]; omega
  have p4 : (0 : Int) < (n : Int) := by omega
  go_enter Try.func58, Try.ntmps58
  go_wp2
  exact bodyPost_ret (v := .int .i64 y) (by simp [results, Try.results58, go_sem]) rfl ⟨rfl, rfl⟩
theorem res_med : ResRule 4 0 medF := res_of fun vs a c B w h0 h1 h2 h3 => by
  have hlen := insAll_len vs
  have hk : (vs.length - 1) / 2 < (insAll vs).length := by omega
  obtain ⟨b, o, rfl, hb, hc⟩ := h3.at_ hk
  have HM := Lib.hid (show medF vs = (insAll vs)[(vs.length - 1) / 2] by unfold medF; rw [getD_at hk])
  rw [HM.out]
  generalize (insAll vs)[(vs.length - 1) / 2] = y at *
  clear h2 h3 hlen hk HM
  generalize vs.length = n at *
  obtain ⟨k, rfl⟩ : ∃ k, n = k + 1 := ⟨n - 1, by omega⟩
  have e1 : k + 1 - 1 = k := by omega
  rw [e1] at hc
  obtain ⟨m, hm⟩ : ∃ m, k / 2 = m := ⟨_, rfl⟩
  have p1 : ((k + 1 : Nat) : Int) - 1 = (k : Int) := by omega
  have p2 : (((k + 1 : Nat) : Int) == 0) = false := by rw [beq_eq_false_iff_ne]; omega
  have p3 : (0 : Int) ≤ (m : Int) := by omega
  have p4 : (m : Int) < ((k + 1 : Nat) : Int) := by omega
  have p5 : Int.tdiv (k : Int) 2 = (m : Int) := by rw [← hm]; exact (Int.ofNat_tdiv k 2).symm
  have p6 : IntKind.i64.wrap (m : Int) = (m : Int) := IntWalk.i64_in _ (by omega)
  rw [hm] at hc
  clear e1 hm
  go_enter Try.func58, Try.ntmps58
  go_wp2
  exact bodyPost_ret (v := .int .i64 y) (by simp [results, Try.results58, go_sem]) rfl ⟨rfl, rfl⟩
set_option maxRecDepth 100000 in
set_option maxHeartbeats 1000000 in
theorem res_mean : ResRule 3 0 meanF := res_of fun vs a c B w h0 h1 h2 h3 => by
  have hlen := insAll_len vs
  have HV := Lib.hid (ins_valued h2)
  have HT := Lib.hid (tot_perm (insAll_perm vs))
  have HCN := Lib.hid (cnt_perm (t := 0) (insAll_perm vs))
  have ht : -640000 ≤ tot vs ∧ tot vs ≤ 640000 := by have := h2.tot h1 vs.length; rwa [List.take_of_length_le (Nat.le_refl vs.length)] at this
  have hcl := cnt_le 0 vs
  have HR := Lib.hid (fun W => specRound_any (tot vs) (vs.length : Int) W (by omega) (by omega) (by omega) (by omega))
  unfold meanF
  generalize rdiv (tot vs) (vs.length : Int) = res at *
  generalize tot vs = T at *
  generalize cntN 0 vs = C at *
  have HL := Lib.hid h3
  have hl0 : 0 < (insAll vs).length := by omega
  have hs1 : (insAll vs).length ≤ 64 := by omega
  rw [← hlen] at HR ⊢
  clear h2 h3
  generalize insAll vs = S at *
  clear hlen h1
  have h1 : S.length ≤ 64 := hs1
  have p2 : ((S.length : Int) == 0) = false := by rw [beq_eq_false_iff_ne]; omega
  go_enter Try.func58, Try.ntmps58
  go_wp2
  go_loop [8, 9, 10] (fun s m i => ∃ k : Nat, k ≤ S.length ∧ i = .int .i64 k ∧ s = .int .i64 (tot (S.take k)) ∧ m = .int .i64 (cntN 0 (S.take k) : Int)) (fun _ _ i => S.length - (intOf i).toNat)
  case atStart => exact ⟨0, Nat.zero_le _, rfl, rfl, rfl⟩
  case round =>
    obtain ⟨k, hk, rfl, rfl, rfl⟩ := hrel
    have hbd := HV.out.tot h1 k
    have hcb := cnt_le 0 (S.take k)
    rw [List.length_take] at hcb
    by_cases hlt : k < S.length
    · have hi : (k : Int) < (S.length : Int) := by omega
      have hi0 : (0 : Int) ≤ (k : Int) := by omega
      obtain ⟨b, o, rfl, hb, hc⟩ := HL.out.at_ hlt
      have HTK := Lib.hid (snoc_takeI S k hlt)
      have hzb := HV.out S[k] (List.getElem_mem hlt)
      generalize S[k] = z at *
      have HS := Lib.hid (tot_snoc (S.take k) z)
      by_cases hz : 0 ≤ z
      · have HC := Lib.hid (cnt_hit (l := S.take k) hz)
        rw [← HTK.out] at HC
        go_wp2
        go_round
        case rel => exact ⟨k + 1, by omega, by go_num, by rw [HTK.out, HS.out], by rw [HC.out]; push_cast; rfl⟩
        case measure => simp [intOf]; omega
      · have HC := Lib.hid (cnt_miss (l := S.take k) hz)
        rw [← HTK.out] at HC
        go_wp2
        go_round
        case rel => exact ⟨k + 1, by omega, by go_num, by rw [HTK.out, HS.out], by rw [HC.out]⟩
        case measure => simp [intOf]; omega
    · obtain rfl : k = S.length := by omega
      have HTK := Lib.hid (List.take_of_length_le (Nat.le_refl S.length))
      rw [HTK.out, HT.out, HCN.out]
      clear hbd hcb
      go_wp2_with (go_at_call 81; refine (HR.out _).mono ?_; rintro e w1 ⟨rfl, rfl⟩)
      go_ret
      exact ⟨rfl, rfl⟩
set_option maxRecDepth 100000 in
set_option maxHeartbeats 1000000 in
theorem res_cov (t : Int) : ResRule 5 t (covF t) := res_of fun vs a c B w h0 h1 h2 h3 => by
  have hlen := insAll_len vs
  have HV := Lib.hid (ins_valued h2)
  have HT := Lib.hid (tot_perm (insAll_perm vs))
  have HCN := Lib.hid (cnt_perm (t := t) (insAll_perm vs))
  have ht : -640000 ≤ tot vs ∧ tot vs ≤ 640000 := by have := h2.tot h1 vs.length; rwa [List.take_of_length_le (Nat.le_refl vs.length)] at this
  have hcl := cnt_le t vs
  have HR := Lib.hid (fun W => specRound_any (100 * (cntN t vs : Int)) (vs.length : Int) W (by omega) (by omega) (by omega) (by omega))
  unfold covF
  generalize rdiv (100 * (cntN t vs : Int)) (vs.length : Int) = res at *
  generalize tot vs = T at *
  generalize cntN t vs = C at *
  obtain ⟨P, hP⟩ : ∃ P : Int, 100 * (C : Int) = P := ⟨_, rfl⟩
  have hPb : 0 ≤ P ∧ P ≤ 6400 := by omega
  rw [hP] at HR
  have HL := Lib.hid h3
  have hl0 : 0 < (insAll vs).length := by omega
  have hs1 : (insAll vs).length ≤ 64 := by omega
  rw [← hlen] at HR ⊢
  clear h2 h3
  generalize insAll vs = S at *
  clear hlen h1
  have h1 : S.length ≤ 64 := hs1
  have p2 : ((S.length : Int) == 0) = false := by rw [beq_eq_false_iff_ne]; omega
  go_enter Try.func58, Try.ntmps58
  go_wp2
  go_loop [8, 9, 10] (fun s m i => ∃ k : Nat, k ≤ S.length ∧ i = .int .i64 k ∧ s = .int .i64 (tot (S.take k)) ∧ m = .int .i64 (cntN t (S.take k) : Int)) (fun _ _ i => S.length - (intOf i).toNat)
  case atStart => exact ⟨0, Nat.zero_le _, rfl, rfl, rfl⟩
  case round =>
    obtain ⟨k, hk, rfl, rfl, rfl⟩ := hrel
    have hbd := HV.out.tot h1 k
    have hcb := cnt_le t (S.take k)
    rw [List.length_take] at hcb
    by_cases hlt : k < S.length
    · have hi : (k : Int) < (S.length : Int) := by omega
      have hi0 : (0 : Int) ≤ (k : Int) := by omega
      obtain ⟨b, o, rfl, hb, hc⟩ := HL.out.at_ hlt
      have HTK := Lib.hid (snoc_takeI S k hlt)
      have hzb := HV.out S[k] (List.getElem_mem hlt)
      generalize S[k] = z at *
      have HS := Lib.hid (tot_snoc (S.take k) z)
      by_cases hz : t ≤ z
      · have HC := Lib.hid (cnt_hit (l := S.take k) hz)
        rw [← HTK.out] at HC
        go_wp2
        go_round
        case rel => exact ⟨k + 1, by omega, by go_num, by rw [HTK.out, HS.out], by rw [HC.out]; push_cast; rfl⟩
        case measure => simp [intOf]; omega
      · have HC := Lib.hid (cnt_miss (l := S.take k) hz)
        rw [← HTK.out] at HC
        go_wp2
        go_round
        case rel => exact ⟨k + 1, by omega, by go_num, by rw [HTK.out, HS.out], by rw [HC.out]⟩
        case measure => simp [intOf]; omega
    · obtain rfl : k = S.length := by omega
      have HTK := Lib.hid (List.take_of_length_le (Nat.le_refl S.length))
      rw [HTK.out, HT.out, HCN.out]
      have hPb1 := hPb.1
      have hPb2 := hPb.2
      clear hbd hcb hPb
      go_wp2_with (go_at_call 81; refine (HR.out _).mono ?_; rintro e w1 ⟨rfl, rfl⟩)
      go_ret
      exact ⟨rfl, rfl⟩
end Go.Proofs.Ytpmfgghiiocccaa
