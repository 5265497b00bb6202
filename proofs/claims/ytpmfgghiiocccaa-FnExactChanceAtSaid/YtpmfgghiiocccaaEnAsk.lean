/- ChanceAt and RankOf, both programs. -/
import Derived.Test.YtpmfgghiiocccaaEnCell
import Derived.Test.YtpmfgghiiocccaaEnVals
import Derived.Test.YtpmfgghiiocccaaEnLeast
import Derived.Test.YtpmfgghiiocccaaNbRules
namespace Go.Proofs.Ytpmfgghiiocccaa
open Go.RowKit
set_option linter.unusedVariables false
set_option linter.unusedSimpArgs false
theorem cellI_no {P : List Fv} {x y : Int} (h : (enB P && inB (hdW P) (hdH P) x y) = false) : cellI P x y = -1 := if_neg (by rw [h]; simp)
theorem cellI_yes {P : List Fv} {x y : Int} (h : (enB P && inB (hdW P) (hdH P) x y) = true) : cellI P x y = (place (hdW P) x y : Int) := if_pos h
/-- the cell that is asked -/
theorem cell_in_en {es : List FE} {x y : Int} (h : (enB (plains es) && inB (hdW (plains es)) (hdH (plains es)) x y) = true) : ∃ W H k : Nat, OkE es W H ∧ k < W * H ∧ place (hdW (plains es)) x y = k := by
  simp only [Bool.and_eq_true] at h
  obtain ⟨W, H, hok, hW, hH⟩ := okE_of h.1
  rw [hW, hH] at h
  obtain ⟨k, h1, h2, _⟩ := en_place hok h.2
  exact ⟨W, H, k, hok, h2, by rw [hW]; exact h1⟩
theorem chR_none {P : List Fv} {x y t : Int} (h : cellR P x y = none) : chR P x y t = none := by unfold chR; rw [h]; simp
theorem rkR_none {P : List Fv} {x y t : Int} (h : cellR P x y = none) : rkR P x y t = none := by unfold rkR; rw [h]; simp
theorem chR_val {P : List Fv} {x y t : Int} (h : valB t = false) : chR P x y t = none := by unfold chR; rw [h]; simp
theorem rkR_val {P : List Fv} {x y t : Int} (h : valB t = false) : rkR P x y t = none := by unfold rkR; rw [h]; simp
theorem chR_some {P : List Fv} {x y t : Int} {vs : List Int} (h : cellR P x y = some vs) (hv : valB t = true) : chR P x y t = some ((cntN t vs : Int), (vs.length : Int)) := by unfold chR; rw [h, hv]; rfl
theorem rkR_some {P : List Fv} {x y t : Int} {vs : List Int} (h : cellR P x y = some vs) (hv : valB t = true) : rkR P x y t = some ((vs.length : Int) - (cntN t vs : Int), (cntN t vs : Int) - (cntN (t + 1) vs : Int)) := by unfold rkR; rw [h, hv]; rfl
def twV (r : Option (Int × Int)) : Value := .tuple #[.int .i64 (twA r), .int .i64 (twB r), .bool (twO r)]
theorem cnt_next (t : Int) (l : List Int) : cntN (t + 1) l ≤ cntN t l := by
  unfold cntN
  induction l with
  | nil => simp
  | cons z r ih =>
    simp only [List.filter_cons]
    by_cases h1 : t + 1 ≤ z
    · rw [if_pos (by simpa using h1), if_pos (by simp; omega)]; simp; exact ih
    · rw [if_neg (by simpa using h1)]
      by_cases h2 : t ≤ z
      · rw [if_pos (by simpa using h2)]; simp; omega
      · rw [if_neg (by simpa using h2)]; exact ih
set_option maxRecDepth 100000 in
set_option maxHeartbeats 4000000 in
theorem specChance_any (a : Option Addr) (es : List FE) (c : Nat) (x y t : Int) (w : World) (hl : Flds w w.heap.size a es) (hn : es.length ≤ 1048576) (hs : ∀ e ∈ es, e.l.length ≤ 1048576) :
    Calls Try.prog 24 #[.slice a es.length c, .int .i64 x, .int .i64 y, .int .i64 t] w fun e w' => e = .returned (twV (chR (plains es) x y t)) ∧ Below w.heap.size w w' := by
  have HC := Lib.hid (specCell_any a es c x y w hl hn hs)
  cases hc : (enB (plains es) && inB (hdW (plains es)) (hdH (plains es)) x y) with
  | false =>
    rw [chR_none (cellR_no hc)]
    rw [cellI_no hc] at HC
    clear hl hs hc
    go_enter Try.func24, Try.ntmps24
    go_wp2_with (go_at_call 56; refine HC.out.mono ?_; rintro e w1 ⟨rfl, b1⟩; have HB := Lib.hid b1; clear b1)
    exact bodyPost_ret (v := .tuple #[.int .i64 0, .int .i64 0, .bool false]) (by simp [results, Try.results24, go_sem]) rfl ⟨rfl, HB.out⟩
  | true =>
    have HR := Lib.hid (cellR_yes hc)
    rw [cellI_yes hc] at HC
    obtain ⟨W, H, k, hok, hk, hpl⟩ := cell_in_en hc
    rw [hpl] at HC HR
    have hk64 : k < 64 := Nat.lt_of_lt_of_le hk hok.le.1
    have hk0 : ¬ (k : Int) < 0 := by omega
    have HF := Lib.hid hl
    clear hc hpl hl hs
    cases hv : valB t with
    | false =>
      rw [chR_val hv]
      have HV := Lib.hid (fun W => specThr_is t false W hv)
      clear hv
      go_enter Try.func24, Try.ntmps24
      go_wp2_with (first | (go_at_call 56; refine HC.out.mono ?_; rintro e w1 ⟨rfl, b1⟩; have HB := Lib.hid b1; clear b1) | (go_at_call 45; refine (HV.out _).mono ?_; rintro e w2 ⟨rfl, rfl⟩))
      exact bodyPost_ret (v := .tuple #[.int .i64 0, .int .i64 0, .bool false]) (by simp [results, Try.results24, go_sem]) rfl ⟨rfl, HB.out⟩
    | true =>
      rw [chR_some HR.out hv]
      have HV := Lib.hid (fun W => specThr_is t true W hv)
      have HL9 := Lib.hid (fun Wd h => enVals_any W H a es c k Wd hok hk h)
      have hln : (insAll (colV (plains es) k)).length ≤ 64 := by rw [insAll_len]; have := colV_le (plains es) k; rw [plains_len] at this; have := hok.n; omega
      have HPM := Lib.hid (cnt_perm (t := t) (insAll_perm (colV (plains es) k)))
      have HLN := Lib.hid (insAll_len (colV (plains es) k)).symm
      have hmx : -9000 ≤ t ∧ t ≤ 9000 := by unfold valB at hv; simp at hv; exact hv
      clear hv hok hk HR
      generalize colV (plains es) k = vs at *
      go_enter Try.func24, Try.ntmps24
      go_wp2_with fail
      refine HC.out.mono ?_
      rintro e w1 ⟨rfl, b1⟩
      have HB := Lib.hid b1
      clear b1
      go_wp2_with (first | (go_at_call 45; refine (HV.out _).mono ?_; rintro e w2 ⟨rfl, rfl⟩) | fail)
      refine (HL9.out _ (flds_below HF.out HB.out)).mono ?_
      rintro e w3 ⟨a3, c3, rfl, o3, b3⟩
      have HO := Lib.hid o3.ints
      have HB3 := Lib.hid (below_then HB.out b3)
      clear o3 b3
      have HLE := Lib.hid (fun Wd h => specLeast_is a3 (insAll vs) c3 w3.heap.size t Wd h hln)
      rw [HPM.out] at HLE
      generalize insAll vs = l at *
      go_wp2_with (go_at_call 48; refine (HLE.out _ HO.out).mono ?_; rintro e w4 ⟨rfl, rfl⟩)
      refine bodyPost_ret (v := .tuple #[.int .i64 (cntN t vs : Int), .int .i64 (l.length : Int), .bool true]) (by simp [results, Try.results24, go_sem]) rfl ⟨?_, HB3.out⟩
      rw [HLN.out]; rfl
set_option maxRecDepth 100000 in
set_option maxHeartbeats 4000000 in
theorem specRank_any (a : Option Addr) (es : List FE) (c : Nat) (x y t : Int) (w : World) (hl : Flds w w.heap.size a es) (hn : es.length ≤ 1048576) (hs : ∀ e ∈ es, e.l.length ≤ 1048576) :
    Calls Try.prog 34 #[.slice a es.length c, .int .i64 x, .int .i64 y, .int .i64 t] w fun e w' => e = .returned (twV (rkR (plains es) x y t)) ∧ Below w.heap.size w w' := by
  have HC := Lib.hid (specCell_any a es c x y w hl hn hs)
  cases hc : (enB (plains es) && inB (hdW (plains es)) (hdH (plains es)) x y) with
  | false =>
    rw [rkR_none (cellR_no hc)]
    rw [cellI_no hc] at HC
    clear hl hs hc
    go_enter Try.func34, Try.ntmps34
    go_wp2_with (go_at_call 56; refine HC.out.mono ?_; rintro e w1 ⟨rfl, b1⟩; have HB := Lib.hid b1; clear b1)
    exact bodyPost_ret (v := .tuple #[.int .i64 0, .int .i64 0, .bool false]) (by simp [results, Try.results34, go_sem]) rfl ⟨rfl, HB.out⟩
  | true =>
    have HR := Lib.hid (cellR_yes hc)
    rw [cellI_yes hc] at HC
    obtain ⟨W, H, k, hok, hk, hpl⟩ := cell_in_en hc
    rw [hpl] at HC HR
    have hk64 : k < 64 := Nat.lt_of_lt_of_le hk hok.le.1
    have hk0 : ¬ (k : Int) < 0 := by omega
    have HF := Lib.hid hl
    clear hc hpl hl hs
    cases hv : valB t with
    | false =>
      rw [rkR_val hv]
      have HV := Lib.hid (fun W => specThr_is t false W hv)
      clear hv
      go_enter Try.func34, Try.ntmps34
      go_wp2_with (first | (go_at_call 56; refine HC.out.mono ?_; rintro e w1 ⟨rfl, b1⟩; have HB := Lib.hid b1; clear b1) | (go_at_call 45; refine (HV.out _).mono ?_; rintro e w2 ⟨rfl, rfl⟩))
      exact bodyPost_ret (v := .tuple #[.int .i64 0, .int .i64 0, .bool false]) (by simp [results, Try.results34, go_sem]) rfl ⟨rfl, HB.out⟩
    | true =>
      rw [rkR_some HR.out hv]
      have HV := Lib.hid (fun W => specThr_is t true W hv)
      have HL9 := Lib.hid (fun Wd h => enVals_any W H a es c k Wd hok hk h)
      have hln : (insAll (colV (plains es) k)).length ≤ 64 := by rw [insAll_len]; have := colV_le (plains es) k; rw [plains_len] at this; have := hok.n; omega
      have HPM := Lib.hid (cnt_perm (t := t) (insAll_perm (colV (plains es) k)))
      have HLN := Lib.hid (insAll_len (colV (plains es) k)).symm
      have hmx : -9000 ≤ t ∧ t ≤ 9000 := by unfold valB at hv; simp at hv; exact hv
      clear hv hok hk HR
      generalize colV (plains es) k = vs at *
      go_enter Try.func34, Try.ntmps34
      go_wp2_with fail
      refine HC.out.mono ?_
      rintro e w1 ⟨rfl, b1⟩
      have HB := Lib.hid b1
      clear b1
      go_wp2_with (first | (go_at_call 45; refine (HV.out _).mono ?_; rintro e w2 ⟨rfl, rfl⟩) | fail)
      refine (HL9.out _ (flds_below HF.out HB.out)).mono ?_
      rintro e w3 ⟨a3, c3, rfl, o3, b3⟩
      have HO := Lib.hid o3.ints
      have HB3 := Lib.hid (below_then HB.out b3)
      clear o3 b3
      have HPN := Lib.hid (cnt_perm (t := t + 1) (insAll_perm vs))
      generalize insAll vs = l at *
      go_wp2
      go_loop [12, 13, 15] (fun p q i => ∃ k : Nat, k ≤ l.length ∧ i = .int .i64 k ∧ p = .int .i64 ((k : Int) - (cntN t (l.take k) : Int)) ∧ q = .int .i64 ((cntN t (l.take k) : Int) - (cntN (t + 1) (l.take k) : Int))) (fun _ _ i => l.length - (intOf i).toNat)
      case atStart => exact ⟨0, Nat.zero_le _, rfl, rfl, rfl⟩
      case round =>
        obtain ⟨k, hk, rfl, hp, hq⟩ := hrel
        have c1 := cnt_le t (l.take k)
        have c2 := cnt_next t (l.take k)
        rw [List.length_take] at c1
        by_cases hlt : k < l.length
        · have hi : (k : Int) < (l.length : Int) := by omega
          have hi0 : (0 : Int) ≤ (k : Int) := by omega
          obtain ⟨b, o, rfl, hb, hc⟩ := HO.out.at_ hlt
          have HT := Lib.hid (snoc_takeI l k hlt)
          have H1 := Lib.hid (cnt_hit (t := t) (l := l.take k) (z := l[k]))
          have H2 := Lib.hid (cnt_miss (t := t) (l := l.take k) (z := l[k]))
          have H3 := Lib.hid (cnt_hit (t := t + 1) (l := l.take k) (z := l[k]))
          have H4 := Lib.hid (cnt_miss (t := t + 1) (l := l.take k) (z := l[k]))
          rw [← HT.out] at H1 H2 H3 H4
          generalize l[k] = z at *
          generalize hA : cntN t (l.take k) = A at *
          generalize hB' : cntN (t + 1) (l.take k) = B at *
          clear hA hB' HT
          obtain ⟨P, hP⟩ : ∃ P : Int, (k : Int) - (A : Int) = P := ⟨_, rfl⟩
          obtain ⟨Q, hQ⟩ : ∃ Q : Int, (A : Int) - (B : Int) = Q := ⟨_, rfl⟩
          rw [hP] at hp
          rw [hQ] at hq
          subst hp hq
          have p0 : 0 ≤ P := by omega
          have p1 : P ≤ 64 := by omega
          have q0 : 0 ≤ Q := by omega
          have q1 : Q ≤ 64 := by omega
          have HPQ := Lib.hid (And.intro hP hQ)
          clear hP hQ
          by_cases h1 : z < t
          · have E1 := Lib.hid (H2.out (by omega))
            have E2 := Lib.hid (H4.out (by omega))
            have n1 : (z == t) = false := by rw [beq_eq_false_iff_ne]; omega
            clear H1 H2 H3 H4
            go_wp2
            go_round
            case rel => exact ⟨k + 1, by omega, by go_num, by rw [E1.out]; have := HPQ.out; congr 1; push_cast; omega, by rw [E1.out, E2.out]; have := HPQ.out; congr 1; omega⟩
            case measure => simp [intOf]; omega
          · by_cases h2 : z = t
            · have E1 := Lib.hid (H1.out (by omega))
              have E2 := Lib.hid (H4.out (by omega))
              have n1 : (z == t) = true := by rw [beq_iff_eq]; exact h2
              clear H1 H2 H3 H4 h2
              go_wp2
              go_round
              case rel => exact ⟨k + 1, by omega, by go_num, by rw [E1.out]; have := HPQ.out; congr 1; push_cast; omega, by rw [E1.out, E2.out]; have := HPQ.out; congr 1; push_cast; omega⟩
              case measure => simp [intOf]; omega
            · have E1 := Lib.hid (H1.out (by omega))
              have E2 := Lib.hid (H3.out (by omega))
              have n1 : (z == t) = false := by rw [beq_eq_false_iff_ne]; exact h2
              clear H1 H2 H3 H4
              go_wp2
              go_round
              case rel => exact ⟨k + 1, by omega, by go_num, by rw [E1.out]; have := HPQ.out; congr 1; push_cast; omega, by rw [E1.out, E2.out]; have := HPQ.out; congr 1; push_cast; omega⟩
              case measure => simp [intOf]; omega
        · obtain rfl : k = l.length := by omega
          have HT := Lib.hid (List.take_of_length_le (Nat.le_refl l.length))
          rw [HT.out] at hp hq
          subst hp hq
          go_wp2
          refine bodyPost_ret (v := .tuple #[.int .i64 ((l.length : Int) - (cntN t l : Int)), .int .i64 ((cntN t l : Int) - (cntN (t + 1) l : Int)), .bool true]) (by simp [results, Try.results34, go_sem]) rfl ⟨?_, HB3.out⟩
          rw [HLN.out, HPM.out, HPN.out]; rfl
set_option maxRecDepth 100000 in
set_option maxHeartbeats 4000000 in
theorem implChance_any (g : Nat) (es : List FE) (c : Nat) (x y t : Int) (w : World) (hl : Flds w w.heap.size (some ⟨g, 0, none⟩) es) (hn : es.length ≤ 1048576) (hs : ∀ e ∈ es, e.l.length ≤ 1048576) :
    Calls Try.prog 25 #[.slice (some ⟨g, 0, none⟩) es.length c, .int .i64 x, .int .i64 y, .int .i64 t] w fun e w' => e = .returned (twV (chR (plains es) x y t)) ∧ Below w.heap.size w w' := by
  have HC := Lib.hid (implCell_any g es c x y w hl hn hs)
  have hvl : ∀ vs, cellR (plains es) x y = some vs → vs.length ≤ 64 := by
    intro vs h
    cases hc : (enB (plains es) && inB (hdW (plains es)) (hdH (plains es)) x y) with
    | false => rw [cellR_no hc] at h; cases h
    | true =>
      rw [cellR_yes hc] at h
      injection h with h
      obtain ⟨W, H, k, hok, hk, hpl⟩ := cell_in_en hc
      have h1 := colV_le (plains es) (place (hdW (plains es)) x y)
      rw [plains_len] at h1
      rw [← h]
      have := hok.n
      omega
  clear hl hs
  unfold LRet at HC
  cases hr : cellR (plains es) x y with
  | none =>
    rw [chR_none hr]
    rw [hr] at HC
    clear hr hvl
    go_enter Try.func25, Try.ntmps25
    go_wp2_with fail
    refine HC.out.mono ?_
    rintro e w1 ⟨a1, c1, rfl, o1, b1⟩
    have HB := Lib.hid b1
    clear b1 o1
    go_wp2
    exact bodyPost_ret (v := .tuple #[.int .i64 0, .int .i64 0, .bool false]) (by simp [results, Try.results25, go_sem]) rfl ⟨rfl, HB.out⟩
  | some vs =>
    have hvl := hvl vs hr
    rw [hr] at HC
    cases hv : valB t with
    | false =>
      rw [chR_val hv]
      have HV := Lib.hid (fun W => implValue_is t false W hv)
      clear hv hr
      go_enter Try.func25, Try.ntmps25
      go_wp2_with fail
      refine HC.out.mono ?_
      rintro e w1 ⟨a1, c1, rfl, o1, b1⟩
      have HB := Lib.hid b1
      clear b1 o1
      go_wp2_with (go_at_call 49; refine (HV.out _).mono ?_; rintro e w2 ⟨rfl, rfl⟩)
      exact bodyPost_ret (v := .tuple #[.int .i64 0, .int .i64 0, .bool false]) (by simp [results, Try.results25, go_sem]) rfl ⟨rfl, HB.out⟩
    | true =>
      rw [chR_some hr hv]
      have HV := Lib.hid (fun W => implValue_is t true W hv)
      have hmx : -9000 ≤ t ∧ t ≤ 9000 := by unfold valB at hv; simp at hv; exact hv
      clear hv hr
      go_enter Try.func25, Try.ntmps25
      go_wp2_with fail
      refine HC.out.mono ?_
      rintro e w1 ⟨a1, c1, rfl, o1, b1⟩
      have HCT := Lib.hid (fun (a : Option Addr) (c : Nat) W h => cntOf_is a vs c w1.heap.size t W h hvl)
      have HO := Lib.hid (show Ints .i64 w1 w1.heap.size a1 vs from o1.ints)
      have HB := Lib.hid b1
      clear b1 o1
      simp only [Option.getD_some]
      go_wp2_with (first | (go_at_call 49; refine (HV.out _).mono ?_; rintro e w2 ⟨rfl, rfl⟩) | (go_at_call 52; refine (HCT.out _ _ _ HO.out).mono ?_; rintro e w3 ⟨rfl, rfl⟩))
      exact bodyPost_ret (v := .tuple #[.int .i64 (cntN t vs : Int), .int .i64 (vs.length : Int), .bool true]) (by simp [results, Try.results25, go_sem]) rfl ⟨rfl, HB.out⟩
set_option maxRecDepth 100000 in
set_option maxHeartbeats 4000000 in
theorem implRank_any (g : Nat) (es : List FE) (c : Nat) (x y t : Int) (w : World) (hl : Flds w w.heap.size (some ⟨g, 0, none⟩) es) (hn : es.length ≤ 1048576) (hs : ∀ e ∈ es, e.l.length ≤ 1048576) :
    Calls Try.prog 35 #[.slice (some ⟨g, 0, none⟩) es.length c, .int .i64 x, .int .i64 y, .int .i64 t] w fun e w' => e = .returned (twV (rkR (plains es) x y t)) ∧ Below w.heap.size w w' := by
  have HC := Lib.hid (implCell_any g es c x y w hl hn hs)
  have hvl : ∀ vs, cellR (plains es) x y = some vs → vs.length ≤ 64 := by
    intro vs h
    cases hc : (enB (plains es) && inB (hdW (plains es)) (hdH (plains es)) x y) with
    | false => rw [cellR_no hc] at h; cases h
    | true =>
      rw [cellR_yes hc] at h
      injection h with h
      obtain ⟨W, H, k, hok, hk, hpl⟩ := cell_in_en hc
      have h1 := colV_le (plains es) (place (hdW (plains es)) x y)
      rw [plains_len] at h1
      rw [← h]
      have := hok.n
      omega
  clear hl hs
  unfold LRet at HC
  cases hr : cellR (plains es) x y with
  | none =>
    rw [rkR_none hr]
    rw [hr] at HC
    clear hr hvl
    go_enter Try.func35, Try.ntmps35
    go_wp2_with fail
    refine HC.out.mono ?_
    rintro e w1 ⟨a1, c1, rfl, o1, b1⟩
    have HB := Lib.hid b1
    clear b1 o1
    go_wp2
    exact bodyPost_ret (v := .tuple #[.int .i64 0, .int .i64 0, .bool false]) (by simp [results, Try.results35, go_sem]) rfl ⟨rfl, HB.out⟩
  | some vs =>
    have hvl := hvl vs hr
    rw [hr] at HC
    cases hv : valB t with
    | false =>
      rw [rkR_val hv]
      have HV := Lib.hid (fun W => implValue_is t false W hv)
      clear hv hr
      go_enter Try.func35, Try.ntmps35
      go_wp2_with fail
      refine HC.out.mono ?_
      rintro e w1 ⟨a1, c1, rfl, o1, b1⟩
      have HB := Lib.hid b1
      clear b1 o1
      go_wp2_with (go_at_call 49; refine (HV.out _).mono ?_; rintro e w2 ⟨rfl, rfl⟩)
      exact bodyPost_ret (v := .tuple #[.int .i64 0, .int .i64 0, .bool false]) (by simp [results, Try.results35, go_sem]) rfl ⟨rfl, HB.out⟩
    | true =>
      rw [rkR_some hr hv]
      have HV := Lib.hid (fun W => implValue_is t true W hv)
      have hmx : -9000 ≤ t ∧ t ≤ 9000 := by unfold valB at hv; simp at hv; exact hv
      clear hv hr
      go_enter Try.func35, Try.ntmps35
      go_wp2_with fail
      refine HC.out.mono ?_
      rintro e w1 ⟨a1, c1, rfl, o1, b1⟩
      have HCT := Lib.hid (fun (a : Option Addr) (c : Nat) W h => cntOf_is a vs c w1.heap.size t W h hvl)
      have HO := Lib.hid (show Ints .i64 w1 w1.heap.size a1 vs from o1.ints)
      have HB := Lib.hid b1
      clear b1 o1
      simp only [Option.getD_some]
      have HC1 := Lib.hid (fun (a : Option Addr) (c : Nat) W h => cntOf_is a vs c w1.heap.size (t + 1) W h hvl)
      have c1 := cnt_le t vs
      have c2 := cnt_next t vs
      generalize hA : cntN t vs = A at HCT c1 c2
      generalize hB : cntN (t + 1) vs = B at HC1 c2
      have HAB := Lib.hid (And.intro hA hB)
      clear hA hB
      have g1 : A ≤ 64 := by omega
      go_wp2_with fail
      refine (HV.out _).mono ?_
      rintro e w2 ⟨rfl, rfl⟩
      go_wp2_with fail
      refine (HCT.out _ _ _ HO.out).mono ?_
      rintro e w3 ⟨rfl, rfl⟩
      go_wp2_with (go_at_call 52; refine (HC1.out _ _ _ HO.out).mono ?_; rintro e w4 ⟨rfl, rfl⟩)
      exact bodyPost_ret (v := .tuple #[.int .i64 ((vs.length : Int) - (A : Int)), .int .i64 ((A : Int) - (B : Int)), .bool true]) (by simp [results, Try.results35, go_sem]) rfl ⟨by rw [HAB.out.1, HAB.out.2]; rfl, HB.out⟩
end Go.Proofs.Ytpmfgghiiocccaa
