/- The rules of the filters: the greatest, the least, the mean, the median, how many reach a threshold. -/
import Derived.Test.YtdkffljnfemngaaNbMath
import Derived.Test.YtdkffljnfemngaaGood
import Derived.Test.YtdkffljnfemngaaMake
import Derived.Test.YtdkffljnfemngaaUnit
namespace Go.Proofs.Ytdkffljnfemngaa
open Go.RowKit
set_option linter.unusedVariables false
set_option linter.unusedSimpArgs false
theorem take_ne {l : List Int} {k : Nat} (h1 : 1 ≤ k) (h2 : k ≤ l.length) : l.take k ≠ [] := by intro h; have := congrArg List.length h; rw [List.length_take, List.length_nil] at this; omega
theorem take_one {l : List Int} (h : 0 < l.length) : l.take 1 = [l[0]] := by have := List.take_succ_eq_append_getElem h; simpa using this
theorem hi_next {l : List Int} {k : Nat} (h1 : 1 ≤ k) (h : k < l.length) : hiV (l.take (k + 1)) = max (hiV (l.take k)) l[k] := by
  rw [snoc_takeI l k h, hiV_snoc, if_neg (take_ne h1 (by omega))]; split <;> omega
theorem lo_next {l : List Int} {k : Nat} (h1 : 1 ≤ k) (h : k < l.length) : loV (l.take (k + 1)) = min (loV (l.take k)) l[k] := by
  rw [snoc_takeI l k h, loV_snoc, if_neg (take_ne h1 (by omega))]; split <;> omega
set_option maxHeartbeats 1000000 in
theorem max_is (a : Option Addr) (l : List Int) (c B : Nat) (w : World) (hl : Ints .i64 w B a l) (h0 : 0 < l.length) (hn : l.length ≤ 64) :
    Calls Try.prog 53 #[.slice a l.length c] w fun e w' => e = .returned (.int .i64 (hiV l)) ∧ w = w' := by
  rcases hl with rfl | ⟨b, o, rfl, hb, hc⟩
  · simp at h0
  · have HC := Lib.hid hc
    have c0 := hc 0 h0
    have H1 := Lib.hid (show hiV (l.take 1) = l[0] by rw [take_one h0]; rfl)
    rw [Nat.add_zero] at c0
    generalize l[0] = z0 at *
    clear hc
    have hlen : (0 : Int) < (l.length : Int) := by omega
    have hlen1 : ¬ (l.length : Int) < 1 := by omega
    go_enter Try.func53, Try.ntmps53
    go_wp2
    go_loop [3, 4] (fun m i => ∃ k : Nat, 1 ≤ k ∧ k ≤ l.length ∧ i = .int .i64 k ∧ m = .int .i64 (hiV (l.take k))) (fun _ i => l.length - (intOf i).toNat)
    case atStart => exact ⟨1, Nat.le_refl _, h0, rfl, by rw [H1.out]⟩
    case round =>
      obtain ⟨k, h1, hk, rfl, rfl⟩ := hrel
      by_cases hlt : k < l.length
      · have hi : (k : Int) < (l.length : Int) := by omega
        have hi0 : (0 : Int) ≤ (k : Int) := by omega
        have ck := HC.out k hlt
        have HT := Lib.hid (hi_next h1 hlt)
        generalize l[k] = z at *
        generalize hiV (l.take k) = m at *
        by_cases hm : m ≤ z
        · go_wp2
          all_goals go_round
          all_goals first | exact ⟨k + 1, by omega, by omega, by go_num, by rw [HT.out]; first | rfl | (congr 1; omega)⟩ | (simp [intOf]; omega)
        · go_wp2
          all_goals go_round
          all_goals first | exact ⟨k + 1, by omega, by omega, by go_num, by rw [HT.out]; first | rfl | (congr 1; omega)⟩ | (simp [intOf]; omega)
      · obtain rfl : k = l.length := by omega
        have HT := Lib.hid (List.take_of_length_le (Nat.le_refl l.length))
        rw [HT.out]
        go_wp2
        go_ret
        exact ⟨rfl, rfl⟩
set_option maxHeartbeats 1000000 in
theorem min_is (a : Option Addr) (l : List Int) (c B : Nat) (w : World) (hl : Ints .i64 w B a l) (h0 : 0 < l.length) (hn : l.length ≤ 64) :
    Calls Try.prog 55 #[.slice a l.length c] w fun e w' => e = .returned (.int .i64 (loV l)) ∧ w = w' := by
  rcases hl with rfl | ⟨b, o, rfl, hb, hc⟩
  · simp at h0
  · have HC := Lib.hid hc
    have c0 := hc 0 h0
    have H1 := Lib.hid (show loV (l.take 1) = l[0] by rw [take_one h0]; rfl)
    rw [Nat.add_zero] at c0
    generalize l[0] = z0 at *
    clear hc
    have hlen : (0 : Int) < (l.length : Int) := by omega
    have hlen1 : ¬ (l.length : Int) < 1 := by omega
    go_enter Try.func55, Try.ntmps55
    go_wp2
    go_loop [3, 4] (fun m i => ∃ k : Nat, 1 ≤ k ∧ k ≤ l.length ∧ i = .int .i64 k ∧ m = .int .i64 (loV (l.take k))) (fun _ i => l.length - (intOf i).toNat)
    case atStart => exact ⟨1, Nat.le_refl _, h0, rfl, by rw [H1.out]⟩
    case round =>
      obtain ⟨k, h1, hk, rfl, rfl⟩ := hrel
      by_cases hlt : k < l.length
      · have hi : (k : Int) < (l.length : Int) := by omega
        have hi0 : (0 : Int) ≤ (k : Int) := by omega
        have ck := HC.out k hlt
        have HT := Lib.hid (lo_next h1 hlt)
        generalize l[k] = z at *
        generalize loV (l.take k) = m at *
        by_cases hm : m ≤ z
        · go_wp2
          all_goals go_round
          all_goals first | exact ⟨k + 1, by omega, by omega, by go_num, by rw [HT.out]; first | rfl | (congr 1; omega)⟩ | (simp [intOf]; omega)
        · go_wp2
          all_goals go_round
          all_goals first | exact ⟨k + 1, by omega, by omega, by go_num, by rw [HT.out]; first | rfl | (congr 1; omega)⟩ | (simp [intOf]; omega)
      · obtain rfl : k = l.length := by omega
        have HT := Lib.hid (List.take_of_length_le (Nat.le_refl l.length))
        rw [HT.out]
        go_wp2
        go_ret
        exact ⟨rfl, rfl⟩
/-- numbers that are values -/
def Valued (l : List Int) : Prop := ∀ z ∈ l, -9000 ≤ z ∧ z ≤ 9000
theorem Valued.tot {l : List Int} (h : Valued l) (hn : l.length ≤ 64) (k : Nat) : -640000 ≤ Proofs.Ytdkffljnfemngaa.tot (l.take k) ∧ Proofs.Ytdkffljnfemngaa.tot (l.take k) ≤ 640000 := by
  exact tot_take_bd k (fun z hz => by have := h z hz; omega) hn
set_option maxHeartbeats 1000000 in
theorem meanOf_is (a : Option Addr) (l : List Int) (c B : Nat) (w : World) (hl : Ints .i64 w B a l) (h0 : 0 < l.length) (hn : l.length ≤ 64) (hv : Valued l) :
    Calls Try.prog 56 #[.slice a l.length c] w fun e w' => e = .returned (.int .i64 (meanF l)) ∧ w = w' := by
  rcases hl with rfl | ⟨b, o, rfl, hb, hc⟩
  · simp at h0
  · have HC := Lib.hid hc
    have HV := Lib.hid hv
    have ht : -640000 ≤ tot l ∧ tot l ≤ 640000 := by have := hv.tot hn l.length; rwa [List.take_of_length_le (Nat.le_refl l.length)] at this
    have HR := Lib.hid (fun W => implRound_any (tot l) (l.length : Int) W (by omega) (by omega) (by omega) (by omega))
    unfold meanF
    generalize rdiv (tot l) (l.length : Int) = res at *
    clear hc hv ht
    go_enter Try.func56, Try.ntmps56
    go_wp2
    go_loop [3, 8] (fun s i => ∃ k : Nat, k ≤ l.length ∧ i = .int .i64 k ∧ s = .int .i64 (tot (l.take k))) (fun _ i => l.length - (intOf i).toNat)
    case atStart => exact ⟨0, Nat.zero_le _, rfl, rfl⟩
    case round =>
      obtain ⟨k, hk, rfl, rfl⟩ := hrel
      have hbd := HV.out.tot hn k
      by_cases hlt : k < l.length
      · have hi : (k : Int) < (l.length : Int) := by omega
        have hi0 : (0 : Int) ≤ (k : Int) := by omega
        have ck := HC.out k hlt
        have HT := Lib.hid (snoc_takeI l k hlt)
        have hzb := HV.out l[k] (List.getElem_mem hlt)
        generalize l[k] = z at *
        have HS := Lib.hid (tot_snoc (l.take k) z)
        go_wp2
        go_round
        case rel => exact ⟨k + 1, by omega, by go_num, by rw [HT.out, HS.out]⟩
        case measure => simp [intOf]; omega
      · obtain rfl : k = l.length := by omega
        have HT := Lib.hid (List.take_of_length_le (Nat.le_refl l.length))
        rw [HT.out]
        go_wp2_with fail
        refine (HR.out _).mono ?_
        rintro e w1 ⟨rfl, rfl⟩
        go_wp2
        go_ret
        exact ⟨rfl, rfl⟩
set_option maxHeartbeats 1000000 in
theorem cntOf_is (a : Option Addr) (l : List Int) (c B : Nat) (t : Int) (w : World) (hl : Ints .i64 w B a l) (hn : l.length ≤ 64) :
    Calls Try.prog 66 #[.slice a l.length c, .int .i64 t] w fun e w' => e = .returned (.int .i64 (cntN t l : Int)) ∧ w = w' := by
  have HL := Lib.hid hl
  clear hl
  go_enter Try.func66, Try.ntmps66
  go_wp2
  go_loop [5, 10] (fun s i => ∃ k : Nat, k ≤ l.length ∧ i = .int .i64 k ∧ s = .int .i64 (cntN t (l.take k) : Int)) (fun _ i => l.length - (intOf i).toNat)
  case atStart => exact ⟨0, Nat.zero_le _, rfl, rfl⟩
  case round =>
    obtain ⟨k, hk, rfl, rfl⟩ := hrel
    have hbd := cnt_le t (l.take k)
    rw [List.length_take] at hbd
    by_cases hlt : k < l.length
    · have hi : (k : Int) < (l.length : Int) := by omega
      have hi0 : (0 : Int) ≤ (k : Int) := by omega
      obtain ⟨b, o, rfl, hb, hc⟩ := HL.out.at_ hlt
      have HT := Lib.hid (snoc_takeI l k hlt)
      generalize l[k] = z at *
      by_cases hz : t ≤ z
      · have HV := Lib.hid (cnt_hit (l := l.take k) hz)
        rw [← HT.out] at HV
        go_wp2
        go_round
        case rel => exact ⟨k + 1, by omega, by go_num, by rw [HV.out]; push_cast; rfl⟩
        case measure => simp [intOf]; omega
      · have HV := Lib.hid (cnt_miss (l := l.take k) hz)
        rw [← HT.out] at HV
        go_wp2
        go_round
        case rel => exact ⟨k + 1, by omega, by go_num, by rw [HV.out]⟩
        case measure => simp [intOf]; omega
    · obtain rfl : k = l.length := by omega
      have HT := Lib.hid (List.take_of_length_le (Nat.le_refl l.length))
      rw [HT.out]
      go_wp2
      go_ret
      exact ⟨rfl, rfl⟩
set_option maxHeartbeats 1000000 in
theorem clone_any (b o : Nat) (l : List Int) (c : Nat) (w : World) (hl : Ints .i64 w w.heap.size (some ⟨b, o, none⟩) l) (hn : l.length ≤ 1048576) (h0 : 0 < l.length) :
    Calls Try.prog 100 #[.slice (some ⟨b, o, none⟩) l.length c] w (IntsPost l w) := by
  obtain ⟨i0, hi0', hz0, hz1, hz2⟩ := info_parts infoInt
  rcases hl with rfl | ⟨b', o', e, hb, hc⟩
  · simp at h0
  · injection e with e
    injection e with e1 e2
    subst e1 e2
    have HC : Hid (∀ j u, (iv l)[j]? = some u → (w.alloc (.cells #[] 3)).cell? ((⟨b, o, none⟩ : Addr).add j) = some u) := by
      refine Lib.hid ?_
      intro j u hu
      obtain ⟨hj, hu⟩ := List.getElem?_eq_some_iff.1 hu
      rw [iv_length] at hj
      have e : (⟨b, o, none⟩ : Addr).add j = ⟨b, o + j, none⟩ := by unfold Addr.add; split <;> simp_all
      rw [e, World.cell?_alloc_lt _ _ _ (by simpa using hb), hc j hj, ← hu, iv_get]
    have HO := Lib.hid (World.ownsRow_made (base := w.heap.size) (e := 3) (size := 1) w #[] 0 (Nat.le_refl _) (by simp) rfl)
    clear hc
    have q0 : ∀ (W : World), (binOp .eql 24 (.slice (some ⟨b, o, none⟩) l.length c) (.slice none 0 0)).run Try.prog W = .ok (.bool false) W := fun _ => rfl
    go_enter Try.func100, Try.ntmps100
    go_wp2_with (at_builtin; refine wpList_append_own _ rfl _ _ 24 rfl w.heap.size 3 i0 (.int .i64 0) 1 8 Try.underlying24 hi0' hz0 hz1 hz2 rfl (by decide) _ 0 [] rfl HO.out ⟨b, o, none⟩ l.length c (iv l) rfl (by rw [iv_length]; simp) HC.out (iv_one l) (by unfold maxLen; omega) (by omega) (by simp) ?_; intro v' w1 hown' hgrow _; rw [Nat.zero_add, List.nil_append] at hown'; have HB := Lib.hid ((below_all w _).grown hgrow (by simp) (fun k hk => (HO.out.lt k hk).1)); obtain ⟨a', c', hv, ho⟩ := ownI_of hown' rfl; subst hv; have HO1 := Lib.hid ho; clear hown' hgrow ho)
    go_ret
    exact ⟨a', c', rfl, HO1.out, HB.out⟩
/-- the row that the sort works on: e values in order, a gap, the others as they came -/
def sortRow (l : List Int) (e : Nat) (g : Int) (m : Nat) : List Int := gap (insAll (l.take e)) g m ++ l.drop (e + 1)
theorem sortRow_len {l : List Int} {e m : Nat} (g : Int) (he : e < l.length) (hm : m ≤ e) : (sortRow l e g m).length = l.length := by
  have h := insAll_len (l.take e)
  rw [List.length_take] at h
  unfold sortRow
  rw [List.length_append, gap_len (by omega), List.length_drop]
  omega
theorem sorted_len {l : List Int} {e : Nat} (he : e ≤ l.length) : (insAll (l.take e)).length = e := by
  rw [insAll_len, List.length_take]; omega
theorem sortRow_start {l : List Int} {e : Nat} (he : e < l.length) : insAll (l.take e) ++ l.drop e = sortRow l e l[e] e := by
  have h := sorted_len (Nat.le_of_lt he)
  unfold sortRow
  have h2 : gap (insAll (l.take e)) l[e] e = insAll (l.take e) ++ [l[e]] := by
    have := gap_end (insAll (l.take e)) l[e]
    rwa [h] at this
  rw [h2, List.append_assoc]
  conv => lhs; rw [List.drop_eq_getElem_cons he]
  rfl
theorem sortRow_prev {l : List Int} {e m : Nat} {g : Int} (he : e < l.length) (hm : m < e) (h1 : m < (sortRow l e g (m + 1)).length) (h2 : m < (insAll (l.take e)).length) : (sortRow l e g (m + 1))[m] = (insAll (l.take e))[m] := by
  simp only [sortRow]
  rw [List.getElem_append_left (by rw [gap_len (by omega)]; omega)]
  exact gap_get h2 _
theorem sortRow_step {l : List Int} {e m : Nat} {g : Int} (he : e < l.length) (hm : m < e) (h2 : m < (insAll (l.take e)).length) : (sortRow l e g (m + 1)).set (m + 1) (insAll (l.take e))[m] = sortRow l e (insAll (l.take e))[m] m := by
  unfold sortRow
  rw [List.set_append_left _ _ (by rw [gap_len (by omega)]; omega), gap_step h2]
theorem sortRow_fill {l : List Int} {e m : Nat} {g : Int} (he : e < l.length) (hm : m ≤ e) (hs : spotN (insAll (l.take e)) l[e] e = m) : (sortRow l e g m).set m l[e] = insAll (l.take (e + 1)) ++ l.drop (e + 1) := by
  have h := sorted_len (Nat.le_of_lt he)
  unfold sortRow
  rw [List.set_append_left _ _ (by rw [gap_len (by omega)]; omega), gap_fill (by omega), snoc_takeI l e he, insAll_snoc]
  unfold ins
  rw [h, hs]
set_option maxRecDepth 100000 in
set_option maxHeartbeats 4000000 in
theorem sorted_any (b o : Nat) (l : List Int) (c : Nat) (w : World) (hl : Ints .i64 w w.heap.size (some ⟨b, o, none⟩) l) (hn : l.length ≤ 64) (h0 : 0 < l.length) :
    Calls Try.prog 88 #[.slice (some ⟨b, o, none⟩) l.length c] w (IntsPost (insAll l) w) := by
  have HL := Lib.hid hl
  have HCL := Lib.hid (clone_any b o l c w hl (by omega) h0)
  clear hl
  go_enter Try.func88, Try.ntmps88
  go_wp2_with fail
  refine HCL.out.mono ?_
  rintro e w1 ⟨a1, c1, rfl, ⟨g, hg, hat⟩, b1⟩
  rcases hat with hat | ⟨rfl, hrow⟩
  · rw [hat] at h0; simp at h0
  have HR1 := Lib.hid hrow
  have HB1 := Lib.hid b1
  clear hrow b1 HCL
  go_wp2
  go_loopw [11] (fun i wr => ∃ k : Nat, k ≤ l.length ∧ i = .int .i64 k ∧ Row wr g 3 (iv (insAll (l.take k) ++ l.drop k)) ∧ Below w.heap.size w wr) (fun i _ => l.length - (intOf i).toNat)
  case atStart => exact ⟨0, Nat.zero_le _, rfl, HR1.out, HB1.out⟩
  case round =>
    obtain ⟨k, hk, rfl, hrow, hB⟩ := hrel
    by_cases hlt : k < l.length
    · have hi : (k : Int) < (l.length : Int) := by omega
      have hi0 : (0 : Int) ≤ (k : Int) := by omega
      obtain ⟨b', o', e, hb', ck⟩ := (HL.out.below hB (Nat.le_refl _)).at_ hlt
      injection e with e
      injection e with e1 e2
      subst e1 e2
      rw [sortRow_start hlt] at hrow
      have HROW := Lib.hid hrow
      have HB := Lib.hid hB
      have HF := Lib.hid (fun (g' : Int) (m : Nat) (hm : m ≤ k) (hs : spotN (insAll (l.take k)) l[k] k = m) => sortRow_fill (g := g') (m := m) hlt hm hs)
      have hz : l[k] = l[k] := rfl
      obtain ⟨z, hzz⟩ : ∃ z, l[k] = z := ⟨_, rfl⟩
      rw [hzz] at HF HROW ck
      clear hrow hB hzz hz
      go_wp2
      go_loopw [6] (fun i wr => ∃ m : Nat, ∃ q : Int, m ≤ k ∧ i = .int .i64 m ∧ Row wr g 3 (iv (sortRow l k q m)) ∧ Below w.heap.size w wr ∧ spotN (insAll (l.take k)) z m = spotN (insAll (l.take k)) z k) (fun i _ => (intOf i).toNat)
      case atStart => exact ⟨k, z, Nat.le_refl _, rfl, HROW.out, HB.out, rfl⟩
      case round =>
        obtain ⟨m, q, hm, rfl, hrow, hB, hsp⟩ := hrel
        have HS := Lib.hid hsp
        have HR := Lib.hid hrow
        have HB2 := Lib.hid hB
        have sl := sorted_len (l := l) (e := k) hk
        have rl := sortRow_len (l := l) q hlt hm
        clear hrow hB hsp
        have fin : ∀ wr' : World, spotN (insAll (l.take k)) z m = m → Row wr' g 3 (iv (sortRow l k q m)) → Row (wr'.setCell ⟨g, m, none⟩ (.int .i64 z)) g 3 (iv (insAll (l.take (k + 1)) ++ l.drop (k + 1))) := by
          intro wr' e h
          have := h.set m (.int .i64 z)
          rw [iv_set, HF.out q m hm (by rw [← HS.out]; exact e)] at this
          exact this
        have HFIN := Lib.hid fin
        clear fin
        have mlt : (m : Int) < (l.length : Int) := by omega
        have m0 : (0 : Int) ≤ (m : Int) := by omega
        rcases Nat.eq_zero_or_pos m with hm0 | hm0
        · subst hm0
          have HSP := Lib.hid (show spotN (insAll (l.take k)) z 0 = 0 from rfl)
          have hf := HR.out.frozen 0
          obtain ⟨x0, hc0⟩ : ∃ x, wr.cell? ⟨g, 0, none⟩ = some (.int .i64 x) := ⟨_, by rw [HR.out.cell (k := 0) (by rw [iv_length]; omega), iv_get]⟩
          clear sl rl
          go_wp2
          go_roundw
          case rel => exact ⟨k + 1, by omega, by go_num, HFIN.out _ HSP.out HR.out, HB2.out.setCell (by show w.heap.size ≤ g; omega) _⟩
          case measure => simp [intOf]; omega
        · obtain ⟨p, rfl⟩ : ∃ p, m = p + 1 := ⟨m - 1, by omega⟩
          have hp : p < (insAll (l.take k)).length := by omega
          have hcp : wr.cell? ⟨g, p, none⟩ = some (.int .i64 (insAll (l.take k))[p]) := by
            rw [HR.out.cell (k := p) (by rw [iv_length]; omega), iv_get, sortRow_prev hlt (by omega)]
          obtain ⟨x1, hc1⟩ : ∃ x, wr.cell? ⟨g, p + 1, none⟩ = some (.int .i64 x) := ⟨_, by rw [HR.out.cell (k := p + 1) (by rw [iv_length]; omega), iv_get]⟩
          have hf := HR.out.frozen (p + 1)
          have HST := Lib.hid (sortRow_step (g := q) hlt (m := p) (by omega) hp)
          have p1 : ((p + 1 : Nat) : Int) - 1 = (p : Int) := by omega
          have pp0 : (0 : Int) ≤ (p : Int) := by omega
          have pp1 : (p : Int) < (l.length : Int) := by omega
          have pp2 : (0 : Int) < ((p + 1 : Nat) : Int) := by omega
          have HDN := Lib.hid (fun h => spotN_down (n := z) hp h)
          have HSTP := Lib.hid (fun h => spotN_stop (n := z) hp h)
          generalize (insAll (l.take k))[p] = y at *
          by_cases hy : z < y
          · have HD := Lib.hid (HDN.out hy)
            clear sl rl hp
            go_wp2
            go_roundw
            case rel => exact ⟨p, y, by omega, by go_num, by have := HR.out.set (p + 1) (.int .i64 y); rw [iv_set, HST.out] at this; exact this, HB2.out.setCell (by show w.heap.size ≤ g; omega) _, by rw [← HS.out, HD.out]⟩
            case measure => simp [intOf] <;> omega
          · have HD := Lib.hid (HSTP.out hy)
            clear sl rl hp
            go_wp2
            go_roundw
            case rel => exact ⟨k + 1, by omega, by go_num, HFIN.out _ HD.out HR.out, HB2.out.setCell (by show w.heap.size ≤ g; omega) _⟩
            case measure => simp [intOf] <;> omega
    · obtain rfl : k = l.length := by omega
      rw [List.take_of_length_le (Nat.le_refl _), List.drop_of_length_le (Nat.le_refl _), List.append_nil] at hrow
      have HR := Lib.hid hrow
      have HB := Lib.hid hB
      clear hrow hB
      go_wp2
      go_ret
      exact ⟨some ⟨g, 0, none⟩, c1, by rw [insAll_len]; rfl, ⟨g, hg, .inr ⟨rfl, HR.out⟩⟩, HB.out⟩
set_option maxHeartbeats 1000000 in
theorem medianOf_any (b o : Nat) (l : List Int) (c : Nat) (w : World) (hl : Ints .i64 w w.heap.size (some ⟨b, o, none⟩) l) (hn : l.length ≤ 64) (h0 : 0 < l.length) :
    Calls Try.prog 57 #[.slice (some ⟨b, o, none⟩) l.length c] w fun e w' => e = .returned (.int .i64 (medF l)) ∧ Below w.heap.size w w' := by
  have HS := Lib.hid (sorted_any b o l c w hl hn h0)
  have hlen := insAll_len l
  have hkl : (l.length - 1) / 2 < (insAll l).length := by omega
  have HM := Lib.hid (show medF l = (insAll l)[(l.length - 1) / 2] by unfold medF; rw [getD_at hkl])
  rw [HM.out]
  clear hl HM
  go_enter Try.func57, Try.ntmps57
  go_wp2_with fail
  refine HS.out.mono ?_
  rintro e w1 ⟨a1, c1, rfl, o1, b1⟩
  obtain ⟨b', o', rfl, hb', hc⟩ := o1.ints.at_ hkl
  have HB := Lib.hid b1
  clear b1 o1
  obtain ⟨z, hz⟩ : ∃ z, (insAll l)[(l.length - 1) / 2] = z := ⟨_, rfl⟩
  rw [hz] at hc
  have HZ := Lib.hid hz
  clear hz
  go_wp2
  go_ret
  exact ⟨ret_int HZ.out.symm, HB.out⟩
set_option maxHeartbeats 1000000 in
theorem isPeak_is (z : Int) (a : Option Addr) (l : List Int) (c B : Nat) (w : World) (hl : Ints .i64 w B a l) (hn : l.length ≤ 64) :
    Calls Try.prog 69 #[.int .i64 z, .slice a l.length c] w fun e w' => e = .returned (.bool (!decide (z = -9999) && decide (cntN z l = 1))) ∧ w = w' := by
  have HC := Lib.hid (fun W h => cntOf_is a l c B z W h hn)
  have HL := Lib.hid hl
  have hle := cnt_le z l
  clear hl
  by_cases h : z = -9999
  · subst h
    have e0 : (!decide ((-9999 : Int) = -9999) && decide (cntN (-9999) l = 1)) = false := by simp
    rw [e0]
    go_enter Try.func69, Try.ntmps69
    go_wp2
    go_ret
    exact ⟨rfl, rfl⟩
  · have e0 : (!decide (z = -9999) && decide (cntN z l = 1)) = decide (cntN z l = 1) := by simp [h]
    rw [e0]
    have hne : (z != -9999) = true := by simp [h]
    have hne2 : (z == -9999) = false := by simp [h]
    generalize cntN z l = n at *
    clear h e0
    by_cases h1 : n = 1
    · have e1 : ((n : Int) == 1) = true := by simp [h1]
      rw [decide_eq_true h1]
      go_enter Try.func69, Try.ntmps69
      go_wp2_with (go_at_call 66; refine (HC.out _ HL.out).mono ?_; rintro e w1 ⟨rfl, rfl⟩)
      go_ret
      exact ⟨rfl, rfl⟩
    · have e1 : ((n : Int) == 1) = false := by rw [beq_eq_false_iff_ne]; omega
      rw [decide_eq_false h1]
      go_enter Try.func69, Try.ntmps69
      go_wp2_with (go_at_call 66; refine (HC.out _ HL.out).mono ?_; rintro e w1 ⟨rfl, rfl⟩)
      go_ret
      exact ⟨rfl, rfl⟩
/-- what CoverageFilter answers -/
def covR (wd hg : Int) (l : List Int) (r t : Int) : Option (Int × Int × List Int) := if valB t = true then filtR (covF t) wd hg l r else none
theorem covR_len (wd hg : Int) (l : List Int) (r t : Int) : (rL (covR wd hg l r t)).length ≤ 64 := by
  unfold covR; split; exact filtR_len _ _ _ _ _; simp [rL]
end Go.Proofs.Ytdkffljnfemngaa
