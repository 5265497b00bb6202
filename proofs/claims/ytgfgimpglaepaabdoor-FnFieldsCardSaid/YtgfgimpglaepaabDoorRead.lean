/- spec.l1Read: the number whose text this is. -/
import Derived.Test.YtgfgimpglaepaabDoorParseMath
import Derived.Test.YtgfgimpglaepaabDoorFormat
import Derived.Test.YtgfgimpglaepaabDoorSplitMath
namespace Go.Proofs.YtgfgimpglaepaabDoor
open Go.RowKit
set_option linter.unusedVariables false
theorem str_isl' {l : List UInt8} {s : ByteArray} (h : l = s.data.toList) : (l == s.toList) = true := by rw [beq_iff_eq, Lib.toList_data, h]
theorem str_notl' {l : List UInt8} {s : ByteArray} (h : l ≠ s.data.toList) : (l == s.toList) = false := by rw [beq_eq_false_iff_ne, Lib.toList_data]; exact h
theorem head_at (s : ByteArray) (h : 0 < s.size) : s.data.toList.head? = some s[0] := by
  obtain ⟨⟨l⟩⟩ := s
  match l, h with
  | a :: r, _ => rfl

/-- what is told of the text: it has no sign -/
def NoSign (s : ByteArray) : Prop := decide ((1 : Int) < (s.size : Int)) = false ∨ ∃ h : 0 < s.size, decide ((1 : Int) < (s.size : Int)) = true ∧ ((s[0].toNat : Int) == 45) = false
theorem NoSign.form {s : ByteArray} (h : NoSign s) : ¬ (1 < s.data.toList.length ∧ s.data.toList.head? = some 45) := by
  rintro ⟨h1, h2⟩
  have hl : s.data.toList.length = s.size := by simp
  rcases h with h | ⟨h0, _, h⟩
  · have := of_decide_eq_false h; omega
  · rw [head_at s h0] at h2
    injection h2 with h2
    rw [h2] at h
    cases h

set_option maxHeartbeats 1000000 in
theorem read_pos_out (s : ByteArray) (w : World) (hs : s.size ≤ 1048576) (hn : NoSign s) (h : (s.size : Int) < 1 ∨ 6 < (s.size : Int)) :
    Calls Tryd.prog 73 #[.string s] w (Quiet (.tuple #[.int .i64 (pN s), .bool (pB s)]) w) := by
  have hb : pB s = false := pB_not fun n h0 h1 e => by
    have := itoa_form_pos hn.form h0 h1 e
    have hl : s.data.toList.length = s.size := by simp
    omega
  rw [pN_no hb, hb]
  clear hb
  rcases hn with hn | ⟨hp, hn1, hn2⟩
  all_goals
    go_enter Tryd.func73, Tryd.ntmps73
    go_wp2_with (go_at_call 60; refine (in_no _ _ _ _ h).mono ?_; rintro e w' ⟨rfl, rfl⟩)
    go_ret2
    exact ⟨rfl, Drew.refl w⟩

set_option maxHeartbeats 2000000 in
theorem read_pos_in (s : ByteArray) (w : World) (hn : NoSign s) (h1 : 1 ≤ s.size) (h6 : s.size ≤ 6) :
    Calls Tryd.prog 73 #[.string s] w (Quiet (.tuple #[.int .i64 (pN s), .bool (pB s)]) w) := by
  have HFO := Lib.hid (fun n h0 h1 e => itoa_form_pos (n := n) hn.form h0 h1 e)
  rcases hn with hn | ⟨hp, hn1, hn2⟩
  all_goals
    go_enter Tryd.func73, Tryd.ntmps73
    go_wp2_with (go_at_call 60; refine (in_yes _ _ _ _ (by omega) (by omega)).mono ?_; rintro e w' ⟨rfl, rfl⟩)
    go_loop [5, 6] (fun n i => ∃ k m : Nat, k ≤ s.size ∧ i = .int .i64 k ∧ n = .int .i64 m ∧ m = val (s.data.toList.take k) ∧ Dig (s.data.toList.take k) ∧ m ≤ 999999) (fun _ i => s.size - (intOf i).toNat)
    case atStart => exact ⟨0, 0, Nat.zero_le _, rfl, rfl, rfl, fun c hc => (by cases hc), by omega⟩
    case round =>
      obtain ⟨k, m, hk, rfl, rfl, hm, hd, hml⟩ := hrel
      have HM := Lib.hid hm
      have HD := Lib.hid hd
      clear hm hd
      by_cases hlt : k < s.size
      · have hi : (k : Int) < (s.size : Int) := by omega
        have hi0 : (0 : Int) ≤ (k : Int) := by omega
        by_cases hdig : 48 ≤ s[k].toNat ∧ s[k].toNat ≤ 57
        · obtain ⟨hg1, hg2⟩ := hdig
          have hts := take_snoc s k hlt
          have HV := Lib.hid (by rw [hts, val_snoc, ← HM.out] : val (s.data.toList.take (k + 1)) = m * 10 + (s[k].toNat - 48))
          have HDD : Dig (s.data.toList.take (k + 1)) := by rw [hts]; exact HD.out.snoc ⟨hg1, hg2⟩
          have HL := Lib.hid (val_small HDD (by rw [List.length_take]; omega))
          have HDH := Lib.hid HDD
          clear hts HDD
          have d1 : decide ((s[k].toNat : Int) < 48) = false := decide_eq_false (by omega)
          have d2 : decide ((57 : Int) < (s[k].toNat : Int)) = false := decide_eq_false (by omega)
          have i1 : (48 : Int) ≤ (s[k].toNat : Int) := by omega
          have i2 : (s[k].toNat : Int) ≤ 57 := by omega
          go_wp2
          go_round
          case rel => exact ⟨k + 1, m * 10 + (s[k].toNat - 48), by omega, by go_num, (by have hx : (10 * (m : Int) + ((s[k].toNat : Int) - 48)) = ((m * 10 + (s[k].toNat - 48) : Nat) : Int) := (by omega); rw [← hx]), HV.out.symm, HDH.out, by rw [← HV.out]; exact HL.out⟩
          case measure => simp [intOf]; omega
        · have hb : pB s = false := pB_not fun n h0 h1 e => not_dig_at hlt hdig (HFO.out n h0 h1 e).1
          rw [pN_no hb, hb]
          clear hb
          by_cases hlow : s[k].toNat < 48
          · have d1 : decide ((s[k].toNat : Int) < 48) = true := decide_eq_true (by omega)
            go_wp2
            go_ret2
            exact ⟨rfl, Drew.refl w⟩
          · have d1 : decide ((s[k].toNat : Int) < 48) = false := decide_eq_false (by omega)
            have d2 : decide ((57 : Int) < (s[k].toNat : Int)) = true := decide_eq_true (by omega)
            go_wp2
            go_ret2
            exact ⟨rfl, Drew.refl w⟩
      · have hval : m = val s.data.toList := by have := HM.out; rwa [take_all _ _ (by omega)] at this
        have HN := Lib.hid (fun W => num_any (m : Int) W (by omega) (by omega))
        by_cases hq : Lib.itoa (m : Int) = s.data.toList
        · obtain ⟨hb, hnn⟩ := pB_of (s := s) (n := (m : Int)) (by omega) (by omega) hq
          have HPB := Lib.hid hb
          have HPN := Lib.hid hnn
          have hq2 := str_isl' hq
          clear hb hnn hq hval
          generalize Lib.itoa (m : Int) = d at *
          go_wp2_with (go_at_call 70; refine (HN.out _).mono ?_; rintro e w1 ⟨rfl, d1⟩; have HDR := Lib.hid d1; clear d1)
          go_ret2
          exact ⟨by rw [HPB.out, HPN.out]; rfl, HDR.out⟩
        · have hb : pB s = false := pB_not fun n h0 h1 e => by
            have h2 := (HFO.out n h0 h1 e).2.2.2
            rw [← hval] at h2
            subst h2
            exact hq e
          have HPB := Lib.hid hb
          have HPN := Lib.hid (pN_no hb)
          have hq2 := str_notl' hq
          clear hb hq hval
          generalize Lib.itoa (m : Int) = d at *
          go_wp2_with (go_at_call 70; refine (HN.out _).mono ?_; rintro e w1 ⟨rfl, d1⟩; have HDR := Lib.hid d1; clear d1)
          go_ret2
          exact ⟨by rw [HPB.out, HPN.out]; rfl, HDR.out⟩

/-- what is told of a text with a sign -/
theorem sign_form {s : ByteArray} (h0 : 0 < s.size) (h : ((s[0].toNat : Int) == 45) = true) : s.data.toList = 45 :: (s.extract 1 s.size).data.toList := by
  have h1 : s[0] = 45 := UInt8.toNat_inj.1 (by have := beq_iff_eq.1 h; show s[0].toNat = 45; omega)
  have h2 := head_at s h0
  rw [h1] at h2
  rw [Lib.extract_data]
  obtain ⟨⟨l⟩⟩ := s
  match l, h0, h2 with
  | a :: r, _, h2 =>
    simp only [List.head?_cons, Option.some.injEq] at h2
    subst h2
    simp [ByteArray.size]

set_option maxHeartbeats 1000000 in
theorem read_neg_out (s : ByteArray) (w : World) (hs : s.size ≤ 1048576) (h1 : 1 < s.size) (hm : ((s[0].toNat : Int) == 45) = true) (h : 7 < s.size) :
    Calls Tryd.prog 73 #[.string s] w (Quiet (.tuple #[.int .i64 (pN s), .bool (pB s)]) w) := by
  have hb : pB s = false := pB_not fun n h0 h2 e => by
    have h3 := sign_form (by omega) hm
    rw [h3] at e
    have h4 := itoa_form_neg h0 h2 e
    have hl : (s.extract 1 s.size).data.toList.length = s.size - 1 := by rw [Lib.extract_data]; simp
    omega
  rw [pN_no hb, hb]
  clear hb
  have d0 : decide ((1 : Int) < (s.size : Int)) = true := decide_eq_true (by omega)
  go_enter Tryd.func73, Tryd.ntmps73
  go_wp2_with (go_at_call 60; refine (in_no _ _ _ _ (by omega)).mono ?_; rintro e w' ⟨rfl, rfl⟩)
  go_ret2
  exact ⟨rfl, Drew.refl w⟩

set_option maxHeartbeats 2000000 in
theorem read_neg_in (s : ByteArray) (w : World) (h1 : 1 < s.size) (h7 : s.size ≤ 7) (hmi : ((s[0].toNat : Int) == 45) = true) :
    Calls Tryd.prog 73 #[.string s] w (Quiet (.tuple #[.int .i64 (pN s), .bool (pB s)]) w) := by
  have hsf := sign_form (by omega) hmi
  have HFO := Lib.hid (fun n h0 h1 (e : Lib.itoa n = s.data.toList) => itoa_form_neg (n := n) h0 h1 (e.trans hsf))
  have hsz : (s.extract 1 s.size).size = s.size - 1 := by simp
  have d0 : decide ((1 : Int) < (s.size : Int)) = true := decide_eq_true (by omega)
  clear hsf
  go_enter Tryd.func73, Tryd.ntmps73
  go_wp2_with (go_at_call 60; refine (in_yes _ _ _ _ (by omega) (by omega)).mono ?_; rintro e w' ⟨rfl, rfl⟩)
  generalize s.extract 1 s.size = t at *
  have ht1 : t.size < s.size := by omega
  have ht6 : t.size ≤ 6 := by omega
  clear hsz
  go_loop [5, 6] (fun n i => ∃ k m : Nat, k ≤ t.size ∧ i = .int .i64 k ∧ n = .int .i64 m ∧ m = val (t.data.toList.take k) ∧ Dig (t.data.toList.take k) ∧ m ≤ 999999) (fun _ i => t.size - (intOf i).toNat)
  case atStart => exact ⟨0, 0, Nat.zero_le _, rfl, rfl, rfl, fun c hc => (by cases hc), by omega⟩
  case round =>
    obtain ⟨k, m, hk, rfl, rfl, hm, hd, hml⟩ := hrel
    have HM := Lib.hid hm
    have HD := Lib.hid hd
    clear hm hd
    by_cases hlt : k < t.size
    · have hi : (k : Int) < (t.size : Int) := by omega
      have hi0 : (0 : Int) ≤ (k : Int) := by omega
      by_cases hdig : 48 ≤ t[k].toNat ∧ t[k].toNat ≤ 57
      · obtain ⟨hg1, hg2⟩ := hdig
        have hts := take_snoc t k hlt
        have HV := Lib.hid (by rw [hts, val_snoc, ← HM.out] : val (t.data.toList.take (k + 1)) = m * 10 + (t[k].toNat - 48))
        have HDD : Dig (t.data.toList.take (k + 1)) := by rw [hts]; exact HD.out.snoc ⟨hg1, hg2⟩
        have HL := Lib.hid (val_small HDD (by rw [List.length_take]; omega))
        have HDH := Lib.hid HDD
        clear hts HDD
        have d1 : decide ((t[k].toNat : Int) < 48) = false := decide_eq_false (by omega)
        have d2 : decide ((57 : Int) < (t[k].toNat : Int)) = false := decide_eq_false (by omega)
        have i1 : (48 : Int) ≤ (t[k].toNat : Int) := by omega
        have i2 : (t[k].toNat : Int) ≤ 57 := by omega
        go_wp2
        go_round
        case rel => exact ⟨k + 1, m * 10 + (t[k].toNat - 48), by omega, by go_num, (by have hx : (10 * (m : Int) + ((t[k].toNat : Int) - 48)) = ((m * 10 + (t[k].toNat - 48) : Nat) : Int) := (by omega); rw [← hx]), HV.out.symm, HDH.out, by rw [← HV.out]; exact HL.out⟩
        case measure => simp [intOf]; omega
      · have hb : pB s = false := pB_not fun n h0 h1 e => not_dig_at hlt hdig (HFO.out n h0 h1 e).1
        have HPB := Lib.hid hb
        have HPN := Lib.hid (pN_no hb)
        clear hb
        by_cases hlow : t[k].toNat < 48
        · have d1 : decide ((t[k].toNat : Int) < 48) = true := decide_eq_true (by omega)
          go_wp2
          go_ret2
          exact ⟨by rw [HPB.out, HPN.out]; rfl, Drew.refl w⟩
        · have d1 : decide ((t[k].toNat : Int) < 48) = false := decide_eq_false (by omega)
          have d2 : decide ((57 : Int) < (t[k].toNat : Int)) = true := decide_eq_true (by omega)
          go_wp2
          go_ret2
          exact ⟨by rw [HPB.out, HPN.out]; rfl, Drew.refl w⟩
    · have hval : m = val t.data.toList := by have := HM.out; rwa [take_all _ _ (by omega)] at this
      have HN := Lib.hid (fun W => num_any (-(m : Int)) W (by omega) (by omega))
      by_cases hq : Lib.itoa (-(m : Int)) = s.data.toList
      · obtain ⟨hb, hnn⟩ := pB_of (s := s) (n := -(m : Int)) (by omega) (by omega) hq
        have HPB := Lib.hid hb
        have HPN := Lib.hid hnn
        have hq2 := str_isl' hq
        clear hb hnn hq hval
        generalize Lib.itoa (-(m : Int)) = d at *
        go_wp2_with (go_at_call 70; refine (HN.out _).mono ?_; rintro e w1 ⟨rfl, d1⟩; have HDR := Lib.hid d1; clear d1)
        go_ret2
        exact ⟨by rw [HPB.out, HPN.out]; rfl, HDR.out⟩
      · have hb : pB s = false := pB_not fun n h0 h1 e => by
          have h2 := (HFO.out n h0 h1 e).2.2.2
          rw [← hval] at h2
          subst h2
          exact hq e
        have HPB := Lib.hid hb
        have HPN := Lib.hid (pN_no hb)
        have hq2 := str_notl' hq
        clear hb hq hval
        generalize Lib.itoa (-(m : Int)) = d at *
        go_wp2_with (go_at_call 70; refine (HN.out _).mono ?_; rintro e w1 ⟨rfl, d1⟩; have HDR := Lib.hid d1; clear d1)
        go_ret2
        exact ⟨by rw [HPB.out, HPN.out]; rfl, HDR.out⟩

theorem read_any (s : ByteArray) (w : World) (hs : s.size ≤ 1048576) : Calls Tryd.prog 73 #[.string s] w (Quiet (.tuple #[.int .i64 (pN s), .bool (pB s)]) w) := by
  by_cases h1 : 1 < s.size
  · cases hm : (((s[0]'(by omega)).toNat : Int) == 45) with
    | true =>
      by_cases h7 : 7 < s.size
      · exact read_neg_out s w hs h1 hm h7
      · exact read_neg_in s w h1 (by omega) hm
    | false =>
      have hn : NoSign s := .inr ⟨by omega, decide_eq_true (by omega), hm⟩
      by_cases h6 : 6 < s.size
      · exact read_pos_out s w hs hn (.inr (by omega))
      · exact read_pos_in s w hn (by omega) (by omega)
  · have hn : NoSign s := .inl (decide_eq_false (by omega))
    by_cases h0 : s.size < 1
    · exact read_pos_out s w hs hn (.inl (by omega))
    · exact read_pos_in s w hn (by omega) (by omega)
end Go.Proofs.YtgfgimpglaepaabDoor
