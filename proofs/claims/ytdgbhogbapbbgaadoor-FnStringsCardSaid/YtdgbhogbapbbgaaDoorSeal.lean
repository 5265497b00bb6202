/- AppendChecksum: the text, '#', and the decimal checksum. -/
import Derived.Test.YtdgbhogbapbbgaaDoorFormat
import Derived.Test.YtdgbhogbapbbgaaDoorSum
import Derived.Test.YtdgbhogbapbbgaaDoorStands
import Derived.Lib.Bytealg
namespace Go.Proofs.YtdgbhogbapbbgaaDoor
open Go.RowKit
set_option linter.unusedVariables false
/-- the sealed text -/
def sealL (l : List UInt8) : List UInt8 := l ++ [35] ++ Lib.itoa (ck l)
/-- whether a text can be sealed, and what it becomes -/
def apB (s : ByteArray) : Bool := decide (s.size ≤ 4000) && !hasB s.data.toList 35 && decide ((sealL s.data.toList).length ≤ 4000)
def apS (s : ByteArray) : ByteArray := if apB s = true then ⟨(sealL s.data.toList).toArray⟩ else ⟨#[]⟩
theorem apS_yes {s : ByteArray} (h : apB s = true) : apS s = ⟨(sealL s.data.toList).toArray⟩ := if_pos h
theorem apS_no {s : ByteArray} (h : apB s = false) : apS s = ⟨#[]⟩ := if_neg (by rw [h]; simp)
theorem apB_long {s : ByteArray} (h : 4000 < s.size) : apB s = false := by
  have : decide (s.size ≤ 4000) = false := decide_eq_false (by omega)
  unfold apB; rw [this]; rfl
theorem apB_has {s : ByteArray} (h : hasB s.data.toList 35 = true) : apB s = false := by
  unfold apB; rw [h]; simp
theorem apB_out {s : ByteArray} (h : 4000 < (sealL s.data.toList).length) : apB s = false := by
  have : decide ((sealL s.data.toList).length ≤ 4000) = false := decide_eq_false (by omega)
  unfold apB; rw [this]; simp
theorem apB_yes {s : ByteArray} (h0 : s.size ≤ 4000) (h1 : hasB s.data.toList 35 = false) (h2 : (sealL s.data.toList).length ≤ 4000) : apB s = true := by
  have e0 : decide (s.size ≤ 4000) = true := decide_eq_true h0
  have e2 : decide ((sealL s.data.toList).length ≤ 4000) = true := decide_eq_true h2
  unfold apB; rw [e0, h1, e2]; rfl
theorem sealL_len (s : ByteArray) : (sealL s.data.toList).length = s.size + 1 + (Lib.itoa (ck s.data.toList)).length := by
  simp [sealL]; omega
theorem itoa_ck (l : List UInt8) : (Lib.itoa (ck l)).length ≤ 21 := by
  have := ck_bd l
  exact Lib.itoa_length_le _ (by omega) (by omega)
theorem seal_str (s : ByteArray) (d : List UInt8) (h : d = Lib.itoa (ck s.data.toList)) : s ++ ⟨#[35]⟩ ++ ⟨d.toArray⟩ = (⟨(sealL s.data.toList).toArray⟩ : ByteArray) := by
  subst h; apply ByteArray.ext; simp [sealL]

set_option maxHeartbeats 400000 in
theorem seal_any (s : ByteArray) (w : World) (hs : s.size ≤ 1048576) :
    Calls Tryd.prog 40 #[.string s] w (Quiet (.string ⟨(sealL s.data.toList).toArray⟩) w) := by
  have HS := Lib.hid (fun W => sum_any s W (by unfold maxLen; omega))
  have hb := ck_bd s.data.toList
  have hd := itoa_ck s.data.toList
  have HE := Lib.hid (fun d h => seal_str s d h)
  generalize hn : ck s.data.toList = n at *
  have HNN := Lib.hid hn
  clear hn
  have HN := Lib.hid (fun W => num_any n W (by omega) (by omega))
  generalize hdd : Lib.itoa n = d at *
  have HDD := Lib.hid hdd
  clear hdd
  go_enter Tryd.func40, Tryd.ntmps40
  go_wp2_with (first
    | (go_at_call 68; refine (HS.out _).mono ?_; rintro e w' ⟨rfl, rfl⟩)
    | (go_at_call 31; refine (HN.out _).mono ?_; rintro e w' ⟨rfl, d1⟩; have HD := Lib.hid d1; clear d1))
  go_ret
  exact ⟨by rw [← HE.out d rfl]; rfl, HD.out⟩

theorem indexByte_nonneg (l : List UInt8) (c : UInt8) : decide (0 ≤ Lib.indexByte l c) = hasB l c.toNat ∧ -1 ≤ Lib.indexByte l c := by
  induction l with
  | nil => exact ⟨rfl, by simp [Lib.indexByte]⟩
  | cons b r ih =>
    have hb : hasB (b :: r) c.toNat = ((b == c) || hasB r c.toNat) := by
      have : (((b.toNat : Nat) : Int) == ((c.toNat : Nat) : Int)) = (b == c) := by
        rw [Bool.eq_iff_iff, beq_iff_eq, beq_iff_eq]
        exact ⟨fun h => UInt8.toNat_inj.1 (by omega), fun h => by rw [h]⟩
      simp only [hasB, List.any_cons, this]
    unfold Lib.indexByte
    cases e : (b == c) with
    | true => rw [hb, e]; exact ⟨rfl, by simp⟩
    | false =>
      rw [hb, e]
      simp only [Bool.false_eq_true, if_false, Bool.false_or]
      rw [← ih.1]
      cases e2 : (Lib.indexByte r c == -1) with
      | true =>
        have := beq_iff_eq.1 e2
        rw [this]; simp
      | false =>
        have := beq_eq_false_iff_ne.1 e2
        have h3 := ih.2
        simp only [Bool.false_eq_true, if_false]
        exact ⟨decide_eq_decide.2 (by omega), by omega⟩
theorem contains_is (s : ByteArray) (w : World) {v : Bool} (h : hasB s.data.toList 35 = v) :
    Calls Tryd.prog 38 #[.string s, .string ⟨#[35]⟩] w fun e w' => e = .returned (.bool v) ∧ w = w' := by
  have := (indexByte_nonneg s.data.toList 35).1
  rw [show ((35 : UInt8).toNat : Int) = 35 from rfl, h] at this
  exact (Tryd.strings_Contains_one s 35 w).mono fun e w' ⟨a, b⟩ => ⟨by rw [a, this], b.symm⟩

set_option maxHeartbeats 1000000 in
theorem specAppend_any (s : ByteArray) (w : World) (hs : s.size ≤ 1048576) :
    Calls Tryd.prog 14 #[.string s] w (Quiet (.tuple #[.string (apS s), .bool (apB s)]) w) := by
  have HSE := Lib.hid (fun W => seal_any s W hs)
  by_cases h0 : (4000 : Int) < (s.size : Int)
  · have hb := apB_long (s := s) (by omega)
    rw [apS_no hb, hb]
    clear hb
    have hd : decide ((4000 : Int) < (s.size : Int)) = true := decide_eq_true h0
    go_enter Tryd.func14, Tryd.ntmps14
    go_wp2
    go_ret2
    exact ⟨rfl, Drew.refl w⟩
  · have hd : decide ((4000 : Int) < (s.size : Int)) = false := decide_eq_false h0
    cases hst : hasB s.data.toList 35 with
    | true =>
      have hb := apB_has hst
      rw [apS_no hb, hb]
      clear hb
      have HST := Lib.hid (fun W => stands_is s 35 W (by unfold maxLen; omega) hst)
      clear hst
      go_enter Tryd.func14, Tryd.ntmps14
      go_wp2_with (go_at_call 39; refine (HST.out _).mono ?_; rintro e w' ⟨rfl, rfl⟩)
      go_ret2
      exact ⟨rfl, Drew.refl w⟩
    | false =>
      have HST := Lib.hid (fun W => stands_is s 35 W (by unfold maxLen; omega) hst)
      by_cases h2 : (4000 : Int) < ((sealL s.data.toList).length : Int)
      · have hb := apB_out (s := s) (by omega)
        rw [apS_no hb, hb]
        clear hb hst
        generalize sealL s.data.toList = L at *
        go_enter Tryd.func14, Tryd.ntmps14
        go_wp2_with (first
          | (go_at_call 39; refine (HST.out _).mono ?_; rintro e w' ⟨rfl, rfl⟩)
          | (go_at_call 40; refine (HSE.out _).mono ?_; rintro e w' ⟨rfl, d1⟩; have HD := Lib.hid d1; clear d1))
        go_ret2
        exact ⟨rfl, HD.out⟩
      · have hb := apB_yes (s := s) (by omega) hst (by omega)
        rw [apS_yes hb, hb]
        clear hb hst
        generalize sealL s.data.toList = L at *
        go_enter Tryd.func14, Tryd.ntmps14
        go_wp2_with (go_at_call 39; refine (HST.out _).mono ?_; rintro e w' ⟨rfl, rfl⟩)
        refine (HSE.out _).mono ?_
        rintro e w1 ⟨rfl, d1⟩
        have HD1 := Lib.hid d1
        clear d1
        go_wp2_with fail
        refine (HSE.out _).mono ?_
        rintro e w2 ⟨rfl, d2⟩
        have HD2 := Lib.hid d2
        clear d2
        go_wp2
        go_ret2
        exact ⟨rfl, HD1.out.trans HD2.out⟩

set_option maxHeartbeats 1000000 in
theorem implAppend_any (s : ByteArray) (w : World) (hs : s.size ≤ maxLen) (ht : Tab w) :
    Calls Tryd.prog 13 #[.string s] w fun e w' => e = .returned (.tuple #[.string (apS s), .bool (apB s)]) ∧ Below w.heap.size w w' := by
  by_cases h0 : 4000 < s.size
  · have hb := apB_long h0
    rw [apS_no hb, hb]
    clear hb ht
    have HC := Lib.hid (fun W => implChecksum_no s W hs h0)
    clear hs
    go_enter Tryd.func13, Tryd.ntmps13
    go_wp2_with (go_at_call 37; refine (HC.out _).mono ?_; rintro e w' ⟨rfl, rfl⟩)
    go_ret2
    exact ⟨rfl, Below.refl _ _⟩
  · have HC := Lib.hid (fun W => implChecksum_yes s W (by omega))
    clear hs
    cases hst : hasB s.data.toList 35 with
    | true =>
      have hb := apB_has hst
      rw [apS_no hb, hb]
      have HST := Lib.hid (fun W => contains_is s W hst)
      clear hb hst ht
      go_enter Tryd.func13, Tryd.ntmps13
      go_wp2_with (first
        | (go_at_call 37; refine (HC.out _).mono ?_; rintro e w' ⟨rfl, rfl⟩)
        | (go_at_call 38; refine (HST.out _).mono ?_; rintro e w' ⟨rfl, rfl⟩))
      go_ret2
      exact ⟨rfl, Below.refl _ _⟩
    | false =>
      have HST := Lib.hid (fun W => contains_is s W hst)
      have hcb := ck_bd s.data.toList
      have HF := Lib.hid (implFormat_any (ck s.data.toList) w ht)
      have hr := inR_yes (n := ck s.data.toList) (by omega) (by omega)
      rw [fmtS_yes hr, hr] at HF
      have hlen := sealL_len s
      have hd := itoa_ck s.data.toList
      have HE := Lib.hid (fun d h => seal_str s d h)
      clear ht hr
      by_cases h2 : (4000 : Int) < (s.size : Int) + 1 + ((Lib.itoa (ck s.data.toList)).length : Int)
      · have hb := apB_out (s := s) (by omega)
        rw [apS_no hb, hb]
        clear hb hst hlen
        generalize Lib.itoa (ck s.data.toList) = d at *
        generalize ck s.data.toList = n at *
        go_enter Tryd.func13, Tryd.ntmps13
        go_wp2_with (first
          | (go_at_call 37; refine (HC.out _).mono ?_; rintro e w' ⟨rfl, rfl⟩)
          | (go_at_call 38; refine (HST.out _).mono ?_; rintro e w' ⟨rfl, rfl⟩)
          | (go_at_call 7; refine HF.out.mono ?_; rintro e w' ⟨rfl, b1⟩; have HB := Lib.hid b1; clear b1))
        go_ret2
        exact ⟨rfl, HB.out⟩
      · have hb := apB_yes (s := s) (by omega) hst (by omega)
        rw [apS_yes hb, hb]
        clear hb hst hlen
        have HE2 := Lib.hid (HE.out _ rfl)
        clear HE
        generalize Lib.itoa (ck s.data.toList) = d at *
        generalize ck s.data.toList = n at *
        generalize sealL s.data.toList = L at *
        go_enter Tryd.func13, Tryd.ntmps13
        go_wp2_with (first
          | (go_at_call 37; refine (HC.out _).mono ?_; rintro e w' ⟨rfl, rfl⟩)
          | (go_at_call 38; refine (HST.out _).mono ?_; rintro e w' ⟨rfl, rfl⟩)
          | (go_at_call 7; refine HF.out.mono ?_; rintro e w' ⟨rfl, b1⟩; have HB := Lib.hid b1; clear b1))
        go_ret2
        exact ⟨by rw [← HE2.out]; rfl, HB.out⟩
end Go.Proofs.YtdgbhogbapbbgaaDoor
