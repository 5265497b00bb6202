/- VerifyChecksum, model and program, and the walk of FnExactVerifyChecksum. -/
import Derived.Test.YtdgbhogbapbbgaaDoorCut
import Derived.Test.YtdgbhogbapbbgaaDoorSplit
import Derived.Test.YtdgbhogbapbbgaaDoorAppendLaw
namespace Go.Proofs.YtdgbhogbapbbgaaDoor
open Go.RowKit
set_option linter.unusedVariables false
/-- whether a text is a sealed one, and the text that was sealed -/
def vB (s : ByteArray) : Bool := decide (s.size ≤ 4000 ∧ sealL (headL s.data.toList) = s.data.toList)
def vS (s : ByteArray) : ByteArray := if vB s = true then ⟨(headL s.data.toList).toArray⟩ else ⟨#[]⟩
theorem vS_yes {s : ByteArray} (h : vB s = true) : vS s = ⟨(headL s.data.toList).toArray⟩ := if_pos h
theorem vS_no {s : ByteArray} (h : vB s = false) : vS s = ⟨#[]⟩ := if_neg (by rw [h]; simp)
theorem vB_long {s : ByteArray} (h : 4000 < s.size) : vB s = false := decide_eq_false (by omega)
theorem vB_other {s : ByteArray} (h : sealL (headL s.data.toList) ≠ s.data.toList) : vB s = false := decide_eq_false (fun e => h e.2)
theorem vB_yes {s : ByteArray} (h0 : s.size ≤ 4000) (h : sealL (headL s.data.toList) = s.data.toList) : vB s = true := decide_eq_true ⟨h0, h⟩
theorem headL_free (l : List UInt8) : hasB (headL l) 35 = false := by
  unfold hasB headL
  rw [List.any_eq_false]
  intro x hx
  have : ∀ (p : UInt8 → Bool) (l : List UInt8), ∀ x ∈ l.takeWhile p, p x = true := by
    intro p l
    induction l with
    | nil => intro x hx; cases hx
    | cons a r ih =>
      intro x hx
      rw [List.takeWhile_cons] at hx
      split at hx
      · rcases List.mem_cons.1 hx with rfl | h
        · assumption
        · exact ih x h
      · cases hx
  have h2 := this _ _ x hx
  simpa using h2
theorem headL_le (l : List UInt8) : (headL l).length ≤ l.length := (List.takeWhile_sublist _).length_le
theorem mk_list (l : List UInt8) : (⟨l.toArray⟩ : ByteArray).data.toList = l := rfl
theorem mk_size (l : List UInt8) : (⟨l.toArray⟩ : ByteArray).size = l.length := by simp [ByteArray.size]
/-- what the program decides is what the model decides -/
theorem vB_unmarked {s : ByteArray} (h : hasB s.data.toList 35 = false) : vB s = false := by
  refine vB_other ?_
  rw [(index_none _ h).2]
  intro e
  have := congrArg List.length e
  simp [sealL] at this
theorem v_of_ap {s : ByteArray} : (apB ⟨(headL s.data.toList).toArray⟩ = true ∧ apS ⟨(headL s.data.toList).toArray⟩ = s) ↔ vB s = true := by
  have hl := headL_le s.data.toList
  have hsz : s.data.toList.length = s.size := by simp
  constructor
  · rintro ⟨h1, h2⟩
    rw [apS_yes h1] at h2
    have h3 : sealL (headL s.data.toList) = s.data.toList := by
      have := congrArg (fun b : ByteArray => b.data.toList) h2
      simpa using this
    have h4 : (sealL (headL s.data.toList)).length ≤ 4000 := by
      rcases Nat.lt_or_ge 4000 (sealL (headL s.data.toList)).length with h | h
      · rw [apB_out (s := ⟨(headL s.data.toList).toArray⟩) (by simpa using h)] at h1; cases h1
      · exact h
    refine vB_yes ?_ h3
    rw [h3] at h4; omega
  · intro h
    have h1 := of_decide_eq_true h
    have h5 : (sealL (headL s.data.toList)).length ≤ 4000 := by rw [h1.2]; omega
    have h2 : apB ⟨(headL s.data.toList).toArray⟩ = true := apB_yes (by simp [ByteArray.size]; omega) (by simpa using headL_free s.data.toList) (by simpa using h5)
    refine ⟨h2, ?_⟩
    rw [apS_yes h2, mk_list (headL s.data.toList), h1.2]

theorem str_eq {l : List UInt8} {s : ByteArray} (h : l = s.data.toList) : (l == s.toList) = true := by rw [beq_iff_eq, Lib.toList_data, h]
theorem str_ne {l : List UInt8} {s : ByteArray} (h : l ≠ s.data.toList) : (l == s.toList) = false := by rw [beq_eq_false_iff_ne, Lib.toList_data]; exact h
theorem mk_eq {l : List UInt8} {s : ByteArray} : (⟨l.toArray⟩ : ByteArray) = s ↔ l = s.data.toList :=
  ⟨fun e => by rw [← e], fun e => by rw [e]⟩

theorem row_head {w : World} {g : Nat} {t : TypeId} {L : List (List UInt8)} {hd : List UInt8} (h : Row w g t (txt L)) (hh : L.head? = some hd) : w.cell? ⟨g, 0, none⟩ = some (.string ⟨hd.toArray⟩) := by
  cases L with
  | nil => cases hh
  | cons a r =>
    simp only [List.head?_cons, Option.some.injEq] at hh
    subst hh
    exact h.cell (k := 0) (by simp [txt])

theorem clone_any (s : ByteArray) (w : World) (hs : s.size ≤ 1048576) : Calls Tryd.prog 42 #[.string s] w fun e w' => e = .returned (.string s) ∧ Below w.heap.size w w' := by
  have HC := Lib.hid (Tryd.stringslite_Clone s w (by omega))
  go_enter Tryd.func42, Tryd.ntmps42
  go_wp2_with (go_at_call 70; refine HC.out.mono ?_; rintro e w' ⟨rfl, b1⟩; have HB := Lib.hid b1; clear b1)
  go_ret
  exact ⟨rfl, HB.out⟩

set_option maxHeartbeats 1000000 in
theorem implVerify_any (s : ByteArray) (w : World) (hs : s.size ≤ 1048576) (ht : Tab w) :
    Calls Tryd.prog 15 #[.string s] w fun e w' => e = .returned (.tuple #[.string (vS s), .bool (vB s)]) ∧ Below w.heap.size w w' := by
  cases hm : hasB s.data.toList 35 with
  | false =>
    have hb := vB_unmarked hm
    rw [vS_no hb, hb]
    have HC := Lib.hid (cut_no s w hm)
    clear hm hb ht
    go_enter Tryd.func15, Tryd.ntmps15
    go_wp2_with (go_at_call 41; refine HC.out.mono ?_; rintro e w' ⟨rfl, d1⟩; have HD := Lib.hid d1; clear d1)
    go_ret2
    exact ⟨rfl, HD.out.below _⟩
  | true =>
    have HC := Lib.hid (cut_yes s w hs hm)
    clear hm
    have hhs : (⟨(headL s.data.toList).toArray⟩ : ByteArray).size ≤ 1048576 := by
      rw [mk_size]; have h1 := headL_le s.data.toList; have h2 : s.data.toList.length = s.size := by simp
      omega
    have HA := Lib.hid (fun W (h : Drew w W) => implAppend_any ⟨(headL s.data.toList).toArray⟩ W (by unfold maxLen; omega) (ht.drew h))
    have HCL := Lib.hid (fun W => clone_any ⟨(headL s.data.toList).toArray⟩ W hhs)
    have hiff := v_of_ap (s := s)
    have hvs := fun h => vS_yes (s := s) h
    clear ht hhs
    generalize (⟨(headL s.data.toList).toArray⟩ : ByteArray) = hd at *
    cases hap : apB hd with
    | false =>
      have hb : vB s = false := by
        cases e : vB s with
        | false => rfl
        | true => have := (hiff.2 e).1; rw [hap] at this; cases this
      rw [vS_no hb, hb]
      rw [hap] at HA
      clear hiff hb hap hvs
      generalize apS hd = sd at *
      go_enter Tryd.func15, Tryd.ntmps15
      go_wp2_with (go_at_call 41; refine HC.out.mono ?_; rintro e w1 ⟨r, rfl, d1⟩; have HD := Lib.hid d1; clear d1)
      refine (HA.out _ HD.out).mono ?_
      rintro e w2 ⟨rfl, b2⟩
      have HB := Lib.hid b2
      clear b2
      go_wp2
      go_ret2
      exact ⟨rfl, (HD.out.below _).trans (HB.out.mono (by rw [HD.out.size]; omega))⟩
    | true =>
      rw [hap] at HA
      by_cases hq : apS hd = s
      · have hb : vB s = true := hiff.1 ⟨hap, hq⟩
        have hq2 : ((apS hd).toList == s.toList) = true := by rw [hq, beq_iff_eq]
        rw [hvs hb, hb]
        clear hiff hb hap hq hvs
        generalize apS hd = sd at *
        go_enter Tryd.func15, Tryd.ntmps15
        go_wp2_with (go_at_call 41; refine HC.out.mono ?_; rintro e w1 ⟨r, rfl, d1⟩; have HD := Lib.hid d1; clear d1)
        refine (HA.out _ HD.out).mono ?_
        rintro e w2 ⟨rfl, b2⟩
        have HB := Lib.hid b2
        clear b2
        go_wp2_with (go_at_call 42; refine (HCL.out _).mono ?_; rintro e w3 ⟨rfl, b3⟩; have HB3 := Lib.hid b3; clear b3)
        go_ret2
        exact ⟨rfl, ((HD.out.below _).trans (HB.out.mono (by rw [HD.out.size]; omega))).trans (HB3.out.mono (by have := HB.out.size; have := HD.out.size; omega))⟩
      · have hb : vB s = false := by
          cases e : vB s with
          | false => rfl
          | true => exact absurd (hiff.2 e).2 hq
        have hq2 : ((apS hd).toList == s.toList) = false := by
          rw [beq_eq_false_iff_ne, Lib.toList_data, Lib.toList_data]; exact fun e => hq (WideShapes.bytes_inj e)
        rw [vS_no hb, hb]
        clear hiff hb hap hq hvs
        generalize apS hd = sd at *
        go_enter Tryd.func15, Tryd.ntmps15
        go_wp2_with (go_at_call 41; refine HC.out.mono ?_; rintro e w1 ⟨r, rfl, d1⟩; have HD := Lib.hid d1; clear d1)
        refine (HA.out _ HD.out).mono ?_
        rintro e w2 ⟨rfl, b2⟩
        have HB := Lib.hid b2
        clear b2
        go_wp2
        go_ret2
        exact ⟨rfl, (HD.out.below _).trans (HB.out.mono (by rw [HD.out.size]; omega))⟩

end Go.Proofs.YtdgbhogbapbbgaaDoor
