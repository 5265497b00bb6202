/- strings.Cut at '#': the text before the first mark. -/
import Derived.Test.YtdgbhogbapbbgaaDoorSeal
import Derived.Test.YtdgbhogbapbbgaaDoorSplitMath
import Derived.Deep.QuietTactic
import Derived.BigQuiet
namespace Go.Proofs.YtdgbhogbapbbgaaDoor
open Go.RowKit
set_option linter.unusedVariables false
/-- the text before the first mark -/
def headL (l : List UInt8) : List UInt8 := l.takeWhile (fun b => !decide ((b.toNat : Int) = 35))
theorem index_take (l : List UInt8) (h : hasB l 35 = true) : ∃ n : Nat, Lib.indexByte l 35 = (n : Int) ∧ n < l.length ∧ l.take n = headL l := by
  induction l with
  | nil => cases h
  | cons b r ih =>
    by_cases e : (b.toNat : Int) = 35
    · have e1 : (b == 35) = true := by rw [beq_iff_eq]; exact UInt8.toNat_inj.1 (by show b.toNat = 35; omega)
      exact ⟨0, by simp [Lib.indexByte, e1], by simp, by simp [headL, e]⟩
    · have e1 : (b == 35) = false := by rw [beq_eq_false_iff_ne]; intro h; subst h; exact e rfl
      have h2 : hasB r 35 = true := by
        have h3 : (((b.toNat : Nat) : Int) == 35) = false := by rw [beq_eq_false_iff_ne]; exact e
        simpa only [hasB, List.any_cons, h3, Bool.false_or] using h
      obtain ⟨n, h4, h5, h6⟩ := ih h2
      refine ⟨n + 1, ?_, by simp; omega, ?_⟩
      · unfold Lib.indexByte
        rw [e1, h4]
        have : ((n : Int) == -1) = false := by rw [beq_eq_false_iff_ne]; omega
        simp [this]
      · simp only [List.take_succ_cons, headL] at *
        rw [List.takeWhile_cons, h6]
        simp [e]
theorem takeWhile_all {α : Type} (p : α → Bool) (l : List α) (h : ∀ x ∈ l, p x = true) : l.takeWhile p = l := by
  induction l with
  | nil => rfl
  | cons a r ih => rw [List.takeWhile_cons, h a (by simp), if_pos rfl, ih (fun x hx => h x (by simp [hx]))]
theorem index_none (l : List UInt8) (h : hasB l 35 = false) : Lib.indexByte l 35 = -1 ∧ headL l = l := by
  have h1 := indexByte_nonneg l 35
  rw [show ((35 : UInt8).toNat : Int) = 35 from rfl, h] at h1
  refine ⟨by have := of_decide_eq_false h1.1; omega, ?_⟩
  unfold headL
  refine takeWhile_all _ l fun x hx => ?_
  unfold hasB at h
  rw [List.any_eq_false] at h
  have := h x hx
  simpa using this

set_option maxHeartbeats 400000 in
theorem cutLite_yes (s : ByteArray) (w : World) (hs : s.size ≤ 1048576) (h : hasB s.data.toList 35 = true) :
    Calls Tryd.prog 69 #[.string s, .string ⟨#[35]⟩] w fun e w' => ∃ r : ByteArray, e = .returned (.tuple #[.string ⟨(headL s.data.toList).toArray⟩, .string r, .bool true]) ∧ Drew w w' := by
  obtain ⟨n, h1, h2, h3⟩ := index_take _ h
  have HI := Lib.hid (Tryd.stringslite_Index_one s 35 w)
  rw [h1] at HI
  have hn : n < s.size := by simpa using h2
  have HE : s.extract 0 n = ⟨(headL s.data.toList).toArray⟩ := by rw [ext_list, h3]; rfl
  have HEE := Lib.hid HE
  have e1 : IntKind.i64.wrap ((n : Int) + 1) = (n : Int) + 1 := IntWalk.i64_in _ (by omega)
  have b1 : (0 : Int) ≤ (n : Int) + 1 := by omega
  have b2 : (n : Int) + 1 ≤ (s.size : Int) := by omega
  have b3 : (n : Int) ≤ (s.size : Int) := by omega
  clear h h1 h2 h3 HE
  go_enter Tryd.func69, Tryd.ntmps69
  go_wp2_with (go_at_call 86; refine HI.out.mono ?_; rintro e w' ⟨rfl, rfl⟩)
  go_quiet (fail)
  go_wp2
  go_ret3
  exact ⟨_, by rw [← HEE.out]; rfl, (Drew.refl _).more _⟩

set_option maxHeartbeats 400000 in
theorem cutLite_no (s : ByteArray) (w : World) (h : hasB s.data.toList 35 = false) :
    Calls Tryd.prog 69 #[.string s, .string ⟨#[35]⟩] w fun e w' => e = .returned (.tuple #[.string s, .string ⟨#[]⟩, .bool false]) ∧ Drew w w' := by
  have HI := Lib.hid (Tryd.stringslite_Index_one s 35 w)
  rw [(index_none _ h).1] at HI
  clear h
  go_enter Tryd.func69, Tryd.ntmps69
  go_wp2_with (go_at_call 86; refine HI.out.mono ?_; rintro e w' ⟨rfl, rfl⟩)
  go_ret3
  exact ⟨rfl, Drew.refl _⟩

set_option maxHeartbeats 400000 in
theorem cut_yes (s : ByteArray) (w : World) (hs : s.size ≤ 1048576) (h : hasB s.data.toList 35 = true) :
    Calls Tryd.prog 41 #[.string s, .string ⟨#[35]⟩] w fun e w' => ∃ r : ByteArray, e = .returned (.tuple #[.string ⟨(headL s.data.toList).toArray⟩, .string r, .bool true]) ∧ Drew w w' := by
  have HI := Lib.hid (cutLite_yes s w hs h)
  clear h
  go_enter Tryd.func41, Tryd.ntmps41
  go_wp2_with (go_at_call 69; refine HI.out.mono ?_; rintro e w' ⟨r, rfl, d1⟩; have HD := Lib.hid d1; clear d1)
  go_ret3
  exact ⟨r, rfl, HD.out⟩

set_option maxHeartbeats 400000 in
theorem cut_no (s : ByteArray) (w : World) (h : hasB s.data.toList 35 = false) :
    Calls Tryd.prog 41 #[.string s, .string ⟨#[35]⟩] w fun e w' => e = .returned (.tuple #[.string s, .string ⟨#[]⟩, .bool false]) ∧ Drew w w' := by
  have HI := Lib.hid (cutLite_no s w h)
  clear h
  go_enter Tryd.func41, Tryd.ntmps41
  go_wp2_with (go_at_call 69; refine HI.out.mono ?_; rintro e w' ⟨rfl, d1⟩; have HD := Lib.hid d1; clear d1)
  go_ret3
  exact ⟨rfl, HD.out⟩
end Go.Proofs.YtdgbhogbapbbgaaDoor
