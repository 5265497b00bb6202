/- strings.Cut at a separator of one byte. -/
import Derived.Test.YtnomcnlmlignbaaDoorChecked
import Derived.Test.YtnomcnlmlignbaaDoorJoinMath
import Derived.Test.YtnomcnlmlignbaaDoorSplitMath
import Derived.Test.YtnomcnlmlignbaaDoorShelfCut
import Derived.Test.YtnomcnlmlignbaaDoorDrew
import Derived.WalkKit
import Derived.WalkLawsBesides
import Derived.WalkSpells
import Derived.Lib.Hide
import Derived.Deep.QuietTactic
import Derived.BigQuiet
import Derived.IntWalk
namespace Go.Proofs.YtnomcnlmlignbaaDoor
open Go.RowKit
set_option linter.unusedVariables false
/-- the bytes before the first b, and those behind it -/
def preL (b : UInt8) (l : List UInt8) : List UInt8 := l.takeWhile (fun x => x != b)
def postL (b : UInt8) (l : List UInt8) : List UInt8 := l.drop ((preL b l).length + 1)
theorem preL_le (b : UInt8) (l : List UInt8) : (preL b l).length ≤ l.length := by
  unfold preL
  exact (List.takeWhile_sublist _).length_le
theorem index_pre (b : UInt8) (l : List UInt8) : (b ∈ l ∧ Lib.indexByte l b = ((preL b l).length : Int) ∧ (preL b l).length < l.length ∧ l.take (preL b l).length = preL b l) ∨ (b ∉ l ∧ Lib.indexByte l b = -1 ∧ preL b l = l) := by
  induction l with
  | nil => right; exact ⟨by simp, rfl, rfl⟩
  | cons x r ih =>
    by_cases e : x = b
    · subst e
      left
      refine ⟨by simp, ?_, ?_, ?_⟩ <;> simp [preL, Lib.indexByte]
    · have e1 : (x == b) = false := by simpa using e
      have e2 : preL b (x :: r) = x :: preL b r := by simp [preL, e]
      rw [e2]
      rcases ih with ⟨h1, h2, h3, h4⟩ | ⟨h1, h2, h3⟩
      · left
        refine ⟨by simp [h1], ?_, by simpa using h3, by simp [h4]⟩
        unfold Lib.indexByte
        rw [e1, h2]
        have : (((preL b r).length : Int) == -1) = false := by rw [beq_eq_false_iff_ne]; omega
        simp [this]
      · right
        refine ⟨by simp [h1, Ne.symm e], ?_, by rw [h3]⟩
        unfold Lib.indexByte
        rw [e1, h2]
        simp

/-- what strings.Cut answers -/
def cutV (s : ByteArray) (b : UInt8) : Value :=
  if b ∈ s.data.toList then .tuple #[.string ⟨(preL b s.data.toList).toArray⟩, .string ⟨(postL b s.data.toList).toArray⟩, .bool true] else .tuple #[.string s, .string ⟨#[]⟩, .bool false]
theorem cutV_yes {s : ByteArray} {b : UInt8} (h : b ∈ s.data.toList) : cutV s b = .tuple #[.string ⟨(preL b s.data.toList).toArray⟩, .string ⟨(postL b s.data.toList).toArray⟩, .bool true] := if_pos h
theorem cutV_no {s : ByteArray} {b : UInt8} (h : b ∉ s.data.toList) : cutV s b = .tuple #[.string s, .string ⟨#[]⟩, .bool false] := if_neg h

set_option maxHeartbeats 400000 in
theorem cutLite_is (s : ByteArray) (b : UInt8) (w : World) (hs : s.size ≤ 1048576) :
    Calls Tryd.prog 111 #[.string s, .string ⟨#[b]⟩] w (Quiet (cutV s b) w) := by
  have HI := Lib.hid (Tryd.stringslite_Index_one s b w)
  rcases index_pre b s.data.toList with ⟨hm, h1, h2, h3⟩ | ⟨hm, h1, h2⟩
  · rw [cutV_yes hm]
    rw [h1] at HI
    have hsz : s.data.toList.length = s.size := Array.length_toList
    have HE := Lib.hid (show s.extract 0 (preL b s.data.toList).length = ⟨(preL b s.data.toList).toArray⟩ by rw [ext_list, h3]; rfl)
    have HF := Lib.hid (show s.extract ((preL b s.data.toList).length + 1) s.size = ⟨(postL b s.data.toList).toArray⟩ by
      rw [ext_list, List.take_of_length_le (by omega)]; rfl)
    generalize (preL b s.data.toList).length = n at *
    have e1 : IntKind.i64.wrap ((n : Int) + 1) = (n : Int) + 1 := IntWalk.i64_in _ (by omega)
    have b1 : (0 : Int) ≤ (n : Int) + 1 := by omega
    have b2 : (n : Int) + 1 ≤ (s.size : Int) := by omega
    have b3 : (n : Int) ≤ (s.size : Int) := by omega
    clear h1 h2 h3
    go_enter Tryd.func111, Tryd.ntmps111
    go_wp2_with (go_at_call 131; refine HI.out.mono ?_; rintro e w' ⟨rfl, rfl⟩)
    go_quiet (fail)
    go_wp2
    go_ret3
    exact ⟨by rw [← HE.out, ← HF.out]; rfl, (Drew.refl _).more _⟩
  · rw [cutV_no hm]
    rw [h1] at HI
    clear h1 h2
    go_enter Tryd.func111, Tryd.ntmps111
    go_wp2_with (go_at_call 131; refine HI.out.mono ?_; rintro e w' ⟨rfl, rfl⟩)
    go_ret3
    exact ⟨rfl, Drew.refl _⟩

set_option maxHeartbeats 400000 in
theorem cut_is (s : ByteArray) (b : UInt8) (w : World) (hs : s.size ≤ 1048576) :
    Calls Tryd.prog 76 #[.string s, .string ⟨#[b]⟩] w (Quiet (cutV s b) w) := by
  have HI := Lib.hid (cutLite_is s b w hs)
  have hv : ∃ x y z, cutV s b = .tuple #[.string x, .string y, .bool z] := by
    by_cases h : b ∈ s.data.toList
    · exact ⟨_, _, _, cutV_yes h⟩
    · exact ⟨_, _, _, cutV_no h⟩
  obtain ⟨x, y, z, hv⟩ := hv
  rw [hv] at HI ⊢
  clear hv
  go_enter Tryd.func76, Tryd.ntmps76
  go_wp2_with (go_at_call 111; refine HI.out.mono ?_; rintro e w' ⟨rfl, d1⟩; have HD := Lib.hid d1; clear d1)
  go_ret3
  exact ⟨rfl, HD.out⟩
end Go.Proofs.YtnomcnlmlignbaaDoor
