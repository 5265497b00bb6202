/- AppendChecksum: the text, '#', and the decimal checksum. -/
import Derived.Test.YtnomcnlmlignbaaDoorFormat
import Derived.Test.YtnomcnlmlignbaaDoorSum
import Derived.Test.YtnomcnlmlignbaaDoorStands
import Derived.Lib.Bytealg
namespace Go.Proofs.YtnomcnlmlignbaaDoor
open Go.RowKit
set_option linter.unusedVariables false
/-- the sealed text -/
def sealL (l : List UInt8) : List UInt8 := l ++ [35] ++ Lib.itoa (ck l)
/-- whether a text can be sealed, and what it becomes -/
def apB (s : ByteArray) : Bool := decide (s.size ≤ 4000) && !hasB s.data.toList 35 && decide ((sealL s.data.toList).length ≤ 4000)
def apS (s : ByteArray) : ByteArray := if apB s = true then ⟨(sealL s.data.toList).toArray⟩ else ⟨#[]⟩
theorem apS_yes {s : ByteArray} (h : apB s = true) : apS s = ⟨(sealL s.data.toList).toArray⟩ := if_pos h
theorem apS_no {s : ByteArray} (h : apB s = false) : apS s = ⟨#[]⟩ := if_neg (by rw [h]; simp)
theorem apB_long {s : ByteArray} (h : 4000 < s.size) : apB s = false := by
  have : decide (s.size ≤ 4000) = false := decide_eq_false (by omega)
  unfold apB; rw [this]; rfl
theorem apB_has {s : ByteArray} (h : hasB s.data.toList 35 = true) : apB s = false := by
  unfold apB; rw [h]; simp
theorem apB_out {s : ByteArray} (h : 4000 < (sealL s.data.toList).length) : apB s = false := by
  have : decide ((sealL s.data.toList).length ≤ 4000) = false := decide_eq_false (by omega)
  unfold apB; rw [this]; simp
theorem apB_yes {s : ByteArray} (h0 : s.size ≤ 4000) (h1 : hasB s.data.toList 35 = false) (h2 : (sealL s.data.toList).length ≤ 4000) : apB s = true := by
  have e0 : decide (s.size ≤ 4000) = true := decide_eq_true h0
  have e2 : decide ((sealL s.data.toList).length ≤ 4000) = true := decide_eq_true h2
  unfold apB; rw [e0, h1, e2]; rfl
theorem sealL_len (s : ByteArray) : (sealL s.data.toList).length = s.size + 1 + (Lib.itoa (ck s.data.toList)).length := by
  simp [sealL]; omega
theorem itoa_ck (l : List UInt8) : (Lib.itoa (ck l)).length ≤ 21 := by
  have := ck_bd l
  exact Lib.itoa_length_le _ (by omega) (by omega)
theorem seal_str (s : ByteArray) (d : List UInt8) (h : d = Lib.itoa (ck s.data.toList)) : s ++ ⟨#[35]⟩ ++ ⟨d.toArray⟩ = (⟨(sealL s.data.toList).toArray⟩ : ByteArray) := by
  subst h; apply ByteArray.ext; simp [sealL]

theorem indexByte_nonneg (l : List UInt8) (c : UInt8) : decide (0 ≤ Lib.indexByte l c) = hasB l c.toNat ∧ -1 ≤ Lib.indexByte l c := by
  induction l with
  | nil => exact ⟨rfl, by simp [Lib.indexByte]⟩
  | cons b r ih =>
    have hb : hasB (b :: r) c.toNat = ((b == c) || hasB r c.toNat) := by
      have : (((b.toNat : Nat) : Int) == ((c.toNat : Nat) : Int)) = (b == c) := by
        rw [Bool.eq_iff_iff, beq_iff_eq, beq_iff_eq]
        exact ⟨fun h => UInt8.toNat_inj.1 (by omega), fun h => by rw [h]⟩
      simp only [hasB, List.any_cons, this]
    unfold Lib.indexByte
    cases e : (b == c) with
    | true => rw [hb, e]; exact ⟨rfl, by simp⟩
    | false =>
      rw [hb, e]
      simp only [Bool.false_eq_true, if_false, Bool.false_or]
      rw [← ih.1]
      cases e2 : (Lib.indexByte r c == -1) with
      | true =>
        have := beq_iff_eq.1 e2
        rw [this]; simp
      | false =>
        have := beq_eq_false_iff_ne.1 e2
        have h3 := ih.2
        simp only [Bool.false_eq_true, if_false]
        exact ⟨decide_eq_decide.2 (by omega), by omega⟩
end Go.Proofs.YtnomcnlmlignbaaDoor
