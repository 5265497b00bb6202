/- The text of an expression, as plain mathematics. -/
import Derived.Test.YtnomcnlmlignbaaDoorNodeMath
import Derived.Test.YtnomcnlmlignbaaDoorQuant
import Derived.Test.YtnomcnlmlignbaaDoorParseMath
namespace Go.Proofs.YtnomcnlmlignbaaDoor
set_option linter.unusedVariables false
set_option linter.unusedSimpArgs false
def absS : ByteArray := ⟨#[97, 98, 111, 118, 101, 40]⟩
def minS : ByteArray := ⟨#[109, 105, 110, 40]⟩
def maxS : ByteArray := ⟨#[109, 97, 120, 40]⟩
def comS : ByteArray := ⟨#[44]⟩
def opnS : ByteArray := ⟨#[40]⟩
def clsS : ByteArray := ⟨#[41]⟩
def pluS : ByteArray := ⟨#[43]⟩
def mnsS : ByteArray := ⟨#[45]⟩
def varS (v : Int) : ByteArray := (⟨#[97, 98, 99, 100]⟩ : ByteArray).extract v.toNat (v.toNat + 1)
def sumK (k : Int) : Bool := k == 3 || k == 4
/-- the right argument of a sum, in parentheses if it is a sum itself -/
def parS (k : Int) (s : ByteArray) : ByteArray := if sumK k = true then opnS ++ s ++ clsS else s
def txtE : ET → ByteArray
  | .n0 k v => if k = 1 then varS v else digS v.toNat
  | .n1 _ v x => absS ++ txtE x ++ comS ++ digS v.toNat ++ clsS
  | .n2 k _ x y => if k = 5 then minS ++ txtE x ++ comS ++ txtE y ++ clsS else if k = 6 then maxS ++ txtE x ++ comS ++ txtE y ++ clsS else if k = 3 then txtE x ++ pluS ++ parS y.kind (txtE y) else txtE x ++ mnsS ++ parS y.kind (txtE y)
theorem lit_sizes : absS.size = 6 ∧ minS.size = 4 ∧ maxS.size = 4 ∧ comS.size = 1 ∧ opnS.size = 1 ∧ clsS.size = 1 ∧ pluS.size = 1 ∧ mnsS.size = 1 := ⟨rfl, rfl, rfl, rfl, rfl, rfl, rfl, rfl⟩
theorem digS_four {v : Int} (h0 : 0 ≤ v) (h9 : v ≤ 9000) : (digS v.toNat).size ≤ 6 := by
  have := dec_len v.toNat (by omega)
  show (Lib.decDigits v.toNat).toArray.size ≤ 6
  rw [List.size_toArray]
  exact this
theorem varS_size (v : Int) : (varS v).size ≤ 1 := by unfold varS; simp; omega
theorem parS_size (k : Int) (s : ByteArray) : (parS k s).size ≤ s.size + 2 := by
  unfold parS
  split
  · obtain ⟨_, _, _, _, a5, a6, _, _⟩ := lit_sizes
    simp only [ByteArray.size_append]
    omega
  · omega
theorem txtE_size : ∀ t : ET, t.ok → (txtE t).size ≤ 16 * t.flat.length
  | .n0 k v, h => by
    have hk : arity k v = some 0 := h
    unfold txtE
    split
    · have := varS_size v; simp only [ET.flat, List.length_singleton]; omega
    · rename_i h1
      have hv : 0 ≤ v ∧ v ≤ 9000 := by
        unfold arity at hk
        rw [if_neg h1] at hk
        (repeat' split at hk) <;> first | omega | (exfalso; simp at hk)
      have := digS_four hv.1 hv.2
      simp only [ET.flat, List.length_singleton]; omega
  | .n1 k v x, h => by
    have ih := txtE_size x h.2
    have hv : 0 ≤ v ∧ v ≤ 9000 := by
      have hk := h.1
      unfold arity at hk
      (repeat' split at hk) <;> first | omega | (exfalso; simp at hk)
    have := digS_four hv.1 hv.2
    obtain ⟨a1, _, _, a4, _, a6, _, _⟩ := lit_sizes
    simp only [txtE, ET.flat, List.length_append, List.length_singleton, ByteArray.size_append]
    omega
  | .n2 k v x y, h => by
    have ih1 := txtE_size x h.2.1
    have ih2 := txtE_size y h.2.2
    have hp := parS_size y.kind (txtE y)
    obtain ⟨a1, a2, a3, a4, a5, a6, a7, a8⟩ := lit_sizes
    simp only [txtE, ET.flat, List.length_append, List.length_singleton]
    repeat' split
    all_goals
      simp only [ByteArray.size_append]
      omega
def fmtR (l : List Nd) : ByteArray := match treeT l with | some t => txtE t | none => ⟨#[]⟩
end Go.Proofs.YtnomcnlmlignbaaDoor
