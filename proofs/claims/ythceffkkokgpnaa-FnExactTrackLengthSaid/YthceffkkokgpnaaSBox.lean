/- A struct of four numbers in a box. -/
import Derived.Test.YthceffkkokgpnaaBox
namespace Go.Proofs.Ythceffkkokgpnaa
open Go.RowKit
set_option linter.unusedVariables false
set_option linter.unusedSimpArgs false
/-- block b is a struct of four numbers -/
def SBox (w : World) (b : Nat) (t : TypeId) (x y n p : Int) : Prop := w.heap[b]? = some (.cells #[.int .i64 x, .int .i64 y, .int .i64 n, .int .i64 p] t (0, 0))
section
variable {w w' : World} {b : Nat} {t : TypeId} {x y n p : Int}
theorem SBox.lt (h : SBox w b t x y n p) : b < w.heap.size := (Array.getElem?_eq_some_iff.1 h).1
theorem SBox.cells (h : SBox w b t x y n p) : w.cell? ⟨b, 0, none⟩ = some (.int .i64 x) ∧ w.cell? ⟨b, 1, none⟩ = some (.int .i64 y) ∧ w.cell? ⟨b, 2, none⟩ = some (.int .i64 n) ∧ w.cell? ⟨b, 3, none⟩ = some (.int .i64 p) := by
  unfold SBox at h
  refine ⟨?_, ?_, ?_, ?_⟩ <;> simp [World.cell?, h]
theorem SBox.frozen (h : SBox w b t x y n p) (k : Nat) : w.frozen? ⟨b, k, none⟩ = false := by
  unfold SBox at h
  simp [World.frozen?, h]
theorem SBox.set4 (h : SBox w b t x y n p) (x' y' n' p' : Int) : SBox ((((w.setCell ⟨b, 0, none⟩ (.int .i64 x')).setCell ⟨b, 1, none⟩ (.int .i64 y')).setCell ⟨b, 2, none⟩ (.int .i64 n')).setCell ⟨b, 3, none⟩ (.int .i64 p')) b t x' y' n' p' := by
  unfold SBox at *
  simp [World.setCell, Array.getElem?_modify, h]
theorem SBox.below (h : SBox w b t x y n p) (k : Below w.heap.size w w') : SBox w' b t x y n p := (k.block b h.lt).trans h
theorem SBox.new (w : World) (t : TypeId) (x y n p : Int) : SBox (w.alloc (.cells #[.int .i64 x, .int .i64 y, .int .i64 n, .int .i64 p] t)) w.heap.size t x y n p := heap_alloc_new w _
end
end Go.Proofs.Ythceffkkokgpnaa
