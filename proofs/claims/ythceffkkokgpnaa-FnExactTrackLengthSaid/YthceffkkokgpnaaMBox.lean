/- A motion's box. -/
import Derived.Test.YthceffkkokgpnaaLater
import Derived.Test.YthceffkkokgpnaaMoLaw
namespace Go.Proofs.Ythceffkkokgpnaa
open Go.RowKit
set_option linter.unusedVariables false
set_option linter.unusedSimpArgs false
/-- block b is a struct of two numbers -/
def MBox (w : World) (b : Nat) (t : TypeId) (x y : Int) : Prop := w.heap[b]? = some (.cells #[.int .i64 x, .int .i64 y] t (0, 0))
section
variable {w w' : World} {b : Nat} {t : TypeId} {x y : Int}
theorem MBox.lt (h : MBox w b t x y) : b < w.heap.size := (Array.getElem?_eq_some_iff.1 h).1
theorem MBox.cells (h : MBox w b t x y) : w.cell? ⟨b, 0, none⟩ = some (.int .i64 x) ∧ w.cell? ⟨b, 1, none⟩ = some (.int .i64 y) := by
  unfold MBox at h
  refine ⟨?_, ?_⟩ <;> simp [World.cell?, h]
theorem MBox.frozen (h : MBox w b t x y) (k : Nat) : w.frozen? ⟨b, k, none⟩ = false := by
  unfold MBox at h
  simp [World.frozen?, h]
theorem MBox.below (h : MBox w b t x y) (k : Below w.heap.size w w') : MBox w' b t x y := (k.block b h.lt).trans h
theorem MBox.turn {g : Nat} (h : MBox w b t x y) (k : w.grownBy w' (some g)) (hne : b ≠ g) : MBox w' b t x y := (k.block b h.lt (by intro h9; injection h9 with h9; omega)).trans h
theorem MBox.new (w : World) (t : TypeId) (x y : Int) : MBox (w.alloc (.cells #[.int .i64 x, .int .i64 y] t)) w.heap.size t x y := heap_alloc_new w _
theorem MBox.other (h : MBox w b t x y) {p : Addr} (hne : b ≠ p.block) (v : Value) : MBox (w.setCell p v) b t x y := by
  unfold MBox at *
  simp [World.setCell, Array.getElem?_modify, h, Ne.symm hne]
theorem MBox.set2 (h : MBox w b t x y) (x' y' : Int) : MBox ((w.setCell ⟨b, 0, none⟩ (.int .i64 x')).setCell ⟨b, 1, none⟩ (.int .i64 y')) b t x' y' := by
  unfold MBox at *
  simp [World.setCell, Array.getElem?_modify, h]
theorem MBox.set_other3 {g i j k : Nat} {u v z : Value} (h : MBox w b t x y) (hne : b ≠ g) : MBox (((w.setCell ⟨g, i, none⟩ u).setCell ⟨g, j, none⟩ v).setCell ⟨g, k, none⟩ z) b t x y := ((h.other (p := ⟨g, i, none⟩) hne u).other (p := ⟨g, j, none⟩) hne v).other (p := ⟨g, k, none⟩) hne z
theorem MBox.set_other2 {g i j : Nat} {u v : Value} (h : MBox w b t x y) (hne : b ≠ g) : MBox ((w.setCell ⟨g, i, none⟩ u).setCell ⟨g, j, none⟩ v) b t x y := (h.other (p := ⟨g, i, none⟩) hne u).other (p := ⟨g, j, none⟩) hne v
end
end Go.Proofs.Ythceffkkokgpnaa
