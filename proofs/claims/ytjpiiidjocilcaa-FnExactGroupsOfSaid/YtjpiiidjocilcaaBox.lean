/- A field's box in memory; what a law knows of a later world. -/
import Derived.Test.YtjpiiidjocilcaaGood
import Derived.Deep.RegionHeld3
import Derived.Deep.RegionWith
namespace Go.Proofs.Ytjpiiidjocilcaa
open Go.RowKit
set_option linter.unusedVariables false
set_option linter.unusedSimpArgs false
/-- block b is a struct of three cells -/
def Box (w : World) (b : Nat) (t : TypeId) (v0 v1 v2 : Value) : Prop := w.heap[b]? = some (.cells #[v0, v1, v2] t (0, 0))
section
variable {w w' : World} {b : Nat} {t : TypeId} {v0 v1 v2 : Value}
theorem Box.lt (h : Box w b t v0 v1 v2) : b < w.heap.size := (Array.getElem?_eq_some_iff.1 h).1
theorem Box.cells (h : Box w b t v0 v1 v2) : w.cell? ⟨b, 0, none⟩ = some v0 ∧ w.cell? ⟨b, 1, none⟩ = some v1 ∧ w.cell? ⟨b, 2, none⟩ = some v2 := by
  unfold Box at h
  refine ⟨?_, ?_, ?_⟩ <;> simp [World.cell?, h]
theorem Box.new (w : World) (t : TypeId) (v0 v1 v2 : Value) : Box (w.alloc (.cells #[v0, v1, v2] t)) w.heap.size t v0 v1 v2 := heap_alloc_new w _
theorem Box.below (h : Box w b t v0 v1 v2) (hb : Below w.heap.size w w') : Box w' b t v0 v1 v2 := (hb.block b h.lt).trans h
theorem Box.alloc (h : Box w b t v0 v1 v2) (o : Obj) : Box (w.alloc o) b t v0 v1 v2 := (Below.heap_alloc w o b h.lt).trans h
theorem Box.turn {g : Nat} (h : Box w b t v0 v1 v2) (o : w.grownBy w' (some g)) (hne : b ≠ g) : Box w' b t v0 v1 v2 := (o.block b h.lt (by intro e; injection e with e; exact hne e)).trans h
end
theorem ints_alloc {k : IntKind} {w : World} {a : Option Addr} {l : List Int} (h : Ints k w w.heap.size a l) (o : Obj) : Ints k (w.alloc o) (w.alloc o).heap.size a l :=
  (h.below ((Below.refl _ _).alloc (Nat.le_refl _) o) (Nat.le_refl _)).more (by simp)
theorem ints_below {k : IntKind} {w w' : World} {a : Option Addr} {l : List Int} (h : Ints k w w.heap.size a l) (hb : Below w.heap.size w w') : Ints k w' w'.heap.size a l :=
  (h.below hb (Nat.le_refl _)).more hb.size
theorem below_all (w : World) (o : Obj) : Below w.heap.size w (w.alloc o) := (Below.refl _ _).alloc (Nat.le_refl _) o
theorem below_then {a b c : World} (h : Below a.heap.size a b) (k : Below b.heap.size b c) : Below a.heap.size a c := h.trans (k.mono h.size)

section
variable {w w1 w2 : World} {wd hg : Int} {a : Option Addr} {l : List Int} {c : Nat}
end

end Go.Proofs.Ytjpiiidjocilcaa
