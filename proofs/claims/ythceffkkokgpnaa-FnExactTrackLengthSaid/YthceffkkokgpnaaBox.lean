/- A field's box in memory; what a law knows of a later world. -/
import Derived.Test.YthceffkkokgpnaaGood
import Derived.Deep.RegionHeld3
import Derived.Deep.RegionWith
namespace Go.Proofs.Ythceffkkokgpnaa
open Go.RowKit
set_option linter.unusedVariables false
set_option linter.unusedSimpArgs false
/-- block b is a struct of three cells -/
def Box (w : World) (b : Nat) (t : TypeId) (v0 v1 v2 : Value) : Prop := w.heap[b]? = some (.cells #[v0, v1, v2] t (0, 0))
section
variable {w w' : World} {b : Nat} {t : TypeId} {v0 v1 v2 : Value}
theorem Box.lt (h : Box w b t v0 v1 v2) : b < w.heap.size := (Array.getElem?_eq_some_iff.1 h).1
theorem Box.cells (h : Box w b t v0 v1 v2) : w.cell? ⟨b, 0, none⟩ = some v0 ∧ w.cell? ⟨b, 1, none⟩ = some v1 ∧ w.cell? ⟨b, 2, none⟩ = some v2 := by
  unfold Box at h
  refine ⟨?_, ?_, ?_⟩ <;> simp [World.cell?, h]
theorem Box.new (w : World) (t : TypeId) (v0 v1 v2 : Value) : Box (w.alloc (.cells #[v0, v1, v2] t)) w.heap.size t v0 v1 v2 := heap_alloc_new w _
theorem Box.below (h : Box w b t v0 v1 v2) (hb : Below w.heap.size w w') : Box w' b t v0 v1 v2 := (hb.block b h.lt).trans h
theorem Box.alloc (h : Box w b t v0 v1 v2) (o : Obj) : Box (w.alloc o) b t v0 v1 v2 := (Below.heap_alloc w o b h.lt).trans h
theorem Box.turn {g : Nat} (h : Box w b t v0 v1 v2) (o : w.grownBy w' (some g)) (hne : b ≠ g) : Box w' b t v0 v1 v2 := (o.block b h.lt (by intro e; injection e with e; exact hne e)).trans h
end
theorem ints_alloc {k : IntKind} {w : World} {a : Option Addr} {l : List Int} (h : Ints k w w.heap.size a l) (o : Obj) : Ints k (w.alloc o) (w.alloc o).heap.size a l :=
  (h.below ((Below.refl _ _).alloc (Nat.le_refl _) o) (Nat.le_refl _)).more (by simp)
theorem ints_below {k : IntKind} {w w' : World} {a : Option Addr} {l : List Int} (h : Ints k w w.heap.size a l) (hb : Below w.heap.size w w') : Ints k w' w'.heap.size a l :=
  (h.below hb (Nat.le_refl _)).more hb.size
theorem below_all (w : World) (o : Obj) : Below w.heap.size w (w.alloc o) := (Below.refl _ _).alloc (Nat.le_refl _) o
theorem below_then {a b c : World} (h : Below a.heap.size a b) (k : Below b.heap.size b c) : Below a.heap.size a c := h.trans (k.mono h.size)

/-- what a law knows of a later world: the argument reads as ever, and lies in the law's own box -/
def Lw (w : World) (wd hg : Int) (a : Option Addr) (l : List Int) (c : Nat) (w' : World) : Prop :=
  Below w.heap.size w w' ∧ Ints .i64 w' w'.heap.size a l ∧ Box w' w.heap.size 50 (.int .i64 wd) (.int .i64 hg) (.slice a l.length c)
section
variable {w w1 w2 : World} {wd hg : Int} {a : Option Addr} {l : List Int} {c : Nat}
theorem Lw.new (hl : Ints .i64 w w.heap.size a l) : Lw w wd hg a l c (w.alloc (.cells #[.int .i64 wd, .int .i64 hg, .slice a l.length c] 50)) :=
  ⟨below_all _ _, ints_alloc hl _, Box.new _ _ _ _ _⟩
theorem Lw.step (h : Lw w wd hg a l c w1) (hb : Below w1.heap.size w1 w2) : Lw w wd hg a l c w2 := /- 50 -/
  ⟨below_then h.1 hb, ints_below h.2.1 hb, h.2.2.below hb⟩
theorem Lw.turn {g : Nat} (h : Lw w wd hg a l c w1) (o : w1.grownBy w2 (some g)) (hlt : w.heap.size < g) (ha : Ints .i64 w w.heap.size a l) : Lw w wd hg a l c w2 := by /- 50 -/
  have hb : Below w.heap.size w w2 := below_turn h.1 o h.1.size (by omega)
  exact ⟨hb, (ha.below hb (Nat.le_refl _)).more hb.size, h.2.2.turn o (by omega)⟩
end

end Go.Proofs.Ythceffkkokgpnaa
