/- GrowRegion: the model's and the program's. -/
import Derived.Test.YthceffkkokgpnaaPtFn
import Derived.Test.YthceffkkokgpnaaSvRet
import Derived.Deep.LoopGhost
import Derived.Test.YthceffkkokgpnaaAppF
namespace Go.Proofs.Ythceffkkokgpnaa
open Go.RowKit
set_option linter.unusedVariables false
set_option linter.unusedSimpArgs false
/-- the grown region so far, in own memory; the set of the cells -/
structure Gr (w : World) (B mb : Nat) (wd : Int) (l r : List Int) (q : Value) (wr : World) : Prop where
  o : wr.ownsRow B 3 1 q r.length (iv r)
  m : PSet wr mb 64 (inP wd l)
  b : Below w.heap.size w wr
  z : B < wr.heap.size
  lt : mb < B
  lo : w.heap.size ≤ B
theorem Gr.step {w : World} {B mb : Nat} {wd : Int} {l r : List Int} {q : Value} {w1 w2 : World} (h : Gr w B mb wd l r q w1) (k : Below w1.heap.size w1 w2) : Gr w B mb wd l r q w2 :=
  ⟨own_keeps h.o k, h.m.below k h.m.lt, h.b.trans (k.mono h.b.size), Nat.lt_of_lt_of_le h.z k.size, h.lt, h.lo⟩
theorem Gr.put {w : World} {B mb : Nat} {wd : Int} {l r r' : List Int} {q q' : Value} {w1 w2 : World} (h : Gr w B mb wd l r q w1) (k : w1.grownBy w2 q.ownBlock) (ho : w2.ownsRow B 3 1 q' r'.length (iv r')) : Gr w B mb wd l r' q' w2 :=
  ⟨ho, h.m.kept k (by intro e; have := (h.o.lt mb e.symm).1; have := h.lt; omega), h.b.grown k h.b.size (fun j e => by have := (h.o.lt j e).1; have := h.lo; omega), Nat.lt_of_lt_of_le h.z k.size, h.lt, h.lo⟩
/-- the neighbors of (x, y), and itself -/
def nbL (x y : Int) : List Pt := [(x, y - 1), (x + 1, y), (x, y + 1), (x - 1, y), (x, y)]
theorem nbL_get {x y : Int} {j : Nat} (h : j < (nbL x y).length) : (nbL x y)[j] = (nbX x j, nbY y j) := by
  have h5 : j < 5 := h
  rcases (by omega : j = 0 ∨ j = 1 ∨ j = 2 ∨ j = 3 ∨ j = 4) with rfl | rfl | rfl | rfl | rfl <;> rfl
theorem nearP_succ (wd : Int) (l : List Int) (i : Int) (j : Nat) : nearP wd l i (j + 1) = (nearP wd l i j || inP wd l (nbX (i % wd) j) (nbY (i / wd) j)) := by
  unfold nearP; rw [List.range_succ, List.any_append]; simp
theorem nearP_hit {wd : Int} {l : List Int} {i : Int} {j : Nat} (hj : j < 5) (h : inP wd l (nbX (i % wd) j) (nbY (i / wd) j) = true) : nearB wd l i = true := by
  rw [near_is]; unfold nearP; rw [List.any_eq_true]; exact ⟨j, List.mem_range.2 hj, h⟩
end Go.Proofs.Ythceffkkokgpnaa
