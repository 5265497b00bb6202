/- Two fields handed over by value: their boxes and cells at a later world. -/
import Derived.Test.YthceffkkokgpnaaBox
import Derived.Test.YthceffkkokgpnaaLater
namespace Go.Proofs.Ythceffkkokgpnaa
open Go.RowKit
set_option linter.unusedVariables false
set_option linter.unusedSimpArgs false
structure Lx2 (w : World) (wd0 hg0 : Int) (a0 : Option Addr) (l0 : List Int) (c0 : Nat) (wd1 hg1 : Int) (a1 : Option Addr) (l1 : List Int) (c1 : Nat) (w' : World) : Prop where
  b : Below w.heap.size w w'
  s0 : Ints .i64 w w.heap.size a0 l0
  s1 : Ints .i64 w w.heap.size a1 l1
  i0 : Ints .i64 w' w'.heap.size a0 l0
  i1 : Ints .i64 w' w'.heap.size a1 l1
  k0 : Box w' (w.heap.size) 54 (.int .i64 wd0) (.int .i64 hg0) (.slice a0 l0.length c0)
  k1 : Box w' (w.heap.size + 1) 54 (.int .i64 wd1) (.int .i64 hg1) (.slice a1 l1.length c1)
theorem Lx2.new {w : World} {wd0 hg0 wd1 hg1 : Int} {a0 a1 : Option Addr} {l0 l1 : List Int} {c0 c1 : Nat} (h0 : Ints .i64 w w.heap.size a0 l0) (h1 : Ints .i64 w w.heap.size a1 l1) : Lx2 w wd0 hg0 a0 l0 c0 wd1 hg1 a1 l1 c1 ((w.alloc (.cells #[.int .i64 wd0, .int .i64 hg0, .slice a0 l0.length c0] 54)).alloc (.cells #[.int .i64 wd1, .int .i64 hg1, .slice a1 l1.length c1] 54)) := by
  constructor
  · exact (((Below.refl w.heap.size w).alloc (by simp <;> omega) _).alloc (by simp <;> omega) _)
  · exact h0
  · exact h1
  · exact (ints_alloc (ints_alloc h0 _) _)
  · exact (ints_alloc (ints_alloc h1 _) _)
  · have h := ((Box.new w 54 (.int .i64 wd0) (.int .i64 hg0) (.slice a0 l0.length c0)).alloc (.cells #[.int .i64 wd1, .int .i64 hg1, .slice a1 l1.length c1] 54))
    try simp only [World.size_alloc] at h
    exact h
  · have h := (Box.new (w.alloc (.cells #[.int .i64 wd0, .int .i64 hg0, .slice a0 l0.length c0] 54)) 54 (.int .i64 wd1) (.int .i64 hg1) (.slice a1 l1.length c1))
    try simp only [World.size_alloc] at h
    exact h
section
variable {w w1 w2 : World} {wd0 hg0 wd1 hg1 : Int} {a0 a1 : Option Addr} {l0 l1 : List Int} {c0 c1 : Nat}
theorem Lx2.step (h : Lx2 w wd0 hg0 a0 l0 c0 wd1 hg1 a1 l1 c1 w1) (b : Below w1.heap.size w1 w2) : Lx2 w wd0 hg0 a0 l0 c0 wd1 hg1 a1 l1 c1 w2 :=
  ⟨below_then h.b b, h.s0, h.s1, ints_below h.i0 b, ints_below h.i1 b, h.k0.below b, h.k1.below b⟩
theorem Lx2.turn {g : Nat} (h : Lx2 w wd0 hg0 a0 l0 c0 wd1 hg1 a1 l1 c1 w1) (t : w1.grownBy w2 (some g)) (hg : w.heap.size + 2 ≤ g) : Lx2 w wd0 hg0 a0 l0 c0 wd1 hg1 a1 l1 c1 w2 :=
  ⟨below_turn h.b t h.b.size (by omega), h.s0, h.s1, ints_turn h.s0 h.b t (by omega), ints_turn h.s1 h.b t (by omega), h.k0.turn t (by omega), h.k1.turn t (by omega)⟩
end
section
variable {w w1 w2 : World} {wd0 hg0 wd1 hg1 : Int} {a0 a1 : Option Addr} {l0 l1 : List Int} {c0 c1 : Nat}
theorem Lx2.drew (h : Lx2 w wd0 hg0 a0 l0 c0 wd1 hg1 a1 l1 c1 w1) : Lx2 w wd0 hg0 a0 l0 c0 wd1 hg1 a1 l1 c1 w1.drew := h.step (Below.refl _ _).drew
end
end Go.Proofs.Ythceffkkokgpnaa
