/- What a function of one, two or three fields knows of a later world: its arguments, their boxes, and the box of its result. -/
import Derived.Test.YthceffkkokgpnaaBox
import Derived.Test.YthceffkkokgpnaaMake
namespace Go.Proofs.Ythceffkkokgpnaa
open Go.RowKit
set_option linter.unusedVariables false
theorem turn_set (w : World) (g k : Nat) (v : Value) : w.grownBy (w.setCell ⟨g, k, none⟩ v) (some g) := ⟨rfl, rfl, rfl, by simp [World.setCell], fun i hi hne => Below.heap_setCell w ⟨g, k, none⟩ v i (fun e => hne (by rw [e]))⟩
theorem ints_turn {k : IntKind} {w w1 w2 : World} {a : Option Addr} {l : List Int} {g : Nat} (h : Ints k w w.heap.size a l) (b : Below w.heap.size w w1) (t : w1.grownBy w2 (some g)) (hg : w.heap.size ≤ g) : Ints k w2 w2.heap.size a l := by
  have h1 := below_turn b t b.size hg
  exact (h.below h1 (Nat.le_refl _)).more h1.size
/-- 1 field(s) -/
structure Fr1 (w : World) (wd0 hg0 : Int) (a0 : Option Addr) (l0 : List Int) (c0 : Nat) (w' : World) : Prop where
  b : Below w.heap.size w w'
  s0 : Ints .i64 w w.heap.size a0 l0
  i0 : Ints .i64 w' w'.heap.size a0 l0
  k0 : Box w' (w.heap.size) 54 (.int .i64 wd0) (.int .i64 hg0) (.slice a0 l0.length c0)
  r : Box w' (w.heap.size + 1) 54 (.int .i64 0) (.int .i64 0) (.slice none 0 0)
theorem Fr1.new {w : World} {wd0 hg0 : Int} {a0 : Option Addr} {l0 : List Int} {c0 : Nat} (h0 : Ints .i64 w w.heap.size a0 l0) : Fr1 w wd0 hg0 a0 l0 c0 ((w.alloc (.cells #[.int .i64 wd0, .int .i64 hg0, .slice a0 l0.length c0] 54)).alloc (.cells #[.int .i64 0, .int .i64 0, .slice none 0 0] 54)) := by
  constructor
  · exact (((Below.refl w.heap.size w).alloc (by simp <;> omega) _).alloc (by simp <;> omega) _)
  · exact h0
  · exact (ints_alloc (ints_alloc h0 _) _)
  · have h := ((Box.new w 54 (.int .i64 wd0) (.int .i64 hg0) (.slice a0 l0.length c0)).alloc (.cells #[.int .i64 0, .int .i64 0, .slice none 0 0] 54))
    try simp only [World.size_alloc] at h
    exact h
  · have h := Box.new (w.alloc (.cells #[.int .i64 wd0, .int .i64 hg0, .slice a0 l0.length c0] 54)) 54 (.int .i64 0) (.int .i64 0) (.slice none 0 0)
    try simp only [World.size_alloc] at h
    exact h
section
variable {w w1 w2 : World} {wd0 hg0 : Int} {a0 : Option Addr} {l0 : List Int} {c0 : Nat}
theorem Fr1.step (h : Fr1 w wd0 hg0 a0 l0 c0 w1) (b : Below w1.heap.size w1 w2) : Fr1 w wd0 hg0 a0 l0 c0 w2 :=
  ⟨below_then h.b b, h.s0, ints_below h.i0 b, h.k0.below b, h.r.below b⟩
theorem Fr1.turn {g : Nat} (h : Fr1 w wd0 hg0 a0 l0 c0 w1) (t : w1.grownBy w2 (some g)) (hg : w.heap.size + 2 ≤ g) : Fr1 w wd0 hg0 a0 l0 c0 w2 :=
  ⟨below_turn h.b t h.b.size (by omega), h.s0, ints_turn h.s0 h.b t (by omega), h.k0.turn t (by omega), h.r.turn t (by omega)⟩
theorem Fr1.drew (h : Fr1 w wd0 hg0 a0 l0 c0 w1) : Fr1 w wd0 hg0 a0 l0 c0 w1.drew := h.step ⟨rfl, rfl, rfl, Nat.le_refl _, fun _ _ => rfl⟩
theorem Fr1.drewN (h : Fr1 w wd0 hg0 a0 l0 c0 w1) (m : Nat) : Fr1 w wd0 hg0 a0 l0 c0 (w1.drewN m) := h.step ((Drew.more (Drew.refl w1) m).below _)
end
/-- 2 field(s) -/
structure Fr2 (w : World) (wd0 hg0 : Int) (a0 : Option Addr) (l0 : List Int) (c0 : Nat) (wd1 hg1 : Int) (a1 : Option Addr) (l1 : List Int) (c1 : Nat) (w' : World) : Prop where
  b : Below w.heap.size w w'
  s0 : Ints .i64 w w.heap.size a0 l0
  s1 : Ints .i64 w w.heap.size a1 l1
  i0 : Ints .i64 w' w'.heap.size a0 l0
  i1 : Ints .i64 w' w'.heap.size a1 l1
  k0 : Box w' (w.heap.size) 54 (.int .i64 wd0) (.int .i64 hg0) (.slice a0 l0.length c0)
  k1 : Box w' (w.heap.size + 1) 54 (.int .i64 wd1) (.int .i64 hg1) (.slice a1 l1.length c1)
  r : Box w' (w.heap.size + 1 + 1) 54 (.int .i64 0) (.int .i64 0) (.slice none 0 0)
theorem Fr2.new {w : World} {wd0 hg0 wd1 hg1 : Int} {a0 a1 : Option Addr} {l0 l1 : List Int} {c0 c1 : Nat} (h0 : Ints .i64 w w.heap.size a0 l0) (h1 : Ints .i64 w w.heap.size a1 l1) : Fr2 w wd0 hg0 a0 l0 c0 wd1 hg1 a1 l1 c1 (((w.alloc (.cells #[.int .i64 wd0, .int .i64 hg0, .slice a0 l0.length c0] 54)).alloc (.cells #[.int .i64 wd1, .int .i64 hg1, .slice a1 l1.length c1] 54)).alloc (.cells #[.int .i64 0, .int .i64 0, .slice none 0 0] 54)) := by
  constructor
  · exact ((((Below.refl w.heap.size w).alloc (by simp <;> omega) _).alloc (by simp <;> omega) _).alloc (by simp <;> omega) _)
  · exact h0
  · exact h1
  · exact (ints_alloc (ints_alloc (ints_alloc h0 _) _) _)
  · exact (ints_alloc (ints_alloc (ints_alloc h1 _) _) _)
  · have h := (((Box.new w 54 (.int .i64 wd0) (.int .i64 hg0) (.slice a0 l0.length c0)).alloc (.cells #[.int .i64 wd1, .int .i64 hg1, .slice a1 l1.length c1] 54)).alloc (.cells #[.int .i64 0, .int .i64 0, .slice none 0 0] 54))
    try simp only [World.size_alloc] at h
    exact h
  · have h := ((Box.new (w.alloc (.cells #[.int .i64 wd0, .int .i64 hg0, .slice a0 l0.length c0] 54)) 54 (.int .i64 wd1) (.int .i64 hg1) (.slice a1 l1.length c1)).alloc (.cells #[.int .i64 0, .int .i64 0, .slice none 0 0] 54))
    try simp only [World.size_alloc] at h
    exact h
  · have h := Box.new ((w.alloc (.cells #[.int .i64 wd0, .int .i64 hg0, .slice a0 l0.length c0] 54)).alloc (.cells #[.int .i64 wd1, .int .i64 hg1, .slice a1 l1.length c1] 54)) 54 (.int .i64 0) (.int .i64 0) (.slice none 0 0)
    try simp only [World.size_alloc] at h
    exact h
section
variable {w w1 w2 : World} {wd0 hg0 wd1 hg1 : Int} {a0 a1 : Option Addr} {l0 l1 : List Int} {c0 c1 : Nat}
theorem Fr2.step (h : Fr2 w wd0 hg0 a0 l0 c0 wd1 hg1 a1 l1 c1 w1) (b : Below w1.heap.size w1 w2) : Fr2 w wd0 hg0 a0 l0 c0 wd1 hg1 a1 l1 c1 w2 :=
  ⟨below_then h.b b, h.s0, h.s1, ints_below h.i0 b, ints_below h.i1 b, h.k0.below b, h.k1.below b, h.r.below b⟩
theorem Fr2.turn {g : Nat} (h : Fr2 w wd0 hg0 a0 l0 c0 wd1 hg1 a1 l1 c1 w1) (t : w1.grownBy w2 (some g)) (hg : w.heap.size + 3 ≤ g) : Fr2 w wd0 hg0 a0 l0 c0 wd1 hg1 a1 l1 c1 w2 :=
  ⟨below_turn h.b t h.b.size (by omega), h.s0, h.s1, ints_turn h.s0 h.b t (by omega), ints_turn h.s1 h.b t (by omega), h.k0.turn t (by omega), h.k1.turn t (by omega), h.r.turn t (by omega)⟩
theorem Fr2.drew (h : Fr2 w wd0 hg0 a0 l0 c0 wd1 hg1 a1 l1 c1 w1) : Fr2 w wd0 hg0 a0 l0 c0 wd1 hg1 a1 l1 c1 w1.drew := h.step ⟨rfl, rfl, rfl, Nat.le_refl _, fun _ _ => rfl⟩
theorem Fr2.drewN (h : Fr2 w wd0 hg0 a0 l0 c0 wd1 hg1 a1 l1 c1 w1) (m : Nat) : Fr2 w wd0 hg0 a0 l0 c0 wd1 hg1 a1 l1 c1 (w1.drewN m) := h.step ((Drew.more (Drew.refl w1) m).below _)
end
/-- 3 field(s) -/
structure Fr3 (w : World) (wd0 hg0 : Int) (a0 : Option Addr) (l0 : List Int) (c0 : Nat) (wd1 hg1 : Int) (a1 : Option Addr) (l1 : List Int) (c1 : Nat) (wd2 hg2 : Int) (a2 : Option Addr) (l2 : List Int) (c2 : Nat) (w' : World) : Prop where
  b : Below w.heap.size w w'
  s0 : Ints .i64 w w.heap.size a0 l0
  s1 : Ints .i64 w w.heap.size a1 l1
  s2 : Ints .i64 w w.heap.size a2 l2
  i0 : Ints .i64 w' w'.heap.size a0 l0
  i1 : Ints .i64 w' w'.heap.size a1 l1
  i2 : Ints .i64 w' w'.heap.size a2 l2
  k0 : Box w' (w.heap.size) 54 (.int .i64 wd0) (.int .i64 hg0) (.slice a0 l0.length c0)
  k1 : Box w' (w.heap.size + 1) 54 (.int .i64 wd1) (.int .i64 hg1) (.slice a1 l1.length c1)
  k2 : Box w' (w.heap.size + 1 + 1) 54 (.int .i64 wd2) (.int .i64 hg2) (.slice a2 l2.length c2)
  r : Box w' (w.heap.size + 1 + 1 + 1) 54 (.int .i64 0) (.int .i64 0) (.slice none 0 0)
theorem Fr3.new {w : World} {wd0 hg0 wd1 hg1 wd2 hg2 : Int} {a0 a1 a2 : Option Addr} {l0 l1 l2 : List Int} {c0 c1 c2 : Nat} (h0 : Ints .i64 w w.heap.size a0 l0) (h1 : Ints .i64 w w.heap.size a1 l1) (h2 : Ints .i64 w w.heap.size a2 l2) : Fr3 w wd0 hg0 a0 l0 c0 wd1 hg1 a1 l1 c1 wd2 hg2 a2 l2 c2 ((((w.alloc (.cells #[.int .i64 wd0, .int .i64 hg0, .slice a0 l0.length c0] 54)).alloc (.cells #[.int .i64 wd1, .int .i64 hg1, .slice a1 l1.length c1] 54)).alloc (.cells #[.int .i64 wd2, .int .i64 hg2, .slice a2 l2.length c2] 54)).alloc (.cells #[.int .i64 0, .int .i64 0, .slice none 0 0] 54)) := by
  constructor
  · exact (((((Below.refl w.heap.size w).alloc (by simp <;> omega) _).alloc (by simp <;> omega) _).alloc (by simp <;> omega) _).alloc (by simp <;> omega) _)
  · exact h0
  · exact h1
  · exact h2
  · exact (ints_alloc (ints_alloc (ints_alloc (ints_alloc h0 _) _) _) _)
  · exact (ints_alloc (ints_alloc (ints_alloc (ints_alloc h1 _) _) _) _)
  · exact (ints_alloc (ints_alloc (ints_alloc (ints_alloc h2 _) _) _) _)
  · have h := ((((Box.new w 54 (.int .i64 wd0) (.int .i64 hg0) (.slice a0 l0.length c0)).alloc (.cells #[.int .i64 wd1, .int .i64 hg1, .slice a1 l1.length c1] 54)).alloc (.cells #[.int .i64 wd2, .int .i64 hg2, .slice a2 l2.length c2] 54)).alloc (.cells #[.int .i64 0, .int .i64 0, .slice none 0 0] 54))
    try simp only [World.size_alloc] at h
    exact h
  · have h := (((Box.new (w.alloc (.cells #[.int .i64 wd0, .int .i64 hg0, .slice a0 l0.length c0] 54)) 54 (.int .i64 wd1) (.int .i64 hg1) (.slice a1 l1.length c1)).alloc (.cells #[.int .i64 wd2, .int .i64 hg2, .slice a2 l2.length c2] 54)).alloc (.cells #[.int .i64 0, .int .i64 0, .slice none 0 0] 54))
    try simp only [World.size_alloc] at h
    exact h
  · have h := ((Box.new ((w.alloc (.cells #[.int .i64 wd0, .int .i64 hg0, .slice a0 l0.length c0] 54)).alloc (.cells #[.int .i64 wd1, .int .i64 hg1, .slice a1 l1.length c1] 54)) 54 (.int .i64 wd2) (.int .i64 hg2) (.slice a2 l2.length c2)).alloc (.cells #[.int .i64 0, .int .i64 0, .slice none 0 0] 54))
    try simp only [World.size_alloc] at h
    exact h
  · have h := Box.new (((w.alloc (.cells #[.int .i64 wd0, .int .i64 hg0, .slice a0 l0.length c0] 54)).alloc (.cells #[.int .i64 wd1, .int .i64 hg1, .slice a1 l1.length c1] 54)).alloc (.cells #[.int .i64 wd2, .int .i64 hg2, .slice a2 l2.length c2] 54)) 54 (.int .i64 0) (.int .i64 0) (.slice none 0 0)
    try simp only [World.size_alloc] at h
    exact h
section
variable {w w1 w2 : World} {wd0 hg0 wd1 hg1 wd2 hg2 : Int} {a0 a1 a2 : Option Addr} {l0 l1 l2 : List Int} {c0 c1 c2 : Nat}
theorem Fr3.step (h : Fr3 w wd0 hg0 a0 l0 c0 wd1 hg1 a1 l1 c1 wd2 hg2 a2 l2 c2 w1) (b : Below w1.heap.size w1 w2) : Fr3 w wd0 hg0 a0 l0 c0 wd1 hg1 a1 l1 c1 wd2 hg2 a2 l2 c2 w2 :=
  ⟨below_then h.b b, h.s0, h.s1, h.s2, ints_below h.i0 b, ints_below h.i1 b, ints_below h.i2 b, h.k0.below b, h.k1.below b, h.k2.below b, h.r.below b⟩
theorem Fr3.turn {g : Nat} (h : Fr3 w wd0 hg0 a0 l0 c0 wd1 hg1 a1 l1 c1 wd2 hg2 a2 l2 c2 w1) (t : w1.grownBy w2 (some g)) (hg : w.heap.size + 4 ≤ g) : Fr3 w wd0 hg0 a0 l0 c0 wd1 hg1 a1 l1 c1 wd2 hg2 a2 l2 c2 w2 :=
  ⟨below_turn h.b t h.b.size (by omega), h.s0, h.s1, h.s2, ints_turn h.s0 h.b t (by omega), ints_turn h.s1 h.b t (by omega), ints_turn h.s2 h.b t (by omega), h.k0.turn t (by omega), h.k1.turn t (by omega), h.k2.turn t (by omega), h.r.turn t (by omega)⟩
theorem Fr3.drew (h : Fr3 w wd0 hg0 a0 l0 c0 wd1 hg1 a1 l1 c1 wd2 hg2 a2 l2 c2 w1) : Fr3 w wd0 hg0 a0 l0 c0 wd1 hg1 a1 l1 c1 wd2 hg2 a2 l2 c2 w1.drew := h.step ⟨rfl, rfl, rfl, Nat.le_refl _, fun _ _ => rfl⟩
theorem Fr3.drewN (h : Fr3 w wd0 hg0 a0 l0 c0 wd1 hg1 a1 l1 c1 wd2 hg2 a2 l2 c2 w1) (m : Nat) : Fr3 w wd0 hg0 a0 l0 c0 wd1 hg1 a1 l1 c1 wd2 hg2 a2 l2 c2 (w1.drewN m) := h.step ((Drew.more (Drew.refl w1) m).below _)
end
end Go.Proofs.Ythceffkkokgpnaa
