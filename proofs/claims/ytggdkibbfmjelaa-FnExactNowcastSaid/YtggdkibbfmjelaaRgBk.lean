/- What a loop that writes into the cells of a field of its own knows of a world. -/
import Derived.Test.YtggdkibbfmjelaaFr
import Derived.Test.YtggdkibbfmjelaaLws
import Derived.Test.YtggdkibbfmjelaaNew
namespace Go.Proofs.Ytggdkibbfmjelaa
open Go.RowKit
set_option linter.unusedVariables false
set_option linter.unusedSimpArgs false
/-- the argument, its box and the result's; the field in box ob, its cells S in block g -/
structure Bk (w : World) (ob g : Nat) (wd hg : Int) (a : Option Addr) (l : List Int) (c : Nat) (P Q : Int) (S : List Int) (cap : Nat) (wr : World) : Prop where
  f : Fr1 w wd hg a l c wr
  x : Box wr ob 34 (.int .i64 P) (.int .i64 Q) (.slice (some ⟨g, 0, none⟩) S.length cap)
  o : Row wr g 3 (iv S)
  n : w.heap.size + 1 < ob
  m : w.heap.size + 1 < g
  ne : g ≠ ob
section
variable {w w1 w2 : World} {ob g c cap : Nat} {wd hg P Q : Int} {a : Option Addr} {l S : List Int}
theorem Bk.step (h : Bk w ob g wd hg a l c P Q S cap w1) (b : Below w1.heap.size w1 w2) : Bk w ob g wd hg a l c P Q S cap w2 :=
  ⟨h.f.step b, h.x.below b, h.o.of_block (b.block g h.o.lt), h.n, h.m, h.ne⟩
theorem Bk.drew (h : Bk w ob g wd hg a l c P Q S cap w1) : Bk w ob g wd hg a l c P Q S cap w1.drew := h.step (drew_below _)
theorem Bk.put (h : Bk w ob g wd hg a l c P Q S cap w1) (j : Nat) (z : Int) : Bk w ob g wd hg a l c P Q (S.set j z) cap (w1.setCell ⟨g, j, none⟩ (.int .i64 z)) :=
  ⟨h.f.turn (turn_set w1 g j _) (by have := h.m; omega), by rw [List.length_set]; exact h.x.other (show ob ≠ g from Ne.symm h.ne) _, by have := h.o.set j (.int .i64 z); rw [iv_set] at this; exact this, h.n, h.m, h.ne⟩
theorem Bk.get (h : Bk w ob g wd hg a l c P Q S cap w1) {j : Nat} (hj : j < S.length) : w1.cell? ⟨g, j, none⟩ = some (.int .i64 S[j]) := by
  rw [h.o.cell (k := j) (by rw [iv_length]; exact hj), iv_get]
theorem OwnI.row {w : World} {B : Nat} {a : Option Addr} {l : List Int} (h : OwnI w B a l) (h0 : 0 < l.length) : ∃ g, B ≤ g ∧ a = some ⟨g, 0, none⟩ ∧ Row w g 3 (iv l) := by
  obtain ⟨g, h1, h2⟩ := h
  rcases h2 with rfl | ⟨h3, h4⟩
  · simp at h0
  · exact ⟨g, h1, h3, h4⟩
/-- the field laid in a box behind the call -/
theorem Bk.new {a1 : Option Addr} (hf : Fr1 w wd hg a l c w1) (o1 : OwnI w1 (w.heap.size + 2) a1 S) (h0 : 0 < S.length) :
    ∃ g, a1 = some ⟨g, 0, none⟩ ∧ Bk w w1.heap.size g wd hg a l c P Q S cap (w1.alloc (.cells #[.int .i64 P, .int .i64 Q, .slice a1 S.length cap] 34)) := by
  obtain ⟨g, h1, rfl, h3⟩ := o1.row h0
  have hz := hf.r.lt
  exact ⟨g, rfl, hf.step (below_all _ _), Box.new _ _ _ _ _, h3.alloc _, by omega, by omega, by have := h3.lt; omega⟩
/-- .. or in a box that was there before -/
theorem Bk.newB {a1 : Option Addr} {v0 v1 v2 : Value} {ob : Nat} (hf : Fr1 w wd hg a l c w1) (hx : Box w1 ob 34 v0 v1 v2) (hob : w.heap.size + 1 < ob) (o1 : OwnI w1 (w.heap.size + 2) a1 S) (h0 : 0 < S.length) :
    ∃ g, a1 = some ⟨g, 0, none⟩ ∧ Bk w ob g wd hg a l c P Q S cap (((w1.setCell ⟨ob, 0, none⟩ (.int .i64 P)).setCell ⟨ob, 1, none⟩ (.int .i64 Q)).setCell ⟨ob, 2, none⟩ (.slice a1 S.length cap)) := by
  obtain ⟨g, h1, rfl, h3⟩ := o1.row h0
  have hne : g ≠ ob := by
    rintro rfl
    obtain ⟨cc, h4, _⟩ := h3
    unfold Box at hx
    rw [hx] at h4
    injection h4 with h4
    injection h4 with _ h5
    exact absurd h5 (by decide)
  exact ⟨g, rfl, hf.turn (turn_set3 _ _ _ _ _ _ _ _) (by omega), hx.set3 _ _ _, ((h3.other (p := ⟨ob, 0, none⟩) hne _).other (p := ⟨ob, 1, none⟩) hne _).other (p := ⟨ob, 2, none⟩) hne _, hob, by omega, hne⟩
/-- the field is returned: its cells lie in memory of the call's own -/
theorem Bk.own (h : Bk w ob g wd hg a l c P Q S cap w1) : OwnI w1 (w.heap.size + 2) (some ⟨g, 0, none⟩) S := ⟨g, h.m, .inr ⟨rfl, h.o⟩⟩
theorem Bk.ret (h : Bk w ob g wd hg a l c P Q S cap w1) {e : Ending} (he : e = .returned (.agg #[.int .i64 P, .int .i64 Q, .slice (some ⟨g, 0, none⟩) S.length cap])) {q : Nat} (hq : q = w.heap.size ∨ q = w.heap.size + 1) (u0 u1 u2 : Value) :
    FOne P Q S w e (((w1.setCell ⟨q, 0, none⟩ u0).setCell ⟨q, 1, none⟩ u1).setCell ⟨q, 2, none⟩ u2) :=
  ⟨_, _, he, (ownI_set (ownI_set (ownI_set h.own (by omega) _) (by omega) _) (by omega) _).more (by omega), ((h.f.b.setCell (p := ⟨q, 0, none⟩) (by show w.heap.size ≤ q; omega) _).setCell (p := ⟨q, 1, none⟩) (by show w.heap.size ≤ q; omega) _).setCell (p := ⟨q, 2, none⟩) (by show w.heap.size ≤ q; omega) _⟩
theorem Bk.ret2 (h : Bk w ob g wd hg a l c P Q S cap w1) {e : Ending} (he : e = .returned (.tuple #[.agg #[.int .i64 P, .int .i64 Q, .slice (some ⟨g, 0, none⟩) S.length cap], .bool true])) {q : Nat} (hq : q = w.heap.size ∨ q = w.heap.size + 1) (u0 u1 u2 : Value) :
    FRet (some (P, Q, S)) w e (((w1.setCell ⟨q, 0, none⟩ u0).setCell ⟨q, 1, none⟩ u1).setCell ⟨q, 2, none⟩ u2) :=
  ⟨_, _, he, (ownI_set (ownI_set (ownI_set h.own (by omega) _) (by omega) _) (by omega) _).more (by omega), ((h.f.b.setCell (p := ⟨q, 0, none⟩) (by show w.heap.size ≤ q; omega) _).setCell (p := ⟨q, 1, none⟩) (by show w.heap.size ≤ q; omega) _).setCell (p := ⟨q, 2, none⟩) (by show w.heap.size ≤ q; omega) _⟩
end
end Go.Proofs.Ytggdkibbfmjelaa
