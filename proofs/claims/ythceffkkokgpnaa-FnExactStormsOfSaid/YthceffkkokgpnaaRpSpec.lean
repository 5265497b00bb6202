/- The model's RegionParts. -/
import Derived.Test.YthceffkkokgpnaaRpMathS
import Derived.Test.YthceffkkokgpnaaTabPost
import Derived.Test.YthceffkkokgpnaaGrid
import Derived.Test.YthceffkkokgpnaaGrowS
import Derived.Test.YthceffkkokgpnaaPutL
import Derived.Deep.AppendLies
import Derived.Deep.QuietTactic
import Derived.BigQuiet
namespace Go.Proofs.Ythceffkkokgpnaa
open Go.RowKit
set_option linter.unusedVariables false
set_option linter.unusedSimpArgs false
/-- a table is returned -/
def TabOne (R : List (List Int)) (w : World) (e : Ending) (w' : World) : Prop :=
  ∃ a c E, e = .returned (.slice a R.length c) ∧ Tabl w' w.heap.size w'.heap.size a E R ∧ Below w.heap.size w w'
theorem Tb.keepj {w w' : World} {B U : Nat} {E : List (Nat × Nat)} {R : List (List Int)} (h : Tb w B U E R) (k : ∀ j (h1 : j < E.length), E[j].1 < w.heap.size → E[j].1 < U → w'.heap[E[j].1]? = w.heap[E[j].1]?) : Tb w' B U E R :=
  ⟨h.len, fun j h1 h2 => by obtain ⟨a, b, c⟩ := h.row j h1 h2; exact ⟨a, b, c.of_block (k j h1 c.lt b)⟩, h.ne⟩
/-- the parts so far and the cells that are seen -/
structure Ms (w : World) (E : List (Nat × Nat)) (R : List (List Int)) (out : Value) (Sn : List Int) (sv : Value) (wr : World) : Prop where
  o : wr.ownsRow w.heap.size 30 1 out R.length (tabV E R)
  t : Tb wr w.heap.size wr.heap.size E R
  s : wr.ownsRow w.heap.size 3 1 sv Sn.length (iv Sn)
  sep : ∀ j (h : j < E.length), sv.ownBlock ≠ some E[j].1
  b : Below w.heap.size w wr
section
variable {w wr w1 w7 w8 : World} {E : List (Nat × Nat)} {R : List (List Int)} {out out' sv : Value} {Sn G s : List Int}
theorem Ms.step (h : Ms w E R out Sn sv wr) (k : Below wr.heap.size wr w1) : Ms w E R out Sn sv w1 :=
  ⟨own_keeps h.o k, (h.t.below k (Nat.le_refl _)).more (Nat.le_refl _) k.size, own_keeps h.s k, h.sep, below_then h.b k⟩
theorem Ms.own7 (h : Ms w E R out Sn sv wr) (k : Below wr.heap.size wr w1) (k7 : w1.grownBy w7 sv.ownBlock) : w7.ownsRow w.heap.size 30 1 out R.length (tabV E R) := by
  have o1 := own_keeps h.o k
  have hne : sv.ownBlock ≠ out.ownBlock ∨ out.ownBlock = none := by
    rcases h.o.2 with ⟨e, _⟩ | ⟨g', cap, cur, e, h2, h3, _⟩
    · right; rw [e]; rfl
    · left
      rcases h.s.2 with ⟨e', _⟩ | ⟨g'', cap', cur', e', h2', h3', _⟩
      · rw [e, e']; simp [Value.ownBlock]
      · rw [e, e']
        intro he
        have : g'' = g' := by simpa [Value.ownBlock] using he
        subst this
        rw [h3] at h3'
        injection h3' with h3'
        injection h3' with _ ht
        exact absurd ht (by decide)
  exact o1.kept k7 (by
    rcases hne with h1 | h1
    · exact .inr (Ne.symm h1)
    · exact .inl h1)
theorem Ms.put {gs cs g7 cap7 n : Nat} {ob : Obj} (h : Ms w E R out Sn sv wr) (k : Below wr.heap.size wr w1) (hr : Row w1 gs 3 (iv s)) (hgs : wr.heap.size ≤ gs) (k7 : w1.grownBy w7 sv.ownBlock) (hlie : sv.ownBlock = some g7 ∨ g7 = w1.heap.size)
    (h7 : w7.ownsRow w.heap.size 3 1 (.slice (some ⟨g7, 0, none⟩) n cap7) n (iv Sn ++ iv G)) (hn : n = Sn.length + G.length) (hn0 : 0 < n) (hgr : (w7.alloc ob).grownBy w8 out.ownBlock)
    (ho : w8.ownsRow w.heap.size 30 1 out' (R.length + 1) (tabV E R ++ [.slice (some ⟨gs, 0, none⟩) s.length cs])) : Ms w (E ++ [(gs, cs)]) (R ++ [s]) out' (Sn ++ G) (.slice (some ⟨g7, 0, none⟩) n cap7) w8 := by
  have hb := h.b.size
  have hk := k.size
  have hk7 := k7.size
  have hgl := hr.lt
  have hsvlt : ∀ g, sv.ownBlock = some g → g < wr.heap.size := fun g e => (h.s.lt g e).2
  have o1 := own_keeps h.o k
  have s1 := own_keeps h.s k
  have t7 : Tb w7 w.heap.size wr.heap.size E R := h.t.keepj fun j h1 h2 h3 => (k7.block _ (by omega) (Ne.symm (h.sep j h1))).trans (k.block _ h3)
  have r7 : Row w7 gs 3 (iv s) := hr.of_block (k7.block gs hgl (fun e => by have := hsvlt gs e.symm; omega))
  have t8 := (t7.snoc (c := cs) (by omega) hgs r7).below (below_all w7 ob) (by have := r7.lt; omega)
  have o7 := h.own7 k k7
  have o7' := o7.alloc ob
  have t9 : Tb w8 w.heap.size (gs + 1) (E ++ [(gs, cs)]) (R ++ [s]) := t8.keep fun j _ _ h3 ⟨vs, h4⟩ => hgr.block j h3 (Ne.symm (own_ne_row o7' h4 (by decide)))
  have hs1 := hgr.size
  rw [World.size_alloc] at hs1
  obtain ⟨_, _, e7, _, row7, _⟩ := Row.of_own (h7.alloc ob) hn0
  injection e7 with e7 _ _
  injection e7 with e7
  injection e7 with e7
  subst e7
  refine ⟨?_, t9.more (Nat.le_refl _) (by omega), ?_, fun j hj => ?_, ?_⟩
  · rw [tabV_snoc h.t.len, List.length_append]; exact ho
  · have h9 := (h7.alloc ob).kept hgr (.inr (fun e => own_ne_row o7' row7 (by decide) e.symm))
    subst hn
    rw [show iv (Sn ++ G) = iv Sn ++ iv G by simp [iv], List.length_append]
    exact h9
  · have hrow : ∀ i (hi : i < E.length), E[i].1 < wr.heap.size := fun i hi => (h.t.row i hi (by have := h.t.len; omega)).2.1
    intro e
    have e1 : g7 = (E ++ [(gs, cs)])[j].1 := by simpa [Value.ownBlock] using e
    rw [List.length_append, List.length_singleton] at hj
    by_cases hjE : j < E.length
    · rw [List.getElem_append_left hjE] at e1
      have := hrow j hjE
      rcases hlie with h1 | h1
      · exact h.sep j hjE (by rw [h1, e1])
      · omega
    · rw [List.getElem_append_right (by omega)] at e1
      simp only [show j - E.length = 0 by omega, List.getElem_singleton] at e1
      rcases hlie with h1 | h1
      · have := hsvlt _ h1; omega
      · omega
  · have b1 := h.b.trans (k.mono h.b.size)
    have b7 := b1.grown k7 b1.size (fun j e => (h.s.lt j e).1)
    have b8 := b7.alloc b7.size ob
    exact b8.grown hgr b8.size (fun j e => (h.o.lt j e).1)
theorem Ms.post (h : Ms w E R out Sn sv wr) : TabOne R w (.returned out) wr := by
  obtain ⟨a1, c1, rfl, ht⟩ := tabl_of h.o h.t (Nat.le_refl _)
  exact ⟨a1, c1, E, rfl, ht, h.b⟩
end
end Go.Proofs.Ythceffkkokgpnaa
