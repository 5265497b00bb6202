/- A law's answer: a field in a box of the law's own, its box and cells between two bounds. -/
import Derived.Test.YtggdkibbfmjelaaFieldLaw
import Derived.Test.YtggdkibbfmjelaaMake
namespace Go.Proofs.Ytggdkibbfmjelaa
open Go.RowKit
set_option linter.unusedVariables false
structure Res (w : World) (lo hi b : Nat) (p q : Int) (a : Option Addr) (L : List Int) (c : Nat) : Prop where
  k : Box w b 34 (.int .i64 p) (.int .i64 q) (.slice a L.length c)
  i : ∃ g, lo ≤ g ∧ (L = [] ∨ g < hi) ∧ At w a g L
  lb : lo ≤ b
  ub : b < hi
section
variable {w w' : World} {lo hi b : Nat} {p q : Int} {a : Option Addr} {L : List Int} {c : Nat}
theorem Res.new {B : Nat} (h : OwnI w B a L) (hB : B ≤ w.heap.size) : Res (w.alloc (.cells #[.int .i64 p, .int .i64 q, .slice a L.length c] 34)) B (w.heap.size + 1) w.heap.size p q a L c := by
  obtain ⟨g, h1, h2⟩ := h
  refine ⟨Box.new _ _ _ _ _, ⟨g, h1, ?_, h2.alloc _⟩, hB, Nat.lt_succ_self _⟩
  rcases h2 with h2 | ⟨_, h2⟩
  · exact .inl h2
  · exact .inr (by have := h2.lt; omega)
theorem Res.keep (h : Res w lo hi b p q a L c) (hk : ∀ i, lo ≤ i → i < hi → i < w.heap.size → w'.heap[i]? = w.heap[i]?) : Res w' lo hi b p q a L c := by
  obtain ⟨g, h1, h2, h3⟩ := h.i
  refine ⟨(hk b h.lb h.ub h.k.lt).trans h.k, ⟨g, h1, h2, ?_⟩, h.lb, h.ub⟩
  rcases h2 with h2 | h2
  · exact .inl h2
  · exact h3.keep fun hl => hk g h1 h2 hl
theorem Res.below {C : Nat} (h : Res w lo hi b p q a L c) (hb : Below C w w') (hC : hi ≤ C) : Res w' lo hi b p q a L c := h.keep fun i _ h2 _ => hb.block i (by omega)
theorem Res.turn {g : Nat} (h : Res w lo hi b p q a L c) (o : w.grownBy w' (some g)) (hg : hi ≤ g) : Res w' lo hi b p q a L c := h.keep fun i _ h2 h3 => o.block i h3 (by intro e; injection e with e; omega)
theorem Res.past {g : Nat} (h : Res w lo hi b p q a L c) (o : w.grownBy w' (some g)) (hg : g < lo) : Res w' lo hi b p q a L c := h.keep fun i h1 _ h3 => o.block i h3 (by intro e; injection e with e; omega)
theorem Res.aside {U : Nat} (h : Res w lo hi b p q a L c) (o : ∀ i, U ≤ i → i < w.heap.size → w'.heap[i]? = w.heap[i]?) (hU : U ≤ lo) : Res w' lo hi b p q a L c := h.keep fun i h1 _ h3 => o i (by omega) h3
theorem Res.ints (h : Res w lo hi b p q a L c) : Ints .i64 w w.heap.size a L := by obtain ⟨g, _, _, h3⟩ := h.i; exact h3.ints
theorem Res.pick (h : Res w lo hi b p q a L c) (hlo : lo ≤ w.heap.size) : ∃ g, lo ≤ g ∧ g ≠ b ∧ At w a g L := by
  obtain ⟨g, h1, h2, h3⟩ := h.i
  rcases h3 with h3 | ⟨h4, h5⟩
  · exact ⟨w.heap.size, hlo, by have := h.k.lt; omega, .inl h3⟩
  · refine ⟨g, h1, ?_, .inr ⟨h4, h5⟩⟩
    rintro rfl
    obtain ⟨cur, hc, _⟩ := h5
    have hk := h.k
    unfold Box at hk
    rw [hc] at hk
    injection hk with hk
    injection hk with _ hty
    exact absurd hty (by decide)
end
/-- the answer marked -/
structure Mk (w : World) (b g : Nat) (p q : Int) (a : Option Addr) (n c : Nat) : Prop where
  k : Box w b 34 (.int .i64 p) (.int .i64 q) (.slice a n c)
  i : At w a g (marks 1 n)
theorem Mk.below {w w' : World} {b g : Nat} {p q : Int} {a : Option Addr} {n c : Nat} (h : Mk w b g p q a n c) (hb : Below w.heap.size w w') : Mk w' b g p q a n c := ⟨h.k.below hb, h.i.below hb⟩
theorem below_aside {w w1 w2 : World} {B : Nat} (h : Below w.heap.size w w1) (k : Below B w1 w2) (hB : w.heap.size ≤ B) : Below w.heap.size w w2 := h.trans (k.mono hB)
theorem below_on {w w1 w2 : World} {g : Nat} (h : Below w.heap.size w w1) (o : Only g w1 w2) (hg : w.heap.size ≤ g) : Below w.heap.size w w2 := h.grown o.1 h.size (fun j e => by injection e with e; omega)
theorem below_turn' {w w1 w2 : World} {g : Nat} (h : Below w.heap.size w w1) (o : w1.grownBy w2 (some g)) (hg : w.heap.size ≤ g) : Below w.heap.size w w2 := h.grown o h.size (fun j e => by injection e with e; omega)
end Go.Proofs.Ytggdkibbfmjelaa
