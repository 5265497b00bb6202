/- A block of the call's own whose first cells are known; texts in it. -/
import Derived.Test.YthceffkkokgpnaaMem
import Derived.Test.YthceffkkokgpnaaDrew
import Derived.Laws.AppendOwn
import Derived.OwnWalk
namespace Go.Proofs.Ythceffkkokgpnaa
open Go.RowKit
/-- block g holds cells of type t, none frozen, the first of which are vs -/
def Row (w : World) (g : Nat) (t : TypeId) (vs : List Value) : Prop := ∃ cur : Array Value, w.heap[g]? = some (.cells cur t (0, 0)) ∧ ∀ k (h : k < vs.length), cur[k]? = some vs[k]
section
variable {w w' : World} {g : Nat} {t : TypeId} {vs : List Value}
theorem Row.lt (h : Row w g t vs) : g < w.heap.size := by
  obtain ⟨c, hb, _⟩ := h
  exact (Array.getElem?_eq_some_iff.1 hb).1
theorem Row.cell (h : Row w g t vs) {k : Nat} (hk : k < vs.length) : w.cell? ⟨g, k, none⟩ = some vs[k] := by
  obtain ⟨c, hb, hc⟩ := h
  simp [World.cell?, hb, hc k hk]
theorem Row.frozen (h : Row w g t vs) (k : Nat) : w.frozen? ⟨g, k, none⟩ = false := by
  obtain ⟨c, hb, _⟩ := h
  simp [World.frozen?, hb]
theorem Row.of_block (h : Row w g t vs) (e : w'.heap[g]? = w.heap[g]?) : Row w' g t vs := by
  obtain ⟨c, hb, hc⟩ := h
  exact ⟨c, e.trans hb, hc⟩
theorem Row.below {B : Nat} (h : Row w g t vs) (hb : Below B w w') (hg : g < B) : Row w' g t vs := h.of_block (hb.block g hg)
theorem Row.alloc (h : Row w g t vs) (o : Obj) : Row (w.alloc o) g t vs := h.of_block (Below.heap_alloc w o g h.lt)
theorem Row.other (h : Row w g t vs) {p : Addr} (hp : g ≠ p.block) (u : Value) : Row (w.setCell p u) g t vs := h.of_block (Below.heap_setCell w p u g hp)
theorem Row.drew (h : Row w g t vs) (d : Drew w w') : Row w' g t vs := by obtain ⟨n, rfl⟩ := d; exact h
theorem Row.set (h : Row w g t vs) (k : Nat) (u : Value) : Row (w.setCell ⟨g, k, none⟩ u) g t (vs.set k u) := by
  obtain ⟨c, hb, hc⟩ := h
  refine ⟨c.setIfInBounds k u, by simp [World.setCell, Array.getElem?_modify, hb], fun j hj => ?_⟩
  rw [List.length_set] at hj
  have h1 := hc j hj
  rw [Array.getElem?_setIfInBounds, List.getElem_set]
  by_cases e : k = j
  · subst e
    have : k < c.size := (Array.getElem?_eq_some_iff.1 h1).1
    simp [this]
  · simp [e, h1]
theorem Row.of_own {base n : Nat} {v : Value} (h : w.ownsRow base t 1 v n vs) (hn : 0 < n) : ∃ cap, ∃ g, v = .slice (some ⟨g, 0, none⟩) n cap ∧ base ≤ g ∧ Row w g t vs ∧ n ≤ cap := by
  obtain ⟨hl, h1 | ⟨g, cap, cur, rfl, hb, hh, hc, _, _, hx⟩⟩ := h
  · omega
  · refine ⟨cap, g, rfl, hb, ⟨cur, hh, fun k hk => ?_⟩, hc⟩
    rw [Nat.mul_one] at hx hl
    subst hx
    rw [List.getElem_take]
    rw [List.length_take] at hk
    simp
end
theorem Strs.of_own {w : World} {g : Nat} {t : TypeId} {l : List ByteArray} (h : Row w g t (l.map .string)) : Strs w (g + 1) (some ⟨g, 0, none⟩) l :=
  .inr ⟨g, 0, rfl, by omega, fun k hk => by have := h.cell (k := k) (by simpa using hk); rw [Nat.zero_add, this]; simp⟩
theorem below_own {w w1 w2 : World} {v : Value} {B : Nat} (h : Below B w w1) (hg : w1.grownBy w2 v.ownBlock) (ho : ∀ k, v.ownBlock = some k → B ≤ k) (hB : B ≤ w1.heap.size) : Below B w w2 := h.grown hg hB ho
end Go.Proofs.Ythceffkkokgpnaa
