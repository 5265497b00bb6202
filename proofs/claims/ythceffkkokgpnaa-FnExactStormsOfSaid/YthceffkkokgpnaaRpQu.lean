/- A queue of points in own memory: a slice with an offset; what takePart knows. -/
import Derived.Test.YthceffkkokgpnaaRpMath
import Derived.Test.YthceffkkokgpnaaPtFn
import Derived.Test.YthceffkkokgpnaaMake
import Derived.Test.YthceffkkokgpnaaPtLaw
import Derived.ArgAppend
namespace Go.Proofs.Ythceffkkokgpnaa
open Go.RowKit
set_option linter.unusedVariables false
set_option linter.unusedSimpArgs false
/-- the slice of c places from the cell o of block g on reads the points Q -/
structure Qu (w : World) (B g o c : Nat) (Q : List Pt) : Prop where
  ge : B ≤ g
  blk : ∃ cur, w.heap[g]? = some (.cells cur 152 (0, 0)) ∧ o + c * 2 ≤ cur.size
  len : Q.length ≤ c
  at_ : ∀ j u, (pv Q)[j]? = some u → w.cell? ⟨g, o + j, none⟩ = some u
section
variable {w w' : World} {B g o c : Nat} {Q : List Pt}
theorem Qu.lt (h : Qu w B g o c Q) : g < w.heap.size := by obtain ⟨cur, hb, _⟩ := h.blk; exact (Array.getElem?_eq_some_iff.1 hb).1
theorem Qu.keep (h : Qu w B g o c Q) (hb : w'.heap[g]? = w.heap[g]?) : Qu w' B g o c Q :=
  ⟨h.ge, by obtain ⟨cur, h1, h2⟩ := h.blk; exact ⟨cur, hb.trans h1, h2⟩, h.len, fun j u hj => (World.cell?_of_block hb).trans (h.at_ j u hj)⟩
theorem Qu.spare (h : Qu w B g o c Q) (hn : Q.length + 1 ≤ c) (j : Nat) (hj : j < 2) : (w.cell? ⟨g, o + Q.length * 2 + j, none⟩).isSome = true ∧ w.frozen? ⟨g, o + Q.length * 2 + j, none⟩ = false := by
  obtain ⟨cur, h1, h2⟩ := h.blk
  have h3 : o + Q.length * 2 + j < cur.size := by omega
  exact ⟨by simp [World.cell?, h1, h3], by simp [World.frozen?, h1]⟩
theorem blk_set {e : TypeId} {cur : Array Value} {i : Nat} {u : Value} (h : w.heap[g]? = some (.cells cur e (0, 0))) : (w.setCell ⟨g, i, none⟩ u).heap[g]? = some (.cells (cur.setIfInBounds i u) e (0, 0)) := by
  simp [World.setCell, Array.getElem?_modify, h]
theorem Qu.room (h : Qu w B g o c Q) (hn : Q.length + 1 ≤ c) (x y : Int) : Qu (w.setCells g (o + Q.length * 2) [.int .i64 x, .int .i64 y]) B g o c (Q ++ [(x, y)]) := by
  have hs := h.spare hn
  refine ⟨h.ge, ?_, by rw [List.length_append, List.length_singleton]; exact hn, fun j u hj => ?_⟩
  · obtain ⟨cur, h1, h2⟩ := h.blk
    exact ⟨_, blk_set (blk_set h1), by simpa using h2⟩
  · rw [pv_append] at hj
    by_cases hlt : j < (pv Q).length
    · rw [List.getElem?_append_left hlt] at hj
      rw [World.cell?_setCells_out]
      · exact h.at_ j u hj
      · intro _ _
        rw [pv_length] at hlt
        left; show o + j < _; omega
    · rw [List.getElem?_append_right (by omega)] at hj
      have hj2 : j - (pv Q).length < 2 := by
        rcases Nat.lt_or_ge (j - (pv Q).length) 2 with h9 | h9
        · exact h9
        · rw [List.getElem?_eq_none (by simpa [pv] using h9)] at hj; cases hj
      rw [pv_length] at hlt hj hj2
      have h9 := World.cell?_setCells_in g [.int .i64 x, .int .i64 y] (o + Q.length * 2) w (fun j hj => (hs j hj).1) (j - Q.length * 2) hj2
      rw [show o + Q.length * 2 + (j - Q.length * 2) = o + j by omega] at h9
      rw [h9]
      rw [← hj]
      rw [List.getElem?_eq_getElem hj2]
      rfl
theorem Qu.head {p : Pt} (h : Qu w B g o c (p :: Q)) : w.cell? ⟨g, o, none⟩ = some (.int .i64 p.1) ∧ w.cell? ⟨g, o + 1, none⟩ = some (.int .i64 p.2) :=
  ⟨h.at_ 0 _ rfl, h.at_ 1 _ rfl⟩
theorem Qu.tail {p : Pt} (h : Qu w B g o c (p :: Q)) : Qu w B g (o + 2) (c - 1) Q := by
  have hl := h.len
  rw [List.length_cons] at hl
  refine ⟨h.ge, ?_, by omega, fun j u hj => ?_⟩
  · obtain ⟨cur, h1, h2⟩ := h.blk
    exact ⟨cur, h1, by omega⟩
  · have h9 := h.at_ (j + 1 + 1) u (by rw [pv_cons]; simpa using hj)
    rw [show o + 2 + j = o + (j + 1 + 1) by omega]
    exact h9
theorem Qu.end_ {p : Pt} (h : Qu w B g o c (p :: Q)) (hc : c = 1) : Q = [] ∧ Qu w B g o 0 Q := by
  have hl := h.len
  rw [List.length_cons] at hl
  have e : Q = [] := List.eq_nil_of_length_eq_zero (by omega)
  subst e
  refine ⟨rfl, h.ge, ?_, Nat.le_refl _, fun j u hj => by simp [pv] at hj⟩
  obtain ⟨cur, h1, h2⟩ := h.blk
  exact ⟨cur, h1, by omega⟩
theorem Qu.of_own {base n : Nat} {v : Value} (h : w.ownsRow base 152 2 v n (pv Q)) (hn : n = Q.length) (h0 : 0 < n) (hB : B ≤ base) : ∃ g c, v = .slice (some ⟨g, 0, none⟩) n c ∧ base ≤ g ∧ Qu w B g 0 c Q := by
  obtain ⟨h1, ⟨h2, h3⟩ | ⟨g, cap, cur, h2, h4, h5, h6, h7, h8, h9⟩⟩ := id h
  · omega
  · subst h2
    refine ⟨g, cap, rfl, h4, by omega, ⟨cur, h5, by omega⟩, by omega, fun j u hj => ?_⟩
    have hj2 := (List.getElem?_eq_some_iff.1 hj).1
    have := h.cellAt j (by omega)
    rw [Nat.zero_add, this]; exact hj
end
theorem gb_below {w w1 w2 : World} {g : Nat} (h : w.grownBy w1 (some g)) (k : Below w1.heap.size w1 w2) : w.grownBy w2 (some g) :=
  ⟨k.os.trans h.os, k.tape.trans h.tape, k.output.trans h.output, Nat.le_trans h.size k.size, fun i hi hne => (k.block i (Nat.lt_of_lt_of_le hi h.size)).trans (h.block i hi hne)⟩
theorem gb_then {w w1 w2 : World} {g : Nat} {row : Option Nat} (h : w.grownBy w1 (some g)) (k : w1.grownBy w2 row) (hr : ∀ j, row = some j → w.heap.size ≤ j ∨ j = g) : w.grownBy w2 (some g) :=
  ⟨k.os.trans h.os, k.tape.trans h.tape, k.output.trans h.output, Nat.le_trans h.size k.size, fun i hi hne => (k.block i (Nat.lt_of_lt_of_le hi h.size) (fun e => by rcases hr i e.symm with h1 | h1; omega; exact hne (by rw [h1]))).trans (h.block i hi hne)⟩
/-- the cells as points -/
def ptL (wd : Int) (l : List Int) : List Pt := l.map fun i => (i % wd, i / wd)
theorem ptL_len (wd : Int) (l : List Int) : (ptL wd l).length = l.length := by simp [ptL]
/-- what takePart knows: the part so far, the queue, the set of those that are left -/
structure Rp (w : World) (B mb : Nat) (wd : Int) (P Q L : List Int) (v : Value) (g o c : Nat) (wr : World) : Prop where
  own : wr.ownsRow B 3 1 v P.length (iv P)
  q : Qu wr B g o c (ptL wd Q)
  m : PSet wr mb 64 (inP wd L)
  t : w.grownBy wr (some mb)
  lt : mb < w.heap.size
  lo : w.heap.size ≤ B
  z : B ≤ wr.heap.size
section
variable {w w1 w2 : World} {B mb : Nat} {wd : Int} {P Q L : List Int} {v : Value} {g o c : Nat}
theorem Rp.ne (h : Rp w B mb wd P Q L v g o c w1) : v.ownBlock ≠ some g := by
  intro e
  obtain ⟨cur, hb, _⟩ := h.q.blk
  rcases h.own.2 with ⟨h1, _⟩ | ⟨g', cap, cur', h1, h2, h3, _⟩
  · rw [h1] at e; cases e
  · rw [h1] at e
    simp [Value.ownBlock] at e
    subst e
    rw [hb] at h3
    injection h3 with h3
    injection h3 with _ ht
    exact absurd ht (by decide)
theorem Rp.step (h : Rp w B mb wd P Q L v g o c w1) (k : Below w1.heap.size w1 w2) : Rp w B mb wd P Q L v g o c w2 :=
  ⟨own_keeps h.own k, h.q.keep (k.block g h.q.lt), h.m.below k h.m.lt, gb_below h.t k, h.lt, h.lo, Nat.le_trans h.z k.size⟩
theorem Rp.part {P' : List Int} {v' : Value} (h : Rp w B mb wd P Q L v g o c w1) (k : w1.grownBy w2 v.ownBlock) (ho : w2.ownsRow B 3 1 v' P'.length (iv P')) : Rp w B mb wd P' Q L v' g o c w2 :=
  ⟨ho, h.q.keep (k.block g h.q.lt (Ne.symm h.ne)), h.m.kept k (by intro e; have := (h.own.lt mb e.symm).1; have := h.lt; have := h.lo; omega), gb_then h.t k (fun j e => by have := (h.own.lt j e).1; have := h.lo; omega), h.lt, h.lo, Nat.le_trans h.z k.size⟩
theorem Rp.del {c' : Int} (h : Rp w B mb wd P Q L v g o c w1) (hn : L.Nodup) (k : w1.grownBy w2 (some mb)) (hm : PSet w2 mb 64 (fun p q => if p = c' % wd ∧ q = c' / wd then false else inP wd L p q)) : Rp w B mb wd P Q (L.erase c') v g o c w2 := by
  have hlt := h.lt
  have hlo := h.lo
  refine ⟨h.own.kept k (.inr (fun e => ?_)), h.q.keep (k.block g h.q.lt (fun e => ?_)), hm.congr fun p q _ _ => ?_, gb_then h.t k (fun j e => by injection e with e; exact .inr e.symm), h.lt, h.lo, Nat.le_trans h.z k.size⟩
  · have := (h.own.lt mb e).1; omega
  · injection e with e; have := h.q.ge; omega
  · rw [inP_erase hn]
    by_cases e : p = c' % wd ∧ q = c' / wd
    · rw [if_pos e, decide_eq_true e]; simp
    · rw [if_neg e, decide_eq_false e]; simp
theorem Rp.room {c' : Int} (h : Rp w B mb wd P Q L v g o c w1) (hn : Q.length + 1 ≤ c) : Rp w B mb wd P (Q ++ [c']) L v g o c (w1.setCells g (o + Q.length * 2) [.int .i64 (c' % wd), .int .i64 (c' / wd)]) := by
  have hgr : w1.grownBy (w1.setCells g (o + Q.length * 2) [.int .i64 (c' % wd), .int .i64 (c' / wd)]) (some g) := by
    refine ⟨rfl, rfl, rfl, ?_, fun i hi hne => ?_⟩
    · show w1.heap.size ≤ ((w1.setCell _ _).setCell _ _).heap.size
      simp [World.setCell]
    · have hne2 : i ≠ g := fun e => hne (by rw [e])
      exact (Below.heap_setCell _ ⟨g, o + Q.length * 2 + 1, none⟩ _ i hne2).trans (Below.heap_setCell w1 ⟨g, o + Q.length * 2, none⟩ _ i hne2)
  have hge := h.q.ge
  have hlt := h.lt
  have hlo := h.lo
  have hr := h.q.room (by rw [ptL_len]; exact hn) (c' % wd) (c' / wd)
  rw [ptL_len] at hr
  refine ⟨h.own.kept hgr (.inr h.ne), ?_, h.m.kept hgr (by intro e; injection e with e; omega), gb_then h.t hgr (fun j e => by injection e with e; omega), h.lt, h.lo, Nat.le_trans h.z hgr.size⟩
  have e : ptL wd (Q ++ [c']) = ptL wd Q ++ [(c' % wd, c' / wd)] := by simp [ptL]
  rw [e]
  exact hr
theorem Rp.grow {c' : Int} {v' : Value} {n : Nat} (h : Rp w B mb wd P Q L v g o c w1) (k : w1.grownBy w2 none) (ho : w2.ownsRow w1.heap.size 152 2 v' n (pv (ptL wd (Q ++ [c'])))) (hn : n = Q.length + 1) : ∃ g' c2, v' = .slice (some ⟨g', 0, none⟩) n c2 ∧ Rp w B mb wd P (Q ++ [c']) L v g' 0 c2 w2 := by
  obtain ⟨g', c2, hv, hge, hq⟩ := Qu.of_own (B := B) ho (by rw [ptL_len, List.length_append, List.length_singleton]; exact hn) (by omega) h.z
  exact ⟨g', c2, hv, h.own.kept k (by cases hb : v.ownBlock; exact .inl rfl; exact .inr (by intro e; cases e)), hq, h.m.kept k (by intro e; cases e), gb_then h.t k (fun j e => by cases e), h.lt, h.lo, Nat.le_trans h.z k.size⟩
theorem Rp.pop {i : Int} (h : Rp w B mb wd P (i :: Q) L v g o c w1) : Rp w B mb wd P Q L v g (o + 2) (c - 1) w1 :=
  ⟨h.own, h.q.tail, h.m, h.t, h.lt, h.lo, h.z⟩
theorem Rp.pop1 {i : Int} (h : Rp w B mb wd P (i :: Q) L v g o c w1) (hc : c = 1) : Q = [] ∧ Rp w B mb wd P Q L v g o 0 w1 := by
  obtain ⟨e, hq⟩ := h.q.end_ hc
  refine ⟨?_, h.own, hq, h.m, h.t, h.lt, h.lo, h.z⟩
  have := congrArg List.length e
  exact List.eq_nil_of_length_eq_zero (by simpa using this)
end
end Go.Proofs.Ythceffkkokgpnaa
