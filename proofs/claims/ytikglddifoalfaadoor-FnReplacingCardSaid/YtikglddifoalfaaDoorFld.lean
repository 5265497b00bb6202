/- The model's draws of fields: a field of one value with room told, field. -/
import Derived.Test.YtikglddifoalfaaDoorAmong
import Derived.Test.YtikglddifoalfaaDoorNew
import Derived.Test.YtikglddifoalfaaDoorFr
namespace Go.Proofs.YtikglddifoalfaaDoor
open Go.RowKit
set_option linter.unusedVariables false
set_option linter.unusedSimpArgs false
theorem ownI_room {w : World} {B n : Nat} {v : Value} {l : List Int} (h : w.ownsRow B 3 1 v n (iv l)) (hn : n = l.length) : ∃ a c, v = .slice a l.length c ∧ OwnI w B a l ∧ l.length ≤ c := by
  subst hn
  have h' := h
  obtain ⟨h1, ⟨h2, h3⟩ | ⟨g, cap, cur, h2, h4, h5, h6, h7⟩⟩ := h
  · refine ⟨none, 0, by rw [h2, h3], ?_, by omega⟩
    have : l = [] := List.eq_nil_of_length_eq_zero h3
    subst this
    exact OwnI.none_
  · subst h2
    exact ⟨_, _, rfl, OwnI.of_own h', h6⟩
/-- a cursor stays where other blocks grow or turn -/
theorem CurIs.past {w w' : World} {g : Nat} {a : Option Addr} {l : List Int} {c K : Nat} {row : Option Nat} (h : CurIs w g a l c K) (hg : w.grownBy w' row) (hr : ∀ k, row = some k → g + 1 ≤ k) : CurIs w' g a l c K := by
  have hlt := h.lt
  obtain ⟨h1, p, s, h2, h3⟩ := h
  refine ⟨⟨h1.1.keep fun q hq => ?_, h1.2⟩, p, s, h2, (hg.block g hlt (fun e => by have := hr g e.symm; omega)).trans h3⟩
  exact World.cell?_of_block (hg.block q.block (by omega) (fun e => by have := hr q.block e.symm; omega))
theorem CurIs.below {w w' : World} {g : Nat} {a : Option Addr} {l : List Int} {c K : Nat} (h : CurIs w g a l c K) (hb : Below w.heap.size w w') : CurIs w' g a l c K :=
  h.past (row := none) ⟨hb.os, hb.tape, hb.output, hb.size, fun i hi _ => hb.block i hi⟩ (fun k e => by cases e)
theorem CurIs.setOther {w : World} {g : Nat} {a : Option Addr} {l : List Int} {c K : Nat} (h : CurIs w g a l c K) {b : Nat} (hb : g + 1 ≤ b) (i : Nat) (v : Value) : CurIs (w.setCell ⟨b, i, none⟩ v) g a l c K :=
  h.past (row := some b) ⟨rfl, rfl, rfl, by simp [World.setCell], fun j hj hne => Below.heap_setCell w ⟨b, i, none⟩ v j (fun e => hne (by rw [e]))⟩ (fun k e => by injection e with e; omega)
/-- a row of the call's own stays while a cursor below moves -/
theorem own_cur {w w' : World} {g B n : Nat} {e : TypeId} {v : Value} {xs : List Value} (h : w.ownsRow B e 1 v n xs) (hg : w.grownBy w' (some g)) (hB : g < B) : w'.ownsRow B e 1 v n xs := by
  refine h.kept hg ?_
  cases hv : v.ownBlock with
  | none => exact .inl rfl
  | some b =>
    refine .inr fun e => ?_
    injection e with e
    have := (h.lt b hv).1
    omega
/-- only block g has turned; blocks may be new -/
theorem turn_of_below {w w1 w2 : World} {g : Nat} (h : w.grownBy w1 (some g)) (hb : Below w1.heap.size w1 w2) : w.grownBy w2 (some g) := turn_trans h (turn_below hb)
theorem turn_new {w w1 w2 : World} {g : Nat} {row : Option Nat} (h : w.grownBy w1 (some g)) (k : w1.grownBy w2 row) (hr : ∀ j, row = some j → w.heap.size ≤ j) : w.grownBy w2 (some g) :=
  ⟨k.os.trans h.os, k.tape.trans h.tape, k.output.trans h.output, Nat.le_trans h.size k.size, fun i hi hne => (k.block i (Nat.lt_of_lt_of_le hi h.size) (fun e => by have := hr i e.symm; omega)).trans (h.block i hi hne)⟩
theorem turn_setNew {w w1 : World} {g b : Nat} (h : w.grownBy w1 (some g)) (hb : w.heap.size ≤ b) (i : Nat) (v : Value) : w.grownBy (w1.setCell ⟨b, i, none⟩ v) (some g) :=
  turn_new h (row := some b) (turn_set w1 b i v) (fun j e => by injection e with e; omega)
/-- a field of the call's own, its cursor further -/
def FDraw (g : Nat) (a : Option Addr) (l : List Int) (c K : Nat) (w : World) (e : Ending) (w' : World) : Prop :=
  ∃ (wd hg : Int) (L : List Int) (a1 : Option Addr) (c1 : Nat), (1 ≤ L.length ∧ L.length ≤ 64 ∧ L.length ≤ c1 ∧ 1 ≤ wd ∧ wd ≤ 8 ∧ 1 ≤ hg ∧ hg ≤ 8) ∧ e = .returned (.agg #[.int .i64 wd, .int .i64 hg, .slice a1 L.length c1]) ∧ OwnI w' w.heap.size a1 L ∧ CurIs w' g a l c K ∧ w.grownBy w' (some g)

end Go.Proofs.YtikglddifoalfaaDoor
