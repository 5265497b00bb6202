/- The laws' own helpers on fields: szField, toField, eqField, markField, heldField. -/
import Derived.Test.YtjpiiidjocilcaaIntRow
import Derived.Test.YtjpiiidjocilcaaFieldMath
namespace Go.Proofs.Ytjpiiidjocilcaa
open Go.RowKit
set_option linter.unusedVariables false
set_option linter.unusedSimpArgs false
theorem turn_refl (w : World) (r : Option Nat) : w.grownBy w r := ⟨rfl, rfl, rfl, Nat.le_refl _, fun _ _ _ => rfl⟩
theorem turn_trans {a b c : World} {r : Option Nat} (h : a.grownBy b r) (k : b.grownBy c r) : a.grownBy c r :=
  ⟨k.os.trans h.os, k.tape.trans h.tape, k.output.trans h.output, Nat.le_trans h.size k.size, fun i hi hne => (k.block i (Nat.lt_of_lt_of_le hi h.size) hne).trans (h.block i hi hne)⟩
theorem turn_below {a b : World} {g : Nat} (h : Below a.heap.size a b) : a.grownBy b (some g) := ⟨h.os, h.tape, h.output, h.size, fun i hi _ => h.block i hi⟩
theorem below_turn {a b c : World} {g B : Nat} (h : Below B a b) (k : b.grownBy c (some g)) (hB : B ≤ b.heap.size) (hg : B ≤ g) : Below B a c := h.grown k hB (fun j e => by injection e with e; omega)
theorem At.turn {w w' : World} {a : Option Addr} {g g' : Nat} {l : List Int} (h : At w a g l) (o : w.grownBy w' (some g')) (hne : g ≠ g') : At w' a g l := h.keep fun hg => o.block g hg (by intro e; injection e with e; exact hne e)
theorem OwnI.turn {w w' : World} {a : Option Addr} {g' B : Nat} {l : List Int} (h : OwnI w B a l) (o : w.grownBy w' (some g')) (hne : g' < B) : OwnI w' B a l := by obtain ⟨g, h1, h2⟩ := h; exact ⟨g, h1, h2.turn o (by omega)⟩
theorem Ints.turn {k : IntKind} {w w' : World} {a : Option Addr} {g B : Nat} {l : List Int} (h : Ints k w B a l) (o : w.grownBy w' (some g)) (hB : B ≤ g) (hw : B ≤ w.heap.size) : Ints k w' B a l :=
  h.keep fun p hp => World.cell?_of_block (o.block p.block (by omega) (by intro e; injection e with e; omega))

theorem bcell {W w1 : World} (hb : Below W.heap.size W w1) : (∀ b o, b < W.heap.size → w1.cell? ⟨b, o, none⟩ = W.cell? ⟨b, o, none⟩) ∧ (∀ b o, b < W.heap.size → w1.frozen? ⟨b, o, none⟩ = W.frozen? ⟨b, o, none⟩) :=
  ⟨fun b o h => hb.cell (p := ⟨b, o, none⟩) h, fun b o h => hb.frozen (p := ⟨b, o, none⟩) h⟩

/-- a field as a value -/
def fv (wd hg : Int) (a : Option Addr) (n c : Nat) : Value := .agg #[.int .i64 wd, .int .i64 hg, .slice a n c]
/-- the copy of a field: a row of its own -/
def ToPost (wd hg : Int) (l : List Int) (w : World) (e : Ending) (w' : World) : Prop :=
  ∃ g, w.heap.size ≤ g ∧ g < w'.heap.size ∧ e = .returned (.agg #[.int .i64 wd, .int .i64 hg, .slice (some ⟨g, 0, none⟩) l.length l.length]) ∧ At w' (some ⟨g, 0, none⟩) g l ∧ Below w.heap.size w w'

end Go.Proofs.Ytjpiiidjocilcaa
