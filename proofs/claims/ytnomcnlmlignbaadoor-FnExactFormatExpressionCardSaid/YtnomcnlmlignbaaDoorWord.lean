/- UnitWord, the model's and the program's, and the walk of FnExactUnitWord. -/
import Derived.Test.YtnomcnlmlignbaaDoorRow
namespace Go.Proofs.YtnomcnlmlignbaaDoor
open Go.RowKit
set_option linter.unusedVariables false
set_option linter.unusedSimpArgs false
def wordsCells : Array Value := #[.string ⟨#[]⟩, .string ⟨#[67]⟩, .string ⟨#[70]⟩, .string ⟨#[75]⟩, .string ⟨#[109, 47, 115]⟩, .string ⟨#[107, 116]⟩, .string ⟨#[107, 109, 47, 104]⟩, .string ⟨#[109, 109]⟩, .string ⟨#[105, 110]⟩]
theorem words_any (w : World) : Calls Tryd.prog 75 #[] w fun e w' => e = .returned (.slice (some ⟨w.heap.size, 0, none⟩) 9 9) ∧ w' = w.alloc (.cells wordsCells 9) := by
  go_enter Tryd.func75, Tryd.ntmps75
  go_wp2
  go_ret
  exact ⟨rfl, rfl⟩
theorem words_cell (w : World) (j : Nat) : (w.alloc (.cells wordsCells 9)).cell? ⟨w.heap.size, j, none⟩ = wordsCells[j]? := World.cell?_alloc_new w _ _ _

set_option maxHeartbeats 1000000 in
theorem implWord_any (u : Int) (w : World) (ht : UTab w) :
    Calls Tryd.prog 25 #[.int .i64 u] w fun e w' => e = .returned (.tuple #[.string (rowW u), .bool (unitB u)]) ∧ Below w.heap.size w w' := by
  have C1 := Lib.hid (fun W (h : Below w.heap.size w W) => rowOf_any u W (ht.below h))
  clear ht
  generalize rowU u = r0 at *
  generalize rowK u = r1 at *
  generalize rowW u = r2 at *
  generalize rowP u = r3 at *
  generalize rowZ u = r4 at *
  generalize unitB u = b at *
  go_enter Tryd.func25, Tryd.ntmps25
  go_wp2_with fail
  refine (C1.out _ (by first | exact below_all _ _ | exact Below.refl _ _)).mono ?_
  rintro e w1 ⟨rfl, b1⟩
  have HB := Lib.hid b1
  clear b1
  go_wp2
  go_ret2
  exact ⟨rfl, HB.out.alloc HB.out.size _⟩

end Go.Proofs.YtnomcnlmlignbaaDoor
