/- UnitWord, the model's and the program's, and the walk of FnExactUnitWord. -/
import Derived.Test.YtnafnkilmiebiaaDoorRow
namespace Go.Proofs.YtnafnkilmiebiaaDoor
open Go.RowKit
set_option linter.unusedVariables false
set_option linter.unusedSimpArgs false
def wordsCells : Array Value := #[.string ⟨#[]⟩, .string ⟨#[67]⟩, .string ⟨#[70]⟩, .string ⟨#[75]⟩, .string ⟨#[109, 47, 115]⟩, .string ⟨#[107, 116]⟩, .string ⟨#[107, 109, 47, 104]⟩, .string ⟨#[109, 109]⟩, .string ⟨#[105, 110]⟩]
theorem words_any (w : World) : Calls Tryd.prog 30 #[] w fun e w' => e = .returned (.slice (some ⟨w.heap.size, 0, none⟩) 9 9) ∧ w' = w.alloc (.cells wordsCells 9) := by
  go_enter Tryd.func30, Tryd.ntmps30
  go_wp2
  go_ret
  exact ⟨rfl, rfl⟩
theorem words_cell (w : World) (j : Nat) : (w.alloc (.cells wordsCells 9)).cell? ⟨w.heap.size, j, none⟩ = wordsCells[j]? := World.cell?_alloc_new w _ _ _

set_option maxHeartbeats 1000000 in
theorem specWord_any (u : Int) (w : World) :
    Calls Tryd.prog 10 #[.int .i64 u] w fun e w' => e = .returned (.tuple #[.string (rowW u), .bool (unitB u)]) ∧ Below w.heap.size w w' := by
  cases hu : unitB u with
  | false =>
    have C1 := Lib.hid (fun W => specUnit_is u false W hu)
    have R := Lib.hid (show rowW u = ⟨#[]⟩ from if_neg (by rw [hu]; simp))
    clear hu
    go_enter Tryd.func10, Tryd.ntmps10
    go_wp2_with fail
    refine (C1.out _).mono ?_
    rintro e w1 ⟨rfl, rfl⟩
    go_wp2
    go_ret2
    exact ⟨by rw [R.out]; rfl, Below.refl _ _⟩
  | true =>
    have C1 := Lib.hid (fun W => specUnit_is u true W hu)
    rcases unit_cases hu with rfl | rfl | rfl | rfl | rfl | rfl | rfl | rfl
    all_goals
      clear hu
      have HC := Lib.hid (words_cell w)
      go_enter Tryd.func10, Tryd.ntmps10
      go_wp2_with fail
      refine (C1.out _).mono ?_
      rintro e w1 ⟨rfl, rfl⟩
      go_wp2_with fail
      refine (words_any _).mono ?_
      rintro e w1 ⟨rfl, rfl⟩
      have c1 : (w.alloc (.cells wordsCells 9)).cell? ⟨w.heap.size, 1, none⟩ = some (.string ⟨#[67]⟩) := HC.out 1
      have c2 : (w.alloc (.cells wordsCells 9)).cell? ⟨w.heap.size, 2, none⟩ = some (.string ⟨#[70]⟩) := HC.out 2
      have c3 : (w.alloc (.cells wordsCells 9)).cell? ⟨w.heap.size, 3, none⟩ = some (.string ⟨#[75]⟩) := HC.out 3
      have c4 : (w.alloc (.cells wordsCells 9)).cell? ⟨w.heap.size, 4, none⟩ = some (.string ⟨#[109, 47, 115]⟩) := HC.out 4
      have c5 : (w.alloc (.cells wordsCells 9)).cell? ⟨w.heap.size, 5, none⟩ = some (.string ⟨#[107, 116]⟩) := HC.out 5
      have c6 : (w.alloc (.cells wordsCells 9)).cell? ⟨w.heap.size, 6, none⟩ = some (.string ⟨#[107, 109, 47, 104]⟩) := HC.out 6
      have c7 : (w.alloc (.cells wordsCells 9)).cell? ⟨w.heap.size, 7, none⟩ = some (.string ⟨#[109, 109]⟩) := HC.out 7
      have c8 : (w.alloc (.cells wordsCells 9)).cell? ⟨w.heap.size, 8, none⟩ = some (.string ⟨#[105, 110]⟩) := HC.out 8
      have HB := Lib.hid (below_all w (.cells wordsCells 9))
      generalize w.alloc (.cells wordsCells 9) = w9 at *
      go_wp2
      go_ret2
      exact ⟨rfl, HB.out⟩

set_option maxHeartbeats 1000000 in
theorem implWord_any (u : Int) (w : World) (ht : UTab w) :
    Calls Tryd.prog 11 #[.int .i64 u] w fun e w' => e = .returned (.tuple #[.string (rowW u), .bool (unitB u)]) ∧ Below w.heap.size w w' := by
  have C1 := Lib.hid (fun W (h : Below w.heap.size w W) => rowOf_any u W (ht.below h))
  clear ht
  generalize rowU u = r0 at *
  generalize rowK u = r1 at *
  generalize rowW u = r2 at *
  generalize rowP u = r3 at *
  generalize rowZ u = r4 at *
  generalize unitB u = b at *
  go_enter Tryd.func11, Tryd.ntmps11
  go_wp2_with fail
  refine (C1.out _ (by first | exact below_all _ _ | exact Below.refl _ _)).mono ?_
  rintro e w1 ⟨rfl, b1⟩
  have HB := Lib.hid b1
  clear b1
  go_wp2
  go_ret2
  exact ⟨rfl, HB.out.alloc HB.out.size _⟩

set_option maxHeartbeats 1000000 in
theorem walk_UnitWord (u : Int) (w : World) (ht : UTab w) :
    Calls Tryd.prog 3 #[.int .i64 u] w fun e w' => e = .returned (.bool true) ∧ Below w.heap.size w w' := by
  have H1 := Lib.hid (fun W => specWord_any u W)
  have H2 := Lib.hid (fun W (h : Below w.heap.size w W) => implWord_any u W (ht.below h))
  clear ht
  generalize rowW u = n at *
  generalize unitB u = b at *
  go_enter Tryd.func3, Tryd.ntmps3
  go_wp2_with fail
  refine (H1.out _).mono ?_
  rintro e w1 ⟨rfl, b1⟩
  have HB1 := Lib.hid b1
  clear b1
  go_wp2_with fail
  refine (H2.out _ HB1.out).mono ?_
  rintro e w2 ⟨rfl, b2⟩
  have HB2 := Lib.hid b2
  clear b2
  go_wp2
  go_ret
  exact ⟨rfl, below_then HB1.out HB2.out⟩
end Go.Proofs.YtnafnkilmiebiaaDoor
