/- Two fields in one: withCells, combineCells. -/
import Derived.Test.YtggdkibbfmjelaaPair
import Derived.Test.YtggdkibbfmjelaaShape
import Derived.Deep.RegionHeld3
namespace Go.Proofs.Ytggdkibbfmjelaa
open Go.RowKit
set_option linter.unusedVariables false
set_option linter.unusedSimpArgs false
def two {α : Type} (x y : α) (j : Nat) : α := if j = 0 then x else y
theorem oneB_two (wa ha : Int) (la : List Int) (wb hb : Int) (lb : List Int) : oneB (two wa wb) (two ha hb) (two la lb) 2 = sameB wa ha la wb hb lb := by
  have e : oneB (two wa wb) (two ha hb) (two la lb) 2 = (likeB (two wa wb) (two ha hb) (two la lb) 0 && likeB (two wa wb) (two ha hb) (two la lb) 1) := by
    unfold oneB
    rw [show List.range 2 = [0, 1] from rfl]
    simp
  have e0 : likeB (two wa wb) (two ha hb) (two la lb) 0 = goodB wa ha la := by unfold likeB two; simp
  have e1 : likeB (two wa wb) (two ha hb) (two la lb) 1 = (goodB wb hb lb && (decide (wa = wb) && decide (ha = hb))) := by
    unfold likeB two
    have h1 : decide (wb = wa) = decide (wa = wb) := by rw [decide_eq_decide]; omega
    have h2 : decide (hb = ha) = decide (ha = hb) := by rw [decide_eq_decide]; omega
    simp [h1, h2]
  rw [e, e0, e1]
  unfold sameB
  rw [Bool.and_assoc]
/-- two fields laid in a row of their own -/
theorem fldRow_two {w : World} {wa ha wb hb : Int} {aa ab : Option Addr} {la lb : List Int} {ca cb : Nat} (t : TypeId) (h1 : Ints .i64 w w.heap.size aa la) (h2 : Ints .i64 w w.heap.size ab lb) (n1 : la.length ≤ 1048576) (n2 : lb.length ≤ 1048576) :
    FldRow (w.alloc (.cells #[.int .i64 wa, .int .i64 ha, .slice aa la.length ca, .int .i64 wb, .int .i64 hb, .slice ab lb.length cb] t)) w.heap.size 2 (two wa wb) (two ha hb) (two aa ab) (two la lb) (two ca cb) := by
  have hn := heap_alloc_new w (.cells #[.int .i64 wa, .int .i64 ha, .slice aa la.length ca, .int .i64 wb, .int .i64 hb, .slice ab lb.length cb] t)
  have i1 := ints_alloc h1 (.cells #[.int .i64 wa, .int .i64 ha, .slice aa la.length ca, .int .i64 wb, .int .i64 hb, .slice ab lb.length cb] t)
  have i2 := ints_alloc h2 (.cells #[.int .i64 wa, .int .i64 ha, .slice aa la.length ca, .int .i64 wb, .int .i64 hb, .slice ab lb.length cb] t)
  have hs : w.heap.size < (w.alloc (.cells #[.int .i64 wa, .int .i64 ha, .slice aa la.length ca, .int .i64 wb, .int .i64 hb, .slice ab lb.length cb] t)).heap.size := by simp
  generalize w.alloc (.cells #[.int .i64 wa, .int .i64 ha, .slice aa la.length ca, .int .i64 wb, .int .i64 hb, .slice ab lb.length cb] t) = W at hn i1 i2 hs ⊢
  generalize w.heap.size = g at hn hs ⊢
  refine ⟨hs, fun j hj => ?_⟩
  have key : ∀ o, W.cell? ⟨g, o, none⟩ = #[Value.int .i64 wa, .int .i64 ha, .slice aa la.length ca, .int .i64 wb, .int .i64 hb, .slice ab lb.length cb][o]? := fun o => by simp [World.cell?, hn]
  rcases (by omega : j = 0 ∨ j = 1) with rfl | rfl
  · exact ⟨key 0, key 1, key 2, i1, n1⟩
  · exact ⟨key 3, key 4, key 5, i2, n2⟩
theorem row_ints {w w1 : World} {a : Option Addr} {l : List Int} (h : Ints .i64 w w.heap.size a l) (b : Below w.heap.size w w1) : Ints .i64 w1 w1.heap.size a l := ints_below h b
end Go.Proofs.Ytggdkibbfmjelaa
