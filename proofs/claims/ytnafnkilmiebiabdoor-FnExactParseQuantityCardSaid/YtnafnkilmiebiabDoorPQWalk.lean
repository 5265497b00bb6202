/- FnExactParseQuantity: the walk of the law. -/
import Derived.Test.YtnafnkilmiebiabDoorPQSpec
namespace Go.Proofs.YtnafnkilmiebiabDoor
open Go.RowKit
set_option linter.unusedVariables false
theorem pqV_form (s : ByteArray) : ∃ x u b, pqV s = .tuple #[.int .i64 x, .int .i64 u, .bool b] := by
  unfold pqV
  split
  · exact ⟨_, _, _, rfl⟩
  · exact ⟨_, _, _, rfl⟩

set_option maxHeartbeats 1000000 in
theorem walk_ParseQuantity (s : ByteArray) (w : World) (hs : s.size ≤ maxLen) (hu : UTab w) (ht : Tab w) (he : Errs w) :
    Calls Tryd.prog 7 #[.string s] w fun e w' => e = .returned (.bool true) ∧ Below w.heap.size w w' := by
  unfold maxLen at hs
  by_cases h0 : 1048576 < s.size
  · clear hu ht he
    go_enter Tryd.func7, Tryd.ntmps7
    go_wp2
    go_ret
    exact ⟨rfl, Below.refl _ _⟩
  · have H1 := Lib.hid (fun W => specPQ_any s W (by omega))
    have H2 := Lib.hid (fun W (h : Below w.heap.size w W) => implPQ_any s W (by omega) (ht.below h) (he.below h) (hu.below h))
    obtain ⟨x, u, b, hv⟩ := pqV_form s
    rw [hv] at H1 H2
    clear hu ht he hv
    go_enter Tryd.func7, Tryd.ntmps7
    go_wp2_with fail
    refine (H1.out _).mono ?_
    rintro e w1 ⟨rfl, b1⟩
    have HB1 := Lib.hid b1
    clear b1
    go_wp2_with fail
    refine (H2.out _ HB1.out).mono ?_
    rintro e w2 ⟨rfl, b2⟩
    have HB2 := Lib.hid b2
    clear b2
    go_wp2
    go_ret
    exact ⟨rfl, below_then HB1.out HB2.out⟩
end Go.Proofs.YtnafnkilmiebiabDoor
