/- FnExactParseInt: model and program read a text alike. -/
import Derived.Test.YtaloblbndonkkaaDoorParse
import Derived.Test.YtaloblbndonkkaaDoorRead
namespace Go.Proofs.YtaloblbndonkkaaDoor
open Go.RowKit
set_option linter.unusedVariables false
theorem Errs.drew {w w' : World} (h : Errs w) (d : Drew w w') : Errs w' := by obtain ⟨k, rfl⟩ := d; exact h
set_option maxHeartbeats 400000 in
theorem parse_walk (s : ByteArray) (w : World) (hs : s.size ≤ maxLen) (ht : Tab w) (he : Errs w) :
    Calls Tryd.prog 5 #[.string s] w fun e w' => e = .returned (.bool true) ∧ Below w.heap.size w w' := by
  by_cases h0 : 1048576 < s.size
  · unfold maxLen at hs
    clear ht he
    go_enter Tryd.func5, Tryd.ntmps5
    go_wp2
    go_ret
    exact ⟨rfl, Below.refl _ _⟩
  · have HS := Lib.hid (specParse_any s w (by omega))
    have HT := Lib.hid ht
    have HE := Lib.hid he
    clear ht hs he
    go_enter Tryd.func5, Tryd.ntmps5
    go_wp2_with fail
    refine HS.out.mono ?_
    rintro e w1 ⟨rfl, d1⟩
    have HD := Lib.hid d1
    clear d1
    have HI := Lib.hid (implParse_any s w1 (by omega) (HT.out.drew HD.out) (HE.out.drew HD.out))
    go_wp2_with fail
    refine HI.out.mono ?_
    rintro e w2 ⟨rfl, b2⟩
    have HB := Lib.hid b2
    clear b2 HI HS HT HE
    generalize pN s = fs
    generalize pB s = fb
    go_wp2
    go_ret
    exact ⟨rfl, (HD.out.below _).trans (HB.out.mono (by rw [HD.out.size]; omega))⟩
end Go.Proofs.YtaloblbndonkkaaDoor
