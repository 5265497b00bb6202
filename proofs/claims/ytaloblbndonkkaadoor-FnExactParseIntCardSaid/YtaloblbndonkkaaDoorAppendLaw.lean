/- FnExactAppendChecksum: model and program seal a text alike. -/
import Derived.Test.YtaloblbndonkkaaDoorSeal
namespace Go.Proofs.YtaloblbndonkkaaDoor
open Go.RowKit
set_option linter.unusedVariables false
theorem Tab.drew {w w' : World} (h : Tab w) (d : Drew w w') : Tab w' := by obtain ⟨k, rfl⟩ := d; exact h
theorem tab_global : Tryd.prog.globalNamed "internal/strconv.uint64pow10" = some 3 := by kernel_rfl
theorem Tab.below {w w' : World} (h : Tab w) (hb : Below w.heap.size w w') : Tab w' := by
  unfold Tab Lib.TabIs World.var? at *
  rw [tab_global] at *
  simp only [Option.bind_some] at *
  rcases Nat.lt_or_ge 3 w.heap.size with hlt | hge
  · rw [hb.block _ hlt]; exact h
  · rw [Array.getElem?_eq_none hge] at h; cases h
set_option maxHeartbeats 400000 in
theorem append_walk (s : ByteArray) (w : World) (hs : s.size ≤ maxLen) (ht : Tab w) :
    Calls Tryd.prog 6 #[.string s] w fun e w' => e = .returned (.bool true) ∧ Below w.heap.size w w' := by
  by_cases h0 : 1048576 < s.size
  · unfold maxLen at hs
    clear ht
    go_enter Tryd.func6, Tryd.ntmps6
    go_wp2
    go_ret
    exact ⟨rfl, Below.refl _ _⟩
  · have HS := Lib.hid (specAppend_any s w (by omega))
    have HT := Lib.hid ht
    have HM := Lib.hid hs
    clear ht hs
    go_enter Tryd.func6, Tryd.ntmps6
    go_wp2_with fail
    refine HS.out.mono ?_
    rintro e w1 ⟨rfl, d1⟩
    have HD := Lib.hid d1
    clear d1
    have HI := Lib.hid (implAppend_any s w1 HM.out (HT.out.drew HD.out))
    go_wp2_with fail
    refine HI.out.mono ?_
    rintro e w2 ⟨rfl, b2⟩
    have HB := Lib.hid b2
    clear b2 HI HS HT
    generalize apS s = fs
    generalize apB s = fb
    go_wp2
    go_ret
    exact ⟨rfl, (HD.out.below _).trans (HB.out.mono (by rw [HD.out.size]; omega))⟩
end Go.Proofs.YtaloblbndonkkaaDoor
