/- The table of powers stands where what lay stands. -/
import Derived.Test.YtgfgimpglaepaabDoorFormat
namespace Go.Proofs.YtgfgimpglaepaabDoor
open Go.RowKit
theorem Tab.drew {w w' : World} (h : Tab w) (d : Drew w w') : Tab w' := by obtain ⟨k, rfl⟩ := d; exact h
theorem tab_global : Tryd.prog.globalNamed "internal/strconv.uint64pow10" = some 1 := by kernel_rfl
theorem Tab.below {w w' : World} (h : Tab w) (hb : Below w.heap.size w w') : Tab w' := by
  unfold Tab Lib.TabIs World.var? at *
  rw [tab_global] at *
  simp only [Option.bind_some] at *
  rcases Nat.lt_or_ge 1 w.heap.size with hlt | hge
  · rw [hb.block _ hlt]; exact h
  · rw [Array.getElem?_eq_none hge] at h; cases h
end Go.Proofs.YtgfgimpglaepaabDoor
