/- The model's copy of a field, and its SetCell. -/
import Derived.Test.YtccplndimdmjpaaDoorMake
import Derived.Test.YtccplndimdmjpaaDoorHas
namespace Go.Proofs.YtccplndimdmjpaaDoor
open Go.RowKit
set_option linter.unusedVariables false
set_option linter.unusedSimpArgs false
def setR (wd hg : Int) (l : List Int) (x y v : Int) : Option (Int × Int × List Int) := if (goodB wd hg l && inB wd hg x y && cellB v) = true then some (wd, hg, l.set (place wd x y) v) else none
theorem setR_no {wd hg : Int} {l : List Int} {x y v : Int} (h : (goodB wd hg l && inB wd hg x y && cellB v) = false) : setR wd hg l x y v = none := if_neg (by rw [h]; simp)
theorem setR_yes {wd hg : Int} {l : List Int} {x y v : Int} (h : (goodB wd hg l && inB wd hg x y && cellB v) = true) : setR wd hg l x y v = some (wd, hg, l.set (place wd x y) v) := if_pos h
theorem setR_len (wd hg : Int) (l : List Int) (x y v : Int) : (rL (setR wd hg l x y v)).length ≤ 64 := by
  cases h : (goodB wd hg l && inB wd hg x y && cellB v) with
  | false => rw [setR_no h]; simp [rL]
  | true =>
    rw [setR_yes h]
    have hs : goodB wd hg l = true := by simp at h; exact h.1.1
    have := good_le hs
    simp [rL]; omega

end Go.Proofs.YtccplndimdmjpaaDoor
