/- The model's field algebra. -/
import Derived.Test.YtikglddifoalfaaDoorSame
import Derived.Test.YtikglddifoalfaaDoorSet
import Derived.Test.YtikglddifoalfaaDoorPair
import Derived.Deep.RegionHeld3
namespace Go.Proofs.YtikglddifoalfaaDoor
open Go.RowKit
set_option linter.unusedVariables false
set_option linter.unusedSimpArgs false
theorem one_val {f : Int → Int} {x : Int} (hf : ∀ x, -9000 ≤ x → x ≤ 9000 → -9000 ≤ f x ∧ f x ≤ 9000) (hx : cellB x = true) (h : ¬ x = -9999) : ofV (fun a _ => f a) x x = f x := by
  rcases cellB_iff.1 hx with h1 | h1
  · exact absurd h1 h
  · exact ofV_yes (by omega) (valB_iff.2 (hf x h1.1 h1.2))
end Go.Proofs.YtikglddifoalfaaDoor
