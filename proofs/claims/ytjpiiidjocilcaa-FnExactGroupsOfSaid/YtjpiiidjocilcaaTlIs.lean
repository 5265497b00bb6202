/- IsValidTally, the model's. -/
import Derived.Test.YtjpiiidjocilcaaTlGood
namespace Go.Proofs.Ytjpiiidjocilcaa
open Go.RowKit
set_option linter.unusedVariables false
set_option linter.unusedSimpArgs false
theorem specTlIs_any (a b : Option Addr) (l r : List Int) (c d : Nat) (w : World) (hl : Ints .i64 w w.heap.size a l) (hr : Ints .i64 w w.heap.size b r) :
    Calls Try.prog 14 #[.agg #[.slice a l.length c, .slice b r.length d]] w fun e w' => e = .returned (.bool (tlB l r)) ∧ Below w.heap.size w w' := by
  have HC := Lib.hid (specTl_is a b l r c d _ _ (ints_alloc hl (.cells #[.slice a l.length c, .slice b r.length d] 27)) (ints_alloc hr _) rfl)
  clear hl hr
  generalize tlB l r = v at *
  go_enter Try.func14, Try.ntmps14
  go_wp2_with (go_at_call 54; refine HC.out.mono ?_; rintro e w1 ⟨rfl, b1⟩; have HB := Lib.hid b1; clear b1)
  go_ret
  exact ⟨rfl, below_then (below_all _ _) HB.out⟩
end Go.Proofs.Ytjpiiidjocilcaa
