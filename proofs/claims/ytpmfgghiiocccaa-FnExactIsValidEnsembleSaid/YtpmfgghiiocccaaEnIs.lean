/- IsValidEnsemble, both programs. -/
import Derived.Test.YtpmfgghiiocccaaEnGood
namespace Go.Proofs.Ytpmfgghiiocccaa
open Go.RowKit
set_option linter.unusedVariables false
set_option linter.unusedSimpArgs false
theorem specIs_any (a : Option Addr) (es : List FE) (c : Nat) (w : World) (hl : Flds w w.heap.size a es) (hn : es.length ≤ 1048576) (hs : ∀ e ∈ es, e.l.length ≤ 1048576) :
    Calls Try.prog 14 #[.slice a es.length c] w fun e w' => e = .returned (.bool (enB (plains es))) ∧ Below w.heap.size w w' := by
  have HC := Lib.hid (specEn_is a es c _ w hl hn hs rfl)
  clear hl hs
  generalize enB (plains es) = v at *
  go_enter Try.func14, Try.ntmps14
  go_wp2_with (go_at_call 43; refine HC.out.mono ?_; rintro e w1 ⟨rfl, b1⟩; have HB := Lib.hid b1; clear b1)
  go_ret
  exact ⟨rfl, HB.out⟩
theorem implIs_any (g : Nat) (es : List FE) (c : Nat) (w : World) (hl : Flds w w.heap.size (some ⟨g, 0, none⟩) es) (hn : es.length ≤ 1048576) (hs : ∀ e ∈ es, e.l.length ≤ 1048576) :
    Calls Try.prog 16 #[.slice (some ⟨g, 0, none⟩) es.length c] w fun e w' => e = .returned (.bool (enB (plains es))) ∧ Below w.heap.size w w' :=
  implEn_is g es c _ w hl hn hs rfl
end Go.Proofs.Ytpmfgghiiocccaa
