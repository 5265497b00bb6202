/- pairwise: what a rule makes of the elements of two rows. -/
import Derived.Test.YtggdkibbfmjelaaAlgRule
import Derived.Test.YtggdkibbfmjelaaLate
namespace Go.Proofs.Ytggdkibbfmjelaa
open Go.RowKit
set_option linter.unusedVariables false
set_option linter.unusedSimpArgs false
theorem cell_other {w : World} {g k b o : Nat} {v u : Value} (h : w.cell? ⟨b, o, none⟩ = some v) (hb : b ≠ g) : (w.setCell ⟨g, k, none⟩ u).cell? ⟨b, o, none⟩ = some v :=
  (World.cell?_of_block (Below.heap_setCell w ⟨g, k, none⟩ u b hb)).trans h
/-- the row of numbers, k of them made -/
def madeI (L : List Int) (k j : Nat) : Value := .int .i64 (if j < k then L.getD j 0 else 0)
theorem madeI_step (L : List Int) (k : Nat) (v : Int) (h : k < L.length) (e : v = L[k]) (j : Nat) : (if j = k then Value.int .i64 v else madeI L k j) = madeI L (k + 1) j := by
  subst e
  unfold madeI
  by_cases e : j = k
  · subst e; simp [h]
  · rw [if_neg e]
    by_cases e2 : j < k
    · rw [if_pos e2, if_pos (by omega)]
    · rw [if_neg e2, if_neg (by omega)]
theorem madeI_all (L : List Int) (n : Nat) (hn : L.length ≤ n) (k : Nat) (h : k < L.length) : madeI L n k = .int .i64 L[k] := by
  unfold madeI
  rw [if_pos (by omega)]
  simp [h]
end Go.Proofs.Ytggdkibbfmjelaa
