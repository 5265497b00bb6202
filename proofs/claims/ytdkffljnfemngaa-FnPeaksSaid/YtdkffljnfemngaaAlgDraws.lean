/- The draws of FnAlgebra: DrawCombine, DrawScaleField. -/
import Derived.Test.YtdkffljnfemngaaFieldDraws
import Derived.Deep.DeepCutAuto
import Derived.Deep.RegionHeld3
namespace Go.Proofs.Ytdkffljnfemngaa
open Go.RowKit
set_option linter.unusedVariables false
set_option linter.unusedSimpArgs false
theorem lit_at {W : World} (L : List Int) {q : Nat} (h : W.heap.size = q) : ∀ k (hk : k < L.length), (W.alloc (.cells (L.map (Value.int .i64)).toArray 3)).cell? ⟨q, k, none⟩ = some (.int .i64 L[k]) := by
  subst h
  intro k hk
  exact lit_ints W L 3 k hk
end Go.Proofs.Ytdkffljnfemngaa
