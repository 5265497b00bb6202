/- Points of cells: pointAt, neighborsOf, cornersOf. -/
import Derived.Test.YtggdkibbfmjelaaRgnVal
import Derived.Test.YtggdkibbfmjelaaPSet
import Derived.Test.YtggdkibbfmjelaaMake
import Derived.RegionTactic
namespace Go.Proofs.Ytggdkibbfmjelaa
open Go.RowKit
set_option linter.unusedVariables false
set_option linter.unusedSimpArgs false
set_option maxHeartbeats 1000000 in
theorem pointAt_any (wd i : Int) (w : World) (h1 : 1 ≤ wd) (h2 : wd ≤ 8) (h3 : 0 ≤ i) (h4 : i ≤ 64) :
    Calls Try.prog 62 #[.int .i64 wd, .int .i64 i] w fun e w' => e = .returned (.agg #[.int .i64 (i % wd), .int .i64 (i / wd)]) ∧ Below w.heap.size w w' := by
  have hne : ¬ wd = 0 := by omega
  go_enter Try.func62, Try.ntmps62
  go_wp2
  go_region
  all_goals go_wp2
  all_goals refine bodyPost_ret (v := .agg #[.int .i64 (i % wd), .int .i64 (i / wd)]) (by simp [results, Try.results62, go_sem]) rfl ⟨rfl, ?_⟩
  all_goals exact (below_all _ _).drew
theorem below_drewN {B : Nat} {w w' : World} (h : Below B w w') (n : Nat) : Below B w (w'.drewN n) := ⟨h.os, h.tape, h.output, h.size, h.block⟩
end Go.Proofs.Ytggdkibbfmjelaa
