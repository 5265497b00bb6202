/-
  No cell of these rows narrows 'for every input' (looked for: loops, veiled, ifaces, maps, wideKeys, modest, calm, conditions, laid).
  DERIVED. THE GIVEN ROWS OF THIS SEAT. 11 by the template 'for every input the law returns true; each argument reads behind the call as it read before'; 0 by the template 'total and deterministic' (their statements: YtdkffljnfemngaaTotals.lean).
  GIVEN WITH THE SEED: the statements are not yours to turn. If you find one false, say at which input.
  Laid BY PROGRAM, IN A SANDBOX (cutbox-rows.mjs): the forced cells as the released guide's own fill.sh prints them over the translation 6e07a007cbcb20df… (all of the seat's roots in one cut). By AI agents, Wed Nov 11 2026. No macro, syntax, notation, axiom, sorry.
-/
import Derived.Test.YtdkffljnfemngaaChecked
import GoSem.Claim
import GoSem.ClaimJoined
import GoSem.ClaimMapViews
import Derived.JoinedTies
import Derived.KernelRfl
namespace Go.Proofs.Ytdkffljnfemngaa
/- THE CELL 'sum', in the pinned program and in every row, IS THE sha256 OF THE DUMP (.gsa) THAT YtdkffljnfemngaaProg.lean LOADS. Nothing in Lean hashes anything: it is a label: what it is worth is what the hold of that sum in a sandbox is worth. -/
noncomputable def Try.pinned : Pinned := { name := "ytdkffljnfemngaa", sum := "6e07a007cbcb20df510c8f5e2bcf9f5a49db1bde4e0b972426fb4d49a0add363", checked := Try.checked }
namespace Rows
def none {H : Type} : Left H := { results := [], args := [] }

/-- 'laws.FnFilters': WHATEVER THE INPUT: true; the input reads as it did. -/
def fnFiltersSpec : ChangeSpec := { name := "fnFilters", fn := fun _ => fun
  | [d] => { results := [.lit (.bool true)], args := [d] }
  | _ => none }
def fnFiltersRow : OpenClaim := { program := "ytdkffljnfemngaa", sum := "6e07a007cbcb20df510c8f5e2bcf9f5a49db1bde4e0b972426fb4d49a0add363", func := "loop.example/g00889/laws.FnFilters", spec := "fnFilters", unfollowed := true, recurses := true, apart := false }
def FnFiltersSaid : Prop := fnFiltersRow.holds Try.pinned (OpenSpec.ofChange fnFiltersSpec)

/-- ITS FALSE NEIGHBOUR: 'it returns false'. Refute it at one input. -/
def fnFiltersWrong : ChangeSpec := { name := "fnFilters", fn := fun _ => fun
  | [d] => { results := [.lit (.bool false)], args := [d] }
  | _ => none }
def FnFiltersWrongFalsely : Prop := fnFiltersRow.holds Try.pinned (OpenSpec.ofChange fnFiltersWrong)

/-- 'laws.FnPeaks': WHATEVER THE INPUT: true; the input reads as it did. -/
def fnPeaksSpec : ChangeSpec := { name := "fnPeaks", fn := fun _ => fun
  | [d] => { results := [.lit (.bool true)], args := [d] }
  | _ => none }
def fnPeaksRow : OpenClaim := { program := "ytdkffljnfemngaa", sum := "6e07a007cbcb20df510c8f5e2bcf9f5a49db1bde4e0b972426fb4d49a0add363", func := "loop.example/g00889/laws.FnPeaks", spec := "fnPeaks", unfollowed := true, recurses := true, apart := false }
def FnPeaksSaid : Prop := fnPeaksRow.holds Try.pinned (OpenSpec.ofChange fnPeaksSpec)

/-- ITS FALSE NEIGHBOUR: 'it returns false'. Refute it at one input. -/
def fnPeaksWrong : ChangeSpec := { name := "fnPeaks", fn := fun _ => fun
  | [d] => { results := [.lit (.bool false)], args := [d] }
  | _ => none }
def FnPeaksWrongFalsely : Prop := fnPeaksRow.holds Try.pinned (OpenSpec.ofChange fnPeaksWrong)

/-- 'laws.FnExactMaximumFilter': WHATEVER THE INPUT: true; the input reads as it did. -/
def fnExactMaximumFilterSpec : ChangeSpec := { name := "fnExactMaximumFilter", fn := fun _ => fun
  | [d1, d2] => { results := [.lit (.bool true)], args := [d1, d2] }
  | _ => none }
def fnExactMaximumFilterRow : OpenClaim := { program := "ytdkffljnfemngaa", sum := "6e07a007cbcb20df510c8f5e2bcf9f5a49db1bde4e0b972426fb4d49a0add363", func := "loop.example/g00889/laws.FnExactMaximumFilter", spec := "fnExactMaximumFilter", unfollowed := true, recurses := true, apart := false }
def FnExactMaximumFilterSaid : Prop := fnExactMaximumFilterRow.holds Try.pinned (OpenSpec.ofChange fnExactMaximumFilterSpec)

/-- ITS FALSE NEIGHBOUR: 'it returns false'. Refute it at one input. -/
def fnExactMaximumFilterWrong : ChangeSpec := { name := "fnExactMaximumFilter", fn := fun _ => fun
  | [d1, d2] => { results := [.lit (.bool false)], args := [d1, d2] }
  | _ => none }
def FnExactMaximumFilterWrongFalsely : Prop := fnExactMaximumFilterRow.holds Try.pinned (OpenSpec.ofChange fnExactMaximumFilterWrong)

/-- 'laws.FnExactMinimumFilter': WHATEVER THE INPUT: true; the input reads as it did. -/
def fnExactMinimumFilterSpec : ChangeSpec := { name := "fnExactMinimumFilter", fn := fun _ => fun
  | [d1, d2] => { results := [.lit (.bool true)], args := [d1, d2] }
  | _ => none }
def fnExactMinimumFilterRow : OpenClaim := { program := "ytdkffljnfemngaa", sum := "6e07a007cbcb20df510c8f5e2bcf9f5a49db1bde4e0b972426fb4d49a0add363", func := "loop.example/g00889/laws.FnExactMinimumFilter", spec := "fnExactMinimumFilter", unfollowed := true, recurses := true, apart := false }
def FnExactMinimumFilterSaid : Prop := fnExactMinimumFilterRow.holds Try.pinned (OpenSpec.ofChange fnExactMinimumFilterSpec)

/-- ITS FALSE NEIGHBOUR: 'it returns false'. Refute it at one input. -/
def fnExactMinimumFilterWrong : ChangeSpec := { name := "fnExactMinimumFilter", fn := fun _ => fun
  | [d1, d2] => { results := [.lit (.bool false)], args := [d1, d2] }
  | _ => none }
def FnExactMinimumFilterWrongFalsely : Prop := fnExactMinimumFilterRow.holds Try.pinned (OpenSpec.ofChange fnExactMinimumFilterWrong)

/-- 'laws.FnExactMeanFilter': WHATEVER THE INPUT: true; the input reads as it did. -/
def fnExactMeanFilterSpec : ChangeSpec := { name := "fnExactMeanFilter", fn := fun _ => fun
  | [d1, d2] => { results := [.lit (.bool true)], args := [d1, d2] }
  | _ => none }
def fnExactMeanFilterRow : OpenClaim := { program := "ytdkffljnfemngaa", sum := "6e07a007cbcb20df510c8f5e2bcf9f5a49db1bde4e0b972426fb4d49a0add363", func := "loop.example/g00889/laws.FnExactMeanFilter", spec := "fnExactMeanFilter", unfollowed := true, recurses := true, apart := false }
def FnExactMeanFilterSaid : Prop := fnExactMeanFilterRow.holds Try.pinned (OpenSpec.ofChange fnExactMeanFilterSpec)

/-- ITS FALSE NEIGHBOUR: 'it returns false'. Refute it at one input. -/
def fnExactMeanFilterWrong : ChangeSpec := { name := "fnExactMeanFilter", fn := fun _ => fun
  | [d1, d2] => { results := [.lit (.bool false)], args := [d1, d2] }
  | _ => none }
def FnExactMeanFilterWrongFalsely : Prop := fnExactMeanFilterRow.holds Try.pinned (OpenSpec.ofChange fnExactMeanFilterWrong)

/-- 'laws.FnExactMedianFilter': WHATEVER THE INPUT: true; the input reads as it did. -/
def fnExactMedianFilterSpec : ChangeSpec := { name := "fnExactMedianFilter", fn := fun _ => fun
  | [d1, d2] => { results := [.lit (.bool true)], args := [d1, d2] }
  | _ => none }
def fnExactMedianFilterRow : OpenClaim := { program := "ytdkffljnfemngaa", sum := "6e07a007cbcb20df510c8f5e2bcf9f5a49db1bde4e0b972426fb4d49a0add363", func := "loop.example/g00889/laws.FnExactMedianFilter", spec := "fnExactMedianFilter", unfollowed := true, recurses := true, apart := false }
def FnExactMedianFilterSaid : Prop := fnExactMedianFilterRow.holds Try.pinned (OpenSpec.ofChange fnExactMedianFilterSpec)

/-- ITS FALSE NEIGHBOUR: 'it returns false'. Refute it at one input. -/
def fnExactMedianFilterWrong : ChangeSpec := { name := "fnExactMedianFilter", fn := fun _ => fun
  | [d1, d2] => { results := [.lit (.bool false)], args := [d1, d2] }
  | _ => none }
def FnExactMedianFilterWrongFalsely : Prop := fnExactMedianFilterRow.holds Try.pinned (OpenSpec.ofChange fnExactMedianFilterWrong)

/-- 'laws.FnExactCoverageFilter': WHATEVER THE INPUT: true; the input reads as it did. -/
def fnExactCoverageFilterSpec : ChangeSpec := { name := "fnExactCoverageFilter", fn := fun _ => fun
  | [d1, d2, d3] => { results := [.lit (.bool true)], args := [d1, d2, d3] }
  | _ => none }
def fnExactCoverageFilterRow : OpenClaim := { program := "ytdkffljnfemngaa", sum := "6e07a007cbcb20df510c8f5e2bcf9f5a49db1bde4e0b972426fb4d49a0add363", func := "loop.example/g00889/laws.FnExactCoverageFilter", spec := "fnExactCoverageFilter", unfollowed := true, recurses := true, apart := false }
def FnExactCoverageFilterSaid : Prop := fnExactCoverageFilterRow.holds Try.pinned (OpenSpec.ofChange fnExactCoverageFilterSpec)

/-- ITS FALSE NEIGHBOUR: 'it returns false'. Refute it at one input. -/
def fnExactCoverageFilterWrong : ChangeSpec := { name := "fnExactCoverageFilter", fn := fun _ => fun
  | [d1, d2, d3] => { results := [.lit (.bool false)], args := [d1, d2, d3] }
  | _ => none }
def FnExactCoverageFilterWrongFalsely : Prop := fnExactCoverageFilterRow.holds Try.pinned (OpenSpec.ofChange fnExactCoverageFilterWrong)

/-- 'laws.FnExactFillByMean': WHATEVER THE INPUT: true; the input reads as it did. -/
def fnExactFillByMeanSpec : ChangeSpec := { name := "fnExactFillByMean", fn := fun _ => fun
  | [d1, d2] => { results := [.lit (.bool true)], args := [d1, d2] }
  | _ => none }
def fnExactFillByMeanRow : OpenClaim := { program := "ytdkffljnfemngaa", sum := "6e07a007cbcb20df510c8f5e2bcf9f5a49db1bde4e0b972426fb4d49a0add363", func := "loop.example/g00889/laws.FnExactFillByMean", spec := "fnExactFillByMean", unfollowed := true, recurses := true, apart := false }
def FnExactFillByMeanSaid : Prop := fnExactFillByMeanRow.holds Try.pinned (OpenSpec.ofChange fnExactFillByMeanSpec)

/-- ITS FALSE NEIGHBOUR: 'it returns false'. Refute it at one input. -/
def fnExactFillByMeanWrong : ChangeSpec := { name := "fnExactFillByMean", fn := fun _ => fun
  | [d1, d2] => { results := [.lit (.bool false)], args := [d1, d2] }
  | _ => none }
def FnExactFillByMeanWrongFalsely : Prop := fnExactFillByMeanRow.holds Try.pinned (OpenSpec.ofChange fnExactFillByMeanWrong)

/-- 'laws.FnExactPeakCells': WHATEVER THE INPUT: true; the input reads as it did. -/
def fnExactPeakCellsSpec : ChangeSpec := { name := "fnExactPeakCells", fn := fun _ => fun
  | [d1, d2] => { results := [.lit (.bool true)], args := [d1, d2] }
  | _ => none }
def fnExactPeakCellsRow : OpenClaim := { program := "ytdkffljnfemngaa", sum := "6e07a007cbcb20df510c8f5e2bcf9f5a49db1bde4e0b972426fb4d49a0add363", func := "loop.example/g00889/laws.FnExactPeakCells", spec := "fnExactPeakCells", unfollowed := true, recurses := true, apart := false }
def FnExactPeakCellsSaid : Prop := fnExactPeakCellsRow.holds Try.pinned (OpenSpec.ofChange fnExactPeakCellsSpec)

/-- ITS FALSE NEIGHBOUR: 'it returns false'. Refute it at one input. -/
def fnExactPeakCellsWrong : ChangeSpec := { name := "fnExactPeakCells", fn := fun _ => fun
  | [d1, d2] => { results := [.lit (.bool false)], args := [d1, d2] }
  | _ => none }
def FnExactPeakCellsWrongFalsely : Prop := fnExactPeakCellsRow.holds Try.pinned (OpenSpec.ofChange fnExactPeakCellsWrong)

/-- 'laws.FnExactRepeatMaximum': WHATEVER THE INPUT: true; the input reads as it did. -/
def fnExactRepeatMaximumSpec : ChangeSpec := { name := "fnExactRepeatMaximum", fn := fun _ => fun
  | [d1, d2, d3] => { results := [.lit (.bool true)], args := [d1, d2, d3] }
  | _ => none }
def fnExactRepeatMaximumRow : OpenClaim := { program := "ytdkffljnfemngaa", sum := "6e07a007cbcb20df510c8f5e2bcf9f5a49db1bde4e0b972426fb4d49a0add363", func := "loop.example/g00889/laws.FnExactRepeatMaximum", spec := "fnExactRepeatMaximum", unfollowed := true, recurses := true, apart := false }
def FnExactRepeatMaximumSaid : Prop := fnExactRepeatMaximumRow.holds Try.pinned (OpenSpec.ofChange fnExactRepeatMaximumSpec)

/-- ITS FALSE NEIGHBOUR: 'it returns false'. Refute it at one input. -/
def fnExactRepeatMaximumWrong : ChangeSpec := { name := "fnExactRepeatMaximum", fn := fun _ => fun
  | [d1, d2, d3] => { results := [.lit (.bool false)], args := [d1, d2, d3] }
  | _ => none }
def FnExactRepeatMaximumWrongFalsely : Prop := fnExactRepeatMaximumRow.holds Try.pinned (OpenSpec.ofChange fnExactRepeatMaximumWrong)

/-- 'laws.FnExactSmoothChange': WHATEVER THE INPUT: true; the input reads as it did. -/
def fnExactSmoothChangeSpec : ChangeSpec := { name := "fnExactSmoothChange", fn := fun _ => fun
  | [d1, d2] => { results := [.lit (.bool true)], args := [d1, d2] }
  | _ => none }
def fnExactSmoothChangeRow : OpenClaim := { program := "ytdkffljnfemngaa", sum := "6e07a007cbcb20df510c8f5e2bcf9f5a49db1bde4e0b972426fb4d49a0add363", func := "loop.example/g00889/laws.FnExactSmoothChange", spec := "fnExactSmoothChange", unfollowed := true, recurses := true, apart := false }
def FnExactSmoothChangeSaid : Prop := fnExactSmoothChangeRow.holds Try.pinned (OpenSpec.ofChange fnExactSmoothChangeSpec)

/-- ITS FALSE NEIGHBOUR: 'it returns false'. Refute it at one input. -/
def fnExactSmoothChangeWrong : ChangeSpec := { name := "fnExactSmoothChange", fn := fun _ => fun
  | [d1, d2] => { results := [.lit (.bool false)], args := [d1, d2] }
  | _ => none }
def FnExactSmoothChangeWrongFalsely : Prop := fnExactSmoothChangeRow.holds Try.pinned (OpenSpec.ofChange fnExactSmoothChangeWrong)

/- THE SECOND FORM. 'bulk': how many values and letters a reading holds, each counted each time it is reached (what is shared counts as often as it is met; a slice's spare places count too). A statement '..UptoSaid' is the law's where the arguments, and the package variables that the reading takes, are together of bulk at most 1048576: NARROWER than '..Said'. Prove '..Said' where nothing that the law and all that it calls make is longer than what came in: it says more and counts as full. Else prove '..UptoSaid'. A law counts once. -/
mutual
def uptoBulk {H : Type} : DataW H → Nat
  | .lit (.string bytes) => bytes.length + 1
  | .lit _ => 1
  | .nil => 1
  | .ptr d => uptoBulk d + 1
  | .slice elems spare => uptoBulkAll elems + uptoBulkAll spare + 1
  | .agg parts => uptoBulkAll parts + 1
  | .iface _ d => uptoBulk d + 1
  | .map entries => uptoBulkEntries entries + 1
  | .held _ => 1
def uptoBulkAll {H : Type} : List (DataW H) → Nat
  | [] => 0
  | d :: r => uptoBulk d + uptoBulkAll r
def uptoBulkEntries {H : Type} : List (Lit × DataW H) → Nat
  | [] => 0
  | x :: r => uptoBulkEntry x + uptoBulkEntries r
def uptoBulkEntry {H : Type} : Lit × DataW H → Nat
  | (.string bytes, d) => bytes.length + uptoBulk d + 1
  | (_, d) => uptoBulk d + 1
 end
def uptoSmall : (H : Type) → List (DataW H) → Bool := fun _ ds => decide (uptoBulkAll ds ≤ 1048576)
def OpenSpec.upto (s : _root_.Go.ChangeSpec) : _root_.Go.OpenSpec := { _root_.Go.OpenSpec.ofChange s with cond := some uptoSmall }

/-- 'laws.FnFilters', WHERE WHAT IT READS IS OF BULK AT MOST 1048576: true; the input reads as it did. -/
def fnFiltersUptoRow : OpenClaim := { program := "ytdkffljnfemngaa", sum := "6e07a007cbcb20df510c8f5e2bcf9f5a49db1bde4e0b972426fb4d49a0add363", func := "loop.example/g00889/laws.FnFilters", spec := "fnFilters", unfollowed := true, recurses := true, apart := false, narrowed := true }
def FnFiltersUptoSaid : Prop := fnFiltersUptoRow.holds Try.pinned (OpenSpec.upto fnFiltersSpec)

/-- 'laws.FnPeaks', WHERE WHAT IT READS IS OF BULK AT MOST 1048576: true; the input reads as it did. -/
def fnPeaksUptoRow : OpenClaim := { program := "ytdkffljnfemngaa", sum := "6e07a007cbcb20df510c8f5e2bcf9f5a49db1bde4e0b972426fb4d49a0add363", func := "loop.example/g00889/laws.FnPeaks", spec := "fnPeaks", unfollowed := true, recurses := true, apart := false, narrowed := true }
def FnPeaksUptoSaid : Prop := fnPeaksUptoRow.holds Try.pinned (OpenSpec.upto fnPeaksSpec)

/-- 'laws.FnExactMaximumFilter', WHERE WHAT IT READS IS OF BULK AT MOST 1048576: true; the input reads as it did. -/
def fnExactMaximumFilterUptoRow : OpenClaim := { program := "ytdkffljnfemngaa", sum := "6e07a007cbcb20df510c8f5e2bcf9f5a49db1bde4e0b972426fb4d49a0add363", func := "loop.example/g00889/laws.FnExactMaximumFilter", spec := "fnExactMaximumFilter", unfollowed := true, recurses := true, apart := false, narrowed := true }
def FnExactMaximumFilterUptoSaid : Prop := fnExactMaximumFilterUptoRow.holds Try.pinned (OpenSpec.upto fnExactMaximumFilterSpec)

/-- 'laws.FnExactMinimumFilter', WHERE WHAT IT READS IS OF BULK AT MOST 1048576: true; the input reads as it did. -/
def fnExactMinimumFilterUptoRow : OpenClaim := { program := "ytdkffljnfemngaa", sum := "6e07a007cbcb20df510c8f5e2bcf9f5a49db1bde4e0b972426fb4d49a0add363", func := "loop.example/g00889/laws.FnExactMinimumFilter", spec := "fnExactMinimumFilter", unfollowed := true, recurses := true, apart := false, narrowed := true }
def FnExactMinimumFilterUptoSaid : Prop := fnExactMinimumFilterUptoRow.holds Try.pinned (OpenSpec.upto fnExactMinimumFilterSpec)

/-- 'laws.FnExactMeanFilter', WHERE WHAT IT READS IS OF BULK AT MOST 1048576: true; the input reads as it did. -/
def fnExactMeanFilterUptoRow : OpenClaim := { program := "ytdkffljnfemngaa", sum := "6e07a007cbcb20df510c8f5e2bcf9f5a49db1bde4e0b972426fb4d49a0add363", func := "loop.example/g00889/laws.FnExactMeanFilter", spec := "fnExactMeanFilter", unfollowed := true, recurses := true, apart := false, narrowed := true }
def FnExactMeanFilterUptoSaid : Prop := fnExactMeanFilterUptoRow.holds Try.pinned (OpenSpec.upto fnExactMeanFilterSpec)

/-- 'laws.FnExactMedianFilter', WHERE WHAT IT READS IS OF BULK AT MOST 1048576: true; the input reads as it did. -/
def fnExactMedianFilterUptoRow : OpenClaim := { program := "ytdkffljnfemngaa", sum := "6e07a007cbcb20df510c8f5e2bcf9f5a49db1bde4e0b972426fb4d49a0add363", func := "loop.example/g00889/laws.FnExactMedianFilter", spec := "fnExactMedianFilter", unfollowed := true, recurses := true, apart := false, narrowed := true }
def FnExactMedianFilterUptoSaid : Prop := fnExactMedianFilterUptoRow.holds Try.pinned (OpenSpec.upto fnExactMedianFilterSpec)

/-- 'laws.FnExactCoverageFilter', WHERE WHAT IT READS IS OF BULK AT MOST 1048576: true; the input reads as it did. -/
def fnExactCoverageFilterUptoRow : OpenClaim := { program := "ytdkffljnfemngaa", sum := "6e07a007cbcb20df510c8f5e2bcf9f5a49db1bde4e0b972426fb4d49a0add363", func := "loop.example/g00889/laws.FnExactCoverageFilter", spec := "fnExactCoverageFilter", unfollowed := true, recurses := true, apart := false, narrowed := true }
def FnExactCoverageFilterUptoSaid : Prop := fnExactCoverageFilterUptoRow.holds Try.pinned (OpenSpec.upto fnExactCoverageFilterSpec)

/-- 'laws.FnExactFillByMean', WHERE WHAT IT READS IS OF BULK AT MOST 1048576: true; the input reads as it did. -/
def fnExactFillByMeanUptoRow : OpenClaim := { program := "ytdkffljnfemngaa", sum := "6e07a007cbcb20df510c8f5e2bcf9f5a49db1bde4e0b972426fb4d49a0add363", func := "loop.example/g00889/laws.FnExactFillByMean", spec := "fnExactFillByMean", unfollowed := true, recurses := true, apart := false, narrowed := true }
def FnExactFillByMeanUptoSaid : Prop := fnExactFillByMeanUptoRow.holds Try.pinned (OpenSpec.upto fnExactFillByMeanSpec)

/-- 'laws.FnExactPeakCells', WHERE WHAT IT READS IS OF BULK AT MOST 1048576: true; the input reads as it did. -/
def fnExactPeakCellsUptoRow : OpenClaim := { program := "ytdkffljnfemngaa", sum := "6e07a007cbcb20df510c8f5e2bcf9f5a49db1bde4e0b972426fb4d49a0add363", func := "loop.example/g00889/laws.FnExactPeakCells", spec := "fnExactPeakCells", unfollowed := true, recurses := true, apart := false, narrowed := true }
def FnExactPeakCellsUptoSaid : Prop := fnExactPeakCellsUptoRow.holds Try.pinned (OpenSpec.upto fnExactPeakCellsSpec)

/-- 'laws.FnExactRepeatMaximum', WHERE WHAT IT READS IS OF BULK AT MOST 1048576: true; the input reads as it did. -/
def fnExactRepeatMaximumUptoRow : OpenClaim := { program := "ytdkffljnfemngaa", sum := "6e07a007cbcb20df510c8f5e2bcf9f5a49db1bde4e0b972426fb4d49a0add363", func := "loop.example/g00889/laws.FnExactRepeatMaximum", spec := "fnExactRepeatMaximum", unfollowed := true, recurses := true, apart := false, narrowed := true }
def FnExactRepeatMaximumUptoSaid : Prop := fnExactRepeatMaximumUptoRow.holds Try.pinned (OpenSpec.upto fnExactRepeatMaximumSpec)

/-- 'laws.FnExactSmoothChange', WHERE WHAT IT READS IS OF BULK AT MOST 1048576: true; the input reads as it did. -/
def fnExactSmoothChangeUptoRow : OpenClaim := { program := "ytdkffljnfemngaa", sum := "6e07a007cbcb20df510c8f5e2bcf9f5a49db1bde4e0b972426fb4d49a0add363", func := "loop.example/g00889/laws.FnExactSmoothChange", spec := "fnExactSmoothChange", unfollowed := true, recurses := true, apart := false, narrowed := true }
def FnExactSmoothChangeUptoSaid : Prop := fnExactSmoothChangeUptoRow.holds Try.pinned (OpenSpec.upto fnExactSmoothChangeSpec)

end Rows
end Go.Proofs.Ytdkffljnfemngaa
