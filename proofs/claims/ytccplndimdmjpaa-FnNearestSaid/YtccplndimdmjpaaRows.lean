/-
  No cell of these rows narrows 'for every input' (looked for: loops, veiled, ifaces, maps, wideKeys, modest, calm, conditions, laid).
  DERIVED. THE GIVEN ROWS OF THIS SEAT. 6 by the template 'for every input the law returns true; each argument reads behind the call as it read before'; 0 by the template 'total and deterministic' (their statements: YtccplndimdmjpaaTotals.lean).
  GIVEN WITH THE SEED: the statements are not yours to turn. If you find one false, say at which input.
  Laid BY PROGRAM, IN A SANDBOX (cutbox-rows.mjs): the forced cells as the released guide's own fill.sh prints them over the translation 942b412f007ed530… (all of the seat's roots in one cut). By AI agents, Wed Nov 11 2026. No macro, syntax, notation, axiom, sorry.
-/
import Derived.Test.YtccplndimdmjpaaChecked
import GoSem.Claim
import GoSem.ClaimJoined
import GoSem.ClaimMapViews
import Derived.JoinedTies
import Derived.KernelRfl
namespace Go.Proofs.Ytccplndimdmjpaa
/- THE CELL 'sum', in the pinned program and in every row, IS THE sha256 OF THE DUMP (.gsa) THAT YtccplndimdmjpaaProg.lean LOADS. Nothing in Lean hashes anything: it is a label: what it is worth is what the hold of that sum in a sandbox is worth. -/
noncomputable def Try.pinned : Pinned := { name := "ytccplndimdmjpaa", sum := "942b412f007ed5304899d53507d75dc755d69eab10e76a8317812108cfa08dbf", checked := Try.checked }
namespace Rows
def none {H : Type} : Left H := { results := [], args := [] }

/-- 'laws.FnExactOverlapUnits': WHATEVER THE INPUT: true; the input reads as it did. -/
def fnExactOverlapUnitsSpec : ChangeSpec := { name := "fnExactOverlapUnits", fn := fun _ => fun
  | [d1, d2, d3, d4] => { results := [.lit (.bool true)], args := [d1, d2, d3, d4] }
  | _ => none }
def fnExactOverlapUnitsRow : OpenClaim := { program := "ytccplndimdmjpaa", sum := "942b412f007ed5304899d53507d75dc755d69eab10e76a8317812108cfa08dbf", func := "loop.example/g00889/laws.FnExactOverlapUnits", spec := "fnExactOverlapUnits", apart := false }
def FnExactOverlapUnitsSaid : Prop := fnExactOverlapUnitsRow.holds Try.pinned (OpenSpec.ofChange fnExactOverlapUnitsSpec)

/-- ITS FALSE NEIGHBOUR: 'it returns false'. Refute it at one input. -/
def fnExactOverlapUnitsWrong : ChangeSpec := { name := "fnExactOverlapUnits", fn := fun _ => fun
  | [d1, d2, d3, d4] => { results := [.lit (.bool false)], args := [d1, d2, d3, d4] }
  | _ => none }
def FnExactOverlapUnitsWrongFalsely : Prop := fnExactOverlapUnitsRow.holds Try.pinned (OpenSpec.ofChange fnExactOverlapUnitsWrong)

/-- 'laws.FnExactCoarsenSum': WHATEVER THE INPUT: true; the input reads as it did. -/
def fnExactCoarsenSumSpec : ChangeSpec := { name := "fnExactCoarsenSum", fn := fun _ => fun
  | [d1, d2, d3] => { results := [.lit (.bool true)], args := [d1, d2, d3] }
  | _ => none }
def fnExactCoarsenSumRow : OpenClaim := { program := "ytccplndimdmjpaa", sum := "942b412f007ed5304899d53507d75dc755d69eab10e76a8317812108cfa08dbf", func := "loop.example/g00889/laws.FnExactCoarsenSum", spec := "fnExactCoarsenSum", apart := false }
def FnExactCoarsenSumSaid : Prop := fnExactCoarsenSumRow.holds Try.pinned (OpenSpec.ofChange fnExactCoarsenSumSpec)

/-- ITS FALSE NEIGHBOUR: 'it returns false'. Refute it at one input. -/
def fnExactCoarsenSumWrong : ChangeSpec := { name := "fnExactCoarsenSum", fn := fun _ => fun
  | [d1, d2, d3] => { results := [.lit (.bool false)], args := [d1, d2, d3] }
  | _ => none }
def FnExactCoarsenSumWrongFalsely : Prop := fnExactCoarsenSumRow.holds Try.pinned (OpenSpec.ofChange fnExactCoarsenSumWrong)

/-- 'laws.FnExactCoarsenMean': WHATEVER THE INPUT: true; the input reads as it did. -/
def fnExactCoarsenMeanSpec : ChangeSpec := { name := "fnExactCoarsenMean", fn := fun _ => fun
  | [d1, d2, d3] => { results := [.lit (.bool true)], args := [d1, d2, d3] }
  | _ => none }
def fnExactCoarsenMeanRow : OpenClaim := { program := "ytccplndimdmjpaa", sum := "942b412f007ed5304899d53507d75dc755d69eab10e76a8317812108cfa08dbf", func := "loop.example/g00889/laws.FnExactCoarsenMean", spec := "fnExactCoarsenMean", apart := false }
def FnExactCoarsenMeanSaid : Prop := fnExactCoarsenMeanRow.holds Try.pinned (OpenSpec.ofChange fnExactCoarsenMeanSpec)

/-- ITS FALSE NEIGHBOUR: 'it returns false'. Refute it at one input. -/
def fnExactCoarsenMeanWrong : ChangeSpec := { name := "fnExactCoarsenMean", fn := fun _ => fun
  | [d1, d2, d3] => { results := [.lit (.bool false)], args := [d1, d2, d3] }
  | _ => none }
def FnExactCoarsenMeanWrongFalsely : Prop := fnExactCoarsenMeanRow.holds Try.pinned (OpenSpec.ofChange fnExactCoarsenMeanWrong)

/-- 'laws.FnExactRegridNearest': WHATEVER THE INPUT: true; the input reads as it did. -/
def fnExactRegridNearestSpec : ChangeSpec := { name := "fnExactRegridNearest", fn := fun _ => fun
  | [d1, d2, d3] => { results := [.lit (.bool true)], args := [d1, d2, d3] }
  | _ => none }
def fnExactRegridNearestRow : OpenClaim := { program := "ytccplndimdmjpaa", sum := "942b412f007ed5304899d53507d75dc755d69eab10e76a8317812108cfa08dbf", func := "loop.example/g00889/laws.FnExactRegridNearest", spec := "fnExactRegridNearest", apart := false }
def FnExactRegridNearestSaid : Prop := fnExactRegridNearestRow.holds Try.pinned (OpenSpec.ofChange fnExactRegridNearestSpec)

/-- ITS FALSE NEIGHBOUR: 'it returns false'. Refute it at one input. -/
def fnExactRegridNearestWrong : ChangeSpec := { name := "fnExactRegridNearest", fn := fun _ => fun
  | [d1, d2, d3] => { results := [.lit (.bool false)], args := [d1, d2, d3] }
  | _ => none }
def FnExactRegridNearestWrongFalsely : Prop := fnExactRegridNearestRow.holds Try.pinned (OpenSpec.ofChange fnExactRegridNearestWrong)

/-- 'laws.FnExactSameTotal': WHATEVER THE INPUT: true; the input reads as it did. -/
def fnExactSameTotalSpec : ChangeSpec := { name := "fnExactSameTotal", fn := fun _ => fun
  | [d1, d2] => { results := [.lit (.bool true)], args := [d1, d2] }
  | _ => none }
def fnExactSameTotalRow : OpenClaim := { program := "ytccplndimdmjpaa", sum := "942b412f007ed5304899d53507d75dc755d69eab10e76a8317812108cfa08dbf", func := "loop.example/g00889/laws.FnExactSameTotal", spec := "fnExactSameTotal", apart := false }
def FnExactSameTotalSaid : Prop := fnExactSameTotalRow.holds Try.pinned (OpenSpec.ofChange fnExactSameTotalSpec)

/-- ITS FALSE NEIGHBOUR: 'it returns false'. Refute it at one input. -/
def fnExactSameTotalWrong : ChangeSpec := { name := "fnExactSameTotal", fn := fun _ => fun
  | [d1, d2] => { results := [.lit (.bool false)], args := [d1, d2] }
  | _ => none }
def FnExactSameTotalWrongFalsely : Prop := fnExactSameTotalRow.holds Try.pinned (OpenSpec.ofChange fnExactSameTotalWrong)

/-- 'laws.FnNearest': WHATEVER THE INPUT: true; the input reads as it did. -/
def fnNearestSpec : ChangeSpec := { name := "fnNearest", fn := fun _ => fun
  | [d] => { results := [.lit (.bool true)], args := [d] }
  | _ => none }
def fnNearestRow : OpenClaim := { program := "ytccplndimdmjpaa", sum := "942b412f007ed5304899d53507d75dc755d69eab10e76a8317812108cfa08dbf", func := "loop.example/g00889/laws.FnNearest", spec := "fnNearest", apart := false }
def FnNearestSaid : Prop := fnNearestRow.holds Try.pinned (OpenSpec.ofChange fnNearestSpec)

/-- ITS FALSE NEIGHBOUR: 'it returns false'. Refute it at one input. -/
def fnNearestWrong : ChangeSpec := { name := "fnNearest", fn := fun _ => fun
  | [d] => { results := [.lit (.bool false)], args := [d] }
  | _ => none }
def FnNearestWrongFalsely : Prop := fnNearestRow.holds Try.pinned (OpenSpec.ofChange fnNearestWrong)

/- THE SECOND FORM. 'bulk': how many values and letters a reading holds, each counted each time it is reached (what is shared counts as often as it is met; a slice's spare places count too). A statement '..UptoSaid' is the law's where the arguments, and the package variables that the reading takes, are together of bulk at most 1048576: NARROWER than '..Said'. Prove '..Said' where nothing that the law and all that it calls make is longer than what came in: it says more and counts as full. Else prove '..UptoSaid'. A law counts once. -/
mutual
def uptoBulk {H : Type} : DataW H → Nat
  | .lit (.string bytes) => bytes.length + 1
  | .lit _ => 1
  | .nil => 1
  | .ptr d => uptoBulk d + 1
  | .slice elems spare => uptoBulkAll elems + uptoBulkAll spare + 1
  | .agg parts => uptoBulkAll parts + 1
  | .iface _ d => uptoBulk d + 1
  | .map entries => uptoBulkEntries entries + 1
  | .held _ => 1
def uptoBulkAll {H : Type} : List (DataW H) → Nat
  | [] => 0
  | d :: r => uptoBulk d + uptoBulkAll r
def uptoBulkEntries {H : Type} : List (Lit × DataW H) → Nat
  | [] => 0
  | x :: r => uptoBulkEntry x + uptoBulkEntries r
def uptoBulkEntry {H : Type} : Lit × DataW H → Nat
  | (.string bytes, d) => bytes.length + uptoBulk d + 1
  | (_, d) => uptoBulk d + 1
 end
def uptoSmall : (H : Type) → List (DataW H) → Bool := fun _ ds => decide (uptoBulkAll ds ≤ 1048576)
def OpenSpec.upto (s : _root_.Go.ChangeSpec) : _root_.Go.OpenSpec := { _root_.Go.OpenSpec.ofChange s with cond := some uptoSmall }

/-- 'laws.FnExactOverlapUnits', WHERE WHAT IT READS IS OF BULK AT MOST 1048576: true; the input reads as it did. -/
def fnExactOverlapUnitsUptoRow : OpenClaim := { program := "ytccplndimdmjpaa", sum := "942b412f007ed5304899d53507d75dc755d69eab10e76a8317812108cfa08dbf", func := "loop.example/g00889/laws.FnExactOverlapUnits", spec := "fnExactOverlapUnits", apart := false, narrowed := true }
def FnExactOverlapUnitsUptoSaid : Prop := fnExactOverlapUnitsUptoRow.holds Try.pinned (OpenSpec.upto fnExactOverlapUnitsSpec)

/-- 'laws.FnExactCoarsenSum', WHERE WHAT IT READS IS OF BULK AT MOST 1048576: true; the input reads as it did. -/
def fnExactCoarsenSumUptoRow : OpenClaim := { program := "ytccplndimdmjpaa", sum := "942b412f007ed5304899d53507d75dc755d69eab10e76a8317812108cfa08dbf", func := "loop.example/g00889/laws.FnExactCoarsenSum", spec := "fnExactCoarsenSum", apart := false, narrowed := true }
def FnExactCoarsenSumUptoSaid : Prop := fnExactCoarsenSumUptoRow.holds Try.pinned (OpenSpec.upto fnExactCoarsenSumSpec)

/-- 'laws.FnExactCoarsenMean', WHERE WHAT IT READS IS OF BULK AT MOST 1048576: true; the input reads as it did. -/
def fnExactCoarsenMeanUptoRow : OpenClaim := { program := "ytccplndimdmjpaa", sum := "942b412f007ed5304899d53507d75dc755d69eab10e76a8317812108cfa08dbf", func := "loop.example/g00889/laws.FnExactCoarsenMean", spec := "fnExactCoarsenMean", apart := false, narrowed := true }
def FnExactCoarsenMeanUptoSaid : Prop := fnExactCoarsenMeanUptoRow.holds Try.pinned (OpenSpec.upto fnExactCoarsenMeanSpec)

/-- 'laws.FnExactRegridNearest', WHERE WHAT IT READS IS OF BULK AT MOST 1048576: true; the input reads as it did. -/
def fnExactRegridNearestUptoRow : OpenClaim := { program := "ytccplndimdmjpaa", sum := "942b412f007ed5304899d53507d75dc755d69eab10e76a8317812108cfa08dbf", func := "loop.example/g00889/laws.FnExactRegridNearest", spec := "fnExactRegridNearest", apart := false, narrowed := true }
def FnExactRegridNearestUptoSaid : Prop := fnExactRegridNearestUptoRow.holds Try.pinned (OpenSpec.upto fnExactRegridNearestSpec)

/-- 'laws.FnExactSameTotal', WHERE WHAT IT READS IS OF BULK AT MOST 1048576: true; the input reads as it did. -/
def fnExactSameTotalUptoRow : OpenClaim := { program := "ytccplndimdmjpaa", sum := "942b412f007ed5304899d53507d75dc755d69eab10e76a8317812108cfa08dbf", func := "loop.example/g00889/laws.FnExactSameTotal", spec := "fnExactSameTotal", apart := false, narrowed := true }
def FnExactSameTotalUptoSaid : Prop := fnExactSameTotalUptoRow.holds Try.pinned (OpenSpec.upto fnExactSameTotalSpec)

/-- 'laws.FnNearest', WHERE WHAT IT READS IS OF BULK AT MOST 1048576: true; the input reads as it did. -/
def fnNearestUptoRow : OpenClaim := { program := "ytccplndimdmjpaa", sum := "942b412f007ed5304899d53507d75dc755d69eab10e76a8317812108cfa08dbf", func := "loop.example/g00889/laws.FnNearest", spec := "fnNearest", apart := false, narrowed := true }
def FnNearestUptoSaid : Prop := fnNearestUptoRow.holds Try.pinned (OpenSpec.upto fnNearestSpec)

end Rows
end Go.Proofs.Ytccplndimdmjpaa
