/-
  No cell of these rows narrows 'for every input' (looked for: loops, veiled, ifaces, maps, wideKeys, modest, calm, conditions, laid).
  DERIVED. THE GIVEN ROWS OF THIS SEAT. 10 by the template 'for every input the law returns true; each argument reads behind the call as it read before'; 0 by the template 'total and deterministic' (their statements: YtgfgimpglaepaaaTotals.lean).
  GIVEN WITH THE SEED: the statements are not yours to turn. If you find one false, say at which input.
  Laid BY PROGRAM, IN A SANDBOX (cutbox-rows.mjs): the forced cells as the released guide's own fill.sh prints them over the translation 6902cf9b606f1cbf… (all of the seat's roots in one cut). By AI agents, Wed Nov 11 2026. No macro, syntax, notation, axiom, sorry.
-/
import Derived.Test.YtgfgimpglaepaaaChecked
import GoSem.Claim
import GoSem.ClaimJoined
import GoSem.ClaimMapViews
import Derived.JoinedTies
import Derived.KernelRfl
namespace Go.Proofs.Ytgfgimpglaepaaa
/- THE CELL 'sum', in the pinned program and in every row, IS THE sha256 OF THE DUMP (.gsa) THAT YtgfgimpglaepaaaProg.lean LOADS. Nothing in Lean hashes anything: it is a label: what it is worth is what the hold of that sum in a sandbox is worth. -/
noncomputable def Try.pinned : Pinned := { name := "ytgfgimpglaepaaa", sum := "6902cf9b606f1cbf9ee4e88d67904eb475115f86a0b58069c38b35b13e7bfe9c", checked := Try.checked }
namespace Rows
def none {H : Type} : Left H := { results := [], args := [] }

/-- 'laws.FnRegions': WHATEVER THE INPUT: true; the input reads as it did. -/
def fnRegionsSpec : ChangeSpec := { name := "fnRegions", fn := fun _ => fun
  | [d] => { results := [.lit (.bool true)], args := [d] }
  | _ => none }
def fnRegionsRow : OpenClaim := { program := "ytgfgimpglaepaaa", sum := "6902cf9b606f1cbf9ee4e88d67904eb475115f86a0b58069c38b35b13e7bfe9c", func := "loop.example/g00889/laws.FnRegions", spec := "fnRegions", recurses := true, plainKeys := false, apart := false }
def FnRegionsSaid : Prop := fnRegionsRow.holds Try.pinned (OpenSpec.ofChange fnRegionsSpec)

/-- ITS FALSE NEIGHBOUR: 'it returns false'. Refute it at one input. -/
def fnRegionsWrong : ChangeSpec := { name := "fnRegions", fn := fun _ => fun
  | [d] => { results := [.lit (.bool false)], args := [d] }
  | _ => none }
def FnRegionsWrongFalsely : Prop := fnRegionsRow.holds Try.pinned (OpenSpec.ofChange fnRegionsWrong)

/-- 'laws.FnOutlines': WHATEVER THE INPUT: true; the input reads as it did. -/
def fnOutlinesSpec : ChangeSpec := { name := "fnOutlines", fn := fun _ => fun
  | [d] => { results := [.lit (.bool true)], args := [d] }
  | _ => none }
def fnOutlinesRow : OpenClaim := { program := "ytgfgimpglaepaaa", sum := "6902cf9b606f1cbf9ee4e88d67904eb475115f86a0b58069c38b35b13e7bfe9c", func := "loop.example/g00889/laws.FnOutlines", spec := "fnOutlines", recurses := true, plainKeys := false, apart := false }
def FnOutlinesSaid : Prop := fnOutlinesRow.holds Try.pinned (OpenSpec.ofChange fnOutlinesSpec)

/-- ITS FALSE NEIGHBOUR: 'it returns false'. Refute it at one input. -/
def fnOutlinesWrong : ChangeSpec := { name := "fnOutlines", fn := fun _ => fun
  | [d] => { results := [.lit (.bool false)], args := [d] }
  | _ => none }
def FnOutlinesWrongFalsely : Prop := fnOutlinesRow.holds Try.pinned (OpenSpec.ofChange fnOutlinesWrong)

/-- 'laws.FnExactRegionAbove': WHATEVER THE INPUT: true; the input reads as it did. -/
def fnExactRegionAboveSpec : ChangeSpec := { name := "fnExactRegionAbove", fn := fun _ => fun
  | [d1, d2] => { results := [.lit (.bool true)], args := [d1, d2] }
  | _ => none }
def fnExactRegionAboveRow : OpenClaim := { program := "ytgfgimpglaepaaa", sum := "6902cf9b606f1cbf9ee4e88d67904eb475115f86a0b58069c38b35b13e7bfe9c", func := "loop.example/g00889/laws.FnExactRegionAbove", spec := "fnExactRegionAbove", plainKeys := false, apart := false }
def FnExactRegionAboveSaid : Prop := fnExactRegionAboveRow.holds Try.pinned (OpenSpec.ofChange fnExactRegionAboveSpec)

/-- ITS FALSE NEIGHBOUR: 'it returns false'. Refute it at one input. -/
def fnExactRegionAboveWrong : ChangeSpec := { name := "fnExactRegionAbove", fn := fun _ => fun
  | [d1, d2] => { results := [.lit (.bool false)], args := [d1, d2] }
  | _ => none }
def FnExactRegionAboveWrongFalsely : Prop := fnExactRegionAboveRow.holds Try.pinned (OpenSpec.ofChange fnExactRegionAboveWrong)

/-- 'laws.FnExactRegionParts': WHATEVER THE INPUT: true; the input reads as it did. -/
def fnExactRegionPartsSpec : ChangeSpec := { name := "fnExactRegionParts", fn := fun _ => fun
  | [d1, d2, d3] => { results := [.lit (.bool true)], args := [d1, d2, d3] }
  | _ => none }
def fnExactRegionPartsRow : OpenClaim := { program := "ytgfgimpglaepaaa", sum := "6902cf9b606f1cbf9ee4e88d67904eb475115f86a0b58069c38b35b13e7bfe9c", func := "loop.example/g00889/laws.FnExactRegionParts", spec := "fnExactRegionParts", recurses := true, plainKeys := false, apart := false }
def FnExactRegionPartsSaid : Prop := fnExactRegionPartsRow.holds Try.pinned (OpenSpec.ofChange fnExactRegionPartsSpec)

/-- ITS FALSE NEIGHBOUR: 'it returns false'. Refute it at one input. -/
def fnExactRegionPartsWrong : ChangeSpec := { name := "fnExactRegionParts", fn := fun _ => fun
  | [d1, d2, d3] => { results := [.lit (.bool false)], args := [d1, d2, d3] }
  | _ => none }
def FnExactRegionPartsWrongFalsely : Prop := fnExactRegionPartsRow.holds Try.pinned (OpenSpec.ofChange fnExactRegionPartsWrong)

/-- 'laws.FnExactOutlines': WHATEVER THE INPUT: true; the input reads as it did. -/
def fnExactOutlinesSpec : ChangeSpec := { name := "fnExactOutlines", fn := fun _ => fun
  | [d1, d2, d3] => { results := [.lit (.bool true)], args := [d1, d2, d3] }
  | _ => none }
def fnExactOutlinesRow : OpenClaim := { program := "ytgfgimpglaepaaa", sum := "6902cf9b606f1cbf9ee4e88d67904eb475115f86a0b58069c38b35b13e7bfe9c", func := "loop.example/g00889/laws.FnExactOutlines", spec := "fnExactOutlines", plainKeys := false, apart := false }
def FnExactOutlinesSaid : Prop := fnExactOutlinesRow.holds Try.pinned (OpenSpec.ofChange fnExactOutlinesSpec)

/-- ITS FALSE NEIGHBOUR: 'it returns false'. Refute it at one input. -/
def fnExactOutlinesWrong : ChangeSpec := { name := "fnExactOutlines", fn := fun _ => fun
  | [d1, d2, d3] => { results := [.lit (.bool false)], args := [d1, d2, d3] }
  | _ => none }
def FnExactOutlinesWrongFalsely : Prop := fnExactOutlinesRow.holds Try.pinned (OpenSpec.ofChange fnExactOutlinesWrong)

/-- 'laws.FnExactLoopArea': WHATEVER THE INPUT: true; the input reads as it did. -/
def fnExactLoopAreaSpec : ChangeSpec := { name := "fnExactLoopArea", fn := fun _ => fun
  | [d] => { results := [.lit (.bool true)], args := [d] }
  | _ => none }
def fnExactLoopAreaRow : OpenClaim := { program := "ytgfgimpglaepaaa", sum := "6902cf9b606f1cbf9ee4e88d67904eb475115f86a0b58069c38b35b13e7bfe9c", func := "loop.example/g00889/laws.FnExactLoopArea", spec := "fnExactLoopArea", plainKeys := false, apart := false }
def FnExactLoopAreaSaid : Prop := fnExactLoopAreaRow.holds Try.pinned (OpenSpec.ofChange fnExactLoopAreaSpec)

/-- ITS FALSE NEIGHBOUR: 'it returns false'. Refute it at one input. -/
def fnExactLoopAreaWrong : ChangeSpec := { name := "fnExactLoopArea", fn := fun _ => fun
  | [d] => { results := [.lit (.bool false)], args := [d] }
  | _ => none }
def FnExactLoopAreaWrongFalsely : Prop := fnExactLoopAreaRow.holds Try.pinned (OpenSpec.ofChange fnExactLoopAreaWrong)

/-- 'laws.FnExactHoleCount': WHATEVER THE INPUT: true; the input reads as it did. -/
def fnExactHoleCountSpec : ChangeSpec := { name := "fnExactHoleCount", fn := fun _ => fun
  | [d1, d2, d3] => { results := [.lit (.bool true)], args := [d1, d2, d3] }
  | _ => none }
def fnExactHoleCountRow : OpenClaim := { program := "ytgfgimpglaepaaa", sum := "6902cf9b606f1cbf9ee4e88d67904eb475115f86a0b58069c38b35b13e7bfe9c", func := "loop.example/g00889/laws.FnExactHoleCount", spec := "fnExactHoleCount", plainKeys := false, apart := false }
def FnExactHoleCountSaid : Prop := fnExactHoleCountRow.holds Try.pinned (OpenSpec.ofChange fnExactHoleCountSpec)

/-- ITS FALSE NEIGHBOUR: 'it returns false'. Refute it at one input. -/
def fnExactHoleCountWrong : ChangeSpec := { name := "fnExactHoleCount", fn := fun _ => fun
  | [d1, d2, d3] => { results := [.lit (.bool false)], args := [d1, d2, d3] }
  | _ => none }
def FnExactHoleCountWrongFalsely : Prop := fnExactHoleCountRow.holds Try.pinned (OpenSpec.ofChange fnExactHoleCountWrong)

/-- 'laws.FnExactRegionBorder': WHATEVER THE INPUT: true; the input reads as it did. -/
def fnExactRegionBorderSpec : ChangeSpec := { name := "fnExactRegionBorder", fn := fun _ => fun
  | [d1, d2, d3] => { results := [.lit (.bool true)], args := [d1, d2, d3] }
  | _ => none }
def fnExactRegionBorderRow : OpenClaim := { program := "ytgfgimpglaepaaa", sum := "6902cf9b606f1cbf9ee4e88d67904eb475115f86a0b58069c38b35b13e7bfe9c", func := "loop.example/g00889/laws.FnExactRegionBorder", spec := "fnExactRegionBorder", plainKeys := false, apart := false }
def FnExactRegionBorderSaid : Prop := fnExactRegionBorderRow.holds Try.pinned (OpenSpec.ofChange fnExactRegionBorderSpec)

/-- ITS FALSE NEIGHBOUR: 'it returns false'. Refute it at one input. -/
def fnExactRegionBorderWrong : ChangeSpec := { name := "fnExactRegionBorder", fn := fun _ => fun
  | [d1, d2, d3] => { results := [.lit (.bool false)], args := [d1, d2, d3] }
  | _ => none }
def FnExactRegionBorderWrongFalsely : Prop := fnExactRegionBorderRow.holds Try.pinned (OpenSpec.ofChange fnExactRegionBorderWrong)

/-- 'laws.FnExactGrowRegion': WHATEVER THE INPUT: true; the input reads as it did. -/
def fnExactGrowRegionSpec : ChangeSpec := { name := "fnExactGrowRegion", fn := fun _ => fun
  | [d1, d2, d3] => { results := [.lit (.bool true)], args := [d1, d2, d3] }
  | _ => none }
def fnExactGrowRegionRow : OpenClaim := { program := "ytgfgimpglaepaaa", sum := "6902cf9b606f1cbf9ee4e88d67904eb475115f86a0b58069c38b35b13e7bfe9c", func := "loop.example/g00889/laws.FnExactGrowRegion", spec := "fnExactGrowRegion", plainKeys := false, apart := false }
def FnExactGrowRegionSaid : Prop := fnExactGrowRegionRow.holds Try.pinned (OpenSpec.ofChange fnExactGrowRegionSpec)

/-- ITS FALSE NEIGHBOUR: 'it returns false'. Refute it at one input. -/
def fnExactGrowRegionWrong : ChangeSpec := { name := "fnExactGrowRegion", fn := fun _ => fun
  | [d1, d2, d3] => { results := [.lit (.bool false)], args := [d1, d2, d3] }
  | _ => none }
def FnExactGrowRegionWrongFalsely : Prop := fnExactGrowRegionRow.holds Try.pinned (OpenSpec.ofChange fnExactGrowRegionWrong)

/-- 'laws.FnExactRegionField': WHATEVER THE INPUT: true; the input reads as it did. -/
def fnExactRegionFieldSpec : ChangeSpec := { name := "fnExactRegionField", fn := fun _ => fun
  | [d1, d2, d3] => { results := [.lit (.bool true)], args := [d1, d2, d3] }
  | _ => none }
def fnExactRegionFieldRow : OpenClaim := { program := "ytgfgimpglaepaaa", sum := "6902cf9b606f1cbf9ee4e88d67904eb475115f86a0b58069c38b35b13e7bfe9c", func := "loop.example/g00889/laws.FnExactRegionField", spec := "fnExactRegionField", plainKeys := false, apart := false }
def FnExactRegionFieldSaid : Prop := fnExactRegionFieldRow.holds Try.pinned (OpenSpec.ofChange fnExactRegionFieldSpec)

/-- ITS FALSE NEIGHBOUR: 'it returns false'. Refute it at one input. -/
def fnExactRegionFieldWrong : ChangeSpec := { name := "fnExactRegionField", fn := fun _ => fun
  | [d1, d2, d3] => { results := [.lit (.bool false)], args := [d1, d2, d3] }
  | _ => none }
def FnExactRegionFieldWrongFalsely : Prop := fnExactRegionFieldRow.holds Try.pinned (OpenSpec.ofChange fnExactRegionFieldWrong)

/- THE SECOND FORM. 'bulk': how many values and letters a reading holds, each counted each time it is reached (what is shared counts as often as it is met; a slice's spare places count too). A statement '..UptoSaid' is the law's where the arguments, and the package variables that the reading takes, are together of bulk at most 1048576: NARROWER than '..Said'. Prove '..Said' where nothing that the law and all that it calls make is longer than what came in: it says more and counts as full. Else prove '..UptoSaid'. A law counts once. -/
mutual
def uptoBulk {H : Type} : DataW H → Nat
  | .lit (.string bytes) => bytes.length + 1
  | .lit _ => 1
  | .nil => 1
  | .ptr d => uptoBulk d + 1
  | .slice elems spare => uptoBulkAll elems + uptoBulkAll spare + 1
  | .agg parts => uptoBulkAll parts + 1
  | .iface _ d => uptoBulk d + 1
  | .map entries => uptoBulkEntries entries + 1
  | .held _ => 1
def uptoBulkAll {H : Type} : List (DataW H) → Nat
  | [] => 0
  | d :: r => uptoBulk d + uptoBulkAll r
def uptoBulkEntries {H : Type} : List (Lit × DataW H) → Nat
  | [] => 0
  | x :: r => uptoBulkEntry x + uptoBulkEntries r
def uptoBulkEntry {H : Type} : Lit × DataW H → Nat
  | (.string bytes, d) => bytes.length + uptoBulk d + 1
  | (_, d) => uptoBulk d + 1
 end
def uptoSmall : (H : Type) → List (DataW H) → Bool := fun _ ds => decide (uptoBulkAll ds ≤ 1048576)
def OpenSpec.upto (s : _root_.Go.ChangeSpec) : _root_.Go.OpenSpec := { _root_.Go.OpenSpec.ofChange s with cond := some uptoSmall }

/-- 'laws.FnRegions', WHERE WHAT IT READS IS OF BULK AT MOST 1048576: true; the input reads as it did. -/
def fnRegionsUptoRow : OpenClaim := { program := "ytgfgimpglaepaaa", sum := "6902cf9b606f1cbf9ee4e88d67904eb475115f86a0b58069c38b35b13e7bfe9c", func := "loop.example/g00889/laws.FnRegions", spec := "fnRegions", recurses := true, plainKeys := false, apart := false, narrowed := true }
def FnRegionsUptoSaid : Prop := fnRegionsUptoRow.holds Try.pinned (OpenSpec.upto fnRegionsSpec)

/-- 'laws.FnOutlines', WHERE WHAT IT READS IS OF BULK AT MOST 1048576: true; the input reads as it did. -/
def fnOutlinesUptoRow : OpenClaim := { program := "ytgfgimpglaepaaa", sum := "6902cf9b606f1cbf9ee4e88d67904eb475115f86a0b58069c38b35b13e7bfe9c", func := "loop.example/g00889/laws.FnOutlines", spec := "fnOutlines", recurses := true, plainKeys := false, apart := false, narrowed := true }
def FnOutlinesUptoSaid : Prop := fnOutlinesUptoRow.holds Try.pinned (OpenSpec.upto fnOutlinesSpec)

/-- 'laws.FnExactRegionAbove', WHERE WHAT IT READS IS OF BULK AT MOST 1048576: true; the input reads as it did. -/
def fnExactRegionAboveUptoRow : OpenClaim := { program := "ytgfgimpglaepaaa", sum := "6902cf9b606f1cbf9ee4e88d67904eb475115f86a0b58069c38b35b13e7bfe9c", func := "loop.example/g00889/laws.FnExactRegionAbove", spec := "fnExactRegionAbove", plainKeys := false, apart := false, narrowed := true }
def FnExactRegionAboveUptoSaid : Prop := fnExactRegionAboveUptoRow.holds Try.pinned (OpenSpec.upto fnExactRegionAboveSpec)

/-- 'laws.FnExactRegionParts', WHERE WHAT IT READS IS OF BULK AT MOST 1048576: true; the input reads as it did. -/
def fnExactRegionPartsUptoRow : OpenClaim := { program := "ytgfgimpglaepaaa", sum := "6902cf9b606f1cbf9ee4e88d67904eb475115f86a0b58069c38b35b13e7bfe9c", func := "loop.example/g00889/laws.FnExactRegionParts", spec := "fnExactRegionParts", recurses := true, plainKeys := false, apart := false, narrowed := true }
def FnExactRegionPartsUptoSaid : Prop := fnExactRegionPartsUptoRow.holds Try.pinned (OpenSpec.upto fnExactRegionPartsSpec)

/-- 'laws.FnExactOutlines', WHERE WHAT IT READS IS OF BULK AT MOST 1048576: true; the input reads as it did. -/
def fnExactOutlinesUptoRow : OpenClaim := { program := "ytgfgimpglaepaaa", sum := "6902cf9b606f1cbf9ee4e88d67904eb475115f86a0b58069c38b35b13e7bfe9c", func := "loop.example/g00889/laws.FnExactOutlines", spec := "fnExactOutlines", plainKeys := false, apart := false, narrowed := true }
def FnExactOutlinesUptoSaid : Prop := fnExactOutlinesUptoRow.holds Try.pinned (OpenSpec.upto fnExactOutlinesSpec)

/-- 'laws.FnExactLoopArea', WHERE WHAT IT READS IS OF BULK AT MOST 1048576: true; the input reads as it did. -/
def fnExactLoopAreaUptoRow : OpenClaim := { program := "ytgfgimpglaepaaa", sum := "6902cf9b606f1cbf9ee4e88d67904eb475115f86a0b58069c38b35b13e7bfe9c", func := "loop.example/g00889/laws.FnExactLoopArea", spec := "fnExactLoopArea", plainKeys := false, apart := false, narrowed := true }
def FnExactLoopAreaUptoSaid : Prop := fnExactLoopAreaUptoRow.holds Try.pinned (OpenSpec.upto fnExactLoopAreaSpec)

/-- 'laws.FnExactHoleCount', WHERE WHAT IT READS IS OF BULK AT MOST 1048576: true; the input reads as it did. -/
def fnExactHoleCountUptoRow : OpenClaim := { program := "ytgfgimpglaepaaa", sum := "6902cf9b606f1cbf9ee4e88d67904eb475115f86a0b58069c38b35b13e7bfe9c", func := "loop.example/g00889/laws.FnExactHoleCount", spec := "fnExactHoleCount", plainKeys := false, apart := false, narrowed := true }
def FnExactHoleCountUptoSaid : Prop := fnExactHoleCountUptoRow.holds Try.pinned (OpenSpec.upto fnExactHoleCountSpec)

/-- 'laws.FnExactRegionBorder', WHERE WHAT IT READS IS OF BULK AT MOST 1048576: true; the input reads as it did. -/
def fnExactRegionBorderUptoRow : OpenClaim := { program := "ytgfgimpglaepaaa", sum := "6902cf9b606f1cbf9ee4e88d67904eb475115f86a0b58069c38b35b13e7bfe9c", func := "loop.example/g00889/laws.FnExactRegionBorder", spec := "fnExactRegionBorder", plainKeys := false, apart := false, narrowed := true }
def FnExactRegionBorderUptoSaid : Prop := fnExactRegionBorderUptoRow.holds Try.pinned (OpenSpec.upto fnExactRegionBorderSpec)

/-- 'laws.FnExactGrowRegion', WHERE WHAT IT READS IS OF BULK AT MOST 1048576: true; the input reads as it did. -/
def fnExactGrowRegionUptoRow : OpenClaim := { program := "ytgfgimpglaepaaa", sum := "6902cf9b606f1cbf9ee4e88d67904eb475115f86a0b58069c38b35b13e7bfe9c", func := "loop.example/g00889/laws.FnExactGrowRegion", spec := "fnExactGrowRegion", plainKeys := false, apart := false, narrowed := true }
def FnExactGrowRegionUptoSaid : Prop := fnExactGrowRegionUptoRow.holds Try.pinned (OpenSpec.upto fnExactGrowRegionSpec)

/-- 'laws.FnExactRegionField', WHERE WHAT IT READS IS OF BULK AT MOST 1048576: true; the input reads as it did. -/
def fnExactRegionFieldUptoRow : OpenClaim := { program := "ytgfgimpglaepaaa", sum := "6902cf9b606f1cbf9ee4e88d67904eb475115f86a0b58069c38b35b13e7bfe9c", func := "loop.example/g00889/laws.FnExactRegionField", spec := "fnExactRegionField", plainKeys := false, apart := false, narrowed := true }
def FnExactRegionFieldUptoSaid : Prop := fnExactRegionFieldUptoRow.holds Try.pinned (OpenSpec.upto fnExactRegionFieldSpec)

end Rows
end Go.Proofs.Ytgfgimpglaepaaa
