/-
  No cell of these rows narrows 'for every input' (looked for: loops, veiled, ifaces, maps, wideKeys, modest, calm, conditions, laid).
  DERIVED. THE GIVEN ROWS OF THIS SEAT. 10 by the template 'for every input the law returns true; each argument reads behind the call as it read before'; 0 by the template 'total and deterministic' (their statements: YtpmfgghiiocccaaTotals.lean).
  GIVEN WITH THE SEED: the statements are not yours to turn. If you find one false, say at which input.
  Laid BY PROGRAM, IN A SANDBOX (cutbox-rows.mjs): the forced cells as the released guide's own fill.sh prints them over the translation e6cedce9e8538e82… (all of the seat's roots in one cut). By AI agents, Wed Nov 11 2026. No macro, syntax, notation, axiom, sorry.
-/
import Derived.Test.YtpmfgghiiocccaaChecked
import GoSem.Claim
import GoSem.ClaimJoined
import GoSem.ClaimMapViews
import Derived.JoinedTies
import Derived.KernelRfl
namespace Go.Proofs.Ytpmfgghiiocccaa
/- THE CELL 'sum', in the pinned program and in every row, IS THE sha256 OF THE DUMP (.gsa) THAT YtpmfgghiiocccaaProg.lean LOADS. Nothing in Lean hashes anything: it is a label: what it is worth is what the hold of that sum in a sandbox is worth. -/
noncomputable def Try.pinned : Pinned := { name := "ytpmfgghiiocccaa", sum := "e6cedce9e8538e82811ed13cdd7a8eeb8b031b8fb2e700ead5d5bfe2c0bb7a59", checked := Try.checked }
namespace Rows
def none {H : Type} : Left H := { results := [], args := [] }

/-- 'laws.FnExactIsValidEnsemble': WHATEVER THE INPUT: true; the input reads as it did. -/
def fnExactIsValidEnsembleSpec : ChangeSpec := { name := "fnExactIsValidEnsemble", fn := fun _ => fun
  | [d] => { results := [.lit (.bool true)], args := [d] }
  | _ => none }
def fnExactIsValidEnsembleRow : OpenClaim := { program := "ytpmfgghiiocccaa", sum := "e6cedce9e8538e82811ed13cdd7a8eeb8b031b8fb2e700ead5d5bfe2c0bb7a59", func := "loop.example/g00889/laws.FnExactIsValidEnsemble", spec := "fnExactIsValidEnsemble", apart := false }
def FnExactIsValidEnsembleSaid : Prop := fnExactIsValidEnsembleRow.holds Try.pinned (OpenSpec.ofChange fnExactIsValidEnsembleSpec)

/-- ITS FALSE NEIGHBOUR: 'it returns false'. Refute it at one input. -/
def fnExactIsValidEnsembleWrong : ChangeSpec := { name := "fnExactIsValidEnsemble", fn := fun _ => fun
  | [d] => { results := [.lit (.bool false)], args := [d] }
  | _ => none }
def FnExactIsValidEnsembleWrongFalsely : Prop := fnExactIsValidEnsembleRow.holds Try.pinned (OpenSpec.ofChange fnExactIsValidEnsembleWrong)

/-- 'laws.FnExactCountAtLeast': WHATEVER THE INPUT: true; the input reads as it did. -/
def fnExactCountAtLeastSpec : ChangeSpec := { name := "fnExactCountAtLeast", fn := fun _ => fun
  | [d1, d2] => { results := [.lit (.bool true)], args := [d1, d2] }
  | _ => none }
def fnExactCountAtLeastRow : OpenClaim := { program := "ytpmfgghiiocccaa", sum := "e6cedce9e8538e82811ed13cdd7a8eeb8b031b8fb2e700ead5d5bfe2c0bb7a59", func := "loop.example/g00889/laws.FnExactCountAtLeast", spec := "fnExactCountAtLeast", unfollowed := true, recurses := true, apart := false }
def FnExactCountAtLeastSaid : Prop := fnExactCountAtLeastRow.holds Try.pinned (OpenSpec.ofChange fnExactCountAtLeastSpec)

/-- ITS FALSE NEIGHBOUR: 'it returns false'. Refute it at one input. -/
def fnExactCountAtLeastWrong : ChangeSpec := { name := "fnExactCountAtLeast", fn := fun _ => fun
  | [d1, d2] => { results := [.lit (.bool false)], args := [d1, d2] }
  | _ => none }
def FnExactCountAtLeastWrongFalsely : Prop := fnExactCountAtLeastRow.holds Try.pinned (OpenSpec.ofChange fnExactCountAtLeastWrong)

/-- 'laws.FnExactChanceAt': WHATEVER THE INPUT: true; the input reads as it did. -/
def fnExactChanceAtSpec : ChangeSpec := { name := "fnExactChanceAt", fn := fun _ => fun
  | [d1, d2, d3, d4] => { results := [.lit (.bool true)], args := [d1, d2, d3, d4] }
  | _ => none }
def fnExactChanceAtRow : OpenClaim := { program := "ytpmfgghiiocccaa", sum := "e6cedce9e8538e82811ed13cdd7a8eeb8b031b8fb2e700ead5d5bfe2c0bb7a59", func := "loop.example/g00889/laws.FnExactChanceAt", spec := "fnExactChanceAt", apart := false }
def FnExactChanceAtSaid : Prop := fnExactChanceAtRow.holds Try.pinned (OpenSpec.ofChange fnExactChanceAtSpec)

/-- ITS FALSE NEIGHBOUR: 'it returns false'. Refute it at one input. -/
def fnExactChanceAtWrong : ChangeSpec := { name := "fnExactChanceAt", fn := fun _ => fun
  | [d1, d2, d3, d4] => { results := [.lit (.bool false)], args := [d1, d2, d3, d4] }
  | _ => none }
def FnExactChanceAtWrongFalsely : Prop := fnExactChanceAtRow.holds Try.pinned (OpenSpec.ofChange fnExactChanceAtWrong)

/-- 'laws.FnExactMeanMember': WHATEVER THE INPUT: true; the input reads as it did. -/
def fnExactMeanMemberSpec : ChangeSpec := { name := "fnExactMeanMember", fn := fun _ => fun
  | [d] => { results := [.lit (.bool true)], args := [d] }
  | _ => none }
def fnExactMeanMemberRow : OpenClaim := { program := "ytpmfgghiiocccaa", sum := "e6cedce9e8538e82811ed13cdd7a8eeb8b031b8fb2e700ead5d5bfe2c0bb7a59", func := "loop.example/g00889/laws.FnExactMeanMember", spec := "fnExactMeanMember", unfollowed := true, recurses := true, apart := false }
def FnExactMeanMemberSaid : Prop := fnExactMeanMemberRow.holds Try.pinned (OpenSpec.ofChange fnExactMeanMemberSpec)

/-- ITS FALSE NEIGHBOUR: 'it returns false'. Refute it at one input. -/
def fnExactMeanMemberWrong : ChangeSpec := { name := "fnExactMeanMember", fn := fun _ => fun
  | [d] => { results := [.lit (.bool false)], args := [d] }
  | _ => none }
def FnExactMeanMemberWrongFalsely : Prop := fnExactMeanMemberRow.holds Try.pinned (OpenSpec.ofChange fnExactMeanMemberWrong)

/-- 'laws.FnExactSpreadField': WHATEVER THE INPUT: true; the input reads as it did. -/
def fnExactSpreadFieldSpec : ChangeSpec := { name := "fnExactSpreadField", fn := fun _ => fun
  | [d] => { results := [.lit (.bool true)], args := [d] }
  | _ => none }
def fnExactSpreadFieldRow : OpenClaim := { program := "ytpmfgghiiocccaa", sum := "e6cedce9e8538e82811ed13cdd7a8eeb8b031b8fb2e700ead5d5bfe2c0bb7a59", func := "loop.example/g00889/laws.FnExactSpreadField", spec := "fnExactSpreadField", unfollowed := true, recurses := true, apart := false }
def FnExactSpreadFieldSaid : Prop := fnExactSpreadFieldRow.holds Try.pinned (OpenSpec.ofChange fnExactSpreadFieldSpec)

/-- ITS FALSE NEIGHBOUR: 'it returns false'. Refute it at one input. -/
def fnExactSpreadFieldWrong : ChangeSpec := { name := "fnExactSpreadField", fn := fun _ => fun
  | [d] => { results := [.lit (.bool false)], args := [d] }
  | _ => none }
def FnExactSpreadFieldWrongFalsely : Prop := fnExactSpreadFieldRow.holds Try.pinned (OpenSpec.ofChange fnExactSpreadFieldWrong)

/-- 'laws.FnExactNearestMember': WHATEVER THE INPUT: true; the input reads as it did. -/
def fnExactNearestMemberSpec : ChangeSpec := { name := "fnExactNearestMember", fn := fun _ => fun
  | [d1, d2] => { results := [.lit (.bool true)], args := [d1, d2] }
  | _ => none }
def fnExactNearestMemberRow : OpenClaim := { program := "ytpmfgghiiocccaa", sum := "e6cedce9e8538e82811ed13cdd7a8eeb8b031b8fb2e700ead5d5bfe2c0bb7a59", func := "loop.example/g00889/laws.FnExactNearestMember", spec := "fnExactNearestMember", apart := false }
def FnExactNearestMemberSaid : Prop := fnExactNearestMemberRow.holds Try.pinned (OpenSpec.ofChange fnExactNearestMemberSpec)

/-- ITS FALSE NEIGHBOUR: 'it returns false'. Refute it at one input. -/
def fnExactNearestMemberWrong : ChangeSpec := { name := "fnExactNearestMember", fn := fun _ => fun
  | [d1, d2] => { results := [.lit (.bool false)], args := [d1, d2] }
  | _ => none }
def FnExactNearestMemberWrongFalsely : Prop := fnExactNearestMemberRow.holds Try.pinned (OpenSpec.ofChange fnExactNearestMemberWrong)

/-- 'laws.FnExactRankOf': WHATEVER THE INPUT: true; the input reads as it did. -/
def fnExactRankOfSpec : ChangeSpec := { name := "fnExactRankOf", fn := fun _ => fun
  | [d1, d2, d3, d4] => { results := [.lit (.bool true)], args := [d1, d2, d3, d4] }
  | _ => none }
def fnExactRankOfRow : OpenClaim := { program := "ytpmfgghiiocccaa", sum := "e6cedce9e8538e82811ed13cdd7a8eeb8b031b8fb2e700ead5d5bfe2c0bb7a59", func := "loop.example/g00889/laws.FnExactRankOf", spec := "fnExactRankOf", apart := false }
def FnExactRankOfSaid : Prop := fnExactRankOfRow.holds Try.pinned (OpenSpec.ofChange fnExactRankOfSpec)

/-- ITS FALSE NEIGHBOUR: 'it returns false'. Refute it at one input. -/
def fnExactRankOfWrong : ChangeSpec := { name := "fnExactRankOf", fn := fun _ => fun
  | [d1, d2, d3, d4] => { results := [.lit (.bool false)], args := [d1, d2, d3, d4] }
  | _ => none }
def FnExactRankOfWrongFalsely : Prop := fnExactRankOfRow.holds Try.pinned (OpenSpec.ofChange fnExactRankOfWrong)

/-- 'laws.FnExactWithoutMember': WHATEVER THE INPUT: true; the input reads as it did. -/
def fnExactWithoutMemberSpec : ChangeSpec := { name := "fnExactWithoutMember", fn := fun _ => fun
  | [d1, d2] => { results := [.lit (.bool true)], args := [d1, d2] }
  | _ => none }
def fnExactWithoutMemberRow : OpenClaim := { program := "ytpmfgghiiocccaa", sum := "e6cedce9e8538e82811ed13cdd7a8eeb8b031b8fb2e700ead5d5bfe2c0bb7a59", func := "loop.example/g00889/laws.FnExactWithoutMember", spec := "fnExactWithoutMember", apart := false }
def FnExactWithoutMemberSaid : Prop := fnExactWithoutMemberRow.holds Try.pinned (OpenSpec.ofChange fnExactWithoutMemberSpec)

/-- ITS FALSE NEIGHBOUR: 'it returns false'. Refute it at one input. -/
def fnExactWithoutMemberWrong : ChangeSpec := { name := "fnExactWithoutMember", fn := fun _ => fun
  | [d1, d2] => { results := [.lit (.bool false)], args := [d1, d2] }
  | _ => none }
def FnExactWithoutMemberWrongFalsely : Prop := fnExactWithoutMemberRow.holds Try.pinned (OpenSpec.ofChange fnExactWithoutMemberWrong)

/-- 'laws.FnExactAgreeingCells': WHATEVER THE INPUT: true; the input reads as it did. -/
def fnExactAgreeingCellsSpec : ChangeSpec := { name := "fnExactAgreeingCells", fn := fun _ => fun
  | [d1, d2] => { results := [.lit (.bool true)], args := [d1, d2] }
  | _ => none }
def fnExactAgreeingCellsRow : OpenClaim := { program := "ytpmfgghiiocccaa", sum := "e6cedce9e8538e82811ed13cdd7a8eeb8b031b8fb2e700ead5d5bfe2c0bb7a59", func := "loop.example/g00889/laws.FnExactAgreeingCells", spec := "fnExactAgreeingCells", apart := false }
def FnExactAgreeingCellsSaid : Prop := fnExactAgreeingCellsRow.holds Try.pinned (OpenSpec.ofChange fnExactAgreeingCellsSpec)

/-- ITS FALSE NEIGHBOUR: 'it returns false'. Refute it at one input. -/
def fnExactAgreeingCellsWrong : ChangeSpec := { name := "fnExactAgreeingCells", fn := fun _ => fun
  | [d1, d2] => { results := [.lit (.bool false)], args := [d1, d2] }
  | _ => none }
def FnExactAgreeingCellsWrongFalsely : Prop := fnExactAgreeingCellsRow.holds Try.pinned (OpenSpec.ofChange fnExactAgreeingCellsWrong)

/-- 'laws.FnExactQuantileField': WHATEVER THE INPUT: true; the input reads as it did. -/
def fnExactQuantileFieldSpec : ChangeSpec := { name := "fnExactQuantileField", fn := fun _ => fun
  | [d1, d2, d3] => { results := [.lit (.bool true)], args := [d1, d2, d3] }
  | _ => none }
def fnExactQuantileFieldRow : OpenClaim := { program := "ytpmfgghiiocccaa", sum := "e6cedce9e8538e82811ed13cdd7a8eeb8b031b8fb2e700ead5d5bfe2c0bb7a59", func := "loop.example/g00889/laws.FnExactQuantileField", spec := "fnExactQuantileField", unfollowed := true, recurses := true, apart := false }
def FnExactQuantileFieldSaid : Prop := fnExactQuantileFieldRow.holds Try.pinned (OpenSpec.ofChange fnExactQuantileFieldSpec)

/-- ITS FALSE NEIGHBOUR: 'it returns false'. Refute it at one input. -/
def fnExactQuantileFieldWrong : ChangeSpec := { name := "fnExactQuantileField", fn := fun _ => fun
  | [d1, d2, d3] => { results := [.lit (.bool false)], args := [d1, d2, d3] }
  | _ => none }
def FnExactQuantileFieldWrongFalsely : Prop := fnExactQuantileFieldRow.holds Try.pinned (OpenSpec.ofChange fnExactQuantileFieldWrong)

/- THE SECOND FORM. 'bulk': how many values and letters a reading holds, each counted each time it is reached (what is shared counts as often as it is met; a slice's spare places count too). A statement '..UptoSaid' is the law's where the arguments, and the package variables that the reading takes, are together of bulk at most 1048576: NARROWER than '..Said'. Prove '..Said' where nothing that the law and all that it calls make is longer than what came in: it says more and counts as full. Else prove '..UptoSaid'. A law counts once. -/
mutual
def uptoBulk {H : Type} : DataW H → Nat
  | .lit (.string bytes) => bytes.length + 1
  | .lit _ => 1
  | .nil => 1
  | .ptr d => uptoBulk d + 1
  | .slice elems spare => uptoBulkAll elems + uptoBulkAll spare + 1
  | .agg parts => uptoBulkAll parts + 1
  | .iface _ d => uptoBulk d + 1
  | .map entries => uptoBulkEntries entries + 1
  | .held _ => 1
def uptoBulkAll {H : Type} : List (DataW H) → Nat
  | [] => 0
  | d :: r => uptoBulk d + uptoBulkAll r
def uptoBulkEntries {H : Type} : List (Lit × DataW H) → Nat
  | [] => 0
  | x :: r => uptoBulkEntry x + uptoBulkEntries r
def uptoBulkEntry {H : Type} : Lit × DataW H → Nat
  | (.string bytes, d) => bytes.length + uptoBulk d + 1
  | (_, d) => uptoBulk d + 1
 end
def uptoSmall : (H : Type) → List (DataW H) → Bool := fun _ ds => decide (uptoBulkAll ds ≤ 1048576)
def OpenSpec.upto (s : _root_.Go.ChangeSpec) : _root_.Go.OpenSpec := { _root_.Go.OpenSpec.ofChange s with cond := some uptoSmall }

/-- 'laws.FnExactIsValidEnsemble', WHERE WHAT IT READS IS OF BULK AT MOST 1048576: true; the input reads as it did. -/
def fnExactIsValidEnsembleUptoRow : OpenClaim := { program := "ytpmfgghiiocccaa", sum := "e6cedce9e8538e82811ed13cdd7a8eeb8b031b8fb2e700ead5d5bfe2c0bb7a59", func := "loop.example/g00889/laws.FnExactIsValidEnsemble", spec := "fnExactIsValidEnsemble", apart := false, narrowed := true }
def FnExactIsValidEnsembleUptoSaid : Prop := fnExactIsValidEnsembleUptoRow.holds Try.pinned (OpenSpec.upto fnExactIsValidEnsembleSpec)

/-- 'laws.FnExactCountAtLeast', WHERE WHAT IT READS IS OF BULK AT MOST 1048576: true; the input reads as it did. -/
def fnExactCountAtLeastUptoRow : OpenClaim := { program := "ytpmfgghiiocccaa", sum := "e6cedce9e8538e82811ed13cdd7a8eeb8b031b8fb2e700ead5d5bfe2c0bb7a59", func := "loop.example/g00889/laws.FnExactCountAtLeast", spec := "fnExactCountAtLeast", unfollowed := true, recurses := true, apart := false, narrowed := true }
def FnExactCountAtLeastUptoSaid : Prop := fnExactCountAtLeastUptoRow.holds Try.pinned (OpenSpec.upto fnExactCountAtLeastSpec)

/-- 'laws.FnExactChanceAt', WHERE WHAT IT READS IS OF BULK AT MOST 1048576: true; the input reads as it did. -/
def fnExactChanceAtUptoRow : OpenClaim := { program := "ytpmfgghiiocccaa", sum := "e6cedce9e8538e82811ed13cdd7a8eeb8b031b8fb2e700ead5d5bfe2c0bb7a59", func := "loop.example/g00889/laws.FnExactChanceAt", spec := "fnExactChanceAt", apart := false, narrowed := true }
def FnExactChanceAtUptoSaid : Prop := fnExactChanceAtUptoRow.holds Try.pinned (OpenSpec.upto fnExactChanceAtSpec)

/-- 'laws.FnExactMeanMember', WHERE WHAT IT READS IS OF BULK AT MOST 1048576: true; the input reads as it did. -/
def fnExactMeanMemberUptoRow : OpenClaim := { program := "ytpmfgghiiocccaa", sum := "e6cedce9e8538e82811ed13cdd7a8eeb8b031b8fb2e700ead5d5bfe2c0bb7a59", func := "loop.example/g00889/laws.FnExactMeanMember", spec := "fnExactMeanMember", unfollowed := true, recurses := true, apart := false, narrowed := true }
def FnExactMeanMemberUptoSaid : Prop := fnExactMeanMemberUptoRow.holds Try.pinned (OpenSpec.upto fnExactMeanMemberSpec)

/-- 'laws.FnExactSpreadField', WHERE WHAT IT READS IS OF BULK AT MOST 1048576: true; the input reads as it did. -/
def fnExactSpreadFieldUptoRow : OpenClaim := { program := "ytpmfgghiiocccaa", sum := "e6cedce9e8538e82811ed13cdd7a8eeb8b031b8fb2e700ead5d5bfe2c0bb7a59", func := "loop.example/g00889/laws.FnExactSpreadField", spec := "fnExactSpreadField", unfollowed := true, recurses := true, apart := false, narrowed := true }
def FnExactSpreadFieldUptoSaid : Prop := fnExactSpreadFieldUptoRow.holds Try.pinned (OpenSpec.upto fnExactSpreadFieldSpec)

/-- 'laws.FnExactNearestMember', WHERE WHAT IT READS IS OF BULK AT MOST 1048576: true; the input reads as it did. -/
def fnExactNearestMemberUptoRow : OpenClaim := { program := "ytpmfgghiiocccaa", sum := "e6cedce9e8538e82811ed13cdd7a8eeb8b031b8fb2e700ead5d5bfe2c0bb7a59", func := "loop.example/g00889/laws.FnExactNearestMember", spec := "fnExactNearestMember", apart := false, narrowed := true }
def FnExactNearestMemberUptoSaid : Prop := fnExactNearestMemberUptoRow.holds Try.pinned (OpenSpec.upto fnExactNearestMemberSpec)

/-- 'laws.FnExactRankOf', WHERE WHAT IT READS IS OF BULK AT MOST 1048576: true; the input reads as it did. -/
def fnExactRankOfUptoRow : OpenClaim := { program := "ytpmfgghiiocccaa", sum := "e6cedce9e8538e82811ed13cdd7a8eeb8b031b8fb2e700ead5d5bfe2c0bb7a59", func := "loop.example/g00889/laws.FnExactRankOf", spec := "fnExactRankOf", apart := false, narrowed := true }
def FnExactRankOfUptoSaid : Prop := fnExactRankOfUptoRow.holds Try.pinned (OpenSpec.upto fnExactRankOfSpec)

/-- 'laws.FnExactWithoutMember', WHERE WHAT IT READS IS OF BULK AT MOST 1048576: true; the input reads as it did. -/
def fnExactWithoutMemberUptoRow : OpenClaim := { program := "ytpmfgghiiocccaa", sum := "e6cedce9e8538e82811ed13cdd7a8eeb8b031b8fb2e700ead5d5bfe2c0bb7a59", func := "loop.example/g00889/laws.FnExactWithoutMember", spec := "fnExactWithoutMember", apart := false, narrowed := true }
def FnExactWithoutMemberUptoSaid : Prop := fnExactWithoutMemberUptoRow.holds Try.pinned (OpenSpec.upto fnExactWithoutMemberSpec)

/-- 'laws.FnExactAgreeingCells', WHERE WHAT IT READS IS OF BULK AT MOST 1048576: true; the input reads as it did. -/
def fnExactAgreeingCellsUptoRow : OpenClaim := { program := "ytpmfgghiiocccaa", sum := "e6cedce9e8538e82811ed13cdd7a8eeb8b031b8fb2e700ead5d5bfe2c0bb7a59", func := "loop.example/g00889/laws.FnExactAgreeingCells", spec := "fnExactAgreeingCells", apart := false, narrowed := true }
def FnExactAgreeingCellsUptoSaid : Prop := fnExactAgreeingCellsUptoRow.holds Try.pinned (OpenSpec.upto fnExactAgreeingCellsSpec)

/-- 'laws.FnExactQuantileField', WHERE WHAT IT READS IS OF BULK AT MOST 1048576: true; the input reads as it did. -/
def fnExactQuantileFieldUptoRow : OpenClaim := { program := "ytpmfgghiiocccaa", sum := "e6cedce9e8538e82811ed13cdd7a8eeb8b031b8fb2e700ead5d5bfe2c0bb7a59", func := "loop.example/g00889/laws.FnExactQuantileField", spec := "fnExactQuantileField", unfollowed := true, recurses := true, apart := false, narrowed := true }
def FnExactQuantileFieldUptoSaid : Prop := fnExactQuantileFieldUptoRow.holds Try.pinned (OpenSpec.upto fnExactQuantileFieldSpec)

end Rows
end Go.Proofs.Ytpmfgghiiocccaa
