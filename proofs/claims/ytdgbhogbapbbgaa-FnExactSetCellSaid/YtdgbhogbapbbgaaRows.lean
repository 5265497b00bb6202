/-
  No cell of these rows narrows 'for every input' (looked for: loops, veiled, ifaces, maps, wideKeys, modest, calm, conditions, laid).
  DERIVED. THE GIVEN ROWS OF THIS SEAT. 10 by the template 'for every input the law returns true; each argument reads behind the call as it read before'; 0 by the template 'total and deterministic' (their statements: YtdgbhogbapbbgaaTotals.lean).
  GIVEN WITH THE SEED: the statements are not yours to turn. If you find one false, say at which input.
  Laid BY PROGRAM, IN A SANDBOX (cutbox-rows.mjs): the forced cells as the released guide's own fill.sh prints them over the translation d6925b88f8fc1b9c… (all of the seat's roots in one cut). By AI agents, Wed Nov 11 2026. No macro, syntax, notation, axiom, sorry.
-/
import Derived.Test.YtdgbhogbapbbgaaChecked
import GoSem.Claim
import GoSem.ClaimJoined
import GoSem.ClaimMapViews
import Derived.JoinedTies
import Derived.KernelRfl
namespace Go.Proofs.Ytdgbhogbapbbgaa
/- THE CELL 'sum', in the pinned program and in every row, IS THE sha256 OF THE DUMP (.gsa) THAT YtdgbhogbapbbgaaProg.lean LOADS. Nothing in Lean hashes anything: it is a label: what it is worth is what the hold of that sum in a sandbox is worth. -/
noncomputable def Try.pinned : Pinned := { name := "ytdgbhogbapbbgaa", sum := "d6925b88f8fc1b9c075c19f8d70500c94506aee43d033da2dbd568271c89cbb8", checked := Try.checked }
namespace Rows
def none {H : Type} : Left H := { results := [], args := [] }

/-- 'laws.FnSplitJoin': WHATEVER THE INPUT: true; the input reads as it did. -/
def fnSplitJoinSpec : ChangeSpec := { name := "fnSplitJoin", fn := fun _ => fun
  | [d] => { results := [.lit (.bool true)], args := [d] }
  | _ => none }
def fnSplitJoinRow : OpenClaim := { program := "ytdgbhogbapbbgaa", sum := "d6925b88f8fc1b9c075c19f8d70500c94506aee43d033da2dbd568271c89cbb8", func := "loop.example/g00889/laws.FnSplitJoin", spec := "fnSplitJoin", inPlace := ["internal/abi.NoEscape"], unfollowed := true, recurses := true, apart := false }
def FnSplitJoinSaid : Prop := fnSplitJoinRow.holds Try.pinned (OpenSpec.ofChange fnSplitJoinSpec)

/-- ITS FALSE NEIGHBOUR: 'it returns false'. Refute it at one input. -/
def fnSplitJoinWrong : ChangeSpec := { name := "fnSplitJoin", fn := fun _ => fun
  | [d] => { results := [.lit (.bool false)], args := [d] }
  | _ => none }
def FnSplitJoinWrongFalsely : Prop := fnSplitJoinRow.holds Try.pinned (OpenSpec.ofChange fnSplitJoinWrong)

/-- 'laws.FnTotals': WHATEVER THE INPUT: true; the input reads as it did. -/
def fnTotalsSpec : ChangeSpec := { name := "fnTotals", fn := fun _ => fun
  | [d] => { results := [.lit (.bool true)], args := [d] }
  | _ => none }
def fnTotalsRow : OpenClaim := { program := "ytdgbhogbapbbgaa", sum := "d6925b88f8fc1b9c075c19f8d70500c94506aee43d033da2dbd568271c89cbb8", func := "loop.example/g00889/laws.FnTotals", spec := "fnTotals", apart := false }
def FnTotalsSaid : Prop := fnTotalsRow.holds Try.pinned (OpenSpec.ofChange fnTotalsSpec)

/-- ITS FALSE NEIGHBOUR: 'it returns false'. Refute it at one input. -/
def fnTotalsWrong : ChangeSpec := { name := "fnTotals", fn := fun _ => fun
  | [d] => { results := [.lit (.bool false)], args := [d] }
  | _ => none }
def FnTotalsWrongFalsely : Prop := fnTotalsRow.holds Try.pinned (OpenSpec.ofChange fnTotalsWrong)

/-- 'laws.FnExactSplitString': WHATEVER THE INPUT: true; the input reads as it did. -/
def fnExactSplitStringSpec : ChangeSpec := { name := "fnExactSplitString", fn := fun _ => fun
  | [d1, d2] => { results := [.lit (.bool true)], args := [d1, d2] }
  | _ => none }
def fnExactSplitStringRow : OpenClaim := { program := "ytdgbhogbapbbgaa", sum := "d6925b88f8fc1b9c075c19f8d70500c94506aee43d033da2dbd568271c89cbb8", func := "loop.example/g00889/laws.FnExactSplitString", spec := "fnExactSplitString", unfollowed := true, recurses := true, apart := false }
def FnExactSplitStringSaid : Prop := fnExactSplitStringRow.holds Try.pinned (OpenSpec.ofChange fnExactSplitStringSpec)

/-- ITS FALSE NEIGHBOUR: 'it returns false'. Refute it at one input. -/
def fnExactSplitStringWrong : ChangeSpec := { name := "fnExactSplitString", fn := fun _ => fun
  | [d1, d2] => { results := [.lit (.bool false)], args := [d1, d2] }
  | _ => none }
def FnExactSplitStringWrongFalsely : Prop := fnExactSplitStringRow.holds Try.pinned (OpenSpec.ofChange fnExactSplitStringWrong)

/-- 'laws.FnExactIsValidField': WHATEVER THE INPUT: true; the input reads as it did. -/
def fnExactIsValidFieldSpec : ChangeSpec := { name := "fnExactIsValidField", fn := fun _ => fun
  | [d] => { results := [.lit (.bool true)], args := [d] }
  | _ => none }
def fnExactIsValidFieldRow : OpenClaim := { program := "ytdgbhogbapbbgaa", sum := "d6925b88f8fc1b9c075c19f8d70500c94506aee43d033da2dbd568271c89cbb8", func := "loop.example/g00889/laws.FnExactIsValidField", spec := "fnExactIsValidField", apart := false }
def FnExactIsValidFieldSaid : Prop := fnExactIsValidFieldRow.holds Try.pinned (OpenSpec.ofChange fnExactIsValidFieldSpec)

/-- ITS FALSE NEIGHBOUR: 'it returns false'. Refute it at one input. -/
def fnExactIsValidFieldWrong : ChangeSpec := { name := "fnExactIsValidField", fn := fun _ => fun
  | [d] => { results := [.lit (.bool false)], args := [d] }
  | _ => none }
def FnExactIsValidFieldWrongFalsely : Prop := fnExactIsValidFieldRow.holds Try.pinned (OpenSpec.ofChange fnExactIsValidFieldWrong)

/-- 'laws.FnExactNewField': WHATEVER THE INPUT: true; the input reads as it did. -/
def fnExactNewFieldSpec : ChangeSpec := { name := "fnExactNewField", fn := fun _ => fun
  | [d1, d2, d3] => { results := [.lit (.bool true)], args := [d1, d2, d3] }
  | _ => none }
def fnExactNewFieldRow : OpenClaim := { program := "ytdgbhogbapbbgaa", sum := "d6925b88f8fc1b9c075c19f8d70500c94506aee43d033da2dbd568271c89cbb8", func := "loop.example/g00889/laws.FnExactNewField", spec := "fnExactNewField", apart := false }
def FnExactNewFieldSaid : Prop := fnExactNewFieldRow.holds Try.pinned (OpenSpec.ofChange fnExactNewFieldSpec)

/-- ITS FALSE NEIGHBOUR: 'it returns false'. Refute it at one input. -/
def fnExactNewFieldWrong : ChangeSpec := { name := "fnExactNewField", fn := fun _ => fun
  | [d1, d2, d3] => { results := [.lit (.bool false)], args := [d1, d2, d3] }
  | _ => none }
def FnExactNewFieldWrongFalsely : Prop := fnExactNewFieldRow.holds Try.pinned (OpenSpec.ofChange fnExactNewFieldWrong)

/-- 'laws.FnExactCellAt': WHATEVER THE INPUT: true; the input reads as it did. -/
def fnExactCellAtSpec : ChangeSpec := { name := "fnExactCellAt", fn := fun _ => fun
  | [d1, d2, d3] => { results := [.lit (.bool true)], args := [d1, d2, d3] }
  | _ => none }
def fnExactCellAtRow : OpenClaim := { program := "ytdgbhogbapbbgaa", sum := "d6925b88f8fc1b9c075c19f8d70500c94506aee43d033da2dbd568271c89cbb8", func := "loop.example/g00889/laws.FnExactCellAt", spec := "fnExactCellAt", apart := false }
def FnExactCellAtSaid : Prop := fnExactCellAtRow.holds Try.pinned (OpenSpec.ofChange fnExactCellAtSpec)

/-- ITS FALSE NEIGHBOUR: 'it returns false'. Refute it at one input. -/
def fnExactCellAtWrong : ChangeSpec := { name := "fnExactCellAt", fn := fun _ => fun
  | [d1, d2, d3] => { results := [.lit (.bool false)], args := [d1, d2, d3] }
  | _ => none }
def FnExactCellAtWrongFalsely : Prop := fnExactCellAtRow.holds Try.pinned (OpenSpec.ofChange fnExactCellAtWrong)

/-- 'laws.FnExactSetCell': WHATEVER THE INPUT: true; the input reads as it did. -/
def fnExactSetCellSpec : ChangeSpec := { name := "fnExactSetCell", fn := fun _ => fun
  | [d1, d2, d3, d4] => { results := [.lit (.bool true)], args := [d1, d2, d3, d4] }
  | _ => none }
def fnExactSetCellRow : OpenClaim := { program := "ytdgbhogbapbbgaa", sum := "d6925b88f8fc1b9c075c19f8d70500c94506aee43d033da2dbd568271c89cbb8", func := "loop.example/g00889/laws.FnExactSetCell", spec := "fnExactSetCell", apart := false }
def FnExactSetCellSaid : Prop := fnExactSetCellRow.holds Try.pinned (OpenSpec.ofChange fnExactSetCellSpec)

/-- ITS FALSE NEIGHBOUR: 'it returns false'. Refute it at one input. -/
def fnExactSetCellWrong : ChangeSpec := { name := "fnExactSetCell", fn := fun _ => fun
  | [d1, d2, d3, d4] => { results := [.lit (.bool false)], args := [d1, d2, d3, d4] }
  | _ => none }
def FnExactSetCellWrongFalsely : Prop := fnExactSetCellRow.holds Try.pinned (OpenSpec.ofChange fnExactSetCellWrong)

/-- 'laws.FnExactCountMissing': WHATEVER THE INPUT: true; the input reads as it did. -/
def fnExactCountMissingSpec : ChangeSpec := { name := "fnExactCountMissing", fn := fun _ => fun
  | [d] => { results := [.lit (.bool true)], args := [d] }
  | _ => none }
def fnExactCountMissingRow : OpenClaim := { program := "ytdgbhogbapbbgaa", sum := "d6925b88f8fc1b9c075c19f8d70500c94506aee43d033da2dbd568271c89cbb8", func := "loop.example/g00889/laws.FnExactCountMissing", spec := "fnExactCountMissing", apart := false }
def FnExactCountMissingSaid : Prop := fnExactCountMissingRow.holds Try.pinned (OpenSpec.ofChange fnExactCountMissingSpec)

/-- ITS FALSE NEIGHBOUR: 'it returns false'. Refute it at one input. -/
def fnExactCountMissingWrong : ChangeSpec := { name := "fnExactCountMissing", fn := fun _ => fun
  | [d] => { results := [.lit (.bool false)], args := [d] }
  | _ => none }
def FnExactCountMissingWrongFalsely : Prop := fnExactCountMissingRow.holds Try.pinned (OpenSpec.ofChange fnExactCountMissingWrong)

/-- 'laws.FnExactFieldRange': WHATEVER THE INPUT: true; the input reads as it did. -/
def fnExactFieldRangeSpec : ChangeSpec := { name := "fnExactFieldRange", fn := fun _ => fun
  | [d] => { results := [.lit (.bool true)], args := [d] }
  | _ => none }
def fnExactFieldRangeRow : OpenClaim := { program := "ytdgbhogbapbbgaa", sum := "d6925b88f8fc1b9c075c19f8d70500c94506aee43d033da2dbd568271c89cbb8", func := "loop.example/g00889/laws.FnExactFieldRange", spec := "fnExactFieldRange", apart := false }
def FnExactFieldRangeSaid : Prop := fnExactFieldRangeRow.holds Try.pinned (OpenSpec.ofChange fnExactFieldRangeSpec)

/-- ITS FALSE NEIGHBOUR: 'it returns false'. Refute it at one input. -/
def fnExactFieldRangeWrong : ChangeSpec := { name := "fnExactFieldRange", fn := fun _ => fun
  | [d] => { results := [.lit (.bool false)], args := [d] }
  | _ => none }
def FnExactFieldRangeWrongFalsely : Prop := fnExactFieldRangeRow.holds Try.pinned (OpenSpec.ofChange fnExactFieldRangeWrong)

/-- 'laws.FnExactFieldTotal': WHATEVER THE INPUT: true; the input reads as it did. -/
def fnExactFieldTotalSpec : ChangeSpec := { name := "fnExactFieldTotal", fn := fun _ => fun
  | [d] => { results := [.lit (.bool true)], args := [d] }
  | _ => none }
def fnExactFieldTotalRow : OpenClaim := { program := "ytdgbhogbapbbgaa", sum := "d6925b88f8fc1b9c075c19f8d70500c94506aee43d033da2dbd568271c89cbb8", func := "loop.example/g00889/laws.FnExactFieldTotal", spec := "fnExactFieldTotal", apart := false }
def FnExactFieldTotalSaid : Prop := fnExactFieldTotalRow.holds Try.pinned (OpenSpec.ofChange fnExactFieldTotalSpec)

/-- ITS FALSE NEIGHBOUR: 'it returns false'. Refute it at one input. -/
def fnExactFieldTotalWrong : ChangeSpec := { name := "fnExactFieldTotal", fn := fun _ => fun
  | [d] => { results := [.lit (.bool false)], args := [d] }
  | _ => none }
def FnExactFieldTotalWrongFalsely : Prop := fnExactFieldTotalRow.holds Try.pinned (OpenSpec.ofChange fnExactFieldTotalWrong)

/- THE SECOND FORM. 'bulk': how many values and letters a reading holds, each counted each time it is reached (what is shared counts as often as it is met; a slice's spare places count too). A statement '..UptoSaid' is the law's where the arguments, and the package variables that the reading takes, are together of bulk at most 1048576: NARROWER than '..Said'. Prove '..Said' where nothing that the law and all that it calls make is longer than what came in: it says more and counts as full. Else prove '..UptoSaid'. A law counts once. -/
mutual
def uptoBulk {H : Type} : DataW H → Nat
  | .lit (.string bytes) => bytes.length + 1
  | .lit _ => 1
  | .nil => 1
  | .ptr d => uptoBulk d + 1
  | .slice elems spare => uptoBulkAll elems + uptoBulkAll spare + 1
  | .agg parts => uptoBulkAll parts + 1
  | .iface _ d => uptoBulk d + 1
  | .map entries => uptoBulkEntries entries + 1
  | .held _ => 1
def uptoBulkAll {H : Type} : List (DataW H) → Nat
  | [] => 0
  | d :: r => uptoBulk d + uptoBulkAll r
def uptoBulkEntries {H : Type} : List (Lit × DataW H) → Nat
  | [] => 0
  | x :: r => uptoBulkEntry x + uptoBulkEntries r
def uptoBulkEntry {H : Type} : Lit × DataW H → Nat
  | (.string bytes, d) => bytes.length + uptoBulk d + 1
  | (_, d) => uptoBulk d + 1
 end
def uptoSmall : (H : Type) → List (DataW H) → Bool := fun _ ds => decide (uptoBulkAll ds ≤ 1048576)
def OpenSpec.upto (s : _root_.Go.ChangeSpec) : _root_.Go.OpenSpec := { _root_.Go.OpenSpec.ofChange s with cond := some uptoSmall }

/-- 'laws.FnSplitJoin', WHERE WHAT IT READS IS OF BULK AT MOST 1048576: true; the input reads as it did. -/
def fnSplitJoinUptoRow : OpenClaim := { program := "ytdgbhogbapbbgaa", sum := "d6925b88f8fc1b9c075c19f8d70500c94506aee43d033da2dbd568271c89cbb8", func := "loop.example/g00889/laws.FnSplitJoin", spec := "fnSplitJoin", inPlace := ["internal/abi.NoEscape"], unfollowed := true, recurses := true, apart := false, narrowed := true }
def FnSplitJoinUptoSaid : Prop := fnSplitJoinUptoRow.holds Try.pinned (OpenSpec.upto fnSplitJoinSpec)

/-- 'laws.FnTotals', WHERE WHAT IT READS IS OF BULK AT MOST 1048576: true; the input reads as it did. -/
def fnTotalsUptoRow : OpenClaim := { program := "ytdgbhogbapbbgaa", sum := "d6925b88f8fc1b9c075c19f8d70500c94506aee43d033da2dbd568271c89cbb8", func := "loop.example/g00889/laws.FnTotals", spec := "fnTotals", apart := false, narrowed := true }
def FnTotalsUptoSaid : Prop := fnTotalsUptoRow.holds Try.pinned (OpenSpec.upto fnTotalsSpec)

/-- 'laws.FnExactSplitString', WHERE WHAT IT READS IS OF BULK AT MOST 1048576: true; the input reads as it did. -/
def fnExactSplitStringUptoRow : OpenClaim := { program := "ytdgbhogbapbbgaa", sum := "d6925b88f8fc1b9c075c19f8d70500c94506aee43d033da2dbd568271c89cbb8", func := "loop.example/g00889/laws.FnExactSplitString", spec := "fnExactSplitString", unfollowed := true, recurses := true, apart := false, narrowed := true }
def FnExactSplitStringUptoSaid : Prop := fnExactSplitStringUptoRow.holds Try.pinned (OpenSpec.upto fnExactSplitStringSpec)

/-- 'laws.FnExactIsValidField', WHERE WHAT IT READS IS OF BULK AT MOST 1048576: true; the input reads as it did. -/
def fnExactIsValidFieldUptoRow : OpenClaim := { program := "ytdgbhogbapbbgaa", sum := "d6925b88f8fc1b9c075c19f8d70500c94506aee43d033da2dbd568271c89cbb8", func := "loop.example/g00889/laws.FnExactIsValidField", spec := "fnExactIsValidField", apart := false, narrowed := true }
def FnExactIsValidFieldUptoSaid : Prop := fnExactIsValidFieldUptoRow.holds Try.pinned (OpenSpec.upto fnExactIsValidFieldSpec)

/-- 'laws.FnExactNewField', WHERE WHAT IT READS IS OF BULK AT MOST 1048576: true; the input reads as it did. -/
def fnExactNewFieldUptoRow : OpenClaim := { program := "ytdgbhogbapbbgaa", sum := "d6925b88f8fc1b9c075c19f8d70500c94506aee43d033da2dbd568271c89cbb8", func := "loop.example/g00889/laws.FnExactNewField", spec := "fnExactNewField", apart := false, narrowed := true }
def FnExactNewFieldUptoSaid : Prop := fnExactNewFieldUptoRow.holds Try.pinned (OpenSpec.upto fnExactNewFieldSpec)

/-- 'laws.FnExactCellAt', WHERE WHAT IT READS IS OF BULK AT MOST 1048576: true; the input reads as it did. -/
def fnExactCellAtUptoRow : OpenClaim := { program := "ytdgbhogbapbbgaa", sum := "d6925b88f8fc1b9c075c19f8d70500c94506aee43d033da2dbd568271c89cbb8", func := "loop.example/g00889/laws.FnExactCellAt", spec := "fnExactCellAt", apart := false, narrowed := true }
def FnExactCellAtUptoSaid : Prop := fnExactCellAtUptoRow.holds Try.pinned (OpenSpec.upto fnExactCellAtSpec)

/-- 'laws.FnExactSetCell', WHERE WHAT IT READS IS OF BULK AT MOST 1048576: true; the input reads as it did. -/
def fnExactSetCellUptoRow : OpenClaim := { program := "ytdgbhogbapbbgaa", sum := "d6925b88f8fc1b9c075c19f8d70500c94506aee43d033da2dbd568271c89cbb8", func := "loop.example/g00889/laws.FnExactSetCell", spec := "fnExactSetCell", apart := false, narrowed := true }
def FnExactSetCellUptoSaid : Prop := fnExactSetCellUptoRow.holds Try.pinned (OpenSpec.upto fnExactSetCellSpec)

/-- 'laws.FnExactCountMissing', WHERE WHAT IT READS IS OF BULK AT MOST 1048576: true; the input reads as it did. -/
def fnExactCountMissingUptoRow : OpenClaim := { program := "ytdgbhogbapbbgaa", sum := "d6925b88f8fc1b9c075c19f8d70500c94506aee43d033da2dbd568271c89cbb8", func := "loop.example/g00889/laws.FnExactCountMissing", spec := "fnExactCountMissing", apart := false, narrowed := true }
def FnExactCountMissingUptoSaid : Prop := fnExactCountMissingUptoRow.holds Try.pinned (OpenSpec.upto fnExactCountMissingSpec)

/-- 'laws.FnExactFieldRange', WHERE WHAT IT READS IS OF BULK AT MOST 1048576: true; the input reads as it did. -/
def fnExactFieldRangeUptoRow : OpenClaim := { program := "ytdgbhogbapbbgaa", sum := "d6925b88f8fc1b9c075c19f8d70500c94506aee43d033da2dbd568271c89cbb8", func := "loop.example/g00889/laws.FnExactFieldRange", spec := "fnExactFieldRange", apart := false, narrowed := true }
def FnExactFieldRangeUptoSaid : Prop := fnExactFieldRangeUptoRow.holds Try.pinned (OpenSpec.upto fnExactFieldRangeSpec)

/-- 'laws.FnExactFieldTotal', WHERE WHAT IT READS IS OF BULK AT MOST 1048576: true; the input reads as it did. -/
def fnExactFieldTotalUptoRow : OpenClaim := { program := "ytdgbhogbapbbgaa", sum := "d6925b88f8fc1b9c075c19f8d70500c94506aee43d033da2dbd568271c89cbb8", func := "loop.example/g00889/laws.FnExactFieldTotal", spec := "fnExactFieldTotal", apart := false, narrowed := true }
def FnExactFieldTotalUptoSaid : Prop := fnExactFieldTotalUptoRow.holds Try.pinned (OpenSpec.upto fnExactFieldTotalSpec)

end Rows
end Go.Proofs.Ytdgbhogbapbbgaa
