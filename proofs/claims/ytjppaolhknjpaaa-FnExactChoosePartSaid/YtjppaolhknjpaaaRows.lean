/-
  No cell of these rows narrows 'for every input' (looked for: loops, veiled, ifaces, maps, wideKeys, modest, calm, conditions, laid).
  DERIVED. THE GIVEN ROWS OF THIS SEAT. 12 by the template 'for every input the law returns true; each argument reads behind the call as it read before'; 0 by the template 'total and deterministic' (their statements: YtjppaolhknjpaaaTotals.lean).
  GIVEN WITH THE SEED: the statements are not yours to turn. If you find one false, say at which input.
  Laid BY PROGRAM, IN A SANDBOX (cutbox-rows.mjs): the forced cells as the released guide's own fill.sh prints them over the translation 0d32bb9c8e223ddb… (all of the seat's roots in one cut). By AI agents, Wed Nov 11 2026. No macro, syntax, notation, axiom, sorry.
-/
import Derived.Test.YtjppaolhknjpaaaChecked
import GoSem.Claim
import GoSem.ClaimJoined
import GoSem.ClaimMapViews
import Derived.JoinedTies
import Derived.KernelRfl
namespace Go.Proofs.Ytjppaolhknjpaaa
/- THE CELL 'sum', in the pinned program and in every row, IS THE sha256 OF THE DUMP (.gsa) THAT YtjppaolhknjpaaaProg.lean LOADS. Nothing in Lean hashes anything: it is a label: what it is worth is what the hold of that sum in a sandbox is worth. -/
noncomputable def Try.pinned : Pinned := { name := "ytjppaolhknjpaaa", sum := "0d32bb9c8e223ddb1cd48b4a007ae525cc118d82e99df2104056c5812c6cdd96", checked := Try.checked }
namespace Rows
def none {H : Type} : Left H := { results := [], args := [] }

/-- 'laws.FnTotals': WHATEVER THE INPUT: true; the input reads as it did. -/
def fnTotalsSpec : ChangeSpec := { name := "fnTotals", fn := fun _ => fun
  | [d] => { results := [.lit (.bool true)], args := [d] }
  | _ => none }
def fnTotalsRow : OpenClaim := { program := "ytjppaolhknjpaaa", sum := "0d32bb9c8e223ddb1cd48b4a007ae525cc118d82e99df2104056c5812c6cdd96", func := "loop.example/g00889/laws.FnTotals", spec := "fnTotals", apart := false }
def FnTotalsSaid : Prop := fnTotalsRow.holds Try.pinned (OpenSpec.ofChange fnTotalsSpec)

/-- ITS FALSE NEIGHBOUR: 'it returns false'. Refute it at one input. -/
def fnTotalsWrong : ChangeSpec := { name := "fnTotals", fn := fun _ => fun
  | [d] => { results := [.lit (.bool false)], args := [d] }
  | _ => none }
def FnTotalsWrongFalsely : Prop := fnTotalsRow.holds Try.pinned (OpenSpec.ofChange fnTotalsWrong)

/-- 'laws.FnAlgebra': WHATEVER THE INPUT: true; the input reads as it did. -/
def fnAlgebraSpec : ChangeSpec := { name := "fnAlgebra", fn := fun _ => fun
  | [d] => { results := [.lit (.bool true)], args := [d] }
  | _ => none }
def fnAlgebraRow : OpenClaim := { program := "ytjppaolhknjpaaa", sum := "0d32bb9c8e223ddb1cd48b4a007ae525cc118d82e99df2104056c5812c6cdd96", func := "loop.example/g00889/laws.FnAlgebra", spec := "fnAlgebra", unfollowed := true, recurses := true, apart := false }
def FnAlgebraSaid : Prop := fnAlgebraRow.holds Try.pinned (OpenSpec.ofChange fnAlgebraSpec)

/-- ITS FALSE NEIGHBOUR: 'it returns false'. Refute it at one input. -/
def fnAlgebraWrong : ChangeSpec := { name := "fnAlgebra", fn := fun _ => fun
  | [d] => { results := [.lit (.bool false)], args := [d] }
  | _ => none }
def FnAlgebraWrongFalsely : Prop := fnAlgebraRow.holds Try.pinned (OpenSpec.ofChange fnAlgebraWrong)

/-- 'laws.FnMasks': WHATEVER THE INPUT: true; the input reads as it did. -/
def fnMasksSpec : ChangeSpec := { name := "fnMasks", fn := fun _ => fun
  | [d] => { results := [.lit (.bool true)], args := [d] }
  | _ => none }
def fnMasksRow : OpenClaim := { program := "ytjppaolhknjpaaa", sum := "0d32bb9c8e223ddb1cd48b4a007ae525cc118d82e99df2104056c5812c6cdd96", func := "loop.example/g00889/laws.FnMasks", spec := "fnMasks", unfollowed := true, recurses := true, apart := false }
def FnMasksSaid : Prop := fnMasksRow.holds Try.pinned (OpenSpec.ofChange fnMasksSpec)

/-- ITS FALSE NEIGHBOUR: 'it returns false'. Refute it at one input. -/
def fnMasksWrong : ChangeSpec := { name := "fnMasks", fn := fun _ => fun
  | [d] => { results := [.lit (.bool false)], args := [d] }
  | _ => none }
def FnMasksWrongFalsely : Prop := fnMasksRow.holds Try.pinned (OpenSpec.ofChange fnMasksWrong)

/-- 'laws.FnExactCombine': WHATEVER THE INPUT: true; the input reads as it did. -/
def fnExactCombineSpec : ChangeSpec := { name := "fnExactCombine", fn := fun _ => fun
  | [d1, d2, d3] => { results := [.lit (.bool true)], args := [d1, d2, d3] }
  | _ => none }
def fnExactCombineRow : OpenClaim := { program := "ytjppaolhknjpaaa", sum := "0d32bb9c8e223ddb1cd48b4a007ae525cc118d82e99df2104056c5812c6cdd96", func := "loop.example/g00889/laws.FnExactCombine", spec := "fnExactCombine", unfollowed := true, recurses := true, apart := false }
def FnExactCombineSaid : Prop := fnExactCombineRow.holds Try.pinned (OpenSpec.ofChange fnExactCombineSpec)

/-- ITS FALSE NEIGHBOUR: 'it returns false'. Refute it at one input. -/
def fnExactCombineWrong : ChangeSpec := { name := "fnExactCombine", fn := fun _ => fun
  | [d1, d2, d3] => { results := [.lit (.bool false)], args := [d1, d2, d3] }
  | _ => none }
def FnExactCombineWrongFalsely : Prop := fnExactCombineRow.holds Try.pinned (OpenSpec.ofChange fnExactCombineWrong)

/-- 'laws.FnExactScaleField': WHATEVER THE INPUT: true; the input reads as it did. -/
def fnExactScaleFieldSpec : ChangeSpec := { name := "fnExactScaleField", fn := fun _ => fun
  | [d1, d2, d3] => { results := [.lit (.bool true)], args := [d1, d2, d3] }
  | _ => none }
def fnExactScaleFieldRow : OpenClaim := { program := "ytjppaolhknjpaaa", sum := "0d32bb9c8e223ddb1cd48b4a007ae525cc118d82e99df2104056c5812c6cdd96", func := "loop.example/g00889/laws.FnExactScaleField", spec := "fnExactScaleField", unfollowed := true, recurses := true, apart := false }
def FnExactScaleFieldSaid : Prop := fnExactScaleFieldRow.holds Try.pinned (OpenSpec.ofChange fnExactScaleFieldSpec)

/-- ITS FALSE NEIGHBOUR: 'it returns false'. Refute it at one input. -/
def fnExactScaleFieldWrong : ChangeSpec := { name := "fnExactScaleField", fn := fun _ => fun
  | [d1, d2, d3] => { results := [.lit (.bool false)], args := [d1, d2, d3] }
  | _ => none }
def FnExactScaleFieldWrongFalsely : Prop := fnExactScaleFieldRow.holds Try.pinned (OpenSpec.ofChange fnExactScaleFieldWrong)

/-- 'laws.FnExactExceeds': WHATEVER THE INPUT: true; the input reads as it did. -/
def fnExactExceedsSpec : ChangeSpec := { name := "fnExactExceeds", fn := fun _ => fun
  | [d1, d2] => { results := [.lit (.bool true)], args := [d1, d2] }
  | _ => none }
def fnExactExceedsRow : OpenClaim := { program := "ytjppaolhknjpaaa", sum := "0d32bb9c8e223ddb1cd48b4a007ae525cc118d82e99df2104056c5812c6cdd96", func := "loop.example/g00889/laws.FnExactExceeds", spec := "fnExactExceeds", unfollowed := true, recurses := true, apart := false }
def FnExactExceedsSaid : Prop := fnExactExceedsRow.holds Try.pinned (OpenSpec.ofChange fnExactExceedsSpec)

/-- ITS FALSE NEIGHBOUR: 'it returns false'. Refute it at one input. -/
def fnExactExceedsWrong : ChangeSpec := { name := "fnExactExceeds", fn := fun _ => fun
  | [d1, d2] => { results := [.lit (.bool false)], args := [d1, d2] }
  | _ => none }
def FnExactExceedsWrongFalsely : Prop := fnExactExceedsRow.holds Try.pinned (OpenSpec.ofChange fnExactExceedsWrong)

/-- 'laws.FnExactMaskField': WHATEVER THE INPUT: true; the input reads as it did. -/
def fnExactMaskFieldSpec : ChangeSpec := { name := "fnExactMaskField", fn := fun _ => fun
  | [d1, d2] => { results := [.lit (.bool true)], args := [d1, d2] }
  | _ => none }
def fnExactMaskFieldRow : OpenClaim := { program := "ytjppaolhknjpaaa", sum := "0d32bb9c8e223ddb1cd48b4a007ae525cc118d82e99df2104056c5812c6cdd96", func := "loop.example/g00889/laws.FnExactMaskField", spec := "fnExactMaskField", unfollowed := true, recurses := true, apart := false }
def FnExactMaskFieldSaid : Prop := fnExactMaskFieldRow.holds Try.pinned (OpenSpec.ofChange fnExactMaskFieldSpec)

/-- ITS FALSE NEIGHBOUR: 'it returns false'. Refute it at one input. -/
def fnExactMaskFieldWrong : ChangeSpec := { name := "fnExactMaskField", fn := fun _ => fun
  | [d1, d2] => { results := [.lit (.bool false)], args := [d1, d2] }
  | _ => none }
def FnExactMaskFieldWrongFalsely : Prop := fnExactMaskFieldRow.holds Try.pinned (OpenSpec.ofChange fnExactMaskFieldWrong)

/-- 'laws.FnExactFillFrom': WHATEVER THE INPUT: true; the input reads as it did. -/
def fnExactFillFromSpec : ChangeSpec := { name := "fnExactFillFrom", fn := fun _ => fun
  | [d1, d2] => { results := [.lit (.bool true)], args := [d1, d2] }
  | _ => none }
def fnExactFillFromRow : OpenClaim := { program := "ytjppaolhknjpaaa", sum := "0d32bb9c8e223ddb1cd48b4a007ae525cc118d82e99df2104056c5812c6cdd96", func := "loop.example/g00889/laws.FnExactFillFrom", spec := "fnExactFillFrom", unfollowed := true, recurses := true, apart := false }
def FnExactFillFromSaid : Prop := fnExactFillFromRow.holds Try.pinned (OpenSpec.ofChange fnExactFillFromSpec)

/-- ITS FALSE NEIGHBOUR: 'it returns false'. Refute it at one input. -/
def fnExactFillFromWrong : ChangeSpec := { name := "fnExactFillFrom", fn := fun _ => fun
  | [d1, d2] => { results := [.lit (.bool false)], args := [d1, d2] }
  | _ => none }
def FnExactFillFromWrongFalsely : Prop := fnExactFillFromRow.holds Try.pinned (OpenSpec.ofChange fnExactFillFromWrong)

/-- 'laws.FnExactClipField': WHATEVER THE INPUT: true; the input reads as it did. -/
def fnExactClipFieldSpec : ChangeSpec := { name := "fnExactClipField", fn := fun _ => fun
  | [d1, d2, d3] => { results := [.lit (.bool true)], args := [d1, d2, d3] }
  | _ => none }
def fnExactClipFieldRow : OpenClaim := { program := "ytjppaolhknjpaaa", sum := "0d32bb9c8e223ddb1cd48b4a007ae525cc118d82e99df2104056c5812c6cdd96", func := "loop.example/g00889/laws.FnExactClipField", spec := "fnExactClipField", unfollowed := true, recurses := true, apart := false }
def FnExactClipFieldSaid : Prop := fnExactClipFieldRow.holds Try.pinned (OpenSpec.ofChange fnExactClipFieldSpec)

/-- ITS FALSE NEIGHBOUR: 'it returns false'. Refute it at one input. -/
def fnExactClipFieldWrong : ChangeSpec := { name := "fnExactClipField", fn := fun _ => fun
  | [d1, d2, d3] => { results := [.lit (.bool false)], args := [d1, d2, d3] }
  | _ => none }
def FnExactClipFieldWrongFalsely : Prop := fnExactClipFieldRow.holds Try.pinned (OpenSpec.ofChange fnExactClipFieldWrong)

/-- 'laws.FnExactDifferentCells': WHATEVER THE INPUT: true; the input reads as it did. -/
def fnExactDifferentCellsSpec : ChangeSpec := { name := "fnExactDifferentCells", fn := fun _ => fun
  | [d1, d2] => { results := [.lit (.bool true)], args := [d1, d2] }
  | _ => none }
def fnExactDifferentCellsRow : OpenClaim := { program := "ytjppaolhknjpaaa", sum := "0d32bb9c8e223ddb1cd48b4a007ae525cc118d82e99df2104056c5812c6cdd96", func := "loop.example/g00889/laws.FnExactDifferentCells", spec := "fnExactDifferentCells", unfollowed := true, recurses := true, apart := false }
def FnExactDifferentCellsSaid : Prop := fnExactDifferentCellsRow.holds Try.pinned (OpenSpec.ofChange fnExactDifferentCellsSpec)

/-- ITS FALSE NEIGHBOUR: 'it returns false'. Refute it at one input. -/
def fnExactDifferentCellsWrong : ChangeSpec := { name := "fnExactDifferentCells", fn := fun _ => fun
  | [d1, d2] => { results := [.lit (.bool false)], args := [d1, d2] }
  | _ => none }
def FnExactDifferentCellsWrongFalsely : Prop := fnExactDifferentCellsRow.holds Try.pinned (OpenSpec.ofChange fnExactDifferentCellsWrong)

/-- 'laws.FnExactChoosePart': WHATEVER THE INPUT: true; the input reads as it did. -/
def fnExactChoosePartSpec : ChangeSpec := { name := "fnExactChoosePart", fn := fun _ => fun
  | [d1, d2, d3] => { results := [.lit (.bool true)], args := [d1, d2, d3] }
  | _ => none }
def fnExactChoosePartRow : OpenClaim := { program := "ytjppaolhknjpaaa", sum := "0d32bb9c8e223ddb1cd48b4a007ae525cc118d82e99df2104056c5812c6cdd96", func := "loop.example/g00889/laws.FnExactChoosePart", spec := "fnExactChoosePart", unfollowed := true, recurses := true, apart := false }
def FnExactChoosePartSaid : Prop := fnExactChoosePartRow.holds Try.pinned (OpenSpec.ofChange fnExactChoosePartSpec)

/-- ITS FALSE NEIGHBOUR: 'it returns false'. Refute it at one input. -/
def fnExactChoosePartWrong : ChangeSpec := { name := "fnExactChoosePart", fn := fun _ => fun
  | [d1, d2, d3] => { results := [.lit (.bool false)], args := [d1, d2, d3] }
  | _ => none }
def FnExactChoosePartWrongFalsely : Prop := fnExactChoosePartRow.holds Try.pinned (OpenSpec.ofChange fnExactChoosePartWrong)

/-- 'laws.FnExactAbsoluteField': WHATEVER THE INPUT: true; the input reads as it did. -/
def fnExactAbsoluteFieldSpec : ChangeSpec := { name := "fnExactAbsoluteField", fn := fun _ => fun
  | [d] => { results := [.lit (.bool true)], args := [d] }
  | _ => none }
def fnExactAbsoluteFieldRow : OpenClaim := { program := "ytjppaolhknjpaaa", sum := "0d32bb9c8e223ddb1cd48b4a007ae525cc118d82e99df2104056c5812c6cdd96", func := "loop.example/g00889/laws.FnExactAbsoluteField", spec := "fnExactAbsoluteField", unfollowed := true, recurses := true, apart := false }
def FnExactAbsoluteFieldSaid : Prop := fnExactAbsoluteFieldRow.holds Try.pinned (OpenSpec.ofChange fnExactAbsoluteFieldSpec)

/-- ITS FALSE NEIGHBOUR: 'it returns false'. Refute it at one input. -/
def fnExactAbsoluteFieldWrong : ChangeSpec := { name := "fnExactAbsoluteField", fn := fun _ => fun
  | [d] => { results := [.lit (.bool false)], args := [d] }
  | _ => none }
def FnExactAbsoluteFieldWrongFalsely : Prop := fnExactAbsoluteFieldRow.holds Try.pinned (OpenSpec.ofChange fnExactAbsoluteFieldWrong)

/- THE SECOND FORM. 'bulk': how many values and letters a reading holds, each counted each time it is reached (what is shared counts as often as it is met; a slice's spare places count too). A statement '..UptoSaid' is the law's where the arguments, and the package variables that the reading takes, are together of bulk at most 1048576: NARROWER than '..Said'. Prove '..Said' where nothing that the law and all that it calls make is longer than what came in: it says more and counts as full. Else prove '..UptoSaid'. A law counts once. -/
mutual
def uptoBulk {H : Type} : DataW H → Nat
  | .lit (.string bytes) => bytes.length + 1
  | .lit _ => 1
  | .nil => 1
  | .ptr d => uptoBulk d + 1
  | .slice elems spare => uptoBulkAll elems + uptoBulkAll spare + 1
  | .agg parts => uptoBulkAll parts + 1
  | .iface _ d => uptoBulk d + 1
  | .map entries => uptoBulkEntries entries + 1
  | .held _ => 1
def uptoBulkAll {H : Type} : List (DataW H) → Nat
  | [] => 0
  | d :: r => uptoBulk d + uptoBulkAll r
def uptoBulkEntries {H : Type} : List (Lit × DataW H) → Nat
  | [] => 0
  | x :: r => uptoBulkEntry x + uptoBulkEntries r
def uptoBulkEntry {H : Type} : Lit × DataW H → Nat
  | (.string bytes, d) => bytes.length + uptoBulk d + 1
  | (_, d) => uptoBulk d + 1
 end
def uptoSmall : (H : Type) → List (DataW H) → Bool := fun _ ds => decide (uptoBulkAll ds ≤ 1048576)
def OpenSpec.upto (s : _root_.Go.ChangeSpec) : _root_.Go.OpenSpec := { _root_.Go.OpenSpec.ofChange s with cond := some uptoSmall }

/-- 'laws.FnTotals', WHERE WHAT IT READS IS OF BULK AT MOST 1048576: true; the input reads as it did. -/
def fnTotalsUptoRow : OpenClaim := { program := "ytjppaolhknjpaaa", sum := "0d32bb9c8e223ddb1cd48b4a007ae525cc118d82e99df2104056c5812c6cdd96", func := "loop.example/g00889/laws.FnTotals", spec := "fnTotals", apart := false, narrowed := true }
def FnTotalsUptoSaid : Prop := fnTotalsUptoRow.holds Try.pinned (OpenSpec.upto fnTotalsSpec)

/-- 'laws.FnAlgebra', WHERE WHAT IT READS IS OF BULK AT MOST 1048576: true; the input reads as it did. -/
def fnAlgebraUptoRow : OpenClaim := { program := "ytjppaolhknjpaaa", sum := "0d32bb9c8e223ddb1cd48b4a007ae525cc118d82e99df2104056c5812c6cdd96", func := "loop.example/g00889/laws.FnAlgebra", spec := "fnAlgebra", unfollowed := true, recurses := true, apart := false, narrowed := true }
def FnAlgebraUptoSaid : Prop := fnAlgebraUptoRow.holds Try.pinned (OpenSpec.upto fnAlgebraSpec)

/-- 'laws.FnMasks', WHERE WHAT IT READS IS OF BULK AT MOST 1048576: true; the input reads as it did. -/
def fnMasksUptoRow : OpenClaim := { program := "ytjppaolhknjpaaa", sum := "0d32bb9c8e223ddb1cd48b4a007ae525cc118d82e99df2104056c5812c6cdd96", func := "loop.example/g00889/laws.FnMasks", spec := "fnMasks", unfollowed := true, recurses := true, apart := false, narrowed := true }
def FnMasksUptoSaid : Prop := fnMasksUptoRow.holds Try.pinned (OpenSpec.upto fnMasksSpec)

/-- 'laws.FnExactCombine', WHERE WHAT IT READS IS OF BULK AT MOST 1048576: true; the input reads as it did. -/
def fnExactCombineUptoRow : OpenClaim := { program := "ytjppaolhknjpaaa", sum := "0d32bb9c8e223ddb1cd48b4a007ae525cc118d82e99df2104056c5812c6cdd96", func := "loop.example/g00889/laws.FnExactCombine", spec := "fnExactCombine", unfollowed := true, recurses := true, apart := false, narrowed := true }
def FnExactCombineUptoSaid : Prop := fnExactCombineUptoRow.holds Try.pinned (OpenSpec.upto fnExactCombineSpec)

/-- 'laws.FnExactScaleField', WHERE WHAT IT READS IS OF BULK AT MOST 1048576: true; the input reads as it did. -/
def fnExactScaleFieldUptoRow : OpenClaim := { program := "ytjppaolhknjpaaa", sum := "0d32bb9c8e223ddb1cd48b4a007ae525cc118d82e99df2104056c5812c6cdd96", func := "loop.example/g00889/laws.FnExactScaleField", spec := "fnExactScaleField", unfollowed := true, recurses := true, apart := false, narrowed := true }
def FnExactScaleFieldUptoSaid : Prop := fnExactScaleFieldUptoRow.holds Try.pinned (OpenSpec.upto fnExactScaleFieldSpec)

/-- 'laws.FnExactExceeds', WHERE WHAT IT READS IS OF BULK AT MOST 1048576: true; the input reads as it did. -/
def fnExactExceedsUptoRow : OpenClaim := { program := "ytjppaolhknjpaaa", sum := "0d32bb9c8e223ddb1cd48b4a007ae525cc118d82e99df2104056c5812c6cdd96", func := "loop.example/g00889/laws.FnExactExceeds", spec := "fnExactExceeds", unfollowed := true, recurses := true, apart := false, narrowed := true }
def FnExactExceedsUptoSaid : Prop := fnExactExceedsUptoRow.holds Try.pinned (OpenSpec.upto fnExactExceedsSpec)

/-- 'laws.FnExactMaskField', WHERE WHAT IT READS IS OF BULK AT MOST 1048576: true; the input reads as it did. -/
def fnExactMaskFieldUptoRow : OpenClaim := { program := "ytjppaolhknjpaaa", sum := "0d32bb9c8e223ddb1cd48b4a007ae525cc118d82e99df2104056c5812c6cdd96", func := "loop.example/g00889/laws.FnExactMaskField", spec := "fnExactMaskField", unfollowed := true, recurses := true, apart := false, narrowed := true }
def FnExactMaskFieldUptoSaid : Prop := fnExactMaskFieldUptoRow.holds Try.pinned (OpenSpec.upto fnExactMaskFieldSpec)

/-- 'laws.FnExactFillFrom', WHERE WHAT IT READS IS OF BULK AT MOST 1048576: true; the input reads as it did. -/
def fnExactFillFromUptoRow : OpenClaim := { program := "ytjppaolhknjpaaa", sum := "0d32bb9c8e223ddb1cd48b4a007ae525cc118d82e99df2104056c5812c6cdd96", func := "loop.example/g00889/laws.FnExactFillFrom", spec := "fnExactFillFrom", unfollowed := true, recurses := true, apart := false, narrowed := true }
def FnExactFillFromUptoSaid : Prop := fnExactFillFromUptoRow.holds Try.pinned (OpenSpec.upto fnExactFillFromSpec)

/-- 'laws.FnExactClipField', WHERE WHAT IT READS IS OF BULK AT MOST 1048576: true; the input reads as it did. -/
def fnExactClipFieldUptoRow : OpenClaim := { program := "ytjppaolhknjpaaa", sum := "0d32bb9c8e223ddb1cd48b4a007ae525cc118d82e99df2104056c5812c6cdd96", func := "loop.example/g00889/laws.FnExactClipField", spec := "fnExactClipField", unfollowed := true, recurses := true, apart := false, narrowed := true }
def FnExactClipFieldUptoSaid : Prop := fnExactClipFieldUptoRow.holds Try.pinned (OpenSpec.upto fnExactClipFieldSpec)

/-- 'laws.FnExactDifferentCells', WHERE WHAT IT READS IS OF BULK AT MOST 1048576: true; the input reads as it did. -/
def fnExactDifferentCellsUptoRow : OpenClaim := { program := "ytjppaolhknjpaaa", sum := "0d32bb9c8e223ddb1cd48b4a007ae525cc118d82e99df2104056c5812c6cdd96", func := "loop.example/g00889/laws.FnExactDifferentCells", spec := "fnExactDifferentCells", unfollowed := true, recurses := true, apart := false, narrowed := true }
def FnExactDifferentCellsUptoSaid : Prop := fnExactDifferentCellsUptoRow.holds Try.pinned (OpenSpec.upto fnExactDifferentCellsSpec)

/-- 'laws.FnExactChoosePart', WHERE WHAT IT READS IS OF BULK AT MOST 1048576: true; the input reads as it did. -/
def fnExactChoosePartUptoRow : OpenClaim := { program := "ytjppaolhknjpaaa", sum := "0d32bb9c8e223ddb1cd48b4a007ae525cc118d82e99df2104056c5812c6cdd96", func := "loop.example/g00889/laws.FnExactChoosePart", spec := "fnExactChoosePart", unfollowed := true, recurses := true, apart := false, narrowed := true }
def FnExactChoosePartUptoSaid : Prop := fnExactChoosePartUptoRow.holds Try.pinned (OpenSpec.upto fnExactChoosePartSpec)

/-- 'laws.FnExactAbsoluteField', WHERE WHAT IT READS IS OF BULK AT MOST 1048576: true; the input reads as it did. -/
def fnExactAbsoluteFieldUptoRow : OpenClaim := { program := "ytjppaolhknjpaaa", sum := "0d32bb9c8e223ddb1cd48b4a007ae525cc118d82e99df2104056c5812c6cdd96", func := "loop.example/g00889/laws.FnExactAbsoluteField", spec := "fnExactAbsoluteField", unfollowed := true, recurses := true, apart := false, narrowed := true }
def FnExactAbsoluteFieldUptoSaid : Prop := fnExactAbsoluteFieldUptoRow.holds Try.pinned (OpenSpec.upto fnExactAbsoluteFieldSpec)

end Rows
end Go.Proofs.Ytjppaolhknjpaaa
