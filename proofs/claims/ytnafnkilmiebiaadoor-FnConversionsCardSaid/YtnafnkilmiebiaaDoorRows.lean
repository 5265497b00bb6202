/-
  NARROWER THAN 'FOR EVERY INPUT', by the rows' own cells (each row's printed sentence says how): FnExactUnitWord: laid · FnExactParseUnit: laid · FnExactSameKind: laid · FnExactConvertTenths: laid · FnExactBeaufortOf: laid · FnExactWarmerThan: laid · FnConversions: laid.
  DERIVED. THE GIVEN ROWS OF THIS SEAT. 7 by the template 'for every input the law returns true; each argument reads behind the call as it read before'; 0 by the template 'total and deterministic' (their statements: YtnafnkilmiebiaaDoorTotals.lean).
  GIVEN WITH THE SEED: the statements are not yours to turn. If you find one false, say at which input.
  Laid BY PROGRAM, IN A SANDBOX (cutbox-rows.mjs): the forced cells as the released guide's own fill.sh prints them over the translation 6778569e8d3882dc… (all of the seat's roots in one cut). By AI agents, Wed Nov 11 2026. No macro, syntax, notation, axiom, sorry.
-/
import Derived.Test.YtnafnkilmiebiaaDoorChecked
import GoSem.Claim
import GoSem.ClaimJoined
import GoSem.ClaimMapViews
import Derived.JoinedTies
import Derived.KernelRfl
namespace Go.Proofs.YtnafnkilmiebiaaDoor
/- THE CELL 'sum', in the pinned program and in every row, IS THE sha256 OF THE DUMP (.gsa) THAT YtnafnkilmiebiaaDoorProg.lean LOADS. Nothing in Lean hashes anything: it is a label: what it is worth is what the hold of that sum in a sandbox is worth. -/
noncomputable def Tryd.pinned : Pinned := { name := "ytnafnkilmiebiaadoor", sum := "6778569e8d3882dc90525700c538bed42da7723cd14fc3b5b9fe1e0aba1f8971", checked := Tryd.checked }
namespace Rows
def none {H : Type} : Left H := { results := [], args := [] }

/- WHAT THE LISTED PACKAGE-LEVEL VARIABLES READ AS WHEN THE CALL BEGINS. Each datum BY PROGRAM (the guide's laid-datum.mjs) off the statement by which the dump's own 'gosem.cut.vars' lays the variable. In a bare row this is a premise. The card (YtnafnkilmiebiaaDoorCards.lean) ties it to the program's text. -/
def laid_loop_example_g00889_impl_unitTable {H : Type} : DataW H := .agg [.agg [.lit (.int .i64 1), .lit (.int .i64 1), .lit (.string [67]), .lit (.int .i64 18), .lit (.int .i64 0)], .agg [.lit (.int .i64 2), .lit (.int .i64 1), .lit (.string [70]), .lit (.int .i64 10), .lit (.int .i64 (-3200))], .agg [.lit (.int .i64 3), .lit (.int .i64 1), .lit (.string [75]), .lit (.int .i64 18), .lit (.int .i64 (-49167))], .agg [.lit (.int .i64 4), .lit (.int .i64 2), .lit (.string [109, 47, 115]), .lit (.int .i64 900), .lit (.int .i64 0)], .agg [.lit (.int .i64 5), .lit (.int .i64 2), .lit (.string [107, 116]), .lit (.int .i64 463), .lit (.int .i64 0)], .agg [.lit (.int .i64 6), .lit (.int .i64 2), .lit (.string [107, 109, 47, 104]), .lit (.int .i64 250), .lit (.int .i64 0)], .agg [.lit (.int .i64 7), .lit (.int .i64 3), .lit (.string [109, 109]), .lit (.int .i64 5), .lit (.int .i64 0)], .agg [.lit (.int .i64 8), .lit (.int .i64 3), .lit (.string [105, 110]), .lit (.int .i64 127), .lit (.int .i64 0)]]
def laid_loop_example_g00889_impl_forceSpeeds {H : Type} : DataW H := .agg [.lit (.int .i64 0), .lit (.int .i64 3), .lit (.int .i64 16), .lit (.int .i64 34), .lit (.int .i64 55), .lit (.int .i64 80), .lit (.int .i64 108), .lit (.int .i64 139), .lit (.int .i64 172), .lit (.int .i64 208), .lit (.int .i64 245), .lit (.int .i64 285), .lit (.int .i64 327)]

/-- 'laws.FnExactUnitWord': WHATEVER THE INPUT: true; the input reads as it did. -/
def fnExactUnitWordSpec : ChangeSpec := { name := "fnExactUnitWord", vars := ["loop.example/g00889/impl.unitTable"], fn := fun _ => fun
  | [d, g1] => { results := [.lit (.bool true)], args := [d], vars := [g1] }
  | _ => none }
def fnExactUnitWordRow : OpenClaim := { program := "ytnafnkilmiebiaadoor", sum := "6778569e8d3882dc90525700c538bed42da7723cd14fc3b5b9fe1e0aba1f8971", func := "loop.example/g00889/laws.FnExactUnitWord", spec := "fnExactUnitWord", named := ["loop.example/g00889/impl.unitTable"], apart := false, laid := [("loop.example/g00889/impl.unitTable", laid_loop_example_g00889_impl_unitTable)] }
def FnExactUnitWordSaid : Prop := fnExactUnitWordRow.holds Tryd.pinned (OpenSpec.ofChange fnExactUnitWordSpec)

/-- ITS FALSE NEIGHBOUR: 'it returns false'. Refute it at one input. -/
def fnExactUnitWordWrong : ChangeSpec := { name := "fnExactUnitWord", vars := ["loop.example/g00889/impl.unitTable"], fn := fun _ => fun
  | [d, g1] => { results := [.lit (.bool false)], args := [d], vars := [g1] }
  | _ => none }
def FnExactUnitWordWrongFalsely : Prop := fnExactUnitWordRow.holds Tryd.pinned (OpenSpec.ofChange fnExactUnitWordWrong)

/-- 'laws.FnExactParseUnit': WHATEVER THE INPUT: true; the input reads as it did. -/
def fnExactParseUnitSpec : ChangeSpec := { name := "fnExactParseUnit", vars := ["loop.example/g00889/impl.unitTable"], fn := fun _ => fun
  | [d, g1] => { results := [.lit (.bool true)], args := [d], vars := [g1] }
  | _ => none }
def fnExactParseUnitRow : OpenClaim := { program := "ytnafnkilmiebiaadoor", sum := "6778569e8d3882dc90525700c538bed42da7723cd14fc3b5b9fe1e0aba1f8971", func := "loop.example/g00889/laws.FnExactParseUnit", spec := "fnExactParseUnit", named := ["loop.example/g00889/impl.unitTable"], apart := false, laid := [("loop.example/g00889/impl.unitTable", laid_loop_example_g00889_impl_unitTable)] }
def FnExactParseUnitSaid : Prop := fnExactParseUnitRow.holds Tryd.pinned (OpenSpec.ofChange fnExactParseUnitSpec)

/-- ITS FALSE NEIGHBOUR: 'it returns false'. Refute it at one input. -/
def fnExactParseUnitWrong : ChangeSpec := { name := "fnExactParseUnit", vars := ["loop.example/g00889/impl.unitTable"], fn := fun _ => fun
  | [d, g1] => { results := [.lit (.bool false)], args := [d], vars := [g1] }
  | _ => none }
def FnExactParseUnitWrongFalsely : Prop := fnExactParseUnitRow.holds Tryd.pinned (OpenSpec.ofChange fnExactParseUnitWrong)

/-- 'laws.FnExactSameKind': WHATEVER THE INPUT: true; the input reads as it did. -/
def fnExactSameKindSpec : ChangeSpec := { name := "fnExactSameKind", vars := ["loop.example/g00889/impl.unitTable"], fn := fun _ => fun
  | [d1, d2, g1] => { results := [.lit (.bool true)], args := [d1, d2], vars := [g1] }
  | _ => none }
def fnExactSameKindRow : OpenClaim := { program := "ytnafnkilmiebiaadoor", sum := "6778569e8d3882dc90525700c538bed42da7723cd14fc3b5b9fe1e0aba1f8971", func := "loop.example/g00889/laws.FnExactSameKind", spec := "fnExactSameKind", named := ["loop.example/g00889/impl.unitTable"], apart := false, laid := [("loop.example/g00889/impl.unitTable", laid_loop_example_g00889_impl_unitTable)] }
def FnExactSameKindSaid : Prop := fnExactSameKindRow.holds Tryd.pinned (OpenSpec.ofChange fnExactSameKindSpec)

/-- ITS FALSE NEIGHBOUR: 'it returns false'. Refute it at one input. -/
def fnExactSameKindWrong : ChangeSpec := { name := "fnExactSameKind", vars := ["loop.example/g00889/impl.unitTable"], fn := fun _ => fun
  | [d1, d2, g1] => { results := [.lit (.bool false)], args := [d1, d2], vars := [g1] }
  | _ => none }
def FnExactSameKindWrongFalsely : Prop := fnExactSameKindRow.holds Tryd.pinned (OpenSpec.ofChange fnExactSameKindWrong)

/-- 'laws.FnExactConvertTenths': WHATEVER THE INPUT: true; the input reads as it did. -/
def fnExactConvertTenthsSpec : ChangeSpec := { name := "fnExactConvertTenths", vars := ["loop.example/g00889/impl.unitTable"], fn := fun _ => fun
  | [d1, d2, d3, g1] => { results := [.lit (.bool true)], args := [d1, d2, d3], vars := [g1] }
  | _ => none }
def fnExactConvertTenthsRow : OpenClaim := { program := "ytnafnkilmiebiaadoor", sum := "6778569e8d3882dc90525700c538bed42da7723cd14fc3b5b9fe1e0aba1f8971", func := "loop.example/g00889/laws.FnExactConvertTenths", spec := "fnExactConvertTenths", named := ["loop.example/g00889/impl.unitTable"], apart := false, laid := [("loop.example/g00889/impl.unitTable", laid_loop_example_g00889_impl_unitTable)] }
def FnExactConvertTenthsSaid : Prop := fnExactConvertTenthsRow.holds Tryd.pinned (OpenSpec.ofChange fnExactConvertTenthsSpec)

/-- ITS FALSE NEIGHBOUR: 'it returns false'. Refute it at one input. -/
def fnExactConvertTenthsWrong : ChangeSpec := { name := "fnExactConvertTenths", vars := ["loop.example/g00889/impl.unitTable"], fn := fun _ => fun
  | [d1, d2, d3, g1] => { results := [.lit (.bool false)], args := [d1, d2, d3], vars := [g1] }
  | _ => none }
def FnExactConvertTenthsWrongFalsely : Prop := fnExactConvertTenthsRow.holds Tryd.pinned (OpenSpec.ofChange fnExactConvertTenthsWrong)

/-- 'laws.FnExactBeaufortOf': WHATEVER THE INPUT: true; the input reads as it did. -/
def fnExactBeaufortOfSpec : ChangeSpec := { name := "fnExactBeaufortOf", vars := ["loop.example/g00889/impl.forceSpeeds", "loop.example/g00889/impl.unitTable"], fn := fun _ => fun
  | [d1, d2, g1, g2] => { results := [.lit (.bool true)], args := [d1, d2], vars := [g1, g2] }
  | _ => none }
def fnExactBeaufortOfRow : OpenClaim := { program := "ytnafnkilmiebiaadoor", sum := "6778569e8d3882dc90525700c538bed42da7723cd14fc3b5b9fe1e0aba1f8971", func := "loop.example/g00889/laws.FnExactBeaufortOf", spec := "fnExactBeaufortOf", named := ["loop.example/g00889/impl.forceSpeeds", "loop.example/g00889/impl.unitTable"], apart := false, laid := [("loop.example/g00889/impl.unitTable", laid_loop_example_g00889_impl_unitTable), ("loop.example/g00889/impl.forceSpeeds", laid_loop_example_g00889_impl_forceSpeeds)] }
def FnExactBeaufortOfSaid : Prop := fnExactBeaufortOfRow.holds Tryd.pinned (OpenSpec.ofChange fnExactBeaufortOfSpec)

/-- ITS FALSE NEIGHBOUR: 'it returns false'. Refute it at one input. -/
def fnExactBeaufortOfWrong : ChangeSpec := { name := "fnExactBeaufortOf", vars := ["loop.example/g00889/impl.forceSpeeds", "loop.example/g00889/impl.unitTable"], fn := fun _ => fun
  | [d1, d2, g1, g2] => { results := [.lit (.bool false)], args := [d1, d2], vars := [g1, g2] }
  | _ => none }
def FnExactBeaufortOfWrongFalsely : Prop := fnExactBeaufortOfRow.holds Tryd.pinned (OpenSpec.ofChange fnExactBeaufortOfWrong)

/-- 'laws.FnExactWarmerThan': WHATEVER THE INPUT: true; the input reads as it did. -/
def fnExactWarmerThanSpec : ChangeSpec := { name := "fnExactWarmerThan", vars := ["loop.example/g00889/impl.unitTable"], fn := fun _ => fun
  | [d1, d2, d3, d4, g1] => { results := [.lit (.bool true)], args := [d1, d2, d3, d4], vars := [g1] }
  | _ => none }
def fnExactWarmerThanRow : OpenClaim := { program := "ytnafnkilmiebiaadoor", sum := "6778569e8d3882dc90525700c538bed42da7723cd14fc3b5b9fe1e0aba1f8971", func := "loop.example/g00889/laws.FnExactWarmerThan", spec := "fnExactWarmerThan", named := ["loop.example/g00889/impl.unitTable"], apart := false, laid := [("loop.example/g00889/impl.unitTable", laid_loop_example_g00889_impl_unitTable)] }
def FnExactWarmerThanSaid : Prop := fnExactWarmerThanRow.holds Tryd.pinned (OpenSpec.ofChange fnExactWarmerThanSpec)

/-- ITS FALSE NEIGHBOUR: 'it returns false'. Refute it at one input. -/
def fnExactWarmerThanWrong : ChangeSpec := { name := "fnExactWarmerThan", vars := ["loop.example/g00889/impl.unitTable"], fn := fun _ => fun
  | [d1, d2, d3, d4, g1] => { results := [.lit (.bool false)], args := [d1, d2, d3, d4], vars := [g1] }
  | _ => none }
def FnExactWarmerThanWrongFalsely : Prop := fnExactWarmerThanRow.holds Tryd.pinned (OpenSpec.ofChange fnExactWarmerThanWrong)

/-- 'laws.FnConversions': WHATEVER THE INPUT: true; the input reads as it did. -/
def fnConversionsSpec : ChangeSpec := { name := "fnConversions", vars := ["loop.example/g00889/impl.unitTable", "loop.example/g00889/impl.forceSpeeds"], fn := fun _ => fun
  | [d, g1, g2] => { results := [.lit (.bool true)], args := [d], vars := [g1, g2] }
  | _ => none }
def fnConversionsRow : OpenClaim := { program := "ytnafnkilmiebiaadoor", sum := "6778569e8d3882dc90525700c538bed42da7723cd14fc3b5b9fe1e0aba1f8971", func := "loop.example/g00889/laws.FnConversions", spec := "fnConversions", named := ["loop.example/g00889/impl.unitTable", "loop.example/g00889/impl.forceSpeeds"], apart := false, laid := [("loop.example/g00889/impl.unitTable", laid_loop_example_g00889_impl_unitTable), ("loop.example/g00889/impl.forceSpeeds", laid_loop_example_g00889_impl_forceSpeeds)] }
def FnConversionsSaid : Prop := fnConversionsRow.holds Tryd.pinned (OpenSpec.ofChange fnConversionsSpec)

/-- ITS FALSE NEIGHBOUR: 'it returns false'. Refute it at one input. -/
def fnConversionsWrong : ChangeSpec := { name := "fnConversions", vars := ["loop.example/g00889/impl.unitTable", "loop.example/g00889/impl.forceSpeeds"], fn := fun _ => fun
  | [d, g1, g2] => { results := [.lit (.bool false)], args := [d], vars := [g1, g2] }
  | _ => none }
def FnConversionsWrongFalsely : Prop := fnConversionsRow.holds Tryd.pinned (OpenSpec.ofChange fnConversionsWrong)

/- THE SECOND FORM. 'bulk': how many values and letters a reading holds, each counted each time it is reached (what is shared counts as often as it is met; a slice's spare places count too). A statement '..UptoSaid' is the law's where the arguments, and the package variables that the reading takes, are together of bulk at most 1048576: NARROWER than '..Said'. Prove '..Said' where nothing that the law and all that it calls make is longer than what came in: it says more and counts as full. Else prove '..UptoSaid'. A law counts once. -/
mutual
def uptoBulk {H : Type} : DataW H → Nat
  | .lit (.string bytes) => bytes.length + 1
  | .lit _ => 1
  | .nil => 1
  | .ptr d => uptoBulk d + 1
  | .slice elems spare => uptoBulkAll elems + uptoBulkAll spare + 1
  | .agg parts => uptoBulkAll parts + 1
  | .iface _ d => uptoBulk d + 1
  | .map entries => uptoBulkEntries entries + 1
  | .held _ => 1
def uptoBulkAll {H : Type} : List (DataW H) → Nat
  | [] => 0
  | d :: r => uptoBulk d + uptoBulkAll r
def uptoBulkEntries {H : Type} : List (Lit × DataW H) → Nat
  | [] => 0
  | x :: r => uptoBulkEntry x + uptoBulkEntries r
def uptoBulkEntry {H : Type} : Lit × DataW H → Nat
  | (.string bytes, d) => bytes.length + uptoBulk d + 1
  | (_, d) => uptoBulk d + 1
 end
def uptoSmall : (H : Type) → List (DataW H) → Bool := fun _ ds => decide (uptoBulkAll ds ≤ 1048576)
def OpenSpec.upto (s : _root_.Go.ChangeSpec) : _root_.Go.OpenSpec := { _root_.Go.OpenSpec.ofChange s with cond := some uptoSmall }

/-- 'laws.FnExactUnitWord', WHERE WHAT IT READS IS OF BULK AT MOST 1048576: true; the input reads as it did. -/
def fnExactUnitWordUptoRow : OpenClaim := { program := "ytnafnkilmiebiaadoor", sum := "6778569e8d3882dc90525700c538bed42da7723cd14fc3b5b9fe1e0aba1f8971", func := "loop.example/g00889/laws.FnExactUnitWord", spec := "fnExactUnitWord", named := ["loop.example/g00889/impl.unitTable"], apart := false, laid := [("loop.example/g00889/impl.unitTable", laid_loop_example_g00889_impl_unitTable)], narrowed := true }
def FnExactUnitWordUptoSaid : Prop := fnExactUnitWordUptoRow.holds Tryd.pinned (OpenSpec.upto fnExactUnitWordSpec)

/-- 'laws.FnExactParseUnit', WHERE WHAT IT READS IS OF BULK AT MOST 1048576: true; the input reads as it did. -/
def fnExactParseUnitUptoRow : OpenClaim := { program := "ytnafnkilmiebiaadoor", sum := "6778569e8d3882dc90525700c538bed42da7723cd14fc3b5b9fe1e0aba1f8971", func := "loop.example/g00889/laws.FnExactParseUnit", spec := "fnExactParseUnit", named := ["loop.example/g00889/impl.unitTable"], apart := false, laid := [("loop.example/g00889/impl.unitTable", laid_loop_example_g00889_impl_unitTable)], narrowed := true }
def FnExactParseUnitUptoSaid : Prop := fnExactParseUnitUptoRow.holds Tryd.pinned (OpenSpec.upto fnExactParseUnitSpec)

/-- 'laws.FnExactSameKind', WHERE WHAT IT READS IS OF BULK AT MOST 1048576: true; the input reads as it did. -/
def fnExactSameKindUptoRow : OpenClaim := { program := "ytnafnkilmiebiaadoor", sum := "6778569e8d3882dc90525700c538bed42da7723cd14fc3b5b9fe1e0aba1f8971", func := "loop.example/g00889/laws.FnExactSameKind", spec := "fnExactSameKind", named := ["loop.example/g00889/impl.unitTable"], apart := false, laid := [("loop.example/g00889/impl.unitTable", laid_loop_example_g00889_impl_unitTable)], narrowed := true }
def FnExactSameKindUptoSaid : Prop := fnExactSameKindUptoRow.holds Tryd.pinned (OpenSpec.upto fnExactSameKindSpec)

/-- 'laws.FnExactConvertTenths', WHERE WHAT IT READS IS OF BULK AT MOST 1048576: true; the input reads as it did. -/
def fnExactConvertTenthsUptoRow : OpenClaim := { program := "ytnafnkilmiebiaadoor", sum := "6778569e8d3882dc90525700c538bed42da7723cd14fc3b5b9fe1e0aba1f8971", func := "loop.example/g00889/laws.FnExactConvertTenths", spec := "fnExactConvertTenths", named := ["loop.example/g00889/impl.unitTable"], apart := false, laid := [("loop.example/g00889/impl.unitTable", laid_loop_example_g00889_impl_unitTable)], narrowed := true }
def FnExactConvertTenthsUptoSaid : Prop := fnExactConvertTenthsUptoRow.holds Tryd.pinned (OpenSpec.upto fnExactConvertTenthsSpec)

/-- 'laws.FnExactBeaufortOf', WHERE WHAT IT READS IS OF BULK AT MOST 1048576: true; the input reads as it did. -/
def fnExactBeaufortOfUptoRow : OpenClaim := { program := "ytnafnkilmiebiaadoor", sum := "6778569e8d3882dc90525700c538bed42da7723cd14fc3b5b9fe1e0aba1f8971", func := "loop.example/g00889/laws.FnExactBeaufortOf", spec := "fnExactBeaufortOf", named := ["loop.example/g00889/impl.forceSpeeds", "loop.example/g00889/impl.unitTable"], apart := false, laid := [("loop.example/g00889/impl.unitTable", laid_loop_example_g00889_impl_unitTable), ("loop.example/g00889/impl.forceSpeeds", laid_loop_example_g00889_impl_forceSpeeds)], narrowed := true }
def FnExactBeaufortOfUptoSaid : Prop := fnExactBeaufortOfUptoRow.holds Tryd.pinned (OpenSpec.upto fnExactBeaufortOfSpec)

/-- 'laws.FnExactWarmerThan', WHERE WHAT IT READS IS OF BULK AT MOST 1048576: true; the input reads as it did. -/
def fnExactWarmerThanUptoRow : OpenClaim := { program := "ytnafnkilmiebiaadoor", sum := "6778569e8d3882dc90525700c538bed42da7723cd14fc3b5b9fe1e0aba1f8971", func := "loop.example/g00889/laws.FnExactWarmerThan", spec := "fnExactWarmerThan", named := ["loop.example/g00889/impl.unitTable"], apart := false, laid := [("loop.example/g00889/impl.unitTable", laid_loop_example_g00889_impl_unitTable)], narrowed := true }
def FnExactWarmerThanUptoSaid : Prop := fnExactWarmerThanUptoRow.holds Tryd.pinned (OpenSpec.upto fnExactWarmerThanSpec)

/-- 'laws.FnConversions', WHERE WHAT IT READS IS OF BULK AT MOST 1048576: true; the input reads as it did. -/
def fnConversionsUptoRow : OpenClaim := { program := "ytnafnkilmiebiaadoor", sum := "6778569e8d3882dc90525700c538bed42da7723cd14fc3b5b9fe1e0aba1f8971", func := "loop.example/g00889/laws.FnConversions", spec := "fnConversions", named := ["loop.example/g00889/impl.unitTable", "loop.example/g00889/impl.forceSpeeds"], apart := false, laid := [("loop.example/g00889/impl.unitTable", laid_loop_example_g00889_impl_unitTable), ("loop.example/g00889/impl.forceSpeeds", laid_loop_example_g00889_impl_forceSpeeds)], narrowed := true }
def FnConversionsUptoSaid : Prop := fnConversionsUptoRow.holds Tryd.pinned (OpenSpec.upto fnConversionsSpec)

end Rows
end Go.Proofs.YtnafnkilmiebiaaDoor
