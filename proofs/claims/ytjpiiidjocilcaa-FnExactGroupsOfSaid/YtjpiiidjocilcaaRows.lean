/-
  No cell of these rows narrows 'for every input' (looked for: loops, veiled, ifaces, maps, wideKeys, modest, calm, conditions, laid).
  DERIVED. THE GIVEN ROWS OF THIS SEAT. 10 by the template 'for every input the law returns true; each argument reads behind the call as it read before'; 0 by the template 'total and deterministic' (their statements: YtjpiiidjocilcaaTotals.lean).
  GIVEN WITH THE SEED: the statements are not yours to turn. If you find one false, say at which input.
  Laid BY PROGRAM, IN A SANDBOX (cutbox-rows.mjs): the forced cells as the released guide's own fill.sh prints them over the translation 44d23901e06b46a0… (all of the seat's roots in one cut). By AI agents, Wed Nov 11 2026. No macro, syntax, notation, axiom, sorry.
-/
import Derived.Test.YtjpiiidjocilcaaChecked
import GoSem.Claim
import GoSem.ClaimJoined
import GoSem.ClaimMapViews
import Derived.JoinedTies
import Derived.KernelRfl
namespace Go.Proofs.Ytjpiiidjocilcaa
/- THE CELL 'sum', in the pinned program and in every row, IS THE sha256 OF THE DUMP (.gsa) THAT YtjpiiidjocilcaaProg.lean LOADS. Nothing in Lean hashes anything: it is a label: what it is worth is what the hold of that sum in a sandbox is worth. -/
noncomputable def Try.pinned : Pinned := { name := "ytjpiiidjocilcaa", sum := "44d23901e06b46a017121388ca15499a36f65f47dd8182ea55f79c75fad2d364", checked := Try.checked }
namespace Rows
def none {H : Type} : Left H := { results := [], args := [] }

/-- 'laws.FnExactIsValidTally': WHATEVER THE INPUT: true; the input reads as it did. -/
def fnExactIsValidTallySpec : ChangeSpec := { name := "fnExactIsValidTally", fn := fun _ => fun
  | [d] => { results := [.lit (.bool true)], args := [d] }
  | _ => none }
def fnExactIsValidTallyRow : OpenClaim := { program := "ytjpiiidjocilcaa", sum := "44d23901e06b46a017121388ca15499a36f65f47dd8182ea55f79c75fad2d364", func := "loop.example/g00889/laws.FnExactIsValidTally", spec := "fnExactIsValidTally", apart := false }
def FnExactIsValidTallySaid : Prop := fnExactIsValidTallyRow.holds Try.pinned (OpenSpec.ofChange fnExactIsValidTallySpec)

/-- ITS FALSE NEIGHBOUR: 'it returns false'. Refute it at one input. -/
def fnExactIsValidTallyWrong : ChangeSpec := { name := "fnExactIsValidTally", fn := fun _ => fun
  | [d] => { results := [.lit (.bool false)], args := [d] }
  | _ => none }
def FnExactIsValidTallyWrongFalsely : Prop := fnExactIsValidTallyRow.holds Try.pinned (OpenSpec.ofChange fnExactIsValidTallyWrong)

/-- 'laws.FnExactAddCase': WHATEVER THE INPUT: true; the input reads as it did. -/
def fnExactAddCaseSpec : ChangeSpec := { name := "fnExactAddCase", fn := fun _ => fun
  | [d1, d2, d3] => { results := [.lit (.bool true)], args := [d1, d2, d3] }
  | _ => none }
def fnExactAddCaseRow : OpenClaim := { program := "ytjpiiidjocilcaa", sum := "44d23901e06b46a017121388ca15499a36f65f47dd8182ea55f79c75fad2d364", func := "loop.example/g00889/laws.FnExactAddCase", spec := "fnExactAddCase", unfollowed := true, recurses := true, apart := false }
def FnExactAddCaseSaid : Prop := fnExactAddCaseRow.holds Try.pinned (OpenSpec.ofChange fnExactAddCaseSpec)

/-- ITS FALSE NEIGHBOUR: 'it returns false'. Refute it at one input. -/
def fnExactAddCaseWrong : ChangeSpec := { name := "fnExactAddCase", fn := fun _ => fun
  | [d1, d2, d3] => { results := [.lit (.bool false)], args := [d1, d2, d3] }
  | _ => none }
def FnExactAddCaseWrongFalsely : Prop := fnExactAddCaseRow.holds Try.pinned (OpenSpec.ofChange fnExactAddCaseWrong)

/-- 'laws.FnExactAddTallies': WHATEVER THE INPUT: true; the input reads as it did. -/
def fnExactAddTalliesSpec : ChangeSpec := { name := "fnExactAddTallies", fn := fun _ => fun
  | [d1, d2] => { results := [.lit (.bool true)], args := [d1, d2] }
  | _ => none }
def fnExactAddTalliesRow : OpenClaim := { program := "ytjpiiidjocilcaa", sum := "44d23901e06b46a017121388ca15499a36f65f47dd8182ea55f79c75fad2d364", func := "loop.example/g00889/laws.FnExactAddTallies", spec := "fnExactAddTallies", unfollowed := true, recurses := true, apart := false }
def FnExactAddTalliesSaid : Prop := fnExactAddTalliesRow.holds Try.pinned (OpenSpec.ofChange fnExactAddTalliesSpec)

/-- ITS FALSE NEIGHBOUR: 'it returns false'. Refute it at one input. -/
def fnExactAddTalliesWrong : ChangeSpec := { name := "fnExactAddTallies", fn := fun _ => fun
  | [d1, d2] => { results := [.lit (.bool false)], args := [d1, d2] }
  | _ => none }
def FnExactAddTalliesWrongFalsely : Prop := fnExactAddTalliesRow.holds Try.pinned (OpenSpec.ofChange fnExactAddTalliesWrong)

/-- 'laws.FnExactFrequencyOf': WHATEVER THE INPUT: true; the input reads as it did. -/
def fnExactFrequencyOfSpec : ChangeSpec := { name := "fnExactFrequencyOf", fn := fun _ => fun
  | [d1, d2] => { results := [.lit (.bool true)], args := [d1, d2] }
  | _ => none }
def fnExactFrequencyOfRow : OpenClaim := { program := "ytjpiiidjocilcaa", sum := "44d23901e06b46a017121388ca15499a36f65f47dd8182ea55f79c75fad2d364", func := "loop.example/g00889/laws.FnExactFrequencyOf", spec := "fnExactFrequencyOf", apart := false }
def FnExactFrequencyOfSaid : Prop := fnExactFrequencyOfRow.holds Try.pinned (OpenSpec.ofChange fnExactFrequencyOfSpec)

/-- ITS FALSE NEIGHBOUR: 'it returns false'. Refute it at one input. -/
def fnExactFrequencyOfWrong : ChangeSpec := { name := "fnExactFrequencyOf", fn := fun _ => fun
  | [d1, d2] => { results := [.lit (.bool false)], args := [d1, d2] }
  | _ => none }
def FnExactFrequencyOfWrongFalsely : Prop := fnExactFrequencyOfRow.holds Try.pinned (OpenSpec.ofChange fnExactFrequencyOfWrong)

/-- 'laws.FnExactCalibrationOf': WHATEVER THE INPUT: true; the input reads as it did. -/
def fnExactCalibrationOfSpec : ChangeSpec := { name := "fnExactCalibrationOf", fn := fun _ => fun
  | [d] => { results := [.lit (.bool true)], args := [d] }
  | _ => none }
def fnExactCalibrationOfRow : OpenClaim := { program := "ytjpiiidjocilcaa", sum := "44d23901e06b46a017121388ca15499a36f65f47dd8182ea55f79c75fad2d364", func := "loop.example/g00889/laws.FnExactCalibrationOf", spec := "fnExactCalibrationOf", apart := false }
def FnExactCalibrationOfSaid : Prop := fnExactCalibrationOfRow.holds Try.pinned (OpenSpec.ofChange fnExactCalibrationOfSpec)

/-- ITS FALSE NEIGHBOUR: 'it returns false'. Refute it at one input. -/
def fnExactCalibrationOfWrong : ChangeSpec := { name := "fnExactCalibrationOf", fn := fun _ => fun
  | [d] => { results := [.lit (.bool false)], args := [d] }
  | _ => none }
def FnExactCalibrationOfWrongFalsely : Prop := fnExactCalibrationOfRow.holds Try.pinned (OpenSpec.ofChange fnExactCalibrationOfWrong)

/-- 'laws.FnExactGroupsOf': WHATEVER THE INPUT: true; the input reads as it did. -/
def fnExactGroupsOfSpec : ChangeSpec := { name := "fnExactGroupsOf", fn := fun _ => fun
  | [d] => { results := [.lit (.bool true)], args := [d] }
  | _ => none }
def fnExactGroupsOfRow : OpenClaim := { program := "ytjpiiidjocilcaa", sum := "44d23901e06b46a017121388ca15499a36f65f47dd8182ea55f79c75fad2d364", func := "loop.example/g00889/laws.FnExactGroupsOf", spec := "fnExactGroupsOf", apart := false }
def FnExactGroupsOfSaid : Prop := fnExactGroupsOfRow.holds Try.pinned (OpenSpec.ofChange fnExactGroupsOfSpec)

/-- ITS FALSE NEIGHBOUR: 'it returns false'. Refute it at one input. -/
def fnExactGroupsOfWrong : ChangeSpec := { name := "fnExactGroupsOf", fn := fun _ => fun
  | [d] => { results := [.lit (.bool false)], args := [d] }
  | _ => none }
def FnExactGroupsOfWrongFalsely : Prop := fnExactGroupsOfRow.holds Try.pinned (OpenSpec.ofChange fnExactGroupsOfWrong)

/-- 'laws.FnExactIsMonotone': WHATEVER THE INPUT: true; the input reads as it did. -/
def fnExactIsMonotoneSpec : ChangeSpec := { name := "fnExactIsMonotone", fn := fun _ => fun
  | [d] => { results := [.lit (.bool true)], args := [d] }
  | _ => none }
def fnExactIsMonotoneRow : OpenClaim := { program := "ytjpiiidjocilcaa", sum := "44d23901e06b46a017121388ca15499a36f65f47dd8182ea55f79c75fad2d364", func := "loop.example/g00889/laws.FnExactIsMonotone", spec := "fnExactIsMonotone", unfollowed := true, recurses := true, apart := false }
def FnExactIsMonotoneSaid : Prop := fnExactIsMonotoneRow.holds Try.pinned (OpenSpec.ofChange fnExactIsMonotoneSpec)

/-- ITS FALSE NEIGHBOUR: 'it returns false'. Refute it at one input. -/
def fnExactIsMonotoneWrong : ChangeSpec := { name := "fnExactIsMonotone", fn := fun _ => fun
  | [d] => { results := [.lit (.bool false)], args := [d] }
  | _ => none }
def FnExactIsMonotoneWrongFalsely : Prop := fnExactIsMonotoneRow.holds Try.pinned (OpenSpec.ofChange fnExactIsMonotoneWrong)

/-- 'laws.FnExactClassFor': WHATEVER THE INPUT: true; the input reads as it did. -/
def fnExactClassForSpec : ChangeSpec := { name := "fnExactClassFor", fn := fun _ => fun
  | [d1, d2] => { results := [.lit (.bool true)], args := [d1, d2] }
  | _ => none }
def fnExactClassForRow : OpenClaim := { program := "ytjpiiidjocilcaa", sum := "44d23901e06b46a017121388ca15499a36f65f47dd8182ea55f79c75fad2d364", func := "loop.example/g00889/laws.FnExactClassFor", spec := "fnExactClassFor", apart := false }
def FnExactClassForSaid : Prop := fnExactClassForRow.holds Try.pinned (OpenSpec.ofChange fnExactClassForSpec)

/-- ITS FALSE NEIGHBOUR: 'it returns false'. Refute it at one input. -/
def fnExactClassForWrong : ChangeSpec := { name := "fnExactClassFor", fn := fun _ => fun
  | [d1, d2] => { results := [.lit (.bool false)], args := [d1, d2] }
  | _ => none }
def FnExactClassForWrongFalsely : Prop := fnExactClassForRow.holds Try.pinned (OpenSpec.ofChange fnExactClassForWrong)

/-- 'laws.FnCalibration': WHATEVER THE INPUT: true; the input reads as it did. -/
def fnCalibrationSpec : ChangeSpec := { name := "fnCalibration", fn := fun _ => fun
  | [d] => { results := [.lit (.bool true)], args := [d] }
  | _ => none }
def fnCalibrationRow : OpenClaim := { program := "ytjpiiidjocilcaa", sum := "44d23901e06b46a017121388ca15499a36f65f47dd8182ea55f79c75fad2d364", func := "loop.example/g00889/laws.FnCalibration", spec := "fnCalibration", unfollowed := true, recurses := true, apart := false }
def FnCalibrationSaid : Prop := fnCalibrationRow.holds Try.pinned (OpenSpec.ofChange fnCalibrationSpec)

/-- ITS FALSE NEIGHBOUR: 'it returns false'. Refute it at one input. -/
def fnCalibrationWrong : ChangeSpec := { name := "fnCalibration", fn := fun _ => fun
  | [d] => { results := [.lit (.bool false)], args := [d] }
  | _ => none }
def FnCalibrationWrongFalsely : Prop := fnCalibrationRow.holds Try.pinned (OpenSpec.ofChange fnCalibrationWrong)

/-- 'laws.FnTallies': WHATEVER THE INPUT: true; the input reads as it did. -/
def fnTalliesSpec : ChangeSpec := { name := "fnTallies", fn := fun _ => fun
  | [d] => { results := [.lit (.bool true)], args := [d] }
  | _ => none }
def fnTalliesRow : OpenClaim := { program := "ytjpiiidjocilcaa", sum := "44d23901e06b46a017121388ca15499a36f65f47dd8182ea55f79c75fad2d364", func := "loop.example/g00889/laws.FnTallies", spec := "fnTallies", unfollowed := true, recurses := true, apart := false }
def FnTalliesSaid : Prop := fnTalliesRow.holds Try.pinned (OpenSpec.ofChange fnTalliesSpec)

/-- ITS FALSE NEIGHBOUR: 'it returns false'. Refute it at one input. -/
def fnTalliesWrong : ChangeSpec := { name := "fnTallies", fn := fun _ => fun
  | [d] => { results := [.lit (.bool false)], args := [d] }
  | _ => none }
def FnTalliesWrongFalsely : Prop := fnTalliesRow.holds Try.pinned (OpenSpec.ofChange fnTalliesWrong)

/- THE SECOND FORM. 'bulk': how many values and letters a reading holds, each counted each time it is reached (what is shared counts as often as it is met; a slice's spare places count too). A statement '..UptoSaid' is the law's where the arguments, and the package variables that the reading takes, are together of bulk at most 1048576: NARROWER than '..Said'. Prove '..Said' where nothing that the law and all that it calls make is longer than what came in: it says more and counts as full. Else prove '..UptoSaid'. A law counts once. -/
mutual
def uptoBulk {H : Type} : DataW H → Nat
  | .lit (.string bytes) => bytes.length + 1
  | .lit _ => 1
  | .nil => 1
  | .ptr d => uptoBulk d + 1
  | .slice elems spare => uptoBulkAll elems + uptoBulkAll spare + 1
  | .agg parts => uptoBulkAll parts + 1
  | .iface _ d => uptoBulk d + 1
  | .map entries => uptoBulkEntries entries + 1
  | .held _ => 1
def uptoBulkAll {H : Type} : List (DataW H) → Nat
  | [] => 0
  | d :: r => uptoBulk d + uptoBulkAll r
def uptoBulkEntries {H : Type} : List (Lit × DataW H) → Nat
  | [] => 0
  | x :: r => uptoBulkEntry x + uptoBulkEntries r
def uptoBulkEntry {H : Type} : Lit × DataW H → Nat
  | (.string bytes, d) => bytes.length + uptoBulk d + 1
  | (_, d) => uptoBulk d + 1
 end
def uptoSmall : (H : Type) → List (DataW H) → Bool := fun _ ds => decide (uptoBulkAll ds ≤ 1048576)
def OpenSpec.upto (s : _root_.Go.ChangeSpec) : _root_.Go.OpenSpec := { _root_.Go.OpenSpec.ofChange s with cond := some uptoSmall }

/-- 'laws.FnExactIsValidTally', WHERE WHAT IT READS IS OF BULK AT MOST 1048576: true; the input reads as it did. -/
def fnExactIsValidTallyUptoRow : OpenClaim := { program := "ytjpiiidjocilcaa", sum := "44d23901e06b46a017121388ca15499a36f65f47dd8182ea55f79c75fad2d364", func := "loop.example/g00889/laws.FnExactIsValidTally", spec := "fnExactIsValidTally", apart := false, narrowed := true }
def FnExactIsValidTallyUptoSaid : Prop := fnExactIsValidTallyUptoRow.holds Try.pinned (OpenSpec.upto fnExactIsValidTallySpec)

/-- 'laws.FnExactAddCase', WHERE WHAT IT READS IS OF BULK AT MOST 1048576: true; the input reads as it did. -/
def fnExactAddCaseUptoRow : OpenClaim := { program := "ytjpiiidjocilcaa", sum := "44d23901e06b46a017121388ca15499a36f65f47dd8182ea55f79c75fad2d364", func := "loop.example/g00889/laws.FnExactAddCase", spec := "fnExactAddCase", unfollowed := true, recurses := true, apart := false, narrowed := true }
def FnExactAddCaseUptoSaid : Prop := fnExactAddCaseUptoRow.holds Try.pinned (OpenSpec.upto fnExactAddCaseSpec)

/-- 'laws.FnExactAddTallies', WHERE WHAT IT READS IS OF BULK AT MOST 1048576: true; the input reads as it did. -/
def fnExactAddTalliesUptoRow : OpenClaim := { program := "ytjpiiidjocilcaa", sum := "44d23901e06b46a017121388ca15499a36f65f47dd8182ea55f79c75fad2d364", func := "loop.example/g00889/laws.FnExactAddTallies", spec := "fnExactAddTallies", unfollowed := true, recurses := true, apart := false, narrowed := true }
def FnExactAddTalliesUptoSaid : Prop := fnExactAddTalliesUptoRow.holds Try.pinned (OpenSpec.upto fnExactAddTalliesSpec)

/-- 'laws.FnExactFrequencyOf', WHERE WHAT IT READS IS OF BULK AT MOST 1048576: true; the input reads as it did. -/
def fnExactFrequencyOfUptoRow : OpenClaim := { program := "ytjpiiidjocilcaa", sum := "44d23901e06b46a017121388ca15499a36f65f47dd8182ea55f79c75fad2d364", func := "loop.example/g00889/laws.FnExactFrequencyOf", spec := "fnExactFrequencyOf", apart := false, narrowed := true }
def FnExactFrequencyOfUptoSaid : Prop := fnExactFrequencyOfUptoRow.holds Try.pinned (OpenSpec.upto fnExactFrequencyOfSpec)

/-- 'laws.FnExactCalibrationOf', WHERE WHAT IT READS IS OF BULK AT MOST 1048576: true; the input reads as it did. -/
def fnExactCalibrationOfUptoRow : OpenClaim := { program := "ytjpiiidjocilcaa", sum := "44d23901e06b46a017121388ca15499a36f65f47dd8182ea55f79c75fad2d364", func := "loop.example/g00889/laws.FnExactCalibrationOf", spec := "fnExactCalibrationOf", apart := false, narrowed := true }
def FnExactCalibrationOfUptoSaid : Prop := fnExactCalibrationOfUptoRow.holds Try.pinned (OpenSpec.upto fnExactCalibrationOfSpec)

/-- 'laws.FnExactGroupsOf', WHERE WHAT IT READS IS OF BULK AT MOST 1048576: true; the input reads as it did. -/
def fnExactGroupsOfUptoRow : OpenClaim := { program := "ytjpiiidjocilcaa", sum := "44d23901e06b46a017121388ca15499a36f65f47dd8182ea55f79c75fad2d364", func := "loop.example/g00889/laws.FnExactGroupsOf", spec := "fnExactGroupsOf", apart := false, narrowed := true }
def FnExactGroupsOfUptoSaid : Prop := fnExactGroupsOfUptoRow.holds Try.pinned (OpenSpec.upto fnExactGroupsOfSpec)

/-- 'laws.FnExactIsMonotone', WHERE WHAT IT READS IS OF BULK AT MOST 1048576: true; the input reads as it did. -/
def fnExactIsMonotoneUptoRow : OpenClaim := { program := "ytjpiiidjocilcaa", sum := "44d23901e06b46a017121388ca15499a36f65f47dd8182ea55f79c75fad2d364", func := "loop.example/g00889/laws.FnExactIsMonotone", spec := "fnExactIsMonotone", unfollowed := true, recurses := true, apart := false, narrowed := true }
def FnExactIsMonotoneUptoSaid : Prop := fnExactIsMonotoneUptoRow.holds Try.pinned (OpenSpec.upto fnExactIsMonotoneSpec)

/-- 'laws.FnExactClassFor', WHERE WHAT IT READS IS OF BULK AT MOST 1048576: true; the input reads as it did. -/
def fnExactClassForUptoRow : OpenClaim := { program := "ytjpiiidjocilcaa", sum := "44d23901e06b46a017121388ca15499a36f65f47dd8182ea55f79c75fad2d364", func := "loop.example/g00889/laws.FnExactClassFor", spec := "fnExactClassFor", apart := false, narrowed := true }
def FnExactClassForUptoSaid : Prop := fnExactClassForUptoRow.holds Try.pinned (OpenSpec.upto fnExactClassForSpec)

/-- 'laws.FnCalibration', WHERE WHAT IT READS IS OF BULK AT MOST 1048576: true; the input reads as it did. -/
def fnCalibrationUptoRow : OpenClaim := { program := "ytjpiiidjocilcaa", sum := "44d23901e06b46a017121388ca15499a36f65f47dd8182ea55f79c75fad2d364", func := "loop.example/g00889/laws.FnCalibration", spec := "fnCalibration", unfollowed := true, recurses := true, apart := false, narrowed := true }
def FnCalibrationUptoSaid : Prop := fnCalibrationUptoRow.holds Try.pinned (OpenSpec.upto fnCalibrationSpec)

/-- 'laws.FnTallies', WHERE WHAT IT READS IS OF BULK AT MOST 1048576: true; the input reads as it did. -/
def fnTalliesUptoRow : OpenClaim := { program := "ytjpiiidjocilcaa", sum := "44d23901e06b46a017121388ca15499a36f65f47dd8182ea55f79c75fad2d364", func := "loop.example/g00889/laws.FnTallies", spec := "fnTallies", unfollowed := true, recurses := true, apart := false, narrowed := true }
def FnTalliesUptoSaid : Prop := fnTalliesUptoRow.holds Try.pinned (OpenSpec.upto fnTalliesSpec)

end Rows
end Go.Proofs.Ytjpiiidjocilcaa
