/-
  No cell of these rows narrows 'for every input' (looked for: loops, veiled, ifaces, maps, wideKeys, modest, calm, conditions, laid).
  DERIVED. THE GIVEN ROWS OF THIS SEAT. 11 by the template 'for every input the law returns true; each argument reads behind the call as it read before'; 0 by the template 'total and deterministic' (their statements: YtggdkibbfmjelaaTotals.lean).
  GIVEN WITH THE SEED: the statements are not yours to turn. If you find one false, say at which input.
  Laid BY PROGRAM, IN A SANDBOX (cutbox-rows.mjs): the forced cells as the released guide's own fill.sh prints them over the translation fd5c3c217ac4bfe3… (all of the seat's roots in one cut). By AI agents, Wed Nov 11 2026. No macro, syntax, notation, axiom, sorry.
-/
import Derived.Test.YtggdkibbfmjelaaChecked
import GoSem.Claim
import GoSem.ClaimJoined
import GoSem.ClaimMapViews
import Derived.JoinedTies
import Derived.KernelRfl
namespace Go.Proofs.Ytggdkibbfmjelaa
/- THE CELL 'sum', in the pinned program and in every row, IS THE sha256 OF THE DUMP (.gsa) THAT YtggdkibbfmjelaaProg.lean LOADS. Nothing in Lean hashes anything: it is a label: what it is worth is what the hold of that sum in a sandbox is worth. -/
noncomputable def Try.pinned : Pinned := { name := "ytggdkibbfmjelaa", sum := "fd5c3c217ac4bfe32849b91b107010af5fd38ae522cb606d344183ed4de66f0f", checked := Try.checked }
namespace Rows
def none {H : Type} : Left H := { results := [], args := [] }

/-- 'laws.FnExactReverseMotion': WHATEVER THE INPUT: true; the input reads as it did. -/
def fnExactReverseMotionSpec : ChangeSpec := { name := "fnExactReverseMotion", fn := fun _ => fun
  | [d] => { results := [.lit (.bool true)], args := [d] }
  | _ => none }
def fnExactReverseMotionRow : OpenClaim := { program := "ytggdkibbfmjelaa", sum := "fd5c3c217ac4bfe32849b91b107010af5fd38ae522cb606d344183ed4de66f0f", func := "loop.example/g00889/laws.FnExactReverseMotion", spec := "fnExactReverseMotion", apart := false }
def FnExactReverseMotionSaid : Prop := fnExactReverseMotionRow.holds Try.pinned (OpenSpec.ofChange fnExactReverseMotionSpec)

/-- ITS FALSE NEIGHBOUR: 'it returns false'. Refute it at one input. -/
def fnExactReverseMotionWrong : ChangeSpec := { name := "fnExactReverseMotion", fn := fun _ => fun
  | [d] => { results := [.lit (.bool false)], args := [d] }
  | _ => none }
def FnExactReverseMotionWrongFalsely : Prop := fnExactReverseMotionRow.holds Try.pinned (OpenSpec.ofChange fnExactReverseMotionWrong)

/-- 'laws.FnExactMoveField': WHATEVER THE INPUT: true; the input reads as it did. -/
def fnExactMoveFieldSpec : ChangeSpec := { name := "fnExactMoveField", fn := fun _ => fun
  | [d1, d2] => { results := [.lit (.bool true)], args := [d1, d2] }
  | _ => none }
def fnExactMoveFieldRow : OpenClaim := { program := "ytggdkibbfmjelaa", sum := "fd5c3c217ac4bfe32849b91b107010af5fd38ae522cb606d344183ed4de66f0f", func := "loop.example/g00889/laws.FnExactMoveField", spec := "fnExactMoveField", apart := false }
def FnExactMoveFieldSaid : Prop := fnExactMoveFieldRow.holds Try.pinned (OpenSpec.ofChange fnExactMoveFieldSpec)

/-- ITS FALSE NEIGHBOUR: 'it returns false'. Refute it at one input. -/
def fnExactMoveFieldWrong : ChangeSpec := { name := "fnExactMoveField", fn := fun _ => fun
  | [d1, d2] => { results := [.lit (.bool false)], args := [d1, d2] }
  | _ => none }
def FnExactMoveFieldWrongFalsely : Prop := fnExactMoveFieldRow.holds Try.pinned (OpenSpec.ofChange fnExactMoveFieldWrong)

/-- 'laws.FnExactMotionError': WHATEVER THE INPUT: true; the input reads as it did. -/
def fnExactMotionErrorSpec : ChangeSpec := { name := "fnExactMotionError", fn := fun _ => fun
  | [d1, d2] => { results := [.lit (.bool true)], args := [d1, d2] }
  | _ => none }
def fnExactMotionErrorRow : OpenClaim := { program := "ytggdkibbfmjelaa", sum := "fd5c3c217ac4bfe32849b91b107010af5fd38ae522cb606d344183ed4de66f0f", func := "loop.example/g00889/laws.FnExactMotionError", spec := "fnExactMotionError", apart := false }
def FnExactMotionErrorSaid : Prop := fnExactMotionErrorRow.holds Try.pinned (OpenSpec.ofChange fnExactMotionErrorSpec)

/-- ITS FALSE NEIGHBOUR: 'it returns false'. Refute it at one input. -/
def fnExactMotionErrorWrong : ChangeSpec := { name := "fnExactMotionError", fn := fun _ => fun
  | [d1, d2] => { results := [.lit (.bool false)], args := [d1, d2] }
  | _ => none }
def FnExactMotionErrorWrongFalsely : Prop := fnExactMotionErrorRow.holds Try.pinned (OpenSpec.ofChange fnExactMotionErrorWrong)

/-- 'laws.FnExactMatchOf': WHATEVER THE INPUT: true; the input reads as it did. -/
def fnExactMatchOfSpec : ChangeSpec := { name := "fnExactMatchOf", fn := fun _ => fun
  | [d1, d2, d3] => { results := [.lit (.bool true)], args := [d1, d2, d3] }
  | _ => none }
def fnExactMatchOfRow : OpenClaim := { program := "ytggdkibbfmjelaa", sum := "fd5c3c217ac4bfe32849b91b107010af5fd38ae522cb606d344183ed4de66f0f", func := "loop.example/g00889/laws.FnExactMatchOf", spec := "fnExactMatchOf", apart := false }
def FnExactMatchOfSaid : Prop := fnExactMatchOfRow.holds Try.pinned (OpenSpec.ofChange fnExactMatchOfSpec)

/-- ITS FALSE NEIGHBOUR: 'it returns false'. Refute it at one input. -/
def fnExactMatchOfWrong : ChangeSpec := { name := "fnExactMatchOf", fn := fun _ => fun
  | [d1, d2, d3] => { results := [.lit (.bool false)], args := [d1, d2, d3] }
  | _ => none }
def FnExactMatchOfWrongFalsely : Prop := fnExactMatchOfRow.holds Try.pinned (OpenSpec.ofChange fnExactMatchOfWrong)

/-- 'laws.FnExactRankMotions': WHATEVER THE INPUT: true; the input reads as it did. -/
def fnExactRankMotionsSpec : ChangeSpec := { name := "fnExactRankMotions", fn := fun _ => fun
  | [d1, d2] => { results := [.lit (.bool true)], args := [d1, d2] }
  | _ => none }
def fnExactRankMotionsRow : OpenClaim := { program := "ytggdkibbfmjelaa", sum := "fd5c3c217ac4bfe32849b91b107010af5fd38ae522cb606d344183ed4de66f0f", func := "loop.example/g00889/laws.FnExactRankMotions", spec := "fnExactRankMotions", unfollowed := true, recurses := true, apart := false }
def FnExactRankMotionsSaid : Prop := fnExactRankMotionsRow.holds Try.pinned (OpenSpec.ofChange fnExactRankMotionsSpec)

/-- ITS FALSE NEIGHBOUR: 'it returns false'. Refute it at one input. -/
def fnExactRankMotionsWrong : ChangeSpec := { name := "fnExactRankMotions", fn := fun _ => fun
  | [d1, d2] => { results := [.lit (.bool false)], args := [d1, d2] }
  | _ => none }
def FnExactRankMotionsWrongFalsely : Prop := fnExactRankMotionsRow.holds Try.pinned (OpenSpec.ofChange fnExactRankMotionsWrong)

/-- 'laws.FnExactBestMotion': WHATEVER THE INPUT: true; the input reads as it did. -/
def fnExactBestMotionSpec : ChangeSpec := { name := "fnExactBestMotion", fn := fun _ => fun
  | [d1, d2] => { results := [.lit (.bool true)], args := [d1, d2] }
  | _ => none }
def fnExactBestMotionRow : OpenClaim := { program := "ytggdkibbfmjelaa", sum := "fd5c3c217ac4bfe32849b91b107010af5fd38ae522cb606d344183ed4de66f0f", func := "loop.example/g00889/laws.FnExactBestMotion", spec := "fnExactBestMotion", unfollowed := true, recurses := true, apart := false }
def FnExactBestMotionSaid : Prop := fnExactBestMotionRow.holds Try.pinned (OpenSpec.ofChange fnExactBestMotionSpec)

/-- ITS FALSE NEIGHBOUR: 'it returns false'. Refute it at one input. -/
def fnExactBestMotionWrong : ChangeSpec := { name := "fnExactBestMotion", fn := fun _ => fun
  | [d1, d2] => { results := [.lit (.bool false)], args := [d1, d2] }
  | _ => none }
def FnExactBestMotionWrongFalsely : Prop := fnExactBestMotionRow.holds Try.pinned (OpenSpec.ofChange fnExactBestMotionWrong)

/-- 'laws.FnExactNowcast': WHATEVER THE INPUT: true; the input reads as it did. -/
def fnExactNowcastSpec : ChangeSpec := { name := "fnExactNowcast", fn := fun _ => fun
  | [d1, d2, d3] => { results := [.lit (.bool true)], args := [d1, d2, d3] }
  | _ => none }
def fnExactNowcastRow : OpenClaim := { program := "ytggdkibbfmjelaa", sum := "fd5c3c217ac4bfe32849b91b107010af5fd38ae522cb606d344183ed4de66f0f", func := "loop.example/g00889/laws.FnExactNowcast", spec := "fnExactNowcast", unfollowed := true, recurses := true, apart := false }
def FnExactNowcastSaid : Prop := fnExactNowcastRow.holds Try.pinned (OpenSpec.ofChange fnExactNowcastSpec)

/-- ITS FALSE NEIGHBOUR: 'it returns false'. Refute it at one input. -/
def fnExactNowcastWrong : ChangeSpec := { name := "fnExactNowcast", fn := fun _ => fun
  | [d1, d2, d3] => { results := [.lit (.bool false)], args := [d1, d2, d3] }
  | _ => none }
def FnExactNowcastWrongFalsely : Prop := fnExactNowcastRow.holds Try.pinned (OpenSpec.ofChange fnExactNowcastWrong)

/-- 'laws.FnMotion': WHATEVER THE INPUT: true; the input reads as it did. -/
def fnMotionSpec : ChangeSpec := { name := "fnMotion", fn := fun _ => fun
  | [d] => { results := [.lit (.bool true)], args := [d] }
  | _ => none }
def fnMotionRow : OpenClaim := { program := "ytggdkibbfmjelaa", sum := "fd5c3c217ac4bfe32849b91b107010af5fd38ae522cb606d344183ed4de66f0f", func := "loop.example/g00889/laws.FnMotion", spec := "fnMotion", unfollowed := true, recurses := true, apart := false }
def FnMotionSaid : Prop := fnMotionRow.holds Try.pinned (OpenSpec.ofChange fnMotionSpec)

/-- ITS FALSE NEIGHBOUR: 'it returns false'. Refute it at one input. -/
def fnMotionWrong : ChangeSpec := { name := "fnMotion", fn := fun _ => fun
  | [d] => { results := [.lit (.bool false)], args := [d] }
  | _ => none }
def FnMotionWrongFalsely : Prop := fnMotionRow.holds Try.pinned (OpenSpec.ofChange fnMotionWrong)

/-- 'laws.FnNowcast': WHATEVER THE INPUT: true; the input reads as it did. -/
def fnNowcastSpec : ChangeSpec := { name := "fnNowcast", fn := fun _ => fun
  | [d] => { results := [.lit (.bool true)], args := [d] }
  | _ => none }
def fnNowcastRow : OpenClaim := { program := "ytggdkibbfmjelaa", sum := "fd5c3c217ac4bfe32849b91b107010af5fd38ae522cb606d344183ed4de66f0f", func := "loop.example/g00889/laws.FnNowcast", spec := "fnNowcast", unfollowed := true, recurses := true, apart := false }
def FnNowcastSaid : Prop := fnNowcastRow.holds Try.pinned (OpenSpec.ofChange fnNowcastSpec)

/-- ITS FALSE NEIGHBOUR: 'it returns false'. Refute it at one input. -/
def fnNowcastWrong : ChangeSpec := { name := "fnNowcast", fn := fun _ => fun
  | [d] => { results := [.lit (.bool false)], args := [d] }
  | _ => none }
def FnNowcastWrongFalsely : Prop := fnNowcastRow.holds Try.pinned (OpenSpec.ofChange fnNowcastWrong)

/-- 'laws.FnExactNearestMember': WHATEVER THE INPUT: true; the input reads as it did. -/
def fnExactNearestMemberSpec : ChangeSpec := { name := "fnExactNearestMember", fn := fun _ => fun
  | [d1, d2] => { results := [.lit (.bool true)], args := [d1, d2] }
  | _ => none }
def fnExactNearestMemberRow : OpenClaim := { program := "ytggdkibbfmjelaa", sum := "fd5c3c217ac4bfe32849b91b107010af5fd38ae522cb606d344183ed4de66f0f", func := "loop.example/g00889/laws.FnExactNearestMember", spec := "fnExactNearestMember", apart := false }
def FnExactNearestMemberSaid : Prop := fnExactNearestMemberRow.holds Try.pinned (OpenSpec.ofChange fnExactNearestMemberSpec)

/-- ITS FALSE NEIGHBOUR: 'it returns false'. Refute it at one input. -/
def fnExactNearestMemberWrong : ChangeSpec := { name := "fnExactNearestMember", fn := fun _ => fun
  | [d1, d2] => { results := [.lit (.bool false)], args := [d1, d2] }
  | _ => none }
def FnExactNearestMemberWrongFalsely : Prop := fnExactNearestMemberRow.holds Try.pinned (OpenSpec.ofChange fnExactNearestMemberWrong)

/-- 'laws.FnExactWithoutMember': WHATEVER THE INPUT: true; the input reads as it did. -/
def fnExactWithoutMemberSpec : ChangeSpec := { name := "fnExactWithoutMember", fn := fun _ => fun
  | [d1, d2] => { results := [.lit (.bool true)], args := [d1, d2] }
  | _ => none }
def fnExactWithoutMemberRow : OpenClaim := { program := "ytggdkibbfmjelaa", sum := "fd5c3c217ac4bfe32849b91b107010af5fd38ae522cb606d344183ed4de66f0f", func := "loop.example/g00889/laws.FnExactWithoutMember", spec := "fnExactWithoutMember", apart := false }
def FnExactWithoutMemberSaid : Prop := fnExactWithoutMemberRow.holds Try.pinned (OpenSpec.ofChange fnExactWithoutMemberSpec)

/-- ITS FALSE NEIGHBOUR: 'it returns false'. Refute it at one input. -/
def fnExactWithoutMemberWrong : ChangeSpec := { name := "fnExactWithoutMember", fn := fun _ => fun
  | [d1, d2] => { results := [.lit (.bool false)], args := [d1, d2] }
  | _ => none }
def FnExactWithoutMemberWrongFalsely : Prop := fnExactWithoutMemberRow.holds Try.pinned (OpenSpec.ofChange fnExactWithoutMemberWrong)

/- THE SECOND FORM. 'bulk': how many values and letters a reading holds, each counted each time it is reached (what is shared counts as often as it is met; a slice's spare places count too). A statement '..UptoSaid' is the law's where the arguments, and the package variables that the reading takes, are together of bulk at most 1048576: NARROWER than '..Said'. Prove '..Said' where nothing that the law and all that it calls make is longer than what came in: it says more and counts as full. Else prove '..UptoSaid'. A law counts once. -/
mutual
def uptoBulk {H : Type} : DataW H → Nat
  | .lit (.string bytes) => bytes.length + 1
  | .lit _ => 1
  | .nil => 1
  | .ptr d => uptoBulk d + 1
  | .slice elems spare => uptoBulkAll elems + uptoBulkAll spare + 1
  | .agg parts => uptoBulkAll parts + 1
  | .iface _ d => uptoBulk d + 1
  | .map entries => uptoBulkEntries entries + 1
  | .held _ => 1
def uptoBulkAll {H : Type} : List (DataW H) → Nat
  | [] => 0
  | d :: r => uptoBulk d + uptoBulkAll r
def uptoBulkEntries {H : Type} : List (Lit × DataW H) → Nat
  | [] => 0
  | x :: r => uptoBulkEntry x + uptoBulkEntries r
def uptoBulkEntry {H : Type} : Lit × DataW H → Nat
  | (.string bytes, d) => bytes.length + uptoBulk d + 1
  | (_, d) => uptoBulk d + 1
 end
def uptoSmall : (H : Type) → List (DataW H) → Bool := fun _ ds => decide (uptoBulkAll ds ≤ 1048576)
def OpenSpec.upto (s : _root_.Go.ChangeSpec) : _root_.Go.OpenSpec := { _root_.Go.OpenSpec.ofChange s with cond := some uptoSmall }

/-- 'laws.FnExactReverseMotion', WHERE WHAT IT READS IS OF BULK AT MOST 1048576: true; the input reads as it did. -/
def fnExactReverseMotionUptoRow : OpenClaim := { program := "ytggdkibbfmjelaa", sum := "fd5c3c217ac4bfe32849b91b107010af5fd38ae522cb606d344183ed4de66f0f", func := "loop.example/g00889/laws.FnExactReverseMotion", spec := "fnExactReverseMotion", apart := false, narrowed := true }
def FnExactReverseMotionUptoSaid : Prop := fnExactReverseMotionUptoRow.holds Try.pinned (OpenSpec.upto fnExactReverseMotionSpec)

/-- 'laws.FnExactMoveField', WHERE WHAT IT READS IS OF BULK AT MOST 1048576: true; the input reads as it did. -/
def fnExactMoveFieldUptoRow : OpenClaim := { program := "ytggdkibbfmjelaa", sum := "fd5c3c217ac4bfe32849b91b107010af5fd38ae522cb606d344183ed4de66f0f", func := "loop.example/g00889/laws.FnExactMoveField", spec := "fnExactMoveField", apart := false, narrowed := true }
def FnExactMoveFieldUptoSaid : Prop := fnExactMoveFieldUptoRow.holds Try.pinned (OpenSpec.upto fnExactMoveFieldSpec)

/-- 'laws.FnExactMotionError', WHERE WHAT IT READS IS OF BULK AT MOST 1048576: true; the input reads as it did. -/
def fnExactMotionErrorUptoRow : OpenClaim := { program := "ytggdkibbfmjelaa", sum := "fd5c3c217ac4bfe32849b91b107010af5fd38ae522cb606d344183ed4de66f0f", func := "loop.example/g00889/laws.FnExactMotionError", spec := "fnExactMotionError", apart := false, narrowed := true }
def FnExactMotionErrorUptoSaid : Prop := fnExactMotionErrorUptoRow.holds Try.pinned (OpenSpec.upto fnExactMotionErrorSpec)

/-- 'laws.FnExactMatchOf', WHERE WHAT IT READS IS OF BULK AT MOST 1048576: true; the input reads as it did. -/
def fnExactMatchOfUptoRow : OpenClaim := { program := "ytggdkibbfmjelaa", sum := "fd5c3c217ac4bfe32849b91b107010af5fd38ae522cb606d344183ed4de66f0f", func := "loop.example/g00889/laws.FnExactMatchOf", spec := "fnExactMatchOf", apart := false, narrowed := true }
def FnExactMatchOfUptoSaid : Prop := fnExactMatchOfUptoRow.holds Try.pinned (OpenSpec.upto fnExactMatchOfSpec)

/-- 'laws.FnExactRankMotions', WHERE WHAT IT READS IS OF BULK AT MOST 1048576: true; the input reads as it did. -/
def fnExactRankMotionsUptoRow : OpenClaim := { program := "ytggdkibbfmjelaa", sum := "fd5c3c217ac4bfe32849b91b107010af5fd38ae522cb606d344183ed4de66f0f", func := "loop.example/g00889/laws.FnExactRankMotions", spec := "fnExactRankMotions", unfollowed := true, recurses := true, apart := false, narrowed := true }
def FnExactRankMotionsUptoSaid : Prop := fnExactRankMotionsUptoRow.holds Try.pinned (OpenSpec.upto fnExactRankMotionsSpec)

/-- 'laws.FnExactBestMotion', WHERE WHAT IT READS IS OF BULK AT MOST 1048576: true; the input reads as it did. -/
def fnExactBestMotionUptoRow : OpenClaim := { program := "ytggdkibbfmjelaa", sum := "fd5c3c217ac4bfe32849b91b107010af5fd38ae522cb606d344183ed4de66f0f", func := "loop.example/g00889/laws.FnExactBestMotion", spec := "fnExactBestMotion", unfollowed := true, recurses := true, apart := false, narrowed := true }
def FnExactBestMotionUptoSaid : Prop := fnExactBestMotionUptoRow.holds Try.pinned (OpenSpec.upto fnExactBestMotionSpec)

/-- 'laws.FnExactNowcast', WHERE WHAT IT READS IS OF BULK AT MOST 1048576: true; the input reads as it did. -/
def fnExactNowcastUptoRow : OpenClaim := { program := "ytggdkibbfmjelaa", sum := "fd5c3c217ac4bfe32849b91b107010af5fd38ae522cb606d344183ed4de66f0f", func := "loop.example/g00889/laws.FnExactNowcast", spec := "fnExactNowcast", unfollowed := true, recurses := true, apart := false, narrowed := true }
def FnExactNowcastUptoSaid : Prop := fnExactNowcastUptoRow.holds Try.pinned (OpenSpec.upto fnExactNowcastSpec)

/-- 'laws.FnMotion', WHERE WHAT IT READS IS OF BULK AT MOST 1048576: true; the input reads as it did. -/
def fnMotionUptoRow : OpenClaim := { program := "ytggdkibbfmjelaa", sum := "fd5c3c217ac4bfe32849b91b107010af5fd38ae522cb606d344183ed4de66f0f", func := "loop.example/g00889/laws.FnMotion", spec := "fnMotion", unfollowed := true, recurses := true, apart := false, narrowed := true }
def FnMotionUptoSaid : Prop := fnMotionUptoRow.holds Try.pinned (OpenSpec.upto fnMotionSpec)

/-- 'laws.FnNowcast', WHERE WHAT IT READS IS OF BULK AT MOST 1048576: true; the input reads as it did. -/
def fnNowcastUptoRow : OpenClaim := { program := "ytggdkibbfmjelaa", sum := "fd5c3c217ac4bfe32849b91b107010af5fd38ae522cb606d344183ed4de66f0f", func := "loop.example/g00889/laws.FnNowcast", spec := "fnNowcast", unfollowed := true, recurses := true, apart := false, narrowed := true }
def FnNowcastUptoSaid : Prop := fnNowcastUptoRow.holds Try.pinned (OpenSpec.upto fnNowcastSpec)

/-- 'laws.FnExactNearestMember', WHERE WHAT IT READS IS OF BULK AT MOST 1048576: true; the input reads as it did. -/
def fnExactNearestMemberUptoRow : OpenClaim := { program := "ytggdkibbfmjelaa", sum := "fd5c3c217ac4bfe32849b91b107010af5fd38ae522cb606d344183ed4de66f0f", func := "loop.example/g00889/laws.FnExactNearestMember", spec := "fnExactNearestMember", apart := false, narrowed := true }
def FnExactNearestMemberUptoSaid : Prop := fnExactNearestMemberUptoRow.holds Try.pinned (OpenSpec.upto fnExactNearestMemberSpec)

/-- 'laws.FnExactWithoutMember', WHERE WHAT IT READS IS OF BULK AT MOST 1048576: true; the input reads as it did. -/
def fnExactWithoutMemberUptoRow : OpenClaim := { program := "ytggdkibbfmjelaa", sum := "fd5c3c217ac4bfe32849b91b107010af5fd38ae522cb606d344183ed4de66f0f", func := "loop.example/g00889/laws.FnExactWithoutMember", spec := "fnExactWithoutMember", apart := false, narrowed := true }
def FnExactWithoutMemberUptoSaid : Prop := fnExactWithoutMemberUptoRow.holds Try.pinned (OpenSpec.upto fnExactWithoutMemberSpec)

end Rows
end Go.Proofs.Ytggdkibbfmjelaa
