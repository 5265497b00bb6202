/-
  No cell of these rows narrows 'for every input' (looked for: loops, veiled, ifaces, maps, wideKeys, modest, calm, conditions, laid).
  DERIVED. THE GIVEN ROWS OF THIS SEAT. 11 by the template 'for every input the law returns true; each argument reads behind the call as it read before'; 0 by the template 'total and deterministic' (their statements: YthceffkkokgpnaaTotals.lean).
  GIVEN WITH THE SEED: the statements are not yours to turn. If you find one false, say at which input.
  Laid BY PROGRAM, IN A SANDBOX (cutbox-rows.mjs): the forced cells as the released guide's own fill.sh prints them over the translation 60a62586002297b5… (all of the seat's roots in one cut). By AI agents, Wed Nov 11 2026. No macro, syntax, notation, axiom, sorry.
-/
import Derived.Test.YthceffkkokgpnaaChecked
import GoSem.Claim
import GoSem.ClaimJoined
import GoSem.ClaimMapViews
import Derived.JoinedTies
import Derived.KernelRfl
namespace Go.Proofs.Ythceffkkokgpnaa
/- THE CELL 'sum', in the pinned program and in every row, IS THE sha256 OF THE DUMP (.gsa) THAT YthceffkkokgpnaaProg.lean LOADS. Nothing in Lean hashes anything: it is a label: what it is worth is what the hold of that sum in a sandbox is worth. -/
noncomputable def Try.pinned : Pinned := { name := "ythceffkkokgpnaa", sum := "60a62586002297b5dac5b6f6732919edd9c7c0f0b7866d32f70394b9137815c3", checked := Try.checked }
namespace Rows
def none {H : Type} : Left H := { results := [], args := [] }

/-- 'laws.FnExactStormDistance': WHATEVER THE INPUT: true; the input reads as it did. -/
def fnExactStormDistanceSpec : ChangeSpec := { name := "fnExactStormDistance", fn := fun _ => fun
  | [d1, d2] => { results := [.lit (.bool true)], args := [d1, d2] }
  | _ => none }
def fnExactStormDistanceRow : OpenClaim := { program := "ythceffkkokgpnaa", sum := "60a62586002297b5dac5b6f6732919edd9c7c0f0b7866d32f70394b9137815c3", func := "loop.example/g00889/laws.FnExactStormDistance", spec := "fnExactStormDistance", plainKeys := false, apart := false }
def FnExactStormDistanceSaid : Prop := fnExactStormDistanceRow.holds Try.pinned (OpenSpec.ofChange fnExactStormDistanceSpec)

/-- ITS FALSE NEIGHBOUR: 'it returns false'. Refute it at one input. -/
def fnExactStormDistanceWrong : ChangeSpec := { name := "fnExactStormDistance", fn := fun _ => fun
  | [d1, d2] => { results := [.lit (.bool false)], args := [d1, d2] }
  | _ => none }
def FnExactStormDistanceWrongFalsely : Prop := fnExactStormDistanceRow.holds Try.pinned (OpenSpec.ofChange fnExactStormDistanceWrong)

/-- 'laws.FnExactTrackingCost': WHATEVER THE INPUT: true; the input reads as it did. -/
def fnExactTrackingCostSpec : ChangeSpec := { name := "fnExactTrackingCost", fn := fun _ => fun
  | [d1, d2, d3, d4] => { results := [.lit (.bool true)], args := [d1, d2, d3, d4] }
  | _ => none }
def fnExactTrackingCostRow : OpenClaim := { program := "ythceffkkokgpnaa", sum := "60a62586002297b5dac5b6f6732919edd9c7c0f0b7866d32f70394b9137815c3", func := "loop.example/g00889/laws.FnExactTrackingCost", spec := "fnExactTrackingCost", unfollowed := true, recurses := true, plainKeys := false, apart := false }
def FnExactTrackingCostSaid : Prop := fnExactTrackingCostRow.holds Try.pinned (OpenSpec.ofChange fnExactTrackingCostSpec)

/-- ITS FALSE NEIGHBOUR: 'it returns false'. Refute it at one input. -/
def fnExactTrackingCostWrong : ChangeSpec := { name := "fnExactTrackingCost", fn := fun _ => fun
  | [d1, d2, d3, d4] => { results := [.lit (.bool false)], args := [d1, d2, d3, d4] }
  | _ => none }
def FnExactTrackingCostWrongFalsely : Prop := fnExactTrackingCostRow.holds Try.pinned (OpenSpec.ofChange fnExactTrackingCostWrong)

/-- 'laws.FnExactNewStorms': WHATEVER THE INPUT: true; the input reads as it did. -/
def fnExactNewStormsSpec : ChangeSpec := { name := "fnExactNewStorms", fn := fun _ => fun
  | [d1, d2, d3] => { results := [.lit (.bool true)], args := [d1, d2, d3] }
  | _ => none }
def fnExactNewStormsRow : OpenClaim := { program := "ythceffkkokgpnaa", sum := "60a62586002297b5dac5b6f6732919edd9c7c0f0b7866d32f70394b9137815c3", func := "loop.example/g00889/laws.FnExactNewStorms", spec := "fnExactNewStorms", unfollowed := true, recurses := true, plainKeys := false, apart := false }
def FnExactNewStormsSaid : Prop := fnExactNewStormsRow.holds Try.pinned (OpenSpec.ofChange fnExactNewStormsSpec)

/-- ITS FALSE NEIGHBOUR: 'it returns false'. Refute it at one input. -/
def fnExactNewStormsWrong : ChangeSpec := { name := "fnExactNewStorms", fn := fun _ => fun
  | [d1, d2, d3] => { results := [.lit (.bool false)], args := [d1, d2, d3] }
  | _ => none }
def FnExactNewStormsWrongFalsely : Prop := fnExactNewStormsRow.holds Try.pinned (OpenSpec.ofChange fnExactNewStormsWrong)

/-- 'laws.FnExactGrowthOf': WHATEVER THE INPUT: true; the input reads as it did. -/
def fnExactGrowthOfSpec : ChangeSpec := { name := "fnExactGrowthOf", fn := fun _ => fun
  | [d1, d2, d3] => { results := [.lit (.bool true)], args := [d1, d2, d3] }
  | _ => none }
def fnExactGrowthOfRow : OpenClaim := { program := "ythceffkkokgpnaa", sum := "60a62586002297b5dac5b6f6732919edd9c7c0f0b7866d32f70394b9137815c3", func := "loop.example/g00889/laws.FnExactGrowthOf", spec := "fnExactGrowthOf", unfollowed := true, recurses := true, plainKeys := false, apart := false }
def FnExactGrowthOfSaid : Prop := fnExactGrowthOfRow.holds Try.pinned (OpenSpec.ofChange fnExactGrowthOfSpec)

/-- ITS FALSE NEIGHBOUR: 'it returns false'. Refute it at one input. -/
def fnExactGrowthOfWrong : ChangeSpec := { name := "fnExactGrowthOf", fn := fun _ => fun
  | [d1, d2, d3] => { results := [.lit (.bool false)], args := [d1, d2, d3] }
  | _ => none }
def FnExactGrowthOfWrongFalsely : Prop := fnExactGrowthOfRow.holds Try.pinned (OpenSpec.ofChange fnExactGrowthOfWrong)

/-- 'laws.FnExactStormsOf': WHATEVER THE INPUT: true; the input reads as it did. -/
def fnExactStormsOfSpec : ChangeSpec := { name := "fnExactStormsOf", fn := fun _ => fun
  | [d1, d2] => { results := [.lit (.bool true)], args := [d1, d2] }
  | _ => none }
def fnExactStormsOfRow : OpenClaim := { program := "ythceffkkokgpnaa", sum := "60a62586002297b5dac5b6f6732919edd9c7c0f0b7866d32f70394b9137815c3", func := "loop.example/g00889/laws.FnExactStormsOf", spec := "fnExactStormsOf", recurses := true, plainKeys := false, apart := false }
def FnExactStormsOfSaid : Prop := fnExactStormsOfRow.holds Try.pinned (OpenSpec.ofChange fnExactStormsOfSpec)

/-- ITS FALSE NEIGHBOUR: 'it returns false'. Refute it at one input. -/
def fnExactStormsOfWrong : ChangeSpec := { name := "fnExactStormsOf", fn := fun _ => fun
  | [d1, d2] => { results := [.lit (.bool false)], args := [d1, d2] }
  | _ => none }
def FnExactStormsOfWrongFalsely : Prop := fnExactStormsOfRow.holds Try.pinned (OpenSpec.ofChange fnExactStormsOfWrong)

/-- 'laws.FnExactBestTracking': WHATEVER THE INPUT: true; the input reads as it did. -/
def fnExactBestTrackingSpec : ChangeSpec := { name := "fnExactBestTracking", fn := fun _ => fun
  | [d1, d2, d3] => { results := [.lit (.bool true)], args := [d1, d2, d3] }
  | _ => none }
def fnExactBestTrackingRow : OpenClaim := { program := "ythceffkkokgpnaa", sum := "60a62586002297b5dac5b6f6732919edd9c7c0f0b7866d32f70394b9137815c3", func := "loop.example/g00889/laws.FnExactBestTracking", spec := "fnExactBestTracking", unfollowed := true, recurses := true, plainKeys := false, apart := false }
def FnExactBestTrackingSaid : Prop := fnExactBestTrackingRow.holds Try.pinned (OpenSpec.ofChange fnExactBestTrackingSpec)

/-- ITS FALSE NEIGHBOUR: 'it returns false'. Refute it at one input. -/
def fnExactBestTrackingWrong : ChangeSpec := { name := "fnExactBestTracking", fn := fun _ => fun
  | [d1, d2, d3] => { results := [.lit (.bool false)], args := [d1, d2, d3] }
  | _ => none }
def FnExactBestTrackingWrongFalsely : Prop := fnExactBestTrackingRow.holds Try.pinned (OpenSpec.ofChange fnExactBestTrackingWrong)

/-- 'laws.FnExactLongestTrack': WHATEVER THE INPUT: true; the input reads as it did. -/
def fnExactLongestTrackSpec : ChangeSpec := { name := "fnExactLongestTrack", fn := fun _ => fun
  | [d1, d2] => { results := [.lit (.bool true)], args := [d1, d2] }
  | _ => none }
def fnExactLongestTrackRow : OpenClaim := { program := "ythceffkkokgpnaa", sum := "60a62586002297b5dac5b6f6732919edd9c7c0f0b7866d32f70394b9137815c3", func := "loop.example/g00889/laws.FnExactLongestTrack", spec := "fnExactLongestTrack", unfollowed := true, recurses := true, plainKeys := false, apart := false }
def FnExactLongestTrackSaid : Prop := fnExactLongestTrackRow.holds Try.pinned (OpenSpec.ofChange fnExactLongestTrackSpec)

/-- ITS FALSE NEIGHBOUR: 'it returns false'. Refute it at one input. -/
def fnExactLongestTrackWrong : ChangeSpec := { name := "fnExactLongestTrack", fn := fun _ => fun
  | [d1, d2] => { results := [.lit (.bool false)], args := [d1, d2] }
  | _ => none }
def FnExactLongestTrackWrongFalsely : Prop := fnExactLongestTrackRow.holds Try.pinned (OpenSpec.ofChange fnExactLongestTrackWrong)

/-- 'laws.FnExactTrackLength': WHATEVER THE INPUT: true; the input reads as it did. -/
def fnExactTrackLengthSpec : ChangeSpec := { name := "fnExactTrackLength", fn := fun _ => fun
  | [d1, d2, d3, d4] => { results := [.lit (.bool true)], args := [d1, d2, d3, d4] }
  | _ => none }
def fnExactTrackLengthRow : OpenClaim := { program := "ythceffkkokgpnaa", sum := "60a62586002297b5dac5b6f6732919edd9c7c0f0b7866d32f70394b9137815c3", func := "loop.example/g00889/laws.FnExactTrackLength", spec := "fnExactTrackLength", unfollowed := true, recurses := true, plainKeys := false, apart := false }
def FnExactTrackLengthSaid : Prop := fnExactTrackLengthRow.holds Try.pinned (OpenSpec.ofChange fnExactTrackLengthSpec)

/-- ITS FALSE NEIGHBOUR: 'it returns false'. Refute it at one input. -/
def fnExactTrackLengthWrong : ChangeSpec := { name := "fnExactTrackLength", fn := fun _ => fun
  | [d1, d2, d3, d4] => { results := [.lit (.bool false)], args := [d1, d2, d3, d4] }
  | _ => none }
def FnExactTrackLengthWrongFalsely : Prop := fnExactTrackLengthRow.holds Try.pinned (OpenSpec.ofChange fnExactTrackLengthWrong)

/-- 'laws.FnTracking': WHATEVER THE INPUT: true; the input reads as it did. -/
def fnTrackingSpec : ChangeSpec := { name := "fnTracking", fn := fun _ => fun
  | [d] => { results := [.lit (.bool true)], args := [d] }
  | _ => none }
def fnTrackingRow : OpenClaim := { program := "ythceffkkokgpnaa", sum := "60a62586002297b5dac5b6f6732919edd9c7c0f0b7866d32f70394b9137815c3", func := "loop.example/g00889/laws.FnTracking", spec := "fnTracking", unfollowed := true, recurses := true, plainKeys := false, apart := false }
def FnTrackingSaid : Prop := fnTrackingRow.holds Try.pinned (OpenSpec.ofChange fnTrackingSpec)

/-- ITS FALSE NEIGHBOUR: 'it returns false'. Refute it at one input. -/
def fnTrackingWrong : ChangeSpec := { name := "fnTracking", fn := fun _ => fun
  | [d] => { results := [.lit (.bool false)], args := [d] }
  | _ => none }
def FnTrackingWrongFalsely : Prop := fnTrackingRow.holds Try.pinned (OpenSpec.ofChange fnTrackingWrong)

/-- 'laws.FnMotion': WHATEVER THE INPUT: true; the input reads as it did. -/
def fnMotionSpec : ChangeSpec := { name := "fnMotion", fn := fun _ => fun
  | [d] => { results := [.lit (.bool true)], args := [d] }
  | _ => none }
def fnMotionRow : OpenClaim := { program := "ythceffkkokgpnaa", sum := "60a62586002297b5dac5b6f6732919edd9c7c0f0b7866d32f70394b9137815c3", func := "loop.example/g00889/laws.FnMotion", spec := "fnMotion", unfollowed := true, recurses := true, plainKeys := false, apart := false }
def FnMotionSaid : Prop := fnMotionRow.holds Try.pinned (OpenSpec.ofChange fnMotionSpec)

/-- ITS FALSE NEIGHBOUR: 'it returns false'. Refute it at one input. -/
def fnMotionWrong : ChangeSpec := { name := "fnMotion", fn := fun _ => fun
  | [d] => { results := [.lit (.bool false)], args := [d] }
  | _ => none }
def FnMotionWrongFalsely : Prop := fnMotionRow.holds Try.pinned (OpenSpec.ofChange fnMotionWrong)

/-- 'laws.FnNowcast': WHATEVER THE INPUT: true; the input reads as it did. -/
def fnNowcastSpec : ChangeSpec := { name := "fnNowcast", fn := fun _ => fun
  | [d] => { results := [.lit (.bool true)], args := [d] }
  | _ => none }
def fnNowcastRow : OpenClaim := { program := "ythceffkkokgpnaa", sum := "60a62586002297b5dac5b6f6732919edd9c7c0f0b7866d32f70394b9137815c3", func := "loop.example/g00889/laws.FnNowcast", spec := "fnNowcast", unfollowed := true, recurses := true, plainKeys := false, apart := false }
def FnNowcastSaid : Prop := fnNowcastRow.holds Try.pinned (OpenSpec.ofChange fnNowcastSpec)

/-- ITS FALSE NEIGHBOUR: 'it returns false'. Refute it at one input. -/
def fnNowcastWrong : ChangeSpec := { name := "fnNowcast", fn := fun _ => fun
  | [d] => { results := [.lit (.bool false)], args := [d] }
  | _ => none }
def FnNowcastWrongFalsely : Prop := fnNowcastRow.holds Try.pinned (OpenSpec.ofChange fnNowcastWrong)

/- THE SECOND FORM. 'bulk': how many values and letters a reading holds, each counted each time it is reached (what is shared counts as often as it is met; a slice's spare places count too). A statement '..UptoSaid' is the law's where the arguments, and the package variables that the reading takes, are together of bulk at most 1048576: NARROWER than '..Said'. Prove '..Said' where nothing that the law and all that it calls make is longer than what came in: it says more and counts as full. Else prove '..UptoSaid'. A law counts once. -/
mutual
def uptoBulk {H : Type} : DataW H → Nat
  | .lit (.string bytes) => bytes.length + 1
  | .lit _ => 1
  | .nil => 1
  | .ptr d => uptoBulk d + 1
  | .slice elems spare => uptoBulkAll elems + uptoBulkAll spare + 1
  | .agg parts => uptoBulkAll parts + 1
  | .iface _ d => uptoBulk d + 1
  | .map entries => uptoBulkEntries entries + 1
  | .held _ => 1
def uptoBulkAll {H : Type} : List (DataW H) → Nat
  | [] => 0
  | d :: r => uptoBulk d + uptoBulkAll r
def uptoBulkEntries {H : Type} : List (Lit × DataW H) → Nat
  | [] => 0
  | x :: r => uptoBulkEntry x + uptoBulkEntries r
def uptoBulkEntry {H : Type} : Lit × DataW H → Nat
  | (.string bytes, d) => bytes.length + uptoBulk d + 1
  | (_, d) => uptoBulk d + 1
 end
def uptoSmall : (H : Type) → List (DataW H) → Bool := fun _ ds => decide (uptoBulkAll ds ≤ 1048576)
def OpenSpec.upto (s : _root_.Go.ChangeSpec) : _root_.Go.OpenSpec := { _root_.Go.OpenSpec.ofChange s with cond := some uptoSmall }

/-- 'laws.FnExactStormDistance', WHERE WHAT IT READS IS OF BULK AT MOST 1048576: true; the input reads as it did. -/
def fnExactStormDistanceUptoRow : OpenClaim := { program := "ythceffkkokgpnaa", sum := "60a62586002297b5dac5b6f6732919edd9c7c0f0b7866d32f70394b9137815c3", func := "loop.example/g00889/laws.FnExactStormDistance", spec := "fnExactStormDistance", plainKeys := false, apart := false, narrowed := true }
def FnExactStormDistanceUptoSaid : Prop := fnExactStormDistanceUptoRow.holds Try.pinned (OpenSpec.upto fnExactStormDistanceSpec)

/-- 'laws.FnExactTrackingCost', WHERE WHAT IT READS IS OF BULK AT MOST 1048576: true; the input reads as it did. -/
def fnExactTrackingCostUptoRow : OpenClaim := { program := "ythceffkkokgpnaa", sum := "60a62586002297b5dac5b6f6732919edd9c7c0f0b7866d32f70394b9137815c3", func := "loop.example/g00889/laws.FnExactTrackingCost", spec := "fnExactTrackingCost", unfollowed := true, recurses := true, plainKeys := false, apart := false, narrowed := true }
def FnExactTrackingCostUptoSaid : Prop := fnExactTrackingCostUptoRow.holds Try.pinned (OpenSpec.upto fnExactTrackingCostSpec)

/-- 'laws.FnExactNewStorms', WHERE WHAT IT READS IS OF BULK AT MOST 1048576: true; the input reads as it did. -/
def fnExactNewStormsUptoRow : OpenClaim := { program := "ythceffkkokgpnaa", sum := "60a62586002297b5dac5b6f6732919edd9c7c0f0b7866d32f70394b9137815c3", func := "loop.example/g00889/laws.FnExactNewStorms", spec := "fnExactNewStorms", unfollowed := true, recurses := true, plainKeys := false, apart := false, narrowed := true }
def FnExactNewStormsUptoSaid : Prop := fnExactNewStormsUptoRow.holds Try.pinned (OpenSpec.upto fnExactNewStormsSpec)

/-- 'laws.FnExactGrowthOf', WHERE WHAT IT READS IS OF BULK AT MOST 1048576: true; the input reads as it did. -/
def fnExactGrowthOfUptoRow : OpenClaim := { program := "ythceffkkokgpnaa", sum := "60a62586002297b5dac5b6f6732919edd9c7c0f0b7866d32f70394b9137815c3", func := "loop.example/g00889/laws.FnExactGrowthOf", spec := "fnExactGrowthOf", unfollowed := true, recurses := true, plainKeys := false, apart := false, narrowed := true }
def FnExactGrowthOfUptoSaid : Prop := fnExactGrowthOfUptoRow.holds Try.pinned (OpenSpec.upto fnExactGrowthOfSpec)

/-- 'laws.FnExactStormsOf', WHERE WHAT IT READS IS OF BULK AT MOST 1048576: true; the input reads as it did. -/
def fnExactStormsOfUptoRow : OpenClaim := { program := "ythceffkkokgpnaa", sum := "60a62586002297b5dac5b6f6732919edd9c7c0f0b7866d32f70394b9137815c3", func := "loop.example/g00889/laws.FnExactStormsOf", spec := "fnExactStormsOf", recurses := true, plainKeys := false, apart := false, narrowed := true }
def FnExactStormsOfUptoSaid : Prop := fnExactStormsOfUptoRow.holds Try.pinned (OpenSpec.upto fnExactStormsOfSpec)

/-- 'laws.FnExactBestTracking', WHERE WHAT IT READS IS OF BULK AT MOST 1048576: true; the input reads as it did. -/
def fnExactBestTrackingUptoRow : OpenClaim := { program := "ythceffkkokgpnaa", sum := "60a62586002297b5dac5b6f6732919edd9c7c0f0b7866d32f70394b9137815c3", func := "loop.example/g00889/laws.FnExactBestTracking", spec := "fnExactBestTracking", unfollowed := true, recurses := true, plainKeys := false, apart := false, narrowed := true }
def FnExactBestTrackingUptoSaid : Prop := fnExactBestTrackingUptoRow.holds Try.pinned (OpenSpec.upto fnExactBestTrackingSpec)

/-- 'laws.FnExactLongestTrack', WHERE WHAT IT READS IS OF BULK AT MOST 1048576: true; the input reads as it did. -/
def fnExactLongestTrackUptoRow : OpenClaim := { program := "ythceffkkokgpnaa", sum := "60a62586002297b5dac5b6f6732919edd9c7c0f0b7866d32f70394b9137815c3", func := "loop.example/g00889/laws.FnExactLongestTrack", spec := "fnExactLongestTrack", unfollowed := true, recurses := true, plainKeys := false, apart := false, narrowed := true }
def FnExactLongestTrackUptoSaid : Prop := fnExactLongestTrackUptoRow.holds Try.pinned (OpenSpec.upto fnExactLongestTrackSpec)

/-- 'laws.FnExactTrackLength', WHERE WHAT IT READS IS OF BULK AT MOST 1048576: true; the input reads as it did. -/
def fnExactTrackLengthUptoRow : OpenClaim := { program := "ythceffkkokgpnaa", sum := "60a62586002297b5dac5b6f6732919edd9c7c0f0b7866d32f70394b9137815c3", func := "loop.example/g00889/laws.FnExactTrackLength", spec := "fnExactTrackLength", unfollowed := true, recurses := true, plainKeys := false, apart := false, narrowed := true }
def FnExactTrackLengthUptoSaid : Prop := fnExactTrackLengthUptoRow.holds Try.pinned (OpenSpec.upto fnExactTrackLengthSpec)

/-- 'laws.FnTracking', WHERE WHAT IT READS IS OF BULK AT MOST 1048576: true; the input reads as it did. -/
def fnTrackingUptoRow : OpenClaim := { program := "ythceffkkokgpnaa", sum := "60a62586002297b5dac5b6f6732919edd9c7c0f0b7866d32f70394b9137815c3", func := "loop.example/g00889/laws.FnTracking", spec := "fnTracking", unfollowed := true, recurses := true, plainKeys := false, apart := false, narrowed := true }
def FnTrackingUptoSaid : Prop := fnTrackingUptoRow.holds Try.pinned (OpenSpec.upto fnTrackingSpec)

/-- 'laws.FnMotion', WHERE WHAT IT READS IS OF BULK AT MOST 1048576: true; the input reads as it did. -/
def fnMotionUptoRow : OpenClaim := { program := "ythceffkkokgpnaa", sum := "60a62586002297b5dac5b6f6732919edd9c7c0f0b7866d32f70394b9137815c3", func := "loop.example/g00889/laws.FnMotion", spec := "fnMotion", unfollowed := true, recurses := true, plainKeys := false, apart := false, narrowed := true }
def FnMotionUptoSaid : Prop := fnMotionUptoRow.holds Try.pinned (OpenSpec.upto fnMotionSpec)

/-- 'laws.FnNowcast', WHERE WHAT IT READS IS OF BULK AT MOST 1048576: true; the input reads as it did. -/
def fnNowcastUptoRow : OpenClaim := { program := "ythceffkkokgpnaa", sum := "60a62586002297b5dac5b6f6732919edd9c7c0f0b7866d32f70394b9137815c3", func := "loop.example/g00889/laws.FnNowcast", spec := "fnNowcast", unfollowed := true, recurses := true, plainKeys := false, apart := false, narrowed := true }
def FnNowcastUptoSaid : Prop := fnNowcastUptoRow.holds Try.pinned (OpenSpec.upto fnNowcastSpec)

end Rows
end Go.Proofs.Ythceffkkokgpnaa
