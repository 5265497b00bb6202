/-
  NARROWER THAN 'FOR EVERY INPUT', by the rows' own cells (each row's printed sentence says how): FnReplacing: laid · FnExactFoldNumbers: laid.
  DERIVED. THE GIVEN ROWS OF THIS SEAT. 2 by the template 'for every input the law returns true; each argument reads behind the call as it read before'; 0 by the template 'total and deterministic' (their statements: YtikglddifoalfaaDoorTotals.lean).
  GIVEN WITH THE SEED: the statements are not yours to turn. If you find one false, say at which input.
  Laid BY PROGRAM, IN A SANDBOX (cutbox-rows.mjs): the forced cells as the released guide's own fill.sh prints them over the translation 72913abead1cf6f6… (all of the seat's roots in one cut). By AI agents, Wed Nov 11 2026. No macro, syntax, notation, axiom, sorry.
-/
import Derived.Test.YtikglddifoalfaaDoorChecked
import GoSem.Claim
import GoSem.ClaimJoined
import GoSem.ClaimMapViews
import Derived.JoinedTies
import Derived.KernelRfl
namespace Go.Proofs.YtikglddifoalfaaDoor
/- THE CELL 'sum', in the pinned program and in every row, IS THE sha256 OF THE DUMP (.gsa) THAT YtikglddifoalfaaDoorProg.lean LOADS. Nothing in Lean hashes anything: it is a label: what it is worth is what the hold of that sum in a sandbox is worth. -/
noncomputable def Tryd.pinned : Pinned := { name := "ytikglddifoalfaadoor", sum := "72913abead1cf6f675da794a801a49dbb2f60843e4a0c78d5ad0484cbef13c45", checked := Tryd.checked }
namespace Rows
def none {H : Type} : Left H := { results := [], args := [] }

/- WHAT THE LISTED PACKAGE-LEVEL VARIABLES READ AS WHEN THE CALL BEGINS. Each datum BY PROGRAM (the guide's laid-datum.mjs) off the statement by which the dump's own 'gosem.cut.vars' lays the variable. In a bare row this is a premise. The card (YtikglddifoalfaaDoorCards.lean) ties it to the program's text. -/
def laid_loop_example_g00889_impl_nodeForms {H : Type} : DataW H := .agg [.agg [.lit (.int .i64 1), .lit (.int .i64 0), .lit (.int .i64 3), .lit (.int .i64 0), .lit (.string []), .lit (.string []), .lit (.string [])], .agg [.lit (.int .i64 2), .lit (.int .i64 0), .lit (.int .i64 9000), .lit (.int .i64 0), .lit (.string []), .lit (.string []), .lit (.string [])], .agg [.lit (.int .i64 3), .lit (.int .i64 2), .lit (.int .i64 0), .lit (.int .i64 1), .lit (.string []), .lit (.string [43]), .lit (.string [])], .agg [.lit (.int .i64 4), .lit (.int .i64 2), .lit (.int .i64 0), .lit (.int .i64 2), .lit (.string []), .lit (.string [45]), .lit (.string [])], .agg [.lit (.int .i64 5), .lit (.int .i64 2), .lit (.int .i64 0), .lit (.int .i64 3), .lit (.string [109, 105, 110, 40]), .lit (.string [44]), .lit (.string [41])], .agg [.lit (.int .i64 6), .lit (.int .i64 2), .lit (.int .i64 0), .lit (.int .i64 4), .lit (.string [109, 97, 120, 40]), .lit (.string [44]), .lit (.string [41])], .agg [.lit (.int .i64 7), .lit (.int .i64 1), .lit (.int .i64 9000), .lit (.int .i64 0), .lit (.string [97, 98, 111, 118, 101, 40]), .lit (.string [44]), .lit (.string [41])]]

/-- 'laws.FnReplacing': WHATEVER THE INPUT: true; the input reads as it did. -/
def fnReplacingSpec : ChangeSpec := { name := "fnReplacing", vars := ["loop.example/g00889/impl.nodeForms"], fn := fun _ => fun
  | [d, g1] => { results := [.lit (.bool true)], args := [d], vars := [g1] }
  | _ => none }
def fnReplacingRow : OpenClaim := { program := "ytikglddifoalfaadoor", sum := "72913abead1cf6f675da794a801a49dbb2f60843e4a0c78d5ad0484cbef13c45", func := "loop.example/g00889/laws.FnReplacing", spec := "fnReplacing", recurses := true, named := ["loop.example/g00889/impl.nodeForms"], apart := false, laid := [("loop.example/g00889/impl.nodeForms", laid_loop_example_g00889_impl_nodeForms)] }
def FnReplacingSaid : Prop := fnReplacingRow.holds Tryd.pinned (OpenSpec.ofChange fnReplacingSpec)

/-- ITS FALSE NEIGHBOUR: 'it returns false'. Refute it at one input. -/
def fnReplacingWrong : ChangeSpec := { name := "fnReplacing", vars := ["loop.example/g00889/impl.nodeForms"], fn := fun _ => fun
  | [d, g1] => { results := [.lit (.bool false)], args := [d], vars := [g1] }
  | _ => none }
def FnReplacingWrongFalsely : Prop := fnReplacingRow.holds Tryd.pinned (OpenSpec.ofChange fnReplacingWrong)

/-- 'laws.FnExactFoldNumbers': WHATEVER THE INPUT: true; the input reads as it did. -/
def fnExactFoldNumbersSpec : ChangeSpec := { name := "fnExactFoldNumbers", vars := ["loop.example/g00889/impl.nodeForms"], fn := fun _ => fun
  | [d, g1] => { results := [.lit (.bool true)], args := [d], vars := [g1] }
  | _ => none }
def fnExactFoldNumbersRow : OpenClaim := { program := "ytikglddifoalfaadoor", sum := "72913abead1cf6f675da794a801a49dbb2f60843e4a0c78d5ad0484cbef13c45", func := "loop.example/g00889/laws.FnExactFoldNumbers", spec := "fnExactFoldNumbers", unfollowed := true, recurses := true, named := ["loop.example/g00889/impl.nodeForms"], apart := false, laid := [("loop.example/g00889/impl.nodeForms", laid_loop_example_g00889_impl_nodeForms)] }
def FnExactFoldNumbersSaid : Prop := fnExactFoldNumbersRow.holds Tryd.pinned (OpenSpec.ofChange fnExactFoldNumbersSpec)

/-- ITS FALSE NEIGHBOUR: 'it returns false'. Refute it at one input. -/
def fnExactFoldNumbersWrong : ChangeSpec := { name := "fnExactFoldNumbers", vars := ["loop.example/g00889/impl.nodeForms"], fn := fun _ => fun
  | [d, g1] => { results := [.lit (.bool false)], args := [d], vars := [g1] }
  | _ => none }
def FnExactFoldNumbersWrongFalsely : Prop := fnExactFoldNumbersRow.holds Tryd.pinned (OpenSpec.ofChange fnExactFoldNumbersWrong)

/- THE SECOND FORM. 'bulk': how many values and letters a reading holds, each counted each time it is reached (what is shared counts as often as it is met; a slice's spare places count too). A statement '..UptoSaid' is the law's where the arguments, and the package variables that the reading takes, are together of bulk at most 1048576: NARROWER than '..Said'. Prove '..Said' where nothing that the law and all that it calls make is longer than what came in: it says more and counts as full. Else prove '..UptoSaid'. A law counts once. -/
mutual
def uptoBulk {H : Type} : DataW H → Nat
  | .lit (.string bytes) => bytes.length + 1
  | .lit _ => 1
  | .nil => 1
  | .ptr d => uptoBulk d + 1
  | .slice elems spare => uptoBulkAll elems + uptoBulkAll spare + 1
  | .agg parts => uptoBulkAll parts + 1
  | .iface _ d => uptoBulk d + 1
  | .map entries => uptoBulkEntries entries + 1
  | .held _ => 1
def uptoBulkAll {H : Type} : List (DataW H) → Nat
  | [] => 0
  | d :: r => uptoBulk d + uptoBulkAll r
def uptoBulkEntries {H : Type} : List (Lit × DataW H) → Nat
  | [] => 0
  | x :: r => uptoBulkEntry x + uptoBulkEntries r
def uptoBulkEntry {H : Type} : Lit × DataW H → Nat
  | (.string bytes, d) => bytes.length + uptoBulk d + 1
  | (_, d) => uptoBulk d + 1
 end
def uptoSmall : (H : Type) → List (DataW H) → Bool := fun _ ds => decide (uptoBulkAll ds ≤ 1048576)
def OpenSpec.upto (s : _root_.Go.ChangeSpec) : _root_.Go.OpenSpec := { _root_.Go.OpenSpec.ofChange s with cond := some uptoSmall }

/-- 'laws.FnReplacing', WHERE WHAT IT READS IS OF BULK AT MOST 1048576: true; the input reads as it did. -/
def fnReplacingUptoRow : OpenClaim := { program := "ytikglddifoalfaadoor", sum := "72913abead1cf6f675da794a801a49dbb2f60843e4a0c78d5ad0484cbef13c45", func := "loop.example/g00889/laws.FnReplacing", spec := "fnReplacing", recurses := true, named := ["loop.example/g00889/impl.nodeForms"], apart := false, laid := [("loop.example/g00889/impl.nodeForms", laid_loop_example_g00889_impl_nodeForms)], narrowed := true }
def FnReplacingUptoSaid : Prop := fnReplacingUptoRow.holds Tryd.pinned (OpenSpec.upto fnReplacingSpec)

/-- 'laws.FnExactFoldNumbers', WHERE WHAT IT READS IS OF BULK AT MOST 1048576: true; the input reads as it did. -/
def fnExactFoldNumbersUptoRow : OpenClaim := { program := "ytikglddifoalfaadoor", sum := "72913abead1cf6f675da794a801a49dbb2f60843e4a0c78d5ad0484cbef13c45", func := "loop.example/g00889/laws.FnExactFoldNumbers", spec := "fnExactFoldNumbers", unfollowed := true, recurses := true, named := ["loop.example/g00889/impl.nodeForms"], apart := false, laid := [("loop.example/g00889/impl.nodeForms", laid_loop_example_g00889_impl_nodeForms)], narrowed := true }
def FnExactFoldNumbersUptoSaid : Prop := fnExactFoldNumbersUptoRow.holds Tryd.pinned (OpenSpec.upto fnExactFoldNumbersSpec)

end Rows
end Go.Proofs.YtikglddifoalfaaDoor
