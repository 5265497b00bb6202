/-
  DERIVED. GIVEN WITH THE SEED: THE CARDS: each row of YtikglddifoalfaaDoorRows.lean that lists a variable, with what it lists TIED to the program's text (the seventh form; the later family's looks); each row that meets fmt, with fmt's text TOLD by the authors' own Lean function (tested against real Go, not proved from fmt's source: count such statements apart). THE CARD IS WHAT COUNTS. Prove the row's statement (the work); the ties are given (YtikglddifoalfaaDoorTie.lean); close each card by the builder's one call (the guide's Derived/Test/ToyasCard.lean, 'card_holds'). Laid BY PROGRAM, IN A SANDBOX (cutbox-door.mjs). By AI agents, Wed Nov 11 2026. No macro, syntax, notation, axiom, sorry.
-/
import Derived.Test.YtikglddifoalfaaDoorRows
import GoSem.ClaimSeven
namespace Go.Proofs.YtikglddifoalfaaDoor
namespace Rows

/-- THE TIED CARD OF 'laws.FnReplacing'. -/
def fnReplacingCard : Claim7 := { stood := { row := fnReplacingRow, standIns := [], harness := (true, "6049a911f4e20eaada9380f30991b2db4064409af06af87215a061dbaa567138"), looks := false }, kinds := [], alts := [], laidByText := true, laidKinds := [.data], laidTests := true, laidLooks := .later }
def FnReplacingCardSaid : Prop := Claim7.holds Tryd.pinned (.plain (OpenSpec.ofChange fnReplacingSpec)) fnReplacingCard

/-- THE TIED CARD OF 'laws.FnExactFoldNumbers'. -/
def fnExactFoldNumbersCard : Claim7 := { stood := { row := fnExactFoldNumbersRow, standIns := [], harness := (true, "6049a911f4e20eaada9380f30991b2db4064409af06af87215a061dbaa567138"), looks := false }, kinds := [], alts := [], laidByText := true, laidKinds := [.data], laidTests := true, laidLooks := .later }
def FnExactFoldNumbersCardSaid : Prop := Claim7.holds Tryd.pinned (.plain (OpenSpec.ofChange fnExactFoldNumbersSpec)) fnExactFoldNumbersCard

/-- THE SECOND FORM's CARD OF 'laws.FnReplacing'. -/
def fnReplacingUptoCard : Claim7 := { stood := { row := fnReplacingUptoRow, standIns := [], harness := (true, "6049a911f4e20eaada9380f30991b2db4064409af06af87215a061dbaa567138"), looks := false }, kinds := [], alts := [], laidByText := true, laidKinds := [.data], laidTests := true, laidLooks := .later }
def FnReplacingUptoCardSaid : Prop := Claim7.holds Tryd.pinned (.plain (OpenSpec.upto fnReplacingSpec)) fnReplacingUptoCard

/-- THE SECOND FORM's CARD OF 'laws.FnExactFoldNumbers'. -/
def fnExactFoldNumbersUptoCard : Claim7 := { stood := { row := fnExactFoldNumbersUptoRow, standIns := [], harness := (true, "6049a911f4e20eaada9380f30991b2db4064409af06af87215a061dbaa567138"), looks := false }, kinds := [], alts := [], laidByText := true, laidKinds := [.data], laidTests := true, laidLooks := .later }
def FnExactFoldNumbersUptoCardSaid : Prop := Claim7.holds Tryd.pinned (.plain (OpenSpec.upto fnExactFoldNumbersSpec)) fnExactFoldNumbersUptoCard
end Rows
end Go.Proofs.YtikglddifoalfaaDoor
