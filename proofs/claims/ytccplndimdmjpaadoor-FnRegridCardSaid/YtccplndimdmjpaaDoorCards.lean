/-
  DERIVED. GIVEN WITH THE SEED: THE CARDS: each row of YtccplndimdmjpaaDoorRows.lean that lists a variable, with what it lists TIED to the program's text (the seventh form; the later family's looks); each row that meets fmt, with fmt's text TOLD by the authors' own Lean function (tested against real Go, not proved from fmt's source: count such statements apart). THE CARD IS WHAT COUNTS. Prove the row's statement (the work); the ties are given (YtccplndimdmjpaaDoorTie.lean); close each card by the builder's one call (the guide's Derived/Test/ToyasCard.lean, 'card_holds'). Laid BY PROGRAM, IN A SANDBOX (cutbox-door.mjs). By AI agents, Wed Nov 11 2026. No macro, syntax, notation, axiom, sorry.
-/
import Derived.Test.YtccplndimdmjpaaDoorRows
import GoSem.ClaimSeven
namespace Go.Proofs.YtccplndimdmjpaaDoor
namespace Rows

/-- THE TIED CARD OF 'laws.FnExactSplitValue'. -/
def fnExactSplitValueCard : Claim7 := { stood := { row := fnExactSplitValueRow, standIns := [], harness := (true, "53613689b3a432e93c9176799dfa0ea03d746e01c7d8d039d09a7b1f129b15be"), looks := false }, kinds := [], alts := [], laidByText := true, laidKinds := [.data], laidTests := true, laidLooks := .later }
def FnExactSplitValueCardSaid : Prop := Claim7.holds Tryd.pinned (.plain (OpenSpec.ofChange fnExactSplitValueSpec)) fnExactSplitValueCard

/-- THE TIED CARD OF 'laws.FnExactRegridTotal'. -/
def fnExactRegridTotalCard : Claim7 := { stood := { row := fnExactRegridTotalRow, standIns := [], harness := (true, "53613689b3a432e93c9176799dfa0ea03d746e01c7d8d039d09a7b1f129b15be"), looks := false }, kinds := [], alts := [], laidByText := true, laidKinds := [.data], laidTests := true, laidLooks := .later }
def FnExactRegridTotalCardSaid : Prop := Claim7.holds Tryd.pinned (.plain (OpenSpec.ofChange fnExactRegridTotalSpec)) fnExactRegridTotalCard

/-- THE TIED CARD OF 'laws.FnRegrid'. -/
def fnRegridCard : Claim7 := { stood := { row := fnRegridRow, standIns := [], harness := (true, "53613689b3a432e93c9176799dfa0ea03d746e01c7d8d039d09a7b1f129b15be"), looks := false }, kinds := [], alts := [], laidByText := true, laidKinds := [.data], laidTests := true, laidLooks := .later }
def FnRegridCardSaid : Prop := Claim7.holds Tryd.pinned (.plain (OpenSpec.ofChange fnRegridSpec)) fnRegridCard

/-- THE SECOND FORM's CARD OF 'laws.FnExactSplitValue'. -/
def fnExactSplitValueUptoCard : Claim7 := { stood := { row := fnExactSplitValueUptoRow, standIns := [], harness := (true, "53613689b3a432e93c9176799dfa0ea03d746e01c7d8d039d09a7b1f129b15be"), looks := false }, kinds := [], alts := [], laidByText := true, laidKinds := [.data], laidTests := true, laidLooks := .later }
def FnExactSplitValueUptoCardSaid : Prop := Claim7.holds Tryd.pinned (.plain (OpenSpec.upto fnExactSplitValueSpec)) fnExactSplitValueUptoCard

/-- THE SECOND FORM's CARD OF 'laws.FnExactRegridTotal'. -/
def fnExactRegridTotalUptoCard : Claim7 := { stood := { row := fnExactRegridTotalUptoRow, standIns := [], harness := (true, "53613689b3a432e93c9176799dfa0ea03d746e01c7d8d039d09a7b1f129b15be"), looks := false }, kinds := [], alts := [], laidByText := true, laidKinds := [.data], laidTests := true, laidLooks := .later }
def FnExactRegridTotalUptoCardSaid : Prop := Claim7.holds Tryd.pinned (.plain (OpenSpec.upto fnExactRegridTotalSpec)) fnExactRegridTotalUptoCard

/-- THE SECOND FORM's CARD OF 'laws.FnRegrid'. -/
def fnRegridUptoCard : Claim7 := { stood := { row := fnRegridUptoRow, standIns := [], harness := (true, "53613689b3a432e93c9176799dfa0ea03d746e01c7d8d039d09a7b1f129b15be"), looks := false }, kinds := [], alts := [], laidByText := true, laidKinds := [.data], laidTests := true, laidLooks := .later }
def FnRegridUptoCardSaid : Prop := Claim7.holds Tryd.pinned (.plain (OpenSpec.upto fnRegridSpec)) fnRegridUptoCard
end Rows
end Go.Proofs.YtccplndimdmjpaaDoor
