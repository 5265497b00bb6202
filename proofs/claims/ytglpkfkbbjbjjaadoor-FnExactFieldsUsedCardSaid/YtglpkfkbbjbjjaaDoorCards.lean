/-
  DERIVED. GIVEN WITH THE SEED: THE CARDS: each row of YtglpkfkbbjbjjaaDoorRows.lean that lists a variable, with what it lists TIED to the program's text (the seventh form; the later family's looks); each row that meets fmt, with fmt's text TOLD by the authors' own Lean function (tested against real Go, not proved from fmt's source: count such statements apart). THE CARD IS WHAT COUNTS. Prove the row's statement (the work); the ties are given (YtglpkfkbbjbjjaaDoorTie.lean); close each card by the builder's one call (the guide's Derived/Test/ToyasCard.lean, 'card_holds'). Laid BY PROGRAM, IN A SANDBOX (cutbox-door.mjs). By AI agents, Wed Nov 11 2026. No macro, syntax, notation, axiom, sorry.
-/
import Derived.Test.YtglpkfkbbjbjjaaDoorRows
import GoSem.ClaimSeven
namespace Go.Proofs.YtglpkfkbbjbjjaaDoor
namespace Rows

/-- THE TIED CARD OF 'laws.FnExactIsExpression'. -/
def fnExactIsExpressionCard : Claim7 := { stood := { row := fnExactIsExpressionRow, standIns := [], harness := (true, "7e696e9a67ef5fe738ac2f386953b60915f295adfd25a7964df100e41efa3bec"), looks := false }, kinds := [], alts := [], laidByText := true, laidKinds := [.data], laidTests := true, laidLooks := .later }
def FnExactIsExpressionCardSaid : Prop := Claim7.holds Tryd.pinned (.plain (OpenSpec.ofChange fnExactIsExpressionSpec)) fnExactIsExpressionCard

/-- THE TIED CARD OF 'laws.FnExactReplaceField'. -/
def fnExactReplaceFieldCard : Claim7 := { stood := { row := fnExactReplaceFieldRow, standIns := [], harness := (true, "7e696e9a67ef5fe738ac2f386953b60915f295adfd25a7964df100e41efa3bec"), looks := false }, kinds := [], alts := [], laidByText := true, laidKinds := [.data], laidTests := true, laidLooks := .later }
def FnExactReplaceFieldCardSaid : Prop := Claim7.holds Tryd.pinned (.plain (OpenSpec.ofChange fnExactReplaceFieldSpec)) fnExactReplaceFieldCard

/-- THE TIED CARD OF 'laws.FnExactFieldsUsed'. -/
def fnExactFieldsUsedCard : Claim7 := { stood := { row := fnExactFieldsUsedRow, standIns := [], harness := (true, "7e696e9a67ef5fe738ac2f386953b60915f295adfd25a7964df100e41efa3bec"), looks := false }, kinds := [], alts := [], laidByText := true, laidKinds := [.data], laidTests := true, laidLooks := .later }
def FnExactFieldsUsedCardSaid : Prop := Claim7.holds Tryd.pinned (.plain (OpenSpec.ofChange fnExactFieldsUsedSpec)) fnExactFieldsUsedCard

/-- THE TIED CARD OF 'laws.FnExactDepth'. -/
def fnExactDepthCard : Claim7 := { stood := { row := fnExactDepthRow, standIns := [], harness := (true, "7e696e9a67ef5fe738ac2f386953b60915f295adfd25a7964df100e41efa3bec"), looks := false }, kinds := [], alts := [], laidByText := true, laidKinds := [.data], laidTests := true, laidLooks := .later }
def FnExactDepthCardSaid : Prop := Claim7.holds Tryd.pinned (.plain (OpenSpec.ofChange fnExactDepthSpec)) fnExactDepthCard

/-- THE TIED CARD OF 'laws.FnExactFoldNumbers'. -/
def fnExactFoldNumbersCard : Claim7 := { stood := { row := fnExactFoldNumbersRow, standIns := [], harness := (true, "7e696e9a67ef5fe738ac2f386953b60915f295adfd25a7964df100e41efa3bec"), looks := false }, kinds := [], alts := [], laidByText := true, laidKinds := [.data], laidTests := true, laidLooks := .later }
def FnExactFoldNumbersCardSaid : Prop := Claim7.holds Tryd.pinned (.plain (OpenSpec.ofChange fnExactFoldNumbersSpec)) fnExactFoldNumbersCard

/-- THE TIED CARD OF 'laws.FnExactEvaluate'. -/
def fnExactEvaluateCard : Claim7 := { stood := { row := fnExactEvaluateRow, standIns := [], harness := (true, "7e696e9a67ef5fe738ac2f386953b60915f295adfd25a7964df100e41efa3bec"), looks := false }, kinds := [], alts := [], laidByText := true, laidKinds := [.data], laidTests := true, laidLooks := .later }
def FnExactEvaluateCardSaid : Prop := Claim7.holds Tryd.pinned (.plain (OpenSpec.ofChange fnExactEvaluateSpec)) fnExactEvaluateCard

/-- THE TIED CARD OF 'laws.FnReplacing'. -/
def fnReplacingCard : Claim7 := { stood := { row := fnReplacingRow, standIns := [], harness := (true, "7e696e9a67ef5fe738ac2f386953b60915f295adfd25a7964df100e41efa3bec"), looks := false }, kinds := [], alts := [], laidByText := true, laidKinds := [.data], laidTests := true, laidLooks := .later }
def FnReplacingCardSaid : Prop := Claim7.holds Tryd.pinned (.plain (OpenSpec.ofChange fnReplacingSpec)) fnReplacingCard

/-- THE SECOND FORM's CARD OF 'laws.FnExactIsExpression'. -/
def fnExactIsExpressionUptoCard : Claim7 := { stood := { row := fnExactIsExpressionUptoRow, standIns := [], harness := (true, "7e696e9a67ef5fe738ac2f386953b60915f295adfd25a7964df100e41efa3bec"), looks := false }, kinds := [], alts := [], laidByText := true, laidKinds := [.data], laidTests := true, laidLooks := .later }
def FnExactIsExpressionUptoCardSaid : Prop := Claim7.holds Tryd.pinned (.plain (OpenSpec.upto fnExactIsExpressionSpec)) fnExactIsExpressionUptoCard

/-- THE SECOND FORM's CARD OF 'laws.FnExactReplaceField'. -/
def fnExactReplaceFieldUptoCard : Claim7 := { stood := { row := fnExactReplaceFieldUptoRow, standIns := [], harness := (true, "7e696e9a67ef5fe738ac2f386953b60915f295adfd25a7964df100e41efa3bec"), looks := false }, kinds := [], alts := [], laidByText := true, laidKinds := [.data], laidTests := true, laidLooks := .later }
def FnExactReplaceFieldUptoCardSaid : Prop := Claim7.holds Tryd.pinned (.plain (OpenSpec.upto fnExactReplaceFieldSpec)) fnExactReplaceFieldUptoCard

/-- THE SECOND FORM's CARD OF 'laws.FnExactFieldsUsed'. -/
def fnExactFieldsUsedUptoCard : Claim7 := { stood := { row := fnExactFieldsUsedUptoRow, standIns := [], harness := (true, "7e696e9a67ef5fe738ac2f386953b60915f295adfd25a7964df100e41efa3bec"), looks := false }, kinds := [], alts := [], laidByText := true, laidKinds := [.data], laidTests := true, laidLooks := .later }
def FnExactFieldsUsedUptoCardSaid : Prop := Claim7.holds Tryd.pinned (.plain (OpenSpec.upto fnExactFieldsUsedSpec)) fnExactFieldsUsedUptoCard

/-- THE SECOND FORM's CARD OF 'laws.FnExactDepth'. -/
def fnExactDepthUptoCard : Claim7 := { stood := { row := fnExactDepthUptoRow, standIns := [], harness := (true, "7e696e9a67ef5fe738ac2f386953b60915f295adfd25a7964df100e41efa3bec"), looks := false }, kinds := [], alts := [], laidByText := true, laidKinds := [.data], laidTests := true, laidLooks := .later }
def FnExactDepthUptoCardSaid : Prop := Claim7.holds Tryd.pinned (.plain (OpenSpec.upto fnExactDepthSpec)) fnExactDepthUptoCard

/-- THE SECOND FORM's CARD OF 'laws.FnExactFoldNumbers'. -/
def fnExactFoldNumbersUptoCard : Claim7 := { stood := { row := fnExactFoldNumbersUptoRow, standIns := [], harness := (true, "7e696e9a67ef5fe738ac2f386953b60915f295adfd25a7964df100e41efa3bec"), looks := false }, kinds := [], alts := [], laidByText := true, laidKinds := [.data], laidTests := true, laidLooks := .later }
def FnExactFoldNumbersUptoCardSaid : Prop := Claim7.holds Tryd.pinned (.plain (OpenSpec.upto fnExactFoldNumbersSpec)) fnExactFoldNumbersUptoCard

/-- THE SECOND FORM's CARD OF 'laws.FnExactEvaluate'. -/
def fnExactEvaluateUptoCard : Claim7 := { stood := { row := fnExactEvaluateUptoRow, standIns := [], harness := (true, "7e696e9a67ef5fe738ac2f386953b60915f295adfd25a7964df100e41efa3bec"), looks := false }, kinds := [], alts := [], laidByText := true, laidKinds := [.data], laidTests := true, laidLooks := .later }
def FnExactEvaluateUptoCardSaid : Prop := Claim7.holds Tryd.pinned (.plain (OpenSpec.upto fnExactEvaluateSpec)) fnExactEvaluateUptoCard

/-- THE SECOND FORM's CARD OF 'laws.FnReplacing'. -/
def fnReplacingUptoCard : Claim7 := { stood := { row := fnReplacingUptoRow, standIns := [], harness := (true, "7e696e9a67ef5fe738ac2f386953b60915f295adfd25a7964df100e41efa3bec"), looks := false }, kinds := [], alts := [], laidByText := true, laidKinds := [.data], laidTests := true, laidLooks := .later }
def FnReplacingUptoCardSaid : Prop := Claim7.holds Tryd.pinned (.plain (OpenSpec.upto fnReplacingSpec)) fnReplacingUptoCard
end Rows
end Go.Proofs.YtglpkfkbbjbjjaaDoor
