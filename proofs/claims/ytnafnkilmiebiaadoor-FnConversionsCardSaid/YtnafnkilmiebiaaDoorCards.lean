/-
  DERIVED. GIVEN WITH THE SEED: THE CARDS: each row of YtnafnkilmiebiaaDoorRows.lean that lists a variable, with what it lists TIED to the program's text (the seventh form; the later family's looks); each row that meets fmt, with fmt's text TOLD by the authors' own Lean function (tested against real Go, not proved from fmt's source: count such statements apart). THE CARD IS WHAT COUNTS. Prove the row's statement (the work); the ties are given (YtnafnkilmiebiaaDoorTie.lean); close each card by the builder's one call (the guide's Derived/Test/ToyasCard.lean, 'card_holds'). Laid BY PROGRAM, IN A SANDBOX (cutbox-door.mjs). By AI agents, Wed Nov 11 2026. No macro, syntax, notation, axiom, sorry.
-/
import Derived.Test.YtnafnkilmiebiaaDoorRows
import GoSem.ClaimSeven
namespace Go.Proofs.YtnafnkilmiebiaaDoor
namespace Rows

/-- THE TIED CARD OF 'laws.FnExactUnitWord'. -/
def fnExactUnitWordCard : Claim7 := { stood := { row := fnExactUnitWordRow, standIns := [], harness := (true, "b4cddd8d794b4e23ce868d3087c30f9ed14c9a1f31c79b1a0e2ec3ffc66fc735"), looks := false }, kinds := [], alts := [], laidByText := true, laidKinds := [.data], laidTests := true, laidLooks := .later }
def FnExactUnitWordCardSaid : Prop := Claim7.holds Tryd.pinned (.plain (OpenSpec.ofChange fnExactUnitWordSpec)) fnExactUnitWordCard

/-- THE TIED CARD OF 'laws.FnExactParseUnit'. -/
def fnExactParseUnitCard : Claim7 := { stood := { row := fnExactParseUnitRow, standIns := [], harness := (true, "b4cddd8d794b4e23ce868d3087c30f9ed14c9a1f31c79b1a0e2ec3ffc66fc735"), looks := false }, kinds := [], alts := [], laidByText := true, laidKinds := [.data], laidTests := true, laidLooks := .later }
def FnExactParseUnitCardSaid : Prop := Claim7.holds Tryd.pinned (.plain (OpenSpec.ofChange fnExactParseUnitSpec)) fnExactParseUnitCard

/-- THE TIED CARD OF 'laws.FnExactSameKind'. -/
def fnExactSameKindCard : Claim7 := { stood := { row := fnExactSameKindRow, standIns := [], harness := (true, "b4cddd8d794b4e23ce868d3087c30f9ed14c9a1f31c79b1a0e2ec3ffc66fc735"), looks := false }, kinds := [], alts := [], laidByText := true, laidKinds := [.data], laidTests := true, laidLooks := .later }
def FnExactSameKindCardSaid : Prop := Claim7.holds Tryd.pinned (.plain (OpenSpec.ofChange fnExactSameKindSpec)) fnExactSameKindCard

/-- THE TIED CARD OF 'laws.FnExactConvertTenths'. -/
def fnExactConvertTenthsCard : Claim7 := { stood := { row := fnExactConvertTenthsRow, standIns := [], harness := (true, "b4cddd8d794b4e23ce868d3087c30f9ed14c9a1f31c79b1a0e2ec3ffc66fc735"), looks := false }, kinds := [], alts := [], laidByText := true, laidKinds := [.data], laidTests := true, laidLooks := .later }
def FnExactConvertTenthsCardSaid : Prop := Claim7.holds Tryd.pinned (.plain (OpenSpec.ofChange fnExactConvertTenthsSpec)) fnExactConvertTenthsCard

/-- THE TIED CARD OF 'laws.FnExactBeaufortOf'. -/
def fnExactBeaufortOfCard : Claim7 := { stood := { row := fnExactBeaufortOfRow, standIns := [], harness := (true, "b4cddd8d794b4e23ce868d3087c30f9ed14c9a1f31c79b1a0e2ec3ffc66fc735"), looks := false }, kinds := [], alts := [], laidByText := true, laidKinds := [.data, .data], laidTests := true, laidLooks := .later }
def FnExactBeaufortOfCardSaid : Prop := Claim7.holds Tryd.pinned (.plain (OpenSpec.ofChange fnExactBeaufortOfSpec)) fnExactBeaufortOfCard

/-- THE TIED CARD OF 'laws.FnExactWarmerThan'. -/
def fnExactWarmerThanCard : Claim7 := { stood := { row := fnExactWarmerThanRow, standIns := [], harness := (true, "b4cddd8d794b4e23ce868d3087c30f9ed14c9a1f31c79b1a0e2ec3ffc66fc735"), looks := false }, kinds := [], alts := [], laidByText := true, laidKinds := [.data], laidTests := true, laidLooks := .later }
def FnExactWarmerThanCardSaid : Prop := Claim7.holds Tryd.pinned (.plain (OpenSpec.ofChange fnExactWarmerThanSpec)) fnExactWarmerThanCard

/-- THE TIED CARD OF 'laws.FnConversions'. -/
def fnConversionsCard : Claim7 := { stood := { row := fnConversionsRow, standIns := [], harness := (true, "b4cddd8d794b4e23ce868d3087c30f9ed14c9a1f31c79b1a0e2ec3ffc66fc735"), looks := false }, kinds := [], alts := [], laidByText := true, laidKinds := [.data, .data], laidTests := true, laidLooks := .later }
def FnConversionsCardSaid : Prop := Claim7.holds Tryd.pinned (.plain (OpenSpec.ofChange fnConversionsSpec)) fnConversionsCard

/-- THE SECOND FORM's CARD OF 'laws.FnExactUnitWord'. -/
def fnExactUnitWordUptoCard : Claim7 := { stood := { row := fnExactUnitWordUptoRow, standIns := [], harness := (true, "b4cddd8d794b4e23ce868d3087c30f9ed14c9a1f31c79b1a0e2ec3ffc66fc735"), looks := false }, kinds := [], alts := [], laidByText := true, laidKinds := [.data], laidTests := true, laidLooks := .later }
def FnExactUnitWordUptoCardSaid : Prop := Claim7.holds Tryd.pinned (.plain (OpenSpec.upto fnExactUnitWordSpec)) fnExactUnitWordUptoCard

/-- THE SECOND FORM's CARD OF 'laws.FnExactParseUnit'. -/
def fnExactParseUnitUptoCard : Claim7 := { stood := { row := fnExactParseUnitUptoRow, standIns := [], harness := (true, "b4cddd8d794b4e23ce868d3087c30f9ed14c9a1f31c79b1a0e2ec3ffc66fc735"), looks := false }, kinds := [], alts := [], laidByText := true, laidKinds := [.data], laidTests := true, laidLooks := .later }
def FnExactParseUnitUptoCardSaid : Prop := Claim7.holds Tryd.pinned (.plain (OpenSpec.upto fnExactParseUnitSpec)) fnExactParseUnitUptoCard

/-- THE SECOND FORM's CARD OF 'laws.FnExactSameKind'. -/
def fnExactSameKindUptoCard : Claim7 := { stood := { row := fnExactSameKindUptoRow, standIns := [], harness := (true, "b4cddd8d794b4e23ce868d3087c30f9ed14c9a1f31c79b1a0e2ec3ffc66fc735"), looks := false }, kinds := [], alts := [], laidByText := true, laidKinds := [.data], laidTests := true, laidLooks := .later }
def FnExactSameKindUptoCardSaid : Prop := Claim7.holds Tryd.pinned (.plain (OpenSpec.upto fnExactSameKindSpec)) fnExactSameKindUptoCard

/-- THE SECOND FORM's CARD OF 'laws.FnExactConvertTenths'. -/
def fnExactConvertTenthsUptoCard : Claim7 := { stood := { row := fnExactConvertTenthsUptoRow, standIns := [], harness := (true, "b4cddd8d794b4e23ce868d3087c30f9ed14c9a1f31c79b1a0e2ec3ffc66fc735"), looks := false }, kinds := [], alts := [], laidByText := true, laidKinds := [.data], laidTests := true, laidLooks := .later }
def FnExactConvertTenthsUptoCardSaid : Prop := Claim7.holds Tryd.pinned (.plain (OpenSpec.upto fnExactConvertTenthsSpec)) fnExactConvertTenthsUptoCard

/-- THE SECOND FORM's CARD OF 'laws.FnExactBeaufortOf'. -/
def fnExactBeaufortOfUptoCard : Claim7 := { stood := { row := fnExactBeaufortOfUptoRow, standIns := [], harness := (true, "b4cddd8d794b4e23ce868d3087c30f9ed14c9a1f31c79b1a0e2ec3ffc66fc735"), looks := false }, kinds := [], alts := [], laidByText := true, laidKinds := [.data, .data], laidTests := true, laidLooks := .later }
def FnExactBeaufortOfUptoCardSaid : Prop := Claim7.holds Tryd.pinned (.plain (OpenSpec.upto fnExactBeaufortOfSpec)) fnExactBeaufortOfUptoCard

/-- THE SECOND FORM's CARD OF 'laws.FnExactWarmerThan'. -/
def fnExactWarmerThanUptoCard : Claim7 := { stood := { row := fnExactWarmerThanUptoRow, standIns := [], harness := (true, "b4cddd8d794b4e23ce868d3087c30f9ed14c9a1f31c79b1a0e2ec3ffc66fc735"), looks := false }, kinds := [], alts := [], laidByText := true, laidKinds := [.data], laidTests := true, laidLooks := .later }
def FnExactWarmerThanUptoCardSaid : Prop := Claim7.holds Tryd.pinned (.plain (OpenSpec.upto fnExactWarmerThanSpec)) fnExactWarmerThanUptoCard

/-- THE SECOND FORM's CARD OF 'laws.FnConversions'. -/
def fnConversionsUptoCard : Claim7 := { stood := { row := fnConversionsUptoRow, standIns := [], harness := (true, "b4cddd8d794b4e23ce868d3087c30f9ed14c9a1f31c79b1a0e2ec3ffc66fc735"), looks := false }, kinds := [], alts := [], laidByText := true, laidKinds := [.data, .data], laidTests := true, laidLooks := .later }
def FnConversionsUptoCardSaid : Prop := Claim7.holds Tryd.pinned (.plain (OpenSpec.upto fnConversionsSpec)) fnConversionsUptoCard
end Rows
end Go.Proofs.YtnafnkilmiebiaaDoor
