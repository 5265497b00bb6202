/-
  DERIVED. GIVEN WITH THE SEED: THE CARDS: each row of YtnafnkilmiebiabDoorRows.lean that lists a variable, with what it lists TIED to the program's text (the seventh form; the later family's looks); each row that meets fmt, with fmt's text TOLD by the authors' own Lean function (tested against real Go, not proved from fmt's source: count such statements apart). THE CARD IS WHAT COUNTS. Prove the row's statement (the work); the ties are given (YtnafnkilmiebiabDoorTie.lean); close each card by the builder's one call (the guide's Derived/Test/ToyasCard.lean, 'card_holds'). Laid BY PROGRAM, IN A SANDBOX (cutbox-door.mjs). By AI agents, Wed Nov 11 2026. No macro, syntax, notation, axiom, sorry.
-/
import Derived.Test.YtnafnkilmiebiabDoorRows
import GoSem.ClaimSeven
namespace Go.Proofs.YtnafnkilmiebiabDoor
namespace Rows

/-- THE TIED CARD OF 'laws.FnFields'. -/
def fnFieldsCard : Claim7 := { stood := { row := fnFieldsRow, standIns := [], harness := (true, "e644958539f3895ae412c1732cdef4e0f1af43800d771ab35f8f73ba5d537b8a"), looks := true }, kinds := [], alts := [], laidByText := true, laidKinds := [.data, .data, .data, .sentinel, .sentinel], laidTests := true, laidLooks := .later }
def FnFieldsCardSaid : Prop := Claim7.holds Tryd.pinned (.plain (OpenSpec.ofChange fnFieldsSpec)) fnFieldsCard

/-- THE TIED CARD OF 'laws.FnUnits'. -/
def fnUnitsCard : Claim7 := { stood := { row := fnUnitsRow, standIns := [], harness := (true, "e644958539f3895ae412c1732cdef4e0f1af43800d771ab35f8f73ba5d537b8a"), looks := true }, kinds := [], alts := [], laidByText := true, laidKinds := [.data, .data, .data, .sentinel, .sentinel, .data], laidTests := true, laidLooks := .later }
def FnUnitsCardSaid : Prop := Claim7.holds Tryd.pinned (.plain (OpenSpec.ofChange fnUnitsSpec)) fnUnitsCard

/-- THE TIED CARD OF 'laws.FnExactParseField'. -/
def fnExactParseFieldCard : Claim7 := { stood := { row := fnExactParseFieldRow, standIns := [], harness := (true, "e644958539f3895ae412c1732cdef4e0f1af43800d771ab35f8f73ba5d537b8a"), looks := true }, kinds := [], alts := [], laidByText := true, laidKinds := [.data, .data, .data, .sentinel, .sentinel], laidTests := true, laidLooks := .later }
def FnExactParseFieldCardSaid : Prop := Claim7.holds Tryd.pinned (.plain (OpenSpec.ofChange fnExactParseFieldSpec)) fnExactParseFieldCard

/-- THE TIED CARD OF 'laws.FnExactQuantityText'. -/
def fnExactQuantityTextCard : Claim7 := { stood := { row := fnExactQuantityTextRow, standIns := [], harness := (true, "e644958539f3895ae412c1732cdef4e0f1af43800d771ab35f8f73ba5d537b8a"), looks := true }, kinds := [], alts := [], laidByText := true, laidKinds := [.data, .data, .data, .data], laidTests := true, laidLooks := .later }
def FnExactQuantityTextCardSaid : Prop := Claim7.holds Tryd.pinned (.plain (OpenSpec.ofChange fnExactQuantityTextSpec)) fnExactQuantityTextCard

/-- THE TIED CARD OF 'laws.FnExactParseQuantity'. -/
def fnExactParseQuantityCard : Claim7 := { stood := { row := fnExactParseQuantityRow, standIns := [], harness := (true, "e644958539f3895ae412c1732cdef4e0f1af43800d771ab35f8f73ba5d537b8a"), looks := true }, kinds := [], alts := [], laidByText := true, laidKinds := [.data, .data, .data, .sentinel, .sentinel, .data], laidTests := true, laidLooks := .later }
def FnExactParseQuantityCardSaid : Prop := Claim7.holds Tryd.pinned (.plain (OpenSpec.ofChange fnExactParseQuantitySpec)) fnExactParseQuantityCard

/-- THE SECOND FORM's CARD OF 'laws.FnFields'. -/
def fnFieldsUptoCard : Claim7 := { stood := { row := fnFieldsUptoRow, standIns := [], harness := (true, "e644958539f3895ae412c1732cdef4e0f1af43800d771ab35f8f73ba5d537b8a"), looks := true }, kinds := [], alts := [], laidByText := true, laidKinds := [.data, .data, .data, .sentinel, .sentinel], laidTests := true, laidLooks := .later }
def FnFieldsUptoCardSaid : Prop := Claim7.holds Tryd.pinned (.plain (OpenSpec.upto fnFieldsSpec)) fnFieldsUptoCard

/-- THE SECOND FORM's CARD OF 'laws.FnUnits'. -/
def fnUnitsUptoCard : Claim7 := { stood := { row := fnUnitsUptoRow, standIns := [], harness := (true, "e644958539f3895ae412c1732cdef4e0f1af43800d771ab35f8f73ba5d537b8a"), looks := true }, kinds := [], alts := [], laidByText := true, laidKinds := [.data, .data, .data, .sentinel, .sentinel, .data], laidTests := true, laidLooks := .later }
def FnUnitsUptoCardSaid : Prop := Claim7.holds Tryd.pinned (.plain (OpenSpec.upto fnUnitsSpec)) fnUnitsUptoCard

/-- THE SECOND FORM's CARD OF 'laws.FnExactParseField'. -/
def fnExactParseFieldUptoCard : Claim7 := { stood := { row := fnExactParseFieldUptoRow, standIns := [], harness := (true, "e644958539f3895ae412c1732cdef4e0f1af43800d771ab35f8f73ba5d537b8a"), looks := true }, kinds := [], alts := [], laidByText := true, laidKinds := [.data, .data, .data, .sentinel, .sentinel], laidTests := true, laidLooks := .later }
def FnExactParseFieldUptoCardSaid : Prop := Claim7.holds Tryd.pinned (.plain (OpenSpec.upto fnExactParseFieldSpec)) fnExactParseFieldUptoCard

/-- THE SECOND FORM's CARD OF 'laws.FnExactQuantityText'. -/
def fnExactQuantityTextUptoCard : Claim7 := { stood := { row := fnExactQuantityTextUptoRow, standIns := [], harness := (true, "e644958539f3895ae412c1732cdef4e0f1af43800d771ab35f8f73ba5d537b8a"), looks := true }, kinds := [], alts := [], laidByText := true, laidKinds := [.data, .data, .data, .data], laidTests := true, laidLooks := .later }
def FnExactQuantityTextUptoCardSaid : Prop := Claim7.holds Tryd.pinned (.plain (OpenSpec.upto fnExactQuantityTextSpec)) fnExactQuantityTextUptoCard

/-- THE SECOND FORM's CARD OF 'laws.FnExactParseQuantity'. -/
def fnExactParseQuantityUptoCard : Claim7 := { stood := { row := fnExactParseQuantityUptoRow, standIns := [], harness := (true, "e644958539f3895ae412c1732cdef4e0f1af43800d771ab35f8f73ba5d537b8a"), looks := true }, kinds := [], alts := [], laidByText := true, laidKinds := [.data, .data, .data, .sentinel, .sentinel, .data], laidTests := true, laidLooks := .later }
def FnExactParseQuantityUptoCardSaid : Prop := Claim7.holds Tryd.pinned (.plain (OpenSpec.upto fnExactParseQuantitySpec)) fnExactParseQuantityUptoCard
end Rows
end Go.Proofs.YtnafnkilmiebiabDoor
