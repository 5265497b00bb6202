/-
  DERIVED. GIVEN WITH THE SEED: THE PROGRAM's TIES (one call each: nine closed facts by the kernel) AND EACH ROW's TIE, after the 31st guide's Derived/Test/Toyas{Tie, Card}.lean. No idea stands in it: it is a product of the set-up. Laid BY PROGRAM, IN A SANDBOX (cutbox-door.mjs). By AI agents, Wed Nov 11 2026. No macro, syntax, notation, axiom, sorry.
-/
import Derived.Test.YtnafnkilmiebiaaDoorRows
import Derived.LaidByTextLater
import Derived.SevenTiedAt
import Derived.LaidSub
import Derived.LaidOnce
namespace Go.Proofs.YtnafnkilmiebiaaDoor
open Go
set_option maxRecDepth 100000
theorem seatTie1 : Tryd.prog.laidByTextLater [("loop.example/g00889/impl.unitTable", Rows.laid_loop_example_g00889_impl_unitTable), ("loop.example/g00889/impl.forceSpeeds", Rows.laid_loop_example_g00889_impl_forceSpeeds)] [.data, .data] true :=
  Program.laidByTextLater_by_one 27 8 41 (by kernel_rfl) (by kernel_rfl) (by kernel_rfl) (by kernel_rfl) (by kernel_rfl) (by kernel_rfl) (fun _ _ => by kernel_rfl)
theorem noOwnUnsafe : Tryd.pinned.checked.prog.headLifts.contains "ownunsafe" = false := by kernel_rfl
theorem tie : Tryd.prog.laidByTextLater [("loop.example/g00889/impl.unitTable", Rows.laid_loop_example_g00889_impl_unitTable)] [.data] true :=
  Program.laidByTextLater.sub seatTie1 ["loop.example/g00889/impl.unitTable"] (by kernel_rfl) (by kernel_rfl)
theorem fnExactUnitWord_row_tie : Rows.fnExactUnitWordRow.laidByTextAt .later Tryd.pinned [.data] true :=
  OpenClaim.laidByTextAt_later rfl rfl tie noOwnUnsafe
theorem fnExactParseUnit_row_tie : Rows.fnExactParseUnitRow.laidByTextAt .later Tryd.pinned [.data] true :=
  OpenClaim.laidByTextAt_later rfl rfl tie noOwnUnsafe
theorem fnExactSameKind_row_tie : Rows.fnExactSameKindRow.laidByTextAt .later Tryd.pinned [.data] true :=
  OpenClaim.laidByTextAt_later rfl rfl tie noOwnUnsafe
theorem fnExactConvertTenths_row_tie : Rows.fnExactConvertTenthsRow.laidByTextAt .later Tryd.pinned [.data] true :=
  OpenClaim.laidByTextAt_later rfl rfl tie noOwnUnsafe
theorem fnExactWarmerThan_row_tie : Rows.fnExactWarmerThanRow.laidByTextAt .later Tryd.pinned [.data] true :=
  OpenClaim.laidByTextAt_later rfl rfl tie noOwnUnsafe
theorem tie2 : Tryd.prog.laidByTextLater [("loop.example/g00889/impl.unitTable", Rows.laid_loop_example_g00889_impl_unitTable), ("loop.example/g00889/impl.forceSpeeds", Rows.laid_loop_example_g00889_impl_forceSpeeds)] [.data, .data] true :=
  Program.laidByTextLater.sub seatTie1 ["loop.example/g00889/impl.unitTable", "loop.example/g00889/impl.forceSpeeds"] (by kernel_rfl) (by kernel_rfl)
theorem fnExactBeaufortOf_row_tie : Rows.fnExactBeaufortOfRow.laidByTextAt .later Tryd.pinned [.data, .data] true :=
  OpenClaim.laidByTextAt_later rfl rfl tie2 noOwnUnsafe
theorem fnConversions_row_tie : Rows.fnConversionsRow.laidByTextAt .later Tryd.pinned [.data, .data] true :=
  OpenClaim.laidByTextAt_later rfl rfl tie2 noOwnUnsafe
theorem fnExactUnitWordUpto_row_tie : Rows.fnExactUnitWordUptoRow.laidByTextAt .later Tryd.pinned [.data] true :=
  OpenClaim.laidByTextAt_later rfl rfl tie noOwnUnsafe
theorem fnExactParseUnitUpto_row_tie : Rows.fnExactParseUnitUptoRow.laidByTextAt .later Tryd.pinned [.data] true :=
  OpenClaim.laidByTextAt_later rfl rfl tie noOwnUnsafe
theorem fnExactSameKindUpto_row_tie : Rows.fnExactSameKindUptoRow.laidByTextAt .later Tryd.pinned [.data] true :=
  OpenClaim.laidByTextAt_later rfl rfl tie noOwnUnsafe
theorem fnExactConvertTenthsUpto_row_tie : Rows.fnExactConvertTenthsUptoRow.laidByTextAt .later Tryd.pinned [.data] true :=
  OpenClaim.laidByTextAt_later rfl rfl tie noOwnUnsafe
theorem fnExactBeaufortOfUpto_row_tie : Rows.fnExactBeaufortOfUptoRow.laidByTextAt .later Tryd.pinned [.data, .data] true :=
  OpenClaim.laidByTextAt_later rfl rfl tie2 noOwnUnsafe
theorem fnExactWarmerThanUpto_row_tie : Rows.fnExactWarmerThanUptoRow.laidByTextAt .later Tryd.pinned [.data] true :=
  OpenClaim.laidByTextAt_later rfl rfl tie noOwnUnsafe
theorem fnConversionsUpto_row_tie : Rows.fnConversionsUptoRow.laidByTextAt .later Tryd.pinned [.data, .data] true :=
  OpenClaim.laidByTextAt_later rfl rfl tie2 noOwnUnsafe
end Go.Proofs.YtnafnkilmiebiaaDoor
