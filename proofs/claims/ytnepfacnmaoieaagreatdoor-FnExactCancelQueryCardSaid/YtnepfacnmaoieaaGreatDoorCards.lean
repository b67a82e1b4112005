/-
  DERIVED. GIVEN WITH THE SEED: THE CARDS: each row of YtnepfacnmaoieaaGreatDoorRows.lean that lists a variable, with what it lists TIED to the program's text (the seventh form; the later family's looks); each row that meets fmt, with fmt's text TOLD by the authors' own Lean function (tested against real Go, not proved from fmt's source: count such statements apart). THE CARD IS WHAT COUNTS. Prove the row's statement (the work); the ties are given (YtnepfacnmaoieaaGreatDoorTie.lean); close each card by the builder's one call (the guide's Derived/Test/ToyasCard.lean, 'card_holds'). Laid BY PROGRAM, IN A SANDBOX (cutbox-door.mjs). By AI agents, Wed Nov 11 2026. No macro, syntax, notation, axiom, sorry.
-/
import Derived.Test.YtnepfacnmaoieaaGreatDoorRows
import GoSem.ClaimSeven
namespace Go.Proofs.YtnepfacnmaoieaaGreatDoor
namespace Rows

/-- THE TIED CARD OF 'laws.FnExactPromisedSteps'. -/
def fnExactPromisedStepsCard : Claim7 := { stood := { row := fnExactPromisedStepsRow, standIns := [], harness := (true, "634b8cc2ead9d2de3f5d881f252a99dc86881b7e506b7c62a4ab365e889d8df1"), looks := true }, kinds := [], alts := [], laidByText := true, laidKinds := [.data], laidTests := true, laidLooks := .later }
def FnExactPromisedStepsCardSaid : Prop := Claim7.holds Tryz.pinned (.plain (OpenSpec.ofChange fnExactPromisedStepsSpec)) fnExactPromisedStepsCard

/-- THE TIED CARD OF 'laws.FnExactIsPromiseKept'. -/
def fnExactIsPromiseKeptCard : Claim7 := { stood := { row := fnExactIsPromiseKeptRow, standIns := [], harness := (true, "634b8cc2ead9d2de3f5d881f252a99dc86881b7e506b7c62a4ab365e889d8df1"), looks := true }, kinds := [], alts := [], laidByText := true, laidKinds := [.data], laidTests := true, laidLooks := .later }
def FnExactIsPromiseKeptCardSaid : Prop := Claim7.holds Tryz.pinned (.plain (OpenSpec.ofChange fnExactIsPromiseKeptSpec)) fnExactIsPromiseKeptCard

/-- THE TIED CARD OF 'laws.FnExactCanAdmit'. -/
def fnExactCanAdmitCard : Claim7 := { stood := { row := fnExactCanAdmitRow, standIns := [], harness := (true, "634b8cc2ead9d2de3f5d881f252a99dc86881b7e506b7c62a4ab365e889d8df1"), looks := true }, kinds := [], alts := [], laidByText := true, laidKinds := [.handle, .data, .sentinel], laidTests := true, laidLooks := .later }
def FnExactCanAdmitCardSaid : Prop := Claim7.holds Tryz.pinned (.plain (OpenSpec.ofChange fnExactCanAdmitSpec)) fnExactCanAdmitCard

/-- THE TIED CARD OF 'laws.FnExactResultOf'. -/
def fnExactResultOfCard : Claim7 := { stood := { row := fnExactResultOfRow, standIns := [], harness := (true, "634b8cc2ead9d2de3f5d881f252a99dc86881b7e506b7c62a4ab365e889d8df1"), looks := true }, kinds := [], alts := [], laidByText := true, laidKinds := [.data], laidTests := true, laidLooks := .later }
def FnExactResultOfCardSaid : Prop := Claim7.holds Tryz.pinned (.plain (OpenSpec.ofChange fnExactResultOfSpec)) fnExactResultOfCard

/-- THE TIED CARD OF 'laws.FnExactAdmitQuery'. -/
def fnExactAdmitQueryCard : Claim7 := { stood := { row := fnExactAdmitQueryRow, standIns := [], harness := (true, "634b8cc2ead9d2de3f5d881f252a99dc86881b7e506b7c62a4ab365e889d8df1"), looks := true }, kinds := [], alts := [], laidByText := true, laidKinds := [.data], laidTests := true, laidLooks := .later }
def FnExactAdmitQueryCardSaid : Prop := Claim7.holds Tryz.pinned (.plain (OpenSpec.ofChange fnExactAdmitQuerySpec)) fnExactAdmitQueryCard

/-- THE TIED CARD OF 'laws.FnExactCancelQuery'. -/
def fnExactCancelQueryCard : Claim7 := { stood := { row := fnExactCancelQueryRow, standIns := [], harness := (true, "634b8cc2ead9d2de3f5d881f252a99dc86881b7e506b7c62a4ab365e889d8df1"), looks := true }, kinds := [], alts := [], laidByText := true, laidKinds := [.data], laidTests := true, laidLooks := .later }
def FnExactCancelQueryCardSaid : Prop := Claim7.holds Tryz.pinned (.plain (OpenSpec.ofChange fnExactCancelQuerySpec)) fnExactCancelQueryCard

/-- THE TIED CARD OF 'laws.FnExactUpdateEngine'. -/
def fnExactUpdateEngineCard : Claim7 := { stood := { row := fnExactUpdateEngineRow, standIns := [], harness := (true, "634b8cc2ead9d2de3f5d881f252a99dc86881b7e506b7c62a4ab365e889d8df1"), looks := true }, kinds := [], alts := [], laidByText := true, laidKinds := [.data], laidTests := true, laidLooks := .later }
def FnExactUpdateEngineCardSaid : Prop := Claim7.holds Tryz.pinned (.plain (OpenSpec.ofChange fnExactUpdateEngineSpec)) fnExactUpdateEngineCard

/-- THE TIED CARD OF 'laws.FnExactStepEngine'. -/
def fnExactStepEngineCard : Claim7 := { stood := { row := fnExactStepEngineRow, standIns := [], harness := (true, "634b8cc2ead9d2de3f5d881f252a99dc86881b7e506b7c62a4ab365e889d8df1"), looks := true }, kinds := [], alts := [], laidByText := true, laidKinds := [.data], laidTests := true, laidLooks := .later }
def FnExactStepEngineCardSaid : Prop := Claim7.holds Tryz.pinned (.plain (OpenSpec.ofChange fnExactStepEngineSpec)) fnExactStepEngineCard

/-- THE TIED CARD OF 'laws.FnExactRunEngine'. -/
def fnExactRunEngineCard : Claim7 := { stood := { row := fnExactRunEngineRow, standIns := [], harness := (true, "634b8cc2ead9d2de3f5d881f252a99dc86881b7e506b7c62a4ab365e889d8df1"), looks := true }, kinds := [], alts := [], laidByText := true, laidKinds := [.data], laidTests := true, laidLooks := .later }
def FnExactRunEngineCardSaid : Prop := Claim7.holds Tryz.pinned (.plain (OpenSpec.ofChange fnExactRunEngineSpec)) fnExactRunEngineCard

/-- THE TIED CARD OF 'laws.FnExactFinishEngine'. -/
def fnExactFinishEngineCard : Claim7 := { stood := { row := fnExactFinishEngineRow, standIns := [], harness := (true, "634b8cc2ead9d2de3f5d881f252a99dc86881b7e506b7c62a4ab365e889d8df1"), looks := true }, kinds := [], alts := [], laidByText := true, laidKinds := [.data], laidTests := true, laidLooks := .later }
def FnExactFinishEngineCardSaid : Prop := Claim7.holds Tryz.pinned (.plain (OpenSpec.ofChange fnExactFinishEngineSpec)) fnExactFinishEngineCard

/-- THE SECOND FORM's CARD OF 'laws.FnExactPromisedSteps'. -/
def fnExactPromisedStepsUptoCard : Claim7 := { stood := { row := fnExactPromisedStepsUptoRow, standIns := [], harness := (true, "634b8cc2ead9d2de3f5d881f252a99dc86881b7e506b7c62a4ab365e889d8df1"), looks := true }, kinds := [], alts := [], laidByText := true, laidKinds := [.data], laidTests := true, laidLooks := .later }
def FnExactPromisedStepsUptoCardSaid : Prop := Claim7.holds Tryz.pinned (.plain (OpenSpec.upto fnExactPromisedStepsSpec)) fnExactPromisedStepsUptoCard

/-- THE SECOND FORM's CARD OF 'laws.FnExactIsPromiseKept'. -/
def fnExactIsPromiseKeptUptoCard : Claim7 := { stood := { row := fnExactIsPromiseKeptUptoRow, standIns := [], harness := (true, "634b8cc2ead9d2de3f5d881f252a99dc86881b7e506b7c62a4ab365e889d8df1"), looks := true }, kinds := [], alts := [], laidByText := true, laidKinds := [.data], laidTests := true, laidLooks := .later }
def FnExactIsPromiseKeptUptoCardSaid : Prop := Claim7.holds Tryz.pinned (.plain (OpenSpec.upto fnExactIsPromiseKeptSpec)) fnExactIsPromiseKeptUptoCard

/-- THE SECOND FORM's CARD OF 'laws.FnExactCanAdmit'. -/
def fnExactCanAdmitUptoCard : Claim7 := { stood := { row := fnExactCanAdmitUptoRow, standIns := [], harness := (true, "634b8cc2ead9d2de3f5d881f252a99dc86881b7e506b7c62a4ab365e889d8df1"), looks := true }, kinds := [], alts := [], laidByText := true, laidKinds := [.handle, .data, .sentinel], laidTests := true, laidLooks := .later }
def FnExactCanAdmitUptoCardSaid : Prop := Claim7.holds Tryz.pinned (.plain (OpenSpec.upto fnExactCanAdmitSpec)) fnExactCanAdmitUptoCard

/-- THE SECOND FORM's CARD OF 'laws.FnExactResultOf'. -/
def fnExactResultOfUptoCard : Claim7 := { stood := { row := fnExactResultOfUptoRow, standIns := [], harness := (true, "634b8cc2ead9d2de3f5d881f252a99dc86881b7e506b7c62a4ab365e889d8df1"), looks := true }, kinds := [], alts := [], laidByText := true, laidKinds := [.data], laidTests := true, laidLooks := .later }
def FnExactResultOfUptoCardSaid : Prop := Claim7.holds Tryz.pinned (.plain (OpenSpec.upto fnExactResultOfSpec)) fnExactResultOfUptoCard

/-- THE SECOND FORM's CARD OF 'laws.FnExactAdmitQuery'. -/
def fnExactAdmitQueryUptoCard : Claim7 := { stood := { row := fnExactAdmitQueryUptoRow, standIns := [], harness := (true, "634b8cc2ead9d2de3f5d881f252a99dc86881b7e506b7c62a4ab365e889d8df1"), looks := true }, kinds := [], alts := [], laidByText := true, laidKinds := [.data], laidTests := true, laidLooks := .later }
def FnExactAdmitQueryUptoCardSaid : Prop := Claim7.holds Tryz.pinned (.plain (OpenSpec.upto fnExactAdmitQuerySpec)) fnExactAdmitQueryUptoCard

/-- THE SECOND FORM's CARD OF 'laws.FnExactCancelQuery'. -/
def fnExactCancelQueryUptoCard : Claim7 := { stood := { row := fnExactCancelQueryUptoRow, standIns := [], harness := (true, "634b8cc2ead9d2de3f5d881f252a99dc86881b7e506b7c62a4ab365e889d8df1"), looks := true }, kinds := [], alts := [], laidByText := true, laidKinds := [.data], laidTests := true, laidLooks := .later }
def FnExactCancelQueryUptoCardSaid : Prop := Claim7.holds Tryz.pinned (.plain (OpenSpec.upto fnExactCancelQuerySpec)) fnExactCancelQueryUptoCard

/-- THE SECOND FORM's CARD OF 'laws.FnExactUpdateEngine'. -/
def fnExactUpdateEngineUptoCard : Claim7 := { stood := { row := fnExactUpdateEngineUptoRow, standIns := [], harness := (true, "634b8cc2ead9d2de3f5d881f252a99dc86881b7e506b7c62a4ab365e889d8df1"), looks := true }, kinds := [], alts := [], laidByText := true, laidKinds := [.data], laidTests := true, laidLooks := .later }
def FnExactUpdateEngineUptoCardSaid : Prop := Claim7.holds Tryz.pinned (.plain (OpenSpec.upto fnExactUpdateEngineSpec)) fnExactUpdateEngineUptoCard

/-- THE SECOND FORM's CARD OF 'laws.FnExactStepEngine'. -/
def fnExactStepEngineUptoCard : Claim7 := { stood := { row := fnExactStepEngineUptoRow, standIns := [], harness := (true, "634b8cc2ead9d2de3f5d881f252a99dc86881b7e506b7c62a4ab365e889d8df1"), looks := true }, kinds := [], alts := [], laidByText := true, laidKinds := [.data], laidTests := true, laidLooks := .later }
def FnExactStepEngineUptoCardSaid : Prop := Claim7.holds Tryz.pinned (.plain (OpenSpec.upto fnExactStepEngineSpec)) fnExactStepEngineUptoCard

/-- THE SECOND FORM's CARD OF 'laws.FnExactRunEngine'. -/
def fnExactRunEngineUptoCard : Claim7 := { stood := { row := fnExactRunEngineUptoRow, standIns := [], harness := (true, "634b8cc2ead9d2de3f5d881f252a99dc86881b7e506b7c62a4ab365e889d8df1"), looks := true }, kinds := [], alts := [], laidByText := true, laidKinds := [.data], laidTests := true, laidLooks := .later }
def FnExactRunEngineUptoCardSaid : Prop := Claim7.holds Tryz.pinned (.plain (OpenSpec.upto fnExactRunEngineSpec)) fnExactRunEngineUptoCard

/-- THE SECOND FORM's CARD OF 'laws.FnExactFinishEngine'. -/
def fnExactFinishEngineUptoCard : Claim7 := { stood := { row := fnExactFinishEngineUptoRow, standIns := [], harness := (true, "634b8cc2ead9d2de3f5d881f252a99dc86881b7e506b7c62a4ab365e889d8df1"), looks := true }, kinds := [], alts := [], laidByText := true, laidKinds := [.data], laidTests := true, laidLooks := .later }
def FnExactFinishEngineUptoCardSaid : Prop := Claim7.holds Tryz.pinned (.plain (OpenSpec.upto fnExactFinishEngineSpec)) fnExactFinishEngineUptoCard
end Rows
end Go.Proofs.YtnepfacnmaoieaaGreatDoor
