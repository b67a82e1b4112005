/-
  DERIVED. GIVEN WITH THE SEED: THE CARDS: each row of YtogbgeekmdnhlaaGreatDoorRows.lean that lists a variable, with what it lists TIED to the program's text (the seventh form; the later family's looks); each row that meets fmt, with fmt's text TOLD by the authors' own Lean function (tested against real Go, not proved from fmt's source: count such statements apart). THE CARD IS WHAT COUNTS. Prove the row's statement (the work); the ties are given (YtogbgeekmdnhlaaGreatDoorTie.lean); close each card by the builder's one call (the guide's Derived/Test/ToyasCard.lean, 'card_holds'). Laid BY PROGRAM, IN A SANDBOX (cutbox-door.mjs). By AI agents, Wed Nov 11 2026. No macro, syntax, notation, axiom, sorry.
-/
import Derived.Test.YtogbgeekmdnhlaaGreatDoorRows
import GoSem.ClaimSeven
namespace Go.Proofs.YtogbgeekmdnhlaaGreatDoor
namespace Rows

/-- THE TIED CARD OF 'laws.FnExactIsAwake'. -/
def fnExactIsAwakeCard : Claim7 := { stood := { row := fnExactIsAwakeRow, standIns := [], harness := (true, "2c5b6c811ac0ceb8a8baa8dc15299b64ca012bd0a12de472857d71e05f92b7bb"), looks := false }, kinds := [], alts := [], laidByText := true, laidKinds := [.data], laidTests := true, laidLooks := .later }
def FnExactIsAwakeCardSaid : Prop := Claim7.holds Tryz.pinned (.plain (OpenSpec.ofChange fnExactIsAwakeSpec)) fnExactIsAwakeCard

/-- THE TIED CARD OF 'laws.FnExactParticipants'. -/
def fnExactParticipantsCard : Claim7 := { stood := { row := fnExactParticipantsRow, standIns := [], harness := (true, "2c5b6c811ac0ceb8a8baa8dc15299b64ca012bd0a12de472857d71e05f92b7bb"), looks := false }, kinds := [], alts := [], laidByText := true, laidKinds := [.data], laidTests := true, laidLooks := .later }
def FnExactParticipantsCardSaid : Prop := Claim7.holds Tryz.pinned (.plain (OpenSpec.ofChange fnExactParticipantsSpec)) fnExactParticipantsCard

/-- THE TIED CARD OF 'laws.FnExactResultOf'. -/
def fnExactResultOfCard : Claim7 := { stood := { row := fnExactResultOfRow, standIns := [], harness := (true, "2c5b6c811ac0ceb8a8baa8dc15299b64ca012bd0a12de472857d71e05f92b7bb"), looks := false }, kinds := [], alts := [], laidByText := true, laidKinds := [.data], laidTests := true, laidLooks := .later }
def FnExactResultOfCardSaid : Prop := Claim7.holds Tryz.pinned (.plain (OpenSpec.ofChange fnExactResultOfSpec)) fnExactResultOfCard

/-- THE TIED CARD OF 'laws.FnExactStepEngine'. -/
def fnExactStepEngineCard : Claim7 := { stood := { row := fnExactStepEngineRow, standIns := [], harness := (true, "2c5b6c811ac0ceb8a8baa8dc15299b64ca012bd0a12de472857d71e05f92b7bb"), looks := false }, kinds := [], alts := [], laidByText := true, laidKinds := [.data], laidTests := true, laidLooks := .later }
def FnExactStepEngineCardSaid : Prop := Claim7.holds Tryz.pinned (.plain (OpenSpec.ofChange fnExactStepEngineSpec)) fnExactStepEngineCard

/-- THE TIED CARD OF 'laws.FnExactRunEngine'. -/
def fnExactRunEngineCard : Claim7 := { stood := { row := fnExactRunEngineRow, standIns := [], harness := (true, "2c5b6c811ac0ceb8a8baa8dc15299b64ca012bd0a12de472857d71e05f92b7bb"), looks := false }, kinds := [], alts := [], laidByText := true, laidKinds := [.data], laidTests := true, laidLooks := .later }
def FnExactRunEngineCardSaid : Prop := Claim7.holds Tryz.pinned (.plain (OpenSpec.ofChange fnExactRunEngineSpec)) fnExactRunEngineCard

/-- THE TIED CARD OF 'laws.FnExactFinishEngine'. -/
def fnExactFinishEngineCard : Claim7 := { stood := { row := fnExactFinishEngineRow, standIns := [], harness := (true, "2c5b6c811ac0ceb8a8baa8dc15299b64ca012bd0a12de472857d71e05f92b7bb"), looks := false }, kinds := [], alts := [], laidByText := true, laidKinds := [.data], laidTests := true, laidLooks := .later }
def FnExactFinishEngineCardSaid : Prop := Claim7.holds Tryz.pinned (.plain (OpenSpec.ofChange fnExactFinishEngineSpec)) fnExactFinishEngineCard

/-- THE TIED CARD OF 'laws.FnExactAdmitQuery'. -/
def fnExactAdmitQueryCard : Claim7 := { stood := { row := fnExactAdmitQueryRow, standIns := [], harness := (true, "2c5b6c811ac0ceb8a8baa8dc15299b64ca012bd0a12de472857d71e05f92b7bb"), looks := false }, kinds := [], alts := [], laidByText := true, laidKinds := [.data], laidTests := true, laidLooks := .later }
def FnExactAdmitQueryCardSaid : Prop := Claim7.holds Tryz.pinned (.plain (OpenSpec.ofChange fnExactAdmitQuerySpec)) fnExactAdmitQueryCard

/-- THE TIED CARD OF 'laws.FnExactCancelQuery'. -/
def fnExactCancelQueryCard : Claim7 := { stood := { row := fnExactCancelQueryRow, standIns := [], harness := (true, "2c5b6c811ac0ceb8a8baa8dc15299b64ca012bd0a12de472857d71e05f92b7bb"), looks := false }, kinds := [], alts := [], laidByText := true, laidKinds := [.data], laidTests := true, laidLooks := .later }
def FnExactCancelQueryCardSaid : Prop := Claim7.holds Tryz.pinned (.plain (OpenSpec.ofChange fnExactCancelQuerySpec)) fnExactCancelQueryCard

/-- THE TIED CARD OF 'laws.FnExactUpdateEngine'. -/
def fnExactUpdateEngineCard : Claim7 := { stood := { row := fnExactUpdateEngineRow, standIns := [], harness := (true, "2c5b6c811ac0ceb8a8baa8dc15299b64ca012bd0a12de472857d71e05f92b7bb"), looks := false }, kinds := [], alts := [], laidByText := true, laidKinds := [.data], laidTests := true, laidLooks := .later }
def FnExactUpdateEngineCardSaid : Prop := Claim7.holds Tryz.pinned (.plain (OpenSpec.ofChange fnExactUpdateEngineSpec)) fnExactUpdateEngineCard

/-- THE SECOND FORM's CARD OF 'laws.FnExactIsAwake'. -/
def fnExactIsAwakeUptoCard : Claim7 := { stood := { row := fnExactIsAwakeUptoRow, standIns := [], harness := (true, "2c5b6c811ac0ceb8a8baa8dc15299b64ca012bd0a12de472857d71e05f92b7bb"), looks := false }, kinds := [], alts := [], laidByText := true, laidKinds := [.data], laidTests := true, laidLooks := .later }
def FnExactIsAwakeUptoCardSaid : Prop := Claim7.holds Tryz.pinned (.plain (OpenSpec.upto fnExactIsAwakeSpec)) fnExactIsAwakeUptoCard

/-- THE SECOND FORM's CARD OF 'laws.FnExactParticipants'. -/
def fnExactParticipantsUptoCard : Claim7 := { stood := { row := fnExactParticipantsUptoRow, standIns := [], harness := (true, "2c5b6c811ac0ceb8a8baa8dc15299b64ca012bd0a12de472857d71e05f92b7bb"), looks := false }, kinds := [], alts := [], laidByText := true, laidKinds := [.data], laidTests := true, laidLooks := .later }
def FnExactParticipantsUptoCardSaid : Prop := Claim7.holds Tryz.pinned (.plain (OpenSpec.upto fnExactParticipantsSpec)) fnExactParticipantsUptoCard

/-- THE SECOND FORM's CARD OF 'laws.FnExactResultOf'. -/
def fnExactResultOfUptoCard : Claim7 := { stood := { row := fnExactResultOfUptoRow, standIns := [], harness := (true, "2c5b6c811ac0ceb8a8baa8dc15299b64ca012bd0a12de472857d71e05f92b7bb"), looks := false }, kinds := [], alts := [], laidByText := true, laidKinds := [.data], laidTests := true, laidLooks := .later }
def FnExactResultOfUptoCardSaid : Prop := Claim7.holds Tryz.pinned (.plain (OpenSpec.upto fnExactResultOfSpec)) fnExactResultOfUptoCard

/-- THE SECOND FORM's CARD OF 'laws.FnExactStepEngine'. -/
def fnExactStepEngineUptoCard : Claim7 := { stood := { row := fnExactStepEngineUptoRow, standIns := [], harness := (true, "2c5b6c811ac0ceb8a8baa8dc15299b64ca012bd0a12de472857d71e05f92b7bb"), looks := false }, kinds := [], alts := [], laidByText := true, laidKinds := [.data], laidTests := true, laidLooks := .later }
def FnExactStepEngineUptoCardSaid : Prop := Claim7.holds Tryz.pinned (.plain (OpenSpec.upto fnExactStepEngineSpec)) fnExactStepEngineUptoCard

/-- THE SECOND FORM's CARD OF 'laws.FnExactRunEngine'. -/
def fnExactRunEngineUptoCard : Claim7 := { stood := { row := fnExactRunEngineUptoRow, standIns := [], harness := (true, "2c5b6c811ac0ceb8a8baa8dc15299b64ca012bd0a12de472857d71e05f92b7bb"), looks := false }, kinds := [], alts := [], laidByText := true, laidKinds := [.data], laidTests := true, laidLooks := .later }
def FnExactRunEngineUptoCardSaid : Prop := Claim7.holds Tryz.pinned (.plain (OpenSpec.upto fnExactRunEngineSpec)) fnExactRunEngineUptoCard

/-- THE SECOND FORM's CARD OF 'laws.FnExactFinishEngine'. -/
def fnExactFinishEngineUptoCard : Claim7 := { stood := { row := fnExactFinishEngineUptoRow, standIns := [], harness := (true, "2c5b6c811ac0ceb8a8baa8dc15299b64ca012bd0a12de472857d71e05f92b7bb"), looks := false }, kinds := [], alts := [], laidByText := true, laidKinds := [.data], laidTests := true, laidLooks := .later }
def FnExactFinishEngineUptoCardSaid : Prop := Claim7.holds Tryz.pinned (.plain (OpenSpec.upto fnExactFinishEngineSpec)) fnExactFinishEngineUptoCard

/-- THE SECOND FORM's CARD OF 'laws.FnExactAdmitQuery'. -/
def fnExactAdmitQueryUptoCard : Claim7 := { stood := { row := fnExactAdmitQueryUptoRow, standIns := [], harness := (true, "2c5b6c811ac0ceb8a8baa8dc15299b64ca012bd0a12de472857d71e05f92b7bb"), looks := false }, kinds := [], alts := [], laidByText := true, laidKinds := [.data], laidTests := true, laidLooks := .later }
def FnExactAdmitQueryUptoCardSaid : Prop := Claim7.holds Tryz.pinned (.plain (OpenSpec.upto fnExactAdmitQuerySpec)) fnExactAdmitQueryUptoCard

/-- THE SECOND FORM's CARD OF 'laws.FnExactCancelQuery'. -/
def fnExactCancelQueryUptoCard : Claim7 := { stood := { row := fnExactCancelQueryUptoRow, standIns := [], harness := (true, "2c5b6c811ac0ceb8a8baa8dc15299b64ca012bd0a12de472857d71e05f92b7bb"), looks := false }, kinds := [], alts := [], laidByText := true, laidKinds := [.data], laidTests := true, laidLooks := .later }
def FnExactCancelQueryUptoCardSaid : Prop := Claim7.holds Tryz.pinned (.plain (OpenSpec.upto fnExactCancelQuerySpec)) fnExactCancelQueryUptoCard

/-- THE SECOND FORM's CARD OF 'laws.FnExactUpdateEngine'. -/
def fnExactUpdateEngineUptoCard : Claim7 := { stood := { row := fnExactUpdateEngineUptoRow, standIns := [], harness := (true, "2c5b6c811ac0ceb8a8baa8dc15299b64ca012bd0a12de472857d71e05f92b7bb"), looks := false }, kinds := [], alts := [], laidByText := true, laidKinds := [.data], laidTests := true, laidLooks := .later }
def FnExactUpdateEngineUptoCardSaid : Prop := Claim7.holds Tryz.pinned (.plain (OpenSpec.upto fnExactUpdateEngineSpec)) fnExactUpdateEngineUptoCard
end Rows
end Go.Proofs.YtogbgeekmdnhlaaGreatDoor
