/-
  DERIVED. GIVEN WITH THE SEED: THE CARDS: each row of YtcolddalajoheaaGreatDoorRows.lean that lists a variable, with what it lists TIED to the program's text (the seventh form; the later family's looks); each row that meets fmt, with fmt's text TOLD by the authors' own Lean function (tested against real Go, not proved from fmt's source: count such statements apart). THE CARD IS WHAT COUNTS. Prove the row's statement (the work); the ties are given (YtcolddalajoheaaGreatDoorTie.lean); close each card by the builder's one call (the guide's Derived/Test/ToyasCard.lean, 'card_holds'). Laid BY PROGRAM, IN A SANDBOX (cutbox-door.mjs). By AI agents, Wed Nov 11 2026. No macro, syntax, notation, axiom, sorry.
-/
import Derived.Test.YtcolddalajoheaaGreatDoorRows
import GoSem.ClaimSeven
namespace Go.Proofs.YtcolddalajoheaaGreatDoor
namespace Rows

/-- THE TIED CARD OF 'laws.FnExactAdmitQuery'. -/
def fnExactAdmitQueryCard : Claim7 := { stood := { row := fnExactAdmitQueryRow, standIns := [], harness := (true, "15892d3bc4d42eda0123a456debe786e9cffe5fcc97b8eed0eae9bd65a6464ca"), looks := false }, kinds := [], alts := [], laidByText := true, laidKinds := [.data], laidTests := true, laidLooks := .later }
def FnExactAdmitQueryCardSaid : Prop := Claim7.holds Tryz.pinned (.plain (OpenSpec.ofChange fnExactAdmitQuerySpec)) fnExactAdmitQueryCard

/-- THE TIED CARD OF 'laws.FnExactCancelQuery'. -/
def fnExactCancelQueryCard : Claim7 := { stood := { row := fnExactCancelQueryRow, standIns := [], harness := (true, "15892d3bc4d42eda0123a456debe786e9cffe5fcc97b8eed0eae9bd65a6464ca"), looks := false }, kinds := [], alts := [], laidByText := true, laidKinds := [.data], laidTests := true, laidLooks := .later }
def FnExactCancelQueryCardSaid : Prop := Claim7.holds Tryz.pinned (.plain (OpenSpec.ofChange fnExactCancelQuerySpec)) fnExactCancelQueryCard

/-- THE TIED CARD OF 'laws.FnExactUpdateEngine'. -/
def fnExactUpdateEngineCard : Claim7 := { stood := { row := fnExactUpdateEngineRow, standIns := [], harness := (true, "15892d3bc4d42eda0123a456debe786e9cffe5fcc97b8eed0eae9bd65a6464ca"), looks := false }, kinds := [], alts := [], laidByText := true, laidKinds := [.data], laidTests := true, laidLooks := .later }
def FnExactUpdateEngineCardSaid : Prop := Claim7.holds Tryz.pinned (.plain (OpenSpec.ofChange fnExactUpdateEngineSpec)) fnExactUpdateEngineCard

/-- THE TIED CARD OF 'laws.FnExactSetOrder'. -/
def fnExactSetOrderCard : Claim7 := { stood := { row := fnExactSetOrderRow, standIns := [], harness := (true, "15892d3bc4d42eda0123a456debe786e9cffe5fcc97b8eed0eae9bd65a6464ca"), looks := false }, kinds := [], alts := [], laidByText := true, laidKinds := [.data], laidTests := true, laidLooks := .later }
def FnExactSetOrderCardSaid : Prop := Claim7.holds Tryz.pinned (.plain (OpenSpec.ofChange fnExactSetOrderSpec)) fnExactSetOrderCard

/-- THE SECOND FORM's CARD OF 'laws.FnExactAdmitQuery'. -/
def fnExactAdmitQueryUptoCard : Claim7 := { stood := { row := fnExactAdmitQueryUptoRow, standIns := [], harness := (true, "15892d3bc4d42eda0123a456debe786e9cffe5fcc97b8eed0eae9bd65a6464ca"), looks := false }, kinds := [], alts := [], laidByText := true, laidKinds := [.data], laidTests := true, laidLooks := .later }
def FnExactAdmitQueryUptoCardSaid : Prop := Claim7.holds Tryz.pinned (.plain (OpenSpec.upto fnExactAdmitQuerySpec)) fnExactAdmitQueryUptoCard

/-- THE SECOND FORM's CARD OF 'laws.FnExactCancelQuery'. -/
def fnExactCancelQueryUptoCard : Claim7 := { stood := { row := fnExactCancelQueryUptoRow, standIns := [], harness := (true, "15892d3bc4d42eda0123a456debe786e9cffe5fcc97b8eed0eae9bd65a6464ca"), looks := false }, kinds := [], alts := [], laidByText := true, laidKinds := [.data], laidTests := true, laidLooks := .later }
def FnExactCancelQueryUptoCardSaid : Prop := Claim7.holds Tryz.pinned (.plain (OpenSpec.upto fnExactCancelQuerySpec)) fnExactCancelQueryUptoCard

/-- THE SECOND FORM's CARD OF 'laws.FnExactUpdateEngine'. -/
def fnExactUpdateEngineUptoCard : Claim7 := { stood := { row := fnExactUpdateEngineUptoRow, standIns := [], harness := (true, "15892d3bc4d42eda0123a456debe786e9cffe5fcc97b8eed0eae9bd65a6464ca"), looks := false }, kinds := [], alts := [], laidByText := true, laidKinds := [.data], laidTests := true, laidLooks := .later }
def FnExactUpdateEngineUptoCardSaid : Prop := Claim7.holds Tryz.pinned (.plain (OpenSpec.upto fnExactUpdateEngineSpec)) fnExactUpdateEngineUptoCard

/-- THE SECOND FORM's CARD OF 'laws.FnExactSetOrder'. -/
def fnExactSetOrderUptoCard : Claim7 := { stood := { row := fnExactSetOrderUptoRow, standIns := [], harness := (true, "15892d3bc4d42eda0123a456debe786e9cffe5fcc97b8eed0eae9bd65a6464ca"), looks := false }, kinds := [], alts := [], laidByText := true, laidKinds := [.data], laidTests := true, laidLooks := .later }
def FnExactSetOrderUptoCardSaid : Prop := Claim7.holds Tryz.pinned (.plain (OpenSpec.upto fnExactSetOrderSpec)) fnExactSetOrderUptoCard
end Rows
end Go.Proofs.YtcolddalajoheaaGreatDoor
