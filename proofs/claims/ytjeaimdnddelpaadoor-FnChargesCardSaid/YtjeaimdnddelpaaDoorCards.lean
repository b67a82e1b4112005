/-
  DERIVED. GIVEN WITH THE SEED: THE CARDS: each row of YtjeaimdnddelpaaDoorRows.lean that lists a variable, with what it lists TIED to the program's text (the seventh form; the later family's looks); each row that meets fmt, with fmt's text TOLD by the authors' own Lean function (tested against real Go, not proved from fmt's source: count such statements apart). THE CARD IS WHAT COUNTS. Prove the row's statement (the work); the ties are given (YtjeaimdnddelpaaDoorTie.lean); close each card by the builder's one call (the guide's Derived/Test/ToyasCard.lean, 'card_holds'). Laid BY PROGRAM, IN A SANDBOX (cutbox-door.mjs). By AI agents, Wed Nov 11 2026. No macro, syntax, notation, axiom, sorry.
-/
import Derived.Test.YtjeaimdnddelpaaDoorRows
import GoSem.ClaimSeven
namespace Go.Proofs.YtjeaimdnddelpaaDoor
namespace Rows

/-- THE TIED CARD OF 'laws.FnCharges'. -/
def fnChargesCard : Claim7 := { stood := { row := fnChargesRow, standIns := [], harness := (true, "191c2568110069695c7dea45522819f36b78bbc6495fef9037721a69e872a6b6"), looks := false }, kinds := [], alts := [], laidByText := true, laidKinds := [.data, .data, .data], laidTests := true, laidLooks := .later }
def FnChargesCardSaid : Prop := Claim7.holds Tryd.pinned (.plain (OpenSpec.ofChange fnChargesSpec)) fnChargesCard

/-- THE SECOND FORM's CARD OF 'laws.FnCharges'. -/
def fnChargesUptoCard : Claim7 := { stood := { row := fnChargesUptoRow, standIns := [], harness := (true, "191c2568110069695c7dea45522819f36b78bbc6495fef9037721a69e872a6b6"), looks := false }, kinds := [], alts := [], laidByText := true, laidKinds := [.data, .data, .data], laidTests := true, laidLooks := .later }
def FnChargesUptoCardSaid : Prop := Claim7.holds Tryd.pinned (.plain (OpenSpec.upto fnChargesSpec)) fnChargesUptoCard
end Rows
end Go.Proofs.YtjeaimdnddelpaaDoor
