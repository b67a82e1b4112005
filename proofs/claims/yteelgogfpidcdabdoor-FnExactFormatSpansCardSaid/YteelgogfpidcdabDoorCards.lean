/-
  DERIVED. GIVEN WITH THE SEED: THE CARDS: each row of YteelgogfpidcdabDoorRows.lean that lists a variable, with what it lists TIED to the program's text (the seventh form; the later family's looks); each row that meets fmt, with fmt's text TOLD by the authors' own Lean function (tested against real Go, not proved from fmt's source: count such statements apart). THE CARD IS WHAT COUNTS. Prove the row's statement (the work); the ties are given (YteelgogfpidcdabDoorTie.lean); close each card by the builder's one call (the guide's Derived/Test/ToyasCard.lean, 'card_holds'). Laid BY PROGRAM, IN A SANDBOX (cutbox-door.mjs). By AI agents, Wed Nov 11 2026. No macro, syntax, notation, axiom, sorry.
-/
import Derived.Test.YteelgogfpidcdabDoorRows
import GoSem.ClaimSeven
namespace Go.Proofs.YteelgogfpidcdabDoor
namespace Rows

/-- THE TIED CARD OF 'laws.FnExactFormatSpans'. -/
def fnExactFormatSpansCard : Claim7 := { stood := { row := fnExactFormatSpansRow, standIns := [], harness := (true, "032b4c123fc2b1ec14fd95c66e2b5432b19f133e8049461eaf2dd422df3bdec8"), looks := false }, kinds := [], alts := [], laidByText := true, laidKinds := [.data, .data, .data], laidTests := true, laidLooks := .later }
def FnExactFormatSpansCardSaid : Prop := Claim7.holds Tryd.pinned (.plain (OpenSpec.ofChange fnExactFormatSpansSpec)) fnExactFormatSpansCard

/-- THE SECOND FORM's CARD OF 'laws.FnExactFormatSpans'. -/
def fnExactFormatSpansUptoCard : Claim7 := { stood := { row := fnExactFormatSpansUptoRow, standIns := [], harness := (true, "032b4c123fc2b1ec14fd95c66e2b5432b19f133e8049461eaf2dd422df3bdec8"), looks := false }, kinds := [], alts := [], laidByText := true, laidKinds := [.data, .data, .data], laidTests := true, laidLooks := .later }
def FnExactFormatSpansUptoCardSaid : Prop := Claim7.holds Tryd.pinned (.plain (OpenSpec.upto fnExactFormatSpansSpec)) fnExactFormatSpansUptoCard
end Rows
end Go.Proofs.YteelgogfpidcdabDoor
