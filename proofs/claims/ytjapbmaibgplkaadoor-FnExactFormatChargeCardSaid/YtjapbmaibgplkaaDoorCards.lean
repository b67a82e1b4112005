/-
  DERIVED. GIVEN WITH THE SEED: THE CARDS: each row of YtjapbmaibgplkaaDoorRows.lean that lists a variable, with what it lists TIED to the program's text (the seventh form; the later family's looks); each row that meets fmt, with fmt's text TOLD by the authors' own Lean function (tested against real Go, not proved from fmt's source: count such statements apart). THE CARD IS WHAT COUNTS. Prove the row's statement (the work); the ties are given (YtjapbmaibgplkaaDoorTie.lean); close each card by the builder's one call (the guide's Derived/Test/ToyasCard.lean, 'card_holds'). Laid BY PROGRAM, IN A SANDBOX (cutbox-door.mjs). By AI agents, Wed Nov 11 2026. No macro, syntax, notation, axiom, sorry.
-/
import Derived.Test.YtjapbmaibgplkaaDoorRows
import GoSem.ClaimSeven
namespace Go.Proofs.YtjapbmaibgplkaaDoor
namespace Rows

/-- THE TIED CARD OF 'laws.FnExactFormatCharge'. -/
def fnExactFormatChargeCard : Claim7 := { stood := { row := fnExactFormatChargeRow, standIns := [], harness := (true, "dccf798ebbb211e33848bdb8e955d84c0c06cab706264c15cbd2b89720e8d620"), looks := false }, kinds := [], alts := [], laidByText := true, laidKinds := [.data, .data, .data], laidTests := true, laidLooks := .later }
def FnExactFormatChargeCardSaid : Prop := Claim7.holds Tryd.pinned (.plain (OpenSpec.ofChange fnExactFormatChargeSpec)) fnExactFormatChargeCard

/-- THE SECOND FORM's CARD OF 'laws.FnExactFormatCharge'. -/
def fnExactFormatChargeUptoCard : Claim7 := { stood := { row := fnExactFormatChargeUptoRow, standIns := [], harness := (true, "dccf798ebbb211e33848bdb8e955d84c0c06cab706264c15cbd2b89720e8d620"), looks := false }, kinds := [], alts := [], laidByText := true, laidKinds := [.data, .data, .data], laidTests := true, laidLooks := .later }
def FnExactFormatChargeUptoCardSaid : Prop := Claim7.holds Tryd.pinned (.plain (OpenSpec.upto fnExactFormatChargeSpec)) fnExactFormatChargeUptoCard
end Rows
end Go.Proofs.YtjapbmaibgplkaaDoor
