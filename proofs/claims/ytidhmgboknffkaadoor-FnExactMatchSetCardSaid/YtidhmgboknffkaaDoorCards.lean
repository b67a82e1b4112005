/-
  DERIVED. GIVEN WITH THE SEED: THE CARDS: each row of YtidhmgboknffkaaDoorRows.lean that lists a variable, with what it lists TIED to the program's text (the seventh form; the later family's looks); each row that meets fmt, with fmt's text TOLD by the authors' own Lean function (tested against real Go, not proved from fmt's source: count such statements apart). THE CARD IS WHAT COUNTS. Prove the row's statement (the work); the ties are given (YtidhmgboknffkaaDoorTie.lean); close each card by the builder's one call (the guide's Derived/Test/ToyasCard.lean, 'card_holds'). Laid BY PROGRAM, IN A SANDBOX (cutbox-door.mjs). By AI agents, Wed Nov 11 2026. No macro, syntax, notation, axiom, sorry.
-/
import Derived.Test.YtidhmgboknffkaaDoorRows
import GoSem.ClaimSeven
namespace Go.Proofs.YtidhmgboknffkaaDoor
namespace Rows

/-- THE TIED CARD OF 'laws.FnIndexes'. -/
def fnIndexesCard : Claim7 := { stood := { row := fnIndexesRow, standIns := [], harness := (true, "06c617555688f1aa0a474d307c9017ded70db83cfa3c001c715cd6daf8bc581b"), looks := false }, kinds := [], alts := [], laidByText := true, laidKinds := [.data], laidTests := true, laidLooks := .later }
def FnIndexesCardSaid : Prop := Claim7.holds Tryd.pinned (.plain (OpenSpec.ofChange fnIndexesSpec)) fnIndexesCard

/-- THE TIED CARD OF 'laws.FnExactMatchSet'. -/
def fnExactMatchSetCard : Claim7 := { stood := { row := fnExactMatchSetRow, standIns := [], harness := (true, "06c617555688f1aa0a474d307c9017ded70db83cfa3c001c715cd6daf8bc581b"), looks := false }, kinds := [], alts := [], laidByText := true, laidKinds := [.data], laidTests := true, laidLooks := .later }
def FnExactMatchSetCardSaid : Prop := Claim7.holds Tryd.pinned (.plain (OpenSpec.ofChange fnExactMatchSetSpec)) fnExactMatchSetCard

/-- THE TIED CARD OF 'laws.FnExactProbeSet'. -/
def fnExactProbeSetCard : Claim7 := { stood := { row := fnExactProbeSetRow, standIns := [], harness := (true, "06c617555688f1aa0a474d307c9017ded70db83cfa3c001c715cd6daf8bc581b"), looks := false }, kinds := [], alts := [], laidByText := true, laidKinds := [.data], laidTests := true, laidLooks := .later }
def FnExactProbeSetCardSaid : Prop := Claim7.holds Tryd.pinned (.plain (OpenSpec.ofChange fnExactProbeSetSpec)) fnExactProbeSetCard

/-- THE TIED CARD OF 'laws.FnExactWorkOf'. -/
def fnExactWorkOfCard : Claim7 := { stood := { row := fnExactWorkOfRow, standIns := [], harness := (true, "06c617555688f1aa0a474d307c9017ded70db83cfa3c001c715cd6daf8bc581b"), looks := false }, kinds := [], alts := [], laidByText := true, laidKinds := [.data], laidTests := true, laidLooks := .later }
def FnExactWorkOfCardSaid : Prop := Claim7.holds Tryd.pinned (.plain (OpenSpec.ofChange fnExactWorkOfSpec)) fnExactWorkOfCard

/-- THE TIED CARD OF 'laws.FnSpans'. -/
def fnSpansCard : Claim7 := { stood := { row := fnSpansRow, standIns := [], harness := (true, "06c617555688f1aa0a474d307c9017ded70db83cfa3c001c715cd6daf8bc581b"), looks := false }, kinds := [], alts := [], laidByText := true, laidKinds := [.data, .data, .data], laidTests := true, laidLooks := .later }
def FnSpansCardSaid : Prop := Claim7.holds Tryd.pinned (.plain (OpenSpec.ofChange fnSpansSpec)) fnSpansCard

/-- THE SECOND FORM's CARD OF 'laws.FnIndexes'. -/
def fnIndexesUptoCard : Claim7 := { stood := { row := fnIndexesUptoRow, standIns := [], harness := (true, "06c617555688f1aa0a474d307c9017ded70db83cfa3c001c715cd6daf8bc581b"), looks := false }, kinds := [], alts := [], laidByText := true, laidKinds := [.data], laidTests := true, laidLooks := .later }
def FnIndexesUptoCardSaid : Prop := Claim7.holds Tryd.pinned (.plain (OpenSpec.upto fnIndexesSpec)) fnIndexesUptoCard

/-- THE SECOND FORM's CARD OF 'laws.FnExactMatchSet'. -/
def fnExactMatchSetUptoCard : Claim7 := { stood := { row := fnExactMatchSetUptoRow, standIns := [], harness := (true, "06c617555688f1aa0a474d307c9017ded70db83cfa3c001c715cd6daf8bc581b"), looks := false }, kinds := [], alts := [], laidByText := true, laidKinds := [.data], laidTests := true, laidLooks := .later }
def FnExactMatchSetUptoCardSaid : Prop := Claim7.holds Tryd.pinned (.plain (OpenSpec.upto fnExactMatchSetSpec)) fnExactMatchSetUptoCard

/-- THE SECOND FORM's CARD OF 'laws.FnExactProbeSet'. -/
def fnExactProbeSetUptoCard : Claim7 := { stood := { row := fnExactProbeSetUptoRow, standIns := [], harness := (true, "06c617555688f1aa0a474d307c9017ded70db83cfa3c001c715cd6daf8bc581b"), looks := false }, kinds := [], alts := [], laidByText := true, laidKinds := [.data], laidTests := true, laidLooks := .later }
def FnExactProbeSetUptoCardSaid : Prop := Claim7.holds Tryd.pinned (.plain (OpenSpec.upto fnExactProbeSetSpec)) fnExactProbeSetUptoCard

/-- THE SECOND FORM's CARD OF 'laws.FnExactWorkOf'. -/
def fnExactWorkOfUptoCard : Claim7 := { stood := { row := fnExactWorkOfUptoRow, standIns := [], harness := (true, "06c617555688f1aa0a474d307c9017ded70db83cfa3c001c715cd6daf8bc581b"), looks := false }, kinds := [], alts := [], laidByText := true, laidKinds := [.data], laidTests := true, laidLooks := .later }
def FnExactWorkOfUptoCardSaid : Prop := Claim7.holds Tryd.pinned (.plain (OpenSpec.upto fnExactWorkOfSpec)) fnExactWorkOfUptoCard

/-- THE SECOND FORM's CARD OF 'laws.FnSpans'. -/
def fnSpansUptoCard : Claim7 := { stood := { row := fnSpansUptoRow, standIns := [], harness := (true, "06c617555688f1aa0a474d307c9017ded70db83cfa3c001c715cd6daf8bc581b"), looks := false }, kinds := [], alts := [], laidByText := true, laidKinds := [.data, .data, .data], laidTests := true, laidLooks := .later }
def FnSpansUptoCardSaid : Prop := Claim7.holds Tryd.pinned (.plain (OpenSpec.upto fnSpansSpec)) fnSpansUptoCard
end Rows
end Go.Proofs.YtidhmgboknffkaaDoor
