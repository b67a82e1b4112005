/-
  Closed facts of the translation, of the law FnExactCancelQuery (2).
-/
import Derived.Test.YtnepfacnmaoieaaGreatDoorTie
import Derived.Test.YtnepfacnmaoieaaGreatDoorCards
import Derived.JoinedOf
import Derived.SevenTiedAt
namespace Go.Proofs.YtnepfacnmaoieaaGreatDoor
namespace fnExactCancelQuery
theorem a1 : Rows.fnExactCancelQueryRow.wf (OpenSpec.ofChange Rows.fnExactCancelQuerySpec) = true := by kernel_rfl
theorem a4 : Tryz.f8.params.all (Tryz.prog.readableRec ·) = true := by kernel_rfl
theorem a5 : namedTie Tryz.prog Rows.fnExactCancelQueryRow.named Rows.fnExactCancelQuerySpec.vars = true := by kernel_rfl
theorem a6 : (Rows.fnExactCancelQueryRow.stops == []) = true := by kernel_rfl
theorem a7 : (Tryz.prog.stops == []) = true := by kernel_rfl
theorem a8 : (Rows.fnExactCancelQueryRow.knobs == []) = true := by kernel_rfl
theorem a9 : (Tryz.prog.stopKnobs == []) = true := by kernel_rfl
theorem b4 : (Rows.fnExactCancelQueryRow.maps == (Tryz.f8.params.toList ++ Rows.fnExactCancelQuerySpec.plain.varTypes Tryz.prog).any (Tryz.prog.mapsRec ·)) = true := by kernel_rfl
theorem b5 : (Rows.fnExactCancelQueryRow.ifaces == (Tryz.f8.params.toList ++ Rows.fnExactCancelQuerySpec.plain.varTypes Tryz.prog).any (Tryz.prog.ifacesRec ·)) = true := by kernel_rfl
theorem b6 : (Rows.fnExactCancelQueryRow.mapsOut == Tryz.prog.mapsAmong Tryz.f8.resultTypes.toList) = true := by kernel_rfl
theorem b7 : (Rows.fnExactCancelQueryRow.loops == (Tryz.f8.params.toList ++ Rows.fnExactCancelQuerySpec.plain.varTypes Tryz.prog).any (Tryz.prog.loopsFrom ·)) = true := by kernel_rfl
theorem b8 : (Rows.fnExactCancelQueryRow.wideKeys == (Tryz.f8.params.toList ++ Rows.fnExactCancelQuerySpec.plain.varTypes Tryz.prog ++ Tryz.f8.resultTypes.toList).any (Tryz.prog.wideKeysFrom ·)) = true := by kernel_rfl
theorem c1 : Rows.fnExactCancelQuerySpec.vars.all (Tryz.prog.varReadable ·) = true := by kernel_rfl
theorem c2 : Tryz.f8.resultTypes.all (fun t => Tryz.prog.readableRec t && decide (t < Tryz.prog.types.size)) = true := by kernel_rfl
theorem c3 : (Rows.fnExactCancelQueryRow.ifacesOut == Tryz.f8.resultTypes.toList.any (Tryz.prog.ifacesRec ·)) = true := by kernel_rfl
theorem c4 : (Rows.fnExactCancelQueryRow.loopsOut == Tryz.f8.resultTypes.toList.any (Tryz.prog.loopsFrom ·)) = true := by kernel_rfl
theorem c6 : Rows.fnExactCancelQueryRow.shortTexts.isNone = true := by kernel_rfl
theorem d2 : (Rows.fnExactCancelQueryRow.kinds == (if Rows.fnExactCancelQueryRow.domain.isEmpty then [] else Tryz.f8.params.toList.map fun t => match Tryz.prog.underlying t with | some (.int k) => some k | _ => none)) = true := by kernel_rfl
theorem d3 : (Rows.fnExactCancelQueryRow.pinned == Rows.fnExactCancelQueryRow.pinnedBy) = true := by kernel_rfl
theorem d4 : (Rows.fnExactCancelQueryRow.veiled == (Tryz.f8.params.toList ++ Rows.fnExactCancelQuerySpec.plain.varTypes Tryz.prog ++ Tryz.f8.resultTypes.toList).any (Tryz.prog.veiledRec ·)) = true := by kernel_rfl
theorem d5 : Rows.fnExactCancelQueryRow.veiledFits Tryz.prog Tryz.f8.params.toList (Tryz.f8.params.toList ++ Rows.fnExactCancelQuerySpec.plain.varTypes Tryz.prog ++ Tryz.f8.resultTypes.toList) = true := by kernel_rfl
theorem fnamed : Tryz.prog.funcNamed "loop.example/g01986/laws.FnExactCancelQuery" = some 8 := by kernel_rfl
theorem goesSo : false = Rows.fnExactCancelQueryRow.goesBy Tryz.prog := by kernel_rfl
end fnExactCancelQuery
end Go.Proofs.YtnepfacnmaoieaaGreatDoor
