/-
  Closed facts of the translation, of the law FnExactPromisedSteps (2).
-/
import Derived.Test.YtnepfacnmaoieaaGreatDoorTie
import Derived.Test.YtnepfacnmaoieaaGreatDoorCards
import Derived.JoinedOf
import Derived.SevenTiedAt
namespace Go.Proofs.YtnepfacnmaoieaaGreatDoor
namespace fnExactPromisedSteps
theorem a1 : Rows.fnExactPromisedStepsRow.wf (OpenSpec.ofChange Rows.fnExactPromisedStepsSpec) = true := by kernel_rfl
theorem a4 : Tryz.f3.params.all (Tryz.prog.readableRec ·) = true := by kernel_rfl
theorem a5 : namedTie Tryz.prog Rows.fnExactPromisedStepsRow.named Rows.fnExactPromisedStepsSpec.vars = true := by kernel_rfl
theorem a6 : (Rows.fnExactPromisedStepsRow.stops == []) = true := by kernel_rfl
theorem a7 : (Tryz.prog.stops == []) = true := by kernel_rfl
theorem a8 : (Rows.fnExactPromisedStepsRow.knobs == []) = true := by kernel_rfl
theorem a9 : (Tryz.prog.stopKnobs == []) = true := by kernel_rfl
theorem b4 : (Rows.fnExactPromisedStepsRow.maps == (Tryz.f3.params.toList ++ Rows.fnExactPromisedStepsSpec.plain.varTypes Tryz.prog).any (Tryz.prog.mapsRec ·)) = true := by kernel_rfl
theorem b5 : (Rows.fnExactPromisedStepsRow.ifaces == (Tryz.f3.params.toList ++ Rows.fnExactPromisedStepsSpec.plain.varTypes Tryz.prog).any (Tryz.prog.ifacesRec ·)) = true := by kernel_rfl
theorem b6 : (Rows.fnExactPromisedStepsRow.mapsOut == Tryz.prog.mapsAmong Tryz.f3.resultTypes.toList) = true := by kernel_rfl
theorem b7 : (Rows.fnExactPromisedStepsRow.loops == (Tryz.f3.params.toList ++ Rows.fnExactPromisedStepsSpec.plain.varTypes Tryz.prog).any (Tryz.prog.loopsFrom ·)) = true := by kernel_rfl
theorem b8 : (Rows.fnExactPromisedStepsRow.wideKeys == (Tryz.f3.params.toList ++ Rows.fnExactPromisedStepsSpec.plain.varTypes Tryz.prog ++ Tryz.f3.resultTypes.toList).any (Tryz.prog.wideKeysFrom ·)) = true := by kernel_rfl
theorem c1 : Rows.fnExactPromisedStepsSpec.vars.all (Tryz.prog.varReadable ·) = true := by kernel_rfl
theorem c2 : Tryz.f3.resultTypes.all (fun t => Tryz.prog.readableRec t && decide (t < Tryz.prog.types.size)) = true := by kernel_rfl
theorem c3 : (Rows.fnExactPromisedStepsRow.ifacesOut == Tryz.f3.resultTypes.toList.any (Tryz.prog.ifacesRec ·)) = true := by kernel_rfl
theorem c4 : (Rows.fnExactPromisedStepsRow.loopsOut == Tryz.f3.resultTypes.toList.any (Tryz.prog.loopsFrom ·)) = true := by kernel_rfl
theorem c6 : Rows.fnExactPromisedStepsRow.shortTexts.isNone = true := by kernel_rfl
theorem d2 : (Rows.fnExactPromisedStepsRow.kinds == (if Rows.fnExactPromisedStepsRow.domain.isEmpty then [] else Tryz.f3.params.toList.map fun t => match Tryz.prog.underlying t with | some (.int k) => some k | _ => none)) = true := by kernel_rfl
theorem d3 : (Rows.fnExactPromisedStepsRow.pinned == Rows.fnExactPromisedStepsRow.pinnedBy) = true := by kernel_rfl
theorem d4 : (Rows.fnExactPromisedStepsRow.veiled == (Tryz.f3.params.toList ++ Rows.fnExactPromisedStepsSpec.plain.varTypes Tryz.prog ++ Tryz.f3.resultTypes.toList).any (Tryz.prog.veiledRec ·)) = true := by kernel_rfl
theorem d5 : Rows.fnExactPromisedStepsRow.veiledFits Tryz.prog Tryz.f3.params.toList (Tryz.f3.params.toList ++ Rows.fnExactPromisedStepsSpec.plain.varTypes Tryz.prog ++ Tryz.f3.resultTypes.toList) = true := by kernel_rfl
theorem fnamed : Tryz.prog.funcNamed "loop.example/g01986/laws.FnExactPromisedSteps" = some 3 := by kernel_rfl
theorem goesSo : false = Rows.fnExactPromisedStepsRow.goesBy Tryz.prog := by kernel_rfl
end fnExactPromisedSteps
end Go.Proofs.YtnepfacnmaoieaaGreatDoor
