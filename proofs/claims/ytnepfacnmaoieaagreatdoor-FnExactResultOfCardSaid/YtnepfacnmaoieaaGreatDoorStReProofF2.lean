/-
  Closed facts of the translation, of the law FnExactResultOf (2).
-/
import Derived.Test.YtnepfacnmaoieaaGreatDoorTie
import Derived.Test.YtnepfacnmaoieaaGreatDoorCards
import Derived.JoinedOf
import Derived.SevenTiedAt
namespace Go.Proofs.YtnepfacnmaoieaaGreatDoor
namespace fnExactResultOf
theorem a1 : Rows.fnExactResultOfRow.wf (OpenSpec.ofChange Rows.fnExactResultOfSpec) = true := by kernel_rfl
theorem a4 : Tryz.f6.params.all (Tryz.prog.readableRec ·) = true := by kernel_rfl
theorem a5 : namedTie Tryz.prog Rows.fnExactResultOfRow.named Rows.fnExactResultOfSpec.vars = true := by kernel_rfl
theorem a6 : (Rows.fnExactResultOfRow.stops == []) = true := by kernel_rfl
theorem a7 : (Tryz.prog.stops == []) = true := by kernel_rfl
theorem a8 : (Rows.fnExactResultOfRow.knobs == []) = true := by kernel_rfl
theorem a9 : (Tryz.prog.stopKnobs == []) = true := by kernel_rfl
theorem b4 : (Rows.fnExactResultOfRow.maps == (Tryz.f6.params.toList ++ Rows.fnExactResultOfSpec.plain.varTypes Tryz.prog).any (Tryz.prog.mapsRec ·)) = true := by kernel_rfl
theorem b5 : (Rows.fnExactResultOfRow.ifaces == (Tryz.f6.params.toList ++ Rows.fnExactResultOfSpec.plain.varTypes Tryz.prog).any (Tryz.prog.ifacesRec ·)) = true := by kernel_rfl
theorem b6 : (Rows.fnExactResultOfRow.mapsOut == Tryz.prog.mapsAmong Tryz.f6.resultTypes.toList) = true := by kernel_rfl
theorem b7 : (Rows.fnExactResultOfRow.loops == (Tryz.f6.params.toList ++ Rows.fnExactResultOfSpec.plain.varTypes Tryz.prog).any (Tryz.prog.loopsFrom ·)) = true := by kernel_rfl
theorem b8 : (Rows.fnExactResultOfRow.wideKeys == (Tryz.f6.params.toList ++ Rows.fnExactResultOfSpec.plain.varTypes Tryz.prog ++ Tryz.f6.resultTypes.toList).any (Tryz.prog.wideKeysFrom ·)) = true := by kernel_rfl
theorem c1 : Rows.fnExactResultOfSpec.vars.all (Tryz.prog.varReadable ·) = true := by kernel_rfl
theorem c2 : Tryz.f6.resultTypes.all (fun t => Tryz.prog.readableRec t && decide (t < Tryz.prog.types.size)) = true := by kernel_rfl
theorem c3 : (Rows.fnExactResultOfRow.ifacesOut == Tryz.f6.resultTypes.toList.any (Tryz.prog.ifacesRec ·)) = true := by kernel_rfl
theorem c4 : (Rows.fnExactResultOfRow.loopsOut == Tryz.f6.resultTypes.toList.any (Tryz.prog.loopsFrom ·)) = true := by kernel_rfl
theorem c6 : Rows.fnExactResultOfRow.shortTexts.isNone = true := by kernel_rfl
theorem d2 : (Rows.fnExactResultOfRow.kinds == (if Rows.fnExactResultOfRow.domain.isEmpty then [] else Tryz.f6.params.toList.map fun t => match Tryz.prog.underlying t with | some (.int k) => some k | _ => none)) = true := by kernel_rfl
theorem d3 : (Rows.fnExactResultOfRow.pinned == Rows.fnExactResultOfRow.pinnedBy) = true := by kernel_rfl
theorem d4 : (Rows.fnExactResultOfRow.veiled == (Tryz.f6.params.toList ++ Rows.fnExactResultOfSpec.plain.varTypes Tryz.prog ++ Tryz.f6.resultTypes.toList).any (Tryz.prog.veiledRec ·)) = true := by kernel_rfl
theorem d5 : Rows.fnExactResultOfRow.veiledFits Tryz.prog Tryz.f6.params.toList (Tryz.f6.params.toList ++ Rows.fnExactResultOfSpec.plain.varTypes Tryz.prog ++ Tryz.f6.resultTypes.toList) = true := by kernel_rfl
theorem fnamed : Tryz.prog.funcNamed "loop.example/g01986/laws.FnExactResultOf" = some 6 := by kernel_rfl
theorem goesSo : false = Rows.fnExactResultOfRow.goesBy Tryz.prog := by kernel_rfl
end fnExactResultOf
end Go.Proofs.YtnepfacnmaoieaaGreatDoor
