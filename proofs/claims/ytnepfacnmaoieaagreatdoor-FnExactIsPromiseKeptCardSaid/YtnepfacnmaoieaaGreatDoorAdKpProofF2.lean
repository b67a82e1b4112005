/-
  Closed facts of the translation, of the law FnExactIsPromiseKept (2).
-/
import Derived.Test.YtnepfacnmaoieaaGreatDoorTie
import Derived.Test.YtnepfacnmaoieaaGreatDoorCards
import Derived.JoinedOf
import Derived.SevenTiedAt
namespace Go.Proofs.YtnepfacnmaoieaaGreatDoor
namespace fnExactIsPromiseKept
theorem a1 : Rows.fnExactIsPromiseKeptRow.wf (OpenSpec.ofChange Rows.fnExactIsPromiseKeptSpec) = true := by kernel_rfl
theorem a4 : Tryz.f4.params.all (Tryz.prog.readableRec ·) = true := by kernel_rfl
theorem a5 : namedTie Tryz.prog Rows.fnExactIsPromiseKeptRow.named Rows.fnExactIsPromiseKeptSpec.vars = true := by kernel_rfl
theorem a6 : (Rows.fnExactIsPromiseKeptRow.stops == []) = true := by kernel_rfl
theorem a7 : (Tryz.prog.stops == []) = true := by kernel_rfl
theorem a8 : (Rows.fnExactIsPromiseKeptRow.knobs == []) = true := by kernel_rfl
theorem a9 : (Tryz.prog.stopKnobs == []) = true := by kernel_rfl
theorem b4 : (Rows.fnExactIsPromiseKeptRow.maps == (Tryz.f4.params.toList ++ Rows.fnExactIsPromiseKeptSpec.plain.varTypes Tryz.prog).any (Tryz.prog.mapsRec ·)) = true := by kernel_rfl
theorem b5 : (Rows.fnExactIsPromiseKeptRow.ifaces == (Tryz.f4.params.toList ++ Rows.fnExactIsPromiseKeptSpec.plain.varTypes Tryz.prog).any (Tryz.prog.ifacesRec ·)) = true := by kernel_rfl
theorem b6 : (Rows.fnExactIsPromiseKeptRow.mapsOut == Tryz.prog.mapsAmong Tryz.f4.resultTypes.toList) = true := by kernel_rfl
theorem b7 : (Rows.fnExactIsPromiseKeptRow.loops == (Tryz.f4.params.toList ++ Rows.fnExactIsPromiseKeptSpec.plain.varTypes Tryz.prog).any (Tryz.prog.loopsFrom ·)) = true := by kernel_rfl
theorem b8 : (Rows.fnExactIsPromiseKeptRow.wideKeys == (Tryz.f4.params.toList ++ Rows.fnExactIsPromiseKeptSpec.plain.varTypes Tryz.prog ++ Tryz.f4.resultTypes.toList).any (Tryz.prog.wideKeysFrom ·)) = true := by kernel_rfl
theorem c1 : Rows.fnExactIsPromiseKeptSpec.vars.all (Tryz.prog.varReadable ·) = true := by kernel_rfl
theorem c2 : Tryz.f4.resultTypes.all (fun t => Tryz.prog.readableRec t && decide (t < Tryz.prog.types.size)) = true := by kernel_rfl
theorem c3 : (Rows.fnExactIsPromiseKeptRow.ifacesOut == Tryz.f4.resultTypes.toList.any (Tryz.prog.ifacesRec ·)) = true := by kernel_rfl
theorem c4 : (Rows.fnExactIsPromiseKeptRow.loopsOut == Tryz.f4.resultTypes.toList.any (Tryz.prog.loopsFrom ·)) = true := by kernel_rfl
theorem c6 : Rows.fnExactIsPromiseKeptRow.shortTexts.isNone = true := by kernel_rfl
theorem d2 : (Rows.fnExactIsPromiseKeptRow.kinds == (if Rows.fnExactIsPromiseKeptRow.domain.isEmpty then [] else Tryz.f4.params.toList.map fun t => match Tryz.prog.underlying t with | some (.int k) => some k | _ => none)) = true := by kernel_rfl
theorem d3 : (Rows.fnExactIsPromiseKeptRow.pinned == Rows.fnExactIsPromiseKeptRow.pinnedBy) = true := by kernel_rfl
theorem d4 : (Rows.fnExactIsPromiseKeptRow.veiled == (Tryz.f4.params.toList ++ Rows.fnExactIsPromiseKeptSpec.plain.varTypes Tryz.prog ++ Tryz.f4.resultTypes.toList).any (Tryz.prog.veiledRec ·)) = true := by kernel_rfl
theorem d5 : Rows.fnExactIsPromiseKeptRow.veiledFits Tryz.prog Tryz.f4.params.toList (Tryz.f4.params.toList ++ Rows.fnExactIsPromiseKeptSpec.plain.varTypes Tryz.prog ++ Tryz.f4.resultTypes.toList) = true := by kernel_rfl
theorem fnamed : Tryz.prog.funcNamed "loop.example/g01986/laws.FnExactIsPromiseKept" = some 4 := by kernel_rfl
theorem goesSo : false = Rows.fnExactIsPromiseKeptRow.goesBy Tryz.prog := by kernel_rfl
end fnExactIsPromiseKept
end Go.Proofs.YtnepfacnmaoieaaGreatDoor
