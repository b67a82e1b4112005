/-
  Closed facts of the translation, of the law FnExactIsAwake (2).
-/
import Derived.Test.YtogbgeekmdnhlaaGreatDoorTie
import Derived.Test.YtogbgeekmdnhlaaGreatDoorCards
import Derived.JoinedOf
import Derived.SevenTiedAt
namespace Go.Proofs.YtogbgeekmdnhlaaGreatDoor
namespace fnExactIsAwake
theorem a1 : Rows.fnExactIsAwakeRow.wf (OpenSpec.ofChange Rows.fnExactIsAwakeSpec) = true := by kernel_rfl
theorem a4 : Tryz.f3.params.all (Tryz.prog.readableRec ·) = true := by kernel_rfl
theorem a5 : namedTie Tryz.prog Rows.fnExactIsAwakeRow.named Rows.fnExactIsAwakeSpec.vars = true := by kernel_rfl
theorem a6 : (Rows.fnExactIsAwakeRow.stops == []) = true := by kernel_rfl
theorem a7 : (Tryz.prog.stops == []) = true := by kernel_rfl
theorem a8 : (Rows.fnExactIsAwakeRow.knobs == []) = true := by kernel_rfl
theorem a9 : (Tryz.prog.stopKnobs == []) = true := by kernel_rfl
theorem b4 : (Rows.fnExactIsAwakeRow.maps == (Tryz.f3.params.toList ++ Rows.fnExactIsAwakeSpec.plain.varTypes Tryz.prog).any (Tryz.prog.mapsRec ·)) = true := by kernel_rfl
theorem b5 : (Rows.fnExactIsAwakeRow.ifaces == (Tryz.f3.params.toList ++ Rows.fnExactIsAwakeSpec.plain.varTypes Tryz.prog).any (Tryz.prog.ifacesRec ·)) = true := by kernel_rfl
theorem b6 : (Rows.fnExactIsAwakeRow.mapsOut == Tryz.prog.mapsAmong Tryz.f3.resultTypes.toList) = true := by kernel_rfl
theorem b7 : (Rows.fnExactIsAwakeRow.loops == (Tryz.f3.params.toList ++ Rows.fnExactIsAwakeSpec.plain.varTypes Tryz.prog).any (Tryz.prog.loopsFrom ·)) = true := by kernel_rfl
theorem b8 : (Rows.fnExactIsAwakeRow.wideKeys == (Tryz.f3.params.toList ++ Rows.fnExactIsAwakeSpec.plain.varTypes Tryz.prog ++ Tryz.f3.resultTypes.toList).any (Tryz.prog.wideKeysFrom ·)) = true := by kernel_rfl
theorem c1 : Rows.fnExactIsAwakeSpec.vars.all (Tryz.prog.varReadable ·) = true := by kernel_rfl
theorem c2 : Tryz.f3.resultTypes.all (fun t => Tryz.prog.readableRec t && decide (t < Tryz.prog.types.size)) = true := by kernel_rfl
theorem c3 : (Rows.fnExactIsAwakeRow.ifacesOut == Tryz.f3.resultTypes.toList.any (Tryz.prog.ifacesRec ·)) = true := by kernel_rfl
theorem c4 : (Rows.fnExactIsAwakeRow.loopsOut == Tryz.f3.resultTypes.toList.any (Tryz.prog.loopsFrom ·)) = true := by kernel_rfl
theorem c6 : Rows.fnExactIsAwakeRow.shortTexts.isNone = true := by kernel_rfl
theorem d2 : (Rows.fnExactIsAwakeRow.kinds == (if Rows.fnExactIsAwakeRow.domain.isEmpty then [] else Tryz.f3.params.toList.map fun t => match Tryz.prog.underlying t with | some (.int k) => some k | _ => none)) = true := by kernel_rfl
theorem d3 : (Rows.fnExactIsAwakeRow.pinned == Rows.fnExactIsAwakeRow.pinnedBy) = true := by kernel_rfl
theorem d4 : (Rows.fnExactIsAwakeRow.veiled == (Tryz.f3.params.toList ++ Rows.fnExactIsAwakeSpec.plain.varTypes Tryz.prog ++ Tryz.f3.resultTypes.toList).any (Tryz.prog.veiledRec ·)) = true := by kernel_rfl
theorem d5 : Rows.fnExactIsAwakeRow.veiledFits Tryz.prog Tryz.f3.params.toList (Tryz.f3.params.toList ++ Rows.fnExactIsAwakeSpec.plain.varTypes Tryz.prog ++ Tryz.f3.resultTypes.toList) = true := by kernel_rfl
theorem fnamed : Tryz.prog.funcNamed "loop.example/g01986/laws.FnExactIsAwake" = some 3 := by kernel_rfl
theorem goesSo : false = Rows.fnExactIsAwakeRow.goesBy Tryz.prog := by kernel_rfl
end fnExactIsAwake
end Go.Proofs.YtogbgeekmdnhlaaGreatDoor
