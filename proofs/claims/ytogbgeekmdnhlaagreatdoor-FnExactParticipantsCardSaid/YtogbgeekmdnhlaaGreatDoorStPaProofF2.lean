/-
  Closed facts of the translation, of the law FnExactParticipants (2).
-/
import Derived.Test.YtogbgeekmdnhlaaGreatDoorTie
import Derived.Test.YtogbgeekmdnhlaaGreatDoorCards
import Derived.JoinedOf
import Derived.SevenTiedAt
namespace Go.Proofs.YtogbgeekmdnhlaaGreatDoor
namespace fnExactParticipants
theorem a1 : Rows.fnExactParticipantsRow.wf (OpenSpec.ofChange Rows.fnExactParticipantsSpec) = true := by kernel_rfl
theorem a4 : Tryz.f4.params.all (Tryz.prog.readableRec ·) = true := by kernel_rfl
theorem a5 : namedTie Tryz.prog Rows.fnExactParticipantsRow.named Rows.fnExactParticipantsSpec.vars = true := by kernel_rfl
theorem a6 : (Rows.fnExactParticipantsRow.stops == []) = true := by kernel_rfl
theorem a7 : (Tryz.prog.stops == []) = true := by kernel_rfl
theorem a8 : (Rows.fnExactParticipantsRow.knobs == []) = true := by kernel_rfl
theorem a9 : (Tryz.prog.stopKnobs == []) = true := by kernel_rfl
theorem b4 : (Rows.fnExactParticipantsRow.maps == (Tryz.f4.params.toList ++ Rows.fnExactParticipantsSpec.plain.varTypes Tryz.prog).any (Tryz.prog.mapsRec ·)) = true := by kernel_rfl
theorem b5 : (Rows.fnExactParticipantsRow.ifaces == (Tryz.f4.params.toList ++ Rows.fnExactParticipantsSpec.plain.varTypes Tryz.prog).any (Tryz.prog.ifacesRec ·)) = true := by kernel_rfl
theorem b6 : (Rows.fnExactParticipantsRow.mapsOut == Tryz.prog.mapsAmong Tryz.f4.resultTypes.toList) = true := by kernel_rfl
theorem b7 : (Rows.fnExactParticipantsRow.loops == (Tryz.f4.params.toList ++ Rows.fnExactParticipantsSpec.plain.varTypes Tryz.prog).any (Tryz.prog.loopsFrom ·)) = true := by kernel_rfl
theorem b8 : (Rows.fnExactParticipantsRow.wideKeys == (Tryz.f4.params.toList ++ Rows.fnExactParticipantsSpec.plain.varTypes Tryz.prog ++ Tryz.f4.resultTypes.toList).any (Tryz.prog.wideKeysFrom ·)) = true := by kernel_rfl
theorem c1 : Rows.fnExactParticipantsSpec.vars.all (Tryz.prog.varReadable ·) = true := by kernel_rfl
theorem c2 : Tryz.f4.resultTypes.all (fun t => Tryz.prog.readableRec t && decide (t < Tryz.prog.types.size)) = true := by kernel_rfl
theorem c3 : (Rows.fnExactParticipantsRow.ifacesOut == Tryz.f4.resultTypes.toList.any (Tryz.prog.ifacesRec ·)) = true := by kernel_rfl
theorem c4 : (Rows.fnExactParticipantsRow.loopsOut == Tryz.f4.resultTypes.toList.any (Tryz.prog.loopsFrom ·)) = true := by kernel_rfl
theorem c6 : Rows.fnExactParticipantsRow.shortTexts.isNone = true := by kernel_rfl
theorem d2 : (Rows.fnExactParticipantsRow.kinds == (if Rows.fnExactParticipantsRow.domain.isEmpty then [] else Tryz.f4.params.toList.map fun t => match Tryz.prog.underlying t with | some (.int k) => some k | _ => none)) = true := by kernel_rfl
theorem d3 : (Rows.fnExactParticipantsRow.pinned == Rows.fnExactParticipantsRow.pinnedBy) = true := by kernel_rfl
theorem d4 : (Rows.fnExactParticipantsRow.veiled == (Tryz.f4.params.toList ++ Rows.fnExactParticipantsSpec.plain.varTypes Tryz.prog ++ Tryz.f4.resultTypes.toList).any (Tryz.prog.veiledRec ·)) = true := by kernel_rfl
theorem d5 : Rows.fnExactParticipantsRow.veiledFits Tryz.prog Tryz.f4.params.toList (Tryz.f4.params.toList ++ Rows.fnExactParticipantsSpec.plain.varTypes Tryz.prog ++ Tryz.f4.resultTypes.toList) = true := by kernel_rfl
theorem fnamed : Tryz.prog.funcNamed "loop.example/g01986/laws.FnExactParticipants" = some 4 := by kernel_rfl
theorem goesSo : false = Rows.fnExactParticipantsRow.goesBy Tryz.prog := by kernel_rfl
end fnExactParticipants
end Go.Proofs.YtogbgeekmdnhlaaGreatDoor
