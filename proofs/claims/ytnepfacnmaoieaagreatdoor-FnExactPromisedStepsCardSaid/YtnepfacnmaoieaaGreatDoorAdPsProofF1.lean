/-
  Closed facts of the translation, of the law FnExactPromisedSteps (1).
-/
import Derived.Test.YtnepfacnmaoieaaGreatDoorTie
import Derived.Test.YtnepfacnmaoieaaGreatDoorCards
import Derived.JoinedOf
import Derived.SevenTiedAt
namespace Go.Proofs.YtnepfacnmaoieaaGreatDoor
namespace fnExactPromisedSteps
theorem b0 : (Rows.fnExactPromisedStepsRow.inPlace == Tryz.prog.inPlace 3) = true := by kernel_rfl
theorem b1 : (Rows.fnExactPromisedStepsRow.unfollowed == Tryz.prog.unfollowed 3) = true := by kernel_rfl
theorem b2 : (Rows.fnExactPromisedStepsRow.recurses == Tryz.prog.recurses 3) = true := by kernel_rfl
theorem b3 : (Rows.fnExactPromisedStepsRow.named == Tryz.prog.varsNamed 3) = true := by kernel_rfl
end fnExactPromisedSteps
end Go.Proofs.YtnepfacnmaoieaaGreatDoor
