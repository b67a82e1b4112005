/-
  Closed facts of the translation, whatever the law (3).
-/
import Derived.Test.YtnepfacnmaoieaaGreatDoorTie
import Derived.Test.YtnepfacnmaoieaaGreatDoorCards
import Derived.JoinedOf
import Derived.SevenTiedAt
namespace Go.Proofs.YtnepfacnmaoieaaGreatDoor
theorem fp_c9 (c : OpenClaim) (h : c.lifted = Rows.fnExactPromisedStepsRow.lifted) : (c.lifted == Tryz.prog.liftsFinal) = true := by rw [h]; kernel_rfl
end Go.Proofs.YtnepfacnmaoieaaGreatDoor
