/-
  Closed facts of the translation, whatever the law (3).
-/
import Derived.Test.YtogbgeekmdnhlaaGreatDoorTie
import Derived.Test.YtogbgeekmdnhlaaGreatDoorCards
import Derived.JoinedOf
import Derived.SevenTiedAt
namespace Go.Proofs.YtogbgeekmdnhlaaGreatDoor
theorem fp_c9 (c : OpenClaim) (h : c.lifted = Rows.fnExactIsAwakeRow.lifted) : (c.lifted == Tryz.prog.liftsFinal) = true := by rw [h]; kernel_rfl
end Go.Proofs.YtogbgeekmdnhlaaGreatDoor
