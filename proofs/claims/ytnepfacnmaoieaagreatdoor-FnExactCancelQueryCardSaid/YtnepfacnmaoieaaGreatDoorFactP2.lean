/-
  Closed facts of the translation, whatever the law (2).
-/
import Derived.Test.YtnepfacnmaoieaaGreatDoorTie
import Derived.Test.YtnepfacnmaoieaaGreatDoorCards
import Derived.JoinedOf
import Derived.SevenTiedAt
namespace Go.Proofs.YtnepfacnmaoieaaGreatDoor
theorem fp_c8 : Tryz.prog.mayEnter = true := by kernel_rfl
theorem fp_c5 (c : OpenClaim) (h : c.plainKeys = Rows.fnExactPromisedStepsRow.plainKeys) : (c.plainKeys == Tryz.prog.plainKeys) = true := by rw [h]; kernel_rfl
theorem fp_d1 (c : OpenClaim) (h : c.make = Rows.fnExactPromisedStepsRow.make) : (Tryz.prog.make == some c.make) = true := by rw [h]; kernel_rfl
end Go.Proofs.YtnepfacnmaoieaaGreatDoor
