/-
  Closed facts of the translation, whatever the law (1).
-/
import Derived.Test.YtnepfacnmaoieaaGreatDoorTie
import Derived.Test.YtnepfacnmaoieaaGreatDoorCards
import Derived.JoinedOf
import Derived.SevenTiedAt
namespace Go.Proofs.YtnepfacnmaoieaaGreatDoor
theorem fp_a2 : laidOutB Tryz.prog = true := by kernel_rfl
theorem fp_a3 : mapsRowed Tryz.prog = true := by kernel_rfl
theorem fp_c7 : Tryz.prog.stopsHeard = true := by kernel_rfl
theorem fp_looks : true = Tryz.prog.looks [] := by kernel_rfl
end Go.Proofs.YtnepfacnmaoieaaGreatDoor
