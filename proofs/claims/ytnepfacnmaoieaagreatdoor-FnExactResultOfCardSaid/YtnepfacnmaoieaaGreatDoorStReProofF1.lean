/-
  Closed facts of the translation, of the law FnExactResultOf (1).
-/
import Derived.Test.YtnepfacnmaoieaaGreatDoorTie
import Derived.Test.YtnepfacnmaoieaaGreatDoorCards
import Derived.JoinedOf
import Derived.SevenTiedAt
namespace Go.Proofs.YtnepfacnmaoieaaGreatDoor
namespace fnExactResultOf
theorem b0 : (Rows.fnExactResultOfRow.inPlace == Tryz.prog.inPlace 6) = true := by kernel_rfl
theorem b1 : (Rows.fnExactResultOfRow.unfollowed == Tryz.prog.unfollowed 6) = true := by kernel_rfl
theorem b2 : (Rows.fnExactResultOfRow.recurses == Tryz.prog.recurses 6) = true := by kernel_rfl
theorem b3 : (Rows.fnExactResultOfRow.named == Tryz.prog.varsNamed 6) = true := by kernel_rfl
end fnExactResultOf
end Go.Proofs.YtnepfacnmaoieaaGreatDoor
