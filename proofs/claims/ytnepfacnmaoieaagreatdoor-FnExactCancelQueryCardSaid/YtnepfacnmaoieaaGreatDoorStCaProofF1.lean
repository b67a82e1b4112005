/-
  Closed facts of the translation, of the law FnExactCancelQuery (1).
-/
import Derived.Test.YtnepfacnmaoieaaGreatDoorTie
import Derived.Test.YtnepfacnmaoieaaGreatDoorCards
import Derived.JoinedOf
import Derived.SevenTiedAt
namespace Go.Proofs.YtnepfacnmaoieaaGreatDoor
namespace fnExactCancelQuery
theorem b0 : (Rows.fnExactCancelQueryRow.inPlace == Tryz.prog.inPlace 8) = true := by kernel_rfl
theorem b1 : (Rows.fnExactCancelQueryRow.unfollowed == Tryz.prog.unfollowed 8) = true := by kernel_rfl
theorem b2 : (Rows.fnExactCancelQueryRow.recurses == Tryz.prog.recurses 8) = true := by kernel_rfl
theorem b3 : (Rows.fnExactCancelQueryRow.named == Tryz.prog.varsNamed 8) = true := by kernel_rfl
end fnExactCancelQuery
end Go.Proofs.YtnepfacnmaoieaaGreatDoor
