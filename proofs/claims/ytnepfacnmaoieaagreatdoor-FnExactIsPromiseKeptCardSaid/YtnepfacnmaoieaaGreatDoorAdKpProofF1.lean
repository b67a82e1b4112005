/-
  Closed facts of the translation, of the law FnExactIsPromiseKept (1).
-/
import Derived.Test.YtnepfacnmaoieaaGreatDoorTie
import Derived.Test.YtnepfacnmaoieaaGreatDoorCards
import Derived.JoinedOf
import Derived.SevenTiedAt
namespace Go.Proofs.YtnepfacnmaoieaaGreatDoor
namespace fnExactIsPromiseKept
theorem b0 : (Rows.fnExactIsPromiseKeptRow.inPlace == Tryz.prog.inPlace 4) = true := by kernel_rfl
theorem b1 : (Rows.fnExactIsPromiseKeptRow.unfollowed == Tryz.prog.unfollowed 4) = true := by kernel_rfl
theorem b2 : (Rows.fnExactIsPromiseKeptRow.recurses == Tryz.prog.recurses 4) = true := by kernel_rfl
theorem b3 : (Rows.fnExactIsPromiseKeptRow.named == Tryz.prog.varsNamed 4) = true := by kernel_rfl
end fnExactIsPromiseKept
end Go.Proofs.YtnepfacnmaoieaaGreatDoor
