/-
  Closed facts of the translation, of the law FnExactIsAwake (1).
-/
import Derived.Test.YtogbgeekmdnhlaaGreatDoorTie
import Derived.Test.YtogbgeekmdnhlaaGreatDoorCards
import Derived.JoinedOf
import Derived.SevenTiedAt
namespace Go.Proofs.YtogbgeekmdnhlaaGreatDoor
namespace fnExactIsAwake
theorem b0 : (Rows.fnExactIsAwakeRow.inPlace == Tryz.prog.inPlace 3) = true := by kernel_rfl
theorem b1 : (Rows.fnExactIsAwakeRow.unfollowed == Tryz.prog.unfollowed 3) = true := by kernel_rfl
theorem b2 : (Rows.fnExactIsAwakeRow.recurses == Tryz.prog.recurses 3) = true := by kernel_rfl
theorem b3 : (Rows.fnExactIsAwakeRow.named == Tryz.prog.varsNamed 3) = true := by kernel_rfl
end fnExactIsAwake
end Go.Proofs.YtogbgeekmdnhlaaGreatDoor
