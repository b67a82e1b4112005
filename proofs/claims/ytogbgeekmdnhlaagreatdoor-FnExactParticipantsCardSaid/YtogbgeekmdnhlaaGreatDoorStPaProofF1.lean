/-
  Closed facts of the translation, of the law FnExactParticipants (1).
-/
import Derived.Test.YtogbgeekmdnhlaaGreatDoorTie
import Derived.Test.YtogbgeekmdnhlaaGreatDoorCards
import Derived.JoinedOf
import Derived.SevenTiedAt
namespace Go.Proofs.YtogbgeekmdnhlaaGreatDoor
namespace fnExactParticipants
theorem b0 : (Rows.fnExactParticipantsRow.inPlace == Tryz.prog.inPlace 4) = true := by kernel_rfl
theorem b1 : (Rows.fnExactParticipantsRow.unfollowed == Tryz.prog.unfollowed 4) = true := by kernel_rfl
theorem b2 : (Rows.fnExactParticipantsRow.recurses == Tryz.prog.recurses 4) = true := by kernel_rfl
theorem b3 : (Rows.fnExactParticipantsRow.named == Tryz.prog.varsNamed 4) = true := by kernel_rfl
end fnExactParticipants
end Go.Proofs.YtogbgeekmdnhlaaGreatDoor
