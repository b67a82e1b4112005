/-
 Texts of the proof, merged: SetLaws1.
-/
import Derived.Test.YtnepfacnmaoieaaGreatDoorPK2
namespace Go.Proofs.YtnepfacnmaoieaaGreatDoor
open Go.RowKit
set_option linter.unusedVariables false
set_option linter.unusedSimpArgs false

end Go.Proofs.YtnepfacnmaoieaaGreatDoor
