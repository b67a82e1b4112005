/-
 Texts of the proof, merged: PkA.
-/
import Derived.Test.YtnepfacnmaoieaaGreatDoorPK4
import Derived.Test.YtnepfacnmaoieaaGreatDoorPK12
namespace Go.Proofs.YtnepfacnmaoieaaGreatDoor
open Go.RowKit
set_option linter.unusedVariables false
set_option linter.unusedSimpArgs false
theorem St.none {α : Type} {T : Ty α} (L : T.Law) {w0 w : World} {l : List Item} (h : St w0 l w) (e : TypeId) : St w0 (iS e L (fun _ => False) (.slice none 0 0) [] :: l) w :=
 h.cons (Below.refl _ _) (iS e L (fun _ => False) _ []) (slO_nil _ _ _ _) (fun b hb => False.elim hb)
theorem St.alloc {w0 w : World} {l : List Item} (h : St w0 l w) (o : Obj) : St w0 l (w.alloc o) := h.below ((Below.refl _ _).alloc (Nat.le_refl _) _)
end Go.Proofs.YtnepfacnmaoieaaGreatDoor
