/-
  The helpers of the laws on slices of rows: copying and comparing them.
-/
import Derived.Test.YteelgogfpidcdabDoorRowOwn
import Derived.Test.YteelgogfpidcdabDoorRowLaw1
namespace Go.Proofs.YteelgogfpidcdabDoor
open Go.RowKit
set_option linter.unusedVariables false
theorem rows_copied (rs : List RowD) (k : Nat) (h : k < rs.length) : (rs.take k ++ List.replicate (rs.length - k) (0, [])).set k (rs.getD k (0, [])) = rs.take (k + 1) ++ List.replicate (rs.length - (k + 1)) (0, []) := by
  have hk : (rs.take k).length = k := by rw [List.length_take]; omega
  rw [List.set_append_right _ _ (by omega), hk, Nat.sub_self, show rs.length - k = (rs.length - (k + 1)) + 1 by omega, List.replicate_succ, List.set_cons_zero, List.take_succ_eq_append_getElem h, List.append_assoc]
  simp [List.getD, h]
end Go.Proofs.YteelgogfpidcdabDoor
