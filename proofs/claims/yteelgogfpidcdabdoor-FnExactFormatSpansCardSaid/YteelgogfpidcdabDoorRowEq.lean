/-
  The walks that compare lists of numbers, rows, and slices of rows.
-/
import Derived.Test.YteelgogfpidcdabDoorRowLaws
import Derived.BigQuiet
import Derived.Deep.QuietTactic
namespace Go.Proofs.YteelgogfpidcdabDoor
open Go.RowKit
set_option linter.unusedVariables false
theorem below_dn {B : Nat} {a w : World} (h : Below B a w) (q : Nat) : Below B a (w.drewN q) := ⟨h.os, h.tape, h.output, h.size, h.block⟩
theorem list_ne_at {xs ys : List Int} {k : Nat} (hx : k < xs.length) (h : ¬ xs.getD k 0 = ys.getD k 0) : ¬ xs = ys := fun e => h (by rw [e])
theorem list_eq_all {xs ys : List Int} (hl : xs.length = ys.length) (h : ∀ j, j < xs.length → xs.getD j 0 = ys.getD j 0) : xs = ys := by
  apply List.ext_getElem hl
  intro i h1 h2
  have := h i h1
  simpa [List.getD, h1, h2] using this
theorem szL_row {rs : List RowD} (hs : szL rs ≤ 1048576) {k : Nat} (hk : k < rs.length) : (rs.getD k (0, [])).2.length ≤ 1048576 := by
  have h1 := szTo_step hk
  have h2 := szTo_le (rs := rs) (k := k + 1) (by omega)
  omega
theorem szL_len {rs : List RowD} (hs : szL rs ≤ 1048576) : rs.length ≤ 1048576 := by
  have := szTo_le (rs := rs) (Nat.zero_le _); rw [szTo_zero] at this; omega
theorem rows_ne_at {rs ss : List RowD} {k : Nat} (h : ¬ rs.getD k (0, []) = ss.getD k (0, [])) : ¬ rs = ss := fun e => h (by rw [e])
theorem rows_eq_all {rs ss : List RowD} (hl : rs.length = ss.length) (h : ∀ j, j < rs.length → rs.getD j (0, []) = ss.getD j (0, [])) : rs = ss := by
  apply List.ext_getElem hl
  intro i h1 h2
  have := h i h1
  simpa [List.getD, h1, h2] using this
end Go.Proofs.YteelgogfpidcdabDoor
