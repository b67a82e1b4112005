/-
  The helpers of the laws on slices of spans: copying them.
-/
import Derived.Test.YteelgogfpidcdaaSpanOwn
namespace Go.Proofs.Yteelgogfpidcdaa
open Go.RowKit
set_option linter.unusedVariables false
/-- A slice of spans in new memory is answered. -/
def FreshSpans (w : World) (rs : List SpanD) (e : Ending) (w' : World) : Prop := ∃ v, e = .returned v ∧ OwnsP w' w.heap.size v rs ∧ Below w.heap.size w w'
theorem spans_copied (rs : List SpanD) (k : Nat) (h : k < rs.length) : (rs.take k ++ List.replicate (rs.length - k) p0D).set k (rs.getD k p0D) = rs.take (k + 1) ++ List.replicate (rs.length - (k + 1)) p0D := by
  have hk : (rs.take k).length = k := by rw [List.length_take]; omega
  rw [List.set_append_right _ _ (by omega), hk, Nat.sub_self, show rs.length - k = (rs.length - (k + 1)) + 1 by omega, List.replicate_succ, List.set_cons_zero, List.take_succ_eq_append_getElem h, List.append_assoc]
  simp [List.getD, h]
theorem zpL_span {rs : List SpanD} {k : Nat} (h : zpL rs ≤ 1048576) (hlt : k < rs.length) : (rs.getD k p0D).2.2.length ≤ 1048576 := by
  have h1 := zpTo_step hlt
  have h2 := zpTo_le (rs := rs) (k := k + 1) (by omega)
  omega
end Go.Proofs.Yteelgogfpidcdaa
