/-
  Slices of rows: one that reads as rows; the helpers of the laws that measure, copy and compare them.
-/
import Derived.Test.YteelgogfpidcdabDoorRowSpec
namespace Go.Proofs.YteelgogfpidcdabDoor
open Go.RowKit
set_option linter.unusedVariables false
/-- The slice v reads as the rows rs; vs: where their values lie. -/
def RowsR (w : World) (v : Value) (rs : List RowD) : Prop :=
  (rs = [] ∧ ∃ a cap, v = .slice a 0 cap) ∨ ∃ (b off cap : Nat) (vs : Nat → Value), v = .slice (some ⟨b, off, none⟩) rs.length cap ∧ rs.length ≤ cap ∧ b < w.heap.size ∧
    ∀ j, j < rs.length → w.cell? ⟨b, off + j * 2, none⟩ = some (.int .i64 (rs.getD j (0, [])).1) ∧ w.cell? ⟨b, off + j * 2 + 1, none⟩ = some (vs j) ∧ Ints w (vs j) (rs.getD j (0, [])).2
theorem rowsR_len {w : World} {v : Value} {rs : List RowD} (h : RowsR w v rs) : ∃ a cap, v = .slice a rs.length cap := by
  rcases h with ⟨rfl, a, cap, rfl⟩ | ⟨b, off, cap, vs, rfl, _⟩
  · exact ⟨a, cap, rfl⟩
  · exact ⟨_, cap, rfl⟩
theorem rowsR_below {W w : World} {v : Value} {rs : List RowD} (h : RowsR W v rs) (hb : Below W.heap.size W w) : RowsR w v rs := by
  rcases h with h | ⟨b, off, cap, vs, h1, h2, h3, h4⟩
  · exact Or.inl h
  · refine Or.inr ⟨b, off, cap, vs, h1, h2, Nat.lt_of_lt_of_le h3 hb.size, fun j hj => ?_⟩
    obtain ⟨g1, g2, g3⟩ := h4 j hj
    exact ⟨(hb.cell (p := ⟨b, off + j * 2, none⟩) h3).trans g1, (hb.cell (p := ⟨b, off + j * 2 + 1, none⟩) h3).trans g2, ints_below g3 hb⟩
theorem rowsR_at {w : World} {v : Value} {rs : List RowD} (h : RowsR w v rs) {k : Nat} (hk : k < rs.length) : ∃ (b off cap : Nat) (vv : Value), v = .slice (some ⟨b, off, none⟩) rs.length cap ∧ b < w.heap.size ∧
    w.cell? ⟨b, off + k * 2, none⟩ = some (.int .i64 (rs.getD k (0, [])).1) ∧ w.cell? ⟨b, off + k * 2 + 1, none⟩ = some vv ∧ Ints w vv (rs.getD k (0, [])).2 := by
  rcases h with ⟨rfl, _⟩ | ⟨b, off, cap, vs, h1, h2, h3, h4⟩
  · simp at hk
  · obtain ⟨g1, g2, g3⟩ := h4 k hk
    exact ⟨b, off, cap, vs k, h1, h3, g1, g2, g3⟩
/-- How many values and elements the first k rows hold. -/
def szTo (rs : List RowD) (k : Nat) : Nat := rs.length + ((rs.take k).map fun r => r.2.length).sum
def szL (rs : List RowD) : Nat := szTo rs rs.length
theorem szTo_zero (rs : List RowD) : szTo rs 0 = rs.length := by simp [szTo]
theorem szTo_step {rs : List RowD} {k : Nat} (hk : k < rs.length) : szTo rs (k + 1) = szTo rs k + (rs.getD k (0, [])).2.length := by
  unfold szTo
  have e : rs.getD k (0, []) = rs[k] := by simp [List.getD, hk]
  rw [e, List.take_succ_eq_append_getElem hk, List.map_append, List.sum_append]
  simp; omega
theorem szTo_le {rs : List RowD} {k : Nat} (hk : k ≤ rs.length) : szTo rs k ≤ szL rs := by
  unfold szL szTo
  obtain ⟨d, hd⟩ : ∃ d, rs.length = k + d := ⟨rs.length - k, by omega⟩
  have : rs = rs.take k ++ rs.drop k := (List.take_append_drop k rs).symm
  have h2 : (rs.map fun r => r.2.length).sum = ((rs.take k).map fun r => r.2.length).sum + ((rs.drop k).map fun r => r.2.length).sum := by
    rw [← List.sum_append, ← List.map_append, List.take_append_drop]
  rw [List.take_length, h2]
  omega
end Go.Proofs.YteelgogfpidcdabDoor
