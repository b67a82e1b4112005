/-
  Slices of spans: one that reads as spans; the helpers of the laws that measure, copy and compare them.
-/
import Derived.Test.YtginjmnohnidiaaSpanVal
namespace Go.Proofs.Ytginjmnohnidiaa
open Go.RowKit
set_option linter.unusedVariables false
/-- The slice v reads as the rows rs; vs: where their values lie. -/
def SpansR (w : World) (v : Value) (rs : List SpanD) : Prop :=
  (rs = [] ∧ ∃ a cap, v = .slice a 0 cap) ∨ ∃ (b off cap : Nat) (vs : Nat → Value), v = .slice (some ⟨b, off, none⟩) rs.length cap ∧ rs.length ≤ cap ∧ b < w.heap.size ∧
    ∀ j, j < rs.length → w.cell? ⟨b, off + j * 3, none⟩ = some (.int .i64 (rs.getD j p0D).1) ∧ w.cell? ⟨b, off + j * 3 + 1, none⟩ = some (.int .i64 (rs.getD j p0D).2.1) ∧ w.cell? ⟨b, off + j * 3 + 2, none⟩ = some (vs j) ∧ Ints w (vs j) (rs.getD j p0D).2.2
theorem spansR_len {w : World} {v : Value} {rs : List SpanD} (h : SpansR w v rs) : ∃ a cap, v = .slice a rs.length cap := by
  rcases h with ⟨rfl, a, cap, rfl⟩ | ⟨b, off, cap, vs, rfl, _⟩
  · exact ⟨a, cap, rfl⟩
  · exact ⟨_, cap, rfl⟩
theorem spansR_below {W w : World} {v : Value} {rs : List SpanD} (h : SpansR W v rs) (hb : Below W.heap.size W w) : SpansR w v rs := by
  rcases h with h | ⟨b, off, cap, vs, h1, h2, h3, h4⟩
  · exact Or.inl h
  · refine Or.inr ⟨b, off, cap, vs, h1, h2, Nat.lt_of_lt_of_le h3 hb.size, fun j hj => ?_⟩
    obtain ⟨g1, g2, g3, g4⟩ := h4 j hj
    exact ⟨(hb.cell (p := ⟨b, off + j * 3, none⟩) h3).trans g1, (hb.cell (p := ⟨b, off + j * 3 + 1, none⟩) h3).trans g2, (hb.cell (p := ⟨b, off + j * 3 + 2, none⟩) h3).trans g3, ints_below g4 hb⟩
theorem spansR_at {w : World} {v : Value} {rs : List SpanD} (h : SpansR w v rs) {k : Nat} (hk : k < rs.length) : ∃ (b off cap : Nat) (vv : Value), v = .slice (some ⟨b, off, none⟩) rs.length cap ∧ b < w.heap.size ∧
    w.cell? ⟨b, off + k * 3, none⟩ = some (.int .i64 (rs.getD k p0D).1) ∧ w.cell? ⟨b, off + k * 3 + 1, none⟩ = some (.int .i64 (rs.getD k p0D).2.1) ∧ w.cell? ⟨b, off + k * 3 + 2, none⟩ = some vv ∧ Ints w vv (rs.getD k p0D).2.2 := by
  rcases h with ⟨rfl, _⟩ | ⟨b, off, cap, vs, h1, h2, h3, h4⟩
  · simp at hk
  · obtain ⟨g1, g2, g3, g4⟩ := h4 k hk
    exact ⟨b, off, cap, vs k, h1, h3, g1, g2, g3, g4⟩
/-- How many values and elements the first k rows hold. -/
def zpTo (rs : List SpanD) (k : Nat) : Nat := rs.length + ((rs.take k).map fun r => r.2.2.length).sum
def zpL (rs : List SpanD) : Nat := zpTo rs rs.length
theorem zpTo_zero (rs : List SpanD) : zpTo rs 0 = rs.length := by simp [zpTo]
theorem zpTo_step {rs : List SpanD} {k : Nat} (hk : k < rs.length) : zpTo rs (k + 1) = zpTo rs k + (rs.getD k p0D).2.2.length := by
  unfold zpTo
  have e : rs.getD k p0D = rs[k] := by simp [List.getD, hk]
  rw [e, List.take_succ_eq_append_getElem hk, List.map_append, List.sum_append]
  simp; omega
theorem zpTo_le {rs : List SpanD} {k : Nat} (hk : k ≤ rs.length) : zpTo rs k ≤ zpL rs := by
  unfold zpL zpTo
  obtain ⟨d, hd⟩ : ∃ d, rs.length = k + d := ⟨rs.length - k, by omega⟩
  have : rs = rs.take k ++ rs.drop k := (List.take_append_drop k rs).symm
  have h2 : (rs.map fun r => r.2.2.length).sum = ((rs.take k).map fun r => r.2.2.length).sum + ((rs.drop k).map fun r => r.2.2.length).sum := by
    rw [← List.sum_append, ← List.map_append, List.take_append_drop]
  rw [List.take_length, h2]
  omega
end Go.Proofs.Ytginjmnohnidiaa
