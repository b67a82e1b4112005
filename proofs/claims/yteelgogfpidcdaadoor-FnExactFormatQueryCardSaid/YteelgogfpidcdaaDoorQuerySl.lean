/-
  Slices of queries: one that reads as queries; the helper of the laws that measures them.
-/
import Derived.Test.YteelgogfpidcdaaDoorQuerySpec
namespace Go.Proofs.YteelgogfpidcdaaDoor
open Go.RowKit
set_option linter.unusedVariables false
set_option linter.unusedSimpArgs false
/-- A query's data: number, tenant, conditions, fields. -/
abbrev QD := Int × Int × List CondD × List Int
def q0D : QD := (0, 0, [], [])
/-- The slice v reads as the queries qs. -/
def QueriesR (w : World) (v : Value) (qs : List QD) : Prop :=
  (qs = [] ∧ ∃ a cap, v = .slice a 0 cap) ∨ ∃ (b off cap : Nat) (vs us : Nat → Value), v = .slice (some ⟨b, off, none⟩) qs.length cap ∧ qs.length ≤ cap ∧ b < w.heap.size ∧
    ∀ j, j < qs.length → w.cell? ⟨b, off + j * 4, none⟩ = some (.int .i64 (qs.getD j q0D).1) ∧ w.cell? ⟨b, off + j * 4 + 1, none⟩ = some (.int .i64 (qs.getD j q0D).2.1) ∧ w.cell? ⟨b, off + j * 4 + 2, none⟩ = some (vs j) ∧ w.cell? ⟨b, off + j * 4 + 3, none⟩ = some (us j) ∧
      CondsR w (vs j) (qs.getD j q0D).2.2.1 ∧ Ints w (us j) (qs.getD j q0D).2.2.2
theorem queriesR_len {w : World} {v : Value} {qs : List QD} (h : QueriesR w v qs) : ∃ a cap, v = .slice a qs.length cap := by
  rcases h with ⟨rfl, a, cap, rfl⟩ | ⟨b, off, cap, vs, us, rfl, _⟩
  · exact ⟨a, cap, rfl⟩
  · exact ⟨_, cap, rfl⟩
theorem queriesR_below {W w : World} {v : Value} {qs : List QD} (h : QueriesR W v qs) (hb : Below W.heap.size W w) : QueriesR w v qs := by
  rcases h with h | ⟨b, off, cap, vs, us, h1, h2, h3, h4⟩
  · exact Or.inl h
  · refine Or.inr ⟨b, off, cap, vs, us, h1, h2, Nat.lt_of_lt_of_le h3 hb.size, fun j hj => ?_⟩
    obtain ⟨g1, g2, g3, g4, g5, g6⟩ := h4 j hj
    exact ⟨(hb.cell (p := ⟨b, off + j * 4, none⟩) h3).trans g1, (hb.cell (p := ⟨b, off + j * 4 + 1, none⟩) h3).trans g2, (hb.cell (p := ⟨b, off + j * 4 + 2, none⟩) h3).trans g3, (hb.cell (p := ⟨b, off + j * 4 + 3, none⟩) h3).trans g4, condsR_below g5 hb, ints_below g6 hb⟩
theorem queriesR_at {w : World} {v : Value} {qs : List QD} (h : QueriesR w v qs) {k : Nat} (hk : k < qs.length) : ∃ (b off cap : Nat) (cv ov : Value), v = .slice (some ⟨b, off, none⟩) qs.length cap ∧ b < w.heap.size ∧
    w.cell? ⟨b, off + k * 4, none⟩ = some (.int .i64 (qs.getD k q0D).1) ∧ w.cell? ⟨b, off + k * 4 + 1, none⟩ = some (.int .i64 (qs.getD k q0D).2.1) ∧ w.cell? ⟨b, off + k * 4 + 2, none⟩ = some cv ∧ w.cell? ⟨b, off + k * 4 + 3, none⟩ = some ov ∧
    CondsR w cv (qs.getD k q0D).2.2.1 ∧ Ints w ov (qs.getD k q0D).2.2.2 := by
  rcases h with ⟨rfl, _⟩ | ⟨b, off, cap, vs, us, h1, h2, h3, h4⟩
  · simp at hk
  · obtain ⟨g1, g2, g3, g4, g5, g6⟩ := h4 k hk
    exact ⟨b, off, cap, vs k, us k, h1, h3, g1, g2, g3, g4, g5, g6⟩
/-- How many conditions, fields and elements the first k queries hold. -/
def szQTo (qs : List QD) (k : Nat) : Nat := qs.length + ((qs.take k).map fun q => q.2.2.1.length + q.2.2.2.length).sum
def szQL (qs : List QD) : Nat := szQTo qs qs.length
theorem szQTo_zero (qs : List QD) : szQTo qs 0 = qs.length := by simp [szQTo]
theorem szQTo_step {qs : List QD} {k : Nat} (hk : k < qs.length) : szQTo qs (k + 1) = szQTo qs k + ((qs.getD k q0D).2.2.1.length + (qs.getD k q0D).2.2.2.length) := by
  unfold szQTo
  have e : qs.getD k q0D = qs[k] := by simp [List.getD, hk]
  rw [e, List.take_succ_eq_append_getElem hk, List.map_append, List.sum_append]
  simp; omega
theorem szQTo_le {qs : List QD} {k : Nat} (hk : k ≤ qs.length) : szQTo qs k ≤ szQL qs := by
  unfold szQL szQTo
  have h2 : (qs.map fun q : QD => q.2.2.1.length + q.2.2.2.length).sum = ((qs.take k).map fun q => q.2.2.1.length + q.2.2.2.length).sum + ((qs.drop k).map fun q => q.2.2.1.length + q.2.2.2.length).sum := by
    rw [← List.sum_append, ← List.map_append, List.take_append_drop]
  rw [List.take_length, h2]
  omega
theorem szQL_at {qs : List QD} (hs : szQL qs ≤ 1048576) {k : Nat} (hk : k < qs.length) : (qs.getD k q0D).2.2.1.length ≤ 1048576 ∧ (qs.getD k q0D).2.2.2.length ≤ 1048576 := by
  have h1 := szQTo_step hk
  have h2 := szQTo_le (qs := qs) (k := k + 1) (by omega)
  omega
theorem szQL_len {qs : List QD} (hs : szQL qs ≤ 1048576) : qs.length ≤ 1048576 := by
  have := szQTo_le (qs := qs) (Nat.zero_le _); rw [szQTo_zero] at this; omega
end Go.Proofs.YteelgogfpidcdaaDoor
