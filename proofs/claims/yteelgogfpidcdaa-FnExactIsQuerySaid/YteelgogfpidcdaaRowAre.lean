/-
  The walk of the specification's AreRows.
-/
import Derived.Test.YteelgogfpidcdaaTake
namespace Go.Proofs.Yteelgogfpidcdaa
open Go.RowKit
set_option linter.unusedVariables false
set_option linter.unusedSimpArgs false
/-- As far as k the rows are rows, in ascending order of their numbers. -/
def AreTo (rs : List RowD) (k : Nat) : Prop := ∀ i, i < k → rowB (rs.getD i (0, [])) = true ∧ (0 < i → (rs.getD (i - 1) (0, [])).1 < (rs.getD i (0, [])).1)
/-- Are they rows? -/
def areB (rs : List RowD) : Bool := (List.range rs.length).all (fun i => rowB (rs.getD i (0, [])) && (decide (i = 0) || decide ((rs.getD (i - 1) (0, [])).1 < (rs.getD i (0, [])).1))) && decide (rs.length ≤ 32)
theorem areB_all {rs : List RowD} (h : AreTo rs rs.length) : areB rs = decide (rs.length ≤ 32) := by
  have : (List.range rs.length).all (fun i => rowB (rs.getD i (0, [])) && (decide (i = 0) || decide ((rs.getD (i - 1) (0, [])).1 < (rs.getD i (0, [])).1))) = true := by
    rw [List.all_eq_true]
    intro i hi
    rw [List.mem_range] at hi
    obtain ⟨h1, h2⟩ := h i hi
    rw [h1]
    by_cases e : i = 0
    · simp [e]
    · rw [decide_eq_true (h2 (by omega))]; simp
  unfold areB
  simp only [this, Bool.true_and]
theorem areB_bad {rs : List RowD} {k : Nat} (hk : k < rs.length) (h : rowB (rs.getD k (0, [])) = false ∨ (0 < k ∧ ¬ (rs.getD (k - 1) (0, [])).1 < (rs.getD k (0, [])).1)) : areB rs = false := by
  have : (List.range rs.length).all (fun i => rowB (rs.getD i (0, [])) && (decide (i = 0) || decide ((rs.getD (i - 1) (0, [])).1 < (rs.getD i (0, [])).1))) = false := by
    rw [Bool.eq_false_iff]
    intro g
    rw [List.all_eq_true] at g
    have := g k (List.mem_range.2 hk)
    rw [Bool.and_eq_true, Bool.or_eq_true, decide_eq_true_eq, decide_eq_true_eq] at this
    rcases h with h | ⟨h1, h2⟩
    · rw [h] at this; exact Bool.noConfusion this.1
    · rcases this.2 with e | e
      · omega
      · exact h2 e
  unfold areB
  simp only [this, Bool.false_and]
theorem areTo_step {rs : List RowD} {k : Nat} (h : AreTo rs k) (h1 : rowB (rs.getD k (0, [])) = true) (h2 : 0 < k → (rs.getD (k - 1) (0, [])).1 < (rs.getD k (0, [])).1) : AreTo rs (k + 1) := fun i hi => by
  by_cases e : i = k
  · subst e; exact ⟨h1, h2⟩
  · exact h i (by omega)
end Go.Proofs.Yteelgogfpidcdaa
