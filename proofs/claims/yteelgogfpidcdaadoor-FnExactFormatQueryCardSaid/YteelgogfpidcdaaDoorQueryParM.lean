/-
  The mathematics of the specification's ParseQuery: what it reads out of a text, and when it accepts.
-/
import Derived.Test.YteelgogfpidcdaaDoorQueryCut
import Derived.Test.YteelgogfpidcdaaDoorQueryFmt
import Derived.Test.YteelgogfpidcdaaDoorQuerySl
namespace Go.Proofs.YteelgogfpidcdaaDoor
open Go.RowKit
set_option linter.unusedVariables false
set_option linter.unusedSimpArgs false
/-- The condition that two pieces say. -/
def condOf (P : List (List UInt8)) (j : Nat) : CondD := (aftL 102 (P.getD (2 + 2 * j) []), rngL (P.getD (3 + 2 * j) []))
/-- What the pieces of a text say, whether it is a query's text or not. -/
def queryOfP (P : List (List UInt8)) : QD := (aftL 113 (P.getD 0 []), aftL 116 (P.getD 1 []), (List.range ((P.length - 4) / 2)).map (condOf P), (cutL 44 (P.getD (P.length - 1) [])).map numL)
def fmtQD (q : QD) : List UInt8 := fmtQ q.1 q.2.1 q.2.2.1 q.2.2.2
def parQ (l : List UInt8) : QD × Bool := if (cutL 32 l).length < 4 ∨ fmtQD (queryOfP (cutL 32 l)) ≠ l then (q0D, false) else (queryOfP (cutL 32 l), true)
theorem parQ_no {l : List UInt8} (h : (cutL 32 l).length < 4 ∨ fmtQD (queryOfP (cutL 32 l)) ≠ l) : parQ l = (q0D, false) := if_pos h
theorem parQ_yes {l : List UInt8} (h1 : ¬ (cutL 32 l).length < 4) (h2 : fmtQD (queryOfP (cutL 32 l)) = l) : parQ l = (queryOfP (cutL 32 l), true) := if_neg (fun g => g.elim h1 (fun h => h h2))
theorem conds_next (P : List (List UInt8)) (j : Nat) : (List.range j).map (condOf P) ++ [condOf P j] = (List.range (j + 1)).map (condOf P) := by simp [List.range_succ]
/-- The loop over the pieces goes on just as long as conditions are left. -/
theorem cond_more {n j : Nat} (h : 4 ≤ n) : (2 + 2 * j + 1 < n - 2) ↔ j < (n - 4) / 2 := by omega
theorem queryOf_len (P : List (List UInt8)) : (queryOfP P).2.2.1.length = (P.length - 4) / 2 := by simp [queryOfP]
/-- What is accepted is a query. -/
theorem parQ_query {l : List UInt8} (h0 : l ≠ []) (h : (parQ l).2 = true) : queryB (parQ l).1.1 (parQ l).1.2.1 (parQ l).1.2.2.1 (parQ l).1.2.2.2 = true ∧ fmtQD (parQ l).1 = l := by
  unfold parQ at h ⊢
  split at h
  · exact Bool.noConfusion h
  · rename_i hn
    rw [if_neg hn]
    have he : fmtQD (queryOfP (cutL 32 l)) = l := Classical.byContradiction (fun g => hn (Or.inr g))
    refine ⟨?_, he⟩
    simp only
    unfold fmtQD fmtQ at he
    by_cases hq : queryB (queryOfP (cutL 32 l)).1 (queryOfP (cutL 32 l)).2.1 (queryOfP (cutL 32 l)).2.2.1 (queryOfP (cutL 32 l)).2.2.2 = true
    · exact hq
    · rw [if_neg hq] at he
      exact absurd he.symm h0
end Go.Proofs.YteelgogfpidcdaaDoor
