/-
  The walk of the specification's ParseSet: it returns what 'parSet' computes.
-/
import Derived.Test.YtjmiihgaaagojaaDoorParSetMath
namespace Go.Proofs.YtjmiihgaaagojaaDoor
open Go.RowKit
set_option linter.unusedVariables false
theorem apart_new {w : World} {B g n c : Nat} {u : Value} {ts : List ByteArray} (h : OwnsS w B u ts) (hg : g < B) : Apart (.slice (some ⟨g, 0, none⟩) n c) u := by
  cases hu : u.ownBlock with
  | none => exact Or.inl hu
  | some k => exact Or.inr (by rw [hu]; intro e; have := (h.lt k hu).1; simp [Value.ownBlock] at e; omega)
theorem strs_head {w : World} {B : Nat} {v : Value} {ps : List (List UInt8)} (h : OwnsS w B v (ps.map strB)) (h0 : 0 < ps.length) : ∃ g cap, v = .slice (some ⟨g, 0, none⟩) ps.length cap := by
  rcases ownsS_form h with ⟨_, e⟩ | ⟨g, cap, e, _⟩
  · have := congrArg List.length e; simp at this; subst this; simp at h0
  · exact ⟨g, cap, by rw [e]; simp⟩
theorem strs_at {w : World} {B g n cap : Nat} {ps : List (List UInt8)} (h : OwnsS w B (.slice (some ⟨g, 0, none⟩) n cap) (ps.map strB)) (j : Nat) (hj : j < ps.length) : w.cell? ⟨g, j, none⟩ = some (.string (strB (ps.getD j []))) :=
  ownsS_cell h (by simp [List.getD, hj])
theorem ret_ps {l : List UInt8} {v : Value} {xs : List Int} {b : Bool} (h : parSet l = (xs, b)) : Ending.returned (.tuple #[v, .bool b]) = .returned (.tuple #[v, .bool (parSet l).2]) := by rw [h]
theorem own_ps {l : List UInt8} {w : World} {B : Nat} {v : Value} {xs : List Int} {b : Bool} (h : parSet l = (xs, b)) (ho : OwnsN w B v xs) : OwnsN w B v (parSet l).1 := by rw [h]; exact ho
theorem partTo_two {ps : List (List UInt8)} (h : ps.length = 2) : partTo ps = numL (ps.getD 1 []) := if_pos h
theorem partTo_one {ps : List (List UInt8)} (h : ¬ ps.length = 2) : partTo ps = numL (ps.getD 0 []) := if_neg h
theorem partOk_no {ps : List (List UInt8)} {f t : Int} (hf : numL (ps.getD 0 []) = f) (ht : partTo ps = t) (h : ¬ (ps.length ≤ 2 ∧ (0 ≤ f ∧ f ≤ 23) ∧ (f ≤ t ∧ t ≤ 23))) : partOk ps = false := by unfold partOk; rw [hf, ht]; exact decide_eq_false h
theorem partOk_yes {ps : List (List UInt8)} {f t : Int} (hf : numL (ps.getD 0 []) = f) (ht : partTo ps = t) (h : ps.length ≤ 2 ∧ (0 ≤ f ∧ f ≤ 23) ∧ (f ≤ t ∧ t ≤ 23)) : partOk ps = true ∧ partNums ps = upN f (t - f + 1).toNat := by unfold partOk partNums; rw [hf, ht]; exact ⟨decide_eq_true h, rfl⟩
end Go.Proofs.YtjmiihgaaagojaaDoor
