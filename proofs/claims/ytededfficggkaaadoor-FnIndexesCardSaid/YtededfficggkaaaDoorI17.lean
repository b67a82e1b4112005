/-
 Texts of the proof, merged: IdxSize.
-/
import Derived.Test.YtededfficggkaaaDoorI10
import Derived.Test.YtededfficggkaaaDoorI11
import Derived.Test.YtededfficggkaaaDoorI12
namespace Go.Proofs.YtededfficggkaaaDoor
open Go.RowKit
set_option linter.unusedVariables false
set_option linter.unusedSimpArgs false
theorem sum_all_le {α : Type} {f : α → Nat} {M : Nat} : ∀ (xs : List α), (∀ x ∈ xs, f x ≤ M) → (xs.map f).sum ≤ xs.length * M
 | [], _ => by simp
 | x :: xs, h => by
  have h1 := sum_all_le xs (fun y hy => h y (List.mem_cons_of_mem _ hy))
  have h2 := h x (List.mem_cons_self ..)
  rw [List.length_cons, Nat.add_mul, Nat.one_mul, List.map_cons, List.sum_cons]
  omega
theorem zL_le {α : Type} {T : Ty α} {xs : List α} {M : Nat} (h : ∀ x ∈ xs, T.sz x ≤ M) : zL T xs ≤ xs.length * (1 + M) := by
 have h1 := sum_all_le xs h
 show xs.length + ((xs.take xs.length).map T.sz).sum ≤ _
 rw [List.take_length, Nat.mul_add, Nat.mul_one]
 omega
end Go.Proofs.YtededfficggkaaaDoor
