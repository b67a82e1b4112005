/-
  Slices of rows that the call itself made: each row's values lie in a block of their own; store, read, copy of a slice that came in.
-/
import Derived.Test.YteelgogfpidcdabDoorRowSl
namespace Go.Proofs.YteelgogfpidcdabDoor
open Go.RowKit
set_option linter.unusedVariables false
theorem ownsRow_below {w w' : World} {B : Nat} {e : TypeId} {size : Nat} {v : Value} {n : Nat} {xs : List Value} (h : w.ownsRow B e size v n xs) (hb : Below w.heap.size w w') : w'.ownsRow B e size v n xs := by
  refine ⟨h.1, ?_⟩
  rcases h.2 with hn | ⟨g, cap, cur, rfl, hb', hg, rest⟩
  · exact .inl hn
  · refine .inr ⟨g, cap, cur, rfl, hb', ?_, rest⟩
    rw [hb.block g (Array.getElem?_eq_some_iff.1 hg).1]
    exact hg
theorem madeRow_at (n j : Nat) (hj : j < n) : (madeCells #[Value.int .i64 0, Value.slice none 0 0] (n * 2)).toList[j * 2]? = some (.int .i64 0) ∧ (madeCells #[Value.int .i64 0, Value.slice none 0 0] (n * 2)).toList[j * 2 + 1]? = some (.slice none 0 0) := by
  have e1 : (j * 2) % 2 = 0 := by omega
  have e2 : (j * 2 + 1) % 2 = 1 := by omega
  constructor
  · rw [Array.getElem?_toList]
    unfold madeCells
    rw [Array.getElem?_map, Array.getElem?_range]
    simp [e1, show j * 2 < n * 2 by omega]
  · rw [Array.getElem?_toList]
    unfold madeCells
    rw [Array.getElem?_map, Array.getElem?_range]
    simp [e2, show j * 2 + 1 < n * 2 by omega]
end Go.Proofs.YteelgogfpidcdabDoor
