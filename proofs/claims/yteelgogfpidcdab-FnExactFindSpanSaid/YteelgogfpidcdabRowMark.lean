/-
  Marking the rows of a slice that the call made, and reading the marks back.
-/
import Derived.Test.YteelgogfpidcdabRowEq
namespace Go.Proofs.Yteelgogfpidcdab
open Go.RowKit
set_option linter.unusedVariables false
/-- Only blocks from B up to hi have turned. -/
structure Only (B hi : Nat) (w w' : World) : Prop where
  os : w'.os = w.os
  tape : w'.tape = w.tape
  output : w'.output = w.output
  size : w.heap.size ≤ w'.heap.size
  block : ∀ k, k < w.heap.size → (k < B ∨ hi ≤ k) → w'.heap[k]? = w.heap[k]?
theorem Only.refl (B hi : Nat) (w : World) : Only B hi w w := ⟨rfl, rfl, rfl, Nat.le_refl _, fun _ _ _ => rfl⟩
theorem Only.trans {B hi : Nat} {a b c : World} (h : Only B hi a b) (k : Only B hi b c) : Only B hi a c :=
  ⟨k.os.trans h.os, k.tape.trans h.tape, k.output.trans h.output, Nat.le_trans h.size k.size, fun i hi' hn => (k.block i (Nat.lt_of_lt_of_le hi' h.size) hn).trans (h.block i hi' hn)⟩
theorem only_grown {B hi : Nat} {w w' : World} {row : Option Nat} (h : w.grownBy w' row) (hr : ∀ b, row = some b → B ≤ b ∧ b < hi) : Only B hi w w' :=
  ⟨h.os, h.tape, h.output, h.size, fun k hk hn => h.block k hk (fun e => by have := hr k e.symm; omega)⟩
theorem only_below {B hi C : Nat} {a w w' : World} (h : Below C a w) (k : Only B hi w w') (hC : C ≤ B) (hs : C ≤ w.heap.size) : Below C a w' :=
  h.trans ⟨k.os, k.tape, k.output, k.size, fun i hi' => k.block i (by omega) (Or.inl (by omega))⟩
/-- What reads in blocks below B reads so. -/
theorem rowsR_only {B hi : Nat} {W w w' : World} {v : Value} {rs : List RowD} (h : RowsR W v rs) (hb : Below W.heap.size W w) (k : Only B hi w w') (hB : W.heap.size ≤ B) : RowsR w' v rs :=
  rowsR_below h (only_below hb k hB hb.size)
/-- The mark of row j. -/
def mkAt (rs : List RowD) (k : Int) (j : Nat) : Int := k + (j : Int) + ((((rs.take j).map fun r => r.2.length).sum : Nat) : Int)
def mRow (rs : List RowD) (k : Int) (j : Nat) : RowD := (mkAt rs k j, marks (mkAt rs k j + 1) (rs.getD j (0, [])).2.length)
def markTo (rs : List RowD) (k : Int) (j : Nat) : List RowD := (List.range j).map (mRow rs k) ++ rs.drop j
def mRows (rs : List RowD) (k : Int) : List RowD := (List.range rs.length).map (mRow rs k)
theorem mkAt_zero (rs : List RowD) (k : Int) : mkAt rs k 0 = k := by simp [mkAt]
theorem mkAt_step {rs : List RowD} {k : Int} {j : Nat} (hj : j < rs.length) : mkAt rs k (j + 1) = mkAt rs k j + 1 + ((rs.getD j (0, [])).2.length : Int) := by
  unfold mkAt
  have e : rs.getD j (0, []) = rs[j] := by simp [List.getD, hj]
  rw [e, List.take_succ_eq_append_getElem hj, List.map_append, List.sum_append]
  simp; omega
theorem mkAt_range {rs : List RowD} {k : Int} {j : Nat} (hs : szL rs ≤ 1048576) (hj : j ≤ rs.length) : k ≤ mkAt rs k j ∧ mkAt rs k j ≤ k + 1048576 := by
  have h1 := szTo_le hj
  unfold szTo at h1
  unfold mkAt
  omega
theorem markTo_len {rs : List RowD} {k : Int} {j : Nat} (hj : j ≤ rs.length) : (markTo rs k j).length = rs.length := by simp [markTo]; omega
theorem markTo_at {rs : List RowD} {k : Int} {j : Nat} (hj : j < rs.length) : (markTo rs k j).getD j (0, []) = rs.getD j (0, []) := by
  unfold markTo
  simp only [List.getD]
  rw [List.getElem?_append_right (by simp), List.getElem?_drop]
  simp
theorem markTo_step {rs : List RowD} {k : Int} {j : Nat} (hj : j < rs.length) : (markTo rs k j).set j (mRow rs k j) = markTo rs k (j + 1) := by
  unfold markTo
  rw [List.set_append_right _ _ (by simp), List.drop_eq_getElem_cons hj, List.range_succ, List.map_append]
  simp only [List.length_map, List.length_range, Nat.sub_self, List.set_cons_zero, List.map_cons, List.map_nil, List.append_assoc, List.cons_append, List.nil_append]
theorem markTo_all (rs : List RowD) (k : Int) : markTo rs k rs.length = mRows rs k := by simp [markTo, mRows]
theorem markTo_zero (rs : List RowD) (k : Int) : markTo rs k 0 = rs := by simp [markTo]
end Go.Proofs.Yteelgogfpidcdab
