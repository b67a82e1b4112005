/-
  The walks of the exact laws of UniteSets, MeetSets and SubtractSets: if the program's function returns in new memory what the operation says, the law returns true.
-/
import Derived.Test.YtecfhgfjfnjagaaDoorSetOps
namespace Go.Proofs.YtecfhgfjfnjagaaDoor
open Go.RowKit
set_option linter.unusedVariables false
/-- The block of the slice v, if it has one, lies between lo and hi. -/
def Blk (v : Value) (lo hi : Nat) : Prop := ∀ k, v.ownBlock = some k → lo ≤ k ∧ k < hi
theorem blk_of {w : World} {B : Nat} {v : Value} {xs : List Int} (h : OwnsN w B v xs) : Blk v B w.heap.size := fun k hk => h.lt k hk
theorem ownsN_kept {w w' : World} {B : Nat} {v u : Value} {xs : List Int} {lo hi lo' hi' : Nat} (h : OwnsN w B v xs) (hg : w.grownBy w' u.ownBlock) (hv : Blk v lo hi) (hu : Blk u lo' hi') (hd : hi ≤ lo' ∨ hi' ≤ lo) : OwnsN w' B v xs := by
  refine h.kept hg ?_
  cases e : v.ownBlock with
  | none => exact Or.inl rfl
  | some k => exact Or.inr (fun g => by
      have h1 := hv k e
      have h2 := hu k g.symm
      omega)
theorem below_marked {W w w' : World} {u : Value} {lo hi : Nat} (h : Below W.heap.size W w) (hg : w.grownBy w' u.ownBlock) (hu : Blk u lo hi) (hl : W.heap.size ≤ lo) : Below W.heap.size W w' :=
  h.grown hg h.size (fun k hk => Nat.le_trans hl (hu k hk).1)
theorem uniteL_len (a b : List Int) (_ : a.length ≤ 1048576) (_ : b.length ≤ 1048576) : (uniteL a b).length ≤ 1048576 := by
  unfold uniteL; split
  · have := accU_len (fun x => decide (x ∈ a) || decide (x ∈ b)) 24
    unfold accU at this; omega
  · simp
theorem meetL_len (a b : List Int) (h : a.length ≤ 1048576) (_ : b.length ≤ 1048576) : (meetL a b).length ≤ 1048576 := by
  unfold meetL; split
  · exact Nat.le_trans (List.length_filter_le _ _) h
  · simp
theorem subL_len (a b : List Int) (h : a.length ≤ 1048576) (_ : b.length ≤ 1048576) : (subL a b).length ≤ 1048576 := by
  unfold subL; split
  · exact Nat.le_trans (List.length_filter_le _ _) h
  · simp
end Go.Proofs.YtecfhgfjfnjagaaDoor
