/-
  The walks of members, and of the operations on sets over their masks.
-/
import Derived.Test.YteelgogfpidcdabDoorMaskWalks
import Derived.Lib.Tables
import Derived.Lib.BitFns
import Derived.BigQuiet
import Derived.Deep.QuietTactic
namespace Go.Proofs.YteelgogfpidcdabDoor
open Go.RowKit
set_option linter.unusedVariables false
theorem fold_pop : (⟨(([0, 1, 1, 2, 1, 2, 2, 3, 1, 2, 2, 3, 2, 3, 3, 4, 1, 2, 2, 3, 2, 3, 3, 4, 2, 3, 3, 4, 3, 4, 4, 5, 1, 2, 2, 3, 2, 3, 3, 4, 2, 3, 3, 4, 3, 4, 4, 5, 2, 3, 3, 4, 3, 4, 4, 5, 3, 4, 4, 5, 4, 5, 5, 6].append [1, 2, 2, 3, 2, 3, 3, 4, 2, 3, 3, 4, 3, 4, 4, 5, 2, 3, 3, 4, 3, 4, 4, 5, 3, 4, 4, 5, 4, 5, 5, 6, 2, 3, 3, 4, 3, 4, 4, 5, 3, 4, 4, 5, 4, 5, 5, 6, 3, 4, 4, 5, 4, 5, 5, 6, 4, 5, 5, 6, 5, 6, 6, 7]).append ([1, 2, 2, 3, 2, 3, 3, 4, 2, 3, 3, 4, 3, 4, 4, 5, 2, 3, 3, 4, 3, 4, 4, 5, 3, 4, 4, 5, 4, 5, 5, 6, 2, 3, 3, 4, 3, 4, 4, 5, 3, 4, 4, 5, 4, 5, 5, 6, 3, 4, 4, 5, 4, 5, 5, 6, 4, 5, 5, 6, 5, 6, 6, 7].append [2, 3, 3, 4, 3, 4, 4, 5, 3, 4, 4, 5, 4, 5, 5, 6, 3, 4, 4, 5, 4, 5, 5, 6, 4, 5, 5, 6, 5, 6, 6, 7, 3, 4, 4, 5, 4, 5, 5, 6, 4, 5, 5, 6, 5, 6, 6, 7, 4, 5, 5, 6, 5, 6, 6, 7, 5, 6, 6, 7, 6, 7, 7, 8])).toArray⟩ : ByteArray) = Lib.pop8tab := by decide +kernel
theorem ret_i {a b : Int} (h : a = b) : Ending.returned (.int .i64 a) = .returned (.int .i64 b) := by rw [h]
theorem below_drewN {B : Nat} {a w : World} (h : Below B a w) (q : Nat) : Below B a (w.drewN q) := ⟨h.os, h.tape, h.output, h.size, h.block⟩
theorem byte_u32 (x : Int) (h0 : 0 ≤ x) (h1 : x < 4294967296) : 0 ≤ bits .and .u32 x 255 ∧ bits .and .u32 x 255 ≤ 255 := by
  have h : bits .and .u32 x 255 = x % 256 := bits_mask .u32 32 (by decide) (fun n a b => by rw [IntKind.wrap_u32]; omega) 8 (by decide) x h0 (by omega)
  rw [h]; omega
theorem bit_div (m k : Nat) : bits .and .u32 ((m : Int) / 2 ^ k) 1 = (((m / 2 ^ k % 2 : Nat)) : Int) ∨ 4294967296 ≤ m := by
  by_cases h : m < 4294967296
  · left
    have hd : (m : Int) / 2 ^ k = ((m / 2 ^ k : Nat) : Int) := by norm_cast
    have hl : m / 2 ^ k < 4294967296 := Nat.lt_of_le_of_lt (Nat.div_le_self _ _) h
    rw [hd, show (1 : Int) = ((1 : Nat) : Int) from rfl, and_u32 _ _ hl (by omega), Nat.and_one_is_mod]
  · right; omega
theorem bit_true {m k : Nat} (hm : m < 16777216) (h : m.testBit k = true) : (bits .and .u32 ((m : Int) / 2 ^ k) 1 == 1) = true := by
  rcases bit_div m k with e | e
  · rw [e]
    rw [Nat.testBit_eq_decide_div_mod_eq] at h
    have := of_decide_eq_true h
    rw [this]; rfl
  · omega
theorem bit_false {m k : Nat} (hm : m < 16777216) (h : m.testBit k = false) : (bits .and .u32 ((m : Int) / 2 ^ k) 1 == 1) = false := by
  rcases bit_div m k with e | e
  · rw [e]
    rw [Nat.testBit_eq_decide_div_mod_eq] at h
    have h1 := of_decide_eq_false h
    have : m / 2 ^ k % 2 = 0 := by omega
    rw [this]; rfl
  · omega
end Go.Proofs.YteelgogfpidcdabDoor
