/-
 Texts of the proof, merged: MaskCount, MaskMem, SetImpl.
-/
import Derived.Test.YtogbgeekmdnhlaaGreatDoorAW5
import Derived.Lib.Tables
import Derived.Lib.BitFns
import Derived.BigQuiet
import Derived.Deep.QuietTactic
namespace Go.Proofs.YtogbgeekmdnhlaaGreatDoor
open Go.RowKit
set_option linter.unusedVariables false
set_option linter.unusedSimpArgs false
set_option maxHeartbeats 1000000 in
set_option maxRecDepth 100000 in
theorem implIndex (v : Value) (xs : List Int) (x : Int) (w : World) (h : Ints w v xs) (hn : xs.length ≤ 1048576) :
  Calls Tryz.prog 193 #[v, .int .i64 x] w fun e w' => (∃ n : Int, e = .returned (.int .i64 n) ∧ (0 ≤ n ↔ x ∈ xs) ∧ -1 ≤ n) ∧ w' = w := by
 have H := Lib.hid h
 obtain ⟨a, cap, rfl⟩ := ints_len h
 clear h
 go_enter Tryz.func193, Tryz.ntmps193
 go_wp2
 go_loop [8] (fun i => ∃ k : Nat, k ≤ xs.length ∧ i = .int .i64 k ∧ Hid (∀ j, j < k → xs.getD j 0 ≠ x)) (fun i => xs.length - (intOf i).toNat)
 case atStart => exact ⟨0, Nat.zero_le _, rfl, Lib.hid (fun j hj => by omega)⟩
 case round =>
  obtain ⟨k, hk, rfl, hne⟩ := hrel
  by_cases hlt : k < xs.length
  ·
   obtain ⟨b, off, cap', hv, hbl, hc⟩ := ints_cell H.out (by omega)
   simp only [Value.slice.injEq] at hv
   obtain ⟨rfl, _, rfl⟩ := hv
   have hcell := hc k hlt
   have i1 : (0 : Int) ≤ (k : Int) := by omega
   have i2 : (k : Int) < (xs.length : Int) := by omega
   clear hc
   by_cases he : xs.getD k 0 = x
   ·
    have HY := Lib.hid (show decide (x ∈ xs) = true from decide_eq_true ((member_iff xs x).2 ⟨k, hlt, he⟩))
    rw [he] at hcell
    have heq : (x == x) = true := by simp
    clear he
    go_wp2
    go_ret
    exact ⟨⟨(k : Int), rfl, iff_of_true i1 (of_decide_eq_true HY.out), by omega⟩, rfl⟩
   ·
    have HN : Hid (∀ j, j < k + 1 → xs.getD j 0 ≠ x) := Lib.hid (fun j hj => by
     by_cases e : j = k
     ·
      exact e ▸ he
     ·
      exact hne.out j (by omega))
    have heq : (x == xs.getD k 0) = false := by rw [beq_eq_false_iff_ne]; exact fun e => he e.symm
    clear he
    generalize xs.getD k 0 = y at hcell heq
    go_wp2
    go_round
    case rel => exact ⟨k + 1, by omega, by go_num, HN⟩
    case measure => simp [intOf]; omega
  ·
   have HN := Lib.hid (show decide (x ∈ xs) = false from decide_eq_false (fun g => by
    obtain ⟨j, hj, e⟩ := (member_iff xs x).1 g
    exact hne.out j (by omega) e))
   go_wp2
   go_ret
   exact ⟨⟨-1, rfl, iff_of_false (by omega) (of_decide_eq_false HN.out), by omega⟩, rfl⟩
end Go.Proofs.YtogbgeekmdnhlaaGreatDoor
