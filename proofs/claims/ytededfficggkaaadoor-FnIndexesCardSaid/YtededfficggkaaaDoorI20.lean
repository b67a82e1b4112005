/-
 Texts of the proof, merged: IdxAid.
-/
import Derived.Test.YtededfficggkaaaDoorI13
import Derived.Test.YtededfficggkaaaDoorI19
namespace Go.Proofs.YtededfficggkaaaDoor
open Go.RowKit
set_option linter.unusedVariables false
set_option linter.unusedSimpArgs false
set_option maxHeartbeats 2000000 in
set_option maxRecDepth 100000 in
theorem sameS_any (v u : Value) (xs ys : List Int) (w : World) (h : Ints w v xs) (g : Ints w u ys) (hn : xs.length ≤ 1048576) (hm : ys.length ≤ 1048576) :
  Calls Tryd.prog 11 #[v, u] w fun e w' => e = .returned (.bool (decide (xs = ys))) ∧ Below w.heap.size w w' := by
 have H := Lib.hid h
 have G := Lib.hid g
 obtain ⟨a, cap, rfl⟩ := ints_len h
 obtain ⟨a2, cap2, rfl⟩ := ints_len g
 clear h g
 by_cases hl : xs.length = ys.length
 ·
  have HL := Lib.hid hl
  have hne : ((xs.length : Int) != (ys.length : Int)) = false := by rw [hl]; simp
  clear hl
  go_enter Tryd.func11, Tryd.ntmps11
  go_wp2
  clear hne
  go_loopw [5] (fun i wr => ∃ k : Nat, k ≤ xs.length ∧ i = .int .i64 k ∧ Hid (∀ j, j < k → xs.getD j 0 = ys.getD j 0) ∧ Below w.heap.size w wr) (fun i _ => xs.length - (intOf i).toNat)
  case atStart => exact ⟨0, Nat.zero_le _, rfl, Lib.hid (fun j hj => by omega), Below.refl _ _⟩
  case round =>
   obtain ⟨k, hk, rfl, hall, hbel⟩ := hrel
   by_cases hlt : k < xs.length
   ·
    obtain ⟨b, off, cap', hv, hbl, hc⟩ := ints_cell H.out (by omega)
    simp only [Value.slice.injEq] at hv
    obtain ⟨rfl, _, rfl⟩ := hv
    obtain ⟨b2, off2, cap2', hv2, hbl2, hc2⟩ := ints_cell G.out (by have := HL.out; omega)
    simp only [Value.slice.injEq] at hv2
    obtain ⟨rfl, _, rfl⟩ := hv2
    have hcell := (hbel.cell (p := ⟨b, off + k, none⟩) hbl).trans (hc k hlt)
    have hcell2 := (hbel.cell (p := ⟨b2, off2 + k, none⟩) hbl2).trans (hc2 k (by have := HL.out; omega))
    have i1 : (0 : Int) ≤ (k : Int) := by omega
    have i2 : (k : Int) < (xs.length : Int) := by omega
    have i3 : (k : Int) < (ys.length : Int) := by have := HL.out; omega
    clear hc hc2
    by_cases he : xs.getD k 0 = ys.getD k 0
    ·
     have HA : Hid (∀ j, j < k + 1 → xs.getD j 0 = ys.getD j 0) := Lib.hid (fun j hj => by
      by_cases e : j = k
      ·
       exact e ▸ he
      ·
       exact hall.out j (by omega))
     rw [← he] at hcell2
     clear he hall
     generalize xs.getD k 0 = y at hcell hcell2
     go_wp2
     go_quiet (fail)
     go_wp2
     go_roundw
     case rel => exact ⟨k + 1, by omega, by go_num, HA, below_dn hbel _⟩
     case measure => simp [intOf]; omega
    ·
     have HF := Lib.hid (decide_eq_false (list_ne_at hlt he))
     have heq : (xs.getD k 0 != ys.getD k 0) = true := by rw [bne_iff_ne]; exact he
     clear he hall
     generalize xs.getD k 0 = y at hcell heq
     generalize ys.getD k 0 = z at hcell2 heq
     go_wp2
     go_quiet (fail)
     go_wp2
     go_ret
     exact ⟨ret_b HF.out.symm, below_dn hbel _⟩
   ·
    obtain rfl : k = xs.length := by omega
    have HT := Lib.hid (decide_eq_true (list_eq_all HL.out hall.out))
    clear hall
    go_wp2
    go_ret
    exact ⟨ret_b HT.out.symm, hbel⟩
 ·
  have HF := Lib.hid (decide_eq_false (show ¬ xs = ys from fun e => hl (by rw [e])))
  have hne : ((xs.length : Int) != (ys.length : Int)) = true := by rw [bne_iff_ne]; omega
  clear hl
  go_enter Tryd.func11, Tryd.ntmps11
  go_wp2
  go_ret
  exact ⟨ret_b HF.out.symm, Below.refl _ _⟩
theorem bigS (a : Option Addr) (cap n : Nat) (w : World) : Calls Tryd.prog 6 #[.slice a n cap] w fun e w' => e = .returned (.bool (decide ((1048576 : Int) < (n : Int)))) ∧ w' = w := by
 go_enter Tryd.func6, Tryd.ntmps6
 go_wp2
 go_ret
 exact ⟨rfl, rfl⟩
set_option maxRecDepth 100000 in
theorem hasL (v : Value) (xs : List Int) (x : Int) (w : World) (h : Ints w v xs) (hn : xs.length ≤ 1048576) :
  Calls Tryd.prog 21 #[v, .int .i64 x] w fun e w' => e = .returned (.bool (decide (x ∈ xs))) ∧ Below w.heap.size w w' := by
 have H := Lib.hid h
 obtain ⟨a, cap, rfl⟩ := ints_len h
 clear h
 go_enter Tryd.func21, Tryd.ntmps21
 go_wp2
 go_loop [5] (fun i => ∃ k : Nat, k ≤ xs.length ∧ i = .int .i64 k ∧ Hid (∀ j, j < k → xs.getD j 0 ≠ x)) (fun i => xs.length - (intOf i).toNat)
 case atStart => exact ⟨0, Nat.zero_le _, rfl, Lib.hid (fun j hj => by omega)⟩
 case round =>
  obtain ⟨k, hk, rfl, hne⟩ := hrel
  by_cases hlt : k < xs.length
  ·
   obtain ⟨b, off, cap', hv, hbl, hc⟩ := ints_cell H.out (by omega)
   simp only [Value.slice.injEq] at hv
   obtain ⟨rfl, _, rfl⟩ := hv
   have hcell := hc k hlt
   have i1 : (0 : Int) ≤ (k : Int) := by omega
   have i2 : (k : Int) < (xs.length : Int) := by omega
   clear hc
   by_cases he : xs.getD k 0 = x
   ·
    have HY := Lib.hid (show decide (x ∈ xs) = true from decide_eq_true ((member_iff xs x).2 ⟨k, hlt, he⟩))
    rw [he] at hcell
    have heq : (x == x) = true := by simp
    clear he
    go_wp2
    go_ret
    exact ⟨ret_b HY.out.symm, Below.refl _ _⟩
   ·
    have HN : Hid (∀ j, j < k + 1 → xs.getD j 0 ≠ x) := Lib.hid (fun j hj => by
     by_cases e : j = k
     ·
      exact e ▸ he
     ·
      exact hne.out j (by omega))
    have heq : (xs.getD k 0 == x) = false := by rw [beq_eq_false_iff_ne]; exact he
    clear he
    generalize xs.getD k 0 = y at hcell heq
    go_wp2
    go_round
    case rel => exact ⟨k + 1, by omega, by go_num, HN⟩
    case measure => simp [intOf]; omega
  ·
   have HN := Lib.hid (show decide (x ∈ xs) = false from decide_eq_false (fun g => by
    obtain ⟨j, hj, e⟩ := (member_iff xs x).1 g
    exact hne.out j (by omega) e))
   go_wp2
   go_ret
   exact ⟨ret_b HN.out.symm, Below.refl _ _⟩
end Go.Proofs.YtededfficggkaaaDoor
