/-
  The walks of the specification's functions on sets.
-/
import Derived.Test.YtededfficggkaaaLawInts
import Derived.Test.YtededfficggkaaaSetMath
import Derived.Deep.RegionHeld3
import Derived.IntWalk
namespace Go.Proofs.Ytededfficggkaaa
open Go.RowKit
set_option linter.unusedVariables false
theorem ret_b {b c : Bool} (h : b = c) : Ending.returned (.bool b) = .returned (.bool c) := by rw [h]
theorem in_yes (a l h : Int) (w : World) (h1 : l ≤ a) (h2 : a ≤ h) : Calls Try.prog 20 #[.int .i64 a, .int .i64 l, .int .i64 h] w fun e w' => e = .returned (.bool true) ∧ w' = w := by
  go_enter Try.func20, Try.ntmps20
  go_wp2
  go_ret
  exact ⟨rfl, rfl⟩
theorem in_no (a l h : Int) (w : World) (hh : ¬ (l ≤ a ∧ a ≤ h)) : Calls Try.prog 20 #[.int .i64 a, .int .i64 l, .int .i64 h] w fun e w' => e = .returned (.bool false) ∧ w' = w := by
  by_cases h1 : l ≤ a
  · have h2 : ¬ a ≤ h := by omega
    clear hh
    go_enter Try.func20, Try.ntmps20
    go_wp2
    go_ret
    exact ⟨rfl, rfl⟩
  · clear hh
    go_enter Try.func20, Try.ntmps20
    go_wp2
    go_ret
    exact ⟨rfl, rfl⟩
/-! ### HasMember -/
set_option maxRecDepth 100000 in
theorem specHas (v : Value) (xs : List Int) (x : Int) (w : World) (h : Ints w v xs) (hn : xs.length ≤ 1048576) :
    Calls Try.prog 17 #[v, .int .i64 x] w fun e w' => e = .returned (.bool (decide (x ∈ xs))) ∧ w = w' := by
  have H := Lib.hid h
  obtain ⟨a, cap, rfl⟩ := ints_len h
  clear h
  go_enter Try.func17, Try.ntmps17
  go_wp2
  go_loop [5] (fun i => ∃ k : Nat, k ≤ xs.length ∧ i = .int .i64 k ∧ Hid (∀ j, j < k → xs.getD j 0 ≠ x)) (fun i => xs.length - (intOf i).toNat)
  case atStart => exact ⟨0, Nat.zero_le _, rfl, Lib.hid (fun j hj => by omega)⟩
  case round =>
    obtain ⟨k, hk, rfl, hne⟩ := hrel
    by_cases hlt : k < xs.length
    · obtain ⟨b, off, cap', hv, hbl, hc⟩ := ints_cell H.out (by omega)
      simp only [Value.slice.injEq] at hv
      obtain ⟨rfl, _, rfl⟩ := hv
      have hcell := hc k hlt
      have i1 : (0 : Int) ≤ (k : Int) := by omega
      have i2 : (k : Int) < (xs.length : Int) := by omega
      clear hc
      by_cases he : xs.getD k 0 = x
      · have HY := Lib.hid (show decide (x ∈ xs) = true from decide_eq_true ((member_iff xs x).2 ⟨k, hlt, he⟩))
        rw [he] at hcell
        have heq : (x == x) = true := by simp
        clear he
        go_wp2
        go_ret
        exact ⟨ret_b HY.out.symm, rfl⟩
      · have HN : Hid (∀ j, j < k + 1 → xs.getD j 0 ≠ x) := Lib.hid (fun j hj => by
          by_cases e : j = k
          · exact e ▸ he
          · exact hne.out j (by omega))
        have heq : (xs.getD k 0 == x) = false := by rw [beq_eq_false_iff_ne]; exact he
        clear he
        generalize xs.getD k 0 = y at hcell heq
        go_wp2
        go_round
        case rel => exact ⟨k + 1, by omega, by go_num, HN⟩
        case measure => simp [intOf]; omega
    · have HN := Lib.hid (show decide (x ∈ xs) = false from decide_eq_false (fun g => by
        obtain ⟨j, hj, e⟩ := (member_iff xs x).1 g
        exact hne.out j (by omega) e))
      go_wp2
      go_ret
      exact ⟨ret_b HN.out.symm, rfl⟩
/-! ### IsSet -/
set_option maxHeartbeats 1000000 in
set_option maxRecDepth 100000 in
theorem specIsSetBig (v : Value) (xs : List Int) (w : World) (h : Ints w v xs) (hn : xs.length ≤ 1073741824) :
    Calls Try.prog 16 #[v] w fun e w' => e = .returned (.bool (setB xs)) ∧ Below w.heap.size w w' := by
  have H := Lib.hid h
  obtain ⟨a, cap, rfl⟩ := ints_len h
  clear h
  go_enter Try.func16, Try.ntmps16
  go_wp2
  go_loopw [3] (fun i wr => ∃ k : Nat, k ≤ xs.length ∧ i = .int .i64 k ∧ Hid (SetTo xs k) ∧ Below w.heap.size w wr) (fun i _ => xs.length - (intOf i).toNat)
  case atStart => exact ⟨0, Nat.zero_le _, rfl, Lib.hid ⟨fun i hi => by omega, fun i hi => by omega⟩, Below.refl _ _⟩
  case round =>
    obtain ⟨k, hk, rfl, hset, hbel⟩ := hrel
    by_cases hlt : k < xs.length
    · obtain ⟨b, off, cap', hv, hbl, hc⟩ := ints_cell H.out (by omega)
      simp only [Value.slice.injEq] at hv
      obtain ⟨rfl, _, rfl⟩ := hv
      have hcell := (hbel.cell (p := ⟨b, off + k, none⟩) hbl).trans (hc k hlt)
      have i1 : (0 : Int) ≤ (k : Int) := by omega
      have i2 : (k : Int) < (xs.length : Int) := by omega
      by_cases hin : 0 ≤ xs.getD k 0 ∧ xs.getD k 0 ≤ 23
      · by_cases hz : k = 0
        · have HS : Hid (SetTo xs (k + 1)) := Lib.hid (setTo_step hset.out hin.1 hin.2 (fun g => by omega))
          obtain ⟨g0, g1⟩ := hin
          have hd : decide (0 < k) = false := by simp [hz]
          have hd2 : decide ((0 : Int) < (k : Int)) = false := by simp [hz]
          clear hc hz
          generalize xs.getD k 0 = y at hcell g0 g1
          go_wp2
          go_quiet ((go_at_call 20; exact Calls.quiet_of_same (in_yes _ _ _ _ (by omega) (by omega))))
          go_wp2
          go_roundw
          case rel => exact ⟨k + 1, by omega, by go_num, HS, below_same hbel rfl rfl rfl rfl⟩
          case measure => simp [intOf]; omega
        · have hcellp := (hbel.cell (p := ⟨b, off + (k - 1), none⟩) hbl).trans (hc (k - 1) (by omega))
          obtain ⟨g0, g1⟩ := hin
          have hd : 0 < k := by omega
          have i3 : (0 : Int) ≤ (k : Int) - 1 := by omega
          have i4 : (k : Int) - 1 < (xs.length : Int) := by omega
          have i5 : ((k : Int) - 1).toNat = k - 1 := by omega
          have e1 : IntKind.i64.wrap ((k : Int) - 1) = (k : Int) - 1 := IntWalk.i64_in _ (by omega)
          by_cases hle : xs.getD k 0 ≤ xs.getD (k - 1) 0
          · have HNO := Lib.hid (setB_no (not_set_order hlt hd (by omega)))
            clear hc hz
            generalize xs.getD (k - 1) 0 = z at hcellp hle
            generalize xs.getD k 0 = y at hcell g0 g1 hle
            have hdl : decide (y ≤ z) = true := decide_eq_true hle
            go_wp2
            go_quiet ((go_at_call 20; exact Calls.quiet_of_same (in_yes _ _ _ _ (by omega) (by omega))))
            go_wp2
            go_ret
            exact ⟨ret_b HNO.out.symm, below_same hbel rfl rfl rfl rfl⟩
          · have HS : Hid (SetTo xs (k + 1)) := Lib.hid (setTo_step hset.out g0 g1 (fun _ => by omega))
            clear hc hz
            generalize xs.getD (k - 1) 0 = z at hcellp hle
            generalize xs.getD k 0 = y at hcell g0 g1 hle
            have hdl : decide (y ≤ z) = false := decide_eq_false hle
            go_wp2
            go_quiet ((go_at_call 20; exact Calls.quiet_of_same (in_yes _ _ _ _ (by omega) (by omega))))
            go_wp2
            go_roundw
            case rel => exact ⟨k + 1, by omega, by go_num, HS, below_same hbel rfl rfl rfl rfl⟩
            case measure => simp [intOf]; omega
      · have HNO := Lib.hid (setB_no (not_set_range hlt hin))
        clear hc
        generalize xs.getD k 0 = y at hcell hin
        have HI := Lib.hid hin
        clear hin
        go_wp2
        go_quiet ((go_at_call 20; exact Calls.quiet_of_same (in_no _ _ _ _ HI.out)))
        go_wp2
        go_ret
        exact ⟨ret_b HNO.out.symm, below_same hbel rfl rfl rfl rfl⟩
    · obtain rfl : k = xs.length := by omega
      have HY := Lib.hid ((setB_iff xs).2 hset.out)
      go_wp2
      go_ret
      exact ⟨ret_b HY.out.symm, hbel⟩
theorem specIsSet (v : Value) (xs : List Int) (w : World) (h : Ints w v xs) (hn : xs.length ≤ 1048576) :
    Calls Try.prog 16 #[v] w fun e w' => e = .returned (.bool (setB xs)) ∧ Below w.heap.size w w' := specIsSetBig v xs w h (by omega)
end Go.Proofs.Ytededfficggkaaa
