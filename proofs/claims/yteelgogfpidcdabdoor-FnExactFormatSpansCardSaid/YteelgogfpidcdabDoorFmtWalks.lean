/-
  The walks of FormatInt: both return the decimal numeral.
-/
import Derived.Test.YteelgogfpidcdabDoorBytes
import Derived.Test.YteelgogfpidcdabDoorFmtMath
import Derived.WalkSpells
import Derived.Test.YteelgogfpidcdabDoorShelf
import Derived.Lib.AppendIntMem
namespace Go.Proofs.YteelgogfpidcdabDoor
open Go.RowKit
set_option linter.unusedVariables false
theorem specFmt_zero (w : World) : Calls Tryd.prog 12 #[.int .i64 0] w fun e w' => e = .returned (.string ⟨#[48]⟩) ∧ Below w.heap.size w w' := by
  go_enter Tryd.func12, Tryd.ntmps12
  go_wp2
  go_ret
  exact ⟨rfl, Below.refl _ _⟩
set_option maxRecDepth 100000 in
theorem specFmt_pos (u : Nat) (w : World) (h1 : 1 ≤ u) (h2 : u ≤ 9223372036854775807) : Calls Tryd.prog 12 #[.int .i64 u] w fun e w' => e = .returned (.string (strOfNums (decI u))) ∧ Below w.heap.size w w' := by
  have hcv := string_lit1
  have hz : ((u : Int) == 0) = false := by rw [beq_eq_false_iff_ne]; omega
  have hneg : decide ((u : Int) < 0) = false := by simp
  go_enter Tryd.func12, Tryd.ntmps12
  go_wp2
  go_loopw [0, 3] (fun n s wr => ∃ (m : Nat) (xs : List Int), m ≤ u ∧ n = .int .i64 m ∧ s = .string (strOfNums xs) ∧ Below w.heap.size w wr ∧ Hid (DecInv u m xs)) (fun n _ _ => (intOf n).toNat)
  case atStart => exact ⟨u, [], Nat.le_refl _, rfl, rfl, Below.refl _ _, Lib.hid (decInv_start u h1)⟩
  case round =>
    obtain ⟨m, xs, hm, rfl, rfl, hbel, hinv⟩ := hrel
    have hB := hbel.size
    by_cases hlt : 1 ≤ m
    · have hz : ((m : Int) != 0) = true := by rw [bne_iff_ne]; omega
      have HS := Lib.hid (decInv_step hinv.out hlt)
      have hl := decInv_len hinv.out (by omega) h1
      have hb2 := hbel.alloc hB (.cells #[.int .u8 (48 + (m : Int) % 10)] 5)
      have hadd := concat_cons (48 + (m : Int) % 10) xs (by omega)
      have hml : m / 10 < m := by omega
      go_wp2
      go_roundw
      case rel => exact ⟨m / 10, _, by omega, by go_num, by rfl, hb2, by have := HS.out; simpa using Lib.hid this⟩
      case measure => simp [intOf]; omega
    · obtain rfl : m = 0 := by omega
      have HE := Lib.hid (decInv_end hinv.out)
      go_wp2
      go_ret
      exact ⟨ret_strI HE.out, hbel⟩
set_option maxRecDepth 100000 in
theorem specFmt_neg (u : Nat) (w : World) (h1 : 1 ≤ u) (h2 : u ≤ 9223372036854775808) : Calls Tryd.prog 12 #[.int .i64 (-(u : Int))] w fun e w' => e = .returned (.string (strOfNums (45 :: decI u))) ∧ Below w.heap.size w w' := by
  have hcv := string_lit1
  have hz : ((-(u : Int)) == 0) = false := by rw [beq_eq_false_iff_ne]; omega
  have hneg : decide (0 < u) = true := by simp; omega
  have H2 := Lib.hid h2; clear h2
  go_enter Tryd.func12, Tryd.ntmps12
  go_wp2
  go_loopw [0, 3] (fun n s wr => ∃ (m : Nat) (xs : List Int), m ≤ u ∧ n = .int .i64 (-(m : Int)) ∧ s = .string (strOfNums xs) ∧ Below w.heap.size w wr ∧ Hid (DecInv u m xs)) (fun n _ _ => (-(intOf n)).toNat)
  case atStart => exact ⟨u, [], Nat.le_refl _, rfl, rfl, Below.refl _ _, Lib.hid (decInv_start u h1)⟩
  case round =>
    obtain ⟨m, xs, hm, rfl, rfl, hbel, hinv⟩ := hrel
    have hB := hbel.size
    by_cases hlt : 1 ≤ m
    · have hz : ((-(m : Int)) != 0) = true := by rw [bne_iff_ne]; omega
      have HS := Lib.hid (decInv_step hinv.out hlt)
      have hl := decInv_len hinv.out H2.out h1
      have hml : m / 10 < m := by omega
      have e1 : (-(m : Int)).tmod 10 = -((m : Int) % 10) := by rw [Int.neg_tmod, Int.tmod_eq_emod_of_nonneg (by omega)]
      have e2 : (-(m : Int)).tdiv 10 = -((m : Int) / 10) := by rw [Int.neg_tdiv, Int.tdiv_eq_ediv_of_nonneg (by omega)]
      have hbd : (m : Int) / 10 ≤ 922337203685477580 := by have := H2.out; omega
      by_cases hr : m % 10 = 0
      · have hr' : (m : Int) % 10 = 0 := by omega
        have HX : Hid (DecInv u (m / 10) (48 :: xs)) := Lib.hid (by have := HS.out; rwa [show ((m % 10 : Nat) : Int) = 0 by omega] at this)
        have hadd := concat_cons 48 xs (by omega)
        have hb2 := hbel.alloc hB (.cells #[.int .u8 48] 5)
        rw [hr'] at e1
        clear hr hr' HS
        go_wp2
        go_roundw
        case rel => exact ⟨m / 10, _, by omega, by go_num, by rfl, hb2, HX⟩
        case measure => simp [intOf]; omega
      · have hr' : 0 < (m : Int) % 10 := by omega
        have hadd := concat_cons (48 + (m : Int) % 10) xs (by omega)
        have hb2 := hbel.alloc hB (.cells #[.int .u8 (48 + (m : Int) % 10)] 5)
        clear hr
        go_wp2
        go_roundw
        case rel => exact ⟨m / 10, _, by omega, by go_num, by rfl, hb2, by have := HS.out; simpa using Lib.hid this⟩
        case measure => simp [intOf]; omega
    · obtain rfl : m = 0 := by omega
      have HE := Lib.hid (decInv_end hinv.out)
      have hl := decInv_len hinv.out H2.out h1
      have hadd := concat_cons 45 xs (by omega)
      have hadd' : ∀ w, (Op.stringOp .add ⟨#[45]⟩ (strOfNums xs)).run Tryd.prog w = .ok (.string (strOfNums (45 :: xs))) w := hadd
      go_wp2
      go_ret
      exact ⟨ret_strI (by rw [HE.out]), hbel⟩
theorem specFmt (n : Int) (w : World) (h0 : -9223372036854775808 ≤ n) (h1 : n ≤ 9223372036854775807) : Calls Tryd.prog 12 #[.int .i64 n] w fun e w' => e = .returned (.string ⟨(Lib.itoa n).toArray⟩) ∧ Below w.heap.size w w' := by
  by_cases hz : n = 0
  · subst hz; rw [show Lib.itoa 0 = [48] by unfold Lib.itoa; rw [if_neg (by decide)]; exact Lib.decDigits_one (by decide)]; exact specFmt_zero w
  · by_cases hp : 0 < n
    · obtain ⟨u, rfl⟩ := Int.eq_ofNat_of_zero_le (show 0 ≤ n by omega)
      rw [← str_decI]; exact specFmt_pos u w (by omega) (by omega)
    · obtain ⟨u, hu⟩ := Int.eq_ofNat_of_zero_le (show 0 ≤ -n by omega)
      obtain rfl : n = -(u : Int) := by omega
      rw [← str_decI_neg u (by omega)]; exact specFmt_neg u w (by omega) (by omega)
/-- The library's table reads as its text lays it. -/
def Tab (w : World) : Prop := Lib.TabIs Tryd.prog w "internal/strconv.uint64pow10" .u64 Lib.pow10Tab
theorem Tab.on {w w' : World} (h : Tab w) (hb : Below w.heap.size w w') : Tab w' := Lib.tabBelow_of_tabIs h w' hb
theorem implFmt (n : Int) (w : World) (h0 : -9223372036854775808 ≤ n) (h1 : n ≤ 9223372036854775807) (htab : Tab w) : Calls Tryd.prog 24 #[.int .i64 n] w fun e w' => e = .returned (.string ⟨(Lib.itoa n).toArray⟩) ∧ Below w.heap.size w w' := by
  have H := Lib.hid htab; clear htab
  go_enter Tryd.func24, Tryd.ntmps24
  go_wp2_with (go_at_call 31; refine (Tryd.strconv_Itoa n h0 h1 _ H.out).mono ?_; rintro e w' ⟨rfl, k, os, rfl⟩)
  go_ret
  exact ⟨rfl, Lib.below_grow _ _ (Nat.le_refl _) k os⟩
end Go.Proofs.YteelgogfpidcdabDoor
