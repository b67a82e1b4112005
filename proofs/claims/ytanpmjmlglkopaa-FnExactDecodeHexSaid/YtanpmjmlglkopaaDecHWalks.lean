/-
  The walks of DecodeHex: both return what 'decH' computes.
-/
import Derived.Test.YtanpmjmlglkopaaHexWalks
import Derived.Test.YtanpmjmlglkopaaIter
namespace Go.Proofs.Ytanpmjmlglkopaa
open Go.RowKit
set_option linter.unusedVariables false
/-! ### spec.l1FromHex -/
theorem fromHex (b : Int) (w : World) : Calls Try.prog 24 #[.int .u8 b] w fun e w' => e = .returned (.int .i64 (hexI b)) ∧ w' = w := by
  go_enter Try.func24, Try.ntmps24
  go_wp2
  go_loop [3] (fun i => ∃ k : Nat, k ≤ 16 ∧ i = .int .i64 k ∧ Hid (∀ j : Nat, j < k → hexD j ≠ b)) (fun i => 16 - (intOf i).toNat)
  case atStart => exact ⟨0, by omega, rfl, Lib.hid (fun j hj => by omega)⟩
  case round =>
    obtain ⟨k, hk, rfl, hne⟩ := hrel
    by_cases hlt : k < 16
    · have HD := Lib.hid (fun w => digit_any (k : Int) w (by omega) (by omega))
      by_cases he : hexD k = b
      · have heq : (hexD (k : Int) == b) = true := by simpa using he
        have hv := Lib.hid (show hexI b = k by rw [← he]; exact hexI_hexD k (by omega) (by omega))
        clear he
        go_wp2_with (go_at_call 23; refine (HD.out _).mono ?_; rintro e w' ⟨rfl, rfl⟩)
        go_ret
        exact ⟨ret_int hv.out.symm, rfl⟩
      · have heq : (hexD (k : Int) == b) = false := by simpa using he
        have HE := Lib.hid he
        clear he
        go_wp2_with (go_at_call 23; refine (HD.out _).mono ?_; rintro e w' ⟨rfl, rfl⟩)
        go_round
        case rel => exact ⟨k + 1, by omega, by go_num, Lib.hid (fun j hj => by by_cases h : j = k; exact h ▸ HE.out; exact hne.out j (by omega))⟩
        case measure => simp [intOf]; omega
    · have hv := Lib.hid (hexI_none b (fun j hj => hne.out j (by omega)))
      go_wp2
      go_ret
      exact ⟨ret_int hv.out.symm, rfl⟩
/-! ### impl.hexValue -/
theorem hexValue_dec (r : Int) (w : World) (h0 : 48 ≤ r) (h1 : r ≤ 57) : Calls Try.prog 25 #[.int .i32 r] w fun e w' => e = .returned (.tuple #[.int .u8 (r - 48), .bool true]) ∧ w' = w := by
  go_enter Try.func25, Try.ntmps25
  go_wp2
  go_ret2
  exact ⟨rfl, rfl⟩
theorem hexValue_let (r : Int) (w : World) (h0 : 97 ≤ r) (h1 : r ≤ 102) : Calls Try.prog 25 #[.int .i32 r] w fun e w' => e = .returned (.tuple #[.int .u8 (r - 97 + 10), .bool true]) ∧ w' = w := by
  go_enter Try.func25, Try.ntmps25
  go_wp2
  go_ret2
  exact ⟨rfl, rfl⟩
theorem hexValue_low (r : Int) (w : World) (h : r < 48) : Calls Try.prog 25 #[.int .i32 r] w fun e w' => e = .returned (.tuple #[.int .u8 0, .bool false]) ∧ w' = w := by
  go_enter Try.func25, Try.ntmps25
  go_wp2
  go_ret2
  exact ⟨rfl, rfl⟩
theorem hexValue_mid (r : Int) (w : World) (h0 : 57 < r) (h1 : r < 97) : Calls Try.prog 25 #[.int .i32 r] w fun e w' => e = .returned (.tuple #[.int .u8 0, .bool false]) ∧ w' = w := by
  go_enter Try.func25, Try.ntmps25
  go_wp2
  go_ret2
  exact ⟨rfl, rfl⟩
theorem hexValue_high (r : Int) (w : World) (h : 102 < r) : Calls Try.prog 25 #[.int .i32 r] w fun e w' => e = .returned (.tuple #[.int .u8 0, .bool false]) ∧ w' = w := by
  go_enter Try.func25, Try.ntmps25
  go_wp2
  go_ret2
  exact ⟨rfl, rfl⟩
theorem hexValue_yes (r : Int) (w : World) (h : 0 ≤ hexI r) : Calls Try.prog 25 #[.int .i32 r] w fun e w' => e = .returned (.tuple #[.int .u8 (hexI r), .bool true]) ∧ w' = w := by
  unfold hexI at h ⊢
  by_cases h1 : 48 ≤ r ∧ r ≤ 57
  · rw [if_pos h1]; exact hexValue_dec r w h1.1 h1.2
  · rw [if_neg h1] at h ⊢
    by_cases h2 : 97 ≤ r ∧ r ≤ 102
    · rw [if_pos h2, show r - 87 = r - 97 + 10 by omega]; exact hexValue_let r w h2.1 h2.2
    · rw [if_neg h2] at h; omega
theorem hexValue_no (r : Int) (w : World) (h : hexI r < 0) : Calls Try.prog 25 #[.int .i32 r] w fun e w' => e = .returned (.tuple #[.int .u8 0, .bool false]) ∧ w' = w := by
  unfold hexI at h
  by_cases h1 : 48 ≤ r ∧ r ≤ 57
  · rw [if_pos h1] at h; omega
  · rw [if_neg h1] at h
    by_cases h2 : 97 ≤ r ∧ r ≤ 102
    · rw [if_pos h2] at h; omega
    · by_cases h3 : r < 48
      · exact hexValue_low r w h3
      · by_cases h4 : r < 97
        · exact hexValue_mid r w (by omega) h4
        · exact hexValue_high r w (by omega)
end Go.Proofs.Ytanpmjmlglkopaa
