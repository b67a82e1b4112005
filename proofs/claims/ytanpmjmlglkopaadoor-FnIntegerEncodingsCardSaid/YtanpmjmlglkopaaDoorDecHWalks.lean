/-
  The walks of DecodeHex: both return what 'decH' computes.
-/
import Derived.Test.YtanpmjmlglkopaaDoorHexWalks
import Derived.Test.YtanpmjmlglkopaaDoorIter
namespace Go.Proofs.YtanpmjmlglkopaaDoor
open Go.RowKit
set_option linter.unusedVariables false
/-! ### spec.l1FromHex -/
/-! ### impl.hexValue -/
theorem hexValue_dec (r : Int) (w : World) (h0 : 48 ≤ r) (h1 : r ≤ 57) : Calls Tryd.prog 27 #[.int .i32 r] w fun e w' => e = .returned (.tuple #[.int .u8 (r - 48), .bool true]) ∧ w' = w := by
  go_enter Tryd.func27, Tryd.ntmps27
  go_wp2
  go_ret2
  exact ⟨rfl, rfl⟩
theorem hexValue_let (r : Int) (w : World) (h0 : 97 ≤ r) (h1 : r ≤ 102) : Calls Tryd.prog 27 #[.int .i32 r] w fun e w' => e = .returned (.tuple #[.int .u8 (r - 97 + 10), .bool true]) ∧ w' = w := by
  go_enter Tryd.func27, Tryd.ntmps27
  go_wp2
  go_ret2
  exact ⟨rfl, rfl⟩
theorem hexValue_low (r : Int) (w : World) (h : r < 48) : Calls Tryd.prog 27 #[.int .i32 r] w fun e w' => e = .returned (.tuple #[.int .u8 0, .bool false]) ∧ w' = w := by
  go_enter Tryd.func27, Tryd.ntmps27
  go_wp2
  go_ret2
  exact ⟨rfl, rfl⟩
theorem hexValue_mid (r : Int) (w : World) (h0 : 57 < r) (h1 : r < 97) : Calls Tryd.prog 27 #[.int .i32 r] w fun e w' => e = .returned (.tuple #[.int .u8 0, .bool false]) ∧ w' = w := by
  go_enter Tryd.func27, Tryd.ntmps27
  go_wp2
  go_ret2
  exact ⟨rfl, rfl⟩
theorem hexValue_high (r : Int) (w : World) (h : 102 < r) : Calls Tryd.prog 27 #[.int .i32 r] w fun e w' => e = .returned (.tuple #[.int .u8 0, .bool false]) ∧ w' = w := by
  go_enter Tryd.func27, Tryd.ntmps27
  go_wp2
  go_ret2
  exact ⟨rfl, rfl⟩
theorem hexValue_yes (r : Int) (w : World) (h : 0 ≤ hexI r) : Calls Tryd.prog 27 #[.int .i32 r] w fun e w' => e = .returned (.tuple #[.int .u8 (hexI r), .bool true]) ∧ w' = w := by
  unfold hexI at h ⊢
  by_cases h1 : 48 ≤ r ∧ r ≤ 57
  · rw [if_pos h1]; exact hexValue_dec r w h1.1 h1.2
  · rw [if_neg h1] at h ⊢
    by_cases h2 : 97 ≤ r ∧ r ≤ 102
    · rw [if_pos h2, show r - 87 = r - 97 + 10 by omega]; exact hexValue_let r w h2.1 h2.2
    · rw [if_neg h2] at h; omega
theorem hexValue_no (r : Int) (w : World) (h : hexI r < 0) : Calls Tryd.prog 27 #[.int .i32 r] w fun e w' => e = .returned (.tuple #[.int .u8 0, .bool false]) ∧ w' = w := by
  unfold hexI at h
  by_cases h1 : 48 ≤ r ∧ r ≤ 57
  · rw [if_pos h1] at h; omega
  · rw [if_neg h1] at h
    by_cases h2 : 97 ≤ r ∧ r ≤ 102
    · rw [if_pos h2] at h; omega
    · by_cases h3 : r < 48
      · exact hexValue_low r w h3
      · by_cases h4 : r < 97
        · exact hexValue_mid r w (by omega) h4
        · exact hexValue_high r w (by omega)
end Go.Proofs.YtanpmjmlglkopaaDoor
