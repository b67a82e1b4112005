/-
  The walks of the fixed-width decoders: each returns what 'decF' computes.
-/
import Derived.Test.YtanpmjmlglkopaaDoorRows
import Derived.Test.YtanpmjmlglkopaaDoorNumMath
import Derived.WalkKit
import Derived.Lib.Hide
namespace Go.Proofs.YtanpmjmlglkopaaDoor
open Go.RowKit
theorem in_true (a l h : Int) (w : World) (h1 : l ≤ a) (h2 : a ≤ h) : Calls Tryd.prog 26 #[.int .i64 a, .int .i64 l, .int .i64 h] w fun e w' => e = .returned (.bool true) ∧ w = w' := by
  go_enter Tryd.func26, Tryd.ntmps26
  go_wp2
  go_ret
  exact ⟨rfl, rfl⟩
theorem in_false (a l h : Int) (w : World) (hh : ¬ (l ≤ a ∧ a ≤ h)) : Calls Tryd.prog 26 #[.int .i64 a, .int .i64 l, .int .i64 h] w fun e w' => e = .returned (.bool false) ∧ w = w' := by
  by_cases h1 : l ≤ a
  · have h2 : ¬ a ≤ h := by omega
    clear hh
    go_enter Tryd.func26, Tryd.ntmps26
    go_wp2
    go_ret
    exact ⟨rfl, rfl⟩
  · clear hh
    go_enter Tryd.func26, Tryd.ntmps26
    go_wp2
    go_ret
    exact ⟨rfl, rfl⟩
theorem isWidth_true (a : Int) (w : World) (h1 : 1 ≤ a) (h2 : a ≤ 7) : Calls Tryd.prog 25 #[.int .i64 a] w fun e w' => e = .returned (.bool true) ∧ w = w' := by
  go_enter Tryd.func25, Tryd.ntmps25
  go_wp2
  go_ret
  exact ⟨rfl, rfl⟩
theorem isWidth_false (a : Int) (w : World) (h : ¬ (1 ≤ a ∧ a ≤ 7)) : Calls Tryd.prog 25 #[.int .i64 a] w fun e w' => e = .returned (.bool false) ∧ w = w' := by
  by_cases h1 : 1 ≤ a
  · have h2 : ¬ a ≤ 7 := by omega
    clear h
    go_enter Tryd.func25, Tryd.ntmps25
    go_wp2
    go_ret
    exact ⟨rfl, rfl⟩
  · clear h
    go_enter Tryd.func25, Tryd.ntmps25
    go_wp2
    go_ret
    exact ⟨rfl, rfl⟩
/-! ### spec.DecodeFixed -/
theorem decF_bad (l : List UInt8) (a : Int) (h : ¬ (1 ≤ a ∧ a ≤ 7 ∧ a ≤ (l.length : Int))) : decF l a = (0, false) := by unfold decF; rw [if_neg h]
theorem decF_ok (l : List UInt8) (a : Nat) (h1 : 1 ≤ a) (h2 : a ≤ 7) (h : a ≤ l.length) : decF l a = (be (l.take a), true) := by unfold decF; rw [if_pos (by omega)]; simp
theorem decF_lt (l : List UInt8) (a : Int) : (decF l a).1 < 72057594037927936 := by
  unfold decF; split
  · have := be_lt7 (l.take a.toNat) (by have := List.length_take_le a.toNat l; omega); omega
  · simp
/-! ### impl.DecodeFixed -/
theorem implDecF_ok (s : ByteArray) (a : Nat) (w : World) (h1 : 1 ≤ a) (h2 : a ≤ 7) (h : a ≤ s.size) :
    Calls Tryd.prog 13 #[.string s, .int .i64 a] w fun e w' => e = .returned (.tuple #[.int .i64 (be (s.data.toList.take a)), .bool true]) ∧ w = w' := by
  go_enter Tryd.func13, Tryd.ntmps13
  go_wp2_with (go_at_call 25; refine (isWidth_true _ _ (by omega) (by omega)).mono ?_; rintro e w' ⟨rfl, rfl⟩)
  go_loop [6, 7] (fun n i => ∃ k : Nat, k ≤ a ∧ i = .int .i64 k ∧ n = .int .i64 (be (s.data.toList.take k))) (fun _ i => a - (intOf i).toNat)
  case atStart => exact ⟨0, Nat.zero_le _, rfl, rfl⟩
  case round =>
    obtain ⟨k, hk, rfl, rfl⟩ := hrel
    by_cases hlt : k < a
    · have HS := Lib.hid (be_snoc (s.data.toList.take k) s[k])
      have HT := Lib.hid (take_snoc s k (by omega))
      have hb := be_lt6 (s.data.toList.take k) (by have := List.length_take_le k s.data.toList; omega)
      have hb2 := (s[k]).toNat_lt
      have hks : k < s.size := by omega
      go_wp2
      go_round
      case rel => exact ⟨k + 1, by omega, by go_num, by rw [HT.out, HS.out, i64_or8 _ _ (by omega) (by omega) (by omega) (by omega)]; go_num⟩
      case measure => simp [intOf]; omega
    · obtain rfl : k = a := by omega
      go_wp2
      go_ret2
      exact ⟨rfl, rfl⟩
theorem implDecF_bad1 (s : ByteArray) (a : Int) (w : World) (h : ¬ (1 ≤ a ∧ a ≤ 7)) :
    Calls Tryd.prog 13 #[.string s, .int .i64 a] w fun e w' => e = .returned (.tuple #[.int .i64 0, .bool false]) ∧ w = w' := by
  have H := Lib.hid h; clear h
  go_enter Tryd.func13, Tryd.ntmps13
  go_wp2_with (go_at_call 25; refine (isWidth_false _ _ H.out).mono ?_; rintro e w' ⟨rfl, rfl⟩)
  go_ret2
  exact ⟨rfl, rfl⟩
theorem implDecF_bad2 (s : ByteArray) (a : Int) (w : World) (h1 : 1 ≤ a) (h2 : a ≤ 7) (h : (s.size : Int) < a) :
    Calls Tryd.prog 13 #[.string s, .int .i64 a] w fun e w' => e = .returned (.tuple #[.int .i64 0, .bool false]) ∧ w = w' := by
  go_enter Tryd.func13, Tryd.ntmps13
  go_wp2_with (go_at_call 25; refine (isWidth_true _ _ (by omega) (by omega)).mono ?_; rintro e w' ⟨rfl, rfl⟩)
  go_ret2
  exact ⟨rfl, rfl⟩
theorem implDecF (s : ByteArray) (a : Int) (w : World) :
    Calls Tryd.prog 13 #[.string s, .int .i64 a] w fun e w' => e = .returned (.tuple #[.int .i64 (decF s.data.toList a).1, .bool (decF s.data.toList a).2]) ∧ w = w' := by
  have hl : s.data.toList.length = s.size := by simp
  by_cases h : 1 ≤ a ∧ a ≤ 7
  · by_cases h3 : (s.size : Int) < a
    · rw [decF_bad _ _ (by omega)]; exact implDecF_bad2 s a w h.1 h.2 h3
    · obtain ⟨n, rfl⟩ := Int.eq_ofNat_of_zero_le (show 0 ≤ a by omega)
      rw [decF_ok _ _ (by omega) (by omega) (by omega)]; exact implDecF_ok s n w (by omega) (by omega) (by omega)
  · rw [decF_bad _ _ (by omega)]; exact implDecF_bad1 s a w h
end Go.Proofs.YtanpmjmlglkopaaDoor
