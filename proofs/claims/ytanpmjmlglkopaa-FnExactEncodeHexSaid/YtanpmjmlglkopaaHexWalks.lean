/-
  The walks of the encoders of hexadecimal digits: each returns two digits for each byte.
-/
import Derived.Test.YtanpmjmlglkopaaNumWalks
import Derived.Test.YtanpmjmlglkopaaBytes
import Derived.Test.YtanpmjmlglkopaaDecHMath
import Derived.WalkSpells
import Derived.Deep.RegionHeld3
import Derived.IntWalk
namespace Go.Proofs.Ytanpmjmlglkopaa
open Go.RowKit
set_option linter.unusedVariables false
theorem digit_any (q : Int) (w : World) (h0 : 0 ≤ q) (h : q < 16) : Calls Try.prog 23 #[.int .i64 q] w fun e w' => e = .returned (.int .u8 (hexD q)) ∧ w' = w := by
  have hk : q = 0 ∨ q = 1 ∨ q = 2 ∨ q = 3 ∨ q = 4 ∨ q = 5 ∨ q = 6 ∨ q = 7 ∨ q = 8 ∨ q = 9 ∨ q = 10 ∨ q = 11 ∨ q = 12 ∨ q = 13 ∨ q = 14 ∨ q = 15 := by omega
  clear h h0
  rcases hk with rfl | rfl | rfl | rfl | rfl | rfl | rfl | rfl | rfl | rfl | rfl | rfl | rfl | rfl | rfl | rfl
  all_goals
    go_enter Try.func23, Try.ntmps23
    go_wp2
    go_ret
    exact ⟨rfl, rfl⟩
/-- The two digits of a byte. -/
def hex2 (b : UInt8) : List Int := [hexD ((b.toNat : Int) / 16), hexD ((b.toNat : Int) % 16)]
/-- EncodeHex. -/
def hexL (l : List UInt8) : List Int := l.flatMap hex2
theorem hexL_snoc (l : List UInt8) (b : UInt8) : hexL (l ++ [b]) = hexL l ++ hex2 b := by simp [hexL]
theorem hexL_length (l : List UInt8) : (hexL l).length = 2 * l.length := by
  induction l with
  | nil => rfl
  | cons b l ih => simp only [hexL, List.flatMap_cons, List.length_append, List.length_cons] at ih ⊢; rw [ih]; simp [hex2]; omega
set_option maxRecDepth 100000 in
theorem specHex (s : ByteArray) (w : World) (hs : s.size ≤ 1048576) :
    Calls Try.prog 17 #[.string s] w fun e w' => e = .returned (.string (strOfNums (hexL s.data.toList))) ∧ Below w.heap.size w w' := by
  go_enter Try.func17, Try.ntmps17
  go_wp2
  go_loopw [3, 4] (fun v i wr => ∃ k : Nat, k ≤ s.size ∧ i = .int .i64 k ∧ OwnsB wr w.heap.size v (hexL (s.data.toList.take k)) ∧ Below w.heap.size w wr) (fun _ i _ => s.size - (intOf i).toNat)
  case atStart => exact ⟨0, Nat.zero_le _, rfl, ownsB_lit w _ (Nat.le_refl _) #[] 0 _ rfl rfl (by decide), (Below.refl _ _).alloc (Nat.le_refl _) _⟩
  case round =>
    obtain ⟨k, hk, rfl, hown, hbel⟩ := hrel
    have hB := hbel.size
    by_cases hlt : k < s.size
    · have i1 : (0 : Int) ≤ (k : Int) := by omega
      have i2 : (k : Int) < (s.size : Int) := by omega
      have hb := (s[k]).toNat_lt
      have e1 : IntKind.i64.wrap (s[k].toNat : Int) = (s[k].toNat : Int) := IntWalk.i64_in _ (by omega)
      have e2 : (s[k].toNat : Int).tdiv 16 = (s[k].toNat : Int) / 16 := Int.tdiv_eq_ediv_of_nonneg (by omega)
      have e3 : IntKind.i64.wrap ((s[k].toNat : Int) / 16) = (s[k].toNat : Int) / 16 := IntWalk.i64_in _ (by omega)
      have e4 : (s[k].toNat : Int).tmod 16 = (s[k].toNat : Int) % 16 := Int.tmod_eq_emod_of_nonneg (by omega)
      have e5 : IntKind.i64.wrap ((s[k].toNat : Int) % 16) = (s[k].toNat : Int) % 16 := IntWalk.i64_in _ (by omega)
      have HS := Lib.hid (hexL_snoc (s.data.toList.take k) s[k])
      have HT := Lib.hid (take_snoc s k hlt)
      have HL := Lib.hid (show (hexL (s.data.toList.take k)).length ≤ 2097152 by rw [hexL_length]; have := List.length_take_le k s.data.toList; omega)
      have HD1 := Lib.hid (fun w => digit_any ((s[k].toNat : Int) / 16) w (by omega) (by omega))
      have HD2 := Lib.hid (fun w => digit_any ((s[k].toNat : Int) % 16) w (by omega) (by omega))
      go_wp2_with fail
      go_region_held3 (fun _ => True) (trivial) (first | (go_at_call 23; first | (refine (HD1.out _).mono ?_; rintro e w' ⟨rfl, rfl⟩) | (refine (HD2.out _).mono ?_; rintro e w' ⟨rfl, rfl⟩)) | (refine step_append_bytes (by rfl) (.tmp 12) (.tmp 25) (by rfl) w.heap.size _ _ (by rfl) hown hB _ (hex2 s[k]) 2 _ (by rfl) (by simp [hex2]) (by rfl) (by have := HL.out; simp [hex2]; omega) ?_; intro v' w1 hown1 hbel1))
      all_goals
        rw [← HS.out, ← HT.out] at hown1
        have hb3 := hbel.trans hbel1
        clear hown hbel hbel1 e1 e2 e3 e4 e5
        go_wp2
        go_roundw
        case rel => exact ⟨k + 1, by omega, by go_num, hown1, hb3⟩
        case measure => simp [intOf]; omega
    · obtain rfl : k = s.size := by omega
      have hcv := string_owned hown
      have HT := Lib.hid (show s.data.toList.take s.size = s.data.toList from List.take_of_length_le (by simp))
      go_wp2
      go_ret
      exact ⟨ret_strI (by rw [HT.out]), hbel⟩
theorem dig_at (q : Int) (h0 : 0 ≤ q) (h1 : q < 16) (h : q.toNat < (ByteArray.mk #[48, 49, 50, 51, 52, 53, 54, 55, 56, 57, 97, 98, 99, 100, 101, 102]).size) :
    (((ByteArray.mk #[48, 49, 50, 51, 52, 53, 54, 55, 56, 57, 97, 98, 99, 100, 101, 102])[q.toNat]'h).toNat : Int) = hexD q := by
  have hk : q = 0 ∨ q = 1 ∨ q = 2 ∨ q = 3 ∨ q = 4 ∨ q = 5 ∨ q = 6 ∨ q = 7 ∨ q = 8 ∨ q = 9 ∨ q = 10 ∨ q = 11 ∨ q = 12 ∨ q = 13 ∨ q = 14 ∨ q = 15 := by omega
  rcases hk with rfl | rfl | rfl | rfl | rfl | rfl | rfl | rfl | rfl | rfl | rfl | rfl | rfl | rfl | rfl | rfl
  all_goals rfl
set_option maxRecDepth 100000 in
theorem implHex (s : ByteArray) (w : World) (hs : s.size ≤ 1048576) :
    Calls Try.prog 18 #[.string s] w fun e w' => e = .returned (.string (strOfNums (hexL s.data.toList))) ∧ Below w.heap.size w w' := by
  obtain ⟨i0, hi, hz0, hz1, hz2⟩ := info_parts Try.infoU8
  have HI := Lib.hid hi; have HZ0 := Lib.hid hz0; have HZ1 := Lib.hid hz1; have HZ2 := Lib.hid hz2
  clear hi hz0 hz1 hz2
  go_enter Try.func18, Try.ntmps18
  go_wp2_with (at_make; refine wpList_make_own _ rfl _ _ 36 rfl w.heap.size 5 i0 (.int .u8 0) 1 Try.underlying36 HI.out HZ0.out HZ1.out _ _ _ (2 * s.size) rfl rfl (by omega) (by rw [HZ2.out]; omega) (by unfold maxLen; omega) (Nat.le_refl _) ?_)
  intro w1 hown0 hg0
  have hown1 : OwnsB w1 w.heap.size _ [] := hown0
  have hbel1 := (Below.refl w.heap.size w).grown hg0 (Nat.le_refl _) (fun k hk => by cases hk)
  clear hown0 hg0
  go_wp2
  go_loopw [3, 4] (fun v i wr => ∃ k : Nat, k ≤ s.size ∧ i = .int .i64 k ∧ OwnsB wr w.heap.size v (hexL (s.data.toList.take k)) ∧ Below w.heap.size w wr) (fun _ i _ => s.size - (intOf i).toNat)
  case atStart => exact ⟨0, Nat.zero_le _, rfl, hown1, hbel1⟩
  case round =>
    obtain ⟨k, hk, rfl, hown, hbel⟩ := hrel
    have hB := hbel.size
    by_cases hlt : k < s.size
    · have i1 : (0 : Int) ≤ (k : Int) := by omega
      have i2 : (k : Int) < (s.size : Int) := by omega
      have hb := (s[k]).toNat_lt
      have e1 : IntKind.u8.wrap ((s[k].toNat : Int) / 16) = (s[k].toNat : Int) / 16 := by rw [IntKind.wrap_u8]; omega
      have e2 : (s[k].toNat : Int).tdiv 16 = (s[k].toNat : Int) / 16 := Int.tdiv_eq_ediv_of_nonneg (by omega)
      have e4 : (s[k].toNat : Int).tmod 16 = (s[k].toNat : Int) % 16 := Int.tmod_eq_emod_of_nonneg (by omega)
      have e5 : IntKind.u8.wrap ((s[k].toNat : Int) % 16) = (s[k].toNat : Int) % 16 := by rw [IntKind.wrap_u8]; omega
      have b1 : (0 : Int) ≤ (s[k].toNat : Int) / 16 := by omega
      have b2 : (s[k].toNat : Int) / 16 < 16 := by omega
      have b3 : (0 : Int) ≤ (s[k].toNat : Int) % 16 := by omega
      have b4 : (s[k].toNat : Int) % 16 < 16 := by omega
      have HS := Lib.hid (hexL_snoc (s.data.toList.take k) s[k])
      have HT := Lib.hid (take_snoc s k hlt)
      have HL := Lib.hid (show (hexL (s.data.toList.take k)).length ≤ 2097152 by rw [hexL_length]; have := List.length_take_le k s.data.toList; omega)
      go_wp2_with fail
      go_region_held3 (fun _ => True) (trivial) ((refine step_append_bytes (by rfl) (.tmp 15) (.tmp 26) (by rfl) w.heap.size _ _ (by rfl) hown hB _ (hex2 s[k]) 2 _ (by rfl) (by simp [hex2]; exact ⟨dig_at _ b1 b2 _, dig_at _ b3 b4 _⟩) (by rfl) (by have := HL.out; simp [hex2]; omega) ?_; intro v' w1 hown1 hbel1))
      all_goals
        rw [← HS.out, ← HT.out] at hown1
        have hb3 := hbel.trans hbel1
        clear hown hbel hbel1 e1 e2 e4 e5
        go_wp2
        go_roundw
        case rel => exact ⟨k + 1, by omega, by go_num, hown1, hb3⟩
        case measure => simp [intOf]; omega
    · obtain rfl : k = s.size := by omega
      have hcv := string_owned hown
      have HT := Lib.hid (show s.data.toList.take s.size = s.data.toList from List.take_of_length_le (by simp))
      go_wp2
      go_ret
      exact ⟨ret_strI (by rw [HT.out]), hbel⟩
end Go.Proofs.Ytanpmjmlglkopaa
