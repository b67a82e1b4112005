/-
  The walks of the encoders of fixed width: each returns the bytes 'encF'.
-/
import Derived.Test.YtanpmjmlglkopaaDoorNumWalks
import Derived.Test.YtanpmjmlglkopaaDoorBytes
import Derived.WalkSpells
namespace Go.Proofs.YtanpmjmlglkopaaDoor
open Go.RowKit
set_option linter.unusedVariables false
set_option maxRecDepth 100000 in
theorem specEncF_ok (n a : Nat) (w : World) (h1 : 1 ≤ a) (h2 : a ≤ 7) (h : n < 256 ^ a) (hn : n ≤ 9223372036854775807) :
    Calls Tryd.prog 14 #[.int .i64 n, .int .i64 a] w fun e w' => e = .returned (.string (strOfNums (beI a n))) ∧ Below w.heap.size w w' := by
  have H := Lib.hid h; clear h
  have hcv := string_lit1
  go_enter Tryd.func14, Tryd.ntmps14
  go_wp2_with (go_at_call 26; refine (in_true _ _ _ _ (by omega) (by omega)).mono ?_; rintro e w' ⟨rfl, rfl⟩)
  go_loopw [0, 5, 6] (fun n' s i wr => ∃ (k m : Nat), k ≤ a ∧ m ≤ n ∧ i = .int .i64 k ∧ n' = .int .i64 m ∧ s = .string (strOfNums (beI k n)) ∧ Below w.heap.size w wr ∧ Hid (m = n / 256 ^ k)) (fun _ _ i _ => a - (intOf i).toNat)
  case atStart => exact ⟨0, n, Nat.zero_le _, Nat.le_refl _, rfl, rfl, rfl, Below.refl _ _, Lib.hid (by simp)⟩
  case round =>
    obtain ⟨k, m, hk, hmn, rfl, rfl, rfl, hbel, hm⟩ := hrel
    have hB := hbel.size
    by_cases hlt : k < a
    · have HS := Lib.hid (beI_step hm.out)
      have HD := Lib.hid (div_step hm.out)
      have hb2 := hbel.alloc hB (.cells #[.int .u8 ((m % 256 : Nat) : Int)] 5)
      have hadd := concat_cons ((m : Int) % 256) (beI k n) (by rw [beI_length]; omega)
      go_wp2
      go_roundw
      case rel => exact ⟨k + 1, m / 256, by omega, by omega, by go_num, by go_num, by rw [HS.out]; go_num, hb2, HD⟩
      case measure => simp [intOf]; omega
    · obtain rfl : k = a := by omega
      have h0 : m = 0 := by rw [hm.out]; exact Nat.div_eq_of_lt H.out
      subst h0
      clear hm
      go_wp2
      go_ret
      exact ⟨rfl, hbel⟩
set_option maxRecDepth 100000 in
theorem specEncF_big (n a : Nat) (w : World) (h1 : 1 ≤ a) (h2 : a ≤ 7) (h : ¬ n < 256 ^ a) (hn : n ≤ 9223372036854775807) :
    Calls Tryd.prog 14 #[.int .i64 n, .int .i64 a] w fun e w' => e = .returned (.string (strOfNums [])) ∧ Below w.heap.size w w' := by
  have H := Lib.hid h; clear h
  have hcv := string_lit1
  go_enter Tryd.func14, Tryd.ntmps14
  go_wp2_with (go_at_call 26; refine (in_true _ _ _ _ (by omega) (by omega)).mono ?_; rintro e w' ⟨rfl, rfl⟩)
  go_loopw [0, 5, 6] (fun n' s i wr => ∃ (k m : Nat), k ≤ a ∧ m ≤ n ∧ i = .int .i64 k ∧ n' = .int .i64 m ∧ s = .string (strOfNums (beI k n)) ∧ Below w.heap.size w wr ∧ Hid (m = n / 256 ^ k)) (fun _ _ i _ => a - (intOf i).toNat)
  case atStart => exact ⟨0, n, Nat.zero_le _, Nat.le_refl _, rfl, rfl, rfl, Below.refl _ _, Lib.hid (by simp)⟩
  case round =>
    obtain ⟨k, m, hk, hmn, rfl, rfl, rfl, hbel, hm⟩ := hrel
    have hB := hbel.size
    by_cases hlt : k < a
    · have HS := Lib.hid (beI_step hm.out)
      have HD := Lib.hid (div_step hm.out)
      have hb2 := hbel.alloc hB (.cells #[.int .u8 ((m % 256 : Nat) : Int)] 5)
      have hadd := concat_cons ((m : Int) % 256) (beI k n) (by rw [beI_length]; omega)
      go_wp2
      go_roundw
      case rel => exact ⟨k + 1, m / 256, by omega, by omega, by go_num, by go_num, by rw [HS.out]; go_num, hb2, HD⟩
      case measure => simp [intOf]; omega
    · obtain rfl : k = a := by omega
      have h0 : 0 < m := by rw [hm.out]; exact Nat.div_pos (by have := H.out; omega) (Nat.pow_pos (by decide))
      clear hm
      go_wp2
      go_ret
      exact ⟨rfl, hbel⟩
theorem specEncF_bad (n a : Int) (w : World) (h : ¬ (0 ≤ n ∧ 1 ≤ a ∧ a ≤ 7)) :
    Calls Tryd.prog 14 #[.int .i64 n, .int .i64 a] w fun e w' => e = .returned (.string (strOfNums [])) ∧ Below w.heap.size w w' := by
  by_cases h1 : 1 ≤ a ∧ a ≤ 7
  · have hn : n < 0 := by omega
    have H := Lib.hid h1; clear h h1
    go_enter Tryd.func14, Tryd.ntmps14
    go_wp2_with (go_at_call 26; refine (in_true _ _ _ _ H.out.1 H.out.2).mono ?_; rintro e w' ⟨rfl, rfl⟩)
    go_ret
    exact ⟨rfl, Below.refl _ _⟩
  · have H := Lib.hid h1; clear h h1
    go_enter Tryd.func14, Tryd.ntmps14
    go_wp2_with (go_at_call 26; refine (in_false _ _ _ _ H.out).mono ?_; rintro e w' ⟨rfl, rfl⟩)
    go_ret
    exact ⟨rfl, Below.refl _ _⟩
theorem specEncF (n a : Int) (w : World) (hn : n ≤ 9223372036854775807) :
    Calls Tryd.prog 14 #[.int .i64 n, .int .i64 a] w fun e w' => e = .returned (.string (strOfNums (encF n a))) ∧ Below w.heap.size w w' := by
  by_cases h : 0 ≤ n ∧ 1 ≤ a ∧ a ≤ 7
  · obtain ⟨m, rfl⟩ := Int.eq_ofNat_of_zero_le h.1
    obtain ⟨b, rfl⟩ := Int.eq_ofNat_of_zero_le (show 0 ≤ a by omega)
    by_cases hb : m < 256 ^ b
    · rw [encF_ok m b (by omega) (by omega) hb]; exact specEncF_ok m b w (by omega) (by omega) hb (by omega)
    · rw [encF_big m b hb]; exact specEncF_big m b w (by omega) (by omega) hb (by omega)
  · rw [encF_bad n a h]; exact specEncF_bad n a w h
set_option maxRecDepth 100000 in
theorem implEncF_ok (n a : Nat) (w : World) (h1 : 1 ≤ a) (h2 : a ≤ 7) (h : n < 256 ^ a) (hn : n ≤ 9223372036854775807) :
    Calls Tryd.prog 12 #[.int .i64 n, .int .i64 a] w fun e w' => e = .returned (.string (strOfNums (beI a n))) ∧ Below w.heap.size w w' := by
  have hq := shr_zero n a h
  have H := Lib.hid h; clear h
  obtain ⟨i0, hi, hz0, hz1, hz2⟩ := info_parts Tryd.infoU8
  have HI := Lib.hid hi; have HZ0 := Lib.hid hz0; have HZ1 := Lib.hid hz1; have HZ2 := Lib.hid hz2
  clear hi hz0 hz1 hz2
  go_enter Tryd.func12, Tryd.ntmps12
  go_wp2_with (first | (go_at_call 25; refine (isWidth_true _ _ (by omega) (by omega)).mono ?_; rintro e w' ⟨rfl, rfl⟩) | (at_make; refine wpList_make_full _ rfl (.tmp 21) (.tmp 21) 22 rfl w.heap.size 5 i0 (.int .u8 0) 1 Tryd.underlying22 HI.out HZ0.out HZ1.out _ _ _ _ a rfl rfl rfl rfl (by rw [HZ2.out]; omega) (by unfold maxLen; omega) (Nat.le_refl _) ?_))
  intro w1 hown0 hg0
  have hown1 := ownsB_made hown0
  have hbel1 := (Below.refl w.heap.size w).grown hg0 (Nat.le_refl _) (fun k hk => by cases hk)
  clear hown0 hg0 hq
  go_wp2
  go_loopw [0, 6] (fun n' i wr => ∃ (k m : Nat), k ≤ a ∧ m ≤ n ∧ i = .int .i64 ((k : Int) - 1) ∧ n' = .int .i64 m ∧ OwnsB wr w.heap.size (.slice (some ⟨w.heap.size, 0, none⟩) a a) (List.replicate k 0 ++ beI (a - k) n) ∧ Below w.heap.size w wr ∧ Hid (m = n / 256 ^ (a - k))) (fun _ i _ => (intOf i + 1).toNat)
  case atStart => exact ⟨a, n, Nat.le_refl _, Nat.le_refl _, rfl, rfl, by rw [Nat.sub_self]; simpa [beI] using hown1, hbel1, Lib.hid (by simp)⟩
  case round =>
    obtain ⟨k, m, hk, hmn, rfl, rfl, hown, hbel, hm⟩ := hrel
    have hB := hbel.size
    cases k with
    | zero =>
      have hcv := string_owned hown
      simp only [List.replicate_zero, List.nil_append, Nat.sub_zero] at hcv
      clear hm
      go_wp2
      go_ret
      exact ⟨rfl, hbel⟩
    | succ j =>
      have hc := ownsB_cell hown (j := j) (x := 0) (by rw [List.getElem?_append_left (by simp)]; simp)
      have hf := ownsB_frozen hown j
      have hst := ownsB_store hown j ((m % 256 : Nat) : Int)
      rw [rep_set j a n m hm.out (by omega)] at hst
      have hb2 := hbel.setCell (p := ⟨w.heap.size, j, none⟩) (Nat.le_refl _) (.int .u8 ((m % 256 : Nat) : Int))
      have HD := Lib.hid (show m / 256 = n / 256 ^ (a - j) by rw [div_step hm.out]; congr 2; omega)
      rw [show ((j + 1 : Nat) : Int) - 1 = (j : Int) by omega]
      clear hown hbel hm
      have HST := Lib.hid hst; clear hst
      go_wp2
      go_roundw
      case rel => exact ⟨j, m / 256, by omega, by omega, by go_num, by go_num, HST.out, hb2, HD⟩
      case measure => simp [intOf]
theorem implEncF_big (n a : Nat) (w : World) (h1 : 1 ≤ a) (h2 : a ≤ 7) (h : ¬ n < 256 ^ a) (hn : n ≤ 9223372036854775807) :
    Calls Tryd.prog 12 #[.int .i64 n, .int .i64 a] w fun e w' => e = .returned (.string (strOfNums [])) ∧ Below w.heap.size w w' := by
  have hq := shr_pos n a h
  clear h
  go_enter Tryd.func12, Tryd.ntmps12
  go_wp2_with (go_at_call 25; refine (isWidth_true _ _ (by omega) (by omega)).mono ?_; rintro e w' ⟨rfl, rfl⟩)
  go_ret
  exact ⟨rfl, Below.refl _ _⟩
theorem implEncF_bad (n a : Int) (w : World) (h : ¬ (0 ≤ n ∧ 1 ≤ a ∧ a ≤ 7)) :
    Calls Tryd.prog 12 #[.int .i64 n, .int .i64 a] w fun e w' => e = .returned (.string (strOfNums [])) ∧ Below w.heap.size w w' := by
  by_cases h1 : 1 ≤ a ∧ a ≤ 7
  · have hn : n < 0 := by omega
    have H := Lib.hid h1; clear h h1
    go_enter Tryd.func12, Tryd.ntmps12
    go_wp2_with (go_at_call 25; refine (isWidth_true _ _ H.out.1 H.out.2).mono ?_; rintro e w' ⟨rfl, rfl⟩)
    go_ret
    exact ⟨rfl, Below.refl _ _⟩
  · have H := Lib.hid h1; clear h h1
    go_enter Tryd.func12, Tryd.ntmps12
    go_wp2_with (go_at_call 25; refine (isWidth_false _ _ H.out).mono ?_; rintro e w' ⟨rfl, rfl⟩)
    go_ret
    exact ⟨rfl, Below.refl _ _⟩
theorem implEncF (n a : Int) (w : World) (hn : n ≤ 9223372036854775807) :
    Calls Tryd.prog 12 #[.int .i64 n, .int .i64 a] w fun e w' => e = .returned (.string (strOfNums (encF n a))) ∧ Below w.heap.size w w' := by
  by_cases h : 0 ≤ n ∧ 1 ≤ a ∧ a ≤ 7
  · obtain ⟨m, rfl⟩ := Int.eq_ofNat_of_zero_le h.1
    obtain ⟨b, rfl⟩ := Int.eq_ofNat_of_zero_le (show 0 ≤ a by omega)
    by_cases hb : m < 256 ^ b
    · rw [encF_ok m b (by omega) (by omega) hb]; exact implEncF_ok m b w (by omega) (by omega) hb (by omega)
    · rw [encF_big m b hb]; exact implEncF_big m b w (by omega) (by omega) hb (by omega)
  · rw [encF_bad n a h]; exact implEncF_bad n a w h
end Go.Proofs.YtanpmjmlglkopaaDoor
