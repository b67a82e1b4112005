/-
  The walks of the encoders of varints: each returns the bytes 'evI' where the number is in range, else the empty string.
-/
import Derived.Test.YtanpmjmlglkopaaNumWalks
import Derived.Test.YtanpmjmlglkopaaBytes
import Derived.Test.YtanpmjmlglkopaaDecVMath
import Derived.WalkSpells
namespace Go.Proofs.Ytanpmjmlglkopaa
open Go.RowKit
set_option linter.unusedVariables false
theorem cast_step (k : Nat) : ((k % 128 + 128 : Nat) : Int) = (k : Int) % 128 + 128 := by omega
set_option maxRecDepth 100000 in
theorem specEncV_ok (n : Nat) (w : World) (h : n ≤ 562949953421311) :
    Calls Try.prog 13 #[.int .i64 n] w fun e w' => e = .returned (.string (strOfNums (evI n))) ∧ Below w.heap.size w w' := by
  go_enter Try.func13, Try.ntmps13
  go_wp2_with (go_at_call 21; refine (in_true _ _ _ _ (by omega) (by omega)).mono ?_; rintro e w' ⟨rfl, rfl⟩)
  go_loopw [0, 3] (fun n' v wr => ∃ (k : Nat) (xs : List Int), k ≤ n ∧ n' = .int .i64 k ∧ OwnsB wr w.heap.size v xs ∧ Below w.heap.size w wr ∧ Hid (xs ++ evI k = evI n)) (fun n' _ _ => (intOf n').toNat)
  case atStart => exact ⟨n, [], Nat.le_refl _, rfl, ownsB_lit w _ (Nat.le_refl _) #[] 0 [] rfl rfl (by decide), (Below.refl _ _).alloc (Nat.le_refl _) _, Lib.hid (by simp)⟩
  case round =>
    obtain ⟨k, xs, hk, rfl, hown, hbel, hev⟩ := hrel
    have hB := hbel.size
    have hlen := Lib.hid (evI_len hev.out h)
    by_cases hlt : 128 ≤ k
    · go_wp2_with (at_builtin; refine append_bytes rfl (.tmp 10) (.tmp 15) rfl w.heap.size _ xs rfl hown hB _ [((k % 128 + 128 : Nat) : Int)] 1 _ rfl (by first | rfl | (simp; done) | (simp; omega)) rfl hlen.out ?_)
      intro v' w1 hown1 hbel1
      have HS := Lib.hid (evI_step hev.out hlt)
      have hb2 := hbel.trans hbel1
      rw [← cast_step] at hown1
      clear hown hbel hbel1 hev
      go_wp2
      go_roundw
      case rel => exact ⟨k / 128, xs ++ [((k % 128 + 128 : Nat) : Int)], by omega, by go_num, hown1, hb2, HS⟩
      case measure => simp [intOf]; omega
    · go_wp2_with (at_builtin; refine append_bytes rfl (.tmp 19) (.tmp 22) rfl w.heap.size _ xs rfl hown hB _ [(k : Int)] 1 _ rfl (by first | rfl | (simp; done) | (simp; omega)) rfl hlen.out ?_)
      intro v' w1 hown1 hbel1
      have HE := Lib.hid (evI_end hev.out (by omega))
      have hb2 := hbel.trans hbel1
      have hcv := string_owned hown1
      clear hown hbel hbel1 hev
      go_wp2
      go_ret
      exact ⟨ret_strI HE.out, hb2⟩
theorem specEncV_bad (n : Int) (w : World) (h : ¬ (0 ≤ n ∧ n ≤ 562949953421311)) :
    Calls Try.prog 13 #[.int .i64 n] w fun e w' => e = .returned (.string (strOfNums [])) ∧ Below w.heap.size w w' := by
  have H := Lib.hid h; clear h
  go_enter Try.func13, Try.ntmps13
  go_wp2_with (go_at_call 21; refine (in_false _ _ _ _ H.out).mono ?_; rintro e w' ⟨rfl, rfl⟩)
  go_ret
  exact ⟨rfl, Below.refl _ _⟩
theorem specEncV (n : Int) (w : World) :
    Calls Try.prog 13 #[.int .i64 n] w fun e w' => e = .returned (.string (strOfNums (encV n))) ∧ Below w.heap.size w w' := by
  by_cases h : 0 ≤ n ∧ n ≤ 562949953421311
  · obtain ⟨m, rfl⟩ := Int.eq_ofNat_of_zero_le h.1
    rw [encV_in m (by omega)]; exact specEncV_ok m w (by omega)
  · rw [encV_out n h]; exact specEncV_bad n w h
set_option maxRecDepth 100000 in
theorem implEncV_ok (n : Nat) (w : World) (h : n ≤ 562949953421311) :
    Calls Try.prog 14 #[.int .i64 n] w fun e w' => e = .returned (.string (strOfNums (evI n))) ∧ Below w.heap.size w w' := by
  go_enter Try.func14, Try.ntmps14
  go_wp2
  go_loopw [0, 3] (fun n' v wr => ∃ (k : Nat) (xs : List Int), k ≤ n ∧ n' = .int .i64 k ∧ OwnsB wr w.heap.size v xs ∧ Below w.heap.size w wr ∧ Hid (xs ++ evI k = evI n)) (fun n' _ _ => (intOf n').toNat)
  case atStart => exact ⟨n, [], Nat.le_refl _, rfl, ownsB_nil w _, Below.refl _ _, Lib.hid (by simp)⟩
  case round =>
    obtain ⟨k, xs, hk, rfl, hown, hbel, hev⟩ := hrel
    have hB := hbel.size
    have hlen := Lib.hid (evI_len hev.out h)
    by_cases hlt : 128 ≤ k
    · go_wp2_with (at_builtin; refine append_bytes rfl (.tmp 12) (.tmp 17) rfl w.heap.size _ xs rfl hown hB _ [((k % 128 + 128 : Nat) : Int)] 1 _ rfl (by first | rfl | (simp; done) | (simp; omega)) rfl hlen.out ?_)
      intro v' w1 hown1 hbel1
      have HS := Lib.hid (evI_step hev.out hlt)
      have hb2 := hbel.trans hbel1
      rw [← cast_step] at hown1
      clear hown hbel hbel1 hev
      go_wp2
      go_roundw
      case rel => exact ⟨k / 128, xs ++ [((k % 128 + 128 : Nat) : Int)], by omega, by go_num, hown1, hb2, HS⟩
      case measure => simp [intOf]; omega
    · go_wp2_with (at_builtin; refine append_bytes rfl (.tmp 21) (.tmp 24) rfl w.heap.size _ xs rfl hown hB _ [(k : Int)] 1 _ rfl (by first | rfl | (simp; done) | (simp; omega)) rfl hlen.out ?_)
      intro v' w1 hown1 hbel1
      have HE := Lib.hid (evI_end hev.out (by omega))
      have hb2 := hbel.trans hbel1
      have hcv := string_owned hown1
      clear hown hbel hbel1 hev
      go_wp2
      go_ret
      exact ⟨ret_strI HE.out, hb2⟩
theorem implEncV_bad (n : Int) (w : World) (h : ¬ (0 ≤ n ∧ n ≤ 562949953421311)) :
    Calls Try.prog 14 #[.int .i64 n] w fun e w' => e = .returned (.string (strOfNums [])) ∧ Below w.heap.size w w' := by
  by_cases h0 : 0 ≤ n
  · have h1 : ¬ n ≤ 562949953421311 := by omega
    clear h
    go_enter Try.func14, Try.ntmps14
    go_wp2
    go_ret
    exact ⟨rfl, Below.refl _ _⟩
  · clear h
    go_enter Try.func14, Try.ntmps14
    go_wp2
    go_ret
    exact ⟨rfl, Below.refl _ _⟩
theorem implEncV (n : Int) (w : World) :
    Calls Try.prog 14 #[.int .i64 n] w fun e w' => e = .returned (.string (strOfNums (encV n))) ∧ Below w.heap.size w w' := by
  by_cases h : 0 ≤ n ∧ n ≤ 562949953421311
  · obtain ⟨m, rfl⟩ := Int.eq_ofNat_of_zero_le h.1
    rw [encV_in m (by omega)]; exact implEncV_ok m w (by omega)
  · rw [encV_out n h]; exact implEncV_bad n w h
end Go.Proofs.Ytanpmjmlglkopaa
