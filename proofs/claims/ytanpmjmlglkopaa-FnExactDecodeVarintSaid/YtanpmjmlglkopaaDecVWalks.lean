/-
  The walks of DecodeVarint: both return what 'decV' computes.
-/
import Derived.Test.YtanpmjmlglkopaaVarWalks
import Derived.Deep.RegionHeld3
import Derived.IntWalk
namespace Go.Proofs.Ytanpmjmlglkopaa
open Go.RowKit
set_option linter.unusedVariables false
theorem ret_decV {s : ByteArray} {n k : Nat} (h : decV s = (n, k)) {a b : Int} (ha : a = n) (hb : b = k) : Ending.returned (.tuple #[.int .i64 a, .int .i64 b]) = .returned (.tuple #[.int .i64 (decV s).1, .int .i64 (decV s).2]) := by rw [h, ha, hb]
set_option maxRecDepth 100000 in
theorem implDecV (s : ByteArray) (w : World) (hs : s.size ≤ 1048576) :
    Calls Try.prog 16 #[.string s] w fun e w' => e = .returned (.tuple #[.int .i64 (decV s).1, .int .i64 (decV s).2]) ∧ Below w.heap.size w w' := by
  go_enter Try.func16, Try.ntmps16
  go_wp2
  go_loopw [4, 5] (fun n i wr => ∃ k m : Nat, k ≤ 7 ∧ k ≤ s.size ∧ n = .int .i64 m ∧ i = .int .i64 k ∧ Below w.heap.size w wr ∧ Hid (m = le (s.data.toList.take k)) ∧ Hid (∀ i (hi : i < k) (hk : k ≤ s.size), 128 ≤ (s[i]'(by omega)).toNat)) (fun _ i _ => 7 - (intOf i).toNat)
  case atStart => exact ⟨0, 0, by omega, Nat.zero_le _, rfl, rfl, Below.refl _ _, Lib.hid (by simp [le]), Lib.hid (fun i hi => by omega)⟩
  case round =>
    obtain ⟨k, m, hk, hks, rfl, rfl, hbel, hm, hp⟩ := hrel
    by_cases hlt : k < s.size
    · by_cases h7 : k < 7
      · have hb := (s[k]).toNat_lt
        have HM : m < 128 ^ k := by rw [hm.out]; have := le_lt (s.data.toList.take k); rwa [List.length_take, show min k s.data.toList.length = k by simp; omega] at this
        have hq := step_or m s[k].toNat k hb h7 HM
        have HS : Hid (m + 128 ^ k * (s[k].toNat % 128) = le (s.data.toList.take (k + 1))) := Lib.hid (by rw [le_take_step s k hlt, hm.out])
        generalize hm2 : m + 128 ^ k * (s[k].toNat % 128) = m2 at hq HS
        clear HM hm2
        have i1 : (0 : Int) ≤ (k : Int) := by omega
        have i2 : (k : Int) < (s.size : Int) := by omega
        have i3 : (k : Int) + 1 ≤ (s.size : Int) := by omega
        have i4 : (0 : Int) ≤ (k : Int) + 1 := by omega
        have e1 : IntKind.i64.wrap ((k : Int) + 1) = (k : Int) + 1 := IntWalk.i64_in _ (by omega)
        by_cases hc : 128 ≤ s[k].toNat
        · have HP : Hid (∀ i (hi : i < k + 1) (hk : k + 1 ≤ s.size), 128 ≤ (s[i]'(by omega)).toNat) := Lib.hid (fun i hi _ => by
            by_cases h : i < k
            · exact hp.out i h hks
            · obtain rfl : i = k := by omega
              exact hc)
          go_wp2
          go_roundw
          case rel => exact ⟨k + 1, m2, by omega, by omega, by go_num, by go_num, hbel, HS, HP⟩
          case measure => simp [intOf]; omega
        · by_cases hg : (strOfNums (encV m2)).toList = (s.extract 0 (k + 1)).toList
          · have heq : (!(strOfNums (encV m2)).toList == (s.extract 0 (k + 1)).toList) = false := by simp [hg]
            have H := Lib.hid (decV_good (s := s) (k := k + 1) ⟨by omega, by omega, by omega, by rw [← HS.out]; exact hg⟩)
            have HE := Lib.hid heq
            clear hg heq
            go_wp2_with fail
            go_region_held3 (fun _ => True) (trivial) ((first | (go_at_call 14; refine (implEncV _ _).mono ?_; rintro e w2 ⟨rfl, hb2⟩)))
            all_goals
              have heq := HE.out
              simp only [heq]
              clear heq
              have hb3 := hbel.drew.trans (hb2.mono hbel.size)
              clear hb2
              go_wp2
              go_ret2
              exact ⟨ret_decV (a := (m2 : Int)) (b := (k : Int) + 1) H.out (by rw [← HS.out]) (by omega), hb3⟩
          · have heq : (!(strOfNums (encV m2)).toList == (s.extract 0 (k + 1)).toList) = true := by simp [hg]
            have H := Lib.hid (decV_first hlt (by omega) (fun i hi => hp.out i hi hks) (fun g => hg (by rw [HS.out]; exact g.2.2.2)))
            have HE := Lib.hid heq
            clear hg heq
            go_wp2_with fail
            go_region_held3 (fun _ => True) (trivial) ((first | (go_at_call 14; refine (implEncV _ _).mono ?_; rintro e w2 ⟨rfl, hb2⟩)))
            all_goals
              have heq := HE.out
              simp only [heq]
              clear heq
              have hb3 := hbel.drew.trans (hb2.mono hbel.size)
              clear hb2
              go_wp2
              go_ret2
              exact ⟨ret_decV H.out rfl rfl, hb3⟩
      · have H := Lib.hid (decV_end hks (Or.inl (by omega)) (fun i hi => hp.out i hi hks))
        go_wp2
        go_ret2
        exact ⟨ret_decV H.out rfl rfl, hbel⟩
    · have H := Lib.hid (decV_end hks (Or.inr (by omega)) (fun i hi => hp.out i hi hks))
      have hge : ¬ ((k : Int) < (s.size : Int)) := by omega
      go_wp2
      go_ret2
      exact ⟨ret_decV H.out rfl rfl, hbel⟩
theorem mod_tail (b m : Nat) : (((m * 128 + b % 128 : Nat)) : Int) = (m : Int) * 128 + (b : Int) % 128 := by omega
set_option maxRecDepth 100000 in
theorem specDecV (s : ByteArray) (w : World) (hs : s.size ≤ 1048576) :
    Calls Try.prog 15 #[.string s] w fun e w' => e = .returned (.tuple #[.int .i64 (decV s).1, .int .i64 (decV s).2]) ∧ Below w.heap.size w w' := by
  go_enter Try.func15, Try.ntmps15
  go_wp2
  go_loopw [4] (fun i wr => ∃ k : Nat, 1 ≤ k ∧ k ≤ 8 ∧ i = .int .i64 k ∧ Below w.heap.size w wr ∧ Hid (∀ j, j < k → ¬ Good s j)) (fun i _ => 8 - (intOf i).toNat)
  case atStart => exact ⟨1, by omega, by omega, rfl, Below.refl _ _, Lib.hid (fun j hj g => by have := g.1; omega)⟩
  case round =>
    obtain ⟨k, hk1, hk8, rfl, hbel, hp⟩ := hrel
    by_cases h7 : k ≤ 7
    · by_cases hks : k ≤ s.size
      · obtain ⟨wo, rfl⟩ : ∃ wo : World, wo = wr := ⟨_, rfl⟩
        go_wp2
        go_loop [5, 6] (fun n i => ∃ j m : Nat, j ≤ k ∧ i = .int .i64 ((j : Int) - 1) ∧ n = .int .i64 m ∧ Hid (m = le ((s.data.toList.take k).drop j))) (fun _ i => (intOf i + 1).toNat)
        case atStart => exact ⟨k, 0, Nat.le_refl _, rfl, rfl, Lib.hid (by rw [List.drop_eq_nil_of_le (by rw [List.length_take]; omega)]; rfl)⟩
        case round =>
          obtain ⟨j, m, hj, rfl, rfl, hm⟩ := hrel
          cases j with
          | zero =>
            have HM : Hid (m = le (s.data.toList.take k)) := Lib.hid (by rw [hm.out]; rfl)
            have i1 : (0 : Int) ≤ (k : Int) := by omega
            have i2 : (k : Int) ≤ (s.size : Int) := by omega
            clear hm
            by_cases hg : (strOfNums (encV m)).toList = (s.extract 0 k).toList
            · have H := Lib.hid (decV_good (s := s) (k := k) ⟨hk1, h7, hks, by rw [← HM.out]; exact hg⟩)
              have HE := Lib.hid (show ((strOfNums (encV m)).toList == (s.extract 0 k).toList) = true by simp [hg])
              clear hg
              go_wp2_with fail
              go_region_held3 (fun _ => True) (trivial) ((first | (go_at_call 13; refine (specEncV _ _).mono ?_; rintro e w2 ⟨rfl, hb2⟩)))
              all_goals
                have heq := HE.out
                simp only [heq]
                clear heq
                have hb3 := hbel.drew.trans (hb2.mono hbel.size)
                clear hb2
                go_wp2
                go_ret2
                exact ⟨ret_decV (a := (m : Int)) (b := (k : Int)) H.out (by rw [← HM.out]) rfl, hb3⟩
            · have HN : Hid (∀ j, j < k + 1 → ¬ Good s j) := Lib.hid (fun j hj g => by
                by_cases h : j < k
                · exact hp.out j h g
                · obtain rfl : j = k := by omega
                  exact hg (by rw [HM.out]; exact g.2.2.2))
              have HE := Lib.hid (show ((strOfNums (encV m)).toList == (s.extract 0 k).toList) = false by simp [hg])
              clear hg
              go_wp2_with fail
              go_region_held3 (fun _ => True) (trivial) ((first | (go_at_call 13; refine (specEncV _ _).mono ?_; rintro e w2 ⟨rfl, hb2⟩)))
              all_goals
                have heq := HE.out
                simp only [heq]
                clear heq
                have hb3 := hbel.drew.trans (hb2.mono hbel.size)
                clear hb2
                go_wp2
                go_roundw
                case rel => exact ⟨k + 1, by omega, by omega, by go_num, hb3, HN⟩
                case measure => simp [intOf]; omega
          | succ i =>
            have hlt : i < s.size := by omega
            have i1 : (0 : Int) ≤ (i : Int) := by omega
            have i2 : (i : Int) < (s.size : Int) := by omega
            have hb := (s[i]).toNat_lt
            have hml : m ≤ 562949953421311 := by rw [hm.out]; exact le_lt7 _ (by rw [List.length_drop, List.length_take]; omega)
            have HS : Hid (m * 128 + s[i].toNat % 128 = le ((s.data.toList.take k).drop i)) := Lib.hid (by rw [le_drop_step s k i (by omega) hks, hm.out]; omega)
            have HC := Lib.hid (mod_tail s[i].toNat m)
            clear hm
            rw [show ((i + 1 : Nat) : Int) - 1 = (i : Int) by omega]
            go_wp2
            go_round
            case rel => exact ⟨i, m * 128 + s[i].toNat % 128, by omega, by go_num, by rw [HC.out], HS⟩
            case measure => simp [intOf]
      · have H := Lib.hid (decV_none (s := s) (fun j g => by
          by_cases h : j < k
          · exact hp.out j h g
          · have := g.2.2.1; omega))
        have i1 : ¬ ((k : Int) ≤ (s.size : Int)) := by omega
        go_wp2
        go_ret2
        exact ⟨ret_decV H.out rfl rfl, hbel⟩
    · have H := Lib.hid (decV_none (s := s) (fun j g => by
        by_cases h : j < k
        · exact hp.out j h g
        · have := g.2.1; omega))
      go_wp2
      go_ret2
      exact ⟨ret_decV H.out rfl rfl, hbel⟩
theorem law_fnExactDecodeVarint (s : ByteArray) (hs : s.size ≤ maxLen) (w : World) :
    Calls Try.prog 6 #[.string s] w fun e w' => e = .returned (.bool true) ∧ Below w.heap.size w w' := by
  unfold maxLen at hs
  by_cases h : 1048576 < s.size
  · go_enter Try.func6, Try.ntmps6
    go_wp2
    go_ret
    exact ⟨rfl, Below.refl _ _⟩
  · have h1 := fun w => specDecV s w (by omega)
    have h2 := fun w => implDecV s w (by omega)
    generalize (decV s).1 = x at h1 h2
    generalize (decV s).2 = y at h1 h2
    have H1 := Lib.hid h1; clear h1
    have H2 := Lib.hid h2; clear h2
    go_enter Try.func6, Try.ntmps6
    go_wp2_with (first | (go_at_call 15; refine (H1.out _).mono ?_; rintro e w1 ⟨rfl, hb1⟩) | (go_at_call 16; refine (H2.out _).mono ?_; rintro e w2 ⟨rfl, hb2⟩))
    go_ret
    exact ⟨rfl, hb1.trans (hb2.mono hb1.size)⟩
end Go.Proofs.Ytanpmjmlglkopaa
