/-
  The walks of DecodeVarint: both return what 'decV' computes.
-/
import Derived.Test.YtanpmjmlglkopaaDoorVarWalks
import Derived.Deep.RegionHeld3
import Derived.IntWalk
namespace Go.Proofs.YtanpmjmlglkopaaDoor
open Go.RowKit
set_option linter.unusedVariables false
theorem ret_decV {s : ByteArray} {n k : Nat} (h : decV s = (n, k)) {a b : Int} (ha : a = n) (hb : b = k) : Ending.returned (.tuple #[.int .i64 a, .int .i64 b]) = .returned (.tuple #[.int .i64 (decV s).1, .int .i64 (decV s).2]) := by rw [h, ha, hb]
set_option maxRecDepth 100000 in
theorem implDecV (s : ByteArray) (w : World) (hs : s.size ≤ 1048576) :
    Calls Tryd.prog 10 #[.string s] w fun e w' => e = .returned (.tuple #[.int .i64 (decV s).1, .int .i64 (decV s).2]) ∧ Below w.heap.size w w' := by
  go_enter Tryd.func10, Tryd.ntmps10
  go_wp2
  go_loopw [4, 5] (fun n i wr => ∃ k m : Nat, k ≤ 7 ∧ k ≤ s.size ∧ n = .int .i64 m ∧ i = .int .i64 k ∧ Below w.heap.size w wr ∧ Hid (m = le (s.data.toList.take k)) ∧ Hid (∀ i (hi : i < k) (hk : k ≤ s.size), 128 ≤ (s[i]'(by omega)).toNat)) (fun _ i _ => 7 - (intOf i).toNat)
  case atStart => exact ⟨0, 0, by omega, Nat.zero_le _, rfl, rfl, Below.refl _ _, Lib.hid (by simp [le]), Lib.hid (fun i hi => by omega)⟩
  case round =>
    obtain ⟨k, m, hk, hks, rfl, rfl, hbel, hm, hp⟩ := hrel
    by_cases hlt : k < s.size
    · by_cases h7 : k < 7
      · have hb := (s[k]).toNat_lt
        have HM : m < 128 ^ k := by rw [hm.out]; have := le_lt (s.data.toList.take k); rwa [List.length_take, show min k s.data.toList.length = k by simp; omega] at this
        have hq := step_or m s[k].toNat k hb h7 HM
        have HS : Hid (m + 128 ^ k * (s[k].toNat % 128) = le (s.data.toList.take (k + 1))) := Lib.hid (by rw [le_take_step s k hlt, hm.out])
        generalize hm2 : m + 128 ^ k * (s[k].toNat % 128) = m2 at hq HS
        clear HM hm2
        have i1 : (0 : Int) ≤ (k : Int) := by omega
        have i2 : (k : Int) < (s.size : Int) := by omega
        have i3 : (k : Int) + 1 ≤ (s.size : Int) := by omega
        have i4 : (0 : Int) ≤ (k : Int) + 1 := by omega
        have e1 : IntKind.i64.wrap ((k : Int) + 1) = (k : Int) + 1 := IntWalk.i64_in _ (by omega)
        by_cases hc : 128 ≤ s[k].toNat
        · have HP : Hid (∀ i (hi : i < k + 1) (hk : k + 1 ≤ s.size), 128 ≤ (s[i]'(by omega)).toNat) := Lib.hid (fun i hi _ => by
            by_cases h : i < k
            · exact hp.out i h hks
            · obtain rfl : i = k := by omega
              exact hc)
          go_wp2
          go_roundw
          case rel => exact ⟨k + 1, m2, by omega, by omega, by go_num, by go_num, hbel, HS, HP⟩
          case measure => simp [intOf]; omega
        · by_cases hg : (strOfNums (encV m2)).toList = (s.extract 0 (k + 1)).toList
          · have heq : (!(strOfNums (encV m2)).toList == (s.extract 0 (k + 1)).toList) = false := by simp [hg]
            have H := Lib.hid (decV_good (s := s) (k := k + 1) ⟨by omega, by omega, by omega, by rw [← HS.out]; exact hg⟩)
            have HE := Lib.hid heq
            clear hg heq
            go_wp2_with fail
            go_region_held3 (fun _ => True) (trivial) ((first | (go_at_call 9; refine (implEncV _ _).mono ?_; rintro e w2 ⟨rfl, hb2⟩)))
            all_goals
              have heq := HE.out
              simp only [heq]
              clear heq
              have hb3 := hbel.drew.trans (hb2.mono hbel.size)
              clear hb2
              go_wp2
              go_ret2
              exact ⟨ret_decV (a := (m2 : Int)) (b := (k : Int) + 1) H.out (by rw [← HS.out]) (by omega), hb3⟩
          · have heq : (!(strOfNums (encV m2)).toList == (s.extract 0 (k + 1)).toList) = true := by simp [hg]
            have H := Lib.hid (decV_first hlt (by omega) (fun i hi => hp.out i hi hks) (fun g => hg (by rw [HS.out]; exact g.2.2.2)))
            have HE := Lib.hid heq
            clear hg heq
            go_wp2_with fail
            go_region_held3 (fun _ => True) (trivial) ((first | (go_at_call 9; refine (implEncV _ _).mono ?_; rintro e w2 ⟨rfl, hb2⟩)))
            all_goals
              have heq := HE.out
              simp only [heq]
              clear heq
              have hb3 := hbel.drew.trans (hb2.mono hbel.size)
              clear hb2
              go_wp2
              go_ret2
              exact ⟨ret_decV H.out rfl rfl, hb3⟩
      · have H := Lib.hid (decV_end hks (Or.inl (by omega)) (fun i hi => hp.out i hi hks))
        go_wp2
        go_ret2
        exact ⟨ret_decV H.out rfl rfl, hbel⟩
    · have H := Lib.hid (decV_end hks (Or.inr (by omega)) (fun i hi => hp.out i hi hks))
      have hge : ¬ ((k : Int) < (s.size : Int)) := by omega
      go_wp2
      go_ret2
      exact ⟨ret_decV H.out rfl rfl, hbel⟩
theorem mod_tail (b m : Nat) : (((m * 128 + b % 128 : Nat)) : Int) = (m : Int) * 128 + (b : Int) % 128 := by omega
end Go.Proofs.YtanpmjmlglkopaaDoor
