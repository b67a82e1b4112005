/-
  The walk of the specification's ParseInt: it returns what 'parI' computes.
-/
import Derived.Test.YteelgogfpidcdaaDoorFmtWalks
import Derived.Test.YteelgogfpidcdaaDoorParMath
import Derived.Test.YteelgogfpidcdaaDoorNumMath
namespace Go.Proofs.YteelgogfpidcdaaDoor
open Go.RowKit
set_option linter.unusedVariables false
theorem ret_par {l : List UInt8} {n : Int} {b : Bool} (h : parI l = (n, b)) {a : Int} (ha : a = n) : Ending.returned (.tuple #[.int .i64 a, .bool b]) = .returned (.tuple #[.int .i64 (parI l).1, .bool (parI l).2]) := by rw [h, ha]
theorem neg_at (s : ByteArray) (h : 0 < s.size) : neg s.data.toList = decide (s[0].toNat = 45) := by
  obtain ⟨⟨l⟩⟩ := s
  cases l with
  | nil => simp [ByteArray.size] at h
  | cons a r =>
    show (some a == some 45) = decide (a.toNat = 45)
    have e : (a = 45) ↔ a.toNat = 45 := ⟨fun e => by rw [e]; rfl, fun e => UInt8.toNat_inj.1 (by rw [e]; rfl)⟩
    by_cases h1 : a = 45
    · rw [decide_eq_true (e.1 h1), h1]; rfl
    · rw [decide_eq_false (fun g => h1 (e.2 g))]; simp [h1]
theorem neg_nil (s : ByteArray) (h : s.size = 0) : neg s.data.toList = false := by
  obtain ⟨⟨l⟩⟩ := s
  cases l with
  | nil => rfl
  | cons a r => simp [ByteArray.size] at h
theorem text_eq (x : List UInt8) (s : ByteArray) : (⟨x.toArray⟩ : ByteArray).toList = s.toList ↔ x = s.data.toList := by
  rw [ByteArray.toList_eq, ByteArray.toList_eq]
theorem sval_pos {l : List UInt8} (h : neg l = false) : sval l = (dval l : Int) := by unfold sval; rw [h]; rfl
theorem sval_neg {l : List UInt8} (h : neg l = true) : sval l = -(dval l : Int) := by unfold sval; rw [h]; rfl
theorem dval_step (s : ByteArray) (m : Nat) (h : m < s.size) : dval (s.data.toList.take (m + 1)) = if dig s[m] then dval (s.data.toList.take m) * 10 + (s[m].toNat - 48) else dval (s.data.toList.take m) := by
  rw [take_snoc s m h, dval_snoc]
theorem dcnt_step (s : ByteArray) (m : Nat) (h : m < s.size) : dcnt (s.data.toList.take (m + 1)) = if dig s[m] then dcnt (s.data.toList.take m) + 1 else dcnt (s.data.toList.take m) := by
  rw [take_snoc s m h, dcnt_snoc]
theorem cast_dig (v b : Nat) (h : 48 ≤ b) : ((v * 10 + (b - 48) : Nat) : Int) = (v : Int) * 10 + ((b : Int) - 48) := by omega
set_option maxHeartbeats 2000000 in
set_option maxRecDepth 100000 in
theorem specPar (s : ByteArray) (w : World) (hs : s.size ≤ 1048576) :
    Calls Tryd.prog 92 #[.string s] w fun e w' => e = .returned (.tuple #[.int .i64 (parI s.data.toList).1, .bool (parI s.data.toList).2]) ∧ Below w.heap.size w w' := by
  go_enter Tryd.func92, Tryd.ntmps92
  go_wp2
  go_loop [4, 5, 6] (fun n k i => ∃ m v c : Nat, m ≤ 11 ∧ m ≤ s.size ∧ i = .int .i64 m ∧ n = .int .i64 v ∧ k = .int .i64 c ∧ v ≤ 99999999999 ∧ c ≤ 11 ∧ Hid (v = dval (s.data.toList.take m)) ∧ Hid (c = dcnt (s.data.toList.take m))) (fun _ _ i => 11 - (intOf i).toNat)
  case atStart => exact ⟨0, 0, 0, by omega, by omega, rfl, rfl, rfl, by omega, by omega, Lib.hid rfl, Lib.hid rfl⟩
  case round =>
    obtain ⟨m, v, c, hm11, hms, rfl, rfl, rfl, hv, hc, hvd, hcd⟩ := hrel
    by_cases hlt : m < s.size
    · by_cases h11 : m < 11
      · have hb := (s[m]).toNat_lt
        have i1 : (0 : Int) ≤ (m : Int) := by omega
        have i2 : (m : Int) < (s.size : Int) := by omega
        have hv2 : dval (s.data.toList.take (m + 1)) ≤ 99999999999 := dval_lt11 _ (by rw [List.length_take]; omega)
        have hc2 : dcnt (s.data.toList.take (m + 1)) ≤ 11 := by have := dcnt_le (s.data.toList.take (m + 1)); rw [List.length_take] at this; omega
        by_cases hd : dig s[m] = true
        · have hr := (dig_iff s[m]).1 hd
          obtain ⟨r1, r2⟩ := hr
          have HV : Hid (v * 10 + (s[m].toNat - 48) = dval (s.data.toList.take (m + 1))) := Lib.hid (by rw [dval_step s m hlt, if_pos hd, hvd.out])
          have HC : Hid (c + 1 = dcnt (s.data.toList.take (m + 1))) := Lib.hid (by rw [dcnt_step s m hlt, if_pos hd, hcd.out])
          have HX := Lib.hid (cast_dig v s[m].toNat r1)
          have hv3 : v * 10 + (s[m].toNat - 48) ≤ 99999999999 := by rw [HV.out]; exact hv2
          have hc3 : c + 1 ≤ 11 := by rw [HC.out]; exact hc2
          clear hv2 hc2 hd hvd hcd
          go_wp2
          go_round
          case rel => exact ⟨m + 1, v * 10 + (s[m].toNat - 48), c + 1, by omega, by omega, by go_num, by rw [HX.out], by go_num, hv3, hc3, HV, HC⟩
          case measure => simp [intOf]; omega
        · have HV : Hid (v = dval (s.data.toList.take (m + 1))) := Lib.hid (by rw [dval_step s m hlt, if_neg hd, hvd.out])
          have HC : Hid (c = dcnt (s.data.toList.take (m + 1))) := Lib.hid (by rw [dcnt_step s m hlt, if_neg hd, hcd.out])
          have hr : ¬ (48 ≤ s[m].toNat ∧ s[m].toNat ≤ 57) := fun g => hd ((dig_iff s[m]).2 g)
          clear hv2 hc2 hd hvd hcd
          by_cases h1 : 48 ≤ s[m].toNat
          · have h2 : ¬ s[m].toNat ≤ 57 := by omega
            clear hr
            go_wp2
            go_round
            case rel => exact ⟨m + 1, v, c, by omega, by omega, by go_num, rfl, rfl, hv, hc, HV, HC⟩
            case measure => simp [intOf]; omega
          · clear hr
            go_wp2
            go_round
            case rel => exact ⟨m + 1, v, c, by omega, by omega, by go_num, rfl, rfl, hv, hc, HV, HC⟩
            case measure => simp [intOf]; omega
      · have hpos : 0 < s.size := by omega
        have H := Lib.hid (parI_long (l := s.data.toList) (by simp; omega))
        have g10 : (10 : Int) < (s.size : Int) := by omega
        by_cases hc9 : 9 < c
        · go_wp2
          all_goals
            go_ret2
            exact ⟨ret_par H.out rfl, Below.refl _ _⟩
        · go_wp2
          all_goals
            go_ret2
            exact ⟨ret_par H.out rfl, Below.refl _ _⟩
    · have hge : ¬ ((m : Int) < (s.size : Int)) := by omega
      obtain rfl : m = s.size := by omega
      have HT : s.data.toList.take s.size = s.data.toList := List.take_of_length_le (by simp)
      rw [HT] at hvd hcd
      clear HT
      by_cases hc9 : 9 < c
      · have H := Lib.hid (parI_many (l := s.data.toList) (by rw [← hcd.out]; exact hc9))
        go_wp2
        all_goals
          go_ret2
          exact ⟨ret_par H.out rfl, Below.refl _ _⟩
      · by_cases h10 : 10 < s.size
        · have H := Lib.hid (parI_long (l := s.data.toList) (by simpa using h10))
          go_wp2
          all_goals
            go_ret2
            exact ⟨ret_par H.out rfl, Below.refl _ _⟩
        · have h9 := Lib.hid (show dcnt s.data.toList ≤ 9 by rw [← hcd.out]; omega)
          by_cases hpos : 0 < s.size
          · have hng := neg_at s hpos
            by_cases h45 : s[0].toNat = 45
            · have hn : neg s.data.toList = true := by rw [hng]; exact decide_eq_true h45
              have hq : ((s[0].toNat : Int) == 45) = true := by rw [beq_iff_eq]; omega
              clear hng h45
              have HA := Lib.hid (fun w => specFmt (-(v : Int)) w (by omega) (by omega))
              have HN := Lib.hid (show sval s.data.toList = (-(v : Int)) by rw [sval_neg hn, ← hvd.out])
              by_cases hx : (⟨(Lib.itoa (-(v : Int))).toArray⟩ : ByteArray).toList = s.toList
              · have H := Lib.hid (parI_ok (l := s.data.toList) (by rw [HN.out]; exact (text_eq _ s).1 hx) h9.out)
                have heq : (!(⟨(Lib.itoa (-(v : Int))).toArray⟩ : ByteArray).toList == s.toList) = false := by simp [hx]
                generalize (⟨(Lib.itoa (-(v : Int))).toArray⟩ : ByteArray) = X at HA heq hx
                clear hx hvd hcd
                go_wp2_with (go_at_call 44; refine (HA.out _).mono ?_; rintro e w1 ⟨rfl, hb1⟩)
                go_ret2
                exact ⟨ret_par (a := (-(v : Int))) H.out HN.out.symm, hb1⟩
              · have H := Lib.hid (parI_text (l := s.data.toList) (fun g => hx ((text_eq _ s).2 (by rw [HN.out] at g; exact g))))
                have heq : (!(⟨(Lib.itoa (-(v : Int))).toArray⟩ : ByteArray).toList == s.toList) = true := by rw [Bool.not_eq_true', beq_eq_false_iff_ne]; exact hx
                generalize (⟨(Lib.itoa (-(v : Int))).toArray⟩ : ByteArray) = X at HA heq hx
                clear hx hvd hcd
                go_wp2_with (go_at_call 44; refine (HA.out _).mono ?_; rintro e w1 ⟨rfl, hb1⟩)
                go_ret2
                exact ⟨ret_par H.out rfl, hb1⟩
            · have hn : neg s.data.toList = false := by rw [hng]; exact decide_eq_false h45
              have hq : ((s[0].toNat : Int) == 45) = false := by rw [beq_eq_false_iff_ne]; omega
              clear hng h45
              have HA := Lib.hid (fun w => specFmt (v : Int) w (by omega) (by omega))
              have HN := Lib.hid (show sval s.data.toList = (v : Int) by rw [sval_pos hn, ← hvd.out])
              by_cases hx : (⟨(Lib.itoa (v : Int)).toArray⟩ : ByteArray).toList = s.toList
              · have H := Lib.hid (parI_ok (l := s.data.toList) (by rw [HN.out]; exact (text_eq _ s).1 hx) h9.out)
                have heq : (!(⟨(Lib.itoa (v : Int)).toArray⟩ : ByteArray).toList == s.toList) = false := by simp [hx]
                generalize (⟨(Lib.itoa (v : Int)).toArray⟩ : ByteArray) = X at HA heq hx
                clear hx hvd hcd
                go_wp2_with (go_at_call 44; refine (HA.out _).mono ?_; rintro e w1 ⟨rfl, hb1⟩)
                go_ret2
                exact ⟨ret_par (a := (v : Int)) H.out HN.out.symm, hb1⟩
              · have H := Lib.hid (parI_text (l := s.data.toList) (fun g => hx ((text_eq _ s).2 (by rw [HN.out] at g; exact g))))
                have heq : (!(⟨(Lib.itoa (v : Int)).toArray⟩ : ByteArray).toList == s.toList) = true := by rw [Bool.not_eq_true', beq_eq_false_iff_ne]; exact hx
                generalize (⟨(Lib.itoa (v : Int)).toArray⟩ : ByteArray) = X at HA heq hx
                clear hx hvd hcd
                go_wp2_with (go_at_call 44; refine (HA.out _).mono ?_; rintro e w1 ⟨rfl, hb1⟩)
                go_ret2
                exact ⟨ret_par H.out rfl, hb1⟩
          · have hn : neg s.data.toList = false := neg_nil s (by omega)
            have HA := Lib.hid (fun w => specFmt (v : Int) w (by omega) (by omega))
            have HN := Lib.hid (show sval s.data.toList = (v : Int) by rw [sval_pos hn, ← hvd.out])
            by_cases hx : (⟨(Lib.itoa (v : Int)).toArray⟩ : ByteArray).toList = s.toList
            · have H := Lib.hid (parI_ok (l := s.data.toList) (by rw [HN.out]; exact (text_eq _ s).1 hx) h9.out)
              have heq : (!(⟨(Lib.itoa (v : Int)).toArray⟩ : ByteArray).toList == s.toList) = false := by simp [hx]
              generalize (⟨(Lib.itoa (v : Int)).toArray⟩ : ByteArray) = X at HA heq hx
              clear hx hvd hcd
              go_wp2_with (go_at_call 44; refine (HA.out _).mono ?_; rintro e w1 ⟨rfl, hb1⟩)
              go_ret2
              exact ⟨ret_par (a := (v : Int)) H.out HN.out.symm, hb1⟩
            · have H := Lib.hid (parI_text (l := s.data.toList) (fun g => hx ((text_eq _ s).2 (by rw [HN.out] at g; exact g))))
              have heq : (!(⟨(Lib.itoa (v : Int)).toArray⟩ : ByteArray).toList == s.toList) = true := by rw [Bool.not_eq_true', beq_eq_false_iff_ne]; exact hx
              generalize (⟨(Lib.itoa (v : Int)).toArray⟩ : ByteArray) = X at HA heq hx
              clear hx hvd hcd
              go_wp2_with (go_at_call 44; refine (HA.out _).mono ?_; rintro e w1 ⟨rfl, hb1⟩)
              go_ret2
              exact ⟨ret_par H.out rfl, hb1⟩
end Go.Proofs.YteelgogfpidcdaaDoor
