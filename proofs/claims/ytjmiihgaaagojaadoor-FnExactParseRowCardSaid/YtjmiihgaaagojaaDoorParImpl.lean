/-
  The walk of the program's ParseInt, and of the law: it returns what 'parI' computes.
-/
import Derived.Test.YtjmiihgaaagojaaDoorParWalks
import Derived.Test.YtjmiihgaaagojaaDoorIter
namespace Go.Proofs.YtjmiihgaaagojaaDoor
open Go.RowKit
set_option linter.unusedVariables false
theorem isDigit_yes (r : Int) (w : World) (h0 : 48 ≤ r) (h1 : r ≤ 57) : Calls Tryd.prog 38 #[.int .i32 r] w fun e w' => e = .returned (.bool true) ∧ w = w' := by
  go_enter Tryd.func38, Tryd.ntmps38
  go_wp2
  go_ret
  exact ⟨rfl, rfl⟩
theorem isDigit_low (r : Int) (w : World) (h : ¬ 48 ≤ r) : Calls Tryd.prog 38 #[.int .i32 r] w fun e w' => e = .returned (.bool false) ∧ w = w' := by
  go_enter Tryd.func38, Tryd.ntmps38
  go_wp2
  go_ret
  exact ⟨rfl, rfl⟩
theorem isDigit_high (r : Int) (w : World) (h0 : 48 ≤ r) (h : ¬ r ≤ 57) : Calls Tryd.prog 38 #[.int .i32 r] w fun e w' => e = .returned (.bool false) ∧ w = w' := by
  go_enter Tryd.func38, Tryd.ntmps38
  go_wp2
  go_ret
  exact ⟨rfl, rfl⟩
theorem isDigit_no (r : Int) (w : World) (h : ¬ (48 ≤ r ∧ r ≤ 57)) : Calls Tryd.prog 38 #[.int .i32 r] w fun e w' => e = .returned (.bool false) ∧ w = w' := by
  by_cases h1 : 48 ≤ r
  · exact isDigit_high r w h1 (by omega)
  · exact isDigit_low r w h1
theorem mem_byte (s : ByteArray) (k : Nat) (h : k < s.size) : s[k] ∈ s.data.toList := by
  have : s.data.toList[k]'(by simpa using h) = s[k] := rfl
  rw [← this]; exact List.getElem_mem _
theorem cut (s : ByteArray) (w : World) : Calls Tryd.prog 37 #[.string s, .string ⟨#[45]⟩] w fun e w' => e = .returned (.tuple #[.string ⟨(trim s.data.toList).toArray⟩, .bool (neg s.data.toList)]) ∧ w = w' := by
  have h := (Tryd.strings_CutPrefix s ⟨#[45]⟩ w).mono (R' := fun e w' => e = .returned (.tuple #[.string ⟨(Lib.trimPrefix s.data.toList (⟨#[45]⟩ : ByteArray).data.toList).toArray⟩, .bool (Lib.hasPrefix s.data.toList (⟨#[45]⟩ : ByteArray).data.toList)]) ∧ w = w') (fun e w' h => ⟨h.1, h.2.symm⟩)
  have e := trim_cut s.data.toList
  rw [show (⟨#[45]⟩ : ByteArray).data.toList = [45] from rfl, e.1, e.2] at h
  exact h
set_option maxHeartbeats 2000000 in
set_option maxRecDepth 100000 in
theorem implPar (s : ByteArray) (w : World) (hs : s.size ≤ 1048576) (htab : Tab w) :
    Calls Tryd.prog 26 #[.string s] w fun e w' => e = .returned (.tuple #[.int .i64 (parI s.data.toList).1, .bool (parI s.data.toList).2]) ∧ Below w.heap.size w w' := by
  have hcut := cut s
  have hts : (⟨(trim s.data.toList).toArray⟩ : ByteArray).data.toList = trim s.data.toList := rfl
  generalize (⟨(trim s.data.toList).toArray⟩ : ByteArray) = t at hcut hts
  have HCUT := Lib.hid hcut; clear hcut
  have HTS := Lib.hid hts; clear hts
  have HTAB := Lib.hid htab; clear htab
  by_cases h9 : 9 < t.size
  · have H := Lib.hid (parI_long' (l := s.data.toList) (by rw [← HTS.out]; simpa using h9))
    go_enter Tryd.func26, Tryd.ntmps26
    go_wp2_with (go_at_call 37; refine (HCUT.out _).mono ?_; rintro e w' ⟨rfl, rfl⟩)
    go_ret2
    exact ⟨ret_par H.out rfl, Below.refl _ _⟩
  · have hc9 := Lib.hid (show dcnt s.data.toList ≤ 9 by rw [← dcnt_trim, ← HTS.out]; have := dcnt_le t.data.toList; simp at this; omega)
    obtain ⟨b, hb⟩ : ∃ b, neg s.data.toList = b := ⟨_, rfl⟩
    rw [hb] at HCUT
    have HB := Lib.hid hb; clear hb
    go_enter Tryd.func26, Tryd.ntmps26
    go_wp2_with (go_at_call 37; refine (HCUT.out _).mono ?_; rintro e w' ⟨rfl, rfl⟩)
    go_loopw [6] (fun n wr => ∃ p v : Nat, p ≤ t.size ∧ n = .int .i64 v ∧ v ≤ 999999999 ∧ Hid (wr.heap[w.heap.size]? = some (.stringIter t p)) ∧ Below w.heap.size w wr ∧ Hid (v = dval (t.data.toList.take p))) (fun _ wr => t.size - wr.iterPos w.heap.size)
    case atStart => exact ⟨0, 0, Nat.zero_le _, rfl, by omega, Lib.hid (iter_start w t), (Below.refl _ _).alloc (Nat.le_refl _) _, Lib.hid rfl⟩
    case round =>
      obtain ⟨p, v, hp, rfl, hv, hit, hbel, hvd⟩ := hrel
      by_cases hlt : p < t.size
      · by_cases ha : t[p].toNat < 128
        · have hnx := next_any (P := Tryd.prog) hit.out hlt
          rw [decode_ascii t p hlt ha] at hnx
          have hb2 := below_setIter (s := t) (p := p + 1) hbel (Nat.le_refl _)
          by_cases hd : dig t[p] = true
          · obtain ⟨r1, r2⟩ := (dig_iff t[p]).1 hd
            have HV : Hid (v * 10 + (t[p].toNat - 48) = dval (t.data.toList.take (p + 1))) := Lib.hid (by rw [dval_step t p hlt, if_pos hd, hvd.out])
            have HX := Lib.hid (cast_dig v t[p].toNat r1)
            have hv3 : v * 10 + (t[p].toNat - 48) ≤ 999999999 := by
              rw [HV.out]; refine dval_lt9 _ ?_
              have := dcnt_le (t.data.toList.take (p + 1)); rw [List.length_take] at this; omega
            have hit3 := setIter_get (p + 1) hit.out
            have HIT := Lib.hid hit3
            have HM := Lib.hid (iterPos_of hit.out)
            have HM3 := Lib.hid (iterPos_of hit3)
            clear hit3 hd hvd
            go_wp2_with (go_at_call 38; refine (isDigit_yes _ _ (by omega) (by omega)).mono ?_; rintro e w' ⟨rfl, rfl⟩)
            go_roundw
            case rel => exact ⟨p + 1, v * 10 + (t[p].toNat - 48), by omega, by rw [HX.out], hv3, HIT, hb2, HV⟩
            case measure => rw [HM.out, HM3.out]; omega
          · have hr : ¬ (48 ≤ (t[p].toNat : Int) ∧ (t[p].toNat : Int) ≤ 57) := fun g => hd ((dig_iff t[p]).2 ⟨by omega, by omega⟩)
            have H := Lib.hid (parI_digit (l := s.data.toList) (b := t[p]) (by rw [← HTS.out]; exact mem_byte t p hlt) (by simpa using hd))
            have HR := Lib.hid hr
            clear hr hd
            go_wp2_with (go_at_call 38; refine (isDigit_no _ _ HR.out).mono ?_; rintro e w' ⟨rfl, rfl⟩)
            go_ret2
            exact ⟨ret_par H.out rfl, hb2⟩
        · have hnx := next_any (P := Tryd.prog) hit.out hlt
          have hr := (decode_high t p hlt (by omega)).1
          have hb2 := below_setIter (s := t) (p := p + (Utf8.decode t p).2) hbel (Nat.le_refl _)
          have H := Lib.hid (parI_digit (l := s.data.toList) (b := t[p]) (by rw [← HTS.out]; exact mem_byte t p hlt) (by cases h : dig t[p] with | false => rfl | true => exact absurd ((dig_iff t[p]).1 h) (by omega)))
          generalize (Utf8.decode t p).1 = r at *
          generalize (Utf8.decode t p).2 = q at *
          go_wp2_with (go_at_call 38; refine (isDigit_no _ _ (by omega)).mono ?_; rintro e w' ⟨rfl, rfl⟩)
          go_ret2
          exact ⟨ret_par H.out rfl, hb2⟩
      · have hnx := next_end (P := Tryd.prog) hit.out hlt
        obtain rfl : p = t.size := by omega
        have HT : t.data.toList.take t.size = t.data.toList := List.take_of_length_le (by simp)
        have HVD : Hid (v = dval s.data.toList) := Lib.hid (by rw [hvd.out, HT, HTS.out, dval_trim])
        have HTB := Lib.hid (HTAB.out.on hbel)
        clear HT hvd
        cases b with
        | true =>
          have HA := Lib.hid (fun w h => implFmt (-(v : Int)) w (by omega) (by omega) h)
          have HN := Lib.hid (show sval s.data.toList = -(v : Int) by rw [sval_neg HB.out, ← HVD.out])
          by_cases hx : (⟨(Lib.itoa (-(v : Int))).toArray⟩ : ByteArray).toList = s.toList
          · have H := Lib.hid (parI_ok (l := s.data.toList) (by rw [HN.out]; exact (text_eq _ s).1 hx) hc9.out)
            have heq : (!(⟨(Lib.itoa (-(v : Int))).toArray⟩ : ByteArray).toList == s.toList) = false := by simp [hx]
            generalize (⟨(Lib.itoa (-(v : Int))).toArray⟩ : ByteArray) = X at HA heq hx
            clear hx
            go_wp2_with (go_at_call 20; refine (HA.out _ HTB.out).mono ?_; rintro e w1 ⟨rfl, hb1⟩)
            go_ret2
            exact ⟨ret_par (a := -(v : Int)) H.out HN.out.symm, hbel.trans (hb1.mono hbel.size)⟩
          · have H := Lib.hid (parI_text (l := s.data.toList) (fun g => hx ((text_eq _ s).2 (by rw [HN.out] at g; exact g))))
            have heq : (!(⟨(Lib.itoa (-(v : Int))).toArray⟩ : ByteArray).toList == s.toList) = true := by rw [Bool.not_eq_true', beq_eq_false_iff_ne]; exact hx
            generalize (⟨(Lib.itoa (-(v : Int))).toArray⟩ : ByteArray) = X at HA heq hx
            clear hx
            go_wp2_with (go_at_call 20; refine (HA.out _ HTB.out).mono ?_; rintro e w1 ⟨rfl, hb1⟩)
            go_ret2
            exact ⟨ret_par H.out rfl, hbel.trans (hb1.mono hbel.size)⟩
        | false =>
          have HA := Lib.hid (fun w h => implFmt (v : Int) w (by omega) (by omega) h)
          have HN := Lib.hid (show sval s.data.toList = (v : Int) by rw [sval_pos HB.out, ← HVD.out])
          by_cases hx : (⟨(Lib.itoa (v : Int)).toArray⟩ : ByteArray).toList = s.toList
          · have H := Lib.hid (parI_ok (l := s.data.toList) (by rw [HN.out]; exact (text_eq _ s).1 hx) hc9.out)
            have heq : (!(⟨(Lib.itoa (v : Int)).toArray⟩ : ByteArray).toList == s.toList) = false := by simp [hx]
            generalize (⟨(Lib.itoa (v : Int)).toArray⟩ : ByteArray) = X at HA heq hx
            clear hx
            go_wp2_with (go_at_call 20; refine (HA.out _ HTB.out).mono ?_; rintro e w1 ⟨rfl, hb1⟩)
            go_ret2
            exact ⟨ret_par (a := (v : Int)) H.out HN.out.symm, hbel.trans (hb1.mono hbel.size)⟩
          · have H := Lib.hid (parI_text (l := s.data.toList) (fun g => hx ((text_eq _ s).2 (by rw [HN.out] at g; exact g))))
            have heq : (!(⟨(Lib.itoa (v : Int)).toArray⟩ : ByteArray).toList == s.toList) = true := by rw [Bool.not_eq_true', beq_eq_false_iff_ne]; exact hx
            generalize (⟨(Lib.itoa (v : Int)).toArray⟩ : ByteArray) = X at HA heq hx
            clear hx
            go_wp2_with (go_at_call 20; refine (HA.out _ HTB.out).mono ?_; rintro e w1 ⟨rfl, hb1⟩)
            go_ret2
            exact ⟨ret_par H.out rfl, hbel.trans (hb1.mono hbel.size)⟩
end Go.Proofs.YtjmiihgaaagojaaDoor
