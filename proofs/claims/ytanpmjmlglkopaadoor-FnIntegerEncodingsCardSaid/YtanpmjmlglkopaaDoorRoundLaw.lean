/-
  The walk of the law of the integer encodings: for every code the law returns true, and nothing that was there changes.
-/
import Derived.Test.YtanpmjmlglkopaaDoorRoundMath
import Derived.Test.YtanpmjmlglkopaaDoorDraws
import Derived.Test.YtanpmjmlglkopaaDoorDecVWalks
import Derived.Test.YtanpmjmlglkopaaDoorFixWalks
import Derived.Test.YtanpmjmlglkopaaDoorDecHLoops
import Derived.Test.YtanpmjmlglkopaaDoorParImpl
namespace Go.Proofs.YtanpmjmlglkopaaDoor
open Go.RowKit
set_option linter.unusedVariables false
theorem ret_bool {b : Bool} (h : b = true) : Ending.returned (.bool b) = .returned (.bool true) := by rw [h]
theorem code_len {w : World} {v : Value} {xs : List Int} (h : Code w v xs) : ∃ a cap, v = .slice a xs.length cap := by
  rcases h with ⟨rfl, a, cap, rfl⟩ | ⟨b, off, cap, rfl, _⟩
  · exact ⟨a, cap, rfl⟩
  · exact ⟨_, cap, rfl⟩
theorem big_no (a : Option Addr) (n cap : Nat) (w : World) (h : n ≤ 1048576) : Calls Tryd.prog 6 #[.slice a n cap] w fun e w' => e = .returned (.bool false) ∧ w = w' := by
  go_enter Tryd.func6, Tryd.ntmps6
  go_wp2
  go_ret
  exact ⟨by simp; omega, rfl⟩
theorem big_yes (a : Option Addr) (n cap : Nat) (w : World) (h : 1048576 < n) : Calls Tryd.prog 6 #[.slice a n cap] w fun e w' => e = .returned (.bool true) ∧ w = w' := by
  go_enter Tryd.func6, Tryd.ntmps6
  go_wp2
  go_ret
  exact ⟨by simp; omega, rfl⟩
theorem concat_any (L M : List Int) (h : L.length + M.length ≤ 1048576) (w : World) : (Op.stringOp .add (strOfNums L) (strOfNums M)).run Tryd.prog w = .ok (.string (strOfNums (L ++ M))) w := by
  rw [run_string_add_sum w _ _ (by rw [strOfNums_size, strOfNums_size]; omega), strOfNums_append]
theorem ne_facts {L : List Int} (h : 1 ≤ L.length) : ¬ (strOfNums L).toList = [] ∧ (strOfNums L).toList.isEmpty = false := by
  rw [strOfNums_toList]
  cases L with
  | nil => simp at h
  | cons a r => exact ⟨by simp, rfl⟩
theorem nil_facts : (strOfNums []).toList = [] ∧ (strOfNums []).toList.isEmpty = true := by
  rw [strOfNums_toList]; exact ⟨rfl, rfl⟩
theorem str_self (s : ByteArray) : (⟨s.data.toList.toArray⟩ : ByteArray) = s := by obtain ⟨⟨l⟩⟩ := s; rfl
theorem hexBack (T : ByteArray) (w : World) (hT : T.size ≤ 40) :
    Calls Tryd.prog 16 #[.string (strOfNums (hexL T.data.toList))] w fun e w' => e = .returned (.tuple #[.string T, .bool true]) ∧ Below w.heap.size w w' := by
  have hz : (strOfNums (hexL T.data.toList)).size = 2 * T.size := by rw [strOfNums_size, hexL_length]; simp
  have h := implDecH (strOfNums (hexL T.data.toList)) w (by omega)
  have e : decH (strOfNums (hexL T.data.toList)).data.toList = (T.data.toList.map fun b => (b.toNat : Int), true) := decH_enc T.data.toList
  rw [e] at h
  simp only [str_bytes, str_self] at h
  exact h
set_option maxHeartbeats 16000000 in
set_option maxRecDepth 100000 in
theorem law_small (a : Option Addr) (cap : Nat) (xs : List Int) (w : World) (hcode : Code w (.slice a xs.length cap) xs) (hby : ∀ x ∈ xs, 0 ≤ x ∧ x ≤ 255) (hsm : xs.length ≤ 1048576) (htab : Tab w) :
    Calls Tryd.prog 3 #[.slice a xs.length cap] w fun e w' => e = .returned (.bool true) ∧ Below w.heap.size w w' := by
  have HV := Lib.hid (fun w hc => drawEncV (.slice a xs.length cap) xs w hc hsm hby)
  have HH := Lib.hid (fun w hc => drawEncH (.slice a xs.length cap) xs w hc hsm hby)
  have HF := Lib.hid (fun w hc => drawEncF (.slice a xs.length cap) xs w hc hsm hby)
  have HC := Lib.hid hcode
  have HT := Lib.hid htab
  have HS := Lib.hid hsm
  clear hcode hby htab
  go_enter Tryd.func3, Tryd.ntmps3
  go_wp2_with fail
  refine (big_no _ _ _ _ HS.out).mono ?_
  rintro e w' ⟨rfl, rfl⟩
  go_wp2_with fail
  refine (HV.out _ HC.out).mono ?_
  rintro e w1 ⟨n, n0, n1, rfl, hb1⟩
  go_wp2_with fail
  refine (HH.out _ (code_below HC.out hb1)).mono ?_
  rintro e w2 ⟨bs, hbs, rfl, hb2'⟩
  have hb2 := hb1.trans (hb2'.mono hb1.size)
  clear hb1 hb2'
  go_wp2_with fail
  refine (implEncV _ _).mono ?_
  rintro e w3 ⟨rfl, hb3'⟩
  have hb3 := hb2.trans (hb3'.mono hb2.size)
  clear hb2 hb3'
  have hTz : (strOfNums bs).size ≤ 40 := by rw [strOfNums_size]; exact hbs
  have HX1 := Lib.hid (fun w => implHex (strOfNums bs) w (by omega))
  have HX2 := Lib.hid (fun w => hexBack (strOfNums bs) w hTz)
  have HXZ : Hid (((strOfNums (hexL (strOfNums bs).data.toList)).size : Int) = 2 * ((strOfNums bs).size : Int)) := Lib.hid (by rw [strOfNums_size, hexL_length]; simp)
  by_cases hn : 0 ≤ n ∧ n ≤ 562949953421311
  · obtain ⟨m, rfl⟩ := Int.eq_ofNat_of_zero_le hn.1
    have hm : m ≤ 562949953421311 := by omega
    rw [encV_in m hm]
    have hadd := concat_any (evI m) bs (by have := evI_len_pow 6 m (by omega); omega)
    have hsz : (strOfNums (evI m ++ bs)).size ≤ 1048576 := by rw [strOfNums_size, List.length_append]; have := evI_len_pow 6 m (by omega); omega
    have HD := Lib.hid (fun w => implDecV _ w hsz)
    rw [good_enc m hm bs] at HD
    have HL := Lib.hid (strOfNums_size (evI m))
    clear hsz
    go_wp2_with fail
    refine (HD.out _).mono ?_
    rintro e w4 ⟨rfl, hb4'⟩
    have hb4 := hb3.trans (hb4'.mono hb3.size)
    clear hb3 hb4' hadd HD
    obtain ⟨s1, s2⟩ := ne_facts (L := evI m) (evI_pos m)
    rw [← HL.out]
    generalize strOfNums (evI m) = S at s1 s2 ⊢
    clear hn HL
    go_wp2_with fail
    refine (HF.out _ (code_below HC.out hb4)).mono ?_
    rintro e w5 ⟨q, d, q0, q1, d0, d1, rfl, hb5'⟩
    have hb5 := hb4.trans (hb5'.mono hb4.size)
    have HI := Lib.hid (fun w h => implFmt q w q0 q1 h)
    have HI2 := Lib.hid (fun w => specFmt q w q0 q1)
    go_wp2_with fail
    refine (implEncF q d _ q1).mono ?_
    rintro e w6 ⟨rfl, hb6'⟩
    have hb6 := hb5.trans (hb6'.mono hb5.size)
    have HE := Lib.hid (fun w => specEncF q d w q1)
    clear hb4 hb5 hb5' hb6'
    by_cases hq : 0 ≤ q ∧ 1 ≤ d ∧ d ≤ 7 ∧ q.toNat < 256 ^ d.toNat
    · obtain ⟨u, rfl⟩ := Int.eq_ofNat_of_zero_le hq.1
      obtain ⟨j, rfl⟩ := Int.eq_ofNat_of_zero_le (show 0 ≤ d by omega)
      have hu : u < 256 ^ j := by simpa using hq.2.2.2
      have hj1 : 1 ≤ j := by omega
      have hj7 : j ≤ 7 := by omega
      rw [encF_ok u j hj1 hj7 hu] at HE
      rw [encF_ok u j hj1 hj7 hu]
      have hadd := concat_any (beI j u) bs (by rw [beI_length]; omega)
      have HG := Lib.hid (fun w => implDecF (strOfNums (beI j u ++ bs)) j w)
      rw [decF_enc u j hj1 hj7 hu bs] at HG
      obtain ⟨g1, g2⟩ := ne_facts (L := beI j u) (by rw [beI_length]; exact hj1)
      have g3 : (((strOfNums (beI j u)).size : Int) != (j : Int)) = false := by rw [strOfNums_size, beI_length]; simp
      clear hq hu hj1 hj7
      go_wp2_with fail
      refine (HG.out _).mono ?_
      rintro e w7 ⟨rfl, rfl⟩
      generalize strOfNums (beI j u) = F at HE g1 g2 g3 ⊢
      clear hadd HG
      go_wp2_with fail
      refine (HE.out _).mono ?_
      rintro e w7 ⟨rfl, hb7'⟩
      have hb7 := hb6.trans (hb7'.mono hb6.size)
      clear hb6 hb7'
      by_cases hs : -1000000000 < (u : Int) ∧ (u : Int) < 1000000000
      · have HP := Lib.hid (fun w h => implPar (⟨(Lib.itoa (u : Int)).toArray⟩ : ByteArray) w (by have := Lib.itoa_length_le (u : Int) q0 q1; show (Lib.itoa (u : Int)).toArray.size ≤ 1048576; simp; omega) h)
        rw [show (⟨(Lib.itoa (u : Int)).toArray⟩ : ByteArray).data.toList = Lib.itoa (u : Int) from rfl, par_small (u : Int) hs.1 hs.2] at HP
        generalize (⟨(Lib.itoa (u : Int)).toArray⟩ : ByteArray) = D at HP HI HI2
        obtain ⟨hs1, hs2⟩ := hs
        go_wp2_with fail
        refine (HX1.out _).mono ?_
        rintro e w8 ⟨rfl, hb8'⟩
        have hb8 := hb7.trans (hb8'.mono hb7.size)
        have hxz := HXZ.out
        generalize strOfNums (hexL (strOfNums bs).data.toList) = H at HX2 hxz HXZ
        have hxe : ((H.size : Int) == 2 * ((strOfNums bs).size : Int)) = true := by rw [beq_iff_eq]; exact hxz
        clear hxz HXZ
        go_wp2_with fail
        refine (HX2.out _).mono ?_
        rintro e w9 ⟨rfl, hb9'⟩
        have hb9 := hb8.trans (hb9'.mono hb8.size)
        go_wp2_with fail
        refine (HI.out _ (HT.out.on hb9)).mono ?_
        rintro e w10 ⟨rfl, hb10'⟩
        have hb10 := hb9.trans (hb10'.mono hb9.size)
        go_wp2_with fail
        refine (HP.out _ (HT.out.on hb10)).mono ?_
        rintro e w11 ⟨rfl, hb11'⟩
        have hb11 := hb10.trans (hb11'.mono hb10.size)
        clear hb7 hb8 hb8' hb9 hb9' hb10 hb10' hb11'
        go_wp2_with fail
        refine (HI2.out _).mono ?_
        rintro e w12 ⟨rfl, hb12'⟩
        have hb12 := hb11.trans (hb12'.mono hb11.size)
        clear hb11 hb12'
        go_wp2
        go_ret
        exact ⟨ret_bool (by first | (simp; done) | (simp; omega)), hb12⟩
      · have HP := Lib.hid (fun w h => implPar (⟨(Lib.itoa (u : Int)).toArray⟩ : ByteArray) w (by have := Lib.itoa_length_le (u : Int) q0 q1; show (Lib.itoa (u : Int)).toArray.size ≤ 1048576; simp; omega) h)
        rw [show (⟨(Lib.itoa (u : Int)).toArray⟩ : ByteArray).data.toList = Lib.itoa (u : Int) from rfl, par_large (u : Int) hs] at HP
        generalize (⟨(Lib.itoa (u : Int)).toArray⟩ : ByteArray) = D at HP HI HI2
        have hlg : (decide (-1000000000 < (u : Int)) && decide ((u : Int) < 1000000000)) = false := by rw [Bool.and_eq_false_iff, decide_eq_false_iff_not, decide_eq_false_iff_not]; omega
        have hhi : ¬ (u : Int) < 1000000000 := by omega
        clear hs hlg
        go_wp2_with fail
        refine (HX1.out _).mono ?_
        rintro e w8 ⟨rfl, hb8'⟩
        have hb8 := hb7.trans (hb8'.mono hb7.size)
        have hxz := HXZ.out
        generalize strOfNums (hexL (strOfNums bs).data.toList) = H at HX2 hxz HXZ
        have hxe : ((H.size : Int) == 2 * ((strOfNums bs).size : Int)) = true := by rw [beq_iff_eq]; exact hxz
        clear hxz HXZ
        go_wp2_with fail
        refine (HX2.out _).mono ?_
        rintro e w9 ⟨rfl, hb9'⟩
        have hb9 := hb8.trans (hb9'.mono hb8.size)
        go_wp2_with fail
        refine (HI.out _ (HT.out.on hb9)).mono ?_
        rintro e w10 ⟨rfl, hb10'⟩
        have hb10 := hb9.trans (hb10'.mono hb9.size)
        go_wp2_with fail
        refine (HP.out _ (HT.out.on hb10)).mono ?_
        rintro e w11 ⟨rfl, hb11'⟩
        have hb11 := hb10.trans (hb11'.mono hb10.size)
        clear hb7 hb8 hb8' hb9 hb9' hb10 hb10' hb11'
        go_wp2_with fail
        refine (HI2.out _).mono ?_
        rintro e w12 ⟨rfl, hb12'⟩
        have hb12 := hb11.trans (hb12'.mono hb11.size)
        clear hb11 hb12'
        go_wp2
        go_ret
        exact ⟨ret_bool (by first | (simp; done) | (simp; omega)), hb12⟩
    · have hz : encF q d = [] := by unfold encF; rw [if_neg hq]
      rw [hz] at HE
      rw [hz]
      have hadd := concat_any [] bs (by simp; omega)
      have HG := Lib.hid (fun w => implDecF (strOfNums ([] ++ bs)) d w)
      generalize (decF (strOfNums ([] ++ bs)).data.toList d).1 = y1 at HG
      generalize (decF (strOfNums ([] ++ bs)).data.toList d).2 = y2 at HG
      obtain ⟨g1, g2⟩ := nil_facts
      clear hq hz
      go_wp2_with fail
      refine (HG.out _).mono ?_
      rintro e w7 ⟨rfl, rfl⟩
      generalize strOfNums [] = F at HE g1 g2 ⊢
      clear hadd HG
      go_wp2_with fail
      refine (HE.out _).mono ?_
      rintro e w7 ⟨rfl, hb7'⟩
      have hb7 := hb6.trans (hb7'.mono hb6.size)
      clear hb6 hb7'
      by_cases hs : -1000000000 < q ∧ q < 1000000000
      · have HP := Lib.hid (fun w h => implPar (⟨(Lib.itoa q).toArray⟩ : ByteArray) w (by have := Lib.itoa_length_le q q0 q1; show (Lib.itoa q).toArray.size ≤ 1048576; simp; omega) h)
        rw [show (⟨(Lib.itoa q).toArray⟩ : ByteArray).data.toList = Lib.itoa q from rfl, par_small q hs.1 hs.2] at HP
        generalize (⟨(Lib.itoa q).toArray⟩ : ByteArray) = D at HP HI HI2
        obtain ⟨hs1, hs2⟩ := hs
        go_wp2_with fail
        refine (HX1.out _).mono ?_
        rintro e w8 ⟨rfl, hb8'⟩
        have hb8 := hb7.trans (hb8'.mono hb7.size)
        have hxz := HXZ.out
        generalize strOfNums (hexL (strOfNums bs).data.toList) = H at HX2 hxz HXZ
        have hxe : ((H.size : Int) == 2 * ((strOfNums bs).size : Int)) = true := by rw [beq_iff_eq]; exact hxz
        clear hxz HXZ
        go_wp2_with fail
        refine (HX2.out _).mono ?_
        rintro e w9 ⟨rfl, hb9'⟩
        have hb9 := hb8.trans (hb9'.mono hb8.size)
        go_wp2_with fail
        refine (HI.out _ (HT.out.on hb9)).mono ?_
        rintro e w10 ⟨rfl, hb10'⟩
        have hb10 := hb9.trans (hb10'.mono hb9.size)
        go_wp2_with fail
        refine (HP.out _ (HT.out.on hb10)).mono ?_
        rintro e w11 ⟨rfl, hb11'⟩
        have hb11 := hb10.trans (hb11'.mono hb10.size)
        clear hb7 hb8 hb8' hb9 hb9' hb10 hb10' hb11'
        go_wp2_with fail
        refine (HI2.out _).mono ?_
        rintro e w12 ⟨rfl, hb12'⟩
        have hb12 := hb11.trans (hb12'.mono hb11.size)
        clear hb11 hb12'
        go_wp2
        go_ret
        exact ⟨ret_bool (by first | (simp; done) | (simp; omega)), hb12⟩
      · have HP := Lib.hid (fun w h => implPar (⟨(Lib.itoa q).toArray⟩ : ByteArray) w (by have := Lib.itoa_length_le q q0 q1; show (Lib.itoa q).toArray.size ≤ 1048576; simp; omega) h)
        rw [show (⟨(Lib.itoa q).toArray⟩ : ByteArray).data.toList = Lib.itoa q from rfl, par_large q hs] at HP
        generalize (⟨(Lib.itoa q).toArray⟩ : ByteArray) = D at HP HI HI2
        have hlg : (decide (-1000000000 < q) && decide (q < 1000000000)) = false := by rw [Bool.and_eq_false_iff, decide_eq_false_iff_not, decide_eq_false_iff_not]; omega
        by_cases hlo : -1000000000 < q
        · have hhi : ¬ q < 1000000000 := by omega
          clear hs hlg
          go_wp2_with fail
          refine (HX1.out _).mono ?_
          rintro e w8 ⟨rfl, hb8'⟩
          have hb8 := hb7.trans (hb8'.mono hb7.size)
          have hxz := HXZ.out
          generalize strOfNums (hexL (strOfNums bs).data.toList) = H at HX2 hxz HXZ
          have hxe : ((H.size : Int) == 2 * ((strOfNums bs).size : Int)) = true := by rw [beq_iff_eq]; exact hxz
          clear hxz HXZ
          go_wp2_with fail
          refine (HX2.out _).mono ?_
          rintro e w9 ⟨rfl, hb9'⟩
          have hb9 := hb8.trans (hb9'.mono hb8.size)
          go_wp2_with fail
          refine (HI.out _ (HT.out.on hb9)).mono ?_
          rintro e w10 ⟨rfl, hb10'⟩
          have hb10 := hb9.trans (hb10'.mono hb9.size)
          go_wp2_with fail
          refine (HP.out _ (HT.out.on hb10)).mono ?_
          rintro e w11 ⟨rfl, hb11'⟩
          have hb11 := hb10.trans (hb11'.mono hb10.size)
          clear hb7 hb8 hb8' hb9 hb9' hb10 hb10' hb11'
          go_wp2_with fail
          refine (HI2.out _).mono ?_
          rintro e w12 ⟨rfl, hb12'⟩
          have hb12 := hb11.trans (hb12'.mono hb11.size)
          clear hb11 hb12'
          go_wp2
          go_ret
          exact ⟨ret_bool (by first | (simp; done) | (simp; omega)), hb12⟩
        · clear hs hlg
          go_wp2_with fail
          refine (HX1.out _).mono ?_
          rintro e w8 ⟨rfl, hb8'⟩
          have hb8 := hb7.trans (hb8'.mono hb7.size)
          have hxz := HXZ.out
          generalize strOfNums (hexL (strOfNums bs).data.toList) = H at HX2 hxz HXZ
          have hxe : ((H.size : Int) == 2 * ((strOfNums bs).size : Int)) = true := by rw [beq_iff_eq]; exact hxz
          clear hxz HXZ
          go_wp2_with fail
          refine (HX2.out _).mono ?_
          rintro e w9 ⟨rfl, hb9'⟩
          have hb9 := hb8.trans (hb9'.mono hb8.size)
          go_wp2_with fail
          refine (HI.out _ (HT.out.on hb9)).mono ?_
          rintro e w10 ⟨rfl, hb10'⟩
          have hb10 := hb9.trans (hb10'.mono hb9.size)
          go_wp2_with fail
          refine (HP.out _ (HT.out.on hb10)).mono ?_
          rintro e w11 ⟨rfl, hb11'⟩
          have hb11 := hb10.trans (hb11'.mono hb10.size)
          clear hb7 hb8 hb8' hb9 hb9' hb10 hb10' hb11'
          go_wp2_with fail
          refine (HI2.out _).mono ?_
          rintro e w12 ⟨rfl, hb12'⟩
          have hb12 := hb11.trans (hb12'.mono hb11.size)
          clear hb11 hb12'
          go_wp2
          go_ret
          exact ⟨ret_bool (by first | (simp; done) | (simp; omega)), hb12⟩
  · rw [encV_out n hn]
    have hadd := concat_any [] bs (by simp; omega)
    have hsz : (strOfNums ([] ++ bs)).size ≤ 1048576 := by rw [strOfNums_size]; simp; omega
    have HD := Lib.hid (fun w => implDecV _ w hsz)
    generalize (decV (strOfNums ([] ++ bs))).1 = x1 at HD
    generalize (decV (strOfNums ([] ++ bs))).2 = x2 at HD
    clear hsz
    go_wp2_with fail
    refine (HD.out _).mono ?_
    rintro e w4 ⟨rfl, hb4'⟩
    have hb4 := hb3.trans (hb4'.mono hb3.size)
    clear hb3 hb4' hadd HD
    obtain ⟨s1, s2⟩ := nil_facts
    generalize strOfNums [] = S at s1 s2 ⊢
    have hio : (decide (0 ≤ n) && decide (n ≤ 562949953421311)) = false := by rw [Bool.and_eq_false_iff, decide_eq_false_iff_not, decide_eq_false_iff_not]; omega
    by_cases hlo0 : 0 ≤ n
    · have hhi0 : ¬ n ≤ 562949953421311 := by omega
      clear hn hio
      go_wp2_with fail
      refine (HF.out _ (code_below HC.out hb4)).mono ?_
      rintro e w5 ⟨q, d, q0, q1, d0, d1, rfl, hb5'⟩
      have hb5 := hb4.trans (hb5'.mono hb4.size)
      have HI := Lib.hid (fun w h => implFmt q w q0 q1 h)
      have HI2 := Lib.hid (fun w => specFmt q w q0 q1)
      go_wp2_with fail
      refine (implEncF q d _ q1).mono ?_
      rintro e w6 ⟨rfl, hb6'⟩
      have hb6 := hb5.trans (hb6'.mono hb5.size)
      have HE := Lib.hid (fun w => specEncF q d w q1)
      clear hb4 hb5 hb5' hb6'
      by_cases hq : 0 ≤ q ∧ 1 ≤ d ∧ d ≤ 7 ∧ q.toNat < 256 ^ d.toNat
      · obtain ⟨u, rfl⟩ := Int.eq_ofNat_of_zero_le hq.1
        obtain ⟨j, rfl⟩ := Int.eq_ofNat_of_zero_le (show 0 ≤ d by omega)
        have hu : u < 256 ^ j := by simpa using hq.2.2.2
        have hj1 : 1 ≤ j := by omega
        have hj7 : j ≤ 7 := by omega
        rw [encF_ok u j hj1 hj7 hu] at HE
        rw [encF_ok u j hj1 hj7 hu]
        have hadd := concat_any (beI j u) bs (by rw [beI_length]; omega)
        have HG := Lib.hid (fun w => implDecF (strOfNums (beI j u ++ bs)) j w)
        rw [decF_enc u j hj1 hj7 hu bs] at HG
        obtain ⟨g1, g2⟩ := ne_facts (L := beI j u) (by rw [beI_length]; exact hj1)
        have g3 : (((strOfNums (beI j u)).size : Int) != (j : Int)) = false := by rw [strOfNums_size, beI_length]; simp
        clear hq hu hj1 hj7
        go_wp2_with fail
        refine (HG.out _).mono ?_
        rintro e w7 ⟨rfl, rfl⟩
        generalize strOfNums (beI j u) = F at HE g1 g2 g3 ⊢
        clear hadd HG
        go_wp2_with fail
        refine (HE.out _).mono ?_
        rintro e w7 ⟨rfl, hb7'⟩
        have hb7 := hb6.trans (hb7'.mono hb6.size)
        clear hb6 hb7'
        by_cases hs : -1000000000 < (u : Int) ∧ (u : Int) < 1000000000
        · have HP := Lib.hid (fun w h => implPar (⟨(Lib.itoa (u : Int)).toArray⟩ : ByteArray) w (by have := Lib.itoa_length_le (u : Int) q0 q1; show (Lib.itoa (u : Int)).toArray.size ≤ 1048576; simp; omega) h)
          rw [show (⟨(Lib.itoa (u : Int)).toArray⟩ : ByteArray).data.toList = Lib.itoa (u : Int) from rfl, par_small (u : Int) hs.1 hs.2] at HP
          generalize (⟨(Lib.itoa (u : Int)).toArray⟩ : ByteArray) = D at HP HI HI2
          obtain ⟨hs1, hs2⟩ := hs
          go_wp2_with fail
          refine (HX1.out _).mono ?_
          rintro e w8 ⟨rfl, hb8'⟩
          have hb8 := hb7.trans (hb8'.mono hb7.size)
          have hxz := HXZ.out
          generalize strOfNums (hexL (strOfNums bs).data.toList) = H at HX2 hxz HXZ
          have hxe : ((H.size : Int) == 2 * ((strOfNums bs).size : Int)) = true := by rw [beq_iff_eq]; exact hxz
          clear hxz HXZ
          go_wp2_with fail
          refine (HX2.out _).mono ?_
          rintro e w9 ⟨rfl, hb9'⟩
          have hb9 := hb8.trans (hb9'.mono hb8.size)
          go_wp2_with fail
          refine (HI.out _ (HT.out.on hb9)).mono ?_
          rintro e w10 ⟨rfl, hb10'⟩
          have hb10 := hb9.trans (hb10'.mono hb9.size)
          go_wp2_with fail
          refine (HP.out _ (HT.out.on hb10)).mono ?_
          rintro e w11 ⟨rfl, hb11'⟩
          have hb11 := hb10.trans (hb11'.mono hb10.size)
          clear hb7 hb8 hb8' hb9 hb9' hb10 hb10' hb11'
          go_wp2_with fail
          refine (HI2.out _).mono ?_
          rintro e w12 ⟨rfl, hb12'⟩
          have hb12 := hb11.trans (hb12'.mono hb11.size)
          clear hb11 hb12'
          go_wp2
          go_ret
          exact ⟨ret_bool (by first | (simp; done) | (simp; omega)), hb12⟩
        · have HP := Lib.hid (fun w h => implPar (⟨(Lib.itoa (u : Int)).toArray⟩ : ByteArray) w (by have := Lib.itoa_length_le (u : Int) q0 q1; show (Lib.itoa (u : Int)).toArray.size ≤ 1048576; simp; omega) h)
          rw [show (⟨(Lib.itoa (u : Int)).toArray⟩ : ByteArray).data.toList = Lib.itoa (u : Int) from rfl, par_large (u : Int) hs] at HP
          generalize (⟨(Lib.itoa (u : Int)).toArray⟩ : ByteArray) = D at HP HI HI2
          have hlg : (decide (-1000000000 < (u : Int)) && decide ((u : Int) < 1000000000)) = false := by rw [Bool.and_eq_false_iff, decide_eq_false_iff_not, decide_eq_false_iff_not]; omega
          have hhi : ¬ (u : Int) < 1000000000 := by omega
          clear hs hlg
          go_wp2_with fail
          refine (HX1.out _).mono ?_
          rintro e w8 ⟨rfl, hb8'⟩
          have hb8 := hb7.trans (hb8'.mono hb7.size)
          have hxz := HXZ.out
          generalize strOfNums (hexL (strOfNums bs).data.toList) = H at HX2 hxz HXZ
          have hxe : ((H.size : Int) == 2 * ((strOfNums bs).size : Int)) = true := by rw [beq_iff_eq]; exact hxz
          clear hxz HXZ
          go_wp2_with fail
          refine (HX2.out _).mono ?_
          rintro e w9 ⟨rfl, hb9'⟩
          have hb9 := hb8.trans (hb9'.mono hb8.size)
          go_wp2_with fail
          refine (HI.out _ (HT.out.on hb9)).mono ?_
          rintro e w10 ⟨rfl, hb10'⟩
          have hb10 := hb9.trans (hb10'.mono hb9.size)
          go_wp2_with fail
          refine (HP.out _ (HT.out.on hb10)).mono ?_
          rintro e w11 ⟨rfl, hb11'⟩
          have hb11 := hb10.trans (hb11'.mono hb10.size)
          clear hb7 hb8 hb8' hb9 hb9' hb10 hb10' hb11'
          go_wp2_with fail
          refine (HI2.out _).mono ?_
          rintro e w12 ⟨rfl, hb12'⟩
          have hb12 := hb11.trans (hb12'.mono hb11.size)
          clear hb11 hb12'
          go_wp2
          go_ret
          exact ⟨ret_bool (by first | (simp; done) | (simp; omega)), hb12⟩
      · have hz : encF q d = [] := by unfold encF; rw [if_neg hq]
        rw [hz] at HE
        rw [hz]
        have hadd := concat_any [] bs (by simp; omega)
        have HG := Lib.hid (fun w => implDecF (strOfNums ([] ++ bs)) d w)
        generalize (decF (strOfNums ([] ++ bs)).data.toList d).1 = y1 at HG
        generalize (decF (strOfNums ([] ++ bs)).data.toList d).2 = y2 at HG
        obtain ⟨g1, g2⟩ := nil_facts
        clear hq hz
        go_wp2_with fail
        refine (HG.out _).mono ?_
        rintro e w7 ⟨rfl, rfl⟩
        generalize strOfNums [] = F at HE g1 g2 ⊢
        clear hadd HG
        go_wp2_with fail
        refine (HE.out _).mono ?_
        rintro e w7 ⟨rfl, hb7'⟩
        have hb7 := hb6.trans (hb7'.mono hb6.size)
        clear hb6 hb7'
        by_cases hs : -1000000000 < q ∧ q < 1000000000
        · have HP := Lib.hid (fun w h => implPar (⟨(Lib.itoa q).toArray⟩ : ByteArray) w (by have := Lib.itoa_length_le q q0 q1; show (Lib.itoa q).toArray.size ≤ 1048576; simp; omega) h)
          rw [show (⟨(Lib.itoa q).toArray⟩ : ByteArray).data.toList = Lib.itoa q from rfl, par_small q hs.1 hs.2] at HP
          generalize (⟨(Lib.itoa q).toArray⟩ : ByteArray) = D at HP HI HI2
          obtain ⟨hs1, hs2⟩ := hs
          go_wp2_with fail
          refine (HX1.out _).mono ?_
          rintro e w8 ⟨rfl, hb8'⟩
          have hb8 := hb7.trans (hb8'.mono hb7.size)
          have hxz := HXZ.out
          generalize strOfNums (hexL (strOfNums bs).data.toList) = H at HX2 hxz HXZ
          have hxe : ((H.size : Int) == 2 * ((strOfNums bs).size : Int)) = true := by rw [beq_iff_eq]; exact hxz
          clear hxz HXZ
          go_wp2_with fail
          refine (HX2.out _).mono ?_
          rintro e w9 ⟨rfl, hb9'⟩
          have hb9 := hb8.trans (hb9'.mono hb8.size)
          go_wp2_with fail
          refine (HI.out _ (HT.out.on hb9)).mono ?_
          rintro e w10 ⟨rfl, hb10'⟩
          have hb10 := hb9.trans (hb10'.mono hb9.size)
          go_wp2_with fail
          refine (HP.out _ (HT.out.on hb10)).mono ?_
          rintro e w11 ⟨rfl, hb11'⟩
          have hb11 := hb10.trans (hb11'.mono hb10.size)
          clear hb7 hb8 hb8' hb9 hb9' hb10 hb10' hb11'
          go_wp2_with fail
          refine (HI2.out _).mono ?_
          rintro e w12 ⟨rfl, hb12'⟩
          have hb12 := hb11.trans (hb12'.mono hb11.size)
          clear hb11 hb12'
          go_wp2
          go_ret
          exact ⟨ret_bool (by first | (simp; done) | (simp; omega)), hb12⟩
        · have HP := Lib.hid (fun w h => implPar (⟨(Lib.itoa q).toArray⟩ : ByteArray) w (by have := Lib.itoa_length_le q q0 q1; show (Lib.itoa q).toArray.size ≤ 1048576; simp; omega) h)
          rw [show (⟨(Lib.itoa q).toArray⟩ : ByteArray).data.toList = Lib.itoa q from rfl, par_large q hs] at HP
          generalize (⟨(Lib.itoa q).toArray⟩ : ByteArray) = D at HP HI HI2
          have hlg : (decide (-1000000000 < q) && decide (q < 1000000000)) = false := by rw [Bool.and_eq_false_iff, decide_eq_false_iff_not, decide_eq_false_iff_not]; omega
          by_cases hlo : -1000000000 < q
          · have hhi : ¬ q < 1000000000 := by omega
            clear hs hlg
            go_wp2_with fail
            refine (HX1.out _).mono ?_
            rintro e w8 ⟨rfl, hb8'⟩
            have hb8 := hb7.trans (hb8'.mono hb7.size)
            have hxz := HXZ.out
            generalize strOfNums (hexL (strOfNums bs).data.toList) = H at HX2 hxz HXZ
            have hxe : ((H.size : Int) == 2 * ((strOfNums bs).size : Int)) = true := by rw [beq_iff_eq]; exact hxz
            clear hxz HXZ
            go_wp2_with fail
            refine (HX2.out _).mono ?_
            rintro e w9 ⟨rfl, hb9'⟩
            have hb9 := hb8.trans (hb9'.mono hb8.size)
            go_wp2_with fail
            refine (HI.out _ (HT.out.on hb9)).mono ?_
            rintro e w10 ⟨rfl, hb10'⟩
            have hb10 := hb9.trans (hb10'.mono hb9.size)
            go_wp2_with fail
            refine (HP.out _ (HT.out.on hb10)).mono ?_
            rintro e w11 ⟨rfl, hb11'⟩
            have hb11 := hb10.trans (hb11'.mono hb10.size)
            clear hb7 hb8 hb8' hb9 hb9' hb10 hb10' hb11'
            go_wp2_with fail
            refine (HI2.out _).mono ?_
            rintro e w12 ⟨rfl, hb12'⟩
            have hb12 := hb11.trans (hb12'.mono hb11.size)
            clear hb11 hb12'
            go_wp2
            go_ret
            exact ⟨ret_bool (by first | (simp; done) | (simp; omega)), hb12⟩
          · clear hs hlg
            go_wp2_with fail
            refine (HX1.out _).mono ?_
            rintro e w8 ⟨rfl, hb8'⟩
            have hb8 := hb7.trans (hb8'.mono hb7.size)
            have hxz := HXZ.out
            generalize strOfNums (hexL (strOfNums bs).data.toList) = H at HX2 hxz HXZ
            have hxe : ((H.size : Int) == 2 * ((strOfNums bs).size : Int)) = true := by rw [beq_iff_eq]; exact hxz
            clear hxz HXZ
            go_wp2_with fail
            refine (HX2.out _).mono ?_
            rintro e w9 ⟨rfl, hb9'⟩
            have hb9 := hb8.trans (hb9'.mono hb8.size)
            go_wp2_with fail
            refine (HI.out _ (HT.out.on hb9)).mono ?_
            rintro e w10 ⟨rfl, hb10'⟩
            have hb10 := hb9.trans (hb10'.mono hb9.size)
            go_wp2_with fail
            refine (HP.out _ (HT.out.on hb10)).mono ?_
            rintro e w11 ⟨rfl, hb11'⟩
            have hb11 := hb10.trans (hb11'.mono hb10.size)
            clear hb7 hb8 hb8' hb9 hb9' hb10 hb10' hb11'
            go_wp2_with fail
            refine (HI2.out _).mono ?_
            rintro e w12 ⟨rfl, hb12'⟩
            have hb12 := hb11.trans (hb12'.mono hb11.size)
            clear hb11 hb12'
            go_wp2
            go_ret
            exact ⟨ret_bool (by first | (simp; done) | (simp; omega)), hb12⟩
    · clear hn hio
      go_wp2_with fail
      refine (HF.out _ (code_below HC.out hb4)).mono ?_
      rintro e w5 ⟨q, d, q0, q1, d0, d1, rfl, hb5'⟩
      have hb5 := hb4.trans (hb5'.mono hb4.size)
      have HI := Lib.hid (fun w h => implFmt q w q0 q1 h)
      have HI2 := Lib.hid (fun w => specFmt q w q0 q1)
      go_wp2_with fail
      refine (implEncF q d _ q1).mono ?_
      rintro e w6 ⟨rfl, hb6'⟩
      have hb6 := hb5.trans (hb6'.mono hb5.size)
      have HE := Lib.hid (fun w => specEncF q d w q1)
      clear hb4 hb5 hb5' hb6'
      by_cases hq : 0 ≤ q ∧ 1 ≤ d ∧ d ≤ 7 ∧ q.toNat < 256 ^ d.toNat
      · obtain ⟨u, rfl⟩ := Int.eq_ofNat_of_zero_le hq.1
        obtain ⟨j, rfl⟩ := Int.eq_ofNat_of_zero_le (show 0 ≤ d by omega)
        have hu : u < 256 ^ j := by simpa using hq.2.2.2
        have hj1 : 1 ≤ j := by omega
        have hj7 : j ≤ 7 := by omega
        rw [encF_ok u j hj1 hj7 hu] at HE
        rw [encF_ok u j hj1 hj7 hu]
        have hadd := concat_any (beI j u) bs (by rw [beI_length]; omega)
        have HG := Lib.hid (fun w => implDecF (strOfNums (beI j u ++ bs)) j w)
        rw [decF_enc u j hj1 hj7 hu bs] at HG
        obtain ⟨g1, g2⟩ := ne_facts (L := beI j u) (by rw [beI_length]; exact hj1)
        have g3 : (((strOfNums (beI j u)).size : Int) != (j : Int)) = false := by rw [strOfNums_size, beI_length]; simp
        clear hq hu hj1 hj7
        go_wp2_with fail
        refine (HG.out _).mono ?_
        rintro e w7 ⟨rfl, rfl⟩
        generalize strOfNums (beI j u) = F at HE g1 g2 g3 ⊢
        clear hadd HG
        go_wp2_with fail
        refine (HE.out _).mono ?_
        rintro e w7 ⟨rfl, hb7'⟩
        have hb7 := hb6.trans (hb7'.mono hb6.size)
        clear hb6 hb7'
        by_cases hs : -1000000000 < (u : Int) ∧ (u : Int) < 1000000000
        · have HP := Lib.hid (fun w h => implPar (⟨(Lib.itoa (u : Int)).toArray⟩ : ByteArray) w (by have := Lib.itoa_length_le (u : Int) q0 q1; show (Lib.itoa (u : Int)).toArray.size ≤ 1048576; simp; omega) h)
          rw [show (⟨(Lib.itoa (u : Int)).toArray⟩ : ByteArray).data.toList = Lib.itoa (u : Int) from rfl, par_small (u : Int) hs.1 hs.2] at HP
          generalize (⟨(Lib.itoa (u : Int)).toArray⟩ : ByteArray) = D at HP HI HI2
          obtain ⟨hs1, hs2⟩ := hs
          go_wp2_with fail
          refine (HX1.out _).mono ?_
          rintro e w8 ⟨rfl, hb8'⟩
          have hb8 := hb7.trans (hb8'.mono hb7.size)
          have hxz := HXZ.out
          generalize strOfNums (hexL (strOfNums bs).data.toList) = H at HX2 hxz HXZ
          have hxe : ((H.size : Int) == 2 * ((strOfNums bs).size : Int)) = true := by rw [beq_iff_eq]; exact hxz
          clear hxz HXZ
          go_wp2_with fail
          refine (HX2.out _).mono ?_
          rintro e w9 ⟨rfl, hb9'⟩
          have hb9 := hb8.trans (hb9'.mono hb8.size)
          go_wp2_with fail
          refine (HI.out _ (HT.out.on hb9)).mono ?_
          rintro e w10 ⟨rfl, hb10'⟩
          have hb10 := hb9.trans (hb10'.mono hb9.size)
          go_wp2_with fail
          refine (HP.out _ (HT.out.on hb10)).mono ?_
          rintro e w11 ⟨rfl, hb11'⟩
          have hb11 := hb10.trans (hb11'.mono hb10.size)
          clear hb7 hb8 hb8' hb9 hb9' hb10 hb10' hb11'
          go_wp2_with fail
          refine (HI2.out _).mono ?_
          rintro e w12 ⟨rfl, hb12'⟩
          have hb12 := hb11.trans (hb12'.mono hb11.size)
          clear hb11 hb12'
          go_wp2
          go_ret
          exact ⟨ret_bool (by first | (simp; done) | (simp; omega)), hb12⟩
        · have HP := Lib.hid (fun w h => implPar (⟨(Lib.itoa (u : Int)).toArray⟩ : ByteArray) w (by have := Lib.itoa_length_le (u : Int) q0 q1; show (Lib.itoa (u : Int)).toArray.size ≤ 1048576; simp; omega) h)
          rw [show (⟨(Lib.itoa (u : Int)).toArray⟩ : ByteArray).data.toList = Lib.itoa (u : Int) from rfl, par_large (u : Int) hs] at HP
          generalize (⟨(Lib.itoa (u : Int)).toArray⟩ : ByteArray) = D at HP HI HI2
          have hlg : (decide (-1000000000 < (u : Int)) && decide ((u : Int) < 1000000000)) = false := by rw [Bool.and_eq_false_iff, decide_eq_false_iff_not, decide_eq_false_iff_not]; omega
          have hhi : ¬ (u : Int) < 1000000000 := by omega
          clear hs hlg
          go_wp2_with fail
          refine (HX1.out _).mono ?_
          rintro e w8 ⟨rfl, hb8'⟩
          have hb8 := hb7.trans (hb8'.mono hb7.size)
          have hxz := HXZ.out
          generalize strOfNums (hexL (strOfNums bs).data.toList) = H at HX2 hxz HXZ
          have hxe : ((H.size : Int) == 2 * ((strOfNums bs).size : Int)) = true := by rw [beq_iff_eq]; exact hxz
          clear hxz HXZ
          go_wp2_with fail
          refine (HX2.out _).mono ?_
          rintro e w9 ⟨rfl, hb9'⟩
          have hb9 := hb8.trans (hb9'.mono hb8.size)
          go_wp2_with fail
          refine (HI.out _ (HT.out.on hb9)).mono ?_
          rintro e w10 ⟨rfl, hb10'⟩
          have hb10 := hb9.trans (hb10'.mono hb9.size)
          go_wp2_with fail
          refine (HP.out _ (HT.out.on hb10)).mono ?_
          rintro e w11 ⟨rfl, hb11'⟩
          have hb11 := hb10.trans (hb11'.mono hb10.size)
          clear hb7 hb8 hb8' hb9 hb9' hb10 hb10' hb11'
          go_wp2_with fail
          refine (HI2.out _).mono ?_
          rintro e w12 ⟨rfl, hb12'⟩
          have hb12 := hb11.trans (hb12'.mono hb11.size)
          clear hb11 hb12'
          go_wp2
          go_ret
          exact ⟨ret_bool (by first | (simp; done) | (simp; omega)), hb12⟩
      · have hz : encF q d = [] := by unfold encF; rw [if_neg hq]
        rw [hz] at HE
        rw [hz]
        have hadd := concat_any [] bs (by simp; omega)
        have HG := Lib.hid (fun w => implDecF (strOfNums ([] ++ bs)) d w)
        generalize (decF (strOfNums ([] ++ bs)).data.toList d).1 = y1 at HG
        generalize (decF (strOfNums ([] ++ bs)).data.toList d).2 = y2 at HG
        obtain ⟨g1, g2⟩ := nil_facts
        clear hq hz
        go_wp2_with fail
        refine (HG.out _).mono ?_
        rintro e w7 ⟨rfl, rfl⟩
        generalize strOfNums [] = F at HE g1 g2 ⊢
        clear hadd HG
        go_wp2_with fail
        refine (HE.out _).mono ?_
        rintro e w7 ⟨rfl, hb7'⟩
        have hb7 := hb6.trans (hb7'.mono hb6.size)
        clear hb6 hb7'
        by_cases hs : -1000000000 < q ∧ q < 1000000000
        · have HP := Lib.hid (fun w h => implPar (⟨(Lib.itoa q).toArray⟩ : ByteArray) w (by have := Lib.itoa_length_le q q0 q1; show (Lib.itoa q).toArray.size ≤ 1048576; simp; omega) h)
          rw [show (⟨(Lib.itoa q).toArray⟩ : ByteArray).data.toList = Lib.itoa q from rfl, par_small q hs.1 hs.2] at HP
          generalize (⟨(Lib.itoa q).toArray⟩ : ByteArray) = D at HP HI HI2
          obtain ⟨hs1, hs2⟩ := hs
          go_wp2_with fail
          refine (HX1.out _).mono ?_
          rintro e w8 ⟨rfl, hb8'⟩
          have hb8 := hb7.trans (hb8'.mono hb7.size)
          have hxz := HXZ.out
          generalize strOfNums (hexL (strOfNums bs).data.toList) = H at HX2 hxz HXZ
          have hxe : ((H.size : Int) == 2 * ((strOfNums bs).size : Int)) = true := by rw [beq_iff_eq]; exact hxz
          clear hxz HXZ
          go_wp2_with fail
          refine (HX2.out _).mono ?_
          rintro e w9 ⟨rfl, hb9'⟩
          have hb9 := hb8.trans (hb9'.mono hb8.size)
          go_wp2_with fail
          refine (HI.out _ (HT.out.on hb9)).mono ?_
          rintro e w10 ⟨rfl, hb10'⟩
          have hb10 := hb9.trans (hb10'.mono hb9.size)
          go_wp2_with fail
          refine (HP.out _ (HT.out.on hb10)).mono ?_
          rintro e w11 ⟨rfl, hb11'⟩
          have hb11 := hb10.trans (hb11'.mono hb10.size)
          clear hb7 hb8 hb8' hb9 hb9' hb10 hb10' hb11'
          go_wp2_with fail
          refine (HI2.out _).mono ?_
          rintro e w12 ⟨rfl, hb12'⟩
          have hb12 := hb11.trans (hb12'.mono hb11.size)
          clear hb11 hb12'
          go_wp2
          go_ret
          exact ⟨ret_bool (by first | (simp; done) | (simp; omega)), hb12⟩
        · have HP := Lib.hid (fun w h => implPar (⟨(Lib.itoa q).toArray⟩ : ByteArray) w (by have := Lib.itoa_length_le q q0 q1; show (Lib.itoa q).toArray.size ≤ 1048576; simp; omega) h)
          rw [show (⟨(Lib.itoa q).toArray⟩ : ByteArray).data.toList = Lib.itoa q from rfl, par_large q hs] at HP
          generalize (⟨(Lib.itoa q).toArray⟩ : ByteArray) = D at HP HI HI2
          have hlg : (decide (-1000000000 < q) && decide (q < 1000000000)) = false := by rw [Bool.and_eq_false_iff, decide_eq_false_iff_not, decide_eq_false_iff_not]; omega
          by_cases hlo : -1000000000 < q
          · have hhi : ¬ q < 1000000000 := by omega
            clear hs hlg
            go_wp2_with fail
            refine (HX1.out _).mono ?_
            rintro e w8 ⟨rfl, hb8'⟩
            have hb8 := hb7.trans (hb8'.mono hb7.size)
            have hxz := HXZ.out
            generalize strOfNums (hexL (strOfNums bs).data.toList) = H at HX2 hxz HXZ
            have hxe : ((H.size : Int) == 2 * ((strOfNums bs).size : Int)) = true := by rw [beq_iff_eq]; exact hxz
            clear hxz HXZ
            go_wp2_with fail
            refine (HX2.out _).mono ?_
            rintro e w9 ⟨rfl, hb9'⟩
            have hb9 := hb8.trans (hb9'.mono hb8.size)
            go_wp2_with fail
            refine (HI.out _ (HT.out.on hb9)).mono ?_
            rintro e w10 ⟨rfl, hb10'⟩
            have hb10 := hb9.trans (hb10'.mono hb9.size)
            go_wp2_with fail
            refine (HP.out _ (HT.out.on hb10)).mono ?_
            rintro e w11 ⟨rfl, hb11'⟩
            have hb11 := hb10.trans (hb11'.mono hb10.size)
            clear hb7 hb8 hb8' hb9 hb9' hb10 hb10' hb11'
            go_wp2_with fail
            refine (HI2.out _).mono ?_
            rintro e w12 ⟨rfl, hb12'⟩
            have hb12 := hb11.trans (hb12'.mono hb11.size)
            clear hb11 hb12'
            go_wp2
            go_ret
            exact ⟨ret_bool (by first | (simp; done) | (simp; omega)), hb12⟩
          · clear hs hlg
            go_wp2_with fail
            refine (HX1.out _).mono ?_
            rintro e w8 ⟨rfl, hb8'⟩
            have hb8 := hb7.trans (hb8'.mono hb7.size)
            have hxz := HXZ.out
            generalize strOfNums (hexL (strOfNums bs).data.toList) = H at HX2 hxz HXZ
            have hxe : ((H.size : Int) == 2 * ((strOfNums bs).size : Int)) = true := by rw [beq_iff_eq]; exact hxz
            clear hxz HXZ
            go_wp2_with fail
            refine (HX2.out _).mono ?_
            rintro e w9 ⟨rfl, hb9'⟩
            have hb9 := hb8.trans (hb9'.mono hb8.size)
            go_wp2_with fail
            refine (HI.out _ (HT.out.on hb9)).mono ?_
            rintro e w10 ⟨rfl, hb10'⟩
            have hb10 := hb9.trans (hb10'.mono hb9.size)
            go_wp2_with fail
            refine (HP.out _ (HT.out.on hb10)).mono ?_
            rintro e w11 ⟨rfl, hb11'⟩
            have hb11 := hb10.trans (hb11'.mono hb10.size)
            clear hb7 hb8 hb8' hb9 hb9' hb10 hb10' hb11'
            go_wp2_with fail
            refine (HI2.out _).mono ?_
            rintro e w12 ⟨rfl, hb12'⟩
            have hb12 := hb11.trans (hb12'.mono hb11.size)
            clear hb11 hb12'
            go_wp2
            go_ret
            exact ⟨ret_bool (by first | (simp; done) | (simp; omega)), hb12⟩
theorem law_fnIntegerEncodings (a : Option Addr) (cap : Nat) (xs : List Int) (w : World) (hcode : Code w (.slice a xs.length cap) xs) (hby : ∀ x ∈ xs, 0 ≤ x ∧ x ≤ 255) (htab : Tab w) :
    Calls Tryd.prog 3 #[.slice a xs.length cap] w fun e w' => e = .returned (.bool true) ∧ Below w.heap.size w w' := by
  by_cases h : xs.length ≤ 1048576
  · exact law_small a cap xs w hcode hby h htab
  · have H := Lib.hid (show 1048576 < xs.length by omega)
    clear hcode hby htab h
    generalize xs.length = k at H
    go_enter Tryd.func3, Tryd.ntmps3
    go_wp2_with (go_at_call 6; refine (big_yes _ _ _ _ H.out).mono ?_; rintro e w' ⟨rfl, rfl⟩)
    go_ret
    exact ⟨rfl, Below.refl _ _⟩
end Go.Proofs.YtanpmjmlglkopaaDoor
