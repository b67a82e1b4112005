/-
  The walks of the program's text of a mask: firstRun, formatRun, runMask, format; FormatSet answers 'fmtSet'.
-/
import Derived.Test.YteelgogfpidcdabDoorTabZ
import Derived.Test.YteelgogfpidcdabDoorMaskRuns
import Derived.Test.YteelgogfpidcdabDoorMaskMem
import Derived.Test.YteelgogfpidcdabDoorFmtSet
import Derived.Test.YteelgogfpidcdabDoorStrs
import Derived.Test.YteelgogfpidcdabDoorShelf
namespace Go.Proofs.YteelgogfpidcdabDoor
open Go.RowKit
set_option linter.unusedVariables false
theorem xor_max (y : Nat) (hy : y < 4294967296) : bits .xor .u32 IntKind.u32.max (y : Int) = ((4294967295 - y : Nat) : Int) := by
  have e : BitVec.ofInt 32 IntKind.u32.max = BitVec.allOnes 32 := by decide
  show IntKind.u32.wrap ((BitVec.ofInt 32 IntKind.u32.max ^^^ BitVec.ofInt 32 (y : Int)).toNat : Int) = _
  rw [e, BitVec.allOnes_xor, BitVec.toNat_not, nat_u32 y hy, IntKind.wrap_u32]
  omega
theorem pair_n {a b c d : Int} (h1 : a = b) (h2 : c = d) : Ending.returned (.tuple #[.int .i64 a, .int .i64 c]) = .returned (.tuple #[.int .i64 b, .int .i64 d]) := by rw [h1, h2]
set_option maxHeartbeats 1000000 in
set_option maxRecDepth 100000 in
theorem implFirstRun (m : Nat) (h0 : m ≠ 0) (h : m < 16777216) (w : World) (hT : TabZ w) :
    Calls Tryd.prog 33 #[.int .u32 (m : Nat)] w fun e w' => (∃ f n : Nat, FirstRun m f n ∧ e = .returned (.tuple #[.int .i64 (f : Int), .int .i64 ((f + n : Nat) : Int)])) ∧ w' = w := by
  obtain ⟨hn0, hn1, hf⟩ := firstRun_of h0 h
  obtain ⟨_, _, hf32⟩ := ctz_bits h0 (by omega)
  have H1 := Lib.hid (tz32 m (by omega) w hT)
  have hy : m / 2 ^ Lib.ctz 32 m < 16777216 := Nat.lt_of_le_of_lt (Nat.div_le_self _ _) h
  have hd : (m : Int) / 2 ^ Lib.ctz 32 m = ((m / 2 ^ Lib.ctz 32 m : Nat) : Int) := by norm_cast
  generalize Lib.ctz 32 m = f at *
  have H2 := Lib.hid (tz32 (4294967295 - m / 2 ^ f) (Nat.lt_of_le_of_lt (Nat.sub_le _ _) (by omega)) w hT)
  have HF := Lib.hid hf
  have HD := Lib.hid hd
  have HY := Lib.hid hy
  clear hf hd hy hT
  generalize m / 2 ^ f = y at *
  generalize Lib.ctz 32 (4294967295 - y) = n at *
  have HN := Lib.hid hn0
  clear hn0
  go_enter Tryd.func33, Tryd.ntmps33
  go_wp2_with fail
  refine H1.out.mono ?_
  rintro e w1 ⟨rfl, rfl⟩
  go_wp2_with fail
  rw [HD.out, xor_max y (by have := HY.out; omega)]
  refine H2.out.mono ?_
  rintro e w2 ⟨rfl, rfl⟩
  have b1 : (n : Int) ≤ 32 := by omega
  have b2 : (f : Int) < 32 := by omega
  go_wp2
  go_ret2
  exact ⟨⟨f, n - 1, HF.out, pair_n rfl (by have := HN.out; omega)⟩, rfl⟩
theorem fmtI (n : Nat) (w : World) (h1 : n ≤ 23) : Calls Tryd.prog 24 #[.int .i64 (n : Int)] w fun e w' => e = .returned (.string (strB (Lib.itoa (n : Int)))) ∧ Below w.heap.size w w' := by
  go_enter Tryd.func24, Tryd.ntmps24
  go_wp2_with fail
  refine (Tryd.strconv_Itoa_small n (by omega) _).mono ?_
  rintro e w1 ⟨rfl, rfl⟩
  have he : (⟨(Lib.decDigits n).toArray⟩ : ByteArray) = strB (Lib.itoa (n : Int)) := by
    unfold Lib.itoa strB
    rw [if_neg (by omega), Int.toNat_natCast]
  rw [he]
  go_wp2
  go_ret
  exact ⟨rfl, Below.refl _ _⟩
set_option maxHeartbeats 1000000 in
set_option maxRecDepth 100000 in
theorem implFormatRun (f t : Nat) (w : World) (hf : f ≤ 23) (ht : t ≤ 23) : Calls Tryd.prog 34 #[.int .i64 (f : Int), .int .i64 (t : Int)] w fun e w' => e = .returned (.string (strB (runText ((f : Int), (t : Int))))) ∧ Below w.heap.size w w' := by
  have F1 := Lib.hid (fun w => fmtI f w hf)
  have F2 := Lib.hid (fun w => fmtI t w ht)
  by_cases he : (f : Int) = (t : Int)
  · obtain rfl : f = t := by omega
    have HT := Lib.hid (text_one he)
    rw [HT.out]
    clear he F2
    go_enter Tryd.func34, Tryd.ntmps34
    go_wp2_with fail
    refine (F1.out _).mono ?_
    rintro e w1 ⟨rfl, b1⟩
    go_wp2
    go_ret
    exact ⟨rfl, b1⟩
  · have HT := Lib.hid (text_two he)
    rw [HT.out]
    have l1 := Lib.itoa_length_le (f : Int) (by omega) (by omega)
    have l2 := Lib.itoa_length_le (t : Int) (by omega) (by omega)
    generalize Lib.itoa (f : Int) = p at *
    generalize Lib.itoa (t : Int) = q at *
    have d1 : ∀ w, (Op.stringOp .add (strB p) ⟨#[45]⟩).run Tryd.prog w = .ok (.string (strB (p ++ [45]))) w := strB_add p [45] (by simp; omega)
    have d2 : ∀ w, (Op.stringOp .add (strB (p ++ [45])) (strB q)).run Tryd.prog w = .ok (.string (strB ((p ++ [45]) ++ q))) w := strB_add (p ++ [45]) q (by simp; omega)
    have D1 := Lib.hid d1
    have D2 := Lib.hid d2
    clear l1 l2 d1 d2
    go_enter Tryd.func34, Tryd.ntmps34
    go_wp2_with fail
    refine (F1.out _).mono ?_
    rintro e w1 ⟨rfl, b1⟩
    have d1 := D1.out
    go_wp2_with fail
    refine (F2.out _).mono ?_
    rintro e w2 ⟨rfl, b2⟩
    have b3 := b1.trans (b2.mono b1.size)
    have d2 := D2.out
    clear b1 b2 d1
    go_wp2
    go_ret
    exact ⟨ret_s (by simp), b3⟩
theorem ret_u {a b : Int} (h : a = b) : Ending.returned (.int .u32 a) = .returned (.int .u32 b) := by rw [h]
theorem rangeM_val {f t : Nat} (h : f ≤ t) (ht : t ≤ 23) : ((2 : Int) ^ (t + 1) % 4294967296 - 2 ^ f % 4294967296) % 4294967296 = ((rangeM f t : Nat) : Int) := by
  have h1 : 2 ^ (t + 1) ≤ 2 ^ 24 := Nat.pow_le_pow_right (by omega) (by omega)
  have h2 : 2 ^ f ≤ 2 ^ (t + 1) := Nat.pow_le_pow_right (by omega) (by omega)
  have c1 : (2 : Int) ^ (t + 1) = ((2 ^ (t + 1) : Nat) : Int) := by norm_cast
  have c2 : (2 : Int) ^ f = ((2 ^ f : Nat) : Int) := by norm_cast
  rw [c1, c2]
  unfold rangeM
  clear c1 c2
  generalize 2 ^ (t + 1) = a at *
  generalize 2 ^ f = b at *
  omega
set_option maxHeartbeats 1000000 in
theorem implRunMask (f t : Nat) (w : World) (h : f ≤ t) (ht : t ≤ 23) : Calls Tryd.prog 35 #[.int .i64 (f : Int), .int .i64 (t : Int)] w fun e w' => e = .returned (.int .u32 ((rangeM f t : Nat) : Int)) ∧ Below w.heap.size w w' := by
  go_enter Tryd.func35, Tryd.ntmps35
  have e1 : IntKind.i64.wrap ((t : Int) + 1) = (t : Int) + 1 := IntWalk.i64_in _ (by omega)
  have e2 : (0 : Int) ≤ (t : Int) + 1 := by omega
  have e3 : (0 : Int) ≤ (f : Int) := by omega
  go_wp2
  go_quiet (fail)
  have hv := rangeM_val h ht
  go_wp2
  go_ret
  exact ⟨ret_u hv, below_drewN (Below.refl _ _) _⟩
theorem join_texts (rs : List (Int × Int)) : Lib.join ((rs.map fun r => strB (runText r)).map (·.data.toList)) (⟨#[32]⟩ : ByteArray).data.toList = glue [] rs := by
  rw [List.map_map, ← join_glue]
  rfl
set_option maxHeartbeats 2000000 in
set_option maxRecDepth 100000 in
theorem implFormat (m : Nat) (h : m < 16777216) (w : World) (hT : TabZ w) :
    Calls Tryd.prog 26 #[.int .u32 (m : Nat)] w fun e w' => e = .returned (.string (strB (fmtRuns (memL m)))) ∧ Below w.heap.size w w' := by
  have HT := Lib.hid hT
  clear hT
  by_cases h0 : m = 0
  · subst h0
    have HE : Hid (fmtRuns (memL 0) = [110, 111, 110, 101]) := Lib.hid (by rw [memL_zero]; rfl)
    rw [HE.out]
    go_enter Tryd.func26, Tryd.ntmps26
    go_wp2
    go_ret
    exact ⟨rfl, Below.refl _ _⟩
  · have HE : Hid (fmtRuns (memL m) = glue [] (runs (memL m))) := Lib.hid (by unfold fmtRuns; rw [if_neg (memL_ne h0 h)])
    have HG := Lib.hid (memL_glue m)
    have HR : Hid (runs (memL m) ≠ []) := Lib.hid (by rw [runs_first h (firstRun_of h0 h).2.2]; simp)
    have HL := Lib.hid (Nat.le_trans (runs_len (memL m)) (memL_len m))
    have hb : ((m : Int) == 0) = false := by simp; omega
    rw [HE.out]
    clear h0
    go_enter Tryd.func26, Tryd.ntmps26
    go_wp2
    clear hb
    go_loopw [0, 3] (fun x v wr => ∃ (k : Nat) (done : List (Int × Int)), x = .int .u32 (k : Nat) ∧ k < 16777216 ∧ OwnsS wr w.heap.size v (done.map fun r => strB (runText r)) ∧ Below w.heap.size w wr ∧ Hid (done ++ runs (memL k) = runs (memL m))) (fun x _ _ => (intOf x).toNat)
    case atStart => exact ⟨m, [], rfl, h, ownsS_nil _ _, Below.refl _ _, Lib.hid rfl⟩
    case round =>
      obtain ⟨k, done, rfl, hk, hown, hbel, hdone⟩ := hrel
      clear h
      have hB := hbel.size
      by_cases hk0 : k = 0
      · subst hk0
        have hd : done = runs (memL m) := by have := hdone.out; rw [memL_zero] at this; simpa [runs] using this
        subst hd
        rcases ownsS_strs hown with ⟨hnil, _⟩ | ⟨b, off, cap, rfl, hcap, hblt, hcells⟩
        · exact absurd (List.map_eq_nil_iff.1 hnil) HR.out
        · have HJ := Lib.hid (Tryd.strings_Join b off cap ((runs (memL m)).map fun r => strB (runText r)) ⟨#[32]⟩ wr (fun j x hx => by
            obtain ⟨hj, rfl⟩ := List.getElem?_eq_some_iff.1 hx
            have := hcells j hj
            rw [List.getD, List.getElem?_eq_getElem hj] at this
            exact this) hblt (by have := HL.out; simp; omega) hcap (by rw [join_texts]; have := HG.out; omega))
          rw [join_texts] at HJ
          clear hcells hcap hown hdone
          generalize (runs (memL m)).map (fun r => strB (runText r)) = ts at *
          obtain ⟨txt, htx⟩ : ∃ txt, glue [] (runs (memL m)) = txt := ⟨_, rfl⟩
          rw [htx] at HJ
          have HTX := Lib.hid htx
          clear htx
          go_wp2_with fail
          refine HJ.out.mono ?_
          rintro e w5 ⟨rfl, b5⟩
          have b6 := hbel.trans (b5.mono hB)
          clear b5 hbel
          go_wp2
          go_ret
          exact ⟨ret_s HTX.out.symm, b6⟩
      · have hkb : ((k : Int) != 0) = true := by simp; omega
        have HFR := Lib.hid (implFirstRun k hk0 hk)
        go_wp2_with fail
        refine (HFR.out _ (HT.out.on hbel)).mono ?_
        rintro e w1 ⟨⟨f, n, hfr, rfl⟩, rfl⟩
        have h23 := hfr.1
        have HN := Lib.hid (runs_first hk hfr)
        have HS := Lib.hid (restM_less hk hfr)
        have HK := Lib.hid (restM_lt f n hk)
        have hand := andNot_u32 k (rangeM f (f + n)) (by omega) (by have := rangeM_lt (f := f) (t := f + n) h23; omega)
        have HA : Hid (bits .andNot .u32 (k : Int) ((rangeM f (f + n) : Nat) : Int) = ((restM k f n : Nat) : Int)) := Lib.hid hand
        clear hand hfr hkb HFR
        have hlen : Hid ((done.map fun r => strB (runText r)).length + 1 ≤ 8796093022208) := Lib.hid (by
          have e := congrArg List.length hdone.out
          have := HL.out
          simp at e ⊢
          omega)
        go_wp2_with fail
        refine (implFormatRun f (f + n) _ (by omega) h23).mono ?_
        rintro e w2 ⟨rfl, b2⟩
        have hown2 := ownsS_below hown b2
        have hbel2 := hbel.trans (b2.mono hB)
        have hB2 := hbel2.size
        clear hown hbel b2 hB
        go_wp2_with (at_builtin; refine append_strs rfl (.tmp 15) (.tmp 19) rfl w.heap.size _ _ rfl hown2 hB2 _ [strB (runText ((f : Int), ((f + n : Nat) : Int)))] 1 _ rfl (by first | rfl | (simp; done)) rfl (by have := hlen.out; simp at this ⊢; omega) ?_)
        intro v' w3 hown3 hb3
        have hbel3 := hbel2.trans hb3
        have hB3 := hbel3.size
        clear hown2 hbel2 hB2 hb3
        go_wp2_with fail
        refine (implRunMask f (f + n) _ (by omega) h23).mono ?_
        rintro e w4 ⟨rfl, b4⟩
        have hown4 := ownsS_below hown3 b4
        have hbel4 := hbel3.trans (b4.mono hB3)
        clear hown3 hbel3 hB3 b4
        go_wp2
        go_roundw
        case rel => exact ⟨restM k f n, done ++ [((f : Int), ((f + n : Nat) : Int))], by rw [HA.out], HK.out, by simpa using hown4, hbel4, Lib.hid (by rw [← hdone.out, HN.out]; simp)⟩
        case measure => rw [HA.out]; simpa [intOf] using HS.out
theorem implFormatSet (va : Value) (a : List Int) (w : World) (h : Ints w va a) (hT : TabZ w) (hn : a.length ≤ 1048576) :
    Calls Tryd.prog 16 #[va] w fun e w' => e = .returned (.string (strB (fmtSet a))) ∧ Below w.heap.size w w' := by
  have HM := Lib.hid (implMaskOf va a w h (by omega))
  have HT := Lib.hid hT
  have HF := Lib.hid (implFormat (maskL a) (maskL_lt a))
  clear h hT hn
  cases hs : setB a with
  | true =>
    have HE : Hid (fmtSet a = fmtRuns (memL (maskL a))) := Lib.hid (by rw [memL_set ((setB_iff a).1 hs)]; unfold fmtSet; rw [hs]; rfl)
    rw [hs] at HM
    rw [HE.out]
    clear hs HE
    generalize fmtRuns (memL (maskL a)) = r at *
    generalize maskL a = m at *
    go_enter Tryd.func16, Tryd.ntmps16
    go_wp2_with fail
    refine HM.out.mono ?_
    rintro e w1 ⟨rfl, b1⟩
    go_wp2_with fail
    refine (HF.out _ (HT.out.on b1)).mono ?_
    rintro e w2 ⟨rfl, b2⟩
    have b3 := b1.trans (b2.mono b1.size)
    clear b1 b2
    go_wp2
    go_ret
    exact ⟨rfl, b3⟩
  | false =>
    have HE := Lib.hid (fmtSet_no hs)
    rw [hs] at HM
    rw [HE.out]
    clear hs HE HF
    generalize maskL a = m at *
    go_enter Tryd.func16, Tryd.ntmps16
    go_wp2_with fail
    refine HM.out.mono ?_
    rintro e w1 ⟨rfl, b1⟩
    go_wp2
    go_ret
    exact ⟨rfl, b1⟩
end Go.Proofs.YteelgogfpidcdabDoor
