/-
  The walks of the program's masks: what maskOf, masksOf and members answer.
-/
import Derived.Test.YtededfficggkaaaMaskMath
import Derived.Test.YtededfficggkaaaSetSpec
import Derived.Laws.BitsLemmas
import Derived.Deep.RegionHeld3
namespace Go.Proofs.Ytededfficggkaaa
open Go.RowKit
set_option linter.unusedVariables false
theorem nat_u32 (a : Nat) (ha : a < 4294967296) : (BitVec.ofInt 32 (a : Int)).toNat = a := by
  rw [BitVec.ofInt_natCast, BitVec.toNat_ofNat]; exact Nat.mod_eq_of_lt (by omega)
theorem and_u32 (a b : Nat) (ha : a < 4294967296) (hb : b < 4294967296) : bits .and .u32 (a : Int) (b : Int) = ((a &&& b : Nat) : Int) := by
  have hx : a &&& b < 2 ^ 32 := Nat.and_lt_two_pow _ (by omega)
  show IntKind.u32.wrap ((BitVec.ofInt 32 (a : Int) &&& BitVec.ofInt 32 (b : Int)).toNat : Int) = _
  rw [BitVec.toNat_and, nat_u32 a ha, nat_u32 b hb, IntKind.wrap_u32]
  omega
theorem or_u32 (a b : Nat) (ha : a < 4294967296) (hb : b < 4294967296) : bits .or .u32 (a : Int) (b : Int) = ((a ||| b : Nat) : Int) := by
  have hx : a ||| b < 2 ^ 32 := Nat.or_lt_two_pow (by omega) (by omega)
  show IntKind.u32.wrap ((BitVec.ofInt 32 (a : Int) ||| BitVec.ofInt 32 (b : Int)).toNat : Int) = _
  rw [BitVec.toNat_or, nat_u32 a ha, nat_u32 b hb, IntKind.wrap_u32]
  omega
theorem andNot_u32 (a b : Nat) (ha : a < 4294967296) (hb : b < 4294967296) : bits .andNot .u32 (a : Int) (b : Int) = ((a &&& (4294967295 ^^^ b) : Nat) : Int) := by
  have hy : 4294967295 ^^^ b < 2 ^ 32 := Nat.xor_lt_two_pow (by omega) (by omega)
  have hx : a &&& (4294967295 ^^^ b) < 2 ^ 32 := Nat.and_lt_two_pow _ (by omega)
  have e : ~~~ (BitVec.ofInt 32 (b : Int)) = BitVec.ofNat 32 4294967295 ^^^ BitVec.ofInt 32 (b : Int) := by
    rw [show BitVec.ofNat 32 4294967295 = BitVec.allOnes 32 from rfl, BitVec.allOnes_xor]
  show IntKind.u32.wrap ((BitVec.ofInt 32 (a : Int) &&& ~~~ BitVec.ofInt 32 (b : Int)).toNat : Int) = _
  rw [e, BitVec.toNat_and, BitVec.toNat_xor, nat_u32 a ha, nat_u32 b hb, IntKind.wrap_u32]
  simp
  omega
theorem isQuery (x : Int) (w : World) : Calls Try.prog 23 #[.int .i64 x] w fun e w' => e = .returned (.bool (decide (0 ≤ x ∧ x ≤ 23))) ∧ w' = w := by
  by_cases h0 : 0 ≤ x
  · by_cases h1 : x ≤ 23
    · rw [decide_eq_true (show 0 ≤ x ∧ x ≤ 23 from ⟨h0, h1⟩)]
      have h2 : x < 24 := by omega
      go_enter Try.func23, Try.ntmps23
      go_wp2
      go_ret
      exact ⟨rfl, rfl⟩
    · rw [decide_eq_false (show ¬ (0 ≤ x ∧ x ≤ 23) by omega)]
      have h2 : ¬ x < 24 := by omega
      go_enter Try.func23, Try.ntmps23
      go_wp2
      go_ret
      exact ⟨rfl, rfl⟩
  · rw [decide_eq_false (show ¬ (0 ≤ x ∧ x ≤ 23) by omega)]
    go_enter Try.func23, Try.ntmps23
    go_wp2
    go_ret
    exact ⟨rfl, rfl⟩
theorem pair_eq {a b : Nat} {x y : Bool} (h1 : a = b) (h2 : x = y) : Ending.returned (.tuple #[.int .u32 (a : Int), .bool x]) = .returned (.tuple #[.int .u32 (b : Int), .bool y]) := by rw [h1, h2]
set_option maxHeartbeats 2000000 in
set_option maxRecDepth 100000 in
theorem implMaskOf (va : Value) (a : List Int) (w : World) (h : Ints w va a) (hn : a.length ≤ 1073741824) :
    Calls Try.prog 21 #[va] w fun e w' => e = .returned (.tuple #[.int .u32 (maskL a : Nat), .bool (setB a)]) ∧ Below w.heap.size w w' := by
  obtain ⟨ap, cap, hva⟩ := ints_len h
  have HA := Lib.hid h
  have HN := Lib.hid hn
  clear h hn
  subst hva
  go_enter Try.func21, Try.ntmps21
  go_wp2
  go_loopw [4, 9] (fun m i wr => ∃ k : Nat, k ≤ a.length ∧ i = .int .i64 k ∧ Hid (SetTo a k) ∧ m = .int .u32 (maskTo a k : Nat) ∧ wr = w) (fun _ i _ => a.length - (intOf i).toNat)
  case atStart => exact ⟨0, Nat.zero_le _, rfl, Lib.hid ⟨fun i hi => by omega, fun i hi => by omega⟩, by rw [maskTo_zero]; rfl, rfl⟩
  case round =>
    obtain ⟨k, hk, rfl, hset, rfl, rfl⟩ := hrel
    by_cases hlt : k < a.length
    · obtain ⟨b, off, cap', hv, hbl, hc⟩ := ints_cell HA.out (by omega)
      simp only [Value.slice.injEq] at hv
      obtain ⟨rfl, _, rfl⟩ := hv
      have hcell := hc k hlt
      have i1 : (0 : Int) ≤ (k : Int) := by omega
      have i2 : (k : Int) < (a.length : Int) := by omega
      clear hc
      by_cases hr : 0 ≤ a.getD k 0 ∧ a.getD k 0 ≤ 23
      · obtain ⟨x, hx⟩ : ∃ x : Nat, a.getD k 0 = (x : Int) := ⟨(a.getD k 0).toNat, by omega⟩
        have hx23 : x ≤ 23 := by omega
        have HQ := Lib.hid (show decide (0 ≤ (x : Int) ∧ (x : Int) ≤ 23) = true from decide_eq_true (by omega))
        have hnext := maskTo_next hlt hset.out hx hx23
        have HST := Lib.hid (maskTo_step hlt)
        rw [hx] at hcell HST
        have HM0 := Lib.hid (maskTo_lt24 (Nat.le_of_lt hlt) hset.out)
        have hdiv : ((maskTo a k : Nat) : Int) / 2 ^ x = ((maskTo a k / 2 ^ x : Nat) : Int) := by norm_cast
        by_cases hz : maskTo a k / 2 ^ x = 0
        · have HS1 := Lib.hid (hnext.1 hz)
          have HB : ((maskTo a k : Int) / 2 ^ x != 0) = false := by rw [hdiv, hz]; rfl
          have HP : Hid (2 ^ x < 16777216 ∧ ((2 : Int) ^ x % 4294967296 = ((2 ^ x : Nat) : Int))) := by
            have h2 : 2 ^ x < 2 ^ 24 := Nat.pow_lt_pow_right (by omega) (show x < 24 by omega)
            have h3 : (2 : Int) ^ x = ((2 ^ x : Nat) : Int) := by norm_cast
            exact Lib.hid ⟨h2, by rw [h3]; clear h3; generalize 2 ^ x = q at *; omega⟩
          have HK := Lib.hid hlt
          clear hr hnext hx hz hset hk hlt hdiv
          generalize maskTo a k = m at *
          go_wp2_with fail
          refine (isQuery _ _).mono ?_
          rintro e w1 ⟨rfl, rfl⟩
          rw [HQ.out]
          have hn := HN.out
          go_wp2
          go_roundw
          case rel => exact ⟨k + 1, HK.out, by go_num, HS1, by rw [HP.out.2, or_u32 m _ (by have := HM0.out; omega) (by have := HP.out.1; omega), HST.out]; rfl, by first | rfl | trivial⟩
          case measure => have := HK.out; simp [intOf]; omega
        · have HF := Lib.hid (setB_no (l := a) (fun g => hz (hnext.2 ⟨fun i hi => g.1 i (by omega), fun i hi => g.2 i (by omega)⟩)))
          have HB : ((maskTo a k : Int) / 2 ^ x != 0) = true := by rw [hdiv, bne_iff_ne]; omega
          clear hr hnext hx hz hset hk hlt hdiv
          generalize maskTo a k = m at *
          go_wp2_with fail
          refine (isQuery _ _).mono ?_
          rintro e w1 ⟨rfl, rfl⟩
          rw [HQ.out]
          go_wp2
          go_ret2
          exact ⟨pair_eq (a := 0) (maskL_no HF.out).symm HF.out.symm, Below.refl _ _⟩
      · have HF := Lib.hid (setB_no (not_set_range hlt hr))
        have HQ := Lib.hid (show decide (0 ≤ a.getD k 0 ∧ a.getD k 0 ≤ 23) = false from decide_eq_false hr)
        clear hr hset hk hlt
        generalize maskTo a k = m at *
        generalize a.getD k 0 = x at *
        go_wp2_with fail
        refine (isQuery _ _).mono ?_
        rintro e w1 ⟨rfl, rfl⟩
        rw [HQ.out]
        go_wp2
        go_ret2
        exact ⟨pair_eq (a := 0) (maskL_no HF.out).symm HF.out.symm, Below.refl _ _⟩
    · obtain rfl : k = a.length := by omega
      have HS := Lib.hid ((setTo_all a).1 hset.out)
      have HE := Lib.hid (maskL_yes HS.out)
      clear hset hk hlt
      generalize maskTo a a.length = m at *
      go_wp2
      go_ret2
      exact ⟨pair_eq HE.out.symm ((setB_iff a).2 HS.out).symm, Below.refl _ _⟩
set_option maxHeartbeats 2000000 in
theorem implMasksOf (va vb : Value) (a b : List Int) (w : World) (ha : Ints w va a) (hb : Ints w vb b) (na : a.length ≤ 1048576) (nb : b.length ≤ 1048576) :
    Calls Try.prog 18 #[va, vb] w fun e w' => e = .returned (.tuple #[.int .u32 (maskA a b : Nat), .int .u32 (maskB a b : Nat)]) ∧ Below w.heap.size w w' := by
  have H1 := Lib.hid (fun w h => implMaskOf va a w h (by omega))
  have H2 := Lib.hid (fun w h => implMaskOf vb b w h (by omega))
  have HA := Lib.hid ha
  have HB := Lib.hid hb
  have hA : maskA a b = if (setB a && setB b) = true then maskL a else 0 := rfl
  have hB : maskB a b = if (setB a && setB b) = true then maskL b else 0 := rfl
  generalize maskA a b = ma at *
  generalize maskB a b = mb at *
  clear ha hb na nb
  generalize maskL a = la at *
  generalize maskL b = lb at *
  generalize setB a = sa at *
  generalize setB b = sb at *
  go_enter Try.func18, Try.ntmps18
  cases sa <;> cases sb <;> simp at hA hB <;> subst hA hB
  all_goals
    go_wp2_with fail
    refine (H1.out _ HA.out).mono ?_
    rintro e w1 ⟨rfl, b1⟩
    go_wp2_with fail
    refine (H2.out _ (ints_below HB.out b1)).mono ?_
    rintro e w2 ⟨rfl, b2⟩
    have b3 := b1.trans (b2.mono b1.size)
    clear b1 b2
    go_wp2
    go_ret2
    exact ⟨rfl, b3⟩
end Go.Proofs.Ytededfficggkaaa
