/-
  Texts of the proof, merged: MaskWalks, EngP2, EngP3, Strs, AppStrs, TabZ, ChgFmtP, SetLaws1, ChgSpec, ChgP, ChgP2, ChgP3, AdmMath, AdmW, RowInsM, RowSort, RowOrd, RowEqP, RowCmp, CopyP, RowCopyP, MatchSpec, AnswerSpec, AppConds, QueryHold, TSpan, TSpanS, TSpanSS, TIndex, SpanOwn, BrSpan, StabSpec, SpanApp, SpanLaws, StabsSpec, SpanEq, IdxSpec2, IdxSpec1, SetOps, IdxSpec3, IdxSpec4, IdxSpec6, IdxSpec7, IdxSpec8, Cpl6Query, Mpl6Queries, BuildSpec, IdxSize, Cur.
-/
import Derived.Test.YtjeaimdnddelpaaDoorFC1
import Derived.Test.YtjeaimdnddelpaaDoorRows
import Derived.Test.YtjeaimdnddelpaaDoorShelf
import Derived.Laws.BitsLemmas
import Derived.Deep.RegionHeld3
import Derived.WalkKit
import Derived.Below
import Derived.Lib.Hide
import Derived.OwnWalk
import Derived.Deep.Upon
import Derived.Lib.AppendIntMem
import Derived.Lib.TrailingZeros
import Derived.Shelf.Spec.TrailingZeros
import Derived.Lib.MinMax
import Derived.Lib.Small
import Derived.Sort.Grow
import Derived.BigQuiet
import Derived.Deep.QuietTactic
import Derived.Laws.BitsAllLaws
import Derived.Outline
namespace Go.Proofs.YtjeaimdnddelpaaDoor
open Go.RowKit
set_option linter.unusedVariables false
theorem nat_u32 (a : Nat) (ha : a < 4294967296) : (BitVec.ofInt 32 (a : Int)).toNat = a := by
  rw [BitVec.ofInt_natCast, BitVec.toNat_ofNat]; exact Nat.mod_eq_of_lt (by omega)
theorem or_u32 (a b : Nat) (ha : a < 4294967296) (hb : b < 4294967296) : bits .or .u32 (a : Int) (b : Int) = ((a ||| b : Nat) : Int) := by
  have hx : a ||| b < 2 ^ 32 := Nat.or_lt_two_pow (by omega) (by omega)
  show IntKind.u32.wrap ((BitVec.ofInt 32 (a : Int) ||| BitVec.ofInt 32 (b : Int)).toNat : Int) = _
  rw [BitVec.toNat_or, nat_u32 a ha, nat_u32 b hb, IntKind.wrap_u32]
  omega
theorem isQuery (x : Int) (w : World) : Calls Tryd.prog 54 #[.int .i64 x] w fun e w' => e = .returned (.bool (decide (0 ≤ x ∧ x ≤ 23))) ∧ w' = w := by
  by_cases h0 : 0 ≤ x
  · by_cases h1 : x ≤ 23
    · rw [decide_eq_true (show 0 ≤ x ∧ x ≤ 23 from ⟨h0, h1⟩)]
      have h2 : x < 24 := by omega
      go_enter Tryd.func54, Tryd.ntmps54
      go_wp2
      go_ret
      exact ⟨rfl, rfl⟩
    · rw [decide_eq_false (show ¬ (0 ≤ x ∧ x ≤ 23) by omega)]
      have h2 : ¬ x < 24 := by omega
      go_enter Tryd.func54, Tryd.ntmps54
      go_wp2
      go_ret
      exact ⟨rfl, rfl⟩
  · rw [decide_eq_false (show ¬ (0 ≤ x ∧ x ≤ 23) by omega)]
    go_enter Tryd.func54, Tryd.ntmps54
    go_wp2
    go_ret
    exact ⟨rfl, rfl⟩
theorem pair_eq {a b : Nat} {x y : Bool} (h1 : a = b) (h2 : x = y) : Ending.returned (.tuple #[.int .u32 (a : Int), .bool x]) = .returned (.tuple #[.int .u32 (b : Int), .bool y]) := by rw [h1, h2]
set_option maxHeartbeats 2000000 in
set_option maxRecDepth 100000 in
theorem implMaskOf (va : Value) (a : List Int) (w : World) (h : Ints w va a) (hn : a.length ≤ 1073741824) :
    Calls Tryd.prog 48 #[va] w fun e w' => e = .returned (.tuple #[.int .u32 (maskL a : Nat), .bool (setB a)]) ∧ Below w.heap.size w w' := by
  obtain ⟨ap, cap, hva⟩ := ints_len h
  have HA := Lib.hid h
  have HN := Lib.hid hn
  clear h hn
  subst hva
  go_enter Tryd.func48, Tryd.ntmps48
  go_wp2
  go_loopw [4, 9] (fun m i wr => ∃ k : Nat, k ≤ a.length ∧ i = .int .i64 k ∧ Hid (SetTo a k) ∧ m = .int .u32 (maskTo a k : Nat) ∧ wr = w) (fun _ i _ => a.length - (intOf i).toNat)
  case atStart => exact ⟨0, Nat.zero_le _, rfl, Lib.hid ⟨fun i hi => by omega, fun i hi => by omega⟩, by rw [maskTo_zero]; rfl, rfl⟩
  case round =>
    obtain ⟨k, hk, rfl, hset, rfl, rfl⟩ := hrel
    by_cases hlt : k < a.length
    · obtain ⟨b, off, cap', hv, hbl, hc⟩ := ints_cell HA.out (by omega)
      simp only [Value.slice.injEq] at hv
      obtain ⟨rfl, _, rfl⟩ := hv
      have hcell := hc k hlt
      have i1 : (0 : Int) ≤ (k : Int) := by omega
      have i2 : (k : Int) < (a.length : Int) := by omega
      clear hc
      by_cases hr : 0 ≤ a.getD k 0 ∧ a.getD k 0 ≤ 23
      · obtain ⟨x, hx⟩ : ∃ x : Nat, a.getD k 0 = (x : Int) := ⟨(a.getD k 0).toNat, by omega⟩
        have hx23 : x ≤ 23 := by omega
        have HQ := Lib.hid (show decide (0 ≤ (x : Int) ∧ (x : Int) ≤ 23) = true from decide_eq_true (by omega))
        have hnext := maskTo_next hlt hset.out hx hx23
        have HST := Lib.hid (maskTo_step hlt)
        rw [hx] at hcell HST
        have HM0 := Lib.hid (maskTo_lt24 (Nat.le_of_lt hlt) hset.out)
        have hdiv : ((maskTo a k : Nat) : Int) / 2 ^ x = ((maskTo a k / 2 ^ x : Nat) : Int) := by norm_cast
        by_cases hz : maskTo a k / 2 ^ x = 0
        · have HS1 := Lib.hid (hnext.1 hz)
          have HB : ((maskTo a k : Int) / 2 ^ x != 0) = false := by rw [hdiv, hz]; rfl
          have HP : Hid (2 ^ x < 16777216 ∧ ((2 : Int) ^ x % 4294967296 = ((2 ^ x : Nat) : Int))) := by
            have h2 : 2 ^ x < 2 ^ 24 := Nat.pow_lt_pow_right (by omega) (show x < 24 by omega)
            have h3 : (2 : Int) ^ x = ((2 ^ x : Nat) : Int) := by norm_cast
            exact Lib.hid ⟨h2, by rw [h3]; clear h3; generalize 2 ^ x = q at *; omega⟩
          have HK := Lib.hid hlt
          clear hr hnext hx hz hset hk hlt hdiv
          generalize maskTo a k = m at *
          go_wp2_with fail
          refine (isQuery _ _).mono ?_
          rintro e w1 ⟨rfl, rfl⟩
          rw [HQ.out]
          have hn := HN.out
          go_wp2
          go_roundw
          case rel => exact ⟨k + 1, HK.out, by go_num, HS1, by rw [HP.out.2, or_u32 m _ (by have := HM0.out; omega) (by have := HP.out.1; omega), HST.out]; rfl, by first | rfl | trivial⟩
          case measure => have := HK.out; simp [intOf]; omega
        · have HF := Lib.hid (setB_no (l := a) (fun g => hz (hnext.2 ⟨fun i hi => g.1 i (by omega), fun i hi => g.2 i (by omega)⟩)))
          have HB : ((maskTo a k : Int) / 2 ^ x != 0) = true := by rw [hdiv, bne_iff_ne]; omega
          clear hr hnext hx hz hset hk hlt hdiv
          generalize maskTo a k = m at *
          go_wp2_with fail
          refine (isQuery _ _).mono ?_
          rintro e w1 ⟨rfl, rfl⟩
          rw [HQ.out]
          go_wp2
          go_ret2
          exact ⟨pair_eq (a := 0) (maskL_no HF.out).symm HF.out.symm, Below.refl _ _⟩
      · have HF := Lib.hid (setB_no (not_set_range hlt hr))
        have HQ := Lib.hid (show decide (0 ≤ a.getD k 0 ∧ a.getD k 0 ≤ 23) = false from decide_eq_false hr)
        clear hr hset hk hlt
        generalize maskTo a k = m at *
        generalize a.getD k 0 = x at *
        go_wp2_with fail
        refine (isQuery _ _).mono ?_
        rintro e w1 ⟨rfl, rfl⟩
        rw [HQ.out]
        go_wp2
        go_ret2
        exact ⟨pair_eq (a := 0) (maskL_no HF.out).symm HF.out.symm, Below.refl _ _⟩
    · obtain rfl : k = a.length := by omega
      have HS := Lib.hid ((setTo_all a).1 hset.out)
      have HE := Lib.hid (maskL_yes HS.out)
      clear hset hk hlt
      generalize maskTo a a.length = m at *
      go_wp2
      go_ret2
      exact ⟨pair_eq HE.out.symm ((setB_iff a).2 HS.out).symm, Below.refl _ _⟩
set_option maxHeartbeats 2000000 in
set_option maxRecDepth 100000 in
theorem implIsSet (va : Value) (a : List Int) (w : World) (h : Ints w va a) (hn : a.length ≤ 1048576) :
    Calls Tryd.prog 29 #[va] w fun e w' => e = .returned (.bool (setB a)) ∧ Below w.heap.size w w' := by
  have H := Lib.hid (fun w h => implMaskOf va a w h (by omega))
  have HA := Lib.hid h
  clear h hn
  go_enter Tryd.func29, Tryd.ntmps29
  go_wp2_with fail
  refine (H.out _ HA.out).mono ?_
  rintro e w1 ⟨rfl, b1⟩
  go_wp2
  go_ret
  exact ⟨rfl, b1⟩
end Go.Proofs.YtjeaimdnddelpaaDoor
namespace Go.Proofs.YtjeaimdnddelpaaDoor
open Go.RowKit
set_option linter.unusedVariables false
set_option linter.unusedSimpArgs false
set_option maxHeartbeats 4000000 in
set_option maxRecDepth 100000 in
theorem canGet_any (sg ba : Int) (p2 p3 p4 : Option Addr) (n2 c2 n3 c3 n4 c4 : Nat) (y : Int) (w : World) :
    Calls Tryd.prog 32 #[.agg #[.int .i64 sg, .int .i64 ba, .slice p2 n2 c2, .slice p3 n3 c3, .slice p4 n4 c4], .int .i64 y] w (fun e w' => e = .returned (.bool (decide (0 ≤ y ∧ y ≤ ba))) ∧ Below w.heap.size w w') := by
  have d := Lib.hid (show Below w.heap.size w (w.alloc (.cells #[.int .i64 sg, .int .i64 ba, .slice p2 n2 c2, .slice p3 n3 c3, .slice p4 n4 c4] 26)) from (Below.refl _ _).alloc (Nat.le_refl _) _)
  by_cases h1 : 0 ≤ y
  · by_cases h2 : y ≤ ba
    · have HF : Hid (decide (0 ≤ y ∧ y ≤ ba) = true) := Lib.hid (decide_eq_true ⟨h1, h2⟩)
      have f1 : decide (0 ≤ y) = true := decide_eq_true h1
      have f2 : decide (y ≤ ba) = true := decide_eq_true h2
      rw [HF.out]
      clear h1 h2
      go_enter Tryd.func32, Tryd.ntmps32
      go_wp2
      go_ret
      exact ⟨rfl, d.out⟩
    · have HF : Hid (decide (0 ≤ y ∧ y ≤ ba) = false) := Lib.hid (decide_eq_false (fun q => h2 q.2))
      have f1 : decide (0 ≤ y) = true := decide_eq_true h1
      have f2 : decide (y ≤ ba) = false := decide_eq_false h2
      rw [HF.out]
      clear h1 h2
      go_enter Tryd.func32, Tryd.ntmps32
      go_wp2
      go_ret
      exact ⟨rfl, d.out⟩
  · have HF : Hid (decide (0 ≤ y ∧ y ≤ ba) = false) := Lib.hid (decide_eq_false (fun q => h1 q.1))
    have f1 : decide (0 ≤ y) = false := decide_eq_false h1
    rw [HF.out]
    clear h1
    go_enter Tryd.func32, Tryd.ntmps32
    go_wp2
    go_ret
    exact ⟨rfl, d.out⟩
theorem isTenant_ten (n : Int) (w : World) : Calls Tryd.prog 31 #[.int .i64 n] w fun e w' => e = .returned (.bool (tenB n)) ∧ Below w.heap.size w w' := by
  by_cases h : 0 ≤ n ∧ n < 4
  · have e : tenB n = true := decide_eq_true ⟨h.1, by omega⟩
    rw [e]
    exact (isTenant_yes n w h.1 h.2).mono (fun e w' hh => ⟨hh.1, by rw [hh.2]; exact Below.refl _ _⟩)
  · have e : tenB n = false := decide_eq_false (fun g => h ⟨g.1, by omega⟩)
    rw [e]
    exact (isTenant_no n w h).mono (fun e w' hh => ⟨hh.1, by rw [hh.2]; exact Below.refl _ _⟩)
set_option maxHeartbeats 8000000 in
set_option maxRecDepth 100000 in
theorem allTen  (v : Value) (l : List Int) (w : World)  (h : SlR tInt w v l) (hs : zL tInt l ≤ 1048576) :
    Calls Tryd.prog 30 #[v, .func (.func 31) #[] #[]] w (fun e w' => e = .returned (.bool (l.all (tenB))) ∧ Below w.heap.size w w') := by
  have hlen := zL_len hs
  have HS := Lib.hid hs
  have H := Lib.hid h
  obtain ⟨a, cap, rfl⟩ := slR_len h
  clear h hs
  go_enter Tryd.func30, Tryd.ntmps30
  go_wp2
  go_loopw [9] (fun i wr => ∃ k : Nat, k ≤ l.length ∧ i = .int .i64 k ∧ Hid (AllTo (tenB) 0 l k) ∧ Below w.heap.size w wr) (fun i _ => l.length - (intOf i).toNat)
  case atStart => exact ⟨0, Nat.zero_le _, rfl, Lib.hid (allTo_zero _ _ _), Below.refl _ _⟩
  case round =>
    obtain ⟨k, hk, rfl, hno, c⟩ := hrel
    have cw := Lib.hid c
    by_cases hlt : k < l.length
    · have i1 : (0 : Int) ≤ (k : Int) := by omega
      have i2 : (k : Int) < (l.length : Int) := by omega
      have hz := zL_at HS.out hlt
      change tInt.sz (l.getD k 0) ≤ 1048576 at hz
      have HST : Hid ((tenB) (l.getD k 0) = true → AllTo (tenB) 0 l (k + 1)) := Lib.hid (fun g => allTo_step hno.out g)
      have HNO : Hid ((tenB) (l.getD k 0) = false → l.all (tenB) = false) := Lib.hid (fun g => allB_no 0 hlt g)
      obtain ⟨b, off, cap', hv, hbl, hc⟩ := ints_cell (slR_ints (slR_below tInt_law H.out c)) (by omega)
      simp only [Value.slice.injEq] at hv
      obtain ⟨rfl, _, rfl⟩ := hv
      have e0 := hc k hlt
      clear hc hbl hz
      generalize l.getD k 0 = y at *
      have HC := Lib.hid (isTenant_ten y wr)
      clear hno c
      obtain ⟨bv, hbv⟩ : ∃ bv, bv = tenB y := ⟨_, rfl⟩
      rw [← hbv] at HC HST HNO
      clear hbv
      cases bv with
      | true =>
        have HT := Lib.hid (HST.out rfl)
        clear HST HNO
        go_wp2_with fail
        refine HC.out.mono ?_
        rintro e w2 ⟨rfl, c2⟩
        have cw2 := Lib.hid (cw.out.trans (c2.mono cw.out.size))
        clear c2 HC e0
        go_wp2
        go_roundw
        case rel => exact ⟨k + 1, by omega, by go_num, HT, cw2.out⟩
        case measure => simp [intOf]; omega
      | false =>
        have HF := Lib.hid (HNO.out rfl)
        clear HST HNO
        go_wp2_with fail
        refine HC.out.mono ?_
        rintro e w2 ⟨rfl, c2⟩
        have cw2 := Lib.hid (cw.out.trans (c2.mono cw.out.size))
        clear c2 HC e0
        go_wp2
        go_ret
        exact ⟨ret_b HF.out.symm, cw2.out⟩
    · obtain rfl : k = l.length := by omega
      have HA := Lib.hid (allB_yes (p := tenB) 0 hno.out)
      clear hno c
      go_wp2
      go_ret
      exact ⟨ret_b HA.out.symm, cw.out⟩
set_option maxHeartbeats 8000000 in
set_option maxRecDepth 100000 in
theorem allGet (sg ba : Int) (p2 p3 p4 : Option Addr) (n2 c2 n3 c3 n4 c4 : Nat) (v : Value) (l : List Int) (w : World)  (h : SlR tInt w v l) (hs : zL tInt l ≤ 1048576) :
    Calls Tryd.prog 30 #[v, .func (.func 32) #[.agg #[.int .i64 sg, .int .i64 ba, .slice p2 n2 c2, .slice p3 n3 c3, .slice p4 n4 c4]] #[]] w (fun e w' => e = .returned (.bool (l.all (getB ba))) ∧ Below w.heap.size w w') := by
  have hlen := zL_len hs
  have HS := Lib.hid hs
  have H := Lib.hid h
  obtain ⟨a, cap, rfl⟩ := slR_len h
  clear h hs
  go_enter Tryd.func30, Tryd.ntmps30
  go_wp2
  go_loopw [9] (fun i wr => ∃ k : Nat, k ≤ l.length ∧ i = .int .i64 k ∧ Hid (AllTo (getB ba) 0 l k) ∧ Below w.heap.size w wr) (fun i _ => l.length - (intOf i).toNat)
  case atStart => exact ⟨0, Nat.zero_le _, rfl, Lib.hid (allTo_zero _ _ _), Below.refl _ _⟩
  case round =>
    obtain ⟨k, hk, rfl, hno, c⟩ := hrel
    have cw := Lib.hid c
    by_cases hlt : k < l.length
    · have i1 : (0 : Int) ≤ (k : Int) := by omega
      have i2 : (k : Int) < (l.length : Int) := by omega
      have hz := zL_at HS.out hlt
      change tInt.sz (l.getD k 0) ≤ 1048576 at hz
      have HST : Hid ((getB ba) (l.getD k 0) = true → AllTo (getB ba) 0 l (k + 1)) := Lib.hid (fun g => allTo_step hno.out g)
      have HNO : Hid ((getB ba) (l.getD k 0) = false → l.all (getB ba) = false) := Lib.hid (fun g => allB_no 0 hlt g)
      obtain ⟨b, off, cap', hv, hbl, hc⟩ := ints_cell (slR_ints (slR_below tInt_law H.out c)) (by omega)
      simp only [Value.slice.injEq] at hv
      obtain ⟨rfl, _, rfl⟩ := hv
      have e0 := hc k hlt
      clear hc hbl hz
      generalize l.getD k 0 = y at *
      have HC : Hid (Calls Tryd.prog 32 #[.agg #[.int .i64 sg, .int .i64 ba, .slice p2 n2 c2, .slice p3 n3 c3, .slice p4 n4 c4], .int .i64 y] wr (fun e w' => e = .returned (.bool (getB ba y)) ∧ Below wr.heap.size wr w')) := Lib.hid (canGet_any sg ba p2 p3 p4 n2 c2 n3 c3 n4 c4 y wr)
      clear hno c
      obtain ⟨bv, hbv⟩ : ∃ bv, bv = getB ba y := ⟨_, rfl⟩
      rw [← hbv] at HC HST HNO
      clear hbv
      cases bv with
      | true =>
        have HT := Lib.hid (HST.out rfl)
        clear HST HNO
        go_wp2_with fail
        refine HC.out.mono ?_
        rintro e w2 ⟨rfl, c2⟩
        have cw2 := Lib.hid (cw.out.trans (c2.mono cw.out.size))
        clear c2 HC e0
        go_wp2
        go_roundw
        case rel => exact ⟨k + 1, by omega, by go_num, HT, cw2.out⟩
        case measure => simp [intOf]; omega
      | false =>
        have HF := Lib.hid (HNO.out rfl)
        clear HST HNO
        go_wp2_with fail
        refine HC.out.mono ?_
        rintro e w2 ⟨rfl, c2⟩
        have cw2 := Lib.hid (cw.out.trans (c2.mono cw.out.size))
        clear c2 HC e0
        go_wp2
        go_ret
        exact ⟨ret_b HF.out.symm, cw2.out⟩
    · obtain rfl : k = l.length := by omega
      have HA := Lib.hid (allB_yes (p := getB ba) 0 hno.out)
      clear hno c
      go_wp2
      go_ret
      exact ⟨ret_b HA.out.symm, cw.out⟩
end Go.Proofs.YtjeaimdnddelpaaDoor
namespace Go.Proofs.YtjeaimdnddelpaaDoor
open Go.RowKit
set_option linter.unusedVariables false
set_option linter.unusedSimpArgs false
set_option maxHeartbeats 8000000 in
set_option maxRecDepth 100000 in
theorem implIsCharge (sg ba : Int) (v2 v3 v4 : Value) (x2 x3 x4 : List Int) (w : World) (h2 : SlR tInt w v2 x2) (h3 : SlR tInt w v3 x3) (h4 : SlR tInt w v4 x4) (s2 : zL tInt x2 ≤ 1048576) (s3 : zL tInt x3 ≤ 1048576) (s4 : zL tInt x4 ≤ 1048576) :
    Calls Tryd.prog 9 #[.agg #[.int .i64 sg, .int .i64 ba, v2, v3, v4]] w (fun e w' => e = .returned (.bool (chargeB (sg, ba, x2, x3, x4))) ∧ Below w.heap.size w w') := by
  obtain ⟨p2, c2, rfl⟩ := slR_len h2
  have H2 := Lib.hid h2; have S2 := Lib.hid s2; have n2 := zL_len s2
  obtain ⟨p3, c3, rfl⟩ := slR_len h3
  have H3 := Lib.hid h3; have S3 := Lib.hid s3; have n3 := zL_len s3
  obtain ⟨p4, c4, rfl⟩ := slR_len h4
  have H4 := Lib.hid h4; have S4 := Lib.hid s4; have n4 := zL_len s4
  have HMF : Hid (∀ (fn : Fn) (first cap : Array Value) (w : World), (Instr.makeFunc fn first cap).run Tryd.prog w = .ok (.func fn first cap) w) := Lib.hid (fun _ _ _ _ => rfl)
  clear h2 h3 h4 s2 s3 s4
  have d := Lib.hid (show Below w.heap.size w (w.alloc (.cells #[.int .i64 sg, .int .i64 ba, .slice p2 x2.length c2, .slice p3 x3.length c3, .slice p4 x4.length c4] 26)) from ((Below.refl _ w).alloc (Nat.le_refl _) _))
  have B0 : Hid ((w.alloc (.cells #[.int .i64 sg, .int .i64 ba, .slice p2 x2.length c2, .slice p3 x3.length c3, .slice p4 x4.length c4] 26)).heap[w.heap.size]? = some (.cells #[.int .i64 sg, .int .i64 ba, .slice p2 x2.length c2, .slice p3 x3.length c3, .slice p4 x4.length c4] 26 (0, 0))) := Lib.hid (by
    exact heap_alloc_new w _)
  have YW : Hid (w.heap.size + 1 ≤ (w.alloc (.cells #[.int .i64 sg, .int .i64 ba, .slice p2 x2.length c2, .slice p3 x3.length c3, .slice p4 x4.length c4] 26)).heap.size) := Lib.hid (by simp [World.size_alloc])
  go_enter Tryd.func9, Tryd.ntmps9
  go_wp2_with fail
  generalize (w.alloc (.cells #[.int .i64 sg, .int .i64 ba, .slice p2 x2.length c2, .slice p3 x3.length c3, .slice p4 x4.length c4] 26)) = W at *
  refine (implIsSet (.slice p2 x2.length c2) x2 W (slR_ints (slR_below tInt_law H2.out d.out)) n2).mono ?_
  rintro e W1 ⟨rfl, c⟩
  replace B0 := Lib.hid ((c.block w.heap.size (Array.getElem?_eq_some_iff.1 B0.out).1).trans B0.out)
  replace d := Lib.hid (d.out.trans (c.mono d.out.size))
  have Z_W1 := Lib.hid (show W.heap.size ≤ W1.heap.size from c.size)
  clear c
  rcases Bool.eq_false_or_eq_true (setB x2) with hset | hset
  rotate_left
  · rw [hset]
    have HF := Lib.hid (charge_no1 (x := (sg, ba, x2, x3, x4)) hset)
    clear hset
    have p_B0_0 := (cell_of_row W1 _ 0 _ _ _ B0.out).trans (show _ = some (Value.int .i64 sg) from rfl)
    have p_B0_1 := (cell_of_row W1 _ 1 _ _ _ B0.out).trans (show _ = some (Value.int .i64 ba) from rfl)
    have p_B0_2 := (cell_of_row W1 _ 2 _ _ _ B0.out).trans (show _ = some (Value.slice p2 x2.length c2) from rfl)
    have p_B0_3 := (cell_of_row W1 _ 3 _ _ _ B0.out).trans (show _ = some (Value.slice p3 x3.length c3) from rfl)
    have p_B0_4 := (cell_of_row W1 _ 4 _ _ _ B0.out).trans (show _ = some (Value.slice p4 x4.length c4) from rfl)
    go_wp2
    clear p_B0_0 p_B0_1 p_B0_2 p_B0_3 p_B0_4
    go_ret
    exact ⟨ret_b HF.out.symm, d.out⟩
  rw [hset]
  have HSET := Lib.hid hset
  clear hset
  by_cases hp1 : 1 ≤ x2.length
  rotate_left
  · have HF := Lib.hid (charge_no2 (x := (sg, ba, x2, x3, x4)) (fun g => hp1 g.1.1))
    have f1 : decide (1 ≤ (x2.length : Int)) = false := decide_eq_false (by omega)
    clear hp1
    have p_B0_0 := (cell_of_row W1 _ 0 _ _ _ B0.out).trans (show _ = some (Value.int .i64 sg) from rfl)
    have p_B0_1 := (cell_of_row W1 _ 1 _ _ _ B0.out).trans (show _ = some (Value.int .i64 ba) from rfl)
    have p_B0_2 := (cell_of_row W1 _ 2 _ _ _ B0.out).trans (show _ = some (Value.slice p2 x2.length c2) from rfl)
    have p_B0_3 := (cell_of_row W1 _ 3 _ _ _ B0.out).trans (show _ = some (Value.slice p3 x3.length c3) from rfl)
    have p_B0_4 := (cell_of_row W1 _ 4 _ _ _ B0.out).trans (show _ = some (Value.slice p4 x4.length c4) from rfl)
    go_wp2
    clear p_B0_0 p_B0_1 p_B0_2 p_B0_3 p_B0_4
    go_ret
    exact ⟨ret_b HF.out.symm, d.out⟩
  have f1 : decide (1 ≤ (x2.length : Int)) = true := decide_eq_true (by omega)
  have HP1 := Lib.hid hp1
  clear hp1
  by_cases hp2 : x2.length ≤ 8
  rotate_left
  · have HF := Lib.hid (charge_no2 (x := (sg, ba, x2, x3, x4)) (fun g => hp2 g.1.2))
    have f2 : decide ((x2.length : Int) ≤ 8) = false := decide_eq_false (by omega)
    clear hp2
    have p_B0_0 := (cell_of_row W1 _ 0 _ _ _ B0.out).trans (show _ = some (Value.int .i64 sg) from rfl)
    have p_B0_1 := (cell_of_row W1 _ 1 _ _ _ B0.out).trans (show _ = some (Value.int .i64 ba) from rfl)
    have p_B0_2 := (cell_of_row W1 _ 2 _ _ _ B0.out).trans (show _ = some (Value.slice p2 x2.length c2) from rfl)
    have p_B0_3 := (cell_of_row W1 _ 3 _ _ _ B0.out).trans (show _ = some (Value.slice p3 x3.length c3) from rfl)
    have p_B0_4 := (cell_of_row W1 _ 4 _ _ _ B0.out).trans (show _ = some (Value.slice p4 x4.length c4) from rfl)
    go_wp2
    clear p_B0_0 p_B0_1 p_B0_2 p_B0_3 p_B0_4
    go_ret
    exact ⟨ret_b HF.out.symm, d.out⟩
  have f2 : decide ((x2.length : Int) ≤ 8) = true := decide_eq_true (by omega)
  have HP2 := Lib.hid hp2
  clear hp2
  by_cases hp3 : x3.length = x2.length
  rotate_left
  · have HF := Lib.hid (charge_no2 (x := (sg, ba, x2, x3, x4)) (fun g => hp3 g.2.1.1))
    have f3 : ((x3.length : Int) == (x2.length : Int)) = false := by simp only [beq_eq_false_iff_ne, ne_eq]; omega
    clear hp3
    have p_B0_0 := (cell_of_row W1 _ 0 _ _ _ B0.out).trans (show _ = some (Value.int .i64 sg) from rfl)
    have p_B0_1 := (cell_of_row W1 _ 1 _ _ _ B0.out).trans (show _ = some (Value.int .i64 ba) from rfl)
    have p_B0_2 := (cell_of_row W1 _ 2 _ _ _ B0.out).trans (show _ = some (Value.slice p2 x2.length c2) from rfl)
    have p_B0_3 := (cell_of_row W1 _ 3 _ _ _ B0.out).trans (show _ = some (Value.slice p3 x3.length c3) from rfl)
    have p_B0_4 := (cell_of_row W1 _ 4 _ _ _ B0.out).trans (show _ = some (Value.slice p4 x4.length c4) from rfl)
    go_wp2
    clear p_B0_0 p_B0_1 p_B0_2 p_B0_3 p_B0_4
    go_ret
    exact ⟨ret_b HF.out.symm, d.out⟩
  have f3 : ((x3.length : Int) == (x2.length : Int)) = true := by simp only [beq_iff_eq]; omega
  have HP3 := Lib.hid hp3
  clear hp3
  by_cases hp4 : x4.length = x2.length
  rotate_left
  · have HF := Lib.hid (charge_no2 (x := (sg, ba, x2, x3, x4)) (fun g => hp4 g.2.1.2))
    have f4 : ((x4.length : Int) == (x2.length : Int)) = false := by simp only [beq_eq_false_iff_ne, ne_eq]; omega
    clear hp4
    have p_B0_0 := (cell_of_row W1 _ 0 _ _ _ B0.out).trans (show _ = some (Value.int .i64 sg) from rfl)
    have p_B0_1 := (cell_of_row W1 _ 1 _ _ _ B0.out).trans (show _ = some (Value.int .i64 ba) from rfl)
    have p_B0_2 := (cell_of_row W1 _ 2 _ _ _ B0.out).trans (show _ = some (Value.slice p2 x2.length c2) from rfl)
    have p_B0_3 := (cell_of_row W1 _ 3 _ _ _ B0.out).trans (show _ = some (Value.slice p3 x3.length c3) from rfl)
    have p_B0_4 := (cell_of_row W1 _ 4 _ _ _ B0.out).trans (show _ = some (Value.slice p4 x4.length c4) from rfl)
    go_wp2
    clear p_B0_0 p_B0_1 p_B0_2 p_B0_3 p_B0_4
    go_ret
    exact ⟨ret_b HF.out.symm, d.out⟩
  have f4 : ((x4.length : Int) == (x2.length : Int)) = true := by simp only [beq_iff_eq]; omega
  have HP4 := Lib.hid hp4
  clear hp4
  by_cases hp5 : 0 ≤ sg
  rotate_left
  · have HF := Lib.hid (charge_no2 (x := (sg, ba, x2, x3, x4)) (fun g => hp5 g.2.2.1.1))
    have f5 : decide (0 ≤ sg) = false := decide_eq_false (by omega)
    clear hp5
    have p_B0_0 := (cell_of_row W1 _ 0 _ _ _ B0.out).trans (show _ = some (Value.int .i64 sg) from rfl)
    have p_B0_1 := (cell_of_row W1 _ 1 _ _ _ B0.out).trans (show _ = some (Value.int .i64 ba) from rfl)
    have p_B0_2 := (cell_of_row W1 _ 2 _ _ _ B0.out).trans (show _ = some (Value.slice p2 x2.length c2) from rfl)
    have p_B0_3 := (cell_of_row W1 _ 3 _ _ _ B0.out).trans (show _ = some (Value.slice p3 x3.length c3) from rfl)
    have p_B0_4 := (cell_of_row W1 _ 4 _ _ _ B0.out).trans (show _ = some (Value.slice p4 x4.length c4) from rfl)
    go_wp2
    clear p_B0_0 p_B0_1 p_B0_2 p_B0_3 p_B0_4
    go_ret
    exact ⟨ret_b HF.out.symm, d.out⟩
  have f5 : decide (0 ≤ sg) = true := decide_eq_true (by omega)
  have HP5 := Lib.hid hp5
  clear hp5
  by_cases hp6 : sg < 8
  rotate_left
  · have HF := Lib.hid (charge_no2 (x := (sg, ba, x2, x3, x4)) (fun g => hp6 (by have := g.2.2.1.2; show sg < 8; simp only at this; omega)))
    have f6 : decide (sg < 8) = false := decide_eq_false (by omega)
    clear hp6
    have p_B0_0 := (cell_of_row W1 _ 0 _ _ _ B0.out).trans (show _ = some (Value.int .i64 sg) from rfl)
    have p_B0_1 := (cell_of_row W1 _ 1 _ _ _ B0.out).trans (show _ = some (Value.int .i64 ba) from rfl)
    have p_B0_2 := (cell_of_row W1 _ 2 _ _ _ B0.out).trans (show _ = some (Value.slice p2 x2.length c2) from rfl)
    have p_B0_3 := (cell_of_row W1 _ 3 _ _ _ B0.out).trans (show _ = some (Value.slice p3 x3.length c3) from rfl)
    have p_B0_4 := (cell_of_row W1 _ 4 _ _ _ B0.out).trans (show _ = some (Value.slice p4 x4.length c4) from rfl)
    go_wp2
    clear p_B0_0 p_B0_1 p_B0_2 p_B0_3 p_B0_4
    go_ret
    exact ⟨ret_b HF.out.symm, d.out⟩
  have f6 : decide (sg < 8) = true := decide_eq_true (by omega)
  have HP6 := Lib.hid hp6
  clear hp6
  by_cases hp7 : 0 ≤ ba
  rotate_left
  · have HF := Lib.hid (charge_no2 (x := (sg, ba, x2, x3, x4)) (fun g => hp7 g.2.2.2.1))
    have f7 : decide (0 ≤ ba) = false := decide_eq_false (by omega)
    clear hp7
    have p_B0_0 := (cell_of_row W1 _ 0 _ _ _ B0.out).trans (show _ = some (Value.int .i64 sg) from rfl)
    have p_B0_1 := (cell_of_row W1 _ 1 _ _ _ B0.out).trans (show _ = some (Value.int .i64 ba) from rfl)
    have p_B0_2 := (cell_of_row W1 _ 2 _ _ _ B0.out).trans (show _ = some (Value.slice p2 x2.length c2) from rfl)
    have p_B0_3 := (cell_of_row W1 _ 3 _ _ _ B0.out).trans (show _ = some (Value.slice p3 x3.length c3) from rfl)
    have p_B0_4 := (cell_of_row W1 _ 4 _ _ _ B0.out).trans (show _ = some (Value.slice p4 x4.length c4) from rfl)
    go_wp2
    clear p_B0_0 p_B0_1 p_B0_2 p_B0_3 p_B0_4
    go_ret
    exact ⟨ret_b HF.out.symm, d.out⟩
  have f7 : decide (0 ≤ ba) = true := decide_eq_true (by omega)
  have HP7 := Lib.hid hp7
  clear hp7
  by_cases hp8 : ba ≤ 4
  rotate_left
  · have HF := Lib.hid (charge_no2 (x := (sg, ba, x2, x3, x4)) (fun g => hp8 g.2.2.2.2))
    have f8 : decide (ba ≤ 4) = false := decide_eq_false (by omega)
    clear hp8
    have p_B0_0 := (cell_of_row W1 _ 0 _ _ _ B0.out).trans (show _ = some (Value.int .i64 sg) from rfl)
    have p_B0_1 := (cell_of_row W1 _ 1 _ _ _ B0.out).trans (show _ = some (Value.int .i64 ba) from rfl)
    have p_B0_2 := (cell_of_row W1 _ 2 _ _ _ B0.out).trans (show _ = some (Value.slice p2 x2.length c2) from rfl)
    have p_B0_3 := (cell_of_row W1 _ 3 _ _ _ B0.out).trans (show _ = some (Value.slice p3 x3.length c3) from rfl)
    have p_B0_4 := (cell_of_row W1 _ 4 _ _ _ B0.out).trans (show _ = some (Value.slice p4 x4.length c4) from rfl)
    go_wp2
    clear p_B0_0 p_B0_1 p_B0_2 p_B0_3 p_B0_4
    go_ret
    exact ⟨ret_b HF.out.symm, d.out⟩
  have f8 : decide (ba ≤ 4) = true := decide_eq_true (by omega)
  have HP8 := Lib.hid hp8
  clear hp8
  have HH : Hid (chargeHP (sg, ba, x2, x3, x4)) := Lib.hid ⟨⟨HP1.out, HP2.out⟩, ⟨HP3.out, HP4.out⟩, ⟨HP5.out, by have := HP6.out; show sg ≤ 7; omega⟩, ⟨HP7.out, HP8.out⟩⟩
  have p_B0_0 := (cell_of_row W1 _ 0 _ _ _ B0.out).trans (show _ = some (Value.int .i64 sg) from rfl)
  have p_B0_1 := (cell_of_row W1 _ 1 _ _ _ B0.out).trans (show _ = some (Value.int .i64 ba) from rfl)
  have p_B0_2 := (cell_of_row W1 _ 2 _ _ _ B0.out).trans (show _ = some (Value.slice p2 x2.length c2) from rfl)
  have p_B0_3 := (cell_of_row W1 _ 3 _ _ _ B0.out).trans (show _ = some (Value.slice p3 x3.length c3) from rfl)
  have p_B0_4 := (cell_of_row W1 _ 4 _ _ _ B0.out).trans (show _ = some (Value.slice p4 x4.length c4) from rfl)
  go_wp2_with fail
  clear p_B0_0 p_B0_1 p_B0_2 p_B0_3 p_B0_4 f1 f2 f3 f4 f5 f6 f7 f8
  refine (allTen (.slice p3 x3.length c3) x3 W1 (slR_below tInt_law H3.out d.out) S3.out).mono ?_
  rintro e W8 ⟨rfl, c⟩
  replace B0 := Lib.hid ((c.block w.heap.size (Array.getElem?_eq_some_iff.1 B0.out).1).trans B0.out)
  replace d := Lib.hid (d.out.trans (c.mono d.out.size))
  have Z_W8 := Lib.hid (show W1.heap.size ≤ W8.heap.size from c.size)
  clear c
  rcases Bool.eq_false_or_eq_true (x3.all tenB) with hten | hten
  rotate_left
  · rw [hten]
    have HF := Lib.hid (charge_no3 (x := (sg, ba, x2, x3, x4)) hten)
    clear hten
    have p_B0_0 := (cell_of_row W8 _ 0 _ _ _ B0.out).trans (show _ = some (Value.int .i64 sg) from rfl)
    have p_B0_1 := (cell_of_row W8 _ 1 _ _ _ B0.out).trans (show _ = some (Value.int .i64 ba) from rfl)
    have p_B0_2 := (cell_of_row W8 _ 2 _ _ _ B0.out).trans (show _ = some (Value.slice p2 x2.length c2) from rfl)
    have p_B0_3 := (cell_of_row W8 _ 3 _ _ _ B0.out).trans (show _ = some (Value.slice p3 x3.length c3) from rfl)
    have p_B0_4 := (cell_of_row W8 _ 4 _ _ _ B0.out).trans (show _ = some (Value.slice p4 x4.length c4) from rfl)
    go_wp2
    clear p_B0_0 p_B0_1 p_B0_2 p_B0_3 p_B0_4
    go_ret
    exact ⟨ret_b HF.out.symm, d.out⟩
  rw [hten]
  have HTEN := Lib.hid hten
  clear hten
  have p_B0_0 := (cell_of_row W8 _ 0 _ _ _ B0.out).trans (show _ = some (Value.int .i64 sg) from rfl)
  have p_B0_1 := (cell_of_row W8 _ 1 _ _ _ B0.out).trans (show _ = some (Value.int .i64 ba) from rfl)
  have p_B0_2 := (cell_of_row W8 _ 2 _ _ _ B0.out).trans (show _ = some (Value.slice p2 x2.length c2) from rfl)
  have p_B0_3 := (cell_of_row W8 _ 3 _ _ _ B0.out).trans (show _ = some (Value.slice p3 x3.length c3) from rfl)
  have p_B0_4 := (cell_of_row W8 _ 4 _ _ _ B0.out).trans (show _ = some (Value.slice p4 x4.length c4) from rfl)
  have hmf := HMF.out
  go_wp2_with fail
  clear p_B0_0 p_B0_1 p_B0_2 p_B0_3 p_B0_4 hmf
  refine (allGet sg ba p2 p3 p4 x2.length c2 x3.length c3 x4.length c4 (.slice p4 x4.length c4) x4 W8 (slR_below tInt_law H4.out d.out) S4.out).mono ?_
  rintro e W9 ⟨rfl, c⟩
  replace B0 := Lib.hid ((c.block w.heap.size (Array.getElem?_eq_some_iff.1 B0.out).1).trans B0.out)
  replace d := Lib.hid (d.out.trans (c.mono d.out.size))
  have Z_W9 := Lib.hid (show W8.heap.size ≤ W9.heap.size from c.size)
  clear c
  have HT : Hid (x4.all (getB ba) = chargeB (sg, ba, x2, x3, x4)) := Lib.hid (by
    rcases Bool.eq_false_or_eq_true (x4.all (getB ba)) with g | g
    · rw [g]; exact (charge_yes (x := (sg, ba, x2, x3, x4)) HSET.out HH.out HTEN.out g).symm
    · rw [g]; exact (charge_no4 (x := (sg, ba, x2, x3, x4)) g).symm)
  rw [HT.out]
  have p_B0_0 := (cell_of_row W9 _ 0 _ _ _ B0.out).trans (show _ = some (Value.int .i64 sg) from rfl)
  have p_B0_1 := (cell_of_row W9 _ 1 _ _ _ B0.out).trans (show _ = some (Value.int .i64 ba) from rfl)
  have p_B0_2 := (cell_of_row W9 _ 2 _ _ _ B0.out).trans (show _ = some (Value.slice p2 x2.length c2) from rfl)
  have p_B0_3 := (cell_of_row W9 _ 3 _ _ _ B0.out).trans (show _ = some (Value.slice p3 x3.length c3) from rfl)
  have p_B0_4 := (cell_of_row W9 _ 4 _ _ _ B0.out).trans (show _ = some (Value.slice p4 x4.length c4) from rfl)
  go_wp2
  clear p_B0_0 p_B0_1 p_B0_2 p_B0_3 p_B0_4
  go_ret
  exact ⟨rfl, d.out⟩
end Go.Proofs.YtjeaimdnddelpaaDoor
namespace Go.Proofs.YtjeaimdnddelpaaDoor
open Go.RowKit
set_option linter.unusedVariables false
theorem Tryd.infoStr : (Tryd.prog.info? 9).map (fun i => (i.zero, i.size, i.bytes)) = some (some (.string ⟨#[]⟩), 1, 16) := by kernel_rfl
/-- The slice v reads as the texts xs. -/
def Strs (w : World) (v : Value) (xs : List ByteArray) : Prop :=
  (xs = [] ∧ ∃ a cap, v = .slice a 0 cap) ∨ ∃ b off cap, v = .slice (some ⟨b, off, none⟩) xs.length cap ∧ xs.length ≤ cap ∧ b < w.heap.size ∧ ∀ j, j < xs.length → w.cell? ⟨b, off + j, none⟩ = some (.string (xs.getD j ⟨#[]⟩))
/-- The slice v owns the texts xs, in a block from B on. -/
def OwnsS (w : World) (B : Nat) (v : Value) (xs : List ByteArray) : Prop := w.ownsRow B 9 1 v xs.length (xs.map (Value.string))
theorem ownsS_lit (w : World) (B : Nat) (hb : B ≤ w.heap.size) (C : Array Value) (n : Nat) (xs : List ByteArray) (hC : C.toList = xs.map (Value.string)) (hn : n = xs.length) (hm : n ≤ maxLen) :
    OwnsS (w.alloc (.cells C 9)) B (.slice (some ⟨w.heap.size, 0, none⟩) n n) xs := by
  subst hn
  have := World.ownsRow_lit (e := 9) (size := 1) w C xs.length hb hm (by have := congrArg List.length hC; simpa using this)
  rw [hC] at this
  exact this
/-- What is owned reads so. -/
theorem ownsS_strs {w : World} {B : Nat} {v : Value} {xs : List ByteArray} (h : OwnsS w B v xs) : Strs w v xs := by
  rcases h.2 with ⟨rfl, h0⟩ | ⟨g, cap, cur, rfl, hb, hg, hn, hm, hcs, htake⟩
  · have : xs = [] := List.eq_nil_of_length_eq_zero h0
    subst this
    exact Or.inl ⟨rfl, none, 0, rfl⟩
  · refine Or.inr ⟨g, 0, cap, rfl, hn, (Array.getElem?_eq_some_iff.1 hg).1, ?_⟩
    intro j hj
    have := World.ownsRow.cells h (g := g) rfl j (.string (xs.getD j ⟨#[]⟩)) (by simp [List.getElem?_eq_getElem hj])
    have e : (⟨g, 0, none⟩ : Addr).add j = ⟨g, 0 + j, none⟩ := by unfold Addr.add; split <;> simp_all
    rwa [e] at this
theorem ownsS_cell {w : World} {B g n cap j : Nat} {xs : List ByteArray} {x : ByteArray} (h : OwnsS w B (.slice (some ⟨g, 0, none⟩) n cap) xs) (hx : xs[j]? = some x) : w.cell? ⟨g, j, none⟩ = some (.string x) := by
  have := World.ownsRow.cells h (g := g) rfl j (.string x) (by simp [hx])
  have e : (⟨g, 0, none⟩ : Addr).add j = ⟨g, j, none⟩ := by unfold Addr.add; split <;> simp_all
  rwa [e] at this
/-- What is owned stays owned while only blocks beyond it, or none of its own, are written. -/
theorem ownsS_below {w w' : World} {B : Nat} {v : Value} {xs : List ByteArray} (h : OwnsS w B v xs) (hb : Below w.heap.size w w') : OwnsS w' B v xs := by
  refine ⟨h.1, ?_⟩
  rcases h.2 with hn | ⟨g, cap, cur, rfl, hb', hg, rest⟩
  · exact .inl hn
  · refine .inr ⟨g, cap, cur, rfl, hb', ?_, rest⟩
    rw [hb.block g (Array.getElem?_eq_some_iff.1 hg).1]
    exact hg
end Go.Proofs.YtjeaimdnddelpaaDoor
namespace Go.Proofs.YtjeaimdnddelpaaDoor
open Go.RowKit
set_option linter.unusedVariables false
theorem ownsS_cap {w : World} {B : Nat} {v : Value} {xs : List ByteArray} (h : OwnsS w B v xs) : ∃ a cap, v = .slice a xs.length cap ∧ xs.length ≤ cap := by
  rcases h.2 with ⟨rfl, h0⟩ | ⟨g, cap, cur, rfl, hb, hg, hn, _⟩
  · exact ⟨none, 0, by rw [h0], by rw [h0]; exact Nat.le_refl _⟩
  · exact ⟨_, cap, rfl, hn⟩
theorem run_append_strs {w : World} {B : Nat} {v u : Value} {xs ys : List ByteArray} (ty : TypeId) (hown : OwnsS w B v xs) (hu : Strs w u ys) (hB : B ≤ w.heap.size) (h63 : xs.length + ys.length ≤ 8796093022208) :
    ∃ v' w', (Builtin.append_ #[52, 52] ty #[v, u]).run Tryd.prog w = .ok v' w' ∧ OwnsS w' B v' (xs ++ ys) ∧ Below B w w' ∧ w.grownBy w' v.ownBlock := by
  obtain ⟨i0, hi, hz0, hz1, hz2⟩ := info_parts Tryd.infoStr
  rcases hu with ⟨rfl, a', cap', rfl⟩ | ⟨b, off, cap', rfl, hcap, hbl, hc⟩
  · obtain ⟨a, cap, rfl, hle⟩ := ownsS_cap hown
    have hs : Src Tryd.prog i0.size 52 (.slice a' 0 cap') 0 [] w := by
      cases a' with
      | none => exact Src.ofNil w Tryd.underlying52 cap'
      | some ad => exact Src.ofSlice w Tryd.underlying52 ad 0 cap' [] (by simp) (by simp) (by simp)
    exact ⟨_, _, run_append_nothing w 52 52 ty 9 i0 Tryd.underlying52 hi a xs.length cap hle _ hs, by simpa using hown, Below.refl B w, ⟨rfl, rfl, rfl, Nat.le_refl _, fun _ _ _ => rfl⟩⟩
  · obtain ⟨v', w', hr, h2, h3, h4⟩ := run_append_own (P := Tryd.prog) w B 52 ty 9 i0 (.string ⟨#[]⟩) 1 16 Tryd.underlying52 hi hz0 hz1 hz2 rfl (by decide) v xs.length _ hown ⟨b, off, none⟩ ys.length cap' (ys.map Value.string) (by simp) (by
        intro j q hj
        rw [Go.WideShapes.add_plain]
        rw [List.getElem?_map] at hj
        by_cases hlt : j < ys.length
        · rw [hc j hlt]
          rw [List.getElem?_eq_getElem hlt] at hj
          simpa [List.getD, hlt] using hj
        · rw [List.getElem?_eq_none (by omega)] at hj
          simp at hj) (by intro q hq; simp at hq; obtain ⟨y, _, rfl⟩ := hq; rfl) (by unfold maxLen; omega) (by omega) hB
    refine ⟨v', w', hr, ?_, ?_, h3⟩
    · unfold OwnsS
      simpa using h2
    · exact (Below.refl B w).grown h3 hB (fun k hk => (hown.lt k hk).1)
/-- As a step of a region taken by hand. -/
theorem step_append_strs {w : World} {ops : Array Oper} {o : Oper} {a : Act} {K : Act → World → Prop} {Q : Exit → Act → World → Prop} {E : Prop} (hwa : Region.wanted o (yielded ops a.tmps) = true) (s x : Operand)
    (ho : o.op = .call { callee := .builtin .append, args := #[s, x], argTypes := #[52, 52] })
    (B : Nat) (v u : Value) (xs ys : List ByteArray) (hs : a.eval s = v) (hx : a.eval x = u) (hown : OwnsS w B v xs) (hu : Strs w u ys) (hB : B ≤ w.heap.size) (h63 : xs.length + ys.length ≤ 8796093022208)
    (h : ∀ v' w', OwnsS w' B v' (xs ++ ys) → Below B w w' → w.grownBy w' v.ownBlock → K (a.put o.dst v') w') : if Region.wanted o (yielded ops a.tmps) = true then Oper.wp Tryd.prog o a w K Q else E := by
  rw [if_pos hwa]
  obtain ⟨v', w', hr, h2, h3, h4⟩ := run_append_strs o.type hown hu hB h63
  unfold Oper.wp execOp
  simp only [ho, resolve, invoke, builtin, Sem.run_bind, Sem.run_pure, Result.andThen_ok, List.map_toArray, List.map_cons, List.map_nil, hs, hx, hr]
  exact h v' w' h2 h3 h4
end Go.Proofs.YtjeaimdnddelpaaDoor
namespace Go.Proofs.YtjeaimdnddelpaaDoor
open Go.RowKit
set_option linter.unusedVariables false
def tzL : List Int := Lib.deBruijn32tab.map fun n : Nat => (n : Int)
/-- The table of trailing zeros reads as its text lays it. -/
def TabZ (w : World) : Prop := Lib.TabIs Tryd.prog w "math/bits.deBruijn32tab" .u8 tzL
theorem TabZ.on {w w' : World} (h : TabZ w) (hb : Below w.heap.size w w') : TabZ w' := Lib.tabBelow_of_tabIs h w' hb
end Go.Proofs.YtjeaimdnddelpaaDoor
namespace Go.Proofs.YtjeaimdnddelpaaDoor
open Go.RowKit
set_option linter.unusedVariables false
set_option linter.unusedSimpArgs false
theorem ownsS_fullC {w : World} {B : Nat} {v : Value} {xs : List ByteArray} (h : OwnsS w B v xs) (hn : 0 < xs.length) : ∃ g cap, v = .slice (some ⟨g, 0, none⟩) xs.length cap ∧ xs.length ≤ cap ∧ g < w.heap.size := by
  rcases h.2 with ⟨rfl, h0⟩ | ⟨g, cap, cur, rfl, hb, hg, hle, _⟩
  · omega
  · exact ⟨g, cap, rfl, hle, (Array.getElem?_eq_some_iff.1 hg).1⟩
theorem join_wordsB (x : ChargeD) (k : Nat) : Lib.join (((wordsC x k).map strB).map (·.data.toList)) (⟨#[32]⟩ : ByteArray).data.toList = chgTo x k := by
  have e1 : ((wordsC x k).map strB).map (·.data.toList) = wordsC x k := by
    rw [List.map_map]
    conv => rhs; rw [← List.map_id (wordsC x k)]
    exact List.map_congr_left fun x _ => by simp [strB]
  rw [e1]
  exact join_wordsC x k
theorem wordsB_next (x : ChargeD) (k : Nat) : (wordsC x k).map strB ++ [strB (chgW (x.2.2.1.getD k 0) (x.2.2.2.2.getD k 0))] = (wordsC x (k + 1)).map strB := by
  rw [wordsC, List.map_append]; rfl
set_option maxHeartbeats 8000000 in
set_option maxRecDepth 100000 in
theorem implFormatCharge (sg ba : Int) (v2 v3 v4 : Value) (x2 x3 x4 : List Int) (w : World) (h2 : SlR tInt w v2 x2) (h3 : SlR tInt w v3 x3) (h4 : SlR tInt w v4 x4) (s2 : zL tInt x2 ≤ 1048576) (s3 : zL tInt x3 ≤ 1048576) (s4 : zL tInt x4 ≤ 1048576) (hT : Tab w) :
    Calls Tryd.prog 13 #[.agg #[.int .i64 sg, .int .i64 ba, v2, v3, v4]] w (fun e w' => e = .returned (.string (strB (fmtC (sg, ba, x2, x3, x4)))) ∧ Below w.heap.size w w') := by
  obtain ⟨p2, c2, rfl⟩ := slR_len h2
  have H2 := Lib.hid h2
  obtain ⟨p3, c3, rfl⟩ := slR_len h3
  have H3 := Lib.hid h3
  obtain ⟨p4, c4, rfl⟩ := slR_len h4
  have H4 := Lib.hid h4
  clear h2 h3 h4
  have S2 := Lib.hid s2; have S3 := Lib.hid s3; have S4 := Lib.hid s4
  have n2 := zL_len s2; have n3 := zL_len s3; have n4 := zL_len s4
  clear s2 s3 s4
  have HT := Lib.hid hT
  clear hT
  have d := Lib.hid (show Below w.heap.size w (w.alloc (.cells #[.int .i64 sg, .int .i64 ba, .slice p2 x2.length c2, .slice p3 x3.length c3, .slice p4 x4.length c4] 26)) from ((Below.refl _ w).alloc (Nat.le_refl _) _))
  have B0 : Hid ((w.alloc (.cells #[.int .i64 sg, .int .i64 ba, .slice p2 x2.length c2, .slice p3 x3.length c3, .slice p4 x4.length c4] 26)).heap[w.heap.size]? = some (.cells #[.int .i64 sg, .int .i64 ba, .slice p2 x2.length c2, .slice p3 x3.length c3, .slice p4 x4.length c4] 26 (0, 0))) := Lib.hid (by
    exact heap_alloc_new w _)
  have YW : Hid (w.heap.size + 1 ≤ (w.alloc (.cells #[.int .i64 sg, .int .i64 ba, .slice p2 x2.length c2, .slice p3 x3.length c3, .slice p4 x4.length c4] 26)).heap.size) := Lib.hid (by simp [World.size_alloc])
  go_enter Tryd.func13, Tryd.ntmps13
  go_wp2_with fail
  generalize (w.alloc (.cells #[.int .i64 sg, .int .i64 ba, .slice p2 x2.length c2, .slice p3 x3.length c3, .slice p4 x4.length c4] 26)) = W at *
  refine (implIsCharge sg ba (.slice p2 x2.length c2) (.slice p3 x3.length c3) (.slice p4 x4.length c4) x2 x3 x4 W (slR_below tInt_law H2.out d.out) (slR_below tInt_law H3.out d.out) (slR_below tInt_law H4.out d.out) S2.out S3.out S4.out).mono ?_
  rintro e W1 ⟨rfl, c⟩
  replace B0 := Lib.hid ((c.block w.heap.size (Array.getElem?_eq_some_iff.1 B0.out).1).trans B0.out)
  replace d := Lib.hid (d.out.trans (c.mono d.out.size))
  have Z_W1 := Lib.hid (show W.heap.size ≤ W1.heap.size from c.size)
  clear c
  rcases Bool.eq_false_or_eq_true (chargeB (sg, ba, x2, x3, x4)) with hch | hch
  rotate_left
  · rw [hch]
    have HF := Lib.hid (fmtC_no hch)
    clear hch
    have p_B0_0 := (cell_of_row W1 _ 0 _ _ _ B0.out).trans (show _ = some (Value.int .i64 sg) from rfl)
    have p_B0_1 := (cell_of_row W1 _ 1 _ _ _ B0.out).trans (show _ = some (Value.int .i64 ba) from rfl)
    have p_B0_2 := (cell_of_row W1 _ 2 _ _ _ B0.out).trans (show _ = some (Value.slice p2 x2.length c2) from rfl)
    have p_B0_3 := (cell_of_row W1 _ 3 _ _ _ B0.out).trans (show _ = some (Value.slice p3 x3.length c3) from rfl)
    have p_B0_4 := (cell_of_row W1 _ 4 _ _ _ B0.out).trans (show _ = some (Value.slice p4 x4.length c4) from rfl)
    go_wp2
    clear p_B0_0 p_B0_1 p_B0_2 p_B0_3 p_B0_4
    go_ret
    exact ⟨ret_s HF.out.symm, d.out⟩
  rw [hch]
  have HCH := Lib.hid hch
  have HP := Lib.hid (charge_iff hch).2.1
  have HF := Lib.hid (fmtC_yes hch)
  have HLN := Lib.hid (chgTo_len hch)
  have HL4 : Hid (x4.length = x2.length) := Lib.hid HP.out.2.1.2
  have hl8 : x2.length ≤ 8 := HP.out.1.2
  have hsg := HP.out.2.2.1
  have hba := HP.out.2.2.2
  have HID := Lib.hid (fun i hi => chg_id (x := (sg, ba, x2, x3, x4)) hch (i := i) hi)
  have HRW := Lib.hid (fun i hi => chg_row (x := (sg, ba, x2, x3, x4)) hch (i := i) hi)
  dsimp only at hsg hba HID HRW HLN HF
  clear hch
  have HR1 := Lib.hid (fun W h => implFmt sg W (by omega) (by omega) h)
  have HR2 := Lib.hid (fun W h => implFmt ba W (by omega) (by omega) h)
  have HW0 : Hid ((wordsC (sg, ba, x2, x3, x4) 0).map strB = [strB (Lib.itoa sg), ⟨#[98, 97, 115, 101]⟩, strB (Lib.itoa ba)]) := Lib.hid rfl
  change Hid (∀ W, Tab W → Calls _ _ _ W (fun e w' => e = .returned (.string (strB (Lib.itoa sg))) ∧ Below W.heap.size W w')) at HR1
  change Hid (∀ W, Tab W → Calls _ _ _ W (fun e w' => e = .returned (.string (strB (Lib.itoa ba))) ∧ Below W.heap.size W w')) at HR2
  obtain ⟨t1, ht1⟩ : ∃ t1, Lib.itoa sg = t1 := ⟨_, rfl⟩
  obtain ⟨t2, ht2⟩ : ∃ t2, Lib.itoa ba = t2 := ⟨_, rfl⟩
  rw [ht1] at HR1 HW0
  rw [ht2] at HR2 HW0
  clear ht1 ht2
  have p_B0_0 := (cell_of_row W1 _ 0 _ _ _ B0.out).trans (show _ = some (Value.int .i64 sg) from rfl)
  have p_B0_1 := (cell_of_row W1 _ 1 _ _ _ B0.out).trans (show _ = some (Value.int .i64 ba) from rfl)
  have p_B0_2 := (cell_of_row W1 _ 2 _ _ _ B0.out).trans (show _ = some (Value.slice p2 x2.length c2) from rfl)
  have p_B0_3 := (cell_of_row W1 _ 3 _ _ _ B0.out).trans (show _ = some (Value.slice p3 x3.length c3) from rfl)
  have p_B0_4 := (cell_of_row W1 _ 4 _ _ _ B0.out).trans (show _ = some (Value.slice p4 x4.length c4) from rfl)
  go_wp2
  clear p_B0_0 p_B0_1 p_B0_2 p_B0_3 p_B0_4
  have p_B0_0 := (cell_of_row W1 _ 0 _ _ _ B0.out).trans (show _ = some (Value.int .i64 sg) from rfl)
  have p_B0_1 := (cell_of_row W1 _ 1 _ _ _ B0.out).trans (show _ = some (Value.int .i64 ba) from rfl)
  have p_B0_2 := (cell_of_row W1 _ 2 _ _ _ B0.out).trans (show _ = some (Value.slice p2 x2.length c2) from rfl)
  have p_B0_3 := (cell_of_row W1 _ 3 _ _ _ B0.out).trans (show _ = some (Value.slice p3 x3.length c3) from rfl)
  have p_B0_4 := (cell_of_row W1 _ 4 _ _ _ B0.out).trans (show _ = some (Value.slice p4 x4.length c4) from rfl)
  refine wp_region_held_drew (S := fun w' => w'.cell? ⟨w.heap.size, 0, none⟩ = some (Value.int .i64 sg) ∧ w'.cell? ⟨w.heap.size, 1, none⟩ = some (Value.int .i64 ba) ∧ w'.cell? ⟨w.heap.size, 2, none⟩ = some (Value.slice p2 x2.length c2) ∧ w'.cell? ⟨w.heap.size, 3, none⟩ = some (Value.slice p3 x3.length c3) ∧ w'.cell? ⟨w.heap.size, 4, none⟩ = some (Value.slice p4 x4.length c4)) (by kernel_rfl) ⟨p_B0_0, p_B0_1, p_B0_2, p_B0_3, p_B0_4⟩ (fun hHeld => ?_)
  clear p_B0_0 p_B0_1 p_B0_2 p_B0_3 p_B0_4
  have cdr : Below W1.heap.size W1 W1.drew := below_drew (Below.refl _ _)
  replace B0 := Lib.hid ((cdr.block w.heap.size (Array.getElem?_eq_some_iff.1 B0.out).1).trans B0.out)
  replace d := Lib.hid (d.out.trans (cdr.mono d.out.size))
  clear cdr
  have Z_dr := Lib.hid (show W1.heap.size ≤ W1.drew.heap.size from Nat.le_refl _)
  generalize W1.drew = Wd at *
  refine take_runs (i := 0) (v := ?_) (by simp only [List.getElem?_toArray, List.getElem?_cons_succ, List.getElem?_cons_zero]; rfl) (by kernel_rfl) (by kernel_rfl) (by kernel_rfl) rfl (by exact fun _ _ _ h => h) (by rfl) ?_ (by assumption) ?_
  rotate_left
  · intro w hSw; (try dsimp only at hSw); go_simp; try (with_reducible rfl)
  try simp only [Act.put, List.setIfInBounds_toArray, List.set_cons_zero, List.set_cons_succ]
  refine take_runs (i := 1) (v := ?_) (by simp only [List.getElem?_toArray, List.getElem?_cons_succ, List.getElem?_cons_zero]; rfl) (by kernel_rfl) (by kernel_rfl) (by kernel_rfl) rfl (by exact fun _ _ _ h => h) (by rfl) ?_ (by assumption) ?_
  rotate_left
  · intro w hSw; (try dsimp only at hSw); go_simp; try (with_reducible rfl)
  try simp only [Act.put, List.setIfInBounds_toArray, List.set_cons_zero, List.set_cons_succ]
  refine take_runs (i := 3) (v := ?_) (by simp only [List.getElem?_toArray, List.getElem?_cons_succ, List.getElem?_cons_zero]; rfl) (by kernel_rfl) (by kernel_rfl) (by kernel_rfl) rfl (by exact fun _ _ _ h => h) (by rfl) ?_ (by assumption) ?_
  rotate_left
  · intro w hSw; (try dsimp only at hSw); go_simp; try (with_reducible rfl)
  try simp only [Act.put, List.setIfInBounds_toArray, List.set_cons_zero, List.set_cons_succ]
  refine take_runs (i := 4) (v := ?_) (by simp only [List.getElem?_toArray, List.getElem?_cons_succ, List.getElem?_cons_zero]; rfl) (by kernel_rfl) (by kernel_rfl) (by kernel_rfl) rfl (by exact fun _ _ _ h => h) (by rfl) ?_ (by assumption) ?_
  rotate_left
  · intro w hSw; (try dsimp only at hSw); go_simp; try (with_reducible rfl)
  try simp only [Act.put, List.setIfInBounds_toArray, List.set_cons_zero, List.set_cons_succ]
  refine wpAnyH_ready (rs := [2]) (by kernel_rfl) (by simp) ?_
  refine (AllReadyH.cons (o := _) (by simp only [List.getElem?_toArray, List.getElem?_cons_succ, List.getElem?_cons_zero]; rfl) (fun K hK => ?_) AllReadyH.nil)
  go_simp
  refine (HR1.out Wd (HT.out.on d.out)).mono ?_
  rintro e v1 ⟨rfl, cv1⟩
  replace B0 := Lib.hid ((cv1.block w.heap.size (Array.getElem?_eq_some_iff.1 B0.out).1).trans B0.out)
  replace d := Lib.hid (d.out.trans (cv1.mono d.out.size))
  have Z_v1 := Lib.hid (show Wd.heap.size ≤ v1.heap.size from cv1.size)
  clear cv1
  have p_B0_0 := (cell_of_row v1 _ 0 _ _ _ B0.out).trans (show _ = some (Value.int .i64 sg) from rfl)
  have p_B0_1 := (cell_of_row v1 _ 1 _ _ _ B0.out).trans (show _ = some (Value.int .i64 ba) from rfl)
  have p_B0_2 := (cell_of_row v1 _ 2 _ _ _ B0.out).trans (show _ = some (Value.slice p2 x2.length c2) from rfl)
  have p_B0_3 := (cell_of_row v1 _ 3 _ _ _ B0.out).trans (show _ = some (Value.slice p3 x3.length c3) from rfl)
  have p_B0_4 := (cell_of_row v1 _ 4 _ _ _ B0.out).trans (show _ = some (Value.slice p4 x4.length c4) from rfl)
  refine hK.out _ _ ⟨p_B0_0, p_B0_1, p_B0_2, p_B0_3, p_B0_4⟩ (fun hHeld => ?_)
  clear p_B0_0 p_B0_1 p_B0_2 p_B0_3 p_B0_4
  clear hK K
  try simp only [Act.put, List.setIfInBounds_toArray, List.set_cons_zero, List.set_cons_succ]
  refine wpAnyH_ready (rs := [5]) (by kernel_rfl) (by simp) ?_
  refine (AllReadyH.cons (o := _) (by simp only [List.getElem?_toArray, List.getElem?_cons_succ, List.getElem?_cons_zero]; rfl) (fun K hK => ?_) AllReadyH.nil)
  go_simp
  refine (HR2.out v1 (HT.out.on d.out)).mono ?_
  rintro e v2 ⟨rfl, cv2⟩
  replace B0 := Lib.hid ((cv2.block w.heap.size (Array.getElem?_eq_some_iff.1 B0.out).1).trans B0.out)
  replace d := Lib.hid (d.out.trans (cv2.mono d.out.size))
  have Z_v2 := Lib.hid (show v1.heap.size ≤ v2.heap.size from cv2.size)
  clear cv2
  have p_B0_0 := (cell_of_row v2 _ 0 _ _ _ B0.out).trans (show _ = some (Value.int .i64 sg) from rfl)
  have p_B0_1 := (cell_of_row v2 _ 1 _ _ _ B0.out).trans (show _ = some (Value.int .i64 ba) from rfl)
  have p_B0_2 := (cell_of_row v2 _ 2 _ _ _ B0.out).trans (show _ = some (Value.slice p2 x2.length c2) from rfl)
  have p_B0_3 := (cell_of_row v2 _ 3 _ _ _ B0.out).trans (show _ = some (Value.slice p3 x3.length c3) from rfl)
  have p_B0_4 := (cell_of_row v2 _ 4 _ _ _ B0.out).trans (show _ = some (Value.slice p4 x4.length c4) from rfl)
  refine hK.out _ _ ⟨p_B0_0, p_B0_1, p_B0_2, p_B0_3, p_B0_4⟩ (fun hHeld => ?_)
  clear p_B0_0 p_B0_1 p_B0_2 p_B0_3 p_B0_4
  clear hK K
  try simp only [Act.put, List.setIfInBounds_toArray, List.set_cons_zero, List.set_cons_succ]
  refine wpAnyH_ready (rs := [6]) (by kernel_rfl) (by simp) ?_
  refine (AllReadyH.cons (o := _) (by simp only [List.getElem?_toArray, List.getElem?_cons_succ, List.getElem?_cons_zero]; rfl) (fun K hK => ?_) AllReadyH.nil)
  go_simp
  have hal : Below v2.heap.size v2 (v2.alloc (.cells #[.string (strB t1), .string ⟨#[98, 97, 115, 101]⟩, .string (strB t2)] 9)) := (Below.refl _ _).alloc (Nat.le_refl _) _
  have HO : Hid (OwnsS (v2.alloc (.cells #[.string (strB t1), .string ⟨#[98, 97, 115, 101]⟩, .string (strB t2)] 9)) (w.heap.size + 1) (.slice (some ⟨v2.heap.size, 0, none⟩) 3 3) [strB t1, ⟨#[98, 97, 115, 101]⟩, strB t2]) := Lib.hid (ownsS_lit v2 (w.heap.size + 1) (by have := YW.out; have := Z_W1.out; have := Z_dr.out; have := Z_v1.out; have := Z_v2.out; omega) _ 3 _ rfl rfl (by decide))
  replace B0 := Lib.hid ((hal.block w.heap.size (Array.getElem?_eq_some_iff.1 B0.out).1).trans B0.out)
  replace d := Lib.hid (d.out.trans (hal.mono d.out.size))
  clear hal
  have Z_v3 := Lib.hid (show v2.heap.size ≤ (v2.alloc (.cells #[.string (strB t1), .string ⟨#[98, 97, 115, 101]⟩, .string (strB t2)] 9)).heap.size by simp [World.size_alloc])
  obtain ⟨g0, hg0⟩ : ∃ g0, v2.heap.size = g0 := ⟨_, rfl⟩
  generalize (v2.alloc (.cells #[.string (strB t1), .string ⟨#[98, 97, 115, 101]⟩, .string (strB t2)] 9)) = v3 at *
  rw [hg0] at HO
  try rw [hg0]
  clear hg0
  have p_B0_0 := (cell_of_row v3 _ 0 _ _ _ B0.out).trans (show _ = some (Value.int .i64 sg) from rfl)
  have p_B0_1 := (cell_of_row v3 _ 1 _ _ _ B0.out).trans (show _ = some (Value.int .i64 ba) from rfl)
  have p_B0_2 := (cell_of_row v3 _ 2 _ _ _ B0.out).trans (show _ = some (Value.slice p2 x2.length c2) from rfl)
  have p_B0_3 := (cell_of_row v3 _ 3 _ _ _ B0.out).trans (show _ = some (Value.slice p3 x3.length c3) from rfl)
  have p_B0_4 := (cell_of_row v3 _ 4 _ _ _ B0.out).trans (show _ = some (Value.slice p4 x4.length c4) from rfl)
  refine hK.out _ _ ⟨p_B0_0, p_B0_1, p_B0_2, p_B0_3, p_B0_4⟩ (fun hHeld => ?_)
  clear p_B0_0 p_B0_1 p_B0_2 p_B0_3 p_B0_4
  clear hK K
  try simp only [Act.put, List.setIfInBounds_toArray, List.set_cons_zero, List.set_cons_succ]
  refine take_runs (i := 7) (v := ?_) (by simp only [List.getElem?_toArray, List.getElem?_cons_succ, List.getElem?_cons_zero]; rfl) (by kernel_rfl) (by kernel_rfl) (by kernel_rfl) rfl (by exact fun _ _ _ h => h) (by rfl) ?_ (by assumption) ?_
  rotate_left
  · intro w hSw; (try dsimp only at hSw); go_simp; try (with_reducible rfl)
  try simp only [Act.put, List.setIfInBounds_toArray, List.set_cons_zero, List.set_cons_succ]
  refine wpAnyH_done (by kernel_rfl) ?_ _
  clear hHeld
  rw [← HW0.out] at HO
  have HB0 : Hid (w.heap.size + 1 ≤ v3.heap.size) := Lib.hid (by have := YW.out; have := Z_W1.out; have := Z_dr.out; have := Z_v1.out; have := Z_v2.out; have := Z_v3.out; omega)
  have p_B0_0 := (cell_of_row v3 _ 0 _ _ _ B0.out).trans (show _ = some (Value.int .i64 sg) from rfl)
  have p_B0_1 := (cell_of_row v3 _ 1 _ _ _ B0.out).trans (show _ = some (Value.int .i64 ba) from rfl)
  have p_B0_2 := (cell_of_row v3 _ 2 _ _ _ B0.out).trans (show _ = some (Value.slice p2 x2.length c2) from rfl)
  have p_B0_3 := (cell_of_row v3 _ 3 _ _ _ B0.out).trans (show _ = some (Value.slice p3 x3.length c3) from rfl)
  have p_B0_4 := (cell_of_row v3 _ 4 _ _ _ B0.out).trans (show _ = some (Value.slice p4 x4.length c4) from rfl)
  go_wp2
  clear p_B0_0 p_B0_1 p_B0_2 p_B0_3 p_B0_4
  go_loopw [3, 19] (fun u i wr => ∃ k : Nat, k ≤ x2.length ∧ i = .int .i64 k ∧ Hid (OwnsS wr (w.heap.size + 1) u ((wordsC (sg, ba, x2, x3, x4) k).map strB)) ∧ Hid (wr.heap[w.heap.size]? = some (.cells #[.int .i64 sg, .int .i64 ba, .slice p2 x2.length c2, .slice p3 x3.length c3, .slice p4 x4.length c4] 26 (0, 0))) ∧ Hid (w.heap.size + 1 ≤ wr.heap.size) ∧ Below w.heap.size w wr) (fun _ i _ => x2.length - (intOf i).toNat)
  case atStart => exact ⟨0, Nat.zero_le _, rfl, HO, B0, HB0, d.out⟩
  case round =>
    clear B0 d HO HB0
    obtain ⟨k, hk, rfl, HO, B0, HB0, c⟩ := hrel
    have d := Lib.hid c
    clear c
    by_cases hlt : k < x2.length
    · have i1 : (0 : Int) ≤ (k : Int) := by omega
      have i2 : (k : Int) < (x2.length : Int) := by omega
      have i3 : k < x4.length := by have := HL4.out; omega
      have i4 : (k : Int) < (x4.length : Int) := by omega
      have hid := HID.out k hlt
      have hrw := HRW.out k i3
      obtain ⟨bu, offu, capu, hv, hbl, hc⟩ := ints_cell (slR_ints H2.out) (by omega)
      simp only [Value.slice.injEq] at hv
      obtain ⟨rfl, _, rfl⟩ := hv
      have F2 := Lib.hid (hc k (by omega))
      have LF2 := Lib.hid hbl
      clear hc hbl
      obtain ⟨br, offr, capr, hv, hbl, hc⟩ := ints_cell (slR_ints H4.out) (by omega)
      simp only [Value.slice.injEq] at hv
      obtain ⟨rfl, _, rfl⟩ := hv
      have F4 := Lib.hid (hc k (by omega))
      have LF4 := Lib.hid hbl
      clear hc hbl
      have HN : Hid ((wordsC (sg, ba, x2, x3, x4) k).map strB ++ [strB ([113] ++ Lib.itoa (x2.getD k 0) ++ [43] ++ Lib.itoa (x4.getD k 0))] = (wordsC (sg, ba, x2, x3, x4) (k + 1)).map strB) := Lib.hid (wordsB_next (sg, ba, x2, x3, x4) k)
      have HWL : Hid (((wordsC (sg, ba, x2, x3, x4) k).map strB).length ≤ 20) := Lib.hid (by rw [List.length_map, wordsC_len]; omega)
      generalize (wordsC (sg, ba, x2, x3, x4) k).map strB = ws at *
      generalize x2.getD k 0 = y at *
      generalize x4.getD k 0 = rv at *
      have HR3 := Lib.hid (fun W h => implFmt y W (by omega) (by omega) h)
      have HR4 := Lib.hid (fun W h => implFmt rv W (by omega) (by omega) h)
      change Hid (∀ W, Tab W → Calls _ _ _ W (fun e w' => e = .returned (.string (strB (Lib.itoa y))) ∧ Below W.heap.size W w')) at HR3
      change Hid (∀ W, Tab W → Calls _ _ _ W (fun e w' => e = .returned (.string (strB (Lib.itoa rv))) ∧ Below W.heap.size W w')) at HR4
      have l1 := Lib.itoa_length_le y (by omega) (by omega)
      have l2 := Lib.itoa_length_le rv (by omega) (by omega)
      obtain ⟨t3, ht3⟩ : ∃ t3, Lib.itoa y = t3 := ⟨_, rfl⟩
      obtain ⟨t4, ht4⟩ : ∃ t4, Lib.itoa rv = t4 := ⟨_, rfl⟩
      rw [ht3] at HR3 HN l1
      rw [ht4] at HR4 HN l2
      clear ht3 ht4
      have e0 : (⟨#[113]⟩ : ByteArray) = strB [113] := rfl
      have e1 : (⟨#[43]⟩ : ByteArray) = strB [43] := rfl
      have d1 := strB_add [113] t3 (by simp; omega)
      have d2 := strB_add ([113] ++ t3) [43] (by simp; omega)
      have d3 := strB_add ([113] ++ t3 ++ [43]) t4 (by simp; omega)
      generalize [113] ++ t3 = z2 at *
      generalize z2 ++ [43] = z3 at *
      generalize z3 ++ t4 = z4 at *
      clear l1 l2 hid hrw
      have f2 := (d.out.cell (p := ⟨bu, offu + k, none⟩) LF2.out).trans F2.out
      have p_B0_0 := (cell_of_row wr _ 0 _ _ _ B0.out).trans (show _ = some (Value.int .i64 sg) from rfl)
      have p_B0_1 := (cell_of_row wr _ 1 _ _ _ B0.out).trans (show _ = some (Value.int .i64 ba) from rfl)
      have p_B0_2 := (cell_of_row wr _ 2 _ _ _ B0.out).trans (show _ = some (Value.slice (some ⟨bu, offu, none⟩) x2.length c2) from rfl)
      have p_B0_3 := (cell_of_row wr _ 3 _ _ _ B0.out).trans (show _ = some (Value.slice p3 x3.length c3) from rfl)
      have p_B0_4 := (cell_of_row wr _ 4 _ _ _ B0.out).trans (show _ = some (Value.slice (some ⟨br, offr, none⟩) x4.length c4) from rfl)
      go_wp2
      clear f2 p_B0_0 p_B0_1 p_B0_2 p_B0_3 p_B0_4
      have HO0 := HO
      clear HO
      have HO := Lib.hid (ownsS_below HO0.out (show Below wr.heap.size wr wr.drew from below_drew (Below.refl _ _)))
      clear HO0
      have p_B0_0 := (cell_of_row wr _ 0 _ _ _ B0.out).trans (show _ = some (Value.int .i64 sg) from rfl)
      have p_B0_1 := (cell_of_row wr _ 1 _ _ _ B0.out).trans (show _ = some (Value.int .i64 ba) from rfl)
      have p_B0_2 := (cell_of_row wr _ 2 _ _ _ B0.out).trans (show _ = some (Value.slice (some ⟨bu, offu, none⟩) x2.length c2) from rfl)
      have p_B0_3 := (cell_of_row wr _ 3 _ _ _ B0.out).trans (show _ = some (Value.slice p3 x3.length c3) from rfl)
      have p_B0_4 := (cell_of_row wr _ 4 _ _ _ B0.out).trans (show _ = some (Value.slice (some ⟨br, offr, none⟩) x4.length c4) from rfl)
      have p_F4 := (d.out.cell (p := ⟨br, offr + k, none⟩) LF4.out).trans F4.out
      refine wp_region_held_drew (S := fun w' => w'.cell? ⟨w.heap.size, 0, none⟩ = some (Value.int .i64 sg) ∧ w'.cell? ⟨w.heap.size, 1, none⟩ = some (Value.int .i64 ba) ∧ w'.cell? ⟨w.heap.size, 2, none⟩ = some (Value.slice (some ⟨bu, offu, none⟩) x2.length c2) ∧ w'.cell? ⟨w.heap.size, 3, none⟩ = some (Value.slice p3 x3.length c3) ∧ w'.cell? ⟨w.heap.size, 4, none⟩ = some (Value.slice (some ⟨br, offr, none⟩) x4.length c4) ∧ w'.cell? ⟨br, offr + k, none⟩ = some (Value.int .i64 rv)) (by kernel_rfl) ⟨p_B0_0, p_B0_1, p_B0_2, p_B0_3, p_B0_4, p_F4⟩ (fun hHeld => ?_)
      clear p_B0_0 p_B0_1 p_B0_2 p_B0_3 p_B0_4 p_F4
      have cdr : Below wr.heap.size wr wr.drew := below_drew (Below.refl _ _)
      replace B0 := Lib.hid ((cdr.block w.heap.size (Array.getElem?_eq_some_iff.1 B0.out).1).trans B0.out)
      replace d := Lib.hid (d.out.trans (cdr.mono d.out.size))
      clear cdr
      have Z_dr := Lib.hid (show wr.heap.size ≤ wr.drew.heap.size from Nat.le_refl _)
      generalize wr.drew = Wd at *
      refine take_runs (i := 0) (v := ?_) (by simp only [List.getElem?_toArray, List.getElem?_cons_succ, List.getElem?_cons_zero]; rfl) (by kernel_rfl) (by kernel_rfl) (by kernel_rfl) rfl (by exact fun _ _ _ h => h) (by rfl) ?_ (by assumption) ?_
      rotate_left
      · intro w hSw; (try dsimp only at hSw); go_simp; try (with_reducible rfl)
      try simp only [Act.put, List.setIfInBounds_toArray, List.set_cons_zero, List.set_cons_succ]
      refine take_runs (i := 1) (v := ?_) (by simp only [List.getElem?_toArray, List.getElem?_cons_succ, List.getElem?_cons_zero]; rfl) (by kernel_rfl) (by kernel_rfl) (by kernel_rfl) rfl (by exact fun _ _ _ h => h) (by rfl) ?_ (by assumption) ?_
      rotate_left
      · intro w hSw; (try dsimp only at hSw); go_simp; try (with_reducible rfl)
      try simp only [Act.put, List.setIfInBounds_toArray, List.set_cons_zero, List.set_cons_succ]
      refine take_runs (i := 5) (v := ?_) (by simp only [List.getElem?_toArray, List.getElem?_cons_succ, List.getElem?_cons_zero]; rfl) (by kernel_rfl) (by kernel_rfl) (by kernel_rfl) rfl (by exact fun _ _ _ h => h) (by rfl) ?_ (by assumption) ?_
      rotate_left
      · intro w hSw; (try dsimp only at hSw); go_simp; try (with_reducible rfl)
      try simp only [Act.put, List.setIfInBounds_toArray, List.set_cons_zero, List.set_cons_succ]
      refine take_runs (i := 6) (v := ?_) (by simp only [List.getElem?_toArray, List.getElem?_cons_succ, List.getElem?_cons_zero]; rfl) (by kernel_rfl) (by kernel_rfl) (by kernel_rfl) rfl (by exact fun _ _ _ h => h) (by rfl) ?_ (by assumption) ?_
      rotate_left
      · intro w hSw; (try dsimp only at hSw); go_simp; try (with_reducible rfl)
      try simp only [Act.put, List.setIfInBounds_toArray, List.set_cons_zero, List.set_cons_succ]
      refine take_runs (i := 7) (v := ?_) (by simp only [List.getElem?_toArray, List.getElem?_cons_succ, List.getElem?_cons_zero]; rfl) (by kernel_rfl) (by kernel_rfl) (by kernel_rfl) rfl (by exact fun _ _ _ h => h) (by rfl) ?_ (by assumption) ?_
      rotate_left
      · intro w hSw; (try dsimp only at hSw); go_simp; try (with_reducible rfl)
      try simp only [Act.put, List.setIfInBounds_toArray, List.set_cons_zero, List.set_cons_succ]
      refine take_runs (i := 8) (v := ?_) (by simp only [List.getElem?_toArray, List.getElem?_cons_succ, List.getElem?_cons_zero]; rfl) (by kernel_rfl) (by kernel_rfl) (by kernel_rfl) rfl (by exact fun _ _ _ h => h) (by rfl) ?_ (by assumption) ?_
      rotate_left
      · intro w hSw; (try dsimp only at hSw); go_simp; try (with_reducible rfl)
      try simp only [Act.put, List.setIfInBounds_toArray, List.set_cons_zero, List.set_cons_succ]
      refine take_runs (i := 9) (v := ?_) (by simp only [List.getElem?_toArray, List.getElem?_cons_succ, List.getElem?_cons_zero]; rfl) (by kernel_rfl) (by kernel_rfl) (by kernel_rfl) rfl (by exact fun _ _ _ h => h) (by rfl) ?_ (by assumption) ?_
      rotate_left
      · intro w hSw; (try dsimp only at hSw); go_simp; try (with_reducible rfl)
      try simp only [Act.put, List.setIfInBounds_toArray, List.set_cons_zero, List.set_cons_succ]
      refine wpAnyH_ready (rs := [2]) (by kernel_rfl) (by simp) ?_
      refine (AllReadyH.cons (o := _) (by simp only [List.getElem?_toArray, List.getElem?_cons_succ, List.getElem?_cons_zero]; rfl) (fun K hK => ?_) AllReadyH.nil)
      go_simp
      refine (HR3.out Wd (HT.out.on d.out)).mono ?_
      rintro e v4 ⟨rfl, cv4⟩
      replace HO := Lib.hid (ownsS_below HO.out cv4)
      replace B0 := Lib.hid ((cv4.block w.heap.size (Array.getElem?_eq_some_iff.1 B0.out).1).trans B0.out)
      replace d := Lib.hid (d.out.trans (cv4.mono d.out.size))
      have Z_v4 := Lib.hid (show Wd.heap.size ≤ v4.heap.size from cv4.size)
      clear cv4
      have p_B0_0 := (cell_of_row v4 _ 0 _ _ _ B0.out).trans (show _ = some (Value.int .i64 sg) from rfl)
      have p_B0_1 := (cell_of_row v4 _ 1 _ _ _ B0.out).trans (show _ = some (Value.int .i64 ba) from rfl)
      have p_B0_2 := (cell_of_row v4 _ 2 _ _ _ B0.out).trans (show _ = some (Value.slice (some ⟨bu, offu, none⟩) x2.length c2) from rfl)
      have p_B0_3 := (cell_of_row v4 _ 3 _ _ _ B0.out).trans (show _ = some (Value.slice p3 x3.length c3) from rfl)
      have p_B0_4 := (cell_of_row v4 _ 4 _ _ _ B0.out).trans (show _ = some (Value.slice (some ⟨br, offr, none⟩) x4.length c4) from rfl)
      have p_F4 := (d.out.cell (p := ⟨br, offr + k, none⟩) LF4.out).trans F4.out
      refine hK.out _ _ ⟨p_B0_0, p_B0_1, p_B0_2, p_B0_3, p_B0_4, p_F4⟩ (fun hHeld => ?_)
      clear p_B0_0 p_B0_1 p_B0_2 p_B0_3 p_B0_4 p_F4
      clear hK K
      try simp only [Act.put, List.setIfInBounds_toArray, List.set_cons_zero, List.set_cons_succ]
      refine take_runs (i := 3) (v := ?_) (by simp only [List.getElem?_toArray, List.getElem?_cons_succ, List.getElem?_cons_zero]; rfl) (by kernel_rfl) (by kernel_rfl) (by kernel_rfl) rfl (by exact fun _ _ _ h => h) (by rfl) ?_ (by assumption) ?_
      rotate_left
      · intro w hSw; (try dsimp only at hSw); go_simp; try (with_reducible rfl)
      try simp only [Act.put, List.setIfInBounds_toArray, List.set_cons_zero, List.set_cons_succ]
      refine take_runs (i := 4) (v := ?_) (by simp only [List.getElem?_toArray, List.getElem?_cons_succ, List.getElem?_cons_zero]; rfl) (by kernel_rfl) (by kernel_rfl) (by kernel_rfl) rfl (by exact fun _ _ _ h => h) (by rfl) ?_ (by assumption) ?_
      rotate_left
      · intro w hSw; (try dsimp only at hSw); go_simp; try (with_reducible rfl)
      try simp only [Act.put, List.setIfInBounds_toArray, List.set_cons_zero, List.set_cons_succ]
      refine wpAnyH_ready (rs := [10]) (by kernel_rfl) (by simp) ?_
      refine (AllReadyH.cons (o := _) (by simp only [List.getElem?_toArray, List.getElem?_cons_succ, List.getElem?_cons_zero]; rfl) (fun K hK => ?_) AllReadyH.nil)
      go_simp
      refine (HR4.out v4 (HT.out.on d.out)).mono ?_
      rintro e v5 ⟨rfl, cv5⟩
      replace HO := Lib.hid (ownsS_below HO.out cv5)
      replace B0 := Lib.hid ((cv5.block w.heap.size (Array.getElem?_eq_some_iff.1 B0.out).1).trans B0.out)
      replace d := Lib.hid (d.out.trans (cv5.mono d.out.size))
      have Z_v5 := Lib.hid (show v4.heap.size ≤ v5.heap.size from cv5.size)
      clear cv5
      have p_B0_0 := (cell_of_row v5 _ 0 _ _ _ B0.out).trans (show _ = some (Value.int .i64 sg) from rfl)
      have p_B0_1 := (cell_of_row v5 _ 1 _ _ _ B0.out).trans (show _ = some (Value.int .i64 ba) from rfl)
      have p_B0_2 := (cell_of_row v5 _ 2 _ _ _ B0.out).trans (show _ = some (Value.slice (some ⟨bu, offu, none⟩) x2.length c2) from rfl)
      have p_B0_3 := (cell_of_row v5 _ 3 _ _ _ B0.out).trans (show _ = some (Value.slice p3 x3.length c3) from rfl)
      have p_B0_4 := (cell_of_row v5 _ 4 _ _ _ B0.out).trans (show _ = some (Value.slice (some ⟨br, offr, none⟩) x4.length c4) from rfl)
      have p_F4 := (d.out.cell (p := ⟨br, offr + k, none⟩) LF4.out).trans F4.out
      refine hK.out _ _ ⟨p_B0_0, p_B0_1, p_B0_2, p_B0_3, p_B0_4, p_F4⟩ (fun hHeld => ?_)
      clear p_B0_0 p_B0_1 p_B0_2 p_B0_3 p_B0_4 p_F4
      clear hK K
      try simp only [Act.put, List.setIfInBounds_toArray, List.set_cons_zero, List.set_cons_succ]
      refine take_runs (i := 11) (v := ?_) (by simp only [List.getElem?_toArray, List.getElem?_cons_succ, List.getElem?_cons_zero]; rfl) (by kernel_rfl) (by kernel_rfl) (by kernel_rfl) rfl (by exact fun _ _ _ h => h) (by rfl) ?_ (by assumption) ?_
      rotate_left
      · intro w hSw; (try dsimp only at hSw); go_simp; try (with_reducible rfl)
      try simp only [Act.put, List.setIfInBounds_toArray, List.set_cons_zero, List.set_cons_succ]
      refine wpAnyH_ready (rs := [12]) (by kernel_rfl) (by simp) ?_
      refine (AllReadyH.cons (o := _) (by simp only [List.getElem?_toArray, List.getElem?_cons_succ, List.getElem?_cons_zero]; rfl) (fun K hK => ?_) AllReadyH.nil)
      go_simp
      have hal : Below v5.heap.size v5 (v5.alloc (.cells #[.string (strB z4)] 9)) := (Below.refl _ _).alloc (Nat.le_refl _) _
      have HS1 : Hid (Strs (v5.alloc (.cells #[.string (strB z4)] 9)) (.slice (some ⟨v5.heap.size, 0, none⟩) 1 1) [strB z4]) := Lib.hid (ownsS_strs (ownsS_lit v5 0 (Nat.zero_le _) _ 1 _ rfl rfl (by decide)))
      replace HO := Lib.hid (ownsS_below HO.out hal)
      replace B0 := Lib.hid ((hal.block w.heap.size (Array.getElem?_eq_some_iff.1 B0.out).1).trans B0.out)
      replace d := Lib.hid (d.out.trans (hal.mono d.out.size))
      clear hal
      have Z_v6 := Lib.hid (show v5.heap.size ≤ (v5.alloc (.cells #[.string (strB z4)] 9)).heap.size by simp [World.size_alloc])
      obtain ⟨g1, hg1⟩ : ∃ g1, v5.heap.size = g1 := ⟨_, rfl⟩
      generalize (v5.alloc (.cells #[.string (strB z4)] 9)) = v6 at *
      rw [hg1] at HS1
      try rw [hg1]
      clear hg1
      have p_B0_0 := (cell_of_row v6 _ 0 _ _ _ B0.out).trans (show _ = some (Value.int .i64 sg) from rfl)
      have p_B0_1 := (cell_of_row v6 _ 1 _ _ _ B0.out).trans (show _ = some (Value.int .i64 ba) from rfl)
      have p_B0_2 := (cell_of_row v6 _ 2 _ _ _ B0.out).trans (show _ = some (Value.slice (some ⟨bu, offu, none⟩) x2.length c2) from rfl)
      have p_B0_3 := (cell_of_row v6 _ 3 _ _ _ B0.out).trans (show _ = some (Value.slice p3 x3.length c3) from rfl)
      have p_B0_4 := (cell_of_row v6 _ 4 _ _ _ B0.out).trans (show _ = some (Value.slice (some ⟨br, offr, none⟩) x4.length c4) from rfl)
      have p_F4 := (d.out.cell (p := ⟨br, offr + k, none⟩) LF4.out).trans F4.out
      refine hK.out _ _ ⟨p_B0_0, p_B0_1, p_B0_2, p_B0_3, p_B0_4, p_F4⟩ (fun hHeld => ?_)
      clear p_B0_0 p_B0_1 p_B0_2 p_B0_3 p_B0_4 p_F4
      clear hK K
      try simp only [Act.put, List.setIfInBounds_toArray, List.set_cons_zero, List.set_cons_succ]
      refine wpAnyH_ready (rs := [13]) (by kernel_rfl) (by simp) ?_
      refine (AllReadyH.cons (o := _) (by simp only [List.getElem?_toArray, List.getElem?_cons_succ, List.getElem?_cons_zero]; rfl) (fun K hK => ?_) AllReadyH.nil)
      refine step_append_strs rfl (.tmp 24) (.tmp 36) rfl (w.heap.size + 1) _ _ ws [strB z4] rfl rfl HO.out HS1.out (by have := HB0.out; have := Z_dr.out; have := Z_v4.out; have := Z_v5.out; have := Z_v6.out; omega) (by have := HWL.out; simp; omega) ?_
      intro u' v7 oN bN _
      have HON := Lib.hid oN
      clear oN HO HS1
      have hsz := bN.size
      replace B0 := Lib.hid ((bN.block w.heap.size (Nat.lt_succ_self _)).trans B0.out)
      replace d := Lib.hid (d.out.trans (bN.mono (Nat.le_succ _)))
      have ZN := Lib.hid (show w.heap.size + 1 ≤ v7.heap.size by have := HB0.out; have := Z_dr.out; have := Z_v4.out; have := Z_v5.out; have := Z_v6.out; omega)
      clear bN hsz
      have p_B0_0 := (cell_of_row v7 _ 0 _ _ _ B0.out).trans (show _ = some (Value.int .i64 sg) from rfl)
      have p_B0_1 := (cell_of_row v7 _ 1 _ _ _ B0.out).trans (show _ = some (Value.int .i64 ba) from rfl)
      have p_B0_2 := (cell_of_row v7 _ 2 _ _ _ B0.out).trans (show _ = some (Value.slice (some ⟨bu, offu, none⟩) x2.length c2) from rfl)
      have p_B0_3 := (cell_of_row v7 _ 3 _ _ _ B0.out).trans (show _ = some (Value.slice p3 x3.length c3) from rfl)
      have p_B0_4 := (cell_of_row v7 _ 4 _ _ _ B0.out).trans (show _ = some (Value.slice (some ⟨br, offr, none⟩) x4.length c4) from rfl)
      have p_F4 := (d.out.cell (p := ⟨br, offr + k, none⟩) LF4.out).trans F4.out
      refine hK.out _ _ ⟨p_B0_0, p_B0_1, p_B0_2, p_B0_3, p_B0_4, p_F4⟩ (fun hHeld => ?_)
      clear p_B0_0 p_B0_1 p_B0_2 p_B0_3 p_B0_4 p_F4
      clear hK K
      try simp only [Act.put, List.setIfInBounds_toArray, List.set_cons_zero, List.set_cons_succ]
      refine take_runs (i := 14) (v := ?_) (by simp only [List.getElem?_toArray, List.getElem?_cons_succ, List.getElem?_cons_zero]; rfl) (by kernel_rfl) (by kernel_rfl) (by kernel_rfl) rfl (by exact fun _ _ _ h => h) (by rfl) ?_ (by assumption) ?_
      rotate_left
      · intro w hSw; (try dsimp only at hSw); go_simp; try (with_reducible rfl)
      try simp only [Act.put, List.setIfInBounds_toArray, List.set_cons_zero, List.set_cons_succ]
      refine wpAnyH_done (by kernel_rfl) ?_ _
      clear hHeld
      rw [HN.out] at HON
      clear e0 e1 d1 d2 d3
      go_wp2
      go_roundw
      case rel => exact ⟨k + 1, by omega, by go_num, HON, B0, ZN, d.out⟩
      case measure => simp [intOf]; omega
    · obtain rfl : k = x2.length := by omega
      have HJ0 := Lib.hid (join_wordsB (sg, ba, x2, x3, x4) x2.length)
      have HGL := Lib.hid (HLN.out x2.length (Nat.le_refl _))
      have HWL : Hid (((wordsC (sg, ba, x2, x3, x4) x2.length).map strB).length ≤ 20 ∧ 0 < ((wordsC (sg, ba, x2, x3, x4) x2.length).map strB).length) := Lib.hid (by rw [List.length_map, wordsC_len]; omega)
      generalize (wordsC (sg, ba, x2, x3, x4) x2.length).map strB = ws at *
      obtain ⟨gg, gcap, rfl, hgc, hgl⟩ := ownsS_fullC HO.out HWL.out.2
      have o9 := HO.out
      have HJ := Lib.hid (Tryd.strings_Join gg 0 gcap ws ⟨#[32]⟩ wr (fun j x hx => by have := ownsS_cell o9 hx; rw [Nat.zero_add]; exact this) hgl (by have := HWL.out; omega) hgc (by rw [HJ0.out]; have := HGL.out; omega))
      rw [HJ0.out, ← HF.out] at HJ
      clear o9 hgc hgl HO
      obtain ⟨fc, hfc⟩ : ∃ fc, fc = fmtC (sg, ba, x2, x3, x4) := ⟨_, rfl⟩
      rw [← hfc] at HJ
      have HFC := Lib.hid hfc
      clear hfc
      have p_B0_0 := (cell_of_row wr _ 0 _ _ _ B0.out).trans (show _ = some (Value.int .i64 sg) from rfl)
      have p_B0_1 := (cell_of_row wr _ 1 _ _ _ B0.out).trans (show _ = some (Value.int .i64 ba) from rfl)
      have p_B0_2 := (cell_of_row wr _ 2 _ _ _ B0.out).trans (show _ = some (Value.slice p2 x2.length c2) from rfl)
      have p_B0_3 := (cell_of_row wr _ 3 _ _ _ B0.out).trans (show _ = some (Value.slice p3 x3.length c3) from rfl)
      have p_B0_4 := (cell_of_row wr _ 4 _ _ _ B0.out).trans (show _ = some (Value.slice p4 x4.length c4) from rfl)
      go_wp2_with fail
      clear p_B0_0 p_B0_1 p_B0_2 p_B0_3 p_B0_4
      refine HJ.out.mono ?_
      rintro e w10 ⟨rfl, b10⟩
      have c10 := Lib.hid (d.out.trans (b10.mono d.out.size))
      clear b10
      go_wp2
      go_ret
      exact ⟨ret_s HFC.out, c10.out⟩
end Go.Proofs.YtjeaimdnddelpaaDoor
namespace Go.Proofs.YtjeaimdnddelpaaDoor
open Go.RowKit
set_option linter.unusedVariables false
theorem specHasB (va : Value) (a : List Int) (x : Int) (w : World) (h : Ints w va a) (hn : a.length ≤ 1048576) : Calls Tryd.prog 45 #[va, .int .i64 x] w fun e w' => e = .returned (.bool (decide (x ∈ a))) ∧ Below w.heap.size w w' :=
  (specHas va a x w h hn).mono fun e w' g => ⟨g.1, by rw [← g.2]; exact Below.refl _ _⟩
end Go.Proofs.YtjeaimdnddelpaaDoor
namespace Go.Proofs.YtjeaimdnddelpaaDoor
open Go.RowKit
set_option linter.unusedVariables false
set_option linter.unusedSimpArgs false
set_option maxHeartbeats 8000000 in
set_option maxRecDepth 100000 in
theorem specWorkDone (sg ba : Int) (v2 v3 v4 : Value) (x2 x3 x4 : List Int) (w : World) (h2 : SlR tInt w v2 x2) (h3 : SlR tInt w v3 x3) (h4 : SlR tInt w v4 x4) (n2 : x2.length ≤ 1048576) (n3 : x3.length ≤ 1048576) (n4 : x4.length ≤ 1048576) :
    Calls Tryd.prog 12 #[.agg #[.int .i64 sg, .int .i64 ba, v2, v3, v4]] w (fun e w' => e = .returned (.int .i64 (workX (sg, ba, x2, x3, x4))) ∧ Below w.heap.size w w') := by
  obtain ⟨p2, c2, rfl⟩ := slR_len h2
  have H2 := Lib.hid h2
  obtain ⟨p3, c3, rfl⟩ := slR_len h3
  have H3 := Lib.hid h3
  obtain ⟨p4, c4, rfl⟩ := slR_len h4
  have H4 := Lib.hid h4
  clear h2 h3 h4
  have d := Lib.hid (show Below w.heap.size w (w.alloc (.cells #[.int .i64 sg, .int .i64 ba, .slice p2 x2.length c2, .slice p3 x3.length c3, .slice p4 x4.length c4] 26)) from ((Below.refl _ w).alloc (Nat.le_refl _) _))
  have B0 : Hid ((w.alloc (.cells #[.int .i64 sg, .int .i64 ba, .slice p2 x2.length c2, .slice p3 x3.length c3, .slice p4 x4.length c4] 26)).heap[w.heap.size]? = some (.cells #[.int .i64 sg, .int .i64 ba, .slice p2 x2.length c2, .slice p3 x3.length c3, .slice p4 x4.length c4] 26 (0, 0))) := Lib.hid (by
    exact heap_alloc_new w _)
  have YW : Hid (w.heap.size + 1 ≤ (w.alloc (.cells #[.int .i64 sg, .int .i64 ba, .slice p2 x2.length c2, .slice p3 x3.length c3, .slice p4 x4.length c4] 26)).heap.size) := Lib.hid (by simp [World.size_alloc])
  go_enter Tryd.func12, Tryd.ntmps12
  go_wp2_with fail
  generalize (w.alloc (.cells #[.int .i64 sg, .int .i64 ba, .slice p2 x2.length c2, .slice p3 x3.length c3, .slice p4 x4.length c4] 26)) = W at *
  refine (specIsCharge sg ba (.slice p2 x2.length c2) (.slice p3 x3.length c3) (.slice p4 x4.length c4) x2 x3 x4 W (slR_below tInt_law H2.out d.out) (slR_below tInt_law H3.out d.out) (slR_below tInt_law H4.out d.out) n2 n3 n4).mono ?_
  rintro e W1 ⟨rfl, c⟩
  replace B0 := Lib.hid ((c.block w.heap.size (Array.getElem?_eq_some_iff.1 B0.out).1).trans B0.out)
  replace d := Lib.hid (d.out.trans (c.mono d.out.size))
  have Z_W1 := Lib.hid (show W.heap.size ≤ W1.heap.size from c.size)
  clear c
  rcases Bool.eq_false_or_eq_true (chargeB (sg, ba, x2, x3, x4)) with hch | hch
  rotate_left
  · rw [hch]
    have HF := Lib.hid (workX_no hch)
    clear hch
    have p_B0_0 := (cell_of_row W1 _ 0 _ _ _ B0.out).trans (show _ = some (Value.int .i64 sg) from rfl)
    have p_B0_1 := (cell_of_row W1 _ 1 _ _ _ B0.out).trans (show _ = some (Value.int .i64 ba) from rfl)
    have p_B0_2 := (cell_of_row W1 _ 2 _ _ _ B0.out).trans (show _ = some (Value.slice p2 x2.length c2) from rfl)
    have p_B0_3 := (cell_of_row W1 _ 3 _ _ _ B0.out).trans (show _ = some (Value.slice p3 x3.length c3) from rfl)
    have p_B0_4 := (cell_of_row W1 _ 4 _ _ _ B0.out).trans (show _ = some (Value.slice p4 x4.length c4) from rfl)
    go_wp2
    clear p_B0_0 p_B0_1 p_B0_2 p_B0_3 p_B0_4
    go_ret
    exact ⟨ret_n HF.out.symm, d.out⟩
  rw [hch]
  have HCH := Lib.hid hch
  have HP := Lib.hid (charge_iff hch).2.1
  clear hch
  have p_B0_0 := (cell_of_row W1 _ 0 _ _ _ B0.out).trans (show _ = some (Value.int .i64 sg) from rfl)
  have p_B0_1 := (cell_of_row W1 _ 1 _ _ _ B0.out).trans (show _ = some (Value.int .i64 ba) from rfl)
  have p_B0_2 := (cell_of_row W1 _ 2 _ _ _ B0.out).trans (show _ = some (Value.slice p2 x2.length c2) from rfl)
  have p_B0_3 := (cell_of_row W1 _ 3 _ _ _ B0.out).trans (show _ = some (Value.slice p3 x3.length c3) from rfl)
  have p_B0_4 := (cell_of_row W1 _ 4 _ _ _ B0.out).trans (show _ = some (Value.slice p4 x4.length c4) from rfl)
  go_wp2
  go_loop [3, 4] (fun n i => ∃ (k : Nat) (s : Int), k ≤ x4.length ∧ i = .int .i64 k ∧ n = .int .i64 s ∧ Hid (s = ba + accN (rowI (sg, ba, x2, x3, x4)) k)) (fun _ i => x4.length - (intOf i).toNat)
  case atStart => exact ⟨0, ba, Nat.zero_le _, rfl, rfl, Lib.hid (Int.add_zero ba).symm⟩
  case round =>
    obtain ⟨k, s, hk, rfl, rfl, hs⟩ := hrel
    have s1 : 0 ≤ s ∧ s ≤ 100 := by
      have q1 := rows_sum HCH.out hk
      have q2 := HP.out
      have q3 := hs.out
      obtain ⟨⟨_, q4⟩, ⟨_, q5⟩, _, q6, q7⟩ := q2
      simp only at q4 q5 q6 q7 q1 hk
      omega
    obtain ⟨s1, s2⟩ := s1
    by_cases hlt : k < x4.length
    · have i1 : (0 : Int) ≤ (k : Int) := by omega
      have i2 : (k : Int) < (x4.length : Int) := by omega
      have HY := chg_row (x := (sg, ba, x2, x3, x4)) HCH.out hlt
      have hba : ba ≤ 4 := HP.out.2.2.2.2
      have HN : Hid (s + x4.getD k 0 = ba + accN (rowI (sg, ba, x2, x3, x4)) (k + 1)) := Lib.hid (by
        have := hs.out
        show s + x4.getD k 0 = ba + (accN (rowI (sg, ba, x2, x3, x4)) k + x4.getD k 0)
        omega)
      simp only at HY
      obtain ⟨y1, y2⟩ := HY
      clear hs
      obtain ⟨be0, offe0, cape0, hv, hbl, hc⟩ := ints_cell (slR_ints (slR_below tInt_law H4.out d.out)) (by omega)
      simp only [Value.slice.injEq] at hv
      obtain ⟨rfl, _, rfl⟩ := hv
      have e0 := hc k (by omega)
      clear hc hbl
      generalize x4.getD k 0 = y at *
      have y3 : y ≤ 100 := by omega
      clear y2 hba
      go_wp2
      go_round
      case rel => exact ⟨k + 1, s + y, by omega, by go_num, rfl, HN⟩
      case measure => simp [intOf]; omega
    · obtain rfl : k = x4.length := by omega
      have HT : Hid (s = workX (sg, ba, x2, x3, x4)) := Lib.hid (by rw [workX_yes HCH.out]; exact hs.out)
      clear hs
      go_wp2
      go_ret
      exact ⟨ret_n HT.out, d.out⟩
theorem workX_bd72 (x : ChargeD) : 0 ≤ workX x ∧ workX x ≤ 72 := by have := workX_bd x; omega
set_option maxHeartbeats 8000000 in
set_option maxRecDepth 100000 in
theorem specTotalWork (v : Value) (l : List ChargeD) (w : World) (h : SlR tCharge w v l) (hs : zL tCharge l ≤ 1048576) :
    Calls Tryd.prog 23 #[v] w (fun e w' => e = .returned (.int .i64 (totalL workX l)) ∧ Below w.heap.size w w') := by
  have hlen := zL_len hs
  have HS := Lib.hid hs
  have H := Lib.hid h
  obtain ⟨a, cap, rfl⟩ := slR_len h
  clear h hs
  go_enter Tryd.func23, Tryd.ntmps23
  go_wp2
  go_loopw [3, 4] (fun n i wr => ∃ (k : Nat) (s : Int), k ≤ l.length ∧ i = .int .i64 k ∧ n = .int .i64 s ∧ Hid (s = totalTo workX l k) ∧ Below w.heap.size w wr) (fun _ i _ => l.length - (intOf i).toNat)
  case atStart => exact ⟨0, 0, Nat.zero_le _, rfl, rfl, Lib.hid rfl, Below.refl _ _⟩
  case round =>
    obtain ⟨k, s, hk, rfl, rfl, hsum, c⟩ := hrel
    have cw := Lib.hid c
    have s1 := totalTo_bd (f := workX) workX_bd72 l k
    rw [← hsum.out] at s1
    obtain ⟨s1, s2'⟩ := s1
    have s2 : s ≤ 100000000 := by omega
    clear s2'
    by_cases hlt : k < l.length
    · have i1 : (0 : Int) ≤ (k : Int) := by omega
      have i2 : (k : Int) < (l.length : Int) := by omega
      have hz := zL_at HS.out hlt
      change tCharge.sz (l.getD k x0D) ≤ 1048576 at hz
      have HN : Hid (s + workX (l.getD k x0D) = totalTo workX l (k + 1)) := Lib.hid (by rw [totalTo_succ, hsum.out])
      obtain ⟨b, off, cap', p2, c2, p3, c3, p4, c4, hv, hbl, e0, e1, e2, e3, e4, s2, s3, s4⟩ := chg_at (slR_below tCharge_law H.out c) hlt
      simp only [Value.slice.injEq] at hv
      obtain ⟨rfl, _, rfl⟩ := hv
      have HBL := Lib.hid (show b < wr.heap.size from hbl)
      generalize l.getD k x0D = x at *
      obtain ⟨sg, ba, x2, x3, x4⟩ := x
      rw [tCharge_sz] at hz
      dsimp only at *
      clear hbl
      have HC := Lib.hid (specWorkDone sg ba (.slice p2 x2.length c2) (.slice p3 x3.length c3) (.slice p4 x4.length c4) x2 x3 x4 wr s2 s3 s4 (zL_len (show zL tInt x2 ≤ 1048576 by omega)) (zL_len (show zL tInt x3 ≤ 1048576 by omega)) (zL_len (show zL tInt x4 ≤ 1048576 by omega)))
      have hy := workX_bd (sg, ba, x2, x3, x4)
      clear hsum c s2 s3 s4 hz
      generalize workX (sg, ba, x2, x3, x4) = y at *
      obtain ⟨y1, y2⟩ := hy
      go_wp2_with fail
      refine HC.out.mono ?_
      rintro e w2 ⟨rfl, c2⟩
      have cw2 := Lib.hid (cw.out.trans (c2.mono cw.out.size))
      clear c2 HC e0 e1 e2 e3 e4
      go_wp2
      go_roundw
      case rel => exact ⟨k + 1, s + y, by omega, by go_num, rfl, HN, cw2.out⟩
      case measure => simp [intOf]; omega
    · obtain rfl : k = l.length := by omega
      have HT : Hid (s = totalL workX l) := Lib.hid hsum.out
      clear hsum c
      go_wp2
      go_ret
      exact ⟨ret_n HT.out, cw.out⟩
set_option maxHeartbeats 8000000 in
set_option maxRecDepth 100000 in
theorem specSharesOf (sg ba : Int) (v2 v3 v4 : Value) (x2 x3 x4 : List Int) (w : World) (h2 : SlR tInt w v2 x2) (h3 : SlR tInt w v3 x3) (h4 : SlR tInt w v4 x4) (n2 : x2.length ≤ 1048576) (n3 : x3.length ≤ 1048576) (n4 : x4.length ≤ 1048576) :
    Calls Tryd.prog 8 #[.agg #[.int .i64 sg, .int .i64 ba, v2, v3, v4]] w (FreshInts w (sharesX (sg, ba, x2, x3, x4))) := by
  obtain ⟨p2, c2, rfl⟩ := slR_len h2
  have H2 := Lib.hid h2
  obtain ⟨p3, c3, rfl⟩ := slR_len h3
  have H3 := Lib.hid h3
  obtain ⟨p4, c4, rfl⟩ := slR_len h4
  have H4 := Lib.hid h4
  clear h2 h3 h4
  have YE : Hid ((w.alloc (.cells #[.int .i64 sg, .int .i64 ba, .slice p2 x2.length c2, .slice p3 x3.length c3, .slice p4 x4.length c4] 26)).heap.size = w.heap.size + 1) := Lib.hid (by simp [World.size_alloc])
  have d := Lib.hid (show Below w.heap.size w (w.alloc (.cells #[.int .i64 sg, .int .i64 ba, .slice p2 x2.length c2, .slice p3 x3.length c3, .slice p4 x4.length c4] 26)) from ((Below.refl _ w).alloc (Nat.le_refl _) _))
  have B0 : Hid ((w.alloc (.cells #[.int .i64 sg, .int .i64 ba, .slice p2 x2.length c2, .slice p3 x3.length c3, .slice p4 x4.length c4] 26)).heap[w.heap.size]? = some (.cells #[.int .i64 sg, .int .i64 ba, .slice p2 x2.length c2, .slice p3 x3.length c3, .slice p4 x4.length c4] 26 (0, 0))) := Lib.hid (by
    exact heap_alloc_new w _)
  have YW : Hid (w.heap.size + 1 ≤ (w.alloc (.cells #[.int .i64 sg, .int .i64 ba, .slice p2 x2.length c2, .slice p3 x3.length c3, .slice p4 x4.length c4] 26)).heap.size) := Lib.hid (by simp [World.size_alloc])
  rcases Bool.eq_false_or_eq_true (chargeB (sg, ba, x2, x3, x4)) with hch | hch
  rotate_left
  · have HCH := Lib.hid hch
    rw [sharesX_no hch]
    clear hch
    go_enter Tryd.func8, Tryd.ntmps8
    go_wp2
    generalize (w.alloc (.cells #[.int .i64 sg, .int .i64 ba, .slice p2 x2.length c2, .slice p3 x3.length c3, .slice p4 x4.length c4] 26)) = W at *
    go_loopw [3, 5] (fun v i wr => i = .int .i64 0 ∧ OwnsN wr (w.heap.size + 1) v [] ∧ Below (w.heap.size + 1) W wr) (fun _ i _ => x2.length - (intOf i).toNat)
    case atStart => exact ⟨rfl, (by have q := ownsN_lit W _ YW.out #[] 0 [] rfl rfl (by decide); rw [YE.out] at q; exact q), (Below.refl _ _).alloc YW.out _⟩
    case round =>
      obtain ⟨rfl, hown, c⟩ := hrel
      replace B0 := Lib.hid ((c.block w.heap.size (Nat.lt_succ_self _)).trans B0.out)
      have Z_wr := Lib.hid (Nat.le_trans YW.out c.size)
      replace d := Lib.hid (d.out.trans (c.mono (Nat.le_succ _)))
      have CW := Lib.hid c
      clear c
      by_cases hlt : 0 < x2.length
      · have i2 : (0 : Int) < (x2.length : Int) := by omega
        have p_B0_0 := (cell_of_row wr _ 0 _ _ _ B0.out).trans (show _ = some (Value.int .i64 sg) from rfl)
        have p_B0_1 := (cell_of_row wr _ 1 _ _ _ B0.out).trans (show _ = some (Value.int .i64 ba) from rfl)
        have p_B0_2 := (cell_of_row wr _ 2 _ _ _ B0.out).trans (show _ = some (Value.slice p2 x2.length c2) from rfl)
        have p_B0_3 := (cell_of_row wr _ 3 _ _ _ B0.out).trans (show _ = some (Value.slice p3 x3.length c3) from rfl)
        have p_B0_4 := (cell_of_row wr _ 4 _ _ _ B0.out).trans (show _ = some (Value.slice p4 x4.length c4) from rfl)
        go_wp2_with fail
        clear p_B0_0 p_B0_1 p_B0_2 p_B0_3 p_B0_4
        refine (specIsCharge sg ba (.slice p2 x2.length c2) (.slice p3 x3.length c3) (.slice p4 x4.length c4) x2 x3 x4 wr (slR_below tInt_law H2.out d.out) (slR_below tInt_law H3.out d.out) (slR_below tInt_law H4.out d.out) n2 n3 n4).mono ?_
        rintro e W1 ⟨rfl, c⟩
        rw [HCH.out]
        replace hown := ownsN_below hown c
        replace B0 := Lib.hid ((c.block w.heap.size (Array.getElem?_eq_some_iff.1 B0.out).1).trans B0.out)
        replace d := Lib.hid (d.out.trans (c.mono d.out.size))
        have Z_W1 := Lib.hid (show wr.heap.size ≤ W1.heap.size from c.size)
        clear c
        have p_B0_0 := (cell_of_row W1 _ 0 _ _ _ B0.out).trans (show _ = some (Value.int .i64 sg) from rfl)
        have p_B0_1 := (cell_of_row W1 _ 1 _ _ _ B0.out).trans (show _ = some (Value.int .i64 ba) from rfl)
        have p_B0_2 := (cell_of_row W1 _ 2 _ _ _ B0.out).trans (show _ = some (Value.slice p2 x2.length c2) from rfl)
        have p_B0_3 := (cell_of_row W1 _ 3 _ _ _ B0.out).trans (show _ = some (Value.slice p3 x3.length c3) from rfl)
        have p_B0_4 := (cell_of_row W1 _ 4 _ _ _ B0.out).trans (show _ = some (Value.slice p4 x4.length c4) from rfl)
        go_wp2
        clear p_B0_0 p_B0_1 p_B0_2 p_B0_3 p_B0_4
        go_ret
        exact ⟨_, rfl, row_low hown (Nat.le_succ _), d.out⟩
      · have i2 : decide ((0 : Int) < (x2.length : Int)) = false := decide_eq_false (by omega)
        have i3 : decide (0 < x2.length) = false := decide_eq_false hlt
        clear hlt
        have p_B0_0 := (cell_of_row wr _ 0 _ _ _ B0.out).trans (show _ = some (Value.int .i64 sg) from rfl)
        have p_B0_1 := (cell_of_row wr _ 1 _ _ _ B0.out).trans (show _ = some (Value.int .i64 ba) from rfl)
        have p_B0_2 := (cell_of_row wr _ 2 _ _ _ B0.out).trans (show _ = some (Value.slice p2 x2.length c2) from rfl)
        have p_B0_3 := (cell_of_row wr _ 3 _ _ _ B0.out).trans (show _ = some (Value.slice p3 x3.length c3) from rfl)
        have p_B0_4 := (cell_of_row wr _ 4 _ _ _ B0.out).trans (show _ = some (Value.slice p4 x4.length c4) from rfl)
        go_wp2
        clear p_B0_0 p_B0_1 p_B0_2 p_B0_3 p_B0_4
        go_ret
        exact ⟨_, rfl, row_low hown (Nat.le_succ _), d.out⟩
  have HCH := Lib.hid hch
  have HP := Lib.hid (charge_iff hch).2.1
  have HSL := Lib.hid (sharesX_yes hch)
  rw [HSL.out]
  have hdv := base_div (x := (sg, ba, x2, x3, x4)) hch
  dsimp only at hdv
  have hba : 0 ≤ ba ∧ ba ≤ 4 := HP.out.2.2.2
  have hl8 : 1 ≤ x2.length ∧ x2.length ≤ 8 := HP.out.1
  have HL4 : Hid (x4.length = x2.length) := Lib.hid HP.out.2.1.2
  clear hch
  have t1 : Hid (ba.tdiv (x2.length : Int) = ba / (x2.length : Int)) := Lib.hid (Int.tdiv_eq_ediv_of_nonneg hba.1)
  have t2 : Hid (ba.tmod (x2.length : Int) = ba % (x2.length : Int)) := Lib.hid (Int.tmod_eq_emod_of_nonneg hba.1)
  obtain ⟨q, hq⟩ : ∃ q, q = ba / (x2.length : Int) := ⟨_, rfl⟩
  obtain ⟨r, hr⟩ : ∃ r, r = ba % (x2.length : Int) := ⟨_, rfl⟩
  rw [← hq] at t1 hdv
  rw [← hr] at t2 hdv
  have HQ := Lib.hid hq
  have HR := Lib.hid hr
  clear hq hr
  obtain ⟨q1, q2, r1, r2⟩ := hdv
  obtain ⟨a1, a2⟩ := hba
  obtain ⟨l1, l2⟩ := hl8
  go_enter Tryd.func8, Tryd.ntmps8
  go_wp2
  generalize (w.alloc (.cells #[.int .i64 sg, .int .i64 ba, .slice p2 x2.length c2, .slice p3 x3.length c3, .slice p4 x4.length c4] 26)) = W at *
  go_loopw [3, 5] (fun v i wr => ∃ k : Nat, k ≤ x2.length ∧ i = .int .i64 k ∧ OwnsN wr (w.heap.size + 1) v (sharesTo (sg, ba, x2, x3, x4) k) ∧ Below (w.heap.size + 1) W wr) (fun _ i _ => x2.length - (intOf i).toNat)
  case atStart => exact ⟨0, Nat.zero_le _, rfl, (by have q := ownsN_lit W _ YW.out #[] 0 [] rfl rfl (by decide); rw [YE.out] at q; exact q), (Below.refl _ _).alloc YW.out _⟩
  case round =>
    obtain ⟨k, hk, rfl, hown, c⟩ := hrel
    replace B0 := Lib.hid ((c.block w.heap.size (Nat.lt_succ_self _)).trans B0.out)
    have Z_wr := Lib.hid (Nat.le_trans YW.out c.size)
    replace d := Lib.hid (d.out.trans (c.mono (Nat.le_succ _)))
    have CW := Lib.hid c
    clear c
    by_cases hlt : k < x2.length
    · have i1 : (0 : Int) ≤ (k : Int) := by omega
      have i2 : (k : Int) < (x2.length : Int) := by omega
      have p_B0_0 := (cell_of_row wr _ 0 _ _ _ B0.out).trans (show _ = some (Value.int .i64 sg) from rfl)
      have p_B0_1 := (cell_of_row wr _ 1 _ _ _ B0.out).trans (show _ = some (Value.int .i64 ba) from rfl)
      have p_B0_2 := (cell_of_row wr _ 2 _ _ _ B0.out).trans (show _ = some (Value.slice p2 x2.length c2) from rfl)
      have p_B0_3 := (cell_of_row wr _ 3 _ _ _ B0.out).trans (show _ = some (Value.slice p3 x3.length c3) from rfl)
      have p_B0_4 := (cell_of_row wr _ 4 _ _ _ B0.out).trans (show _ = some (Value.slice p4 x4.length c4) from rfl)
      go_wp2_with fail
      clear p_B0_0 p_B0_1 p_B0_2 p_B0_3 p_B0_4
      refine (specIsCharge sg ba (.slice p2 x2.length c2) (.slice p3 x3.length c3) (.slice p4 x4.length c4) x2 x3 x4 wr (slR_below tInt_law H2.out d.out) (slR_below tInt_law H3.out d.out) (slR_below tInt_law H4.out d.out) n2 n3 n4).mono ?_
      rintro e W1 ⟨rfl, c⟩
      rw [HCH.out]
      replace hown := ownsN_below hown c
      have HC1 := Lib.hid c
      replace B0 := Lib.hid ((c.block w.heap.size (Array.getElem?_eq_some_iff.1 B0.out).1).trans B0.out)
      replace d := Lib.hid (d.out.trans (c.mono d.out.size))
      have Z_W1 := Lib.hid (show wr.heap.size ≤ W1.heap.size from c.size)
      clear c
      have i3 : k < x4.length := by have := HL4.out; omega
      have i4 : (k : Int) < (x4.length : Int) := by omega
      have HY := chg_row (x := (sg, ba, x2, x3, x4)) HCH.out i3
      dsimp only at HY
      obtain ⟨be0, offe0, cape0, hv, hbl, hc⟩ := ints_cell (slR_ints (slR_below tInt_law H4.out d.out)) (by omega)
      simp only [Value.slice.injEq] at hv
      obtain ⟨rfl, _, rfl⟩ := hv
      have e0 := hc k (by omega)
      clear hc hbl
      have HSH : Hid (q + x4.getD k 0 + (if (k : Int) < r then 1 else 0) = shareI (sg, ba, x2, x3, x4) k) := Lib.hid (by rw [HQ.out, HR.out]; rfl)
      generalize x4.getD k 0 = y at *
      obtain ⟨y1, y2'⟩ := HY
      have y2 : y ≤ 4 := by omega
      clear y2'
      have g1 := t1.out
      have g2 : IntKind.i64.wrap q = q := IntWalk.i64_in _ (by omega)
      have g3 : IntKind.i64.wrap (q + y) = q + y := IntWalk.i64_in _ (by omega)
      have g4 : ((x2.length : Int) == 0) = false := by rw [beq_eq_false_iff_ne]; omega
      have g5 : ¬ (x2.length : Int) = 0 := by omega
      have g6 : (x2.length = 0) = False := eq_false (by omega)
      have p_B0_0 := (cell_of_row W1 _ 0 _ _ _ B0.out).trans (show _ = some (Value.int .i64 sg) from rfl)
      have p_B0_1 := (cell_of_row W1 _ 1 _ _ _ B0.out).trans (show _ = some (Value.int .i64 ba) from rfl)
      have p_B0_2 := (cell_of_row W1 _ 2 _ _ _ B0.out).trans (show _ = some (Value.slice p2 x2.length c2) from rfl)
      have p_B0_3 := (cell_of_row W1 _ 3 _ _ _ B0.out).trans (show _ = some (Value.slice p3 x3.length c3) from rfl)
      have p_B0_4 := (cell_of_row W1 _ 4 _ _ _ B0.out).trans (show _ = some (Value.slice (some ⟨be0, offe0, none⟩) x4.length c4) from rfl)
      go_wp2_with fail
      go_quiet (fail)
      clear p_B0_0 p_B0_1 p_B0_2 p_B0_3 p_B0_4 g1 g2 g3 g4 g5 g6
      have cq : Below W1.heap.size W1 (W1.drewN nq) := ⟨rfl, rfl, rfl, Nat.le_refl _, fun _ _ => rfl⟩
      replace hown := ownsN_below hown cq
      replace B0 := Lib.hid ((cq.block w.heap.size (Array.getElem?_eq_some_iff.1 B0.out).1).trans B0.out)
      replace d := Lib.hid (d.out.trans (cq.mono d.out.size))
      have CW2 := Lib.hid (CW.out.trans ((show Below wr.heap.size wr (W1.drewN nq) from HC1.out.trans (cq.mono HC1.out.size)).mono Z_wr.out))
      clear cq
      have ZB : w.heap.size + 1 ≤ (W1.drewN nq).heap.size := Nat.le_trans Z_wr.out (Nat.le_trans HC1.out.size (Nat.le_refl _))
      have HZB := Lib.hid ZB
      clear ZB
      generalize W1.drewN nq = Wd at *
      have HLS : Hid ((sharesTo (sg, ba, x2, x3, x4) k).length ≤ 8) := Lib.hid (by rw [sharesTo_len]; omega)
      have HSC := Lib.hid (sharesTo_succ (sg, ba, x2, x3, x4) k)
      generalize sharesTo (sg, ba, x2, x3, x4) k = acc at *
      by_cases hkr : (k : Int) < r
      · rw [if_pos hkr] at HSH
        have g1 := t2.out
        have g2 := HR.out.symm
        have g3 : decide ((k : Int) < r) = true := decide_eq_true hkr
        clear hkr
        have p_B0_0 := (cell_of_row Wd _ 0 _ _ _ B0.out).trans (show _ = some (Value.int .i64 sg) from rfl)
        have p_B0_1 := (cell_of_row Wd _ 1 _ _ _ B0.out).trans (show _ = some (Value.int .i64 ba) from rfl)
        have p_B0_2 := (cell_of_row Wd _ 2 _ _ _ B0.out).trans (show _ = some (Value.slice p2 x2.length c2) from rfl)
        have p_B0_3 := (cell_of_row Wd _ 3 _ _ _ B0.out).trans (show _ = some (Value.slice p3 x3.length c3) from rfl)
        have p_B0_4 := (cell_of_row Wd _ 4 _ _ _ B0.out).trans (show _ = some (Value.slice (some ⟨be0, offe0, none⟩) x4.length c4) from rfl)
        go_wp2_with (at_builtin; refine append_ints rfl (.tmp 38) (.tmp 40) rfl (w.heap.size + 1) _ _ rfl hown HZB.out _ [q + y + 1] 1 _ rfl (by first | rfl | (simp; done)) rfl (by have := HLS.out; simp; omega) ?_)
        intro v' w4 hown4 hb4
        have hb5 := Lib.hid (CW2.out.trans hb4)
        have HO4 : Hid (OwnsN w4 (w.heap.size + 1) v' (sharesTo (sg, ba, x2, x3, x4) (k + 1))) := Lib.hid (by rw [HSC.out, ← HSH.out]; exact hown4)
        clear hown hb4 hown4
        go_wp2
        go_roundw
        case rel => exact ⟨k + 1, by omega, by go_num, HO4.out, hb5.out⟩
        case measure => simp [intOf]; omega
      · rw [if_neg hkr, Int.add_zero] at HSH
        have g1 := t2.out
        have g2 := HR.out.symm
        have g3 : decide ((k : Int) < r) = false := decide_eq_false hkr
        clear hkr
        have p_B0_0 := (cell_of_row Wd _ 0 _ _ _ B0.out).trans (show _ = some (Value.int .i64 sg) from rfl)
        have p_B0_1 := (cell_of_row Wd _ 1 _ _ _ B0.out).trans (show _ = some (Value.int .i64 ba) from rfl)
        have p_B0_2 := (cell_of_row Wd _ 2 _ _ _ B0.out).trans (show _ = some (Value.slice p2 x2.length c2) from rfl)
        have p_B0_3 := (cell_of_row Wd _ 3 _ _ _ B0.out).trans (show _ = some (Value.slice p3 x3.length c3) from rfl)
        have p_B0_4 := (cell_of_row Wd _ 4 _ _ _ B0.out).trans (show _ = some (Value.slice (some ⟨be0, offe0, none⟩) x4.length c4) from rfl)
        go_wp2_with (at_builtin; refine append_ints rfl (.tmp 38) (.tmp 40) rfl (w.heap.size + 1) _ _ rfl hown HZB.out _ [q + y] 1 _ rfl (by first | rfl | (simp; done)) rfl (by have := HLS.out; simp; omega) ?_)
        intro v' w4 hown4 hb4
        have hb5 := Lib.hid (CW2.out.trans hb4)
        have HO4 : Hid (OwnsN w4 (w.heap.size + 1) v' (sharesTo (sg, ba, x2, x3, x4) (k + 1))) := Lib.hid (by rw [HSC.out, ← HSH.out]; exact hown4)
        clear hown hb4 hown4
        go_wp2
        go_roundw
        case rel => exact ⟨k + 1, by omega, by go_num, HO4.out, hb5.out⟩
        case measure => simp [intOf]; omega
    · obtain rfl : k = x2.length := by omega
      have p_B0_0 := (cell_of_row wr _ 0 _ _ _ B0.out).trans (show _ = some (Value.int .i64 sg) from rfl)
      have p_B0_1 := (cell_of_row wr _ 1 _ _ _ B0.out).trans (show _ = some (Value.int .i64 ba) from rfl)
      have p_B0_2 := (cell_of_row wr _ 2 _ _ _ B0.out).trans (show _ = some (Value.slice p2 x2.length c2) from rfl)
      have p_B0_3 := (cell_of_row wr _ 3 _ _ _ B0.out).trans (show _ = some (Value.slice p3 x3.length c3) from rfl)
      have p_B0_4 := (cell_of_row wr _ 4 _ _ _ B0.out).trans (show _ = some (Value.slice p4 x4.length c4) from rfl)
      go_wp2
      clear p_B0_0 p_B0_1 p_B0_2 p_B0_3 p_B0_4
      go_ret
      exact ⟨_, rfl, row_low hown (Nat.le_succ _), d.out⟩
set_option maxHeartbeats 8000000 in
set_option maxRecDepth 100000 in
theorem specTenantCharge (t : Int) (v : Value) (l : List ChargeD) (w : World) (h : SlR tCharge w v l) (hs : zL tCharge l ≤ 1048576) :
    Calls Tryd.prog 21 #[v, .int .i64 t] w (fun e w' => e = .returned (.int .i64 (totalL (tenX t) l)) ∧ Below w.heap.size w w') := by
  have hlen := zL_len hs
  have HS := Lib.hid hs
  have H := Lib.hid h
  obtain ⟨a, cap, rfl⟩ := slR_len h
  clear h hs
  go_enter Tryd.func21, Tryd.ntmps21
  go_wp2
  go_loopw [5, 6] (fun n i wr => ∃ (k : Nat) (s : Int), k ≤ l.length ∧ i = .int .i64 k ∧ n = .int .i64 s ∧ Hid (s = totalTo (tenX t) l k) ∧ Below w.heap.size w wr) (fun _ i _ => l.length - (intOf i).toNat)
  case atStart => exact ⟨0, 0, Nat.zero_le _, rfl, rfl, Lib.hid rfl, Below.refl _ _⟩
  case round =>
    obtain ⟨k, s, hk, rfl, rfl, hsum, c⟩ := hrel
    have cw := Lib.hid c
    have s1 := totalTo_bd (f := (tenX t)) (tenX_bd t) l k
    rw [← hsum.out] at s1
    obtain ⟨s1, s2'⟩ := s1
    have s2 : s ≤ 100000000 := by omega
    clear s2'
    by_cases hlt : k < l.length
    · have i1 : (0 : Int) ≤ (k : Int) := by omega
      have i2 : (k : Int) < (l.length : Int) := by omega
      have hz := zL_at HS.out hlt
      change tCharge.sz (l.getD k x0D) ≤ 1048576 at hz
      have HN : Hid (s + (tenX t) (l.getD k x0D) = totalTo (tenX t) l (k + 1)) := Lib.hid (by rw [totalTo_succ, hsum.out])
      obtain ⟨b, off, cap', p2, c2, p3, c3, p4, c4, hv, hbl, e0, e1, e2, e3, e4, s2, s3, s4⟩ := chg_at (slR_below tCharge_law H.out c) hlt
      simp only [Value.slice.injEq] at hv
      obtain ⟨rfl, _, rfl⟩ := hv
      have HBL := Lib.hid (show b < wr.heap.size from hbl)
      generalize l.getD k x0D = x at *
      obtain ⟨sg, ba, x2, x3, x4⟩ := x
      rw [tCharge_sz] at hz
      dsimp only at *
      clear hbl
      have HC := Lib.hid (specSharesOf sg ba (.slice p2 x2.length c2) (.slice p3 x3.length c3) (.slice p4 x4.length c4) x2 x3 x4 wr s2 s3 s4 (zL_len (show zL tInt x2 ≤ 1048576 by omega)) (zL_len (show zL tInt x3 ≤ 1048576 by omega)) (zL_len (show zL tInt x4 ≤ 1048576 by omega)))
      have HSX := Lib.hid (@sharesX_len (sg, ba, x2, x3, x4))
      have HLE := Lib.hid (@sharesX_le (sg, ba, x2, x3, x4))
      have HBT := Lib.hid (tenTo_bd (sg, ba, x2, x3, x4) t)
      have HBS := Lib.hid (@shares_bd (sg, ba, x2, x3, x4))
      have HNE : Hid (tenX t (sg, ba, x2, x3, x4) = accN (tenI x3 (sharesX (sg, ba, x2, x3, x4)) t) (sharesX (sg, ba, x2, x3, x4)).length) := Lib.hid rfl
      have S3 := Lib.hid s3
      clear hsum c s2 s3 s4 hz
      dsimp only at HLE HBT
      generalize sharesX (sg, ba, x2, x3, x4) = sh at *
      generalize tenX t (sg, ba, x2, x3, x4) = tx at *
      go_wp2_with fail
      refine HC.out.mono ?_
      rintro e w2 ⟨u, rfl, ho, c2⟩
      obtain ⟨ua, uc, rfl⟩ := ints_len (ownsN_ints ho)
      have HU := Lib.hid (ownsN_ints ho)
      clear ho
      have cw2 := Lib.hid (cw.out.trans (c2.mono cw.out.size))
      have T3 := Lib.hid (slR_below tInt_law S3.out c2)
      replace e0 := (c2.cell (p := ⟨b, off + k * 5, none⟩) HBL.out).trans e0
      replace e1 := (c2.cell (p := ⟨b, off + k * 5 + 1, none⟩) HBL.out).trans e1
      replace e2 := (c2.cell (p := ⟨b, off + k * 5 + 2, none⟩) HBL.out).trans e2
      replace e3 := (c2.cell (p := ⟨b, off + k * 5 + 3, none⟩) HBL.out).trans e3
      replace e4 := (c2.cell (p := ⟨b, off + k * 5 + 4, none⟩) HBL.out).trans e4
      have E3 := Lib.hid e3
      clear c2 HC S3 e0 e1 e2 e3 e4
      go_wp2
      go_loop [5, 8] (fun n i => ∃ (j : Nat) (z : Int), j ≤ sh.length ∧ i = .int .i64 j ∧ n = .int .i64 z ∧ Hid (z = s + accN (tenI x3 sh t) j)) (fun _ i => sh.length - (intOf i).toNat)
      case atStart => exact ⟨0, s, Nat.zero_le _, rfl, rfl, Lib.hid (Int.add_zero s).symm⟩
      case round =>
        obtain ⟨j, z, hj, rfl, rfl, hz⟩ := hrel
        have z1 := HBT.out j
        have z2 := HSX.out
        have z3 := hz.out
        have z4 : 0 ≤ z ∧ z ≤ 200000000 := by omega
        obtain ⟨z5, z6⟩ := z4
        clear z1 z2 z3
        by_cases hjl : j < sh.length
        · have j5 := HSX.out
          have j1 : (0 : Int) ≤ (j : Int) := by omega
          have j2 : (j : Int) < (sh.length : Int) := by omega
          have j3 : j < x3.length := by have := HLE.out; omega
          have j4 : (j : Int) < (x3.length : Int) := by omega
          obtain ⟨bu, offu, capu, hv, hbl, hc⟩ := ints_cell HU.out (by omega)
          simp only [Value.slice.injEq] at hv
          obtain ⟨rfl, _, rfl⟩ := hv
          have f0 := hc j (by omega)
          clear hc hbl
          obtain ⟨bt, offt, capt, hv, hbl, hc⟩ := ints_cell (slR_ints T3.out) (by omega)
          simp only [Value.slice.injEq] at hv
          obtain ⟨rfl, _, rfl⟩ := hv
          have f1 := hc j (by omega)
          clear hc hbl
          have HBJ := HBS.out j
          have HA1 : Hid (x3.getD j 0 = t → z + sh.getD j 0 = s + accN (tenI x3 sh t) (j + 1)) := Lib.hid (fun g => by rw [accN_succ, tenI_yes g]; have := hz.out; omega)
          have HA2 : Hid (¬ x3.getD j 0 = t → z = s + accN (tenI x3 sh t) (j + 1)) := Lib.hid (fun g => by rw [accN_succ, tenI_no g]; have := hz.out; omega)
          clear hz
          generalize x3.getD j 0 = y at *
          generalize sh.getD j 0 = sv at *
          obtain ⟨v1, v2⟩ := HBJ
          have e3 := E3.out
          by_cases hyt : y = t
          · have HZ := Lib.hid (HA1.out hyt)
            have g1 : (y == t) = true := by simpa using hyt
            clear HA1 HA2 hyt
            go_wp2
            go_round
            case rel => exact ⟨j + 1, z + sv, by omega, by go_num, rfl, HZ⟩
            case measure => simp [intOf]; omega
          · have HZ := Lib.hid (HA2.out hyt)
            have g1 : (y == t) = false := by rw [beq_eq_false_iff_ne]; exact hyt
            clear HA1 HA2 hyt
            go_wp2
            go_round
            case rel => exact ⟨j + 1, z, by omega, by go_num, rfl, HZ⟩
            case measure => simp [intOf]; omega
        · obtain rfl : j = sh.length := by omega
          have HZ : Hid (z = totalTo (tenX t) l (k + 1)) := Lib.hid (by rw [← HN.out, HNE.out]; exact hz.out)
          clear hz
          go_wp2
          go_roundw
          case rel => exact ⟨k + 1, z, by omega, by go_num, rfl, HZ, cw2.out⟩
          case measure => simp [intOf]; omega
    · obtain rfl : k = l.length := by omega
      have HT : Hid (s = totalL (tenX t) l) := Lib.hid hsum.out
      clear hsum c
      go_wp2
      go_ret
      exact ⟨ret_n HT.out, cw.out⟩
set_option maxHeartbeats 8000000 in
set_option maxRecDepth 100000 in
theorem specCoalitionCost (v : Value) (l : List ChargeD) (w : World) (tv : Value) (ts : List Int) (ht : SlR tInt w tv ts) (hnt : ts.length ≤ 1048576) (h : SlR tCharge w v l) (hs : zL tCharge l ≤ 1048576) :
    Calls Tryd.prog 20 #[v, tv] w (fun e w' => e = .returned (.int .i64 (totalL (coX (memB ts)) l)) ∧ Below w.heap.size w w') := by
  have hlen := zL_len hs
  have HS := Lib.hid hs
  have H := Lib.hid h
  obtain ⟨a, cap, rfl⟩ := slR_len h
  clear h hs
  have HTS := Lib.hid ht
  clear ht
  go_enter Tryd.func20, Tryd.ntmps20
  go_wp2
  go_loopw [5, 6] (fun n i wr => ∃ (k : Nat) (s : Int), k ≤ l.length ∧ i = .int .i64 k ∧ n = .int .i64 s ∧ Hid (s = totalTo (coX (memB ts)) l k) ∧ Below w.heap.size w wr) (fun _ i _ => l.length - (intOf i).toNat)
  case atStart => exact ⟨0, 0, Nat.zero_le _, rfl, rfl, Lib.hid rfl, Below.refl _ _⟩
  case round =>
    obtain ⟨k, s, hk, rfl, rfl, hsum, c⟩ := hrel
    generalize wr = wo at *
    have cw := Lib.hid c
    have s1 := totalTo_bd (f := (coX (memB ts))) (coX_bd (memB ts)) l k
    rw [← hsum.out] at s1
    obtain ⟨s1, s2'⟩ := s1
    have s2 : s ≤ 100000000 := by omega
    clear s2'
    by_cases hlt : k < l.length
    · have i1 : (0 : Int) ≤ (k : Int) := by omega
      have i2 : (k : Int) < (l.length : Int) := by omega
      have hz := zL_at HS.out hlt
      change tCharge.sz (l.getD k x0D) ≤ 1048576 at hz
      have HN : Hid (s + (coX (memB ts)) (l.getD k x0D) = totalTo (coX (memB ts)) l (k + 1)) := Lib.hid (by rw [totalTo_succ, hsum.out])
      obtain ⟨b, off, cap', p2, c2, p3, c3, p4, c4, hv, hbl, e0, e1, e2, e3, e4, s2, s3, s4⟩ := chg_at (slR_below tCharge_law H.out c) hlt
      simp only [Value.slice.injEq] at hv
      obtain ⟨rfl, _, rfl⟩ := hv
      have HBL := Lib.hid (show b < wo.heap.size from hbl)
      generalize l.getD k x0D = x at *
      obtain ⟨sg, ba, x2, x3, x4⟩ := x
      rw [tCharge_sz] at hz
      dsimp only at *
      clear hbl
      have S2 := Lib.hid s2; have S3 := Lib.hid s3; have S4 := Lib.hid s4
      have n2 := zL_len (show zL tInt x2 ≤ 1048576 by omega)
      have n3 := zL_len (show zL tInt x3 ≤ 1048576 by omega)
      have n4 := zL_len (show zL tInt x4 ≤ 1048576 by omega)
      have E0 := Lib.hid e0
      have E1 := Lib.hid e1
      have E2 := Lib.hid e2
      have E3 := Lib.hid e3
      have E4 := Lib.hid e4
      clear s2 s3 s4 e0 e1 e2 e3 e4 hsum c hz
      rcases Bool.eq_false_or_eq_true (chargeB (sg, ba, x2, x3, x4)) with hch | hch
      · have HCH := Lib.hid hch
        have HP := Lib.hid (charge_iff hch).2.1
        have HYES : Hid (anyTo (memB ts) x3 x2.length = true → s + coRows (memB ts) (sg, ba, x2, x3, x4) x2.length + ba = totalTo (coX (memB ts)) l (k + 1)) := Lib.hid (fun g => by rw [← HN.out, coX_yes hch g]; show s + coRows (memB ts) (sg, ba, x2, x3, x4) x2.length + ba = s + (coRows (memB ts) (sg, ba, x2, x3, x4) x2.length + ba); omega)
        have HNO : Hid (anyTo (memB ts) x3 x2.length = false → s = totalTo (coX (memB ts)) l (k + 1)) := Lib.hid (fun g => by rw [← HN.out, coX_no2 g]; exact (Int.add_zero s).symm)
        have hl8 : x2.length ≤ 8 := HP.out.1.2
        have hba : 0 ≤ ba ∧ ba ≤ 4 := HP.out.2.2.2
        obtain ⟨ba1, ba2⟩ := hba
        have L3 : x3.length = x2.length := HP.out.2.1.1
        have L4 : x4.length = x2.length := HP.out.2.1.2
        have HL3 := Lib.hid L3
        have HL4 := Lib.hid L4
        clear L3 L4 hch HN
        have d0 := Lib.hid (Below.refl wo.heap.size wo)
        have e0 := (d0.out.cell (p := ⟨b, off + k * 5, none⟩) HBL.out).trans E0.out
        have e1 := (d0.out.cell (p := ⟨b, off + k * 5 + 1, none⟩) HBL.out).trans E1.out
        have e2 := (d0.out.cell (p := ⟨b, off + k * 5 + 2, none⟩) HBL.out).trans E2.out
        have e3 := (d0.out.cell (p := ⟨b, off + k * 5 + 3, none⟩) HBL.out).trans E3.out
        have e4 := (d0.out.cell (p := ⟨b, off + k * 5 + 4, none⟩) HBL.out).trans E4.out
        go_wp2
        clear e0 e1 e2 e3 e4
        go_loopw [5, 7, 8] (fun n th i wi => ∃ (j : Nat) (z : Int) (bb : Bool), j ≤ x2.length ∧ i = .int .i64 j ∧ n = .int .i64 z ∧ th = .bool bb ∧ Hid (z = s + coRows (memB ts) (sg, ba, x2, x3, x4) j) ∧ Hid (bb = anyTo (memB ts) x3 j) ∧ Below wo.heap.size wo wi) (fun _ _ i _ => x2.length - (intOf i).toNat)
        case atStart => exact ⟨0, s, false, Nat.zero_le _, rfl, rfl, rfl, Lib.hid (Int.add_zero s).symm, Lib.hid rfl, Below.refl _ _⟩
        case round =>
          obtain ⟨j, z, bb, hj, rfl, rfl, rfl, hz, hbb, cj⟩ := hrel
          have CJ := Lib.hid cj
          have z1 := coRows_bd (m := memB ts) HCH.out hj
          have z3 := hz.out
          have z4 : 0 ≤ z ∧ z ≤ 200000000 := by omega
          obtain ⟨z5, z6⟩ := z4
          clear z1 z3 cj
          by_cases hjl : j < x2.length
          · have j1 : (0 : Int) ≤ (j : Int) := by omega
            have j2 : (j : Int) < (x2.length : Int) := by omega
            have j3 : j < x3.length := by have := HL3.out; omega
            have j4 : (j : Int) < (x3.length : Int) := by omega
            have j5 : j < x4.length := by have := HL4.out; omega
            have j6 : (j : Int) < (x4.length : Int) := by omega
            have e0 := (CJ.out.cell (p := ⟨b, off + k * 5, none⟩) HBL.out).trans E0.out
            have e1 := (CJ.out.cell (p := ⟨b, off + k * 5 + 1, none⟩) HBL.out).trans E1.out
            have e2 := (CJ.out.cell (p := ⟨b, off + k * 5 + 2, none⟩) HBL.out).trans E2.out
            have e3 := (CJ.out.cell (p := ⟨b, off + k * 5 + 3, none⟩) HBL.out).trans E3.out
            have e4 := (CJ.out.cell (p := ⟨b, off + k * 5 + 4, none⟩) HBL.out).trans E4.out
            go_wp2_with fail
            clear e0 e1 e2 e3 e4
            refine (specIsCharge sg ba (.slice p2 x2.length c2) (.slice p3 x3.length c3) (.slice p4 x4.length c4) x2 x3 x4 wr (slR_below tInt_law S2.out CJ.out) (slR_below tInt_law S3.out CJ.out) (slR_below tInt_law S4.out CJ.out) n2 n3 n4).mono ?_
            rintro e w3 ⟨rfl, c3⟩
            rw [HCH.out]
            have C3 := Lib.hid (CJ.out.trans (c3.mono CJ.out.size))
            clear c3
            obtain ⟨bt, offt, capt, hv, hbl, hc⟩ := ints_cell (slR_ints (slR_below tInt_law S3.out C3.out)) (by omega)
            simp only [Value.slice.injEq] at hv
            obtain ⟨rfl, _, rfl⟩ := hv
            have f3 := hc j (by omega)
            clear hc hbl
            have HR := chg_row (x := (sg, ba, x2, x3, x4)) HCH.out j5
            dsimp only at HR
            have F3 := Lib.hid f3
            clear f3
            have HA1 : Hid (memB ts (x3.getD j 0) = true → z + x4.getD j 0 = s + coRows (memB ts) (sg, ba, x2, x3, x4) (j + 1) ∧ true = anyTo (memB ts) x3 (j + 1)) := Lib.hid (fun g => ⟨by rw [coRows_yes (x := (sg, ba, x2, x3, x4)) g]; have := hz.out; dsimp only; omega, (anyTo_yes g).symm⟩)
            have HA2 : Hid (memB ts (x3.getD j 0) = false → z = s + coRows (memB ts) (sg, ba, x2, x3, x4) (j + 1) ∧ bb = anyTo (memB ts) x3 (j + 1)) := Lib.hid (fun g => ⟨by rw [coRows_no (x := (sg, ba, x2, x3, x4)) g]; exact hz.out, by rw [anyTo_no g]; exact hbb.out⟩)
            clear hz hbb
            have F4 := Lib.hid (show (x4.getD j 0 : Int) = x4.getD j 0 from rfl)
            clear F4
            obtain ⟨br, offr, capr, hv, hbl, hc⟩ := ints_cell (slR_ints (slR_below tInt_law S4.out C3.out)) (by omega)
            simp only [Value.slice.injEq] at hv
            obtain ⟨rfl, _, rfl⟩ := hv
            have f4 := hc j (by omega)
            have HBR := Lib.hid (show br < w3.heap.size from hbl)
            clear hc hbl
            have F4 := Lib.hid f4
            clear f4
            generalize x3.getD j 0 = y at *
            generalize x4.getD j 0 = rv at *
            obtain ⟨rv1, rv2'⟩ := HR
            have rv2 : rv ≤ 4 := by omega
            clear rv2'
            have e0 := (C3.out.cell (p := ⟨b, off + k * 5, none⟩) HBL.out).trans E0.out
            have e1 := (C3.out.cell (p := ⟨b, off + k * 5 + 1, none⟩) HBL.out).trans E1.out
            have e2 := (C3.out.cell (p := ⟨b, off + k * 5 + 2, none⟩) HBL.out).trans E2.out
            have e3 := (C3.out.cell (p := ⟨b, off + k * 5 + 3, none⟩) HBL.out).trans E3.out
            have e4 := (C3.out.cell (p := ⟨b, off + k * 5 + 4, none⟩) HBL.out).trans E4.out
            have f3 := F3.out
            have f4 := F4.out
            have HH := Lib.hid (specHasB tv ts y w3 (slR_ints (slR_below tInt_law HTS.out (cw.out.trans (C3.out.mono cw.out.size)))) hnt)
            go_wp2_with fail
            refine HH.out.mono ?_
            rintro e w4 ⟨rfl, c4'⟩
            have C4 := Lib.hid (C3.out.trans (c4'.mono C3.out.size))
            replace f4 := (c4'.cell (p := ⟨br, offr + j, none⟩) HBR.out).trans f4
            clear c4' HH e0 e1 e2 e3 e4 f3
            have e0 := (C4.out.cell (p := ⟨b, off + k * 5, none⟩) HBL.out).trans E0.out
            have e1 := (C4.out.cell (p := ⟨b, off + k * 5 + 1, none⟩) HBL.out).trans E1.out
            have e2 := (C4.out.cell (p := ⟨b, off + k * 5 + 2, none⟩) HBL.out).trans E2.out
            have e3 := (C4.out.cell (p := ⟨b, off + k * 5 + 3, none⟩) HBL.out).trans E3.out
            have e4 := (C4.out.cell (p := ⟨b, off + k * 5 + 4, none⟩) HBL.out).trans E4.out
            rcases Bool.eq_false_or_eq_true (memB ts y) with hm | hm
            · have HZ := Lib.hid (HA1.out hm).1
              have HB := Lib.hid (HA1.out hm).2
              rw [show decide (y ∈ ts) = true from hm]
              clear HA1 HA2 hm
              go_wp2
              go_roundw
              case rel => exact ⟨j + 1, z + rv, true, by omega, by go_num, rfl, rfl, HZ, HB, C4.out⟩
              case measure => simp [intOf]; omega
            · have HZ := Lib.hid (HA2.out hm).1
              have HB := Lib.hid (HA2.out hm).2
              rw [show decide (y ∈ ts) = false from hm]
              clear HA1 HA2 hm
              go_wp2
              go_roundw
              case rel => exact ⟨j + 1, z, bb, by omega, by go_num, rfl, rfl, HZ, HB, C4.out⟩
              case measure => simp [intOf]; omega
          · obtain rfl : j = x2.length := by omega
            cases bb with
            | true =>
              have HZ : Hid (z + ba = totalTo (coX (memB ts)) l (k + 1)) := Lib.hid (by rw [← HYES.out hbb.out.symm, ← hz.out])
              clear hz hbb HYES HNO
              have e0 := (CJ.out.cell (p := ⟨b, off + k * 5, none⟩) HBL.out).trans E0.out
              have e1 := (CJ.out.cell (p := ⟨b, off + k * 5 + 1, none⟩) HBL.out).trans E1.out
              have e2 := (CJ.out.cell (p := ⟨b, off + k * 5 + 2, none⟩) HBL.out).trans E2.out
              have e3 := (CJ.out.cell (p := ⟨b, off + k * 5 + 3, none⟩) HBL.out).trans E3.out
              have e4 := (CJ.out.cell (p := ⟨b, off + k * 5 + 4, none⟩) HBL.out).trans E4.out
              go_wp2
              go_roundw
              case rel => exact ⟨k + 1, z + ba, by omega, by go_num, rfl, HZ, cw.out.trans (CJ.out.mono cw.out.size)⟩
              case measure => simp [intOf]; omega
            | false =>
              have HZ : Hid (z = totalTo (coX (memB ts)) l (k + 1)) := Lib.hid (by rw [← HNO.out hbb.out.symm, hz.out, anyTo_none (x := (sg, ba, x2, x3, x4)) hbb.out.symm]; exact Int.add_zero s)
              clear hz hbb HYES HNO
              have e0 := (CJ.out.cell (p := ⟨b, off + k * 5, none⟩) HBL.out).trans E0.out
              have e1 := (CJ.out.cell (p := ⟨b, off + k * 5 + 1, none⟩) HBL.out).trans E1.out
              have e2 := (CJ.out.cell (p := ⟨b, off + k * 5 + 2, none⟩) HBL.out).trans E2.out
              have e3 := (CJ.out.cell (p := ⟨b, off + k * 5 + 3, none⟩) HBL.out).trans E3.out
              have e4 := (CJ.out.cell (p := ⟨b, off + k * 5 + 4, none⟩) HBL.out).trans E4.out
              go_wp2
              go_roundw
              case rel => exact ⟨k + 1, z, by omega, by go_num, rfl, HZ, cw.out.trans (CJ.out.mono cw.out.size)⟩
              case measure => simp [intOf]; omega
      · have HCH := Lib.hid hch
        have HZ : Hid (s = totalTo (coX (memB ts)) l (k + 1)) := Lib.hid (by rw [← HN.out, coX_no1 hch]; exact (Int.add_zero s).symm)
        clear hch HN
        have d0 := Lib.hid (Below.refl wo.heap.size wo)
        have e0 := (d0.out.cell (p := ⟨b, off + k * 5, none⟩) HBL.out).trans E0.out
        have e1 := (d0.out.cell (p := ⟨b, off + k * 5 + 1, none⟩) HBL.out).trans E1.out
        have e2 := (d0.out.cell (p := ⟨b, off + k * 5 + 2, none⟩) HBL.out).trans E2.out
        have e3 := (d0.out.cell (p := ⟨b, off + k * 5 + 3, none⟩) HBL.out).trans E3.out
        have e4 := (d0.out.cell (p := ⟨b, off + k * 5 + 4, none⟩) HBL.out).trans E4.out
        go_wp2
        clear e0 e1 e2 e3 e4
        go_loopw [5, 7, 8] (fun n th i wi => i = .int .i64 0 ∧ n = .int .i64 s ∧ th = .bool false ∧ Below wo.heap.size wo wi) (fun _ _ i _ => x2.length - (intOf i).toNat)
        case atStart => exact ⟨rfl, rfl, rfl, Below.refl _ _⟩
        case round =>
          obtain ⟨rfl, rfl, rfl, cj⟩ := hrel
          by_cases hj : 0 < x2.length
          · have i3 : (0 : Int) < (x2.length : Int) := by omega
            clear hj
            have e0 := (cj.cell (p := ⟨b, off + k * 5, none⟩) HBL.out).trans E0.out
            have e1 := (cj.cell (p := ⟨b, off + k * 5 + 1, none⟩) HBL.out).trans E1.out
            have e2 := (cj.cell (p := ⟨b, off + k * 5 + 2, none⟩) HBL.out).trans E2.out
            have e3 := (cj.cell (p := ⟨b, off + k * 5 + 3, none⟩) HBL.out).trans E3.out
            have e4 := (cj.cell (p := ⟨b, off + k * 5 + 4, none⟩) HBL.out).trans E4.out
            have CJ := Lib.hid cj
            clear cj
            go_wp2_with fail
            clear e0 e1 e2 e3 e4
            refine (specIsCharge sg ba (.slice p2 x2.length c2) (.slice p3 x3.length c3) (.slice p4 x4.length c4) x2 x3 x4 wr (slR_below tInt_law S2.out CJ.out) (slR_below tInt_law S3.out CJ.out) (slR_below tInt_law S4.out CJ.out) n2 n3 n4).mono ?_
            rintro e w3 ⟨rfl, c3⟩
            rw [HCH.out]
            have C3 := Lib.hid (CJ.out.trans (c3.mono CJ.out.size))
            clear c3
            have e0 := (C3.out.cell (p := ⟨b, off + k * 5, none⟩) HBL.out).trans E0.out
            have e1 := (C3.out.cell (p := ⟨b, off + k * 5 + 1, none⟩) HBL.out).trans E1.out
            have e2 := (C3.out.cell (p := ⟨b, off + k * 5 + 2, none⟩) HBL.out).trans E2.out
            have e3 := (C3.out.cell (p := ⟨b, off + k * 5 + 3, none⟩) HBL.out).trans E3.out
            have e4 := (C3.out.cell (p := ⟨b, off + k * 5 + 4, none⟩) HBL.out).trans E4.out
            go_wp2
            go_roundw
            case rel => exact ⟨k + 1, s, by omega, by go_num, rfl, HZ, cw.out.trans (C3.out.mono cw.out.size)⟩
            case measure => simp [intOf]; omega
          · have i3 : decide ((0 : Int) < (x2.length : Int)) = false := decide_eq_false (by omega)
            have i4 : decide (0 < x2.length) = false := decide_eq_false hj
            clear hj
            have e0 := (cj.cell (p := ⟨b, off + k * 5, none⟩) HBL.out).trans E0.out
            have e1 := (cj.cell (p := ⟨b, off + k * 5 + 1, none⟩) HBL.out).trans E1.out
            have e2 := (cj.cell (p := ⟨b, off + k * 5 + 2, none⟩) HBL.out).trans E2.out
            have e3 := (cj.cell (p := ⟨b, off + k * 5 + 3, none⟩) HBL.out).trans E3.out
            have e4 := (cj.cell (p := ⟨b, off + k * 5 + 4, none⟩) HBL.out).trans E4.out
            have C3 := Lib.hid cj
            clear cj
            go_wp2
            go_roundw
            case rel => exact ⟨k + 1, s, by omega, by go_num, rfl, HZ, cw.out.trans (C3.out.mono cw.out.size)⟩
            case measure => simp [intOf]; omega
    · obtain rfl : k = l.length := by omega
      have HT : Hid (s = totalL (coX (memB ts)) l) := Lib.hid hsum.out
      clear hsum c
      go_wp2
      go_ret
      exact ⟨ret_n HT.out, cw.out⟩
end Go.Proofs.YtjeaimdnddelpaaDoor
namespace Go.Proofs.YtjeaimdnddelpaaDoor
open Go.RowKit
set_option linter.unusedVariables false
set_option linter.unusedSimpArgs false
set_option maxHeartbeats 8000000 in
set_option maxRecDepth 100000 in
theorem implWorkDone (sg ba : Int) (v2 v3 v4 : Value) (x2 x3 x4 : List Int) (w : World) (h2 : SlR tInt w v2 x2) (h3 : SlR tInt w v3 x3) (h4 : SlR tInt w v4 x4) (s2 : zL tInt x2 ≤ 1048576) (s3 : zL tInt x3 ≤ 1048576) (s4 : zL tInt x4 ≤ 1048576) :
    Calls Tryd.prog 11 #[.agg #[.int .i64 sg, .int .i64 ba, v2, v3, v4]] w (fun e w' => e = .returned (.int .i64 (workX (sg, ba, x2, x3, x4))) ∧ Below w.heap.size w w') := by
  obtain ⟨p2, c2, rfl⟩ := slR_len h2
  have H2 := Lib.hid h2
  obtain ⟨p3, c3, rfl⟩ := slR_len h3
  have H3 := Lib.hid h3
  obtain ⟨p4, c4, rfl⟩ := slR_len h4
  have H4 := Lib.hid h4
  clear h2 h3 h4
  have S2 := Lib.hid s2; have S3 := Lib.hid s3; have S4 := Lib.hid s4; have n2 := zL_len s2; have n3 := zL_len s3; have n4 := zL_len s4
  clear s2 s3 s4
  have d := Lib.hid (show Below w.heap.size w (w.alloc (.cells #[.int .i64 sg, .int .i64 ba, .slice p2 x2.length c2, .slice p3 x3.length c3, .slice p4 x4.length c4] 26)) from ((Below.refl _ w).alloc (Nat.le_refl _) _))
  have B0 : Hid ((w.alloc (.cells #[.int .i64 sg, .int .i64 ba, .slice p2 x2.length c2, .slice p3 x3.length c3, .slice p4 x4.length c4] 26)).heap[w.heap.size]? = some (.cells #[.int .i64 sg, .int .i64 ba, .slice p2 x2.length c2, .slice p3 x3.length c3, .slice p4 x4.length c4] 26 (0, 0))) := Lib.hid (by
    exact heap_alloc_new w _)
  have YW : Hid (w.heap.size + 1 ≤ (w.alloc (.cells #[.int .i64 sg, .int .i64 ba, .slice p2 x2.length c2, .slice p3 x3.length c3, .slice p4 x4.length c4] 26)).heap.size) := Lib.hid (by simp [World.size_alloc])
  go_enter Tryd.func11, Tryd.ntmps11
  go_wp2_with fail
  generalize (w.alloc (.cells #[.int .i64 sg, .int .i64 ba, .slice p2 x2.length c2, .slice p3 x3.length c3, .slice p4 x4.length c4] 26)) = W at *
  refine (implIsCharge sg ba (.slice p2 x2.length c2) (.slice p3 x3.length c3) (.slice p4 x4.length c4) x2 x3 x4 W (slR_below tInt_law H2.out d.out) (slR_below tInt_law H3.out d.out) (slR_below tInt_law H4.out d.out) S2.out S3.out S4.out).mono ?_
  rintro e W1 ⟨rfl, c⟩
  replace B0 := Lib.hid ((c.block w.heap.size (Array.getElem?_eq_some_iff.1 B0.out).1).trans B0.out)
  replace d := Lib.hid (d.out.trans (c.mono d.out.size))
  have Z_W1 := Lib.hid (show W.heap.size ≤ W1.heap.size from c.size)
  clear c
  rcases Bool.eq_false_or_eq_true (chargeB (sg, ba, x2, x3, x4)) with hch | hch
  rotate_left
  · rw [hch]
    have HF := Lib.hid (workX_no hch)
    clear hch
    have p_B0_0 := (cell_of_row W1 _ 0 _ _ _ B0.out).trans (show _ = some (Value.int .i64 sg) from rfl)
    have p_B0_1 := (cell_of_row W1 _ 1 _ _ _ B0.out).trans (show _ = some (Value.int .i64 ba) from rfl)
    have p_B0_2 := (cell_of_row W1 _ 2 _ _ _ B0.out).trans (show _ = some (Value.slice p2 x2.length c2) from rfl)
    have p_B0_3 := (cell_of_row W1 _ 3 _ _ _ B0.out).trans (show _ = some (Value.slice p3 x3.length c3) from rfl)
    have p_B0_4 := (cell_of_row W1 _ 4 _ _ _ B0.out).trans (show _ = some (Value.slice p4 x4.length c4) from rfl)
    go_wp2
    clear p_B0_0 p_B0_1 p_B0_2 p_B0_3 p_B0_4
    go_ret
    exact ⟨ret_n HF.out.symm, d.out⟩
  rw [hch]
  have HCH := Lib.hid hch
  have HP := Lib.hid (charge_iff hch).2.1
  clear hch
  have p_B0_0 := (cell_of_row W1 _ 0 _ _ _ B0.out).trans (show _ = some (Value.int .i64 sg) from rfl)
  have p_B0_1 := (cell_of_row W1 _ 1 _ _ _ B0.out).trans (show _ = some (Value.int .i64 ba) from rfl)
  have p_B0_2 := (cell_of_row W1 _ 2 _ _ _ B0.out).trans (show _ = some (Value.slice p2 x2.length c2) from rfl)
  have p_B0_3 := (cell_of_row W1 _ 3 _ _ _ B0.out).trans (show _ = some (Value.slice p3 x3.length c3) from rfl)
  have p_B0_4 := (cell_of_row W1 _ 4 _ _ _ B0.out).trans (show _ = some (Value.slice p4 x4.length c4) from rfl)
  go_wp2
  go_loop [3, 14] (fun n i => ∃ (k : Nat) (s : Int), k ≤ x4.length ∧ i = .int .i64 k ∧ n = .int .i64 s ∧ Hid (s = ba + accN (rowI (sg, ba, x2, x3, x4)) k)) (fun _ i => x4.length - (intOf i).toNat)
  case atStart => exact ⟨0, ba, Nat.zero_le _, rfl, rfl, Lib.hid (Int.add_zero ba).symm⟩
  case round =>
    obtain ⟨k, s, hk, rfl, rfl, hs⟩ := hrel
    have s1 : 0 ≤ s ∧ s ≤ 100 := by
      have q1 := rows_sum HCH.out hk
      have q2 := HP.out
      have q3 := hs.out
      obtain ⟨⟨_, q4⟩, ⟨_, q5⟩, _, q6, q7⟩ := q2
      simp only at q4 q5 q6 q7 q1 hk
      omega
    obtain ⟨s1, s2⟩ := s1
    by_cases hlt : k < x4.length
    · have i1 : (0 : Int) ≤ (k : Int) := by omega
      have i2 : (k : Int) < (x4.length : Int) := by omega
      have HY := chg_row (x := (sg, ba, x2, x3, x4)) HCH.out hlt
      have hba : ba ≤ 4 := HP.out.2.2.2.2
      have HN : Hid (s + x4.getD k 0 = ba + accN (rowI (sg, ba, x2, x3, x4)) (k + 1)) := Lib.hid (by
        have := hs.out
        show s + x4.getD k 0 = ba + (accN (rowI (sg, ba, x2, x3, x4)) k + x4.getD k 0)
        omega)
      simp only at HY
      obtain ⟨y1, y2⟩ := HY
      clear hs
      obtain ⟨be0, offe0, cape0, hv, hbl, hc⟩ := ints_cell (slR_ints (slR_below tInt_law H4.out d.out)) (by omega)
      simp only [Value.slice.injEq] at hv
      obtain ⟨rfl, _, rfl⟩ := hv
      have e0 := hc k (by omega)
      clear hc hbl
      generalize x4.getD k 0 = y at *
      have y3 : y ≤ 100 := by omega
      clear y2 hba
      go_wp2
      go_round
      case rel => exact ⟨k + 1, s + y, by omega, by go_num, rfl, HN⟩
      case measure => simp [intOf]; omega
    · obtain rfl : k = x4.length := by omega
      have HT : Hid (s = workX (sg, ba, x2, x3, x4)) := Lib.hid (by rw [workX_yes HCH.out]; exact hs.out)
      clear hs
      go_wp2
      go_ret
      exact ⟨ret_n HT.out, d.out⟩
end Go.Proofs.YtjeaimdnddelpaaDoor
namespace Go.Proofs.YtjeaimdnddelpaaDoor
open Go.RowKit
set_option linter.unusedVariables false
set_option linter.unusedSimpArgs false
set_option maxHeartbeats 8000000 in
set_option maxRecDepth 100000 in
theorem divClos (i q r : Int) (g h : Nat) (w : World) (hq : 0 ≤ q ∧ q ≤ 4) (hg : w.heap[g]? = some (.cells #[.int .i64 q] 3 (0, 0))) (hh : w.heap[h]? = some (.cells #[.int .i64 r] 3 (0, 0))) :
    Calls Tryd.prog 47 #[.int .i64 i, .pointer (some ⟨h, 0, none⟩), .pointer (some ⟨g, 0, none⟩)] w (fun e w' => e = .returned (.int .i64 (shB q r i)) ∧ Below w.heap.size w w') := by
  have cg := (cell_of_row w _ 0 _ _ _ hg).trans (show _ = some (Value.int .i64 q) from rfl)
  have ch := (cell_of_row w _ 0 _ _ _ hh).trans (show _ = some (Value.int .i64 r) from rfl)
  have d := Lib.hid (Below.refl w.heap.size w)
  obtain ⟨q1, q2⟩ := hq
  clear hg hh
  by_cases hlt : i < r
  · have HF := Lib.hid (shB_yes (q := q) hlt)
    have f1 : decide (i < r) = true := decide_eq_true hlt
    clear hlt
    go_enter Tryd.func47, Tryd.ntmps47
    go_wp2
    go_ret
    exact ⟨ret_n HF.out.symm, d.out⟩
  · have HF := Lib.hid (shB_no (q := q) hlt)
    have f1 : decide (i < r) = false := decide_eq_false hlt
    clear hlt
    go_enter Tryd.func47, Tryd.ntmps47
    go_wp2
    go_ret
    exact ⟨ret_n HF.out.symm, d.out⟩
/-- The closure of the shares, and what it captured. -/
def DivFn (w : World) (q r : Int) (e : Ending) (w' : World) : Prop := ∃ g h : Nat, e = .returned (.func (.func 47) #[] #[.pointer (some ⟨h, 0, none⟩), .pointer (some ⟨g, 0, none⟩)]) ∧ w'.heap[g]? = some (.cells #[.int .i64 q] 3 (0, 0)) ∧ w'.heap[h]? = some (.cells #[.int .i64 r] 3 (0, 0)) ∧ Below w.heap.size w w'
set_option maxHeartbeats 8000000 in
set_option maxRecDepth 100000 in
theorem divideBase_any (sg ba : Int) (v2 v3 v4 : Value) (x2 x3 x4 : List Int) (w : World) (h2 : SlR tInt w v2 x2) (h3 : SlR tInt w v3 x3) (h4 : SlR tInt w v4 x4) (s2 : zL tInt x2 ≤ 1048576) (s3 : zL tInt x3 ≤ 1048576) (s4 : zL tInt x4 ≤ 1048576) (hch : chargeB (sg, ba, x2, x3, x4) = true) :
    Calls Tryd.prog 28 #[.agg #[.int .i64 sg, .int .i64 ba, v2, v3, v4]] w (DivFn w (ba / (x2.length : Int)) (ba % (x2.length : Int))) := by
  obtain ⟨p2, c2, rfl⟩ := slR_len h2
  have H2 := Lib.hid h2
  obtain ⟨p3, c3, rfl⟩ := slR_len h3
  have H3 := Lib.hid h3
  obtain ⟨p4, c4, rfl⟩ := slR_len h4
  have H4 := Lib.hid h4
  clear h2 h3 h4
  have S2 := Lib.hid s2; have S3 := Lib.hid s3; have S4 := Lib.hid s4
  have n2 := zL_len s2; have n3 := zL_len s3; have n4 := zL_len s4
  clear s2 s3 s4
  have HP := Lib.hid (charge_iff hch).2.1
  have hba : 0 ≤ ba ∧ ba ≤ 4 := HP.out.2.2.2
  have hl8 : 1 ≤ x2.length ∧ x2.length ≤ 8 := HP.out.1
  have hdv := base_div (x := (sg, ba, x2, x3, x4)) hch
  dsimp only at hdv
  have t1 : ba.tdiv (x2.length : Int) = ba / (x2.length : Int) := Int.tdiv_eq_ediv_of_nonneg hba.1
  have t2 : ba.tmod (x2.length : Int) = ba % (x2.length : Int) := Int.tmod_eq_emod_of_nonneg hba.1
  generalize ba / (x2.length : Int) = q at *
  generalize ba % (x2.length : Int) = r at *
  obtain ⟨q1, q2, r1, r2⟩ := hdv
  obtain ⟨a1, a2⟩ := hba
  obtain ⟨l1, l2⟩ := hl8
  have T1 := Lib.hid t1; have T2 := Lib.hid t2
  have HMF : Hid (∀ (fn : Fn) (first cap : Array Value) (w : World), (Instr.makeFunc fn first cap).run Tryd.prog w = .ok (.func fn first cap) w) := Lib.hid (fun _ _ _ _ => rfl)
  clear t1 t2 hch
  have d := Lib.hid (show Below w.heap.size w (w.alloc (.cells #[.int .i64 sg, .int .i64 ba, .slice p2 x2.length c2, .slice p3 x3.length c3, .slice p4 x4.length c4] 26)) from ((Below.refl _ w).alloc (Nat.le_refl _) _))
  have B0 : Hid ((w.alloc (.cells #[.int .i64 sg, .int .i64 ba, .slice p2 x2.length c2, .slice p3 x3.length c3, .slice p4 x4.length c4] 26)).heap[w.heap.size]? = some (.cells #[.int .i64 sg, .int .i64 ba, .slice p2 x2.length c2, .slice p3 x3.length c3, .slice p4 x4.length c4] 26 (0, 0))) := Lib.hid (by
    exact heap_alloc_new w _)
  have YW : Hid (w.heap.size + 1 ≤ (w.alloc (.cells #[.int .i64 sg, .int .i64 ba, .slice p2 x2.length c2, .slice p3 x3.length c3, .slice p4 x4.length c4] 26)).heap.size) := Lib.hid (by simp [World.size_alloc])
  go_enter Tryd.func28, Tryd.ntmps28
  go_wp2
  generalize (w.alloc (.cells #[.int .i64 sg, .int .i64 ba, .slice p2 x2.length c2, .slice p3 x3.length c3, .slice p4 x4.length c4] 26)) = W at *
  have g1 := T1.out; have g2 := T2.out
  have g3 : IntKind.i64.wrap q = q := IntWalk.i64_in _ (by omega)
  have g4 : ((x2.length : Int) == 0) = false := by rw [beq_eq_false_iff_ne]; omega
  have g5 : ¬ (x2.length : Int) = 0 := by omega
  have g6 : ¬ x2 = [] := fun h => by rw [h] at l1; simp at l1
  have g7 : IntKind.i64.wrap r = r := IntWalk.i64_in _ (by omega)
  have p_B0_0 := (cell_of_row W _ 0 _ _ _ B0.out).trans (show _ = some (Value.int .i64 sg) from rfl)
  have p_B0_1 := (cell_of_row W _ 1 _ _ _ B0.out).trans (show _ = some (Value.int .i64 ba) from rfl)
  have p_B0_2 := (cell_of_row W _ 2 _ _ _ B0.out).trans (show _ = some (Value.slice p2 x2.length c2) from rfl)
  have p_B0_3 := (cell_of_row W _ 3 _ _ _ B0.out).trans (show _ = some (Value.slice p3 x3.length c3) from rfl)
  have p_B0_4 := (cell_of_row W _ 4 _ _ _ B0.out).trans (show _ = some (Value.slice p4 x4.length c4) from rfl)
  refine wp_region_held_drew (S := fun w' => w'.cell? ⟨w.heap.size, 0, none⟩ = some (Value.int .i64 sg) ∧ w'.cell? ⟨w.heap.size, 1, none⟩ = some (Value.int .i64 ba) ∧ w'.cell? ⟨w.heap.size, 2, none⟩ = some (Value.slice p2 x2.length c2) ∧ w'.cell? ⟨w.heap.size, 3, none⟩ = some (Value.slice p3 x3.length c3) ∧ w'.cell? ⟨w.heap.size, 4, none⟩ = some (Value.slice p4 x4.length c4)) (by kernel_rfl) ⟨p_B0_0, p_B0_1, p_B0_2, p_B0_3, p_B0_4⟩ (fun hHeld => ?_)
  clear p_B0_0 p_B0_1 p_B0_2 p_B0_3 p_B0_4
  have cdr : Below W.heap.size W W.drew := below_drew (Below.refl _ _)
  replace B0 := Lib.hid ((cdr.block w.heap.size (Array.getElem?_eq_some_iff.1 B0.out).1).trans B0.out)
  replace d := Lib.hid (d.out.trans (cdr.mono d.out.size))
  clear cdr
  have Z_dr := Lib.hid (show W.heap.size ≤ W.drew.heap.size from Nat.le_refl _)
  generalize W.drew = Wd at *
  refine take_runs (i := 0) (v := ?_) (by simp only [List.getElem?_toArray, List.getElem?_cons_succ, List.getElem?_cons_zero]; rfl) (by kernel_rfl) (by kernel_rfl) (by kernel_rfl) rfl (by exact fun _ _ _ h => h) (by rfl) ?_ (by assumption) ?_
  rotate_left
  · intro w hSw; (try dsimp only at hSw); go_simp; try (with_reducible rfl)
  try simp only [Act.put, List.setIfInBounds_toArray, List.set_cons_zero, List.set_cons_succ]
  refine take_runs (i := 1) (v := ?_) (by simp only [List.getElem?_toArray, List.getElem?_cons_succ, List.getElem?_cons_zero]; rfl) (by kernel_rfl) (by kernel_rfl) (by kernel_rfl) rfl (by exact fun _ _ _ h => h) (by rfl) ?_ (by assumption) ?_
  rotate_left
  · intro w hSw; (try dsimp only at hSw); go_simp; try (with_reducible rfl)
  try simp only [Act.put, List.setIfInBounds_toArray, List.set_cons_zero, List.set_cons_succ]
  refine take_runs (i := 2) (v := ?_) (by simp only [List.getElem?_toArray, List.getElem?_cons_succ, List.getElem?_cons_zero]; rfl) (by kernel_rfl) (by kernel_rfl) (by kernel_rfl) rfl (by exact fun _ _ _ h => h) (by rfl) ?_ (by assumption) ?_
  rotate_left
  · intro w hSw; (try dsimp only at hSw); go_simp; try (with_reducible rfl)
  try simp only [Act.put, List.setIfInBounds_toArray, List.set_cons_zero, List.set_cons_succ]
  refine take_runs (i := 3) (v := ?_) (by simp only [List.getElem?_toArray, List.getElem?_cons_succ, List.getElem?_cons_zero]; rfl) (by kernel_rfl) (by kernel_rfl) (by kernel_rfl) rfl (by exact fun _ _ _ h => h) (by rfl) ?_ (by assumption) ?_
  rotate_left
  · intro w hSw; (try dsimp only at hSw); go_simp; try (with_reducible rfl)
  try simp only [Act.put, List.setIfInBounds_toArray, List.set_cons_zero, List.set_cons_succ]
  refine take_runs (i := 4) (v := ?_) (by simp only [List.getElem?_toArray, List.getElem?_cons_succ, List.getElem?_cons_zero]; rfl) (by kernel_rfl) (by kernel_rfl) (by kernel_rfl) rfl (by exact fun _ _ _ h => h) (by rfl) ?_ (by assumption) ?_
  rotate_left
  · intro w hSw; (try dsimp only at hSw); go_simp; try (with_reducible rfl)
  try simp only [Act.put, List.setIfInBounds_toArray, List.set_cons_zero, List.set_cons_succ]
  refine take_runs (i := 5) (v := ?_) (by simp only [List.getElem?_toArray, List.getElem?_cons_succ, List.getElem?_cons_zero]; rfl) (by kernel_rfl) (by kernel_rfl) (by kernel_rfl) rfl (by exact fun _ _ _ h => h) (by rfl) ?_ (by assumption) ?_
  rotate_left
  · intro w hSw; (try dsimp only at hSw); go_simp; try (with_reducible rfl)
  try simp only [Act.put, List.setIfInBounds_toArray, List.set_cons_zero, List.set_cons_succ]
  refine take_runs (i := 6) (v := ?_) (by simp only [List.getElem?_toArray, List.getElem?_cons_succ, List.getElem?_cons_zero]; rfl) (by kernel_rfl) (by kernel_rfl) (by kernel_rfl) rfl (by exact fun _ _ _ h => h) (by rfl) ?_ (by assumption) ?_
  rotate_left
  · intro w hSw; (try dsimp only at hSw); go_simp; try (with_reducible rfl)
  try simp only [Act.put, List.setIfInBounds_toArray, List.set_cons_zero, List.set_cons_succ]
  refine take_runs (i := 7) (v := ?_) (by simp only [List.getElem?_toArray, List.getElem?_cons_succ, List.getElem?_cons_zero]; rfl) (by kernel_rfl) (by kernel_rfl) (by kernel_rfl) rfl (by exact fun _ _ _ h => h) (by rfl) ?_ (by assumption) ?_
  rotate_left
  · intro w hSw; (try dsimp only at hSw); go_simp; try (with_reducible rfl)
  try simp only [Act.put, List.setIfInBounds_toArray, List.set_cons_zero, List.set_cons_succ]
  refine wpAnyH_ready (rs := [8, 9]) (by kernel_rfl) (by simp) ?_
  refine (AllReadyH.cons (o := _) (by simp only [List.getElem?_toArray, List.getElem?_cons_succ, List.getElem?_cons_zero]; rfl) (fun K hK => ?_) (AllReadyH.cons (o := _) (by simp only [List.getElem?_toArray, List.getElem?_cons_succ, List.getElem?_cons_zero]; rfl) (fun K hK => ?_) AllReadyH.nil))
  · go_simp
    have hal : Below Wd.heap.size Wd (Wd.alloc (.cells #[.int .i64 0] 3)) := (Below.refl _ _).alloc (Nat.le_refl _) _
    have Xg := Lib.hid (heap_alloc_new Wd (.cells #[.int .i64 0] 3))
    have Yg := Lib.hid (show Wd.heap.size < (Wd.alloc (.cells #[.int .i64 0] 3)).heap.size by simp [World.size_alloc])
    replace B0 := Lib.hid ((hal.block w.heap.size (Array.getElem?_eq_some_iff.1 B0.out).1).trans B0.out)
    replace d := Lib.hid (d.out.trans (hal.mono d.out.size))
    clear hal
    generalize (Wd.alloc (.cells #[.int .i64 0] 3)) = v1 at *
    have p_B0_0 := (cell_of_row v1 _ 0 _ _ _ B0.out).trans (show _ = some (Value.int .i64 sg) from rfl)
    have p_B0_1 := (cell_of_row v1 _ 1 _ _ _ B0.out).trans (show _ = some (Value.int .i64 ba) from rfl)
    have p_B0_2 := (cell_of_row v1 _ 2 _ _ _ B0.out).trans (show _ = some (Value.slice p2 x2.length c2) from rfl)
    have p_B0_3 := (cell_of_row v1 _ 3 _ _ _ B0.out).trans (show _ = some (Value.slice p3 x3.length c3) from rfl)
    have p_B0_4 := (cell_of_row v1 _ 4 _ _ _ B0.out).trans (show _ = some (Value.slice p4 x4.length c4) from rfl)
    refine hK.out _ _ ⟨p_B0_0, p_B0_1, p_B0_2, p_B0_3, p_B0_4⟩ (fun hHeld => ?_)
    clear p_B0_0 p_B0_1 p_B0_2 p_B0_3 p_B0_4
    clear hK K
    try simp only [Act.put, List.setIfInBounds_toArray, List.set_cons_zero, List.set_cons_succ]
    refine wpAnyH_ready (rs := [9]) (by kernel_rfl) (by simp) ?_
    refine (AllReadyH.cons (o := _) (by simp only [List.getElem?_toArray, List.getElem?_cons_succ, List.getElem?_cons_zero]; rfl) (fun K hK => ?_) AllReadyH.nil)
    go_simp
    have hal : Below v1.heap.size v1 (v1.alloc (.cells #[.int .i64 0] 3)) := (Below.refl _ _).alloc (Nat.le_refl _) _
    have Xh := Lib.hid (heap_alloc_new v1 (.cells #[.int .i64 0] 3))
    have Yh := Lib.hid (show v1.heap.size < (v1.alloc (.cells #[.int .i64 0] 3)).heap.size by simp [World.size_alloc])
    replace B0 := Lib.hid ((hal.block w.heap.size (Array.getElem?_eq_some_iff.1 B0.out).1).trans B0.out)
    replace Xg := Lib.hid ((hal.block Wd.heap.size (Array.getElem?_eq_some_iff.1 Xg.out).1).trans Xg.out)
    replace d := Lib.hid (d.out.trans (hal.mono d.out.size))
    clear hal
    generalize (v1.alloc (.cells #[.int .i64 0] 3)) = v2 at *
    have p_B0_0 := (cell_of_row v2 _ 0 _ _ _ B0.out).trans (show _ = some (Value.int .i64 sg) from rfl)
    have p_B0_1 := (cell_of_row v2 _ 1 _ _ _ B0.out).trans (show _ = some (Value.int .i64 ba) from rfl)
    have p_B0_2 := (cell_of_row v2 _ 2 _ _ _ B0.out).trans (show _ = some (Value.slice p2 x2.length c2) from rfl)
    have p_B0_3 := (cell_of_row v2 _ 3 _ _ _ B0.out).trans (show _ = some (Value.slice p3 x3.length c3) from rfl)
    have p_B0_4 := (cell_of_row v2 _ 4 _ _ _ B0.out).trans (show _ = some (Value.slice p4 x4.length c4) from rfl)
    refine hK.out _ _ ⟨p_B0_0, p_B0_1, p_B0_2, p_B0_3, p_B0_4⟩ (fun hHeld => ?_)
    clear p_B0_0 p_B0_1 p_B0_2 p_B0_3 p_B0_4
    clear hK K
    try simp only [Act.put, List.setIfInBounds_toArray, List.set_cons_zero, List.set_cons_succ]
    refine wpAnyH_ready (rs := [10]) (by kernel_rfl) (by simp) ?_
    refine (AllReadyH.cons (o := _) (by simp only [List.getElem?_toArray, List.getElem?_cons_succ, List.getElem?_cons_zero]; rfl) (fun K hK => ?_) AllReadyH.nil)
    have p_Xg_0 := (cell_of_row v2 _ 0 _ _ _ Xg.out).trans (show _ = some (Value.int .i64 0) from rfl)
    have fz := frozen_of_row v2 _ 0 _ _ Xg.out
    go_simp
    clear fz p_Xg_0
    have y0 := YW.out
    have y1 := Z_dr.out
    have y2 := Yg.out
    have y3 := Yh.out
    have yd := d.out.size
    have tt : Turn (fun b => b = Wd.heap.size) v2 (v2.setCell ⟨Wd.heap.size, 0, none⟩ (.int .i64 q)) := (Turn.refl (fun b => b = Wd.heap.size) v2).trans (turn_set (G := fun b => b = Wd.heap.size) (g := Wd.heap.size) (j := 0) (u := .int .i64 q) rfl)
    have rr := heap_setCell_same v2 (Wd.heap.size) 0 _ _ (.int .i64 q) Xg.out
    simp at rr
    replace B0 := Lib.hid ((tt.block w.heap.size (Array.getElem?_eq_some_iff.1 B0.out).1 (fun h => by omega)).trans B0.out)
    replace Xh := Lib.hid ((tt.block v1.heap.size (Array.getElem?_eq_some_iff.1 Xh.out).1 (fun h => by omega)).trans Xh.out)
    replace d := Lib.hid (below_turn d.out tt (fun b h => by omega) yd)
    replace Xg : Hid ((v2.setCell ⟨Wd.heap.size, 0, none⟩ (.int .i64 q)).heap[Wd.heap.size]? = some (.cells #[.int .i64 q] 3 (0, 0))) := Lib.hid rr
    have Zv3g := Lib.hid (show v2.heap.size ≤ (v2.setCell ⟨Wd.heap.size, 0, none⟩ (.int .i64 q)).heap.size from tt.size)
    clear tt rr yd y0 y1 y2 y3
    generalize (v2.setCell ⟨Wd.heap.size, 0, none⟩ (.int .i64 q)) = v3 at *
    have p_B0_0 := (cell_of_row v3 _ 0 _ _ _ B0.out).trans (show _ = some (Value.int .i64 sg) from rfl)
    have p_B0_1 := (cell_of_row v3 _ 1 _ _ _ B0.out).trans (show _ = some (Value.int .i64 ba) from rfl)
    have p_B0_2 := (cell_of_row v3 _ 2 _ _ _ B0.out).trans (show _ = some (Value.slice p2 x2.length c2) from rfl)
    have p_B0_3 := (cell_of_row v3 _ 3 _ _ _ B0.out).trans (show _ = some (Value.slice p3 x3.length c3) from rfl)
    have p_B0_4 := (cell_of_row v3 _ 4 _ _ _ B0.out).trans (show _ = some (Value.slice p4 x4.length c4) from rfl)
    refine hK.out _ _ ⟨p_B0_0, p_B0_1, p_B0_2, p_B0_3, p_B0_4⟩ (fun hHeld => ?_)
    clear p_B0_0 p_B0_1 p_B0_2 p_B0_3 p_B0_4
    clear hK K
    try simp only [Act.put, List.setIfInBounds_toArray, List.set_cons_zero, List.set_cons_succ]
    refine wpAnyH_ready (rs := [11]) (by kernel_rfl) (by simp) ?_
    refine (AllReadyH.cons (o := _) (by simp only [List.getElem?_toArray, List.getElem?_cons_succ, List.getElem?_cons_zero]; rfl) (fun K hK => ?_) AllReadyH.nil)
    have p_Xh_0 := (cell_of_row v3 _ 0 _ _ _ Xh.out).trans (show _ = some (Value.int .i64 0) from rfl)
    have fz := frozen_of_row v3 _ 0 _ _ Xh.out
    go_simp
    clear fz p_Xh_0
    have y0 := YW.out
    have y1 := Z_dr.out
    have y2 := Yg.out
    have y3 := Yh.out
    have y4 := Zv3g.out
    have yd := d.out.size
    have tt : Turn (fun b => b = v1.heap.size) v3 (v3.setCell ⟨v1.heap.size, 0, none⟩ (.int .i64 r)) := (Turn.refl (fun b => b = v1.heap.size) v3).trans (turn_set (G := fun b => b = v1.heap.size) (g := v1.heap.size) (j := 0) (u := .int .i64 r) rfl)
    have rr := heap_setCell_same v3 (v1.heap.size) 0 _ _ (.int .i64 r) Xh.out
    simp at rr
    replace B0 := Lib.hid ((tt.block w.heap.size (Array.getElem?_eq_some_iff.1 B0.out).1 (fun h => by omega)).trans B0.out)
    replace Xg := Lib.hid ((tt.block Wd.heap.size (Array.getElem?_eq_some_iff.1 Xg.out).1 (fun h => by omega)).trans Xg.out)
    replace d := Lib.hid (below_turn d.out tt (fun b h => by omega) yd)
    replace Xh : Hid ((v3.setCell ⟨v1.heap.size, 0, none⟩ (.int .i64 r)).heap[v1.heap.size]? = some (.cells #[.int .i64 r] 3 (0, 0))) := Lib.hid rr
    have Zv4h := Lib.hid (show v3.heap.size ≤ (v3.setCell ⟨v1.heap.size, 0, none⟩ (.int .i64 r)).heap.size from tt.size)
    clear tt rr yd y0 y1 y2 y3 y4
    generalize (v3.setCell ⟨v1.heap.size, 0, none⟩ (.int .i64 r)) = v4 at *
    have p_B0_0 := (cell_of_row v4 _ 0 _ _ _ B0.out).trans (show _ = some (Value.int .i64 sg) from rfl)
    have p_B0_1 := (cell_of_row v4 _ 1 _ _ _ B0.out).trans (show _ = some (Value.int .i64 ba) from rfl)
    have p_B0_2 := (cell_of_row v4 _ 2 _ _ _ B0.out).trans (show _ = some (Value.slice p2 x2.length c2) from rfl)
    have p_B0_3 := (cell_of_row v4 _ 3 _ _ _ B0.out).trans (show _ = some (Value.slice p3 x3.length c3) from rfl)
    have p_B0_4 := (cell_of_row v4 _ 4 _ _ _ B0.out).trans (show _ = some (Value.slice p4 x4.length c4) from rfl)
    refine hK.out _ _ ⟨p_B0_0, p_B0_1, p_B0_2, p_B0_3, p_B0_4⟩ (fun hHeld => ?_)
    clear p_B0_0 p_B0_1 p_B0_2 p_B0_3 p_B0_4
    clear hK K
    try simp only [Act.put, List.setIfInBounds_toArray, List.set_cons_zero, List.set_cons_succ]
    refine wpAnyH_done (by kernel_rfl) ?_ _
    clear hHeld
    have hmf := HMF.out
    go_wp2
    clear hmf
    go_ret
    exact ⟨_, _, rfl, Xg.out, Xh.out, d.out⟩
  · go_simp
    have hal : Below Wd.heap.size Wd (Wd.alloc (.cells #[.int .i64 0] 3)) := (Below.refl _ _).alloc (Nat.le_refl _) _
    have Xh := Lib.hid (heap_alloc_new Wd (.cells #[.int .i64 0] 3))
    have Yh := Lib.hid (show Wd.heap.size < (Wd.alloc (.cells #[.int .i64 0] 3)).heap.size by simp [World.size_alloc])
    replace B0 := Lib.hid ((hal.block w.heap.size (Array.getElem?_eq_some_iff.1 B0.out).1).trans B0.out)
    replace d := Lib.hid (d.out.trans (hal.mono d.out.size))
    clear hal
    generalize (Wd.alloc (.cells #[.int .i64 0] 3)) = v1 at *
    have p_B0_0 := (cell_of_row v1 _ 0 _ _ _ B0.out).trans (show _ = some (Value.int .i64 sg) from rfl)
    have p_B0_1 := (cell_of_row v1 _ 1 _ _ _ B0.out).trans (show _ = some (Value.int .i64 ba) from rfl)
    have p_B0_2 := (cell_of_row v1 _ 2 _ _ _ B0.out).trans (show _ = some (Value.slice p2 x2.length c2) from rfl)
    have p_B0_3 := (cell_of_row v1 _ 3 _ _ _ B0.out).trans (show _ = some (Value.slice p3 x3.length c3) from rfl)
    have p_B0_4 := (cell_of_row v1 _ 4 _ _ _ B0.out).trans (show _ = some (Value.slice p4 x4.length c4) from rfl)
    refine hK.out _ _ ⟨p_B0_0, p_B0_1, p_B0_2, p_B0_3, p_B0_4⟩ (fun hHeld => ?_)
    clear p_B0_0 p_B0_1 p_B0_2 p_B0_3 p_B0_4
    clear hK K
    try simp only [Act.put, List.setIfInBounds_toArray, List.set_cons_zero, List.set_cons_succ]
    refine wpAnyH_ready (rs := [8]) (by kernel_rfl) (by simp) ?_
    refine (AllReadyH.cons (o := _) (by simp only [List.getElem?_toArray, List.getElem?_cons_succ, List.getElem?_cons_zero]; rfl) (fun K hK => ?_) AllReadyH.nil)
    go_simp
    have hal : Below v1.heap.size v1 (v1.alloc (.cells #[.int .i64 0] 3)) := (Below.refl _ _).alloc (Nat.le_refl _) _
    have Xg := Lib.hid (heap_alloc_new v1 (.cells #[.int .i64 0] 3))
    have Yg := Lib.hid (show v1.heap.size < (v1.alloc (.cells #[.int .i64 0] 3)).heap.size by simp [World.size_alloc])
    replace B0 := Lib.hid ((hal.block w.heap.size (Array.getElem?_eq_some_iff.1 B0.out).1).trans B0.out)
    replace Xh := Lib.hid ((hal.block Wd.heap.size (Array.getElem?_eq_some_iff.1 Xh.out).1).trans Xh.out)
    replace d := Lib.hid (d.out.trans (hal.mono d.out.size))
    clear hal
    generalize (v1.alloc (.cells #[.int .i64 0] 3)) = v2 at *
    have p_B0_0 := (cell_of_row v2 _ 0 _ _ _ B0.out).trans (show _ = some (Value.int .i64 sg) from rfl)
    have p_B0_1 := (cell_of_row v2 _ 1 _ _ _ B0.out).trans (show _ = some (Value.int .i64 ba) from rfl)
    have p_B0_2 := (cell_of_row v2 _ 2 _ _ _ B0.out).trans (show _ = some (Value.slice p2 x2.length c2) from rfl)
    have p_B0_3 := (cell_of_row v2 _ 3 _ _ _ B0.out).trans (show _ = some (Value.slice p3 x3.length c3) from rfl)
    have p_B0_4 := (cell_of_row v2 _ 4 _ _ _ B0.out).trans (show _ = some (Value.slice p4 x4.length c4) from rfl)
    refine hK.out _ _ ⟨p_B0_0, p_B0_1, p_B0_2, p_B0_3, p_B0_4⟩ (fun hHeld => ?_)
    clear p_B0_0 p_B0_1 p_B0_2 p_B0_3 p_B0_4
    clear hK K
    try simp only [Act.put, List.setIfInBounds_toArray, List.set_cons_zero, List.set_cons_succ]
    refine wpAnyH_ready (rs := [10]) (by kernel_rfl) (by simp) ?_
    refine (AllReadyH.cons (o := _) (by simp only [List.getElem?_toArray, List.getElem?_cons_succ, List.getElem?_cons_zero]; rfl) (fun K hK => ?_) AllReadyH.nil)
    have p_Xg_0 := (cell_of_row v2 _ 0 _ _ _ Xg.out).trans (show _ = some (Value.int .i64 0) from rfl)
    have fz := frozen_of_row v2 _ 0 _ _ Xg.out
    go_simp
    clear fz p_Xg_0
    have y0 := YW.out
    have y1 := Z_dr.out
    have y2 := Yh.out
    have y3 := Yg.out
    have yd := d.out.size
    have tt : Turn (fun b => b = v1.heap.size) v2 (v2.setCell ⟨v1.heap.size, 0, none⟩ (.int .i64 q)) := (Turn.refl (fun b => b = v1.heap.size) v2).trans (turn_set (G := fun b => b = v1.heap.size) (g := v1.heap.size) (j := 0) (u := .int .i64 q) rfl)
    have rr := heap_setCell_same v2 (v1.heap.size) 0 _ _ (.int .i64 q) Xg.out
    simp at rr
    replace B0 := Lib.hid ((tt.block w.heap.size (Array.getElem?_eq_some_iff.1 B0.out).1 (fun h => by omega)).trans B0.out)
    replace Xh := Lib.hid ((tt.block Wd.heap.size (Array.getElem?_eq_some_iff.1 Xh.out).1 (fun h => by omega)).trans Xh.out)
    replace d := Lib.hid (below_turn d.out tt (fun b h => by omega) yd)
    replace Xg : Hid ((v2.setCell ⟨v1.heap.size, 0, none⟩ (.int .i64 q)).heap[v1.heap.size]? = some (.cells #[.int .i64 q] 3 (0, 0))) := Lib.hid rr
    have Zv3g := Lib.hid (show v2.heap.size ≤ (v2.setCell ⟨v1.heap.size, 0, none⟩ (.int .i64 q)).heap.size from tt.size)
    clear tt rr yd y0 y1 y2 y3
    generalize (v2.setCell ⟨v1.heap.size, 0, none⟩ (.int .i64 q)) = v3 at *
    have p_B0_0 := (cell_of_row v3 _ 0 _ _ _ B0.out).trans (show _ = some (Value.int .i64 sg) from rfl)
    have p_B0_1 := (cell_of_row v3 _ 1 _ _ _ B0.out).trans (show _ = some (Value.int .i64 ba) from rfl)
    have p_B0_2 := (cell_of_row v3 _ 2 _ _ _ B0.out).trans (show _ = some (Value.slice p2 x2.length c2) from rfl)
    have p_B0_3 := (cell_of_row v3 _ 3 _ _ _ B0.out).trans (show _ = some (Value.slice p3 x3.length c3) from rfl)
    have p_B0_4 := (cell_of_row v3 _ 4 _ _ _ B0.out).trans (show _ = some (Value.slice p4 x4.length c4) from rfl)
    refine hK.out _ _ ⟨p_B0_0, p_B0_1, p_B0_2, p_B0_3, p_B0_4⟩ (fun hHeld => ?_)
    clear p_B0_0 p_B0_1 p_B0_2 p_B0_3 p_B0_4
    clear hK K
    try simp only [Act.put, List.setIfInBounds_toArray, List.set_cons_zero, List.set_cons_succ]
    refine wpAnyH_ready (rs := [11]) (by kernel_rfl) (by simp) ?_
    refine (AllReadyH.cons (o := _) (by simp only [List.getElem?_toArray, List.getElem?_cons_succ, List.getElem?_cons_zero]; rfl) (fun K hK => ?_) AllReadyH.nil)
    have p_Xh_0 := (cell_of_row v3 _ 0 _ _ _ Xh.out).trans (show _ = some (Value.int .i64 0) from rfl)
    have fz := frozen_of_row v3 _ 0 _ _ Xh.out
    go_simp
    clear fz p_Xh_0
    have y0 := YW.out
    have y1 := Z_dr.out
    have y2 := Yh.out
    have y3 := Yg.out
    have y4 := Zv3g.out
    have yd := d.out.size
    have tt : Turn (fun b => b = Wd.heap.size) v3 (v3.setCell ⟨Wd.heap.size, 0, none⟩ (.int .i64 r)) := (Turn.refl (fun b => b = Wd.heap.size) v3).trans (turn_set (G := fun b => b = Wd.heap.size) (g := Wd.heap.size) (j := 0) (u := .int .i64 r) rfl)
    have rr := heap_setCell_same v3 (Wd.heap.size) 0 _ _ (.int .i64 r) Xh.out
    simp at rr
    replace B0 := Lib.hid ((tt.block w.heap.size (Array.getElem?_eq_some_iff.1 B0.out).1 (fun h => by omega)).trans B0.out)
    replace Xg := Lib.hid ((tt.block v1.heap.size (Array.getElem?_eq_some_iff.1 Xg.out).1 (fun h => by omega)).trans Xg.out)
    replace d := Lib.hid (below_turn d.out tt (fun b h => by omega) yd)
    replace Xh : Hid ((v3.setCell ⟨Wd.heap.size, 0, none⟩ (.int .i64 r)).heap[Wd.heap.size]? = some (.cells #[.int .i64 r] 3 (0, 0))) := Lib.hid rr
    have Zv4h := Lib.hid (show v3.heap.size ≤ (v3.setCell ⟨Wd.heap.size, 0, none⟩ (.int .i64 r)).heap.size from tt.size)
    clear tt rr yd y0 y1 y2 y3 y4
    generalize (v3.setCell ⟨Wd.heap.size, 0, none⟩ (.int .i64 r)) = v4 at *
    have p_B0_0 := (cell_of_row v4 _ 0 _ _ _ B0.out).trans (show _ = some (Value.int .i64 sg) from rfl)
    have p_B0_1 := (cell_of_row v4 _ 1 _ _ _ B0.out).trans (show _ = some (Value.int .i64 ba) from rfl)
    have p_B0_2 := (cell_of_row v4 _ 2 _ _ _ B0.out).trans (show _ = some (Value.slice p2 x2.length c2) from rfl)
    have p_B0_3 := (cell_of_row v4 _ 3 _ _ _ B0.out).trans (show _ = some (Value.slice p3 x3.length c3) from rfl)
    have p_B0_4 := (cell_of_row v4 _ 4 _ _ _ B0.out).trans (show _ = some (Value.slice p4 x4.length c4) from rfl)
    refine hK.out _ _ ⟨p_B0_0, p_B0_1, p_B0_2, p_B0_3, p_B0_4⟩ (fun hHeld => ?_)
    clear p_B0_0 p_B0_1 p_B0_2 p_B0_3 p_B0_4
    clear hK K
    try simp only [Act.put, List.setIfInBounds_toArray, List.set_cons_zero, List.set_cons_succ]
    refine wpAnyH_done (by kernel_rfl) ?_ _
    clear hHeld
    have hmf := HMF.out
    go_wp2
    clear hmf
    go_ret
    exact ⟨_, _, rfl, Xg.out, Xh.out, d.out⟩
set_option maxHeartbeats 8000000 in
set_option maxRecDepth 100000 in
theorem implSharesOf (sg ba : Int) (v2 v3 v4 : Value) (x2 x3 x4 : List Int) (w : World) (h2 : SlR tInt w v2 x2) (h3 : SlR tInt w v3 x3) (h4 : SlR tInt w v4 x4) (s2 : zL tInt x2 ≤ 1048576) (s3 : zL tInt x3 ≤ 1048576) (s4 : zL tInt x4 ≤ 1048576) :
    Calls Tryd.prog 6 #[.agg #[.int .i64 sg, .int .i64 ba, v2, v3, v4]] w (FreshInts w (sharesX (sg, ba, x2, x3, x4))) := by
  obtain ⟨p2, c2, rfl⟩ := slR_len h2
  have H2 := Lib.hid h2
  obtain ⟨p3, c3, rfl⟩ := slR_len h3
  have H3 := Lib.hid h3
  obtain ⟨p4, c4, rfl⟩ := slR_len h4
  have H4 := Lib.hid h4
  clear h2 h3 h4
  have S2 := Lib.hid s2; have S3 := Lib.hid s3; have S4 := Lib.hid s4
  have n2 := zL_len s2; have n3 := zL_len s3; have n4 := zL_len s4
  clear s2 s3 s4
  obtain ⟨i0, hi, hz0, hz1, hz2⟩ := info_parts Tryd.infoI64
  have HI := Lib.hid hi; have HZ0 := Lib.hid hz0; have HZ1 := Lib.hid hz1; have HZ2 := Lib.hid hz2
  clear hi hz0 hz1 hz2
  have d := Lib.hid (show Below w.heap.size w (w.alloc (.cells #[.int .i64 sg, .int .i64 ba, .slice p2 x2.length c2, .slice p3 x3.length c3, .slice p4 x4.length c4] 26)) from ((Below.refl _ w).alloc (Nat.le_refl _) _))
  have B0 : Hid ((w.alloc (.cells #[.int .i64 sg, .int .i64 ba, .slice p2 x2.length c2, .slice p3 x3.length c3, .slice p4 x4.length c4] 26)).heap[w.heap.size]? = some (.cells #[.int .i64 sg, .int .i64 ba, .slice p2 x2.length c2, .slice p3 x3.length c3, .slice p4 x4.length c4] 26 (0, 0))) := Lib.hid (by
    exact heap_alloc_new w _)
  have YW : Hid (w.heap.size + 1 ≤ (w.alloc (.cells #[.int .i64 sg, .int .i64 ba, .slice p2 x2.length c2, .slice p3 x3.length c3, .slice p4 x4.length c4] 26)).heap.size) := Lib.hid (by simp [World.size_alloc])
  go_enter Tryd.func6, Tryd.ntmps6
  go_wp2_with fail
  generalize (w.alloc (.cells #[.int .i64 sg, .int .i64 ba, .slice p2 x2.length c2, .slice p3 x3.length c3, .slice p4 x4.length c4] 26)) = W at *
  refine (implIsCharge sg ba (.slice p2 x2.length c2) (.slice p3 x3.length c3) (.slice p4 x4.length c4) x2 x3 x4 W (slR_below tInt_law H2.out d.out) (slR_below tInt_law H3.out d.out) (slR_below tInt_law H4.out d.out) S2.out S3.out S4.out).mono ?_
  rintro e W1 ⟨rfl, c⟩
  replace B0 := Lib.hid ((c.block w.heap.size (Array.getElem?_eq_some_iff.1 B0.out).1).trans B0.out)
  replace d := Lib.hid (d.out.trans (c.mono d.out.size))
  have Z_W1 := Lib.hid (show W.heap.size ≤ W1.heap.size from c.size)
  clear c
  rcases Bool.eq_false_or_eq_true (chargeB (sg, ba, x2, x3, x4)) with hch | hch
  rotate_left
  · rw [hch]
    have HSL := Lib.hid (sharesX_no hch)
    clear hch
    have p_B0_0 := (cell_of_row W1 _ 0 _ _ _ B0.out).trans (show _ = some (Value.int .i64 sg) from rfl)
    have p_B0_1 := (cell_of_row W1 _ 1 _ _ _ B0.out).trans (show _ = some (Value.int .i64 ba) from rfl)
    have p_B0_2 := (cell_of_row W1 _ 2 _ _ _ B0.out).trans (show _ = some (Value.slice p2 x2.length c2) from rfl)
    have p_B0_3 := (cell_of_row W1 _ 3 _ _ _ B0.out).trans (show _ = some (Value.slice p3 x3.length c3) from rfl)
    have p_B0_4 := (cell_of_row W1 _ 4 _ _ _ B0.out).trans (show _ = some (Value.slice p4 x4.length c4) from rfl)
    go_wp2
    clear p_B0_0 p_B0_1 p_B0_2 p_B0_3 p_B0_4
    go_ret
    exact ⟨.slice none 0 0, rfl, (by rw [HSL.out]; exact ownsN_nil _ _), d.out⟩
  rw [hch]
  have HCH := Lib.hid hch
  have HP := Lib.hid (charge_iff hch).2.1
  have hdv := base_div (x := (sg, ba, x2, x3, x4)) hch
  dsimp only at hdv
  have HLN : Hid ((sharesX (sg, ba, x2, x3, x4)).length = x4.length) := Lib.hid (by rw [sharesX_yes hch, sharesTo_len]; exact HP.out.2.1.2.symm)
  have HL4 : Hid (x4.length = x2.length) := Lib.hid HP.out.2.1.2
  have hl8 : x4.length ≤ 8 := by have h1 := HL4.out; have h2 := HP.out.1.2; dsimp only at h2; omega
  have hba : ba ≤ 4 := HP.out.2.2.2.2
  have HSH : Hid (∀ k, k < x4.length → (sharesX (sg, ba, x2, x3, x4)).getD k 0 = x4.getD k 0 + shB (ba / (x2.length : Int)) (ba % (x2.length : Int)) k) := Lib.hid (fun k hk => by rw [shares_getD HCH.out (by have := HL4.out; dsimp only; omega), shareI_eq])
  have HROW : Hid (∀ k, k < x4.length → 0 ≤ x4.getD k 0 ∧ x4.getD k 0 ≤ ba) := Lib.hid (fun k hk => chg_row (x := (sg, ba, x2, x3, x4)) HCH.out hk)
  clear hch
  generalize sharesX (sg, ba, x2, x3, x4) = L at *
  have p_B0_0 := (cell_of_row W1 _ 0 _ _ _ B0.out).trans (show _ = some (Value.int .i64 sg) from rfl)
  have p_B0_1 := (cell_of_row W1 _ 1 _ _ _ B0.out).trans (show _ = some (Value.int .i64 ba) from rfl)
  have p_B0_2 := (cell_of_row W1 _ 2 _ _ _ B0.out).trans (show _ = some (Value.slice p2 x2.length c2) from rfl)
  have p_B0_3 := (cell_of_row W1 _ 3 _ _ _ B0.out).trans (show _ = some (Value.slice p3 x3.length c3) from rfl)
  have p_B0_4 := (cell_of_row W1 _ 4 _ _ _ B0.out).trans (show _ = some (Value.slice p4 x4.length c4) from rfl)
  go_wp2_with fail
  clear p_B0_0 p_B0_1 p_B0_2 p_B0_3 p_B0_4
  refine (divideBase_any sg ba (.slice p2 x2.length c2) (.slice p3 x3.length c3) (.slice p4 x4.length c4) x2 x3 x4 W1 (slR_below tInt_law H2.out d.out) (slR_below tInt_law H3.out d.out) (slR_below tInt_law H4.out d.out) S2.out S3.out S4.out HCH.out).mono ?_
  rintro e W2 ⟨g, h, rfl, hg, hh, c⟩
  generalize ba / (x2.length : Int) = q at *
  generalize ba % (x2.length : Int) = r at *
  have q1 : 0 ≤ q ∧ q ≤ 4 := ⟨hdv.1, hdv.2.1⟩
  clear hdv
  replace B0 := Lib.hid ((c.block w.heap.size (Array.getElem?_eq_some_iff.1 B0.out).1).trans B0.out)
  replace d := Lib.hid (d.out.trans (c.mono d.out.size))
  have Z_W2 := Lib.hid (show W1.heap.size ≤ W2.heap.size from c.size)
  clear c
  have Xg := Lib.hid hg; have Xh := Lib.hid hh
  have Yg := Lib.hid (Array.getElem?_eq_some_iff.1 hg).1; have Yh := Lib.hid (Array.getElem?_eq_some_iff.1 hh).1
  clear hg hh
  have p_B0_0 := (cell_of_row W2 _ 0 _ _ _ B0.out).trans (show _ = some (Value.int .i64 sg) from rfl)
  have p_B0_1 := (cell_of_row W2 _ 1 _ _ _ B0.out).trans (show _ = some (Value.int .i64 ba) from rfl)
  have p_B0_2 := (cell_of_row W2 _ 2 _ _ _ B0.out).trans (show _ = some (Value.slice p2 x2.length c2) from rfl)
  have p_B0_3 := (cell_of_row W2 _ 3 _ _ _ B0.out).trans (show _ = some (Value.slice p3 x3.length c3) from rfl)
  have p_B0_4 := (cell_of_row W2 _ 4 _ _ _ B0.out).trans (show _ = some (Value.slice p4 x4.length c4) from rfl)
  go_wp2_with (at_make; refine wpList_make_full _ rfl (.tmp 14) (.tmp 14) 24 rfl W2.heap.size 3 i0 (.int .i64 0) 1 Tryd.underlying24 HI.out HZ0.out HZ1.out _ _ _ _ x4.length rfl rfl rfl rfl (by rw [HZ2.out]; omega) (by unfold maxLen; omega) (Nat.le_refl _) ?_)
  intro w1 hown0 hg0
  have hown1 := ownsN_made hown0
  have hbel1 := (Below.refl W2.heap.size W2).grown hg0 (Nat.le_refl _) (fun k hk => by cases hk)
  clear hown0 hg0 p_B0_0 p_B0_1 p_B0_2 p_B0_3 p_B0_4
  replace B0 := Lib.hid ((hbel1.block w.heap.size (Array.getElem?_eq_some_iff.1 B0.out).1).trans B0.out)
  replace Xg := Lib.hid ((hbel1.block g (Array.getElem?_eq_some_iff.1 Xg.out).1).trans Xg.out)
  replace Xh := Lib.hid ((hbel1.block h (Array.getElem?_eq_some_iff.1 Xh.out).1).trans Xh.out)
  replace d := Lib.hid (d.out.trans (hbel1.mono d.out.size))
  have Z_w1 := Lib.hid (show W2.heap.size ≤ w1.heap.size from hbel1.size)
  have HB1 := Lib.hid hbel1
  clear hbel1
  have p_B0_0 := (cell_of_row w1 _ 0 _ _ _ B0.out).trans (show _ = some (Value.int .i64 sg) from rfl)
  have p_B0_1 := (cell_of_row w1 _ 1 _ _ _ B0.out).trans (show _ = some (Value.int .i64 ba) from rfl)
  have p_B0_2 := (cell_of_row w1 _ 2 _ _ _ B0.out).trans (show _ = some (Value.slice p2 x2.length c2) from rfl)
  have p_B0_3 := (cell_of_row w1 _ 3 _ _ _ B0.out).trans (show _ = some (Value.slice p3 x3.length c3) from rfl)
  have p_B0_4 := (cell_of_row w1 _ 4 _ _ _ B0.out).trans (show _ = some (Value.slice p4 x4.length c4) from rfl)
  go_wp2
  clear p_B0_0 p_B0_1 p_B0_2 p_B0_3 p_B0_4
  go_loopw [19] (fun i wr => ∃ k : Nat, k ≤ x4.length ∧ i = .int .i64 k ∧ OwnsN wr W2.heap.size (.slice (some ⟨W2.heap.size, 0, none⟩) x4.length x4.length) (L.take k ++ List.replicate (x4.length - k) 0) ∧ Below W2.heap.size w1 wr) (fun i _ => x4.length - (intOf i).toNat)
  case atStart => exact ⟨0, Nat.zero_le _, rfl, by simpa using hown1, Below.refl _ _⟩
  case round =>
    clear hown1
    obtain ⟨k, hk, rfl, hown, c⟩ := hrel
    have e1 := d.out.size
    have e2 := HB1.out.size
    have HO := Lib.hid hown
    clear hown
    replace B0 := Lib.hid ((c.block w.heap.size (by have := Z_W2.out; have := Z_W1.out; have := YW.out; have := Yg.out; have := Yh.out; omega)).trans B0.out)
    replace Xg := Lib.hid ((c.block g (by have := Z_W2.out; have := Z_W1.out; have := YW.out; have := Yg.out; have := Yh.out; omega)).trans Xg.out)
    replace Xh := Lib.hid ((c.block h (by have := Z_W2.out; have := Z_W1.out; have := YW.out; have := Yg.out; have := Yh.out; omega)).trans Xh.out)
    replace d := Lib.hid (d.out.trans (c.mono (by have := Z_W2.out; have := Z_W1.out; have := YW.out; omega)))
    have CW := Lib.hid c
    clear c e1 e2
    by_cases hlt : k < x4.length
    · have i1 : (0 : Int) ≤ (k : Int) := by omega
      have i2 : (k : Int) < (x4.length : Int) := by omega
      have HS := Lib.hid (HSH.out k hlt)
      have hr := HROW.out k hlt
      have HC := Lib.hid (divClos (k : Int) q r g h wr q1 Xg.out Xh.out)
      have HSB := Lib.hid (shB_bd (r := r) (k : Int) q1)
      obtain ⟨br, offr, capr, hv, hbl, hc⟩ := ints_cell (slR_ints (slR_below tInt_law H4.out d.out)) (by omega)
      simp only [Value.slice.injEq] at hv
      obtain ⟨rfl, _, rfl⟩ := hv
      have f4 := hc k (by omega)
      clear hc hbl
      have F4 := Lib.hid f4
      clear f4
      generalize x4.getD k 0 = y at *
      obtain ⟨y1, y2'⟩ := hr
      have y2 : y ≤ 4 := by omega
      clear y2'
      generalize shB q r (k : Int) = sv at *
      have v1 := HSB.out
      obtain ⟨v1, v2⟩ := v1
      have f4 := F4.out
      go_wp2_with fail
      refine HC.out.mono ?_
      rintro e w4 ⟨rfl, c4⟩
      have HO4 := Lib.hid (ownsN_below HO.out c4)
      have CW4 := Lib.hid (CW.out.trans (c4.mono (by have := CW.out.size; have := HB1.out.size; omega)))
      have hset : Hid ((L.take k ++ List.replicate (x4.length - k) 0).set k (y + sv) = L.take (k + 1) ++ List.replicate (x4.length - (k + 1)) 0) := Lib.hid (by have := copy_step L k (by rw [HLN.out]; exact hlt); rw [HLN.out, HS.out] at this; exact this)
      have c1 := ownsN_cell HO4.out (show (L.take k ++ List.replicate (x4.length - k) 0)[k]? = some 0 by have := copy_at L k (by rw [HLN.out]; exact hlt); rw [HLN.out] at this; exact this)
      have f1 := ownsN_frozen HO4.out k
      have hst := ownsN_store HO4.out k (y + sv)
      rw [hset.out] at hst
      have hb2 := CW4.out.setCell (p := ⟨W2.heap.size, k, none⟩) (Nat.le_refl _) (.int .i64 (y + sv))
      have HST := Lib.hid hst
      have HB2 := Lib.hid hb2
      clear hst hset c4 f4 hb2 HO HO4 HC HSB HS
      go_wp2
      go_roundw
      case rel => exact ⟨k + 1, by omega, by go_num, HST.out, HB2.out⟩
      case measure => simp [intOf]; omega
    · obtain rfl : k = x4.length := by omega
      have hown := HO.out
      rw [List.take_of_length_le (by rw [HLN.out]; exact Nat.le_refl _), Nat.sub_self, List.replicate_zero, List.append_nil] at hown
      have HO2 := Lib.hid hown
      clear hown
      go_wp2
      go_ret
      exact ⟨_, rfl, row_low HO2.out (by have := Z_W2.out; have := Z_W1.out; have := YW.out; omega), d.out⟩
set_option maxHeartbeats 8000000 in
set_option maxRecDepth 100000 in
theorem shareOf_any (t : Int) (sg ba : Int) (v2 v3 v4 : Value) (x2 x3 x4 : List Int) (w : World) (h2 : SlR tInt w v2 x2) (h3 : SlR tInt w v3 x3) (h4 : SlR tInt w v4 x4) (s2 : zL tInt x2 ≤ 1048576) (s3 : zL tInt x3 ≤ 1048576) (s4 : zL tInt x4 ≤ 1048576) :
    Calls Tryd.prog 44 #[.agg #[.int .i64 sg, .int .i64 ba, v2, v3, v4], .int .i64 t] w (fun e w' => e = .returned (.int .i64 (tenX t (sg, ba, x2, x3, x4))) ∧ Below w.heap.size w w') := by
  obtain ⟨p2, c2, rfl⟩ := slR_len h2
  have H2 := Lib.hid h2
  obtain ⟨p3, c3, rfl⟩ := slR_len h3
  have H3 := Lib.hid h3
  obtain ⟨p4, c4, rfl⟩ := slR_len h4
  have H4 := Lib.hid h4
  clear h2 h3 h4
  have S2 := Lib.hid s2; have S3 := Lib.hid s3; have S4 := Lib.hid s4
  have n2 := zL_len s2; have n3 := zL_len s3; have n4 := zL_len s4
  clear s2 s3 s4
  have d := Lib.hid (show Below w.heap.size w (w.alloc (.cells #[.int .i64 sg, .int .i64 ba, .slice p2 x2.length c2, .slice p3 x3.length c3, .slice p4 x4.length c4] 26)) from ((Below.refl _ w).alloc (Nat.le_refl _) _))
  have B0 : Hid ((w.alloc (.cells #[.int .i64 sg, .int .i64 ba, .slice p2 x2.length c2, .slice p3 x3.length c3, .slice p4 x4.length c4] 26)).heap[w.heap.size]? = some (.cells #[.int .i64 sg, .int .i64 ba, .slice p2 x2.length c2, .slice p3 x3.length c3, .slice p4 x4.length c4] 26 (0, 0))) := Lib.hid (by
    exact heap_alloc_new w _)
  have YW : Hid (w.heap.size + 1 ≤ (w.alloc (.cells #[.int .i64 sg, .int .i64 ba, .slice p2 x2.length c2, .slice p3 x3.length c3, .slice p4 x4.length c4] 26)).heap.size) := Lib.hid (by simp [World.size_alloc])
  go_enter Tryd.func44, Tryd.ntmps44
  go_wp2_with fail
  generalize (w.alloc (.cells #[.int .i64 sg, .int .i64 ba, .slice p2 x2.length c2, .slice p3 x3.length c3, .slice p4 x4.length c4] 26)) = W at *
  have HSX := Lib.hid (@sharesX_len (sg, ba, x2, x3, x4))
  have HLE := Lib.hid (@sharesX_le (sg, ba, x2, x3, x4))
  have HBT := Lib.hid (tenTo_bd (sg, ba, x2, x3, x4) t)
  have HBS := Lib.hid (@shares_bd (sg, ba, x2, x3, x4))
  have HNE : Hid (tenX t (sg, ba, x2, x3, x4) = accN (tenI x3 (sharesX (sg, ba, x2, x3, x4)) t) (sharesX (sg, ba, x2, x3, x4)).length) := Lib.hid rfl
  dsimp only at HLE HBT
  refine (implSharesOf sg ba (.slice p2 x2.length c2) (.slice p3 x3.length c3) (.slice p4 x4.length c4) x2 x3 x4 W (slR_below tInt_law H2.out d.out) (slR_below tInt_law H3.out d.out) (slR_below tInt_law H4.out d.out) S2.out S3.out S4.out).mono ?_
  rintro e W1 ⟨u, rfl, ho, c⟩
  replace B0 := Lib.hid ((c.block w.heap.size (Array.getElem?_eq_some_iff.1 B0.out).1).trans B0.out)
  replace d := Lib.hid (d.out.trans (c.mono d.out.size))
  have Z_W1 := Lib.hid (show W.heap.size ≤ W1.heap.size from c.size)
  clear c
  generalize sharesX (sg, ba, x2, x3, x4) = sh at *
  obtain ⟨ua, uc, rfl⟩ := ints_len (ownsN_ints ho)
  have HU := Lib.hid (ownsN_ints ho)
  clear ho
  have p_B0_0 := (cell_of_row W1 _ 0 _ _ _ B0.out).trans (show _ = some (Value.int .i64 sg) from rfl)
  have p_B0_1 := (cell_of_row W1 _ 1 _ _ _ B0.out).trans (show _ = some (Value.int .i64 ba) from rfl)
  have p_B0_2 := (cell_of_row W1 _ 2 _ _ _ B0.out).trans (show _ = some (Value.slice p2 x2.length c2) from rfl)
  have p_B0_3 := (cell_of_row W1 _ 3 _ _ _ B0.out).trans (show _ = some (Value.slice p3 x3.length c3) from rfl)
  have p_B0_4 := (cell_of_row W1 _ 4 _ _ _ B0.out).trans (show _ = some (Value.slice p4 x4.length c4) from rfl)
  go_wp2
  clear p_B0_0 p_B0_1 p_B0_2 p_B0_3 p_B0_4
  go_loop [5, 11] (fun n i => ∃ (j : Nat) (z : Int), j ≤ sh.length ∧ i = .int .i64 j ∧ n = .int .i64 z ∧ Hid (z = accN (tenI x3 sh t) j)) (fun _ i => sh.length - (intOf i).toNat)
  case atStart => exact ⟨0, 0, Nat.zero_le _, rfl, rfl, Lib.hid rfl⟩
  case round =>
    obtain ⟨j, z, hj, rfl, rfl, hz⟩ := hrel
    have z1 := HBT.out j
    have z2 := HSX.out
    have z3 := hz.out
    have z4 : 0 ≤ z ∧ z ≤ 200000000 := by omega
    obtain ⟨z5, z6⟩ := z4
    clear z1 z3
    by_cases hjl : j < sh.length
    · have j1 : (0 : Int) ≤ (j : Int) := by omega
      have j2 : (j : Int) < (sh.length : Int) := by omega
      have j3 : j < x3.length := by have := HLE.out; omega
      have j4 : (j : Int) < (x3.length : Int) := by omega
      obtain ⟨bu, offu, capu, hv, hbl, hc⟩ := ints_cell HU.out (by omega)
      simp only [Value.slice.injEq] at hv
      obtain ⟨rfl, _, rfl⟩ := hv
      have f0 := hc j (by omega)
      clear hc hbl
      obtain ⟨bt, offt, capt, hv, hbl, hc⟩ := ints_cell (slR_ints (slR_below tInt_law H3.out d.out)) (by omega)
      simp only [Value.slice.injEq] at hv
      obtain ⟨rfl, _, rfl⟩ := hv
      have f1 := hc j (by omega)
      clear hc hbl
      have HBJ := HBS.out j
      have HA1 : Hid (x3.getD j 0 = t → z + sh.getD j 0 = accN (tenI x3 sh t) (j + 1)) := Lib.hid (fun g => by rw [accN_succ, tenI_yes g]; have := hz.out; omega)
      have HA2 : Hid (¬ x3.getD j 0 = t → z = accN (tenI x3 sh t) (j + 1)) := Lib.hid (fun g => by rw [accN_succ, tenI_no g]; have := hz.out; omega)
      clear hz
      generalize x3.getD j 0 = y at *
      generalize sh.getD j 0 = sv at *
      obtain ⟨v1, v2⟩ := HBJ
      have p_B0_0 := (cell_of_row W1 _ 0 _ _ _ B0.out).trans (show _ = some (Value.int .i64 sg) from rfl)
      have p_B0_1 := (cell_of_row W1 _ 1 _ _ _ B0.out).trans (show _ = some (Value.int .i64 ba) from rfl)
      have p_B0_2 := (cell_of_row W1 _ 2 _ _ _ B0.out).trans (show _ = some (Value.slice p2 x2.length c2) from rfl)
      have p_B0_3 := (cell_of_row W1 _ 3 _ _ _ B0.out).trans (show _ = some (Value.slice (some ⟨bt, offt, none⟩) x3.length c3) from rfl)
      have p_B0_4 := (cell_of_row W1 _ 4 _ _ _ B0.out).trans (show _ = some (Value.slice p4 x4.length c4) from rfl)
      by_cases hyt : y = t
      · have HZ := Lib.hid (HA1.out hyt)
        have g1 : (y == t) = true := by simpa using hyt
        clear HA1 HA2 hyt
        go_wp2
        go_round
        case rel => exact ⟨j + 1, z + sv, by omega, by go_num, rfl, HZ⟩
        case measure => simp [intOf]; omega
      · have HZ := Lib.hid (HA2.out hyt)
        have g1 : (y == t) = false := by rw [beq_eq_false_iff_ne]; exact hyt
        clear HA1 HA2 hyt
        go_wp2
        go_round
        case rel => exact ⟨j + 1, z, by omega, by go_num, rfl, HZ⟩
        case measure => simp [intOf]; omega
    · obtain rfl : j = sh.length := by omega
      have HZ : Hid (z = tenX t (sg, ba, x2, x3, x4)) := Lib.hid (by rw [HNE.out]; exact hz.out)
      clear hz
      go_wp2
      go_ret
      exact ⟨ret_n HZ.out, d.out⟩
set_option maxHeartbeats 8000000 in
set_option maxRecDepth 100000 in
theorem tenClos (t : Int) (B : Nat) (sg ba : Int) (v2 v3 v4 : Value) (x2 x3 x4 : List Int) (w : World) (h2 : SlR tInt w v2 x2) (h3 : SlR tInt w v3 x3) (h4 : SlR tInt w v4 x4) (s2 : zL tInt x2 ≤ 1048576) (s3 : zL tInt x3 ≤ 1048576) (s4 : zL tInt x4 ≤ 1048576) (hb : w.heap[B]? = some (.cells #[.int .i64 t] 3 (0, 0))) :
    Calls Tryd.prog 43 #[.agg #[.int .i64 sg, .int .i64 ba, v2, v3, v4], .pointer (some ⟨B, 0, none⟩)] w (fun e w' => e = .returned (.int .i64 (tenX t (sg, ba, x2, x3, x4))) ∧ Below w.heap.size w w') := by
  obtain ⟨p2, c2, rfl⟩ := slR_len h2
  have H2 := Lib.hid h2
  obtain ⟨p3, c3, rfl⟩ := slR_len h3
  have H3 := Lib.hid h3
  obtain ⟨p4, c4, rfl⟩ := slR_len h4
  have H4 := Lib.hid h4
  clear h2 h3 h4
  have S2 := Lib.hid s2; have S3 := Lib.hid s3; have S4 := Lib.hid s4
  have n2 := zL_len s2; have n3 := zL_len s3; have n4 := zL_len s4
  clear s2 s3 s4
  have CB := Lib.hid ((cell_of_row w _ 0 _ _ _ hb).trans (show _ = some (Value.int .i64 t) from rfl))
  have LB := Lib.hid (Array.getElem?_eq_some_iff.1 hb).1
  clear hb
  have d := Lib.hid (show Below w.heap.size w (w.alloc (.cells #[.int .i64 sg, .int .i64 ba, .slice p2 x2.length c2, .slice p3 x3.length c3, .slice p4 x4.length c4] 26)) from ((Below.refl _ w).alloc (Nat.le_refl _) _))
  have B0 : Hid ((w.alloc (.cells #[.int .i64 sg, .int .i64 ba, .slice p2 x2.length c2, .slice p3 x3.length c3, .slice p4 x4.length c4] 26)).heap[w.heap.size]? = some (.cells #[.int .i64 sg, .int .i64 ba, .slice p2 x2.length c2, .slice p3 x3.length c3, .slice p4 x4.length c4] 26 (0, 0))) := Lib.hid (by
    exact heap_alloc_new w _)
  have YW : Hid (w.heap.size + 1 ≤ (w.alloc (.cells #[.int .i64 sg, .int .i64 ba, .slice p2 x2.length c2, .slice p3 x3.length c3, .slice p4 x4.length c4] 26)).heap.size) := Lib.hid (by simp [World.size_alloc])
  have pc := (d.out.cell (p := ⟨B, 0, none⟩) LB.out).trans CB.out
  go_enter Tryd.func43, Tryd.ntmps43
  go_wp2_with fail
  clear pc
  generalize (w.alloc (.cells #[.int .i64 sg, .int .i64 ba, .slice p2 x2.length c2, .slice p3 x3.length c3, .slice p4 x4.length c4] 26)) = W at *
  refine (shareOf_any t sg ba (.slice p2 x2.length c2) (.slice p3 x3.length c3) (.slice p4 x4.length c4) x2 x3 x4 W (slR_below tInt_law H2.out d.out) (slR_below tInt_law H3.out d.out) (slR_below tInt_law H4.out d.out) S2.out S3.out S4.out).mono ?_
  rintro e W1 ⟨rfl, c⟩
  replace B0 := Lib.hid ((c.block w.heap.size (Array.getElem?_eq_some_iff.1 B0.out).1).trans B0.out)
  replace d := Lib.hid (d.out.trans (c.mono d.out.size))
  have Z_W1 := Lib.hid (show W.heap.size ≤ W1.heap.size from c.size)
  clear c
  have p_B0_0 := (cell_of_row W1 _ 0 _ _ _ B0.out).trans (show _ = some (Value.int .i64 sg) from rfl)
  have p_B0_1 := (cell_of_row W1 _ 1 _ _ _ B0.out).trans (show _ = some (Value.int .i64 ba) from rfl)
  have p_B0_2 := (cell_of_row W1 _ 2 _ _ _ B0.out).trans (show _ = some (Value.slice p2 x2.length c2) from rfl)
  have p_B0_3 := (cell_of_row W1 _ 3 _ _ _ B0.out).trans (show _ = some (Value.slice p3 x3.length c3) from rfl)
  have p_B0_4 := (cell_of_row W1 _ 4 _ _ _ B0.out).trans (show _ = some (Value.slice p4 x4.length c4) from rfl)
  go_wp2
  clear p_B0_0 p_B0_1 p_B0_2 p_B0_3 p_B0_4
  go_ret
  exact ⟨rfl, d.out⟩
theorem workX_bd72p (x : ChargeD) : 0 ≤ workX x ∧ workX x ≤ 72 := by have := workX_bd x; omega
set_option maxHeartbeats 8000000 in
set_option maxRecDepth 100000 in
theorem sumWork (v : Value) (l : List ChargeD) (w : World) (h : SlR tCharge w v l) (hs : zL tCharge l ≤ 1048576) :
    Calls Tryd.prog 40 #[v, .func (.func 11) #[] #[]] w (fun e w' => e = .returned (.int .i64 (totalL workX l)) ∧ Below w.heap.size w w') := by
  have hlen := zL_len hs
  have HS := Lib.hid hs
  have H := Lib.hid h
  obtain ⟨a, cap, rfl⟩ := slR_len h
  clear h hs
  go_enter Tryd.func40, Tryd.ntmps40
  go_wp2
  go_loopw [5, 10] (fun n i wr => ∃ (k : Nat) (s : Int), k ≤ l.length ∧ i = .int .i64 k ∧ n = .int .i64 s ∧ Hid (s = totalTo workX l k) ∧ Below w.heap.size w wr) (fun _ i _ => l.length - (intOf i).toNat)
  case atStart => exact ⟨0, 0, Nat.zero_le _, rfl, rfl, Lib.hid rfl, Below.refl _ _⟩
  case round =>
    obtain ⟨k, s, hk, rfl, rfl, hsum, c⟩ := hrel
    have cw := Lib.hid c
    have s1 := totalTo_bd (f := workX) workX_bd72p l k
    rw [← hsum.out] at s1
    obtain ⟨s1, s2'⟩ := s1
    have s2 : s ≤ 100000000 := by omega
    clear s2'
    by_cases hlt : k < l.length
    · have i1 : (0 : Int) ≤ (k : Int) := by omega
      have i2 : (k : Int) < (l.length : Int) := by omega
      have hz := zL_at HS.out hlt
      change tCharge.sz (l.getD k x0D) ≤ 1048576 at hz
      have HN : Hid (s + workX (l.getD k x0D) = totalTo workX l (k + 1)) := Lib.hid (by rw [totalTo_succ, hsum.out])
      obtain ⟨b, off, cap', p2, c2, p3, c3, p4, c4, hv, hbl, e0, e1, e2, e3, e4, s2, s3, s4⟩ := chg_at (slR_below tCharge_law H.out c) hlt
      simp only [Value.slice.injEq] at hv
      obtain ⟨rfl, _, rfl⟩ := hv
      have HBL := Lib.hid (show b < wr.heap.size from hbl)
      generalize l.getD k x0D = x at *
      obtain ⟨sg, ba, x2, x3, x4⟩ := x
      rw [tCharge_sz] at hz
      dsimp only at *
      clear hbl
      have hal : Below wr.heap.size wr (wr.alloc (.cells #[.int .i64 sg, .int .i64 ba, .slice p2 x2.length c2, .slice p3 x3.length c3, .slice p4 x4.length c4] 26)) := (Below.refl _ _).alloc (Nat.le_refl _) _
      have HC0 := implWorkDone sg ba (.slice p2 x2.length c2) (.slice p3 x3.length c3) (.slice p4 x4.length c4) x2 x3 x4 _ (slR_below tInt_law s2 hal) (slR_below tInt_law s3 hal) (slR_below tInt_law s4 hal) (by omega) (by omega) (by omega)
      have HC := Lib.hid (HC0.mono (fun e w' hh => (⟨hh.1, hal.trans (hh.2.mono hal.size)⟩ : e = .returned (.int .i64 (workX (sg, ba, x2, x3, x4))) ∧ Below wr.heap.size wr w')))
      have hy := workX_bd72p (sg, ba, x2, x3, x4)
      clear HC0 hal s2 s3 s4 hz hsum c
      generalize workX (sg, ba, x2, x3, x4) = y at *
      obtain ⟨y1, y2⟩ := hy
      go_wp2_with fail
      refine HC.out.mono ?_
      rintro e w2 ⟨rfl, c2⟩
      have cw2 := Lib.hid (cw.out.trans (c2.mono cw.out.size))
      clear c2 HC e0 e1 e2 e3 e4
      go_wp2
      go_roundw
      case rel => exact ⟨k + 1, s + y, by omega, by go_num, rfl, HN, cw2.out⟩
      case measure => simp [intOf]; omega
    · obtain rfl : k = l.length := by omega
      have HT : Hid (s = totalL workX l) := Lib.hid hsum.out
      clear hsum c
      go_wp2
      go_ret
      exact ⟨ret_n HT.out, cw.out⟩
set_option maxHeartbeats 8000000 in
set_option maxRecDepth 100000 in
theorem sumTen (t : Int) (B : Nat) (v : Value) (l : List ChargeD) (w : World) (hb : w.heap[B]? = some (.cells #[.int .i64 t] 3 (0, 0))) (h : SlR tCharge w v l) (hs : zL tCharge l ≤ 1048576) :
    Calls Tryd.prog 40 #[v, .func (.func 43) #[] #[.pointer (some ⟨B, 0, none⟩)]] w (fun e w' => e = .returned (.int .i64 (totalL (tenX t) l)) ∧ Below w.heap.size w w') := by
  have hlen := zL_len hs
  have HS := Lib.hid hs
  have H := Lib.hid h
  obtain ⟨a, cap, rfl⟩ := slR_len h
  clear h hs
  have BB := Lib.hid hb
  clear hb
  go_enter Tryd.func40, Tryd.ntmps40
  go_wp2
  go_loopw [5, 10] (fun n i wr => ∃ (k : Nat) (s : Int), k ≤ l.length ∧ i = .int .i64 k ∧ n = .int .i64 s ∧ Hid (s = totalTo (tenX t) l k) ∧ Below w.heap.size w wr) (fun _ i _ => l.length - (intOf i).toNat)
  case atStart => exact ⟨0, 0, Nat.zero_le _, rfl, rfl, Lib.hid rfl, Below.refl _ _⟩
  case round =>
    obtain ⟨k, s, hk, rfl, rfl, hsum, c⟩ := hrel
    have cw := Lib.hid c
    have s1 := totalTo_bd (f := (tenX t)) (tenX_bd t) l k
    rw [← hsum.out] at s1
    obtain ⟨s1, s2'⟩ := s1
    have s2 : s ≤ 100000000 := by omega
    clear s2'
    by_cases hlt : k < l.length
    · have i1 : (0 : Int) ≤ (k : Int) := by omega
      have i2 : (k : Int) < (l.length : Int) := by omega
      have hz := zL_at HS.out hlt
      change tCharge.sz (l.getD k x0D) ≤ 1048576 at hz
      have HN : Hid (s + (tenX t) (l.getD k x0D) = totalTo (tenX t) l (k + 1)) := Lib.hid (by rw [totalTo_succ, hsum.out])
      obtain ⟨b, off, cap', p2, c2, p3, c3, p4, c4, hv, hbl, e0, e1, e2, e3, e4, s2, s3, s4⟩ := chg_at (slR_below tCharge_law H.out c) hlt
      simp only [Value.slice.injEq] at hv
      obtain ⟨rfl, _, rfl⟩ := hv
      have HBL := Lib.hid (show b < wr.heap.size from hbl)
      generalize l.getD k x0D = x at *
      obtain ⟨sg, ba, x2, x3, x4⟩ := x
      rw [tCharge_sz] at hz
      dsimp only at *
      clear hbl
      have hal : Below wr.heap.size wr (wr.alloc (.cells #[.int .i64 sg, .int .i64 ba, .slice p2 x2.length c2, .slice p3 x3.length c3, .slice p4 x4.length c4] 26)) := (Below.refl _ _).alloc (Nat.le_refl _) _
      have HC0 := tenClos t B sg ba (.slice p2 x2.length c2) (.slice p3 x3.length c3) (.slice p4 x4.length c4) x2 x3 x4 _ (slR_below tInt_law s2 hal) (slR_below tInt_law s3 hal) (slR_below tInt_law s4 hal) (by omega) (by omega) (by omega) (((cw.out.trans (hal.mono cw.out.size)).block B (Array.getElem?_eq_some_iff.1 BB.out).1).trans BB.out)
      have HC := Lib.hid (HC0.mono (fun e w' hh => (⟨hh.1, hal.trans (hh.2.mono hal.size)⟩ : e = .returned (.int .i64 ((tenX t) (sg, ba, x2, x3, x4))) ∧ Below wr.heap.size wr w')))
      have hy := (tenX_bd t) (sg, ba, x2, x3, x4)
      clear HC0 hal s2 s3 s4 hz hsum c
      generalize (tenX t) (sg, ba, x2, x3, x4) = y at *
      obtain ⟨y1, y2⟩ := hy
      go_wp2_with fail
      refine HC.out.mono ?_
      rintro e w2 ⟨rfl, c2⟩
      have cw2 := Lib.hid (cw.out.trans (c2.mono cw.out.size))
      clear c2 HC e0 e1 e2 e3 e4
      go_wp2
      go_roundw
      case rel => exact ⟨k + 1, s + y, by omega, by go_num, rfl, HN, cw2.out⟩
      case measure => simp [intOf]; omega
    · obtain rfl : k = l.length := by omega
      have HT : Hid (s = totalL (tenX t) l) := Lib.hid hsum.out
      clear hsum c
      go_wp2
      go_ret
      exact ⟨ret_n HT.out, cw.out⟩
set_option maxHeartbeats 8000000 in
set_option maxRecDepth 100000 in
theorem implTotalWork (v : Value) (l : List ChargeD) (w : World) (h : SlR tCharge w v l) (hs : zL tCharge l ≤ 1048576) :
    Calls Tryd.prog 22 #[v] w (fun e w' => e = .returned (.int .i64 (totalL workX l)) ∧ Below w.heap.size w w') := by
  have HC := Lib.hid (sumWork v l w h hs)
  clear h hs
  go_enter Tryd.func22, Tryd.ntmps22
  go_wp2_with fail
  refine HC.out.mono ?_
  rintro e w1 ⟨rfl, c⟩
  have C := Lib.hid c
  clear c HC
  go_wp2
  go_ret
  exact ⟨rfl, C.out⟩
set_option maxHeartbeats 8000000 in
set_option maxRecDepth 100000 in
theorem implTenantCharge (t : Int) (v : Value) (l : List ChargeD) (w : World) (h : SlR tCharge w v l) (hs : zL tCharge l ≤ 1048576) :
    Calls Tryd.prog 18 #[v, .int .i64 t] w (fun e w' => e = .returned (.int .i64 (totalL (tenX t) l)) ∧ Below w.heap.size w w') := by
  have hal : Below w.heap.size w (w.alloc (.cells #[.int .i64 t] 3)) := (Below.refl _ _).alloc (Nat.le_refl _) _
  have d := Lib.hid hal
  have HC := Lib.hid (sumTen t w.heap.size v l _ (heap_alloc_new w (.cells #[.int .i64 t] 3)) (slR_below tCharge_law h hal) hs)
  have hmf : ∀ (fn : Fn) (first cap : Array Value) (w : World), (Instr.makeFunc fn first cap).run Tryd.prog w = .ok (.func fn first cap) w := fun _ _ _ _ => rfl
  clear hal h hs
  go_enter Tryd.func18, Tryd.ntmps18
  go_wp2_with fail
  refine HC.out.mono ?_
  rintro e w1 ⟨rfl, c⟩
  have d2 := Lib.hid (d.out.trans (c.mono d.out.size))
  clear c HC
  go_wp2
  go_ret
  exact ⟨rfl, d2.out⟩
end Go.Proofs.YtjeaimdnddelpaaDoor
namespace Go.Proofs.YtjeaimdnddelpaaDoor
open Go.RowKit
set_option linter.unusedVariables false
set_option linter.unusedSimpArgs false
/-- Whom the array names. -/
def Nmd (ts : List Int) (k : Nat) (b0 b1 b2 b3 : Bool) : Prop := b0 = nmdTo ts k 0 ∧ b1 = nmdTo ts k 1 ∧ b2 = nmdTo ts k 2 ∧ b3 = nmdTo ts k 3
theorem nmd_zero (ts : List Int) : Nmd ts 0 false false false false := ⟨(nmdTo_zero ts 0).symm, (nmdTo_zero ts 1).symm, (nmdTo_zero ts 2).symm, (nmdTo_zero ts 3).symm⟩
theorem nmd_out {ts : List Int} {k : Nat} {b0 b1 b2 b3 : Bool} (h : Nmd ts k b0 b1 b2 b3) (hk : k < ts.length) (g : tenB (ts.getD k 0) = false) : Nmd ts (k + 1) b0 b1 b2 b3 := by
  have g' := of_decide_eq_false g
  have n : ∀ t : Int, 0 ≤ t → t ≤ 3 → nmdTo ts (k + 1) t = nmdTo ts k t := fun t h1 h2 => by
    rw [nmdTo_succ hk, decide_eq_false (fun e => g' (by omega)), Bool.or_false]
  obtain ⟨h0, h1, h2, h3⟩ := h
  exact ⟨by rw [h0, n 0 (by omega) (by omega)], by rw [h1, n 1 (by omega) (by omega)], by rw [h2, n 2 (by omega) (by omega)], by rw [h3, n 3 (by omega) (by omega)]⟩
theorem nmd_in {ts : List Int} {k : Nat} {b0 b1 b2 b3 : Bool} (h : Nmd ts k b0 b1 b2 b3) (hk : k < ts.length) {y : Int} (e : ts.getD k 0 = y) : Nmd ts (k + 1) (b0 || decide (y = 0)) (b1 || decide (y = 1)) (b2 || decide (y = 2)) (b3 || decide (y = 3)) := by
  obtain ⟨h0, h1, h2, h3⟩ := h
  exact ⟨by rw [h0, nmdTo_succ hk, e], by rw [h1, nmdTo_succ hk, e], by rw [h2, nmdTo_succ hk, e], by rw [h3, nmdTo_succ hk, e]⟩
theorem nmd_all {ts : List Int} {b0 b1 b2 b3 : Bool} (h : Nmd ts ts.length b0 b1 b2 b3) : b0 = memB ts 0 ∧ b1 = memB ts 1 ∧ b2 = memB ts 2 ∧ b3 = memB ts 3 := by
  obtain ⟨h0, h1, h2, h3⟩ := h
  exact ⟨by rw [h0, nmdTo_all]; rfl, by rw [h1, nmdTo_all]; rfl, by rw [h2, nmdTo_all]; rfl, by rw [h3, nmdTo_all]; rfl⟩
set_option maxHeartbeats 8000000 in
set_option maxRecDepth 100000 in
theorem coalitionOf_any (v : Value) (ts : List Int) (w : World) (h : SlR tInt w v ts) (hn : ts.length ≤ 1048576) :
    Calls Tryd.prog 41 #[v] w (fun e w' => e = .returned (.agg #[.bool (memB ts 0), .bool (memB ts 1), .bool (memB ts 2), .bool (memB ts 3)]) ∧ Below w.heap.size w w') := by
  obtain ⟨ta, tc, rfl⟩ := slR_len h
  have H := Lib.hid h
  clear h
  have d := Lib.hid (show Below w.heap.size w ((w.alloc (.cells #[.bool false, .bool false, .bool false, .bool false] 58)).alloc (.cells #[.bool false, .bool false, .bool false, .bool false] 58)) from (((Below.refl _ w).alloc (Nat.le_refl _) _).alloc (by simp) _))
  have BR : Hid (((w.alloc (.cells #[.bool false, .bool false, .bool false, .bool false] 58)).alloc (.cells #[.bool false, .bool false, .bool false, .bool false] 58)).heap[w.heap.size]? = some (.cells #[.bool false, .bool false, .bool false, .bool false] 58 (0, 0))) := Lib.hid (by
    rw [Below.heap_alloc _ _ _ (by simp)]
    exact heap_alloc_new w _)
  have BM : Hid (((w.alloc (.cells #[.bool false, .bool false, .bool false, .bool false] 58)).alloc (.cells #[.bool false, .bool false, .bool false, .bool false] 58)).heap[(w.heap.size + 1)]? = some (.cells #[.bool false, .bool false, .bool false, .bool false] 58 (0, 0))) := Lib.hid (by
    have := heap_alloc_new (w.alloc (.cells #[.bool false, .bool false, .bool false, .bool false] 58)) (.cells #[.bool false, .bool false, .bool false, .bool false] 58)
    simpa only [World.size_alloc] using this)
  have YW : Hid (w.heap.size + 2 ≤ ((w.alloc (.cells #[.bool false, .bool false, .bool false, .bool false] 58)).alloc (.cells #[.bool false, .bool false, .bool false, .bool false] 58)).heap.size) := Lib.hid (by simp [World.size_alloc])
  go_enter Tryd.func41, Tryd.ntmps41
  go_wp2
  generalize ((w.alloc (.cells #[.bool false, .bool false, .bool false, .bool false] 58)).alloc (.cells #[.bool false, .bool false, .bool false, .bool false] 58)) = W at *
  go_loopw [8] (fun i wr => ∃ (k : Nat) (b0 b1 b2 b3 : Bool), k ≤ ts.length ∧ i = .int .i64 k ∧ Hid (Nmd ts k b0 b1 b2 b3) ∧ Hid (wr.heap[w.heap.size + 1]? = some (.cells #[.bool b0, .bool b1, .bool b2, .bool b3] 58 (0, 0))) ∧ Hid (wr.heap[w.heap.size]? = some (.cells #[.bool false, .bool false, .bool false, .bool false] 58 (0, 0))) ∧ Below w.heap.size w wr) (fun i _ => ts.length - (intOf i).toNat)
  case atStart => exact ⟨0, false, false, false, false, Nat.zero_le _, rfl, Lib.hid (nmd_zero ts), BM, BR, d.out⟩
  case round =>
    clear d BM BR
    obtain ⟨k, b0, b1, b2, b3, hk, rfl, hno, BM, BR, c⟩ := hrel
    have d := Lib.hid c
    clear c
    by_cases hlt : k < ts.length
    · have i1 : (0 : Int) ≤ (k : Int) := by omega
      have i2 : (k : Int) < (ts.length : Int) := by omega
      obtain ⟨bu, offu, capu, hv, hbl, hc⟩ := ints_cell (slR_ints (slR_below tInt_law H.out d.out)) (by omega)
      simp only [Value.slice.injEq] at hv
      obtain ⟨rfl, _, rfl⟩ := hv
      have f0 := hc k (by omega)
      clear hc hbl
      have HNO := Lib.hid (fun g => nmd_out hno.out hlt g)
      have HIN := Lib.hid (fun (y : Int) e => nmd_in (y := y) hno.out hlt e)
      obtain ⟨y, hy⟩ : ∃ y, y = ts.getD k 0 := ⟨_, rfl⟩
      rw [← hy] at f0 HNO
      replace HIN := Lib.hid (HIN.out y hy.symm)
      clear hy hno
      have HC := Lib.hid (isTenant_ten y wr)
      go_wp2_with fail
      refine HC.out.mono ?_
      rintro e w2 ⟨rfl, c⟩
      replace BR := Lib.hid ((c.block w.heap.size (Array.getElem?_eq_some_iff.1 BR.out).1).trans BR.out)
      replace BM := Lib.hid ((c.block (w.heap.size + 1) (Array.getElem?_eq_some_iff.1 BM.out).1).trans BM.out)
      replace d := Lib.hid (d.out.trans (c.mono d.out.size))
      have Z_w2 := Lib.hid (show wr.heap.size ≤ w2.heap.size from c.size)
      clear c HC f0
      rcases Bool.eq_false_or_eq_true (tenB y) with ht | ht
      · rw [ht]
        have hy3 : 0 ≤ y ∧ y ≤ 3 := of_decide_eq_true ht
        clear ht
        have hy4 : y = 0 ∨ y = 1 ∨ y = 2 ∨ y = 3 := by omega
        clear hy3
        rcases hy4 with rfl | rfl | rfl | rfl
        · have HN : Hid (Nmd ts (k + 1) true b1 b2 b3) := Lib.hid (by have := HIN.out; simpa using this)
          clear HIN HNO
          have p_BM_0 := (cell_of_row w2 _ 0 _ _ _ BM.out).trans (show _ = some (Value.bool b0) from rfl)
          have p_BM_1 := (cell_of_row w2 _ 1 _ _ _ BM.out).trans (show _ = some (Value.bool b1) from rfl)
          have p_BM_2 := (cell_of_row w2 _ 2 _ _ _ BM.out).trans (show _ = some (Value.bool b2) from rfl)
          have p_BM_3 := (cell_of_row w2 _ 3 _ _ _ BM.out).trans (show _ = some (Value.bool b3) from rfl)
          have f_BM_0 := frozen_of_row w2 _ 0 _ _ BM.out
          have f_BM_1 := frozen_of_row w2 _ 1 _ _ BM.out
          have f_BM_2 := frozen_of_row w2 _ 2 _ _ BM.out
          have f_BM_3 := frozen_of_row w2 _ 3 _ _ BM.out
          have rr := heap_setCell_same w2 (w.heap.size + 1) 0 _ _ (.bool true) BM.out
          simp at rr
          have HM2 := Lib.hid rr
          have HR2 : Hid ((w2.setCell ⟨w.heap.size + 1, 0, none⟩ (.bool true)).heap[w.heap.size]? = some (.cells #[.bool false, .bool false, .bool false, .bool false] 58 (0, 0))) := Lib.hid ((Below.heap_setCell w2 ⟨w.heap.size + 1, 0, none⟩ _ w.heap.size (by simp)).trans BR.out)
          have d2 := Lib.hid (d.out.setCell (p := ⟨w.heap.size + 1, 0, none⟩) (Nat.le_succ _) (.bool true))
          clear rr BM BR d
          go_wp2
          go_roundw
          case rel => exact ⟨k + 1, true, b1, b2, b3, by omega, by go_num, HN, HM2, HR2, d2.out⟩
          case measure => simp [intOf]; omega
        · have HN : Hid (Nmd ts (k + 1) b0 true b2 b3) := Lib.hid (by have := HIN.out; simpa using this)
          clear HIN HNO
          have p_BM_0 := (cell_of_row w2 _ 0 _ _ _ BM.out).trans (show _ = some (Value.bool b0) from rfl)
          have p_BM_1 := (cell_of_row w2 _ 1 _ _ _ BM.out).trans (show _ = some (Value.bool b1) from rfl)
          have p_BM_2 := (cell_of_row w2 _ 2 _ _ _ BM.out).trans (show _ = some (Value.bool b2) from rfl)
          have p_BM_3 := (cell_of_row w2 _ 3 _ _ _ BM.out).trans (show _ = some (Value.bool b3) from rfl)
          have f_BM_0 := frozen_of_row w2 _ 0 _ _ BM.out
          have f_BM_1 := frozen_of_row w2 _ 1 _ _ BM.out
          have f_BM_2 := frozen_of_row w2 _ 2 _ _ BM.out
          have f_BM_3 := frozen_of_row w2 _ 3 _ _ BM.out
          have rr := heap_setCell_same w2 (w.heap.size + 1) 1 _ _ (.bool true) BM.out
          simp at rr
          have HM2 := Lib.hid rr
          have HR2 : Hid ((w2.setCell ⟨w.heap.size + 1, 1, none⟩ (.bool true)).heap[w.heap.size]? = some (.cells #[.bool false, .bool false, .bool false, .bool false] 58 (0, 0))) := Lib.hid ((Below.heap_setCell w2 ⟨w.heap.size + 1, 1, none⟩ _ w.heap.size (by simp)).trans BR.out)
          have d2 := Lib.hid (d.out.setCell (p := ⟨w.heap.size + 1, 1, none⟩) (Nat.le_succ _) (.bool true))
          clear rr BM BR d
          go_wp2
          go_roundw
          case rel => exact ⟨k + 1, b0, true, b2, b3, by omega, by go_num, HN, HM2, HR2, d2.out⟩
          case measure => simp [intOf]; omega
        · have HN : Hid (Nmd ts (k + 1) b0 b1 true b3) := Lib.hid (by have := HIN.out; simpa using this)
          clear HIN HNO
          have p_BM_0 := (cell_of_row w2 _ 0 _ _ _ BM.out).trans (show _ = some (Value.bool b0) from rfl)
          have p_BM_1 := (cell_of_row w2 _ 1 _ _ _ BM.out).trans (show _ = some (Value.bool b1) from rfl)
          have p_BM_2 := (cell_of_row w2 _ 2 _ _ _ BM.out).trans (show _ = some (Value.bool b2) from rfl)
          have p_BM_3 := (cell_of_row w2 _ 3 _ _ _ BM.out).trans (show _ = some (Value.bool b3) from rfl)
          have f_BM_0 := frozen_of_row w2 _ 0 _ _ BM.out
          have f_BM_1 := frozen_of_row w2 _ 1 _ _ BM.out
          have f_BM_2 := frozen_of_row w2 _ 2 _ _ BM.out
          have f_BM_3 := frozen_of_row w2 _ 3 _ _ BM.out
          have rr := heap_setCell_same w2 (w.heap.size + 1) 2 _ _ (.bool true) BM.out
          simp at rr
          have HM2 := Lib.hid rr
          have HR2 : Hid ((w2.setCell ⟨w.heap.size + 1, 2, none⟩ (.bool true)).heap[w.heap.size]? = some (.cells #[.bool false, .bool false, .bool false, .bool false] 58 (0, 0))) := Lib.hid ((Below.heap_setCell w2 ⟨w.heap.size + 1, 2, none⟩ _ w.heap.size (by simp)).trans BR.out)
          have d2 := Lib.hid (d.out.setCell (p := ⟨w.heap.size + 1, 2, none⟩) (Nat.le_succ _) (.bool true))
          clear rr BM BR d
          go_wp2
          go_roundw
          case rel => exact ⟨k + 1, b0, b1, true, b3, by omega, by go_num, HN, HM2, HR2, d2.out⟩
          case measure => simp [intOf]; omega
        · have HN : Hid (Nmd ts (k + 1) b0 b1 b2 true) := Lib.hid (by have := HIN.out; simpa using this)
          clear HIN HNO
          have p_BM_0 := (cell_of_row w2 _ 0 _ _ _ BM.out).trans (show _ = some (Value.bool b0) from rfl)
          have p_BM_1 := (cell_of_row w2 _ 1 _ _ _ BM.out).trans (show _ = some (Value.bool b1) from rfl)
          have p_BM_2 := (cell_of_row w2 _ 2 _ _ _ BM.out).trans (show _ = some (Value.bool b2) from rfl)
          have p_BM_3 := (cell_of_row w2 _ 3 _ _ _ BM.out).trans (show _ = some (Value.bool b3) from rfl)
          have f_BM_0 := frozen_of_row w2 _ 0 _ _ BM.out
          have f_BM_1 := frozen_of_row w2 _ 1 _ _ BM.out
          have f_BM_2 := frozen_of_row w2 _ 2 _ _ BM.out
          have f_BM_3 := frozen_of_row w2 _ 3 _ _ BM.out
          have rr := heap_setCell_same w2 (w.heap.size + 1) 3 _ _ (.bool true) BM.out
          simp at rr
          have HM2 := Lib.hid rr
          have HR2 : Hid ((w2.setCell ⟨w.heap.size + 1, 3, none⟩ (.bool true)).heap[w.heap.size]? = some (.cells #[.bool false, .bool false, .bool false, .bool false] 58 (0, 0))) := Lib.hid ((Below.heap_setCell w2 ⟨w.heap.size + 1, 3, none⟩ _ w.heap.size (by simp)).trans BR.out)
          have d2 := Lib.hid (d.out.setCell (p := ⟨w.heap.size + 1, 3, none⟩) (Nat.le_succ _) (.bool true))
          clear rr BM BR d
          go_wp2
          go_roundw
          case rel => exact ⟨k + 1, b0, b1, b2, true, by omega, by go_num, HN, HM2, HR2, d2.out⟩
          case measure => simp [intOf]; omega
      · rw [ht]
        have HN := Lib.hid (HNO.out ht)
        clear ht HNO HIN
        go_wp2
        go_roundw
        case rel => exact ⟨k + 1, b0, b1, b2, b3, by omega, by go_num, HN, BM, BR, d.out⟩
        case measure => simp [intOf]; omega
    · obtain rfl : k = ts.length := by omega
      obtain ⟨e0, e1, e2, e3⟩ := nmd_all hno.out
      have HA := Lib.hid (show (Value.agg #[.bool b0, .bool b1, .bool b2, .bool b3]) = .agg #[.bool (memB ts 0), .bool (memB ts 1), .bool (memB ts 2), .bool (memB ts 3)] by rw [e0, e1, e2, e3])
      clear e0 e1 e2 e3 hno
      have p_BM_0 := (cell_of_row wr _ 0 _ _ _ BM.out).trans (show _ = some (Value.bool b0) from rfl)
      have p_BM_1 := (cell_of_row wr _ 1 _ _ _ BM.out).trans (show _ = some (Value.bool b1) from rfl)
      have p_BM_2 := (cell_of_row wr _ 2 _ _ _ BM.out).trans (show _ = some (Value.bool b2) from rfl)
      have p_BM_3 := (cell_of_row wr _ 3 _ _ _ BM.out).trans (show _ = some (Value.bool b3) from rfl)
      have p_BR_0 := (cell_of_row wr _ 0 _ _ _ BR.out).trans (show _ = some (Value.bool false) from rfl)
      have p_BR_1 := (cell_of_row wr _ 1 _ _ _ BR.out).trans (show _ = some (Value.bool false) from rfl)
      have p_BR_2 := (cell_of_row wr _ 2 _ _ _ BR.out).trans (show _ = some (Value.bool false) from rfl)
      have p_BR_3 := (cell_of_row wr _ 3 _ _ _ BR.out).trans (show _ = some (Value.bool false) from rfl)
      have f_BR_0 := frozen_of_row wr _ 0 _ _ BR.out
      have f_BR_1 := frozen_of_row wr _ 1 _ _ BR.out
      have f_BR_2 := frozen_of_row wr _ 2 _ _ BR.out
      have f_BR_3 := frozen_of_row wr _ 3 _ _ BR.out
      go_wp2
      have r0 := heap_setCell_same wr (w.heap.size) 0 _ _ (.bool b0) BR.out
      have r1 := heap_setCell_same _ (w.heap.size) 1 _ _ (.bool b1) r0
      have r2 := heap_setCell_same _ (w.heap.size) 2 _ _ (.bool b2) r1
      have r3 := heap_setCell_same _ (w.heap.size) 3 _ _ (.bool b3) r2
      have D4 := (((d.out.setCell (p := ⟨w.heap.size, 0, none⟩) (Nat.le_refl _) (.bool b0)).setCell (p := ⟨w.heap.size, 1, none⟩) (Nat.le_refl _) (.bool b1)).setCell (p := ⟨w.heap.size, 2, none⟩) (Nat.le_refl _) (.bool b2)).setCell (p := ⟨w.heap.size, 3, none⟩) (Nat.le_refl _) (.bool b3)
      clear r0 r1 r2
      have e0 := cell_of_row _ _ 0 _ _ _ r3
      have e1 := cell_of_row _ _ 1 _ _ _ r3
      have e2 := cell_of_row _ _ 2 _ _ _ r3
      have e3 := cell_of_row _ _ 3 _ _ _ r3
      simp at e0 e1 e2 e3
      clear r3
      refine bodyPost_ret (v := .agg #[.bool b0, .bool b1, .bool b2, .bool b3]) ?_ rfl ?_
      · simp [results, Tryd.f41, go_sem, e0, e1, e2, e3]
      · exact ⟨by rw [HA.out], D4⟩
set_option maxHeartbeats 8000000 in
set_option maxRecDepth 100000 in
theorem costOf_any (m : Int → Bool) (sg ba : Int) (v2 v3 v4 : Value) (x2 x3 x4 : List Int) (w : World) (h2 : SlR tInt w v2 x2) (h3 : SlR tInt w v3 x3) (h4 : SlR tInt w v4 x4) (s2 : zL tInt x2 ≤ 1048576) (s3 : zL tInt x3 ≤ 1048576) (s4 : zL tInt x4 ≤ 1048576) :
    Calls Tryd.prog 42 #[.agg #[.bool (m 0), .bool (m 1), .bool (m 2), .bool (m 3)], .agg #[.int .i64 sg, .int .i64 ba, v2, v3, v4]] w (fun e w' => e = .returned (.int .i64 (coX m (sg, ba, x2, x3, x4))) ∧ Below w.heap.size w w') := by
  obtain ⟨p2, c2, rfl⟩ := slR_len h2
  have H2 := Lib.hid h2
  obtain ⟨p3, c3, rfl⟩ := slR_len h3
  have H3 := Lib.hid h3
  obtain ⟨p4, c4, rfl⟩ := slR_len h4
  have H4 := Lib.hid h4
  clear h2 h3 h4
  have S2 := Lib.hid s2; have S3 := Lib.hid s3; have S4 := Lib.hid s4
  have n2 := zL_len s2; have n3 := zL_len s3; have n4 := zL_len s4
  clear s2 s3 s4
  have HM := Lib.hid (show (m 0 = m 0 ∧ m 1 = m 1) ∧ (m 2 = m 2 ∧ m 3 = m 3) from ⟨⟨rfl, rfl⟩, ⟨rfl, rfl⟩⟩)
  clear HM
  have d := Lib.hid (show Below w.heap.size w ((w.alloc (.cells #[.bool (m 0), .bool (m 1), .bool (m 2), .bool (m 3)] 58)).alloc (.cells #[.int .i64 sg, .int .i64 ba, .slice p2 x2.length c2, .slice p3 x3.length c3, .slice p4 x4.length c4] 26)) from (((Below.refl _ w).alloc (Nat.le_refl _) _).alloc (by simp) _))
  have BM : Hid (((w.alloc (.cells #[.bool (m 0), .bool (m 1), .bool (m 2), .bool (m 3)] 58)).alloc (.cells #[.int .i64 sg, .int .i64 ba, .slice p2 x2.length c2, .slice p3 x3.length c3, .slice p4 x4.length c4] 26)).heap[w.heap.size]? = some (.cells #[.bool (m 0), .bool (m 1), .bool (m 2), .bool (m 3)] 58 (0, 0))) := Lib.hid (by
    rw [Below.heap_alloc _ _ _ (by simp)]
    exact heap_alloc_new w _)
  have B0 : Hid (((w.alloc (.cells #[.bool (m 0), .bool (m 1), .bool (m 2), .bool (m 3)] 58)).alloc (.cells #[.int .i64 sg, .int .i64 ba, .slice p2 x2.length c2, .slice p3 x3.length c3, .slice p4 x4.length c4] 26)).heap[(w.heap.size + 1)]? = some (.cells #[.int .i64 sg, .int .i64 ba, .slice p2 x2.length c2, .slice p3 x3.length c3, .slice p4 x4.length c4] 26 (0, 0))) := Lib.hid (by
    have := heap_alloc_new (w.alloc (.cells #[.bool (m 0), .bool (m 1), .bool (m 2), .bool (m 3)] 58)) (.cells #[.int .i64 sg, .int .i64 ba, .slice p2 x2.length c2, .slice p3 x3.length c3, .slice p4 x4.length c4] 26)
    simpa only [World.size_alloc] using this)
  have YW : Hid (w.heap.size + 2 ≤ ((w.alloc (.cells #[.bool (m 0), .bool (m 1), .bool (m 2), .bool (m 3)] 58)).alloc (.cells #[.int .i64 sg, .int .i64 ba, .slice p2 x2.length c2, .slice p3 x3.length c3, .slice p4 x4.length c4] 26)).heap.size) := Lib.hid (by simp [World.size_alloc])
  go_enter Tryd.func42, Tryd.ntmps42
  go_wp2_with fail
  generalize ((w.alloc (.cells #[.bool (m 0), .bool (m 1), .bool (m 2), .bool (m 3)] 58)).alloc (.cells #[.int .i64 sg, .int .i64 ba, .slice p2 x2.length c2, .slice p3 x3.length c3, .slice p4 x4.length c4] 26)) = W at *
  refine (implIsCharge sg ba (.slice p2 x2.length c2) (.slice p3 x3.length c3) (.slice p4 x4.length c4) x2 x3 x4 W (slR_below tInt_law H2.out d.out) (slR_below tInt_law H3.out d.out) (slR_below tInt_law H4.out d.out) S2.out S3.out S4.out).mono ?_
  rintro e W1 ⟨rfl, c⟩
  replace BM := Lib.hid ((c.block w.heap.size (Array.getElem?_eq_some_iff.1 BM.out).1).trans BM.out)
  replace B0 := Lib.hid ((c.block (w.heap.size + 1) (Array.getElem?_eq_some_iff.1 B0.out).1).trans B0.out)
  replace d := Lib.hid (d.out.trans (c.mono d.out.size))
  have Z_W1 := Lib.hid (show W.heap.size ≤ W1.heap.size from c.size)
  clear c
  rcases Bool.eq_false_or_eq_true (chargeB (sg, ba, x2, x3, x4)) with hch | hch
  rotate_left
  · rw [hch]
    have HF := Lib.hid (coX_no1 (m := m) hch)
    clear hch
    have p_B0_0 := (cell_of_row W1 _ 0 _ _ _ B0.out).trans (show _ = some (Value.int .i64 sg) from rfl)
    have p_B0_1 := (cell_of_row W1 _ 1 _ _ _ B0.out).trans (show _ = some (Value.int .i64 ba) from rfl)
    have p_B0_2 := (cell_of_row W1 _ 2 _ _ _ B0.out).trans (show _ = some (Value.slice p2 x2.length c2) from rfl)
    have p_B0_3 := (cell_of_row W1 _ 3 _ _ _ B0.out).trans (show _ = some (Value.slice p3 x3.length c3) from rfl)
    have p_B0_4 := (cell_of_row W1 _ 4 _ _ _ B0.out).trans (show _ = some (Value.slice p4 x4.length c4) from rfl)
    go_wp2
    clear p_B0_0 p_B0_1 p_B0_2 p_B0_3 p_B0_4
    go_ret
    exact ⟨ret_n HF.out.symm, d.out⟩
  rw [hch]
  have HCH := Lib.hid hch
  have HP := Lib.hid (charge_iff hch).2.1
  have HYES : Hid (anyTo m x3 x2.length = true → ba + coRows m (sg, ba, x2, x3, x4) x2.length = coX m (sg, ba, x2, x3, x4)) := Lib.hid (fun g => by rw [coX_yes hch g]; exact Int.add_comm _ _)
  have HNO : Hid (anyTo m x3 x2.length = false → coX m (sg, ba, x2, x3, x4) = 0) := Lib.hid (fun g => coX_no2 g)
  have hl8 : x2.length ≤ 8 := HP.out.1.2
  have hba : 0 ≤ ba ∧ ba ≤ 4 := HP.out.2.2.2
  obtain ⟨ba1, ba2⟩ := hba
  have HL3 : Hid (x3.length = x2.length) := Lib.hid HP.out.2.1.1
  have HL4 : Hid (x4.length = x2.length) := Lib.hid HP.out.2.1.2
  have hl3 : x3.length ≤ 8 := by have := HL3.out; omega
  clear hch
  have p_B0_0 := (cell_of_row W1 _ 0 _ _ _ B0.out).trans (show _ = some (Value.int .i64 sg) from rfl)
  have p_B0_1 := (cell_of_row W1 _ 1 _ _ _ B0.out).trans (show _ = some (Value.int .i64 ba) from rfl)
  have p_B0_2 := (cell_of_row W1 _ 2 _ _ _ B0.out).trans (show _ = some (Value.slice p2 x2.length c2) from rfl)
  have p_B0_3 := (cell_of_row W1 _ 3 _ _ _ B0.out).trans (show _ = some (Value.slice p3 x3.length c3) from rfl)
  have p_B0_4 := (cell_of_row W1 _ 4 _ _ _ B0.out).trans (show _ = some (Value.slice p4 x4.length c4) from rfl)
  go_wp2
  clear p_B0_0 p_B0_1 p_B0_2 p_B0_3 p_B0_4
  go_loop [5, 6, 17] (fun n th i => ∃ (j : Nat) (z : Int) (bb : Bool), j ≤ x3.length ∧ i = .int .i64 j ∧ n = .int .i64 z ∧ th = .bool bb ∧ Hid (z = ba + coRows m (sg, ba, x2, x3, x4) j) ∧ Hid (bb = anyTo m x3 j)) (fun _ _ i => x3.length - (intOf i).toNat)
  case atStart => exact ⟨0, ba, false, Nat.zero_le _, rfl, rfl, rfl, Lib.hid (Int.add_zero ba).symm, Lib.hid rfl⟩
  case round =>
    obtain ⟨j, z, bb, hj, rfl, rfl, rfl, hz, hbb⟩ := hrel
    have z1 := coRows_bd (m := m) HCH.out (show j ≤ x2.length by have := HL3.out; omega)
    have z3 := hz.out
    have z4 : 0 ≤ z ∧ z ≤ 200000000 := by omega
    obtain ⟨z5, z6⟩ := z4
    clear z1 z3
    by_cases hjl : j < x3.length
    · have j1 : (0 : Int) ≤ (j : Int) := by omega
      have j2 : (j : Int) < (x3.length : Int) := by omega
      have j5 : j < x4.length := by have := HL4.out; have := HL3.out; omega
      have j6 : (j : Int) < (x4.length : Int) := by omega
      obtain ⟨bt, offt, capt, hv, hbl, hc⟩ := ints_cell (slR_ints (slR_below tInt_law H3.out d.out)) (by omega)
      simp only [Value.slice.injEq] at hv
      obtain ⟨rfl, _, rfl⟩ := hv
      have f3 := hc j (by omega)
      clear hc hbl
      have HT3 := chg_ten (x := (sg, ba, x2, x3, x4)) HCH.out hjl
      have HR := chg_row (x := (sg, ba, x2, x3, x4)) HCH.out j5
      dsimp only at HR HT3
      have F3 := Lib.hid f3
      clear f3
      have HA1 : Hid (m (x3.getD j 0) = true → z + x4.getD j 0 = ba + coRows m (sg, ba, x2, x3, x4) (j + 1) ∧ true = anyTo m x3 (j + 1)) := Lib.hid (fun g => ⟨by rw [coRows_yes (x := (sg, ba, x2, x3, x4)) g]; have := hz.out; dsimp only; omega, (anyTo_yes g).symm⟩)
      have HA2 : Hid (m (x3.getD j 0) = false → z = ba + coRows m (sg, ba, x2, x3, x4) (j + 1) ∧ bb = anyTo m x3 (j + 1)) := Lib.hid (fun g => ⟨by rw [coRows_no (x := (sg, ba, x2, x3, x4)) g]; exact hz.out, by rw [anyTo_no g]; exact hbb.out⟩)
      clear hz hbb
      obtain ⟨br, offr, capr, hv, hbl, hc⟩ := ints_cell (slR_ints (slR_below tInt_law H4.out d.out)) (by omega)
      simp only [Value.slice.injEq] at hv
      obtain ⟨rfl, _, rfl⟩ := hv
      have f4 := hc j (by omega)
      clear hc hbl
      have F4 := Lib.hid f4
      clear f4
      generalize x3.getD j 0 = y at *
      generalize x4.getD j 0 = rv at *
      obtain ⟨rv1, rv2'⟩ := HR
      have rv2 : rv ≤ 4 := by omega
      clear rv2'
      have hy4 : y = 0 ∨ y = 1 ∨ y = 2 ∨ y = 3 := by omega
      clear HT3
      rcases hy4 with rfl | rfl | rfl | rfl
      · obtain ⟨mv, hmv⟩ : ∃ mv, mv = m 0 := ⟨_, rfl⟩
        rw [← hmv] at HA1 HA2
        have p_B0_0 := (cell_of_row W1 _ 0 _ _ _ B0.out).trans (show _ = some (Value.int .i64 sg) from rfl)
        have p_B0_1 := (cell_of_row W1 _ 1 _ _ _ B0.out).trans (show _ = some (Value.int .i64 ba) from rfl)
        have p_B0_2 := (cell_of_row W1 _ 2 _ _ _ B0.out).trans (show _ = some (Value.slice p2 x2.length c2) from rfl)
        have p_B0_3 := (cell_of_row W1 _ 3 _ _ _ B0.out).trans (show _ = some (Value.slice (some ⟨bt, offt, none⟩) x3.length c3) from rfl)
        have p_B0_4 := (cell_of_row W1 _ 4 _ _ _ B0.out).trans (show _ = some (Value.slice (some ⟨br, offr, none⟩) x4.length c4) from rfl)
        have p_BM_0 := (cell_of_row W1 _ 0 _ _ _ BM.out).trans (show _ = some (Value.bool (m 0)) from rfl)
        have p_BM_1 := (cell_of_row W1 _ 1 _ _ _ BM.out).trans (show _ = some (Value.bool (m 1)) from rfl)
        have p_BM_2 := (cell_of_row W1 _ 2 _ _ _ BM.out).trans (show _ = some (Value.bool (m 2)) from rfl)
        have p_BM_3 := (cell_of_row W1 _ 3 _ _ _ BM.out).trans (show _ = some (Value.bool (m 3)) from rfl)
        rw [← hmv] at p_BM_0
        clear hmv
        have f3 := F3.out; have f4 := F4.out
        cases mv with
        | true =>
          have HZ := Lib.hid (HA1.out rfl).1
          have HB := Lib.hid (HA1.out rfl).2
          clear HA1 HA2
          go_wp2
          go_round
          case rel => exact ⟨j + 1, z + rv, true, by omega, by go_num, rfl, rfl, HZ, HB⟩
          case measure => simp [intOf]; omega
        | false =>
          have HZ := Lib.hid (HA2.out rfl).1
          have HB := Lib.hid (HA2.out rfl).2
          clear HA1 HA2
          go_wp2
          go_round
          case rel => exact ⟨j + 1, z, bb, by omega, by go_num, rfl, rfl, HZ, HB⟩
          case measure => simp [intOf]; omega
      · obtain ⟨mv, hmv⟩ : ∃ mv, mv = m 1 := ⟨_, rfl⟩
        rw [← hmv] at HA1 HA2
        have p_B0_0 := (cell_of_row W1 _ 0 _ _ _ B0.out).trans (show _ = some (Value.int .i64 sg) from rfl)
        have p_B0_1 := (cell_of_row W1 _ 1 _ _ _ B0.out).trans (show _ = some (Value.int .i64 ba) from rfl)
        have p_B0_2 := (cell_of_row W1 _ 2 _ _ _ B0.out).trans (show _ = some (Value.slice p2 x2.length c2) from rfl)
        have p_B0_3 := (cell_of_row W1 _ 3 _ _ _ B0.out).trans (show _ = some (Value.slice (some ⟨bt, offt, none⟩) x3.length c3) from rfl)
        have p_B0_4 := (cell_of_row W1 _ 4 _ _ _ B0.out).trans (show _ = some (Value.slice (some ⟨br, offr, none⟩) x4.length c4) from rfl)
        have p_BM_0 := (cell_of_row W1 _ 0 _ _ _ BM.out).trans (show _ = some (Value.bool (m 0)) from rfl)
        have p_BM_1 := (cell_of_row W1 _ 1 _ _ _ BM.out).trans (show _ = some (Value.bool (m 1)) from rfl)
        have p_BM_2 := (cell_of_row W1 _ 2 _ _ _ BM.out).trans (show _ = some (Value.bool (m 2)) from rfl)
        have p_BM_3 := (cell_of_row W1 _ 3 _ _ _ BM.out).trans (show _ = some (Value.bool (m 3)) from rfl)
        rw [← hmv] at p_BM_1
        clear hmv
        have f3 := F3.out; have f4 := F4.out
        cases mv with
        | true =>
          have HZ := Lib.hid (HA1.out rfl).1
          have HB := Lib.hid (HA1.out rfl).2
          clear HA1 HA2
          go_wp2
          go_round
          case rel => exact ⟨j + 1, z + rv, true, by omega, by go_num, rfl, rfl, HZ, HB⟩
          case measure => simp [intOf]; omega
        | false =>
          have HZ := Lib.hid (HA2.out rfl).1
          have HB := Lib.hid (HA2.out rfl).2
          clear HA1 HA2
          go_wp2
          go_round
          case rel => exact ⟨j + 1, z, bb, by omega, by go_num, rfl, rfl, HZ, HB⟩
          case measure => simp [intOf]; omega
      · obtain ⟨mv, hmv⟩ : ∃ mv, mv = m 2 := ⟨_, rfl⟩
        rw [← hmv] at HA1 HA2
        have p_B0_0 := (cell_of_row W1 _ 0 _ _ _ B0.out).trans (show _ = some (Value.int .i64 sg) from rfl)
        have p_B0_1 := (cell_of_row W1 _ 1 _ _ _ B0.out).trans (show _ = some (Value.int .i64 ba) from rfl)
        have p_B0_2 := (cell_of_row W1 _ 2 _ _ _ B0.out).trans (show _ = some (Value.slice p2 x2.length c2) from rfl)
        have p_B0_3 := (cell_of_row W1 _ 3 _ _ _ B0.out).trans (show _ = some (Value.slice (some ⟨bt, offt, none⟩) x3.length c3) from rfl)
        have p_B0_4 := (cell_of_row W1 _ 4 _ _ _ B0.out).trans (show _ = some (Value.slice (some ⟨br, offr, none⟩) x4.length c4) from rfl)
        have p_BM_0 := (cell_of_row W1 _ 0 _ _ _ BM.out).trans (show _ = some (Value.bool (m 0)) from rfl)
        have p_BM_1 := (cell_of_row W1 _ 1 _ _ _ BM.out).trans (show _ = some (Value.bool (m 1)) from rfl)
        have p_BM_2 := (cell_of_row W1 _ 2 _ _ _ BM.out).trans (show _ = some (Value.bool (m 2)) from rfl)
        have p_BM_3 := (cell_of_row W1 _ 3 _ _ _ BM.out).trans (show _ = some (Value.bool (m 3)) from rfl)
        rw [← hmv] at p_BM_2
        clear hmv
        have f3 := F3.out; have f4 := F4.out
        cases mv with
        | true =>
          have HZ := Lib.hid (HA1.out rfl).1
          have HB := Lib.hid (HA1.out rfl).2
          clear HA1 HA2
          go_wp2
          go_round
          case rel => exact ⟨j + 1, z + rv, true, by omega, by go_num, rfl, rfl, HZ, HB⟩
          case measure => simp [intOf]; omega
        | false =>
          have HZ := Lib.hid (HA2.out rfl).1
          have HB := Lib.hid (HA2.out rfl).2
          clear HA1 HA2
          go_wp2
          go_round
          case rel => exact ⟨j + 1, z, bb, by omega, by go_num, rfl, rfl, HZ, HB⟩
          case measure => simp [intOf]; omega
      · obtain ⟨mv, hmv⟩ : ∃ mv, mv = m 3 := ⟨_, rfl⟩
        rw [← hmv] at HA1 HA2
        have p_B0_0 := (cell_of_row W1 _ 0 _ _ _ B0.out).trans (show _ = some (Value.int .i64 sg) from rfl)
        have p_B0_1 := (cell_of_row W1 _ 1 _ _ _ B0.out).trans (show _ = some (Value.int .i64 ba) from rfl)
        have p_B0_2 := (cell_of_row W1 _ 2 _ _ _ B0.out).trans (show _ = some (Value.slice p2 x2.length c2) from rfl)
        have p_B0_3 := (cell_of_row W1 _ 3 _ _ _ B0.out).trans (show _ = some (Value.slice (some ⟨bt, offt, none⟩) x3.length c3) from rfl)
        have p_B0_4 := (cell_of_row W1 _ 4 _ _ _ B0.out).trans (show _ = some (Value.slice (some ⟨br, offr, none⟩) x4.length c4) from rfl)
        have p_BM_0 := (cell_of_row W1 _ 0 _ _ _ BM.out).trans (show _ = some (Value.bool (m 0)) from rfl)
        have p_BM_1 := (cell_of_row W1 _ 1 _ _ _ BM.out).trans (show _ = some (Value.bool (m 1)) from rfl)
        have p_BM_2 := (cell_of_row W1 _ 2 _ _ _ BM.out).trans (show _ = some (Value.bool (m 2)) from rfl)
        have p_BM_3 := (cell_of_row W1 _ 3 _ _ _ BM.out).trans (show _ = some (Value.bool (m 3)) from rfl)
        rw [← hmv] at p_BM_3
        clear hmv
        have f3 := F3.out; have f4 := F4.out
        cases mv with
        | true =>
          have HZ := Lib.hid (HA1.out rfl).1
          have HB := Lib.hid (HA1.out rfl).2
          clear HA1 HA2
          go_wp2
          go_round
          case rel => exact ⟨j + 1, z + rv, true, by omega, by go_num, rfl, rfl, HZ, HB⟩
          case measure => simp [intOf]; omega
        | false =>
          have HZ := Lib.hid (HA2.out rfl).1
          have HB := Lib.hid (HA2.out rfl).2
          clear HA1 HA2
          go_wp2
          go_round
          case rel => exact ⟨j + 1, z, bb, by omega, by go_num, rfl, rfl, HZ, HB⟩
          case measure => simp [intOf]; omega
    · obtain rfl : j = x3.length := by omega
      rw [HL3.out] at hz hbb
      cases bb with
      | true =>
        have HZ := Lib.hid (hz.out.trans (HYES.out hbb.out.symm))
        clear hz hbb HYES HNO
        go_wp2
        go_ret
        exact ⟨ret_n HZ.out, d.out⟩
      | false =>
        have HZ := Lib.hid (HNO.out hbb.out.symm)
        clear hz hbb HYES HNO
        go_wp2
        go_ret
        exact ⟨ret_n HZ.out.symm, d.out⟩
set_option maxHeartbeats 8000000 in
set_option maxRecDepth 100000 in
theorem sumCo (m : Int → Bool) (v : Value) (l : List ChargeD) (w : World) (h : SlR tCharge w v l) (hs : zL tCharge l ≤ 1048576) :
    Calls Tryd.prog 40 #[v, .func (.func 42) #[.agg #[.bool (m 0), .bool (m 1), .bool (m 2), .bool (m 3)]] #[]] w (fun e w' => e = .returned (.int .i64 (totalL (coX m) l)) ∧ Below w.heap.size w w') := by
  have hlen := zL_len hs
  have HS := Lib.hid hs
  have H := Lib.hid h
  obtain ⟨a, cap, rfl⟩ := slR_len h
  clear h hs
  go_enter Tryd.func40, Tryd.ntmps40
  go_wp2
  go_loopw [5, 10] (fun n i wr => ∃ (k : Nat) (s : Int), k ≤ l.length ∧ i = .int .i64 k ∧ n = .int .i64 s ∧ Hid (s = totalTo (coX m) l k) ∧ Below w.heap.size w wr) (fun _ i _ => l.length - (intOf i).toNat)
  case atStart => exact ⟨0, 0, Nat.zero_le _, rfl, rfl, Lib.hid rfl, Below.refl _ _⟩
  case round =>
    obtain ⟨k, s, hk, rfl, rfl, hsum, c⟩ := hrel
    have cw := Lib.hid c
    have s1 := totalTo_bd (f := (coX m)) (coX_bd m) l k
    rw [← hsum.out] at s1
    obtain ⟨s1, s2'⟩ := s1
    have s2 : s ≤ 100000000 := by omega
    clear s2'
    by_cases hlt : k < l.length
    · have i1 : (0 : Int) ≤ (k : Int) := by omega
      have i2 : (k : Int) < (l.length : Int) := by omega
      have hz := zL_at HS.out hlt
      change tCharge.sz (l.getD k x0D) ≤ 1048576 at hz
      have HN : Hid (s + (coX m) (l.getD k x0D) = totalTo (coX m) l (k + 1)) := Lib.hid (by rw [totalTo_succ, hsum.out])
      obtain ⟨b, off, cap', p2, c2, p3, c3, p4, c4, hv, hbl, e0, e1, e2, e3, e4, s2, s3, s4⟩ := chg_at (slR_below tCharge_law H.out c) hlt
      simp only [Value.slice.injEq] at hv
      obtain ⟨rfl, _, rfl⟩ := hv
      have HBL := Lib.hid (show b < wr.heap.size from hbl)
      generalize l.getD k x0D = x at *
      obtain ⟨sg, ba, x2, x3, x4⟩ := x
      rw [tCharge_sz] at hz
      dsimp only at *
      clear hbl
      have hal : Below wr.heap.size wr (wr.alloc (.cells #[.int .i64 sg, .int .i64 ba, .slice p2 x2.length c2, .slice p3 x3.length c3, .slice p4 x4.length c4] 26)) := (Below.refl _ _).alloc (Nat.le_refl _) _
      have HC0 := costOf_any m sg ba (.slice p2 x2.length c2) (.slice p3 x3.length c3) (.slice p4 x4.length c4) x2 x3 x4 _ (slR_below tInt_law s2 hal) (slR_below tInt_law s3 hal) (slR_below tInt_law s4 hal) (by omega) (by omega) (by omega)
      have HC := Lib.hid (HC0.mono (fun e w' hh => (⟨hh.1, hal.trans (hh.2.mono hal.size)⟩ : e = .returned (.int .i64 ((coX m) (sg, ba, x2, x3, x4))) ∧ Below wr.heap.size wr w')))
      have hy := (coX_bd m) (sg, ba, x2, x3, x4)
      clear HC0 hal s2 s3 s4 hz hsum c
      generalize (coX m) (sg, ba, x2, x3, x4) = y at *
      obtain ⟨y1, y2⟩ := hy
      go_wp2_with fail
      refine HC.out.mono ?_
      rintro e w2 ⟨rfl, c2⟩
      have cw2 := Lib.hid (cw.out.trans (c2.mono cw.out.size))
      clear c2 HC e0 e1 e2 e3 e4
      go_wp2
      go_roundw
      case rel => exact ⟨k + 1, s + y, by omega, by go_num, rfl, HN, cw2.out⟩
      case measure => simp [intOf]; omega
    · obtain rfl : k = l.length := by omega
      have HT : Hid (s = totalL (coX m) l) := Lib.hid hsum.out
      clear hsum c
      go_wp2
      go_ret
      exact ⟨ret_n HT.out, cw.out⟩
set_option maxHeartbeats 8000000 in
set_option maxRecDepth 100000 in
theorem implCoalitionCost (v tv : Value) (l : List ChargeD) (ts : List Int) (w : World) (h : SlR tCharge w v l) (hs : zL tCharge l ≤ 1048576) (ht : SlR tInt w tv ts) (hnt : ts.length ≤ 1048576) :
    Calls Tryd.prog 16 #[v, tv] w (fun e w' => e = .returned (.int .i64 (totalL (coX (memB ts)) l)) ∧ Below w.heap.size w w') := by
  have HC0 := Lib.hid (coalitionOf_any tv ts w ht hnt)
  have HC1 := Lib.hid (fun u (c : Below w.heap.size w u) => sumCo (memB ts) v l u (slR_below tCharge_law h c) hs)
  have hmf : ∀ (fn : Fn) (first cap : Array Value) (w : World), (Instr.makeFunc fn first cap).run Tryd.prog w = .ok (.func fn first cap) w := fun _ _ _ _ => rfl
  clear h hs ht
  go_enter Tryd.func16, Tryd.ntmps16
  go_wp2_with fail
  refine HC0.out.mono ?_
  rintro e w1 ⟨rfl, c⟩
  have HC := Lib.hid (HC1.out w1 c)
  have C1 := Lib.hid c
  clear c HC0 HC1
  go_wp2_with fail
  refine HC.out.mono ?_
  rintro e w2 ⟨rfl, c⟩
  have C2 := Lib.hid (C1.out.trans (c.mono C1.out.size))
  clear c HC
  go_wp2
  go_ret
  exact ⟨rfl, C2.out⟩
end Go.Proofs.YtjeaimdnddelpaaDoor
namespace Go.Proofs.YtjeaimdnddelpaaDoor
open Go.RowKit
set_option linter.unusedVariables false
set_option linter.unusedSimpArgs false
def worstTo (l : List ChargeD) : Nat → Int
  | 0 => 0
  | k + 1 => max (worstTo l k) (workX (l.getD k x0D))
theorem worstTo_succ (l : List ChargeD) (k : Nat) : worstTo l (k + 1) = max (worstTo l k) (workX (l.getD k x0D)) := rfl
def worstL (l : List ChargeD) : Int := worstTo l l.length
end Go.Proofs.YtjeaimdnddelpaaDoor
namespace Go.Proofs.YtjeaimdnddelpaaDoor
open Go.RowKit
set_option linter.unusedVariables false
set_option linter.unusedSimpArgs false
set_option maxHeartbeats 8000000 in
set_option maxRecDepth 100000 in
theorem specWorstStep (v : Value) (l : List ChargeD) (w : World) (h : SlR tCharge w v l) (hs : zL tCharge l ≤ 1048576) :
    Calls Tryd.prog 25 #[v] w (fun e w' => e = .returned (.int .i64 (worstL l)) ∧ Below w.heap.size w w') := by
  have hlen := zL_len hs
  have HS := Lib.hid hs
  have H := Lib.hid h
  obtain ⟨a, cap, rfl⟩ := slR_len h
  clear h hs
  go_enter Tryd.func25, Tryd.ntmps25
  go_wp2
  go_loopw [3, 4] (fun n i wr => ∃ (k : Nat) (s : Int), k ≤ l.length ∧ i = .int .i64 k ∧ n = .int .i64 s ∧ Hid (s = worstTo l k) ∧ Below w.heap.size w wr) (fun _ i _ => l.length - (intOf i).toNat)
  case atStart => exact ⟨0, 0, Nat.zero_le _, rfl, rfl, Lib.hid rfl, Below.refl _ _⟩
  case round =>
    obtain ⟨k, s, hk, rfl, rfl, hsum, c⟩ := hrel
    have cw := Lib.hid c
    by_cases hlt : k < l.length
    · have i1 : (0 : Int) ≤ (k : Int) := by omega
      have i2 : (k : Int) < (l.length : Int) := by omega
      have hz := zL_at HS.out hlt
      change tCharge.sz (l.getD k x0D) ≤ 1048576 at hz
      have HN : Hid (max s (workX (l.getD k x0D)) = worstTo l (k + 1)) := Lib.hid (by rw [worstTo_succ, hsum.out])
      obtain ⟨b, off, cap', p2, c2, p3, c3, p4, c4, hv, hbl, e0, e1, e2, e3, e4, s2, s3, s4⟩ := chg_at (slR_below tCharge_law H.out c) hlt
      simp only [Value.slice.injEq] at hv
      obtain ⟨rfl, _, rfl⟩ := hv
      have HBL := Lib.hid (show b < wr.heap.size from hbl)
      generalize l.getD k x0D = x at *
      obtain ⟨sg, ba, x2, x3, x4⟩ := x
      rw [tCharge_sz] at hz
      dsimp only at *
      clear hbl
      have HC := Lib.hid (specWorkDone sg ba (.slice p2 x2.length c2) (.slice p3 x3.length c3) (.slice p4 x4.length c4) x2 x3 x4 wr s2 s3 s4 (zL_len (show zL tInt x2 ≤ 1048576 by omega)) (zL_len (show zL tInt x3 ≤ 1048576 by omega)) (zL_len (show zL tInt x4 ≤ 1048576 by omega)))
      clear hsum c s2 s3 s4 hz
      generalize workX (sg, ba, x2, x3, x4) = y at *
      go_wp2_with fail
      refine HC.out.mono ?_
      rintro e w2 ⟨rfl, c2⟩
      have cw2 := Lib.hid (cw.out.trans (c2.mono cw.out.size))
      clear c2 HC e0 e1 e2 e3 e4
      go_wp2
      go_roundw
      case rel => exact ⟨k + 1, max s y, by omega, by go_num, rfl, HN, cw2.out⟩
      case measure => simp [intOf]; omega
    · obtain rfl : k = l.length := by omega
      have HT : Hid (s = worstL l) := Lib.hid hsum.out
      clear hsum c
      go_wp2
      go_ret
      exact ⟨ret_n HT.out, cw.out⟩
set_option maxHeartbeats 8000000 in
set_option maxRecDepth 100000 in
theorem implWorstStep (v : Value) (l : List ChargeD) (w : World) (h : SlR tCharge w v l) (hs : zL tCharge l ≤ 1048576) :
    Calls Tryd.prog 24 #[v] w (fun e w' => e = .returned (.int .i64 (worstL l)) ∧ Below w.heap.size w w') := by
  have hlen := zL_len hs
  have HS := Lib.hid hs
  have H := Lib.hid h
  obtain ⟨a, cap, rfl⟩ := slR_len h
  clear h hs
  go_enter Tryd.func24, Tryd.ntmps24
  go_wp2
  go_loopw [3, 8] (fun n i wr => ∃ (k : Nat) (s : Int), k ≤ l.length ∧ i = .int .i64 k ∧ n = .int .i64 s ∧ Hid (s = worstTo l k) ∧ Below w.heap.size w wr) (fun _ i _ => l.length - (intOf i).toNat)
  case atStart => exact ⟨0, 0, Nat.zero_le _, rfl, rfl, Lib.hid rfl, Below.refl _ _⟩
  case round =>
    obtain ⟨k, s, hk, rfl, rfl, hsum, c⟩ := hrel
    have cw := Lib.hid c
    by_cases hlt : k < l.length
    · have i1 : (0 : Int) ≤ (k : Int) := by omega
      have i2 : (k : Int) < (l.length : Int) := by omega
      have hz := zL_at HS.out hlt
      change tCharge.sz (l.getD k x0D) ≤ 1048576 at hz
      have HN : Hid (max s (workX (l.getD k x0D)) = worstTo l (k + 1)) := Lib.hid (by rw [worstTo_succ, hsum.out])
      obtain ⟨b, off, cap', p2, c2, p3, c3, p4, c4, hv, hbl, e0, e1, e2, e3, e4, s2, s3, s4⟩ := chg_at (slR_below tCharge_law H.out c) hlt
      simp only [Value.slice.injEq] at hv
      obtain ⟨rfl, _, rfl⟩ := hv
      have HBL := Lib.hid (show b < wr.heap.size from hbl)
      generalize l.getD k x0D = x at *
      obtain ⟨sg, ba, x2, x3, x4⟩ := x
      rw [tCharge_sz] at hz
      dsimp only at *
      clear hbl
      have hal : Below wr.heap.size wr (wr.alloc (.cells #[.int .i64 sg, .int .i64 ba, .slice p2 x2.length c2, .slice p3 x3.length c3, .slice p4 x4.length c4] 26)) := (Below.refl _ _).alloc (Nat.le_refl _) _
      have HC0 := implWorkDone sg ba (.slice p2 x2.length c2) (.slice p3 x3.length c3) (.slice p4 x4.length c4) x2 x3 x4 _ (slR_below tInt_law s2 hal) (slR_below tInt_law s3 hal) (slR_below tInt_law s4 hal) (by omega) (by omega) (by omega)
      have HC := Lib.hid (HC0.mono (fun e w' hh => (⟨hh.1, hal.trans (hh.2.mono hal.size)⟩ : e = .returned (.int .i64 (workX (sg, ba, x2, x3, x4))) ∧ Below wr.heap.size wr w')))
      clear HC0 hal
      clear hsum c s2 s3 s4 hz
      generalize workX (sg, ba, x2, x3, x4) = y at *
      go_wp2_with fail
      refine HC.out.mono ?_
      rintro e w2 ⟨rfl, c2⟩
      have cw2 := Lib.hid (cw.out.trans (c2.mono cw.out.size))
      clear c2 HC e0 e1 e2 e3 e4
      go_wp2
      go_roundw
      case rel => exact ⟨k + 1, max s y, by omega, by go_num, rfl, HN, cw2.out⟩
      case measure => simp [intOf]; omega
    · obtain rfl : k = l.length := by omega
      have HT : Hid (s = worstL l) := Lib.hid hsum.out
      clear hsum c
      go_wp2
      go_ret
      exact ⟨ret_n HT.out, cw.out⟩
end Go.Proofs.YtjeaimdnddelpaaDoor
namespace Go.Proofs.YtjeaimdnddelpaaDoor
open Go.RowKit
set_option linter.unusedVariables false
end Go.Proofs.YtjeaimdnddelpaaDoor
namespace Go.Proofs.YtjeaimdnddelpaaDoor
open Go.RowKit
set_option linter.unusedVariables false
set_option linter.unusedSimpArgs false
end Go.Proofs.YtjeaimdnddelpaaDoor
namespace Go.Proofs.YtjeaimdnddelpaaDoor
open Go.RowKit
set_option linter.unusedVariables false
/-! The program's comparison: a number below zero, zero, or above zero. -/
end Go.Proofs.YtjeaimdnddelpaaDoor
namespace Go.Proofs.YtjeaimdnddelpaaDoor
open Go.RowKit
set_option linter.unusedVariables false
set_option linter.unusedSimpArgs false
end Go.Proofs.YtjeaimdnddelpaaDoor
namespace Go.Proofs.YtjeaimdnddelpaaDoor
open Go.RowKit
set_option linter.unusedVariables false
set_option linter.unusedSimpArgs false
end Go.Proofs.YtjeaimdnddelpaaDoor
namespace Go.Proofs.YtjeaimdnddelpaaDoor
open Go.RowKit
set_option linter.unusedVariables false
set_option linter.unusedSimpArgs false
end Go.Proofs.YtjeaimdnddelpaaDoor
namespace Go.Proofs.YtjeaimdnddelpaaDoor
open Go.RowKit
set_option linter.unusedVariables false
set_option linter.unusedSimpArgs false
end Go.Proofs.YtjeaimdnddelpaaDoor
namespace Go.Proofs.YtjeaimdnddelpaaDoor
open Go.RowKit
set_option linter.unusedVariables false
set_option linter.unusedSimpArgs false
end Go.Proofs.YtjeaimdnddelpaaDoor
namespace Go.Proofs.YtjeaimdnddelpaaDoor
open Go.RowKit
set_option linter.unusedVariables false
set_option linter.unusedSimpArgs false
end Go.Proofs.YtjeaimdnddelpaaDoor
namespace Go.Proofs.YtjeaimdnddelpaaDoor
open Go.RowKit
set_option linter.unusedVariables false
end Go.Proofs.YtjeaimdnddelpaaDoor
namespace Go.Proofs.YtjeaimdnddelpaaDoor
open Go.RowKit
set_option linter.unusedVariables false
set_option linter.unusedSimpArgs false
end Go.Proofs.YtjeaimdnddelpaaDoor
namespace Go.Proofs.YtjeaimdnddelpaaDoor
open Go.RowKit
set_option linter.unusedVariables false
set_option linter.unusedSimpArgs false
end Go.Proofs.YtjeaimdnddelpaaDoor
namespace Go.Proofs.YtjeaimdnddelpaaDoor
open Go.RowKit
set_option linter.unusedVariables false
set_option linter.unusedSimpArgs false
end Go.Proofs.YtjeaimdnddelpaaDoor
namespace Go.Proofs.YtjeaimdnddelpaaDoor
open Go.RowKit
set_option linter.unusedVariables false
set_option linter.unusedSimpArgs false
end Go.Proofs.YtjeaimdnddelpaaDoor
namespace Go.Proofs.YtjeaimdnddelpaaDoor
open Go.RowKit
set_option linter.unusedVariables false
set_option linter.unusedSimpArgs false
end Go.Proofs.YtjeaimdnddelpaaDoor
namespace Go.Proofs.YtjeaimdnddelpaaDoor
open Go.RowKit
set_option linter.unusedVariables false
end Go.Proofs.YtjeaimdnddelpaaDoor
namespace Go.Proofs.YtjeaimdnddelpaaDoor
open Go.RowKit
set_option linter.unusedVariables false
set_option linter.unusedSimpArgs false
end Go.Proofs.YtjeaimdnddelpaaDoor
namespace Go.Proofs.YtjeaimdnddelpaaDoor
open Go.RowKit
set_option linter.unusedVariables false
set_option linter.unusedSimpArgs false
end Go.Proofs.YtjeaimdnddelpaaDoor
namespace Go.Proofs.YtjeaimdnddelpaaDoor
open Go.RowKit
set_option linter.unusedVariables false
set_option linter.unusedSimpArgs false
end Go.Proofs.YtjeaimdnddelpaaDoor
namespace Go.Proofs.YtjeaimdnddelpaaDoor
open Go.RowKit
set_option linter.unusedVariables false
end Go.Proofs.YtjeaimdnddelpaaDoor
namespace Go.Proofs.YtjeaimdnddelpaaDoor
open Go.RowKit
set_option linter.unusedVariables false
set_option linter.unusedSimpArgs false
end Go.Proofs.YtjeaimdnddelpaaDoor
namespace Go.Proofs.YtjeaimdnddelpaaDoor
open Go.RowKit
set_option linter.unusedVariables false
set_option linter.unusedSimpArgs false
end Go.Proofs.YtjeaimdnddelpaaDoor
namespace Go.Proofs.YtjeaimdnddelpaaDoor
open Go.RowKit
set_option linter.unusedVariables false
set_option linter.unusedSimpArgs false
end Go.Proofs.YtjeaimdnddelpaaDoor
namespace Go.Proofs.YtjeaimdnddelpaaDoor
open Go.RowKit
set_option linter.unusedVariables false
set_option linter.unusedSimpArgs false
end Go.Proofs.YtjeaimdnddelpaaDoor
namespace Go.Proofs.YtjeaimdnddelpaaDoor
open Go.RowKit
set_option linter.unusedVariables false
/-! ### Meet -/
/-! ### Sub -/
end Go.Proofs.YtjeaimdnddelpaaDoor
namespace Go.Proofs.YtjeaimdnddelpaaDoor
open Go.RowKit
set_option linter.unusedVariables false
set_option linter.unusedSimpArgs false
end Go.Proofs.YtjeaimdnddelpaaDoor
namespace Go.Proofs.YtjeaimdnddelpaaDoor
open Go.RowKit
set_option linter.unusedVariables false
set_option linter.unusedSimpArgs false
end Go.Proofs.YtjeaimdnddelpaaDoor
namespace Go.Proofs.YtjeaimdnddelpaaDoor
open Go.RowKit
set_option linter.unusedVariables false
set_option linter.unusedSimpArgs false
end Go.Proofs.YtjeaimdnddelpaaDoor
namespace Go.Proofs.YtjeaimdnddelpaaDoor
open Go.RowKit
set_option linter.unusedVariables false
set_option linter.unusedSimpArgs false
end Go.Proofs.YtjeaimdnddelpaaDoor
namespace Go.Proofs.YtjeaimdnddelpaaDoor
open Go.RowKit
set_option linter.unusedVariables false
set_option linter.unusedSimpArgs false
end Go.Proofs.YtjeaimdnddelpaaDoor
namespace Go.Proofs.YtjeaimdnddelpaaDoor
open Go.RowKit
set_option linter.unusedVariables false
set_option linter.unusedSimpArgs false
end Go.Proofs.YtjeaimdnddelpaaDoor
namespace Go.Proofs.YtjeaimdnddelpaaDoor
open Go.RowKit
set_option linter.unusedVariables false
set_option linter.unusedSimpArgs false
end Go.Proofs.YtjeaimdnddelpaaDoor
namespace Go.Proofs.YtjeaimdnddelpaaDoor
open Go.RowKit
set_option linter.unusedVariables false
set_option linter.unusedSimpArgs false
end Go.Proofs.YtjeaimdnddelpaaDoor
namespace Go.Proofs.YtjeaimdnddelpaaDoor
open Go.RowKit
set_option linter.unusedVariables false
set_option linter.unusedSimpArgs false
end Go.Proofs.YtjeaimdnddelpaaDoor
namespace Go.Proofs.YtjeaimdnddelpaaDoor
open Go.RowKit
set_option linter.unusedVariables false
/-- The slice v reads as the bytes xs. -/
def Code (w : World) (v : Value) (xs : List Int) : Prop :=
  (xs = [] ∧ ∃ a cap, v = .slice a 0 cap) ∨ ∃ b off cap, v = .slice (some ⟨b, off, none⟩) xs.length cap ∧ xs.length ≤ cap ∧ b < w.heap.size ∧ ∀ j, j < xs.length → w.cell? ⟨b, off + j, none⟩ = some (.int .u8 (xs.getD j 0))
/-- The cursor in block c over the bytes. -/
structure Cur (w0 : World) (c : Nat) (v : Value) (xs : List Int) (w : World) : Prop where
  code : Code w0 v xs
  small : xs.length ≤ 1048576
  bytes : ∀ x ∈ xs, 0 ≤ x ∧ x ≤ 255
  new : w0.heap.size ≤ c
  cells : ∃ i : Nat, ∃ h : Int, i ≤ xs.length ∧ w.heap[c]? = some (.cells #[v, .int .i64 i, .int .i64 h] 62 (0, 0))
  old : Below w0.heap.size w0 w
theorem and255 (z : Int) : 0 ≤ bits .and .i64 z 255 ∧ bits .and .i64 z 255 ≤ 255 := by
  have h : (BitVec.ofInt 64 z &&& BitVec.ofInt 64 255).toNat ≤ 255 := by
    rw [BitVec.toNat_and]
    exact Nat.le_trans Nat.and_le_right (by decide)
  have e : bits .and .i64 z 255 = IntKind.i64.wrap (((BitVec.ofInt 64 z &&& BitVec.ofInt 64 255).toNat : Nat) : Int) := rfl
  rw [e, IntKind.wrap_i64]
  omega
/-- What one byte leaves. -/
def Drawn (w0 : World) (c : Nat) (v : Value) (xs : List Int) (w : World) (top : Int) (e : Ending) (w' : World) : Prop :=
  ∃ x : Int, 0 ≤ x ∧ x ≤ top ∧ e = .returned (.int .i64 x) ∧ Cur w0 c v xs w' ∧ w.grownBy w' (some c)
theorem grown_set2 {w : World} {c : Nat} {v : Value} {i h : Int} {T : TypeId} (hc : w.heap[c]? = some (.cells #[v, .int .i64 i, .int .i64 h] T (0, 0))) (h' : Int) :
    (w.setCell ⟨c, 2, none⟩ (.int .i64 h')).heap[c]? = some (.cells #[v, .int .i64 i, .int .i64 h'] T (0, 0)) := by
  rw [heap_setCell_same w c 2 _ T _ hc]; rfl
theorem grown_set1 {w : World} {c : Nat} {v : Value} {i h : Int} {T : TypeId} (hc : w.heap[c]? = some (.cells #[v, .int .i64 i, .int .i64 h] T (0, 0))) (i' : Int) :
    (w.setCell ⟨c, 1, none⟩ (.int .i64 i')).heap[c]? = some (.cells #[v, .int .i64 i', .int .i64 h] T (0, 0)) := by
  rw [heap_setCell_same w c 1 _ T _ hc]; rfl
theorem grownBy_setCell (w : World) (c j : Nat) (u : Value) : w.grownBy (w.setCell ⟨c, j, none⟩ u) (some c) :=
  ⟨rfl, rfl, rfl, by simp [World.setCell], fun k _ hk => heap_setCell_other w ⟨c, j, none⟩ k u (fun e => hk (by simp [e]))⟩
theorem below_like {B : Nat} {a w w' : World} (h : Below B a w) (h1 : w'.heap = w.heap) (h2 : w'.os = w.os) (h3 : w'.tape = w.tape) (h4 : w'.output = w.output) : Below B a w' :=
  ⟨h2.trans h.os, h3.trans h.tape, h4.trans h.output, by rw [h1]; exact h.size, fun k hk => by rw [h1]; exact h.block k hk⟩
theorem grown_like {a w w' : World} {r : Option Nat} (h : a.grownBy w r) (h1 : w'.heap = w.heap) (h2 : w'.os = w.os) (h3 : w'.tape = w.tape) (h4 : w'.output = w.output) : a.grownBy w' r :=
  ⟨h2.trans h.os, h3.trans h.tape, h4.trans h.output, by rw [h1]; exact h.size, fun k hk hn => by rw [h1]; exact h.block k hk hn⟩
theorem grown_chain {a b c : World} {r : Option Nat} (h : a.grownBy b r) (k : b.grownBy c r) : a.grownBy c r :=
  ⟨k.os.trans h.os, k.tape.trans h.tape, k.output.trans h.output, Nat.le_trans h.size k.size, fun i hi hne => (k.block i (Nat.lt_of_lt_of_le hi h.size) hne).trans (h.block i hi hne)⟩
set_option maxRecDepth 100000 in
theorem byte_any (w0 : World) (c : Nat) (v : Value) (xs : List Int) (w : World) (hC : Cur w0 c v xs w) :
    Calls Tryd.prog 53 #[.pointer (some ⟨c, 0, none⟩)] w (Drawn w0 c v xs w 255) := by
  obtain ⟨hcode, hsm, hby, hnew, ⟨i, h, hi, hc⟩, hold⟩ := hC
  have c0 := cell_of_row w c 0 _ _ _ hc
  have c1 := cell_of_row w c 1 _ _ _ hc
  have c2 := cell_of_row w c 2 _ _ _ hc
  have f1 := frozen_of_row w c 1 _ _ hc
  have f2 := frozen_of_row w c 2 _ _ hc
  simp at c0 c1 c2
  have HC := Lib.hid hc; clear hc
  by_cases hlt : i < xs.length
  · rcases hcode with ⟨rfl, _⟩ | ⟨b, off, cap, rfl, hcap, hbl, hb⟩
    · simp at hlt
    have hbi := hb i hlt
    have i1 : (0 : Int) ≤ (i : Int) := by omega
    have i2 : (i : Int) < (xs.length : Int) := by omega
    have HB := Lib.hid hb; clear hb
    have hcl := (Array.getElem?_eq_some_iff.1 HC.out).1
    have hcb : w.cell? ⟨b, off + i, none⟩ = some (.int .u8 (xs.getD i 0)) := (hold.cell hbl).trans hbi
    clear hbi
    generalize xs.getD i 0 = y at hcb
    go_enter Tryd.func53, Tryd.ntmps53
    go_wp2
    generalize wrap64 (wrap64 (h * 6364136223846793005) + 1442695040888963407) = g
    have hc2 := grown_set2 HC.out g
    have hg2 := grownBy_setCell w c 2 (.int .i64 g)
    have ho2 := hold.setCell (p := ⟨c, 2, none⟩) hnew (.int .i64 g)
    have hcb2 : (w.setCell ⟨c, 2, none⟩ (.int .i64 g)).cell? ⟨b, off + i, none⟩ = some (.int .u8 y) := by
      rw [World.cell?_of_block (w := w) (hg2.block b (by have := hold.size; omega) (by intro e; simp at e; omega))]; exact hcb
    generalize w.setCell ⟨c, 2, none⟩ (.int .i64 g) = w2 at *
    clear c0 c1 c2 f1 f2 hcb
    have c0 := cell_of_row w2 c 0 _ _ _ hc2
    have c1 := cell_of_row w2 c 1 _ _ _ hc2
    have c2 := cell_of_row w2 c 2 _ _ _ hc2
    have f1 := frozen_of_row w2 c 1 _ _ hc2
    simp at c0 c1 c2
    have HC2 := Lib.hid hc2; clear hc2
    go_quiet (fail)
    go_wp2
    go_quiet (fail)
    go_wp2
    go_quiet (fail)
    go_wp2
    go_ret
    refine ⟨_, (and255 _).1, (and255 _).2, rfl, ⟨Or.inr ⟨b, off, cap, rfl, hcap, hbl, HB.out⟩, hsm, hby, hnew, ⟨i + 1, g, by omega, ?_⟩, ?_⟩, grown_chain hg2 ?_⟩
    · exact grown_set1 HC2.out _
    · exact below_like (Below.setCell (w := w2) ho2 (p := ⟨c, 1, none⟩) hnew (.int .i64 ((i : Int) + 1))) rfl rfl rfl rfl
    · exact grown_like (grownBy_setCell w2 c 1 (.int .i64 ((i : Int) + 1))) rfl rfl rfl rfl
  · go_enter Tryd.func53, Tryd.ntmps53
    go_wp2
    generalize wrap64 (wrap64 (h * 6364136223846793005) + 1442695040888963407) = g
    have hc2 := grown_set2 HC.out g
    have hg2 := grownBy_setCell w c 2 (.int .i64 g)
    have ho2 := hold.setCell (p := ⟨c, 2, none⟩) hnew (.int .i64 g)
    generalize w.setCell ⟨c, 2, none⟩ (.int .i64 g) = w2 at *
    clear c0 c1 c2 f1 f2
    have c0 := cell_of_row w2 c 0 _ _ _ hc2
    have c1 := cell_of_row w2 c 1 _ _ _ hc2
    have c2 := cell_of_row w2 c 2 _ _ _ hc2
    have hlen : ∃ a cap, v = .slice a xs.length cap := by
      rcases hcode with ⟨rfl, a, cap, rfl⟩ | ⟨b, off, cap, rfl, _⟩
      · exact ⟨a, cap, rfl⟩
      · exact ⟨_, cap, rfl⟩
    obtain ⟨a, cap, rfl⟩ := hlen
    simp at c0 c1 c2
    have HC2 := Lib.hid hc2; clear hc2
    go_quiet (fail)
    go_wp2
    go_quiet (fail)
    go_wp2
    go_ret
    exact ⟨_, (and255 _).1, (and255 _).2, rfl, ⟨hcode, hsm, hby, hnew, ⟨i, g, hi, HC2.out⟩, below_like ho2 rfl rfl rfl rfl⟩, grown_like hg2 rfl rfl rfl rfl⟩
end Go.Proofs.YtjeaimdnddelpaaDoor
