/-
 Texts of the proof, merged: MaskMath, MaskWalks, CountMath, SlEq, Back, Cel, CopyEachQuery, CopyEachRow, YQuery, YRow, YFinished.
-/
import Derived.Test.YtnepfacnmaoieaaGreatDoorRE1
import Derived.Test.YtnepfacnmaoieaaGreatDoorRE2
import Derived.Test.YtnepfacnmaoieaaGreatDoorRE4
import Derived.Laws.BitsLemmas
import Derived.Deep.RegionHeld3
import Derived.Lib.BitFns
import Derived.RangeFuncNested
import Derived.RangeFuncBound
import Derived.RangeFuncCalls
import Derived.RangeFuncLeaves
import Derived.Shelf.Abstract
import Derived.Shelf.RegionOpen
import Derived.WalkKit
import Derived.OwnWalkIn
import Derived.TacticsInMore
import Derived.LoopNIn
import Derived.LoopIn
import Derived.BigQuiet
import Derived.Deep.QuietTactic
import Derived.Deep.Cut
namespace Go.Proofs.YtnepfacnmaoieaaGreatDoor
set_option maxRecDepth 100000
set_option linter.unusedVariables false
/-- The mask of the first k numbers. -/
def maskTo (l : List Int) (k : Nat) : Nat := (l.take k).foldl (fun m x => m ||| 2 ^ x.toNat) 0
theorem maskTo_zero (l : List Int) : maskTo l 0 = 0 := by simp [maskTo]
theorem maskTo_step {l : List Int} {k : Nat} (hk : k < l.length) : maskTo l (k + 1) = maskTo l k ||| 2 ^ (l.getD k 0).toNat := by
 unfold maskTo
 have e : l.getD k 0 = l[k] := by simp [List.getD, hk]
 rw [e, List.take_succ_eq_append_getElem hk, List.foldl_append]
 rfl
theorem setTo_pred {l : List Int} {k : Nat} (h : SetTo l (k + 1)) : SetTo l k := ⟨fun i hi => h.1 i (by omega), fun i hi => h.2 i (by omega)⟩
theorem bit_maskTo {l : List Int} : ∀ {k : Nat}, k ≤ l.length → SetTo l k → ∀ i : Nat, (maskTo l k).testBit i = true ↔ ∃ j, j < k ∧ l.getD j 0 = (i : Int) := by
 intro k
 induction k with
 | zero => intro _ _ i; simp [maskTo_zero]
 | succ k ih =>
  intro hk hs i
  rw [maskTo_step (by omega), Nat.testBit_or, Bool.or_eq_true, ih (by omega) (setTo_pred hs), Nat.testBit_two_pow]
  have h0 := hs.1 k (by omega)
  constructor
  ·
   rintro (⟨j, hj, e⟩ | h)
   ·
    exact ⟨j, by omega, e⟩
   ·
    have := of_decide_eq_true h
    exact ⟨k, by omega, by omega⟩
  ·
   rintro ⟨j, hj, e⟩
   by_cases ej : j = k
   ·
    subst ej; right; rw [decide_eq_true_eq]; omega
   ·
    exact Or.inl ⟨j, by omega, e⟩
theorem maskTo_lt {l : List Int} {k : Nat} (hk : k ≤ l.length) (hs : SetTo l k) (x : Nat) (h : ∀ j, j < k → l.getD j 0 < (x : Int)) : maskTo l k < 2 ^ x := by
 refine Nat.lt_pow_two_of_testBit _ fun i hi => ?_
 rw [Bool.eq_false_iff]
 intro g
 obtain ⟨j, hj, e⟩ := (bit_maskTo hk hs i).1 g
 have := h j hj
 omega
theorem maskTo_lt24 {l : List Int} {k : Nat} (hk : k ≤ l.length) (hs : SetTo l k) : maskTo l k < 16777216 :=
 maskTo_lt hk hs 24 (fun j hj => by have := (hs.1 j hj).2; omega)
theorem maskTo_ge {l : List Int} {k : Nat} (hk : k ≤ l.length) (hs : SetTo l k) {x : Nat} {j : Nat} (hj : j < k) (h : (x : Int) ≤ l.getD j 0) : 2 ^ x ≤ maskTo l k := by
 have h0 := (hs.1 j hj).1
 have := (bit_maskTo hk hs (l.getD j 0).toNat).2 ⟨j, hj, by omega⟩
 exact Nat.le_trans (Nat.pow_le_pow_right (by omega) (by omega)) (Nat.ge_two_pow_of_testBit this)
theorem setTo_mono {l : List Int} {k : Nat} (h : SetTo l k) : ∀ {i j : Nat}, i < j → j < k → l.getD i 0 < l.getD j 0 := by
 intro i j hij
 obtain ⟨d, rfl⟩ : ∃ d, j = i + d + 1 := ⟨j - i - 1, by omega⟩
 clear hij
 induction d with
 | zero => intro hj; exact h.2 i hj
 | succ d ih => intro hj; exact Int.lt_trans (ih (by omega)) (h.2 (i + d + 1) hj)
/-- The bit test of maskOf: no bit from x on, just where x goes on the ascent. -/
theorem maskTo_next {l : List Int} {k : Nat} (hk : k < l.length) (hs : SetTo l k) {x : Nat} (hx : l.getD k 0 = (x : Int)) (hx23 : x ≤ 23) : maskTo l k / 2 ^ x = 0 ↔ SetTo l (k + 1) := by
 rw [Nat.div_eq_zero_iff]
 constructor
 ·
  rintro (h | h)
  ·
   exact absurd h (Nat.ne_of_gt (Nat.two_pow_pos x))
  ·
   refine setTo_step hs (by omega) (by omega) fun h0 => ?_
   apply Int.not_le.1
   intro g
   rw [hx] at g
   have := maskTo_ge (Nat.le_of_lt hk) hs (j := k - 1) (by omega) g
   omega
 ·
  intro h
  right
  refine maskTo_lt (Nat.le_of_lt hk) hs x fun j hj => ?_
  rw [← hx]
  exact setTo_mono h hj (by omega)
/-- The mask of a set, 0 of any other list. -/
def maskL (l : List Int) : Nat := if setB l = true then maskTo l l.length else 0
theorem maskL_yes {l : List Int} (h : SetL l) : maskL l = maskTo l l.length := by unfold maskL; rw [if_pos ((setB_iff l).2 h)]
theorem maskL_no {l : List Int} (h : setB l = false) : maskL l = 0 := by unfold maskL; rw [h]; rfl
end Go.Proofs.YtnepfacnmaoieaaGreatDoor
namespace Go.Proofs.YtnepfacnmaoieaaGreatDoor
open Go.RowKit
set_option linter.unusedVariables false
theorem nat_u32 (a : Nat) (ha : a < 4294967296) : (BitVec.ofInt 32 (a : Int)).toNat = a := by
 rw [BitVec.ofInt_natCast, BitVec.toNat_ofNat]; exact Nat.mod_eq_of_lt (by omega)
theorem or_u32 (a b : Nat) (ha : a < 4294967296) (hb : b < 4294967296) : bits .or .u32 (a : Int) (b : Int) = ((a ||| b : Nat) : Int) := by
 have hx : a ||| b < 2 ^ 32 := Nat.or_lt_two_pow (by omega) (by omega)
 show IntKind.u32.wrap ((BitVec.ofInt 32 (a : Int) ||| BitVec.ofInt 32 (b : Int)).toNat : Int) = _
 rw [BitVec.toNat_or, nat_u32 a ha, nat_u32 b hb, IntKind.wrap_u32]
 omega
theorem isQuery (x : Int) (w : World) : Calls Tryz.prog 215 #[.int .i64 x] w fun e w' => e = .returned (.bool (decide (0 ≤ x ∧ x ≤ 23))) ∧ w' = w := by
 by_cases h0 : 0 ≤ x
 ·
  by_cases h1 : x ≤ 23
  ·
   rw [decide_eq_true (show 0 ≤ x ∧ x ≤ 23 from ⟨h0, h1⟩)]
   have h2 : x < 24 := by omega
   go_enter Tryz.func215, Tryz.ntmps215
   go_wp2
   go_ret
   exact ⟨rfl, rfl⟩
  ·
   rw [decide_eq_false (show ¬ (0 ≤ x ∧ x ≤ 23) by omega)]
   have h2 : ¬ x < 24 := by omega
   go_enter Tryz.func215, Tryz.ntmps215
   go_wp2
   go_ret
   exact ⟨rfl, rfl⟩
 ·
  rw [decide_eq_false (show ¬ (0 ≤ x ∧ x ≤ 23) by omega)]
  go_enter Tryz.func215, Tryz.ntmps215
  go_wp2
  go_ret
  exact ⟨rfl, rfl⟩
theorem pair_eq {a b : Nat} {x y : Bool} (h1 : a = b) (h2 : x = y) : Ending.returned (.tuple #[.int .u32 (a : Int), .bool x]) = .returned (.tuple #[.int .u32 (b : Int), .bool y]) := by rw [h1, h2]
set_option maxHeartbeats 2000000 in
theorem implMaskOf (va : Value) (a : List Int) (w : World) (h : Ints w va a) (hn : a.length ≤ 1073741824) :
  Calls Tryz.prog 243 #[va] w fun e w' => e = .returned (.tuple #[.int .u32 (maskL a : Nat), .bool (setB a)]) ∧ Below w.heap.size w w' := by
 obtain ⟨ap, cap, hva⟩ := ints_len h
 have HA := Lib.hid h
 have HN := Lib.hid hn
 clear h hn
 subst hva
 go_enter Tryz.func243, Tryz.ntmps243
 go_wp2
 go_loopw [4, 9] (fun m i wr => ∃ k : Nat, k ≤ a.length ∧ i = .int .i64 k ∧ Hid (SetTo a k) ∧ m = .int .u32 (maskTo a k : Nat) ∧ wr = w) (fun _ i _ => a.length - (intOf i).toNat)
 case atStart => exact ⟨0, Nat.zero_le _, rfl, Lib.hid ⟨fun i hi => by omega, fun i hi => by omega⟩, by rw [maskTo_zero]; rfl, rfl⟩
 case round =>
  obtain ⟨k, hk, rfl, hset, rfl, rfl⟩ := hrel
  by_cases hlt : k < a.length
  ·
   obtain ⟨b, off, cap', hv, hbl, hc⟩ := ints_cell HA.out (by omega)
   simp only [Value.slice.injEq] at hv
   obtain ⟨rfl, _, rfl⟩ := hv
   have hcell := hc k hlt
   have i1 : (0 : Int) ≤ (k : Int) := by omega
   have i2 : (k : Int) < (a.length : Int) := by omega
   clear hc
   by_cases hr : 0 ≤ a.getD k 0 ∧ a.getD k 0 ≤ 23
   ·
    obtain ⟨x, hx⟩ : ∃ x : Nat, a.getD k 0 = (x : Int) := ⟨(a.getD k 0).toNat, by omega⟩
    have hx23 : x ≤ 23 := by omega
    have HQ := Lib.hid (show decide (0 ≤ (x : Int) ∧ (x : Int) ≤ 23) = true from decide_eq_true (by omega))
    have hnext := maskTo_next hlt hset.out hx hx23
    have HST := Lib.hid (maskTo_step hlt)
    rw [hx] at hcell HST
    have HM0 := Lib.hid (maskTo_lt24 (Nat.le_of_lt hlt) hset.out)
    have hdiv : ((maskTo a k : Nat) : Int) / 2 ^ x = ((maskTo a k / 2 ^ x : Nat) : Int) := by norm_cast
    by_cases hz : maskTo a k / 2 ^ x = 0
    ·
     have HS1 := Lib.hid (hnext.1 hz)
     have HB : ((maskTo a k : Int) / 2 ^ x != 0) = false := by rw [hdiv, hz]; rfl
     have HP : Hid (2 ^ x < 16777216 ∧ ((2 : Int) ^ x % 4294967296 = ((2 ^ x : Nat) : Int))) := by
      have h2 : 2 ^ x < 2 ^ 24 := Nat.pow_lt_pow_right (by omega) (show x < 24 by omega)
      have h3 : (2 : Int) ^ x = ((2 ^ x : Nat) : Int) := by norm_cast
      exact Lib.hid ⟨h2, by rw [h3]; clear h3; generalize 2 ^ x = q at *; omega⟩
     have HK := Lib.hid hlt
     clear hr hnext hx hz hset hk hlt hdiv
     generalize maskTo a k = m at *
     go_wp2_with fail
     refine (isQuery _ _).mono ?_
     rintro e w1 ⟨rfl, rfl⟩
     rw [HQ.out]
     have hn := HN.out
     go_wp2
     go_roundw
     case rel => exact ⟨k + 1, HK.out, by go_num, HS1, by rw [HP.out.2, or_u32 m _ (by have := HM0.out; omega) (by have := HP.out.1; omega), HST.out]; rfl, by first | rfl | trivial⟩
     case measure => have := HK.out; simp [intOf]; omega
    ·
     have HF := Lib.hid (setB_no (l := a) (fun g => hz (hnext.2 ⟨fun i hi => g.1 i (by omega), fun i hi => g.2 i (by omega)⟩)))
     have HB : ((maskTo a k : Int) / 2 ^ x != 0) = true := by rw [hdiv, bne_iff_ne]; omega
     clear hr hnext hx hz hset hk hlt hdiv
     generalize maskTo a k = m at *
     go_wp2_with fail
     refine (isQuery _ _).mono ?_
     rintro e w1 ⟨rfl, rfl⟩
     rw [HQ.out]
     go_wp2
     go_ret2
     exact ⟨pair_eq (a := 0) (maskL_no HF.out).symm HF.out.symm, Below.refl _ _⟩
   ·
    have HF := Lib.hid (setB_no (not_set_range hlt hr))
    have HQ := Lib.hid (show decide (0 ≤ a.getD k 0 ∧ a.getD k 0 ≤ 23) = false from decide_eq_false hr)
    clear hr hset hk hlt
    generalize maskTo a k = m at *
    generalize a.getD k 0 = x at *
    go_wp2_with fail
    refine (isQuery _ _).mono ?_
    rintro e w1 ⟨rfl, rfl⟩
    rw [HQ.out]
    go_wp2
    go_ret2
    exact ⟨pair_eq (a := 0) (maskL_no HF.out).symm HF.out.symm, Below.refl _ _⟩
  ·
   obtain rfl : k = a.length := by omega
   have HS := Lib.hid ((setTo_all a).1 hset.out)
   have HE := Lib.hid (maskL_yes HS.out)
   clear hset hk hlt
   generalize maskTo a a.length = m at *
   go_wp2
   go_ret2
   exact ⟨pair_eq HE.out.symm ((setB_iff a).2 HS.out).symm, Below.refl _ _⟩
set_option maxHeartbeats 2000000 in
theorem implIsSet (va : Value) (a : List Int) (w : World) (h : Ints w va a) (hn : a.length ≤ 1048576) :
  Calls Tryz.prog 200 #[va] w fun e w' => e = .returned (.bool (setB a)) ∧ Below w.heap.size w w' := by
 have H := Lib.hid (fun w h => implMaskOf va a w h (by omega))
 have HA := Lib.hid h
 clear h hn
 go_enter Tryz.func200, Tryz.ntmps200
 go_wp2_with fail
 refine (H.out _ HA.out).mono ?_
 rintro e w1 ⟨rfl, b1⟩
 go_wp2
 go_ret
 exact ⟨rfl, b1⟩
end Go.Proofs.YtnepfacnmaoieaaGreatDoor
namespace Go.Proofs.YtnepfacnmaoieaaGreatDoor
set_option linter.unusedVariables false
end Go.Proofs.YtnepfacnmaoieaaGreatDoor
namespace Go.Proofs.YtnepfacnmaoieaaGreatDoor
open Go.RowKit
set_option linter.unusedVariables false
set_option linter.unusedSimpArgs false
set_option maxHeartbeats 2000000 in
theorem equalInts_any (v u : Value) (xs ys : List Int) (w : World) (h : Ints w v xs) (g : Ints w u ys) (hn : xs.length ≤ 1048576) (hm : ys.length ≤ 1048576) :
  Calls Tryz.prog 193 #[v, u] w fun e w' => e = .returned (.bool (decide (xs = ys))) ∧ Below w.heap.size w w' := by
 have H := Lib.hid h
 have G := Lib.hid g
 obtain ⟨a, cap, rfl⟩ := ints_len h
 obtain ⟨a2, cap2, rfl⟩ := ints_len g
 clear h g
 by_cases hl : xs.length = ys.length
 ·
  have HL := Lib.hid hl
  have hne : ((xs.length : Int) != (ys.length : Int)) = false := by rw [hl]; simp
  clear hl
  go_enter Tryz.func193, Tryz.ntmps193
  go_wp2
  clear hne
  go_loopw [13] (fun i wr => ∃ k : Nat, k ≤ xs.length ∧ i = .int .i64 k ∧ Hid (∀ j, j < k → xs.getD j 0 = ys.getD j 0) ∧ Below w.heap.size w wr) (fun i _ => xs.length - (intOf i).toNat)
  case atStart => exact ⟨0, Nat.zero_le _, rfl, Lib.hid (fun j hj => by omega), Below.refl _ _⟩
  case round =>
   obtain ⟨k, hk, rfl, hall, hbel⟩ := hrel
   by_cases hlt : k < xs.length
   ·
    obtain ⟨b, off, cap', hv, hbl, hc⟩ := ints_cell H.out (by omega)
    simp only [Value.slice.injEq] at hv
    obtain ⟨rfl, _, rfl⟩ := hv
    obtain ⟨b2, off2, cap2', hv2, hbl2, hc2⟩ := ints_cell G.out (by have := HL.out; omega)
    simp only [Value.slice.injEq] at hv2
    obtain ⟨rfl, _, rfl⟩ := hv2
    have hcell := (hbel.cell (p := ⟨b, off + k, none⟩) hbl).trans (hc k hlt)
    have hcell2 := (hbel.cell (p := ⟨b2, off2 + k, none⟩) hbl2).trans (hc2 k (by have := HL.out; omega))
    have i1 : (0 : Int) ≤ (k : Int) := by omega
    have i2 : (k : Int) < (xs.length : Int) := by omega
    have i3 : (k : Int) < (ys.length : Int) := by have := HL.out; omega
    clear hc hc2
    by_cases he : xs.getD k 0 = ys.getD k 0
    ·
     have HA : Hid (∀ j, j < k + 1 → xs.getD j 0 = ys.getD j 0) := Lib.hid (fun j hj => by
      by_cases e : j = k
      ·
       exact e ▸ he
      ·
       exact hall.out j (by omega))
     rw [← he] at hcell2
     clear he hall
     generalize xs.getD k 0 = y at hcell hcell2
     go_wp2
     go_quiet (fail)
     go_wp2
     go_roundw
     case rel => exact ⟨k + 1, by omega, by go_num, HA, below_dn hbel _⟩
     case measure => simp [intOf]; omega
    ·
     have HF := Lib.hid (decide_eq_false (list_ne_at hlt he))
     have heq : (xs.getD k 0 != ys.getD k 0) = true := by rw [bne_iff_ne]; exact he
     clear he hall
     generalize xs.getD k 0 = y at hcell heq
     generalize ys.getD k 0 = z at hcell2 heq
     go_wp2
     go_quiet (fail)
     go_wp2
     go_ret
     exact ⟨ret_b HF.out.symm, below_dn hbel _⟩
   ·
    obtain rfl : k = xs.length := by omega
    have HT := Lib.hid (decide_eq_true (list_eq_all HL.out hall.out))
    clear hall
    go_wp2
    go_ret
    exact ⟨ret_b HT.out.symm, hbel⟩
 ·
  have HF := Lib.hid (decide_eq_false (show ¬ xs = ys from fun e => hl (by rw [e])))
  have hne : ((xs.length : Int) != (ys.length : Int)) = true := by rw [bne_iff_ne]; omega
  clear hl
  go_enter Tryz.func193, Tryz.ntmps193
  go_wp2
  go_ret
  exact ⟨ret_b HF.out.symm, Below.refl _ _⟩
end Go.Proofs.YtnepfacnmaoieaaGreatDoor
namespace Go.Proofs.YtnepfacnmaoieaaGreatDoor
open Go.RowKit Go.Shelf
attribute [local go_sem] Oper.semAt_some
set_option linter.unusedVariables false
set_option linter.unusedSimpArgs false
/-- The places from n - 1 down to k. -/
def dnTo (n k : Nat) : List (Fin n) := ((List.ofFn (fun i : Fin n => i)).drop k).reverse
theorem dnTo_len (n : Nat) : dnTo n n = [] := by simp [dnTo]
theorem dnTo_size (n k : Nat) : (dnTo n k).length = n - k := by simp [dnTo]
theorem dnTo_step {n k : Nat} (h : k < n) : dnTo n k = dnTo n (k + 1) ++ [⟨k, h⟩] := by
 unfold dnTo
 rw [List.drop_eq_getElem_cons (by simpa using h), List.reverse_cons]
 simp
set_option maxHeartbeats 4000000 in
theorem backStops (n0 : Nat) (w : World) (Bs b off len cap : Nat) (a : Option Addr) (L : Nat → List Value) (hn : 1 ≤ n0)
  (hB : Boxed w Bs 37 (.slice a len cap)) (hlen : len ≤ 1048576) (ha : 0 < len → a = some ⟨b, off, none⟩) (hbl : 0 < len → b < w.heap.size)
  (hc : ∀ j, j < len → (L j).length = 7 ∧ ∀ i, i < 7 → w.cell? ⟨b, off + j * 7 + i, none⟩ = (L j)[i]?) :
  SeqStopsK Fence.wide n0 Tryz.prog 151 #[.pointer (some ⟨Bs, 0, none⟩)] (fun j : Fin len => #[.int .i64 ((j : Nat) : Int), .agg (L j).toArray]) (fun A B => Below w.heap.size A B) (fun xs => xs = dnTo len 0) (fun pre => ∃ k, k < len ∧ pre = dnTo len k) len w := by
 intro l J Jx W hW hJ hJx hY h0
 have HC := zh hc
 have HA := zh ha
 have HBL := zh hbl
 have HB := zh hB
 have HY := zh hY
 have hBs := hB.lt
 clear hc ha hbl hB hY hJ hJx
 refine callsIn_of_wp Tryz.func151 rfl trivial ?_ rfl
 simp only [Tryz.ntmps151, List.size_toArray, List.length_cons, List.length_nil, Nat.reduceAdd, Nat.reduceSub, Array.replicate_succ, Array.replicate_zero, List.push_toArray, List.append_toArray, List.nil_append, List.cons_append]
 have c1 : W.cell? ⟨Bs, 0, none⟩ = _ := (hW.cell (p := ⟨Bs, 0, none⟩) hBs).trans HB.out.cell
 gi_wp2
 clear c1
 gi_loopw [3] (fun i wr => ∃ (k : Nat) (j : Int), k ≤ len ∧ j = (k : Int) - 1 ∧ i = .int .i64 j ∧ J (dnTo len k) wr ∧ Below w.heap.size w wr) (fun i _ => (intOf i + 1).toNat)
 case atStart => exact ⟨len, _, Nat.le_refl _, rfl, rfl, by rw [dnTo_len]; exact h0, hW⟩
 case round =>
  obtain ⟨k, j, hk, hj, rfl, hJk, hbel⟩ := hrel
  clear h0 hW
  by_cases hlt : 0 < k
  ·
   obtain ⟨m, rfl⟩ : ∃ m, k = m + 1 := ⟨k - 1, by omega⟩
   obtain rfl : j = (m : Int) := by omega
   have hm : m < len := by omega
   have i1 : (0 : Int) ≤ (m : Int) := by omega
   have i2 : (m : Int) < (len : Int) := by omega
   obtain ⟨fn, tmps, assign, body, hy, hR⟩ := HY.out (dnTo len (m + 1)) ⟨m, hm⟩ wr hJk (by rw [dnTo_size]; omega)
   rw [← dnTo_step hm] at hR
   obtain ⟨h7, hcell⟩ := HC.out m hm
   obtain ⟨y0, y1, y2, y3, y4, y5, y6, hL⟩ := len7 h7
   dsimp only at hy
   rw [hL] at hy hcell
   obtain rfl := HA.out (by omega)
   have hbw := HBL.out (by omega)
   have q := row7 (w := wr) (b := b) (o := off + m * 7) (fun i hi => (hbel.cell (p := ⟨b, off + m * 7 + i, none⟩) hbw).trans (hcell i hi))
   have c1 : wr.cell? ⟨Bs, 0, none⟩ = _ := (hbel.cell (p := ⟨Bs, 0, none⟩) hBs).trans HB.out.cell
   clear hcell hL h7 hlt hj HC HA HBL HY hJk
   have HE := zh hbel
   clear hbel
   gi_wp2
   refine hR.mono ?_
   rintro e W3 (⟨rfl, hJ3, hb3⟩ | ⟨rfl, hJx3⟩)
   ·
    clear q c1
    gi_wp2
    exact ⟨⟨m, _, by omega, rfl, by first | rfl | go_num, hJ3, HE.out.trans hb3⟩, by (simp [intOf]; try omega)⟩
   ·
    clear q c1
    gi_wp2
    refine bodyPost_ret (results_none rfl _ _ _) rfl ?_
    exact ⟨⟨_, rfl⟩, .inr ⟨_, ⟨m, hm, rfl⟩, hJx3⟩⟩
  ·
   obtain rfl : k = 0 := by omega
   have i1 : ¬ (0 : Int) ≤ j := by omega
   have i2 : j < 0 := by omega
   gi_wp2
   go_end0
   exact ⟨⟨_, rfl⟩, .inl hJk⟩
end Go.Proofs.YtnepfacnmaoieaaGreatDoor
namespace Go.Proofs.YtnepfacnmaoieaaGreatDoor
open Go.RowKit
set_option linter.unusedVariables false
set_option linter.unusedSimpArgs false
def isC (w : World) (b : Nat) : Prop := ∃ c t f, w.heap[b]? = some (.cells c t f)
theorem isC_same {w w' : World} {b : Nat} (h : isC w b) (e : w'.heap[b]? = w.heap[b]?) : isC w' b := by
 obtain ⟨c, t, f, h⟩ := h
 exact ⟨c, t, f, e.trans h⟩
theorem isC.lt {w : World} {b : Nat} (h : isC w b) : b < w.heap.size := by
 obtain ⟨c, t, f, h⟩ := h
 exact (Array.getElem?_eq_some_iff.1 h).1
def Ty.Cel {α : Type} (T : Ty α) : Prop := ∀ {w : World} {F : Nat → Prop} {cs : List Value} {x : α}, T.O w F cs x → T.O w (fun b => F b ∧ isC w b) cs x
theorem tInt_cel : tInt.Cel := fun h => h
theorem tPair_cel {α β : Type} {A : Ty α} {B : Ty β} (a : A.Cel) (b : B.Cel) : (tPair A B).Cel := fun h => by
 obtain ⟨c1, c2, F1, F2, e, h1, h2, h3, h4, h5⟩ := h
 exact ⟨c1, c2, _, _, e, a h1, b h2, fun b q => ⟨h3 b q.1, q.2⟩, fun b q => ⟨h4 b q.1, q.2⟩, fun b q r => h5 b q.1 r.1⟩
theorem slO_cel {α : Type} {T : Ty α} (A : T.Cel) {e : TypeId} {w : World} {F : Nat → Prop} {v : Value} {xs : List α} (h : SlO e T w F v xs) : SlO e T w (fun b => F b ∧ isC w b) v xs := by
 obtain ⟨L, us, Fs, h1, h2, h3, h4⟩ := h
 refine ⟨L, us, fun j b => Fs j b ∧ isC w b, h1, fun b hb => ⟨h2 b hb, ?_⟩, fun j hj => ⟨(h3 j hj).1, A (h3 j hj).2.1, fun b hb => ⟨⟨((h3 j hj).2.2 b hb.1).1, hb.2⟩, ((h3 j hj).2.2 b hb.1).2⟩⟩, fun i j hi hj hij b hb hc => h4 i j hi hj hij b hb.1 hc.1⟩
 rcases h1.2 with ⟨q, _⟩ | ⟨g, cap, cur, q, _, hg, _⟩
 ·
  rw [q] at hb; simp [Value.ownBlock] at hb
 ·
  rw [q] at hb
  simp only [Value.ownBlock, Option.some.injEq] at hb
  rw [← hb]
  exact ⟨_, _, _, hg⟩
theorem tSl_cel {α : Type} {T : Ty α} (A : T.Cel) (e : TypeId) : (tSl e T).Cel := fun h => by
 obtain ⟨v, q, h⟩ := h
 exact ⟨v, q, slO_cel A h⟩
/-- Where a walk stands, all that is listed lying in blocks of cells. -/
def StC (w0 : World) (l : List Item) (w : World) : Prop := St w0 l w ∧ ∀ i ∈ l, ∀ b, i.F b → isC w b
section
variable {w0 w w' : World} {l : List Item}
theorem StC.grow (h : StC w0 l w) {row : Option Nat} (hg : w.grownBy w' row) (hr : ∀ r, row = some r → w0.heap.size ≤ r ∧ ∃ o : Obj, w.heap[r]? = some o ∧ o.isCells = false) : StC w0 l w' := by
 have hn : ∀ i ∈ l, ∀ b, i.F b → ¬ (row = some b) := fun i hi b hb e => by
  obtain ⟨_, o, ho, hc⟩ := hr b e
  obtain ⟨c, t, f, hx⟩ := h.2 i hi b hb
  rw [hx] at ho
  cases ho
  simp [Obj.isCells] at hc
 have t : Turn (fun b => row = some b) w w' := ⟨hg.os, hg.tape, hg.output, hg.size, fun j hj q => hg.block j hj (fun e => q e.symm)⟩
 exact ⟨⟨below_turn h.1.d t (fun b e => (hr b e).1) h.1.d.size, h.1.s.turn t hn, h.1.lo⟩, fun i hi b hb => isC_same (h.2 i hi b hb) (hg.block b (h.1.s.lt i hi b hb) (fun e => hn i hi b hb e.symm))⟩
theorem stC_own {β : Type} {B : Nat} (hB : w0.heap.size ≤ B) (l : β → List Item) : OwnFrom B (fun s W => StC w0 (l s) W) :=
 fun s W W' row hs hg hr => hs.grow hg (fun r e => ⟨Nat.le_trans hB (hr r e).1, (hr r e).2⟩)
theorem StC.init (w : World) : StC w [] w := ⟨St.init w, fun _ h => by cases h⟩
theorem StC.below (h : StC w0 l w) (c : Below w.heap.size w w') : StC w0 l w' :=
 ⟨h.1.below c, fun i hi b hb => isC_same (h.2 i hi b hb) (c.block b (h.1.s.lt i hi b hb))⟩
theorem StC.box (h : StC w0 l w) (cs : List Value) (t : TypeId) : StC w0 (iB w.heap.size cs t :: l) (w.alloc (.cells cs.toArray t)) := by
 refine ⟨h.1.box cs t, fun i hi b hb => ?_⟩
 rcases List.mem_cons.1 hi with rfl | hm
 ·
  have hb : b = w.heap.size := hb
  rw [hb]
  exact ⟨_, _, _, heap_alloc_new w _⟩
 ·
  exact (h.below ((Below.refl _ _).alloc (Nat.le_refl _) _)).2 i hm b hb
theorem StC.store (h : StC w0 l w) (k : Nat) {b : Nat} {z : List Value} {t : TypeId} (e : l[k]? = some (iB b z t)) (c : List Value) : StC w0 (l.set k (iB b c t)) (w.setRow b c.toArray) := by
 refine ⟨h.1.store k e c, fun i hi x hx => ?_⟩
 by_cases q : x = b
 ·
  rw [q]
  exact ⟨_, _, _, (h.1.store k e c).gB k (by rw [List.getElem?_set_self (List.getElem?_eq_some_iff.1 e).1])⟩
 ·
  rcases List.mem_or_eq_of_mem_set hi with m | rfl
  ·
   exact isC_same (h.2 i m x hx) ((turn_row (w := w) (b := b) (c := c.toArray)).block x (h.1.s.lt i m x hx) q)
  ·
   exact absurd hx q
theorem StC.push {α : Type} {T : Ty α} (C : T.Cel) (L : T.Law) (h : StC w0 l w) (c : Below w.heap.size w w') {G : Nat → Prop} {cs : List Value} {x : α} (o : T.O w' G cs x) (hG : ∀ b, G b → w.heap.size ≤ b) : ∃ F, StC w0 (iT L F cs x :: l) w' := by
 refine ⟨_, h.1.push L c (C o) (fun b q => hG b q.1), fun i hi b hb => ?_⟩
 rcases List.mem_cons.1 hi with rfl | hm
 ·
  exact hb.1.2
 ·
  exact (h.below c).2 i hm b hb
end
end Go.Proofs.YtnepfacnmaoieaaGreatDoor
namespace Go.Proofs.YtnepfacnmaoieaaGreatDoor
open Go.RowKit
set_option linter.unusedVariables false
set_option linter.unusedSimpArgs false
set_option maxHeartbeats 2000000 in
theorem copyLQueryCond (v : Value) (xs : List (Int × Int × Int)) (w : World) (h : SlR tCond w v xs) (hn : xs.length ≤ 1048576) :
  Calls Tryz.prog 165 #[v] w (FreshS 177 tCond w xs) := by
 have H := zh h
 have HN := zh hn
 obtain ⟨a, cap, rfl⟩ := slR_len h
 clear h hn
 go_enter Tryz.func165, Tryz.ntmps165
 go_wp2_with (at_builtin; refine append_flat tCond_law flat_Cond info_T_Cond Tryz.underlying51 rfl rfl _ (.tmp 3) rfl (fun _ => False) (since w) _ _ [] xs rfl rfl (slO_nil _ _ _ _) H.out (fun _ h => h.elim) (Nat.le_refl _) (by have := HN.out; simp; omega) ?_)
 intro v' w1 o1 t1
 obtain ⟨va, vc, rfl⟩ := slO_len o1
 have b1 := below_turn (Below.refl w.heap.size w) t1 (fun _ h => h.elim) (Nat.le_refl _)
 go_wp2
 go_ret
 exact ⟨_, rfl, o1, b1⟩
end Go.Proofs.YtnepfacnmaoieaaGreatDoor
namespace Go.Proofs.YtnepfacnmaoieaaGreatDoor
open Go.RowKit
set_option linter.unusedVariables false
set_option linter.unusedSimpArgs false
set_option maxHeartbeats 2000000 in
theorem copyLRowint (v : Value) (xs : List Int) (w : World) (h : SlR tInt w v xs) (hn : xs.length ≤ 1048576) :
  Calls Tryz.prog 158 #[v] w (FreshS 3 tInt w xs) := by
 have H := zh h
 have HN := zh hn
 obtain ⟨a, cap, rfl⟩ := slR_len h
 clear h hn
 go_enter Tryz.func158, Tryz.ntmps158
 go_wp2_with (at_builtin; refine append_flat tInt_law flat_int info_T_int Tryz.underlying25 rfl rfl _ (.tmp 3) rfl (fun _ => False) (since w) _ _ [] xs rfl rfl (slO_nil _ _ _ _) H.out (fun _ h => h.elim) (Nat.le_refl _) (by have := HN.out; simp; omega) ?_)
 intro v' w1 o1 t1
 obtain ⟨va, vc, rfl⟩ := slO_len o1
 have b1 := below_turn (Below.refl w.heap.size w) t1 (fun _ h => h.elim) (Nat.le_refl _)
 go_wp2
 go_ret
 exact ⟨_, rfl, o1, b1⟩
end Go.Proofs.YtnepfacnmaoieaaGreatDoor
namespace Go.Proofs.YtnepfacnmaoieaaGreatDoor
open Go.RowKit
set_option linter.unusedVariables false
set_option linter.unusedSimpArgs false
set_option maxHeartbeats 8000000 in
theorem copyK_Query {cs : List Value} {x : _} {w : World} (h : tQuery.R w cs x) (hs : leQuery x) :
  Calls Tryz.prog 96 #[.agg cs.toArray] w (FreshT tQuery (fun cs => .agg cs.toArray) w x) := by
 obtain ⟨x0, x1, x2, x3⟩ := x
 obtain ⟨v2, v3, rfl, h2, h3⟩ := tQuery_P h
 obtain ⟨l2, l3⟩ := hs
 have H2 := zh h2; have S2 := zh l2
 have H3 := zh h3; have S3 := zh l3
 clear h2 h3
 clear l2 l3
 have SP : Hid (St w [iB (w.heap.size + 1) [.int .i64 0, .int .i64 0, .slice none 0 0, .slice none 0 0] 53, iB w.heap.size [.int .i64 x0, .int .i64 x1, v2, v3] 53] ((w.alloc (.cells #[.int .i64 x0, .int .i64 x1, v2, v3] 53)).alloc (.cells #[.int .i64 0, .int .i64 0, .slice none 0 0, .slice none 0 0] 53))) := zh (by have := ((St.init w).box [.int .i64 x0, .int .i64 x1, v2, v3] 53).box [.int .i64 0, .int .i64 0, .slice none 0 0, .slice none 0 0] 53; simpa only [World.size_alloc] using this)
 go_enter Tryz.func96, Tryz.ntmps96
 go_upto_region 1 with fail
 generalize ((w.alloc (.cells #[.int .i64 x0, .int .i64 x1, v2, v3] 53)).alloc (.cells #[.int .i64 0, .int .i64 0, .slice none 0 0, .slice none 0 0] 53)) = W0 at *
 have ld := cell4 (SP.out.gB 1 rfl)
 go_wp2_with fail
 clear ld
 refine (copyLQueryCond _ _ _ (slR_below tCond_law H2.out SP.out.d) (zL_len S2.out)).mono ?_
 rintro e V2 ⟨g2, rfl, o, c⟩
 obtain ⟨ga2, gc2, rfl⟩ := slO_len o
 obtain ⟨F2, sp⟩ := SP.out.pushTE tCond_law tCondS_law c o (fun b h => h)
 replace SP := zh sp
 clear sp o c
 have le := cell4 (SP.out.gB 2 rfl)
 have fz := froz4 (SP.out.gB 2 rfl)
 go_upto_region 2 with fail
 clear le fz
 have e := setCell_box (SP.out.gB 2 rfl) 2 (.slice ga2 x2.length gc2)
 simp only [List.setIfInBounds_toArray, List.set_cons_succ, List.set_cons_zero] at e
 rw [e]
 clear e
 replace SP := zh (SP.out.store 2 rfl [.int .i64 x0, .int .i64 x1, .slice ga2 x2.length gc2, v3])
 generalize V2.setRow w.heap.size #[.int .i64 x0, .int .i64 x1, .slice ga2 x2.length gc2, v3] = Y2 at *
 have ld := cell4 (SP.out.gB 2 rfl)
 go_wp2_with fail
 clear ld
 refine (copyLRowint _ _ _ (slR_below tInt_law H3.out SP.out.d) (zL_len S3.out)).mono ?_
 rintro e V3 ⟨g3, rfl, o, c⟩
 obtain ⟨ga3, gc3, rfl⟩ := slO_len o
 obtain ⟨F3, sp⟩ := SP.out.pushTE tInt_law tIntS_law c o (fun b h => h)
 replace SP := zh sp
 clear sp o c
 have le := cell4 (SP.out.gB 3 rfl)
 have fz := froz4 (SP.out.gB 3 rfl)
 go_upto_region 3 with fail
 clear le fz
 have e := setCell_box (SP.out.gB 3 rfl) 3 (.slice ga3 x3.length gc3)
 simp only [List.setIfInBounds_toArray, List.set_cons_succ, List.set_cons_zero] at e
 rw [e]
 clear e
 replace SP := zh (SP.out.store 3 rfl [.int .i64 x0, .int .i64 x1, .slice ga2 x2.length gc2, .slice ga3 x3.length gc3])
 generalize V3.setRow w.heap.size #[.int .i64 x0, .int .i64 x1, .slice ga2 x2.length gc2, .slice ga3 x3.length gc3] = Y3 at *
 generalize hu0 : Value.int .i64 x0 = u0 at SP
 have on0 : ∀ v ∈ [u0], v.oneCell' = true := by rw [← hu0]; simp [Value.oneCell']
 have HU0 := zh hu0
 clear hu0
 generalize hu1 : Value.int .i64 x1 = u1 at SP
 have on1 : ∀ v ∈ [u1], v.oneCell' = true := by rw [← hu1]; simp [Value.oneCell']
 have HU1 := zh hu1
 clear hu1
 generalize hu2 : Value.slice ga2 x2.length gc2 = u2 at SP
 have on2 : ∀ v ∈ [u2], v.oneCell' = true := by rw [← hu2]; simp [Value.oneCell']
 have HU2 := zh hu2
 clear hu2
 generalize hu3 : Value.slice ga3 x3.length gc3 = u3 at SP
 have on3 : ∀ v ∈ [u3], v.oneCell' = true := by rw [← hu3]; simp [Value.oneCell']
 have HU3 := zh hu3
 clear hu3
 have hone := (one_app on0 (one_app on1 (one_app on2 on3)))
 clear on0 on1 on2 on3
 have ld := cell4 (SP.out.gB 3 rfl)
 have st := rst4 (P := Tryz.prog) (SP.out.gB 2 rfl) hone
 go_wp2
 clear ld st hone
 replace SP := zh (SP.out.store 2 rfl [u0, u1, u2, u3])
 generalize Y3.setRow (w.heap.size + 1) #[u0, u1, u2, u3] = YY at *
 have ld := cell4 (SP.out.gB 2 rfl)
 have J := SP.out.sub [0, 1] (by decide)
 refine bodyPost_ret (v := .agg #[u0, u1, u2, u3]) (by simp [results, Tryz.f96, go_sem, ld]) rfl ?_
 obtain ⟨_, J⟩ := J.cat
 replace J := J.intp x1
 replace J := J.intp x0
 obtain rfl := HU0.out
 obtain rfl := HU1.out
 obtain rfl := HU2.out
 obtain rfl := HU3.out
 exact ⟨_, rfl, J.outC, SP.out.d⟩
end Go.Proofs.YtnepfacnmaoieaaGreatDoor
namespace Go.Proofs.YtnepfacnmaoieaaGreatDoor
open Go.RowKit
set_option linter.unusedVariables false
set_option linter.unusedSimpArgs false
set_option maxHeartbeats 8000000 in
theorem copyK_Row {cs : List Value} {x : _} {w : World} (h : tRow.R w cs x) (hs : leRow x) :
  Calls Tryz.prog 211 #[.agg cs.toArray] w (FreshT tRow (fun cs => .agg cs.toArray) w x) := by
 obtain ⟨x0, x1⟩ := x
 obtain ⟨v1, rfl, h1⟩ := tRow_P h
 have l1 := hs
 have H1 := zh h1; have S1 := zh l1
 clear h1
 clear l1
 have SP : Hid (St w [iB (w.heap.size + 1) [.int .i64 0, .slice none 0 0] 75, iB w.heap.size [.int .i64 x0, v1] 75] ((w.alloc (.cells #[.int .i64 x0, v1] 75)).alloc (.cells #[.int .i64 0, .slice none 0 0] 75))) := zh (by have := ((St.init w).box [.int .i64 x0, v1] 75).box [.int .i64 0, .slice none 0 0] 75; simpa only [World.size_alloc] using this)
 go_enter Tryz.func211, Tryz.ntmps211
 go_upto_region 1 with fail
 generalize ((w.alloc (.cells #[.int .i64 x0, v1] 75)).alloc (.cells #[.int .i64 0, .slice none 0 0] 75)) = W0 at *
 have ld := cell2 (SP.out.gB 1 rfl)
 go_wp2_with fail
 clear ld
 refine (copyLRowint _ _ _ (slR_below tInt_law H1.out SP.out.d) (zL_len S1.out)).mono ?_
 rintro e V1 ⟨g1, rfl, o, c⟩
 obtain ⟨ga1, gc1, rfl⟩ := slO_len o
 obtain ⟨F1, sp⟩ := SP.out.pushTE tInt_law tIntS_law c o (fun b h => h)
 replace SP := zh sp
 clear sp o c
 have le := cell2 (SP.out.gB 2 rfl)
 have fz := froz2 (SP.out.gB 2 rfl)
 go_upto_region 2 with fail
 clear le fz
 have e := setCell_box (SP.out.gB 2 rfl) 1 (.slice ga1 x1.length gc1)
 simp only [List.setIfInBounds_toArray, List.set_cons_succ, List.set_cons_zero] at e
 rw [e]
 clear e
 replace SP := zh (SP.out.store 2 rfl [.int .i64 x0, .slice ga1 x1.length gc1])
 generalize V1.setRow w.heap.size #[.int .i64 x0, .slice ga1 x1.length gc1] = Y1 at *
 generalize hu0 : Value.int .i64 x0 = u0 at SP
 have on0 : ∀ v ∈ [u0], v.oneCell' = true := by rw [← hu0]; simp [Value.oneCell']
 have HU0 := zh hu0
 clear hu0
 generalize hu1 : Value.slice ga1 x1.length gc1 = u1 at SP
 have on1 : ∀ v ∈ [u1], v.oneCell' = true := by rw [← hu1]; simp [Value.oneCell']
 have HU1 := zh hu1
 clear hu1
 have hone := (one_app on0 on1)
 clear on0 on1
 have ld := cell2 (SP.out.gB 2 rfl)
 have st := rst2 (P := Tryz.prog) (SP.out.gB 1 rfl) hone
 go_wp2
 clear ld st hone
 replace SP := zh (SP.out.store 1 rfl [u0, u1])
 generalize Y1.setRow (w.heap.size + 1) #[u0, u1] = YY at *
 have ld := cell2 (SP.out.gB 1 rfl)
 have J := SP.out.sub [0] (by decide)
 refine bodyPost_ret (v := .agg #[u0, u1]) (by simp [results, Tryz.f211, go_sem, ld]) rfl ?_
 replace J := J.intp x0
 obtain rfl := HU0.out
 obtain rfl := HU1.out
 exact ⟨_, rfl, J.outC, SP.out.d⟩
theorem Tryz.yinfo_RowS : (Tryz.prog.info? 75).map (fun i => (i.zero, i.size)) = some (some (.agg #[.int .i64 0, .slice none 0 0]), 2) := by kernel_rfl
theorem Tryz.ybytes_RowS : ((Tryz.prog.info? 75).map (fun i => decide (i.bytes ≤ 512))) = some true := by kernel_rfl
set_option maxHeartbeats 8000000 in
theorem copyKE_Row {v : Value} {xs : _} {w : World} (h : SlR tRow w v xs) (hs : zL tRow xs ≤ 1048576) :
  Calls Tryz.prog 210 #[v, .func (.func 211) #[] #[]] w (FreshS 75 tRow w xs) := by
 obtain ⟨i0, hi, hz0, hz1⟩ : ∃ i0, Tryz.prog.info? 75 = some i0 ∧ i0.zero = some (.agg #[.int .i64 0, .slice none 0 0]) ∧ i0.size = 2 := by
  have h0 := Tryz.yinfo_RowS
  cases q : Tryz.prog.info? 75 with
  | none => rw [q] at h0; simp at h0
  | some i => rw [q] at h0; simp only [Option.map_some, Option.some.injEq, Prod.mk.injEq] at h0; exact ⟨i, rfl, h0.1, h0.2⟩
 have hz2 : i0.bytes ≤ 512 := by
  have h0 := Tryz.ybytes_RowS
  rw [hi] at h0
  simpa using h0
 have HI := zh hi; have HZ0 := zh hz0; have HZ1 := zh hz1; have HZ2 := zh hz2
 clear hi hz0 hz1 hz2
 have H := zh h
 have hlen := zL_len hs
 have HS := zh hs
 obtain ⟨a, cap, rfl⟩ := slR_len h
 clear h hs
 go_enter Tryz.func210, Tryz.ntmps210
 go_wp2_with (at_make; refine wpList_make_full _ rfl (.tmp 9) (.tmp 9) 57 rfl w.heap.size 75 i0 (.agg #[.int .i64 0, .slice none 0 0]) 2 Tryz.underlying57 HI.out HZ0.out HZ1.out _ _ _ _ xs.length rfl rfl rfl rfl (by have h9 := Nat.mul_le_mul HZ2.out hlen; have h8 := Nat.mul_le_mul hlen HZ2.out; omega) (by unfold maxLen; omega) (Nat.le_refl _) ?_)
 intro w1 hown0 hg0
 have hown1 : SlO 75 tRow w1 (since w) (.slice (some ⟨w.heap.size, 0, none⟩) xs.length xs.length) (List.replicate xs.length tRow.d) := slO_made (z := #[.int .i64 0, .slice none 0 0]) tRow_law rfl (tRow_zero w1) (Nat.le_refl _) hown0
 have hbel1 := (Below.refl w.heap.size w).grown hg0 (Nat.le_refl _) (fun k hk => by cases hk)
 clear hown0 hg0
 go_wp2
 go_loopw [6, 7, 13] (fun u6 u7 i wr => ∃ k : Nat, k ≤ xs.length ∧ i = .int .i64 k ∧ SlO 75 tRow wr (since w) (.slice (some ⟨w.heap.size, 0, none⟩) xs.length xs.length) (xs.take k ++ List.replicate (xs.length - k) tRow.d) ∧ Below w.heap.size w wr) (fun _ _ i _ => xs.length - (intOf i).toNat)
 case atStart => exact ⟨0, Nat.zero_le _, rfl, by simpa using hown1, hbel1⟩
 case round =>
  obtain ⟨k, hk, rfl, hown, hbel⟩ := hrel
  by_cases hlt : k < xs.length
  ·
   have HSET := zh (cTo_step (d := tRow.d) hlt)
   have HKL : k < (xs.take k ++ List.replicate (xs.length - k) tRow.d).length := by rw [cTo_len hk]; exact hlt
   have i1 : (0 : Int) ≤ (k : Int) := by omega
   have i2 : (k : Int) < (xs.length : Int) := by omega
   have S1 := zh (zL_at HS.out hlt)
   obtain ⟨b, off, cap', cs, hv, hbl, hcs, hR⟩ := slR_at (slR_below tRow_law H.out hbel) hlt
   simp only [Value.slice.injEq] at hv
   obtain ⟨rfl, _, rfl⟩ := hv
   obtain ⟨cur, hg, hsz, hput⟩ := slO_fill tRow_law hown HKL
   have HG := zh hg; have HP := zh hput; have HB := zh hbel
   clear HKL hown1 hbel1 hg hput hown hbel
   generalize xs.getD k tRow.d = x at *
   obtain ⟨y0, y1, rfl⟩ := len2 (tRow_law.len hR)
   have p := row2 (o := off + k * 2) hcs
   have HR := zh hR
   clear hcs hR
   have hone := tRow_one HR.out
   have HP0 := zh p
   have SV := zh ((St.init wr).box [.int .i64 0, .slice none 0 0] 75)
   have st := rst2 (P := Tryz.prog) (SV.out.gB 0 rfl) hone
   go_upto_region 5 with fail
   clear st p hone
   replace SV := zh (SV.out.store 0 rfl [y0, y1])
   generalize (wr.alloc (.cells #[.int .i64 0, .slice none 0 0] 75)).setRow wr.heap.size #[y0, y1] = WV at *
   have ld := cell2 (SV.out.gB 0 rfl)
   go_wp2_with fail
   clear ld
   have bv := SV.out.d
   refine (copyK_Row (tRow_law.below HR.out SV.out.d) (leRow_of S1.out)).mono ?_
   rintro e w2 ⟨gs, rfl, ow, b2⟩
   obtain ⟨g0, g1, rfl⟩ := len2 (tRow_law.len (tRow_law.reads ow))
   have hgl := (Array.getElem?_eq_some_iff.1 HG.out).1
   have c2 : Below wr.heap.size wr w2 := bv.trans (b2.mono bv.size)
   have ox := ow
   replace ow := tRow_law.mono ow (fun b hb => Nat.le_trans bv.size hb)
   have st := fill2 (P := Tryz.prog) (o := k * 2) ((c2.block _ hgl).trans HG.out) hsz (tRow_one (tRow_law.reads ow))
   have HST := zh (HP.out w2 _ _ _ c2 ow (fun b hb => ⟨Nat.le_trans HB.out.size hb, hb⟩))
   rw [HSET.out] at HST
   have B3 := zh (below_turn (HB.out.trans (c2.mono HB.out.size)) (turn_row (b := w.heap.size) (c := putL cur (k * 2) [g0, g1])) (fun b hb => by rw [hb]; exact Nat.le_refl _) (Nat.le_trans HB.out.size c2.size))
   clear hsz hgl b2 ow ox c2 bv SV
   go_wp2
   go_roundw
   case rel => exact ⟨k + 1, by omega, by go_num, HST.out, B3.out⟩
   case measure => simp [intOf]; omega
  ·
   obtain rfl : k = xs.length := by omega
   have HE : Hid (xs.take xs.length ++ List.replicate (xs.length - xs.length) tRow.d = xs) := zh (by simp)
   rw [HE.out] at hown
   go_wp2
   go_ret
   exact ⟨_, rfl, hown, hbel⟩
set_option maxHeartbeats 8000000 in
theorem copyRowsK {v : Value} {xs : _} {w : World} (h : SlR tRow w v xs) (hs : zL tRow xs ≤ 1048576) :
  Calls Tryz.prog 152 #[v] w (FreshS 75 tRow w xs) := by
 have H := zh h
 have HS := zh hs
 obtain ⟨a, cap, rfl⟩ := slR_len h
 clear h hs
 go_enter Tryz.func152, Tryz.ntmps152
 go_wp2_with fail
 refine (copyKE_Row H.out HS.out).mono ?_
 rintro e w1 ⟨g, rfl, o, c⟩
 obtain ⟨ga, gc, rfl⟩ := slO_len o
 go_wp2
 go_ret
 exact ⟨_, rfl, o, c⟩
end Go.Proofs.YtnepfacnmaoieaaGreatDoor
namespace Go.Proofs.YtnepfacnmaoieaaGreatDoor
open Go.RowKit
set_option linter.unusedVariables false
set_option linter.unusedSimpArgs false
set_option maxHeartbeats 8000000 in
theorem copyK_Finished {cs : List Value} {x : _} {w : World} (h : tFinished.R w cs x) (hs : leFinished x) :
  Calls Tryz.prog 81 #[.agg cs.toArray] w (FreshT tFinished (fun cs => .agg cs.toArray) w x) := by
 obtain ⟨x0, x1, x2, x3⟩ := x
 obtain ⟨p0_0, p0_1, p0_2, p0_3, v3, rfl, h0, h3⟩ := tFinished_P h
 obtain ⟨l0, l3⟩ := hs
 have H0 := zh h0; have S0 := zh l0
 have H3 := zh h3; have S3 := zh l3
 clear h0 h3
 clear l0 l3
 have SP : Hid (St w [iB (w.heap.size + 1) [.int .i64 0, .int .i64 0, .slice none 0 0, .slice none 0 0, .int .i64 0, .int .i64 0, .slice none 0 0] 59, iB w.heap.size [p0_0, p0_1, p0_2, p0_3, .int .i64 x1, .int .i64 x2, v3] 59] ((w.alloc (.cells #[p0_0, p0_1, p0_2, p0_3, .int .i64 x1, .int .i64 x2, v3] 59)).alloc (.cells #[.int .i64 0, .int .i64 0, .slice none 0 0, .slice none 0 0, .int .i64 0, .int .i64 0, .slice none 0 0] 59))) := zh (by have := ((St.init w).box [p0_0, p0_1, p0_2, p0_3, .int .i64 x1, .int .i64 x2, v3] 59).box [.int .i64 0, .int .i64 0, .slice none 0 0, .slice none 0 0, .int .i64 0, .int .i64 0, .slice none 0 0] 59; simpa only [World.size_alloc] using this)
 go_enter Tryz.func81, Tryz.ntmps81
 go_upto_region 1 with fail
 generalize ((w.alloc (.cells #[p0_0, p0_1, p0_2, p0_3, .int .i64 x1, .int .i64 x2, v3] 59)).alloc (.cells #[.int .i64 0, .int .i64 0, .slice none 0 0, .slice none 0 0, .int .i64 0, .int .i64 0, .slice none 0 0] 59)) = W0 at *
 have ld := cell7 (SP.out.gB 1 rfl)
 go_wp2_with fail
 clear ld
 refine (copyK_Query (tQuery_law.below H0.out SP.out.d) S0.out).mono ?_
 rintro e V0 ⟨gs, rfl, o, c⟩
 obtain ⟨g0_0, g0_1, g0_2, g0_3, rfl⟩ := len4 (tQuery_law.len (tQuery_law.reads o))
 obtain ⟨F0, sp⟩ := SP.out.pushE tQuery_law c o (fun b h => h)
 replace SP := zh sp
 clear sp o c
 have st0_ := store_at (P := Tryz.prog) (j := 0) (SP.out.gB 2 rfl) (by simp) (v := g0_0) (tQuery_one (SP.out.rT 0 rfl) _ (by simp))
 have st1_ := store_at (P := Tryz.prog) (j := 1) (setRow_heap V0 w.heap.size _ #[g0_0, p0_1, p0_2, p0_3, .int .i64 x1, .int .i64 x2, v3] 59 (0, 0) (SP.out.gB 2 rfl)) (by simp) (v := g0_1) (tQuery_one (SP.out.rT 0 rfl) _ (by simp))
 rw [setRow_setRow] at st1_
 have st2_ := store_at (P := Tryz.prog) (j := 2) (setRow_heap V0 w.heap.size _ #[g0_0, g0_1, p0_2, p0_3, .int .i64 x1, .int .i64 x2, v3] 59 (0, 0) (SP.out.gB 2 rfl)) (by simp) (v := g0_2) (tQuery_one (SP.out.rT 0 rfl) _ (by simp))
 rw [setRow_setRow] at st2_
 have st3_ := store_at (P := Tryz.prog) (j := 3) (setRow_heap V0 w.heap.size _ #[g0_0, g0_1, g0_2, p0_3, .int .i64 x1, .int .i64 x2, v3] 59 (0, 0) (SP.out.gB 2 rfl)) (by simp) (v := g0_3) (tQuery_one (SP.out.rT 0 rfl) _ (by simp))
 rw [setRow_setRow] at st3_
 simp only [List.setIfInBounds_toArray, List.set_cons_succ, List.set_cons_zero] at st0_ st1_ st2_ st3_
 go_upto_region 2 with fail
 clear st0_ st1_ st2_ st3_
 replace SP := zh (SP.out.store 2 rfl [g0_0, g0_1, g0_2, g0_3, .int .i64 x1, .int .i64 x2, v3])
 generalize V0.setRow w.heap.size #[g0_0, g0_1, g0_2, g0_3, .int .i64 x1, .int .i64 x2, v3] = Y0 at *
 have ld := cell7 (SP.out.gB 2 rfl)
 go_wp2_with fail
 clear ld
 refine (copyRowsK (slR_below tRow_law H3.out SP.out.d) S3.out).mono ?_
 rintro e V3 ⟨g3, rfl, o, c⟩
 obtain ⟨ga3, gc3, rfl⟩ := slO_len o
 obtain ⟨F3, sp⟩ := SP.out.pushTE tRow_law tRowS_law c o (fun b h => h)
 replace SP := zh sp
 clear sp o c
 have le := cell7 (SP.out.gB 3 rfl)
 have fz := froz7 (SP.out.gB 3 rfl)
 go_upto_region 3 with fail
 clear le fz
 have e := setCell_box (SP.out.gB 3 rfl) 6 (.slice ga3 x3.length gc3)
 simp only [List.setIfInBounds_toArray, List.set_cons_succ, List.set_cons_zero] at e
 rw [e]
 clear e
 replace SP := zh (SP.out.store 3 rfl [g0_0, g0_1, g0_2, g0_3, .int .i64 x1, .int .i64 x2, .slice ga3 x3.length gc3])
 generalize V3.setRow w.heap.size #[g0_0, g0_1, g0_2, g0_3, .int .i64 x1, .int .i64 x2, .slice ga3 x3.length gc3] = Y3 at *
 generalize hu4 : Value.int .i64 x1 = u4 at SP
 have on4 : ∀ v ∈ [u4], v.oneCell' = true := by rw [← hu4]; simp [Value.oneCell']
 have HU4 := zh hu4
 clear hu4
 generalize hu5 : Value.int .i64 x2 = u5 at SP
 have on5 : ∀ v ∈ [u5], v.oneCell' = true := by rw [← hu5]; simp [Value.oneCell']
 have HU5 := zh hu5
 clear hu5
 generalize hu6 : Value.slice ga3 x3.length gc3 = u6 at SP
 have on6 : ∀ v ∈ [u6], v.oneCell' = true := by rw [← hu6]; simp [Value.oneCell']
 have HU6 := zh hu6
 clear hu6
 have hone := (one_app (tQuery_one (SP.out.rT 1 rfl)) (one_app on4 (one_app on5 on6)))
 clear on4 on5 on6
 have ld := cell7 (SP.out.gB 3 rfl)
 have st := rst7 (P := Tryz.prog) (SP.out.gB 2 rfl) hone
 go_wp2
 clear ld st hone
 replace SP := zh (SP.out.store 2 rfl [g0_0, g0_1, g0_2, g0_3, u4, u5, u6])
 generalize Y3.setRow (w.heap.size + 1) #[g0_0, g0_1, g0_2, g0_3, u4, u5, u6] = YY at *
 have ld := cell7 (SP.out.gB 2 rfl)
 have J := SP.out.sub [0, 1] (by decide)
 refine bodyPost_ret (v := .agg #[g0_0, g0_1, g0_2, g0_3, u4, u5, u6]) (by simp [results, Tryz.f81, go_sem, ld]) rfl ?_
 replace J := J.intp x2
 replace J := J.intp x1
 obtain ⟨_, J⟩ := J.cat
 obtain rfl := HU4.out
 obtain rfl := HU5.out
 obtain rfl := HU6.out
 exact ⟨_, rfl, J.outC, SP.out.d⟩
end Go.Proofs.YtnepfacnmaoieaaGreatDoor
