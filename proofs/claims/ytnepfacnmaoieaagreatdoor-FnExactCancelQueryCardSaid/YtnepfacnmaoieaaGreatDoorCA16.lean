/-
 Texts of the proof, merged: MaskMath, MaskWalks, CountMath, SlEq, CopyEachRow, YVersion, YStore, CopyEachQuery, YQuery, YRow, YActive, YFinished, YCharge, YEngine.
-/
import Derived.Test.YtnepfacnmaoieaaGreatDoorCA1
import Derived.Test.YtnepfacnmaoieaaGreatDoorCA2
import Derived.Test.YtnepfacnmaoieaaGreatDoorCA4
import Derived.Test.YtnepfacnmaoieaaGreatDoorCA5
import Derived.Test.YtnepfacnmaoieaaGreatDoorCA15
import Derived.Laws.BitsLemmas
import Derived.Deep.RegionHeld3
import Derived.Lib.BitFns
import Derived.BigQuiet
import Derived.Deep.QuietTactic
import Derived.Deep.Cut
namespace Go.Proofs.YtnepfacnmaoieaaGreatDoor
open Go.RowKit
open Go renaming frozen_of_row → Ez
open Go.World renaming size_alloc → Ie
open Nat renaming le_refl → Ii, zero_le → Ij
open Go.Value.slice renaming injEq → Ik
open Go.RowKit.Below renaming refl → Il
open ZD0
set_option maxRecDepth 100000
set_option linter.unusedVariables false
set_option linter.unusedSimpArgs false
/-- The mask of the first k numbers. -/
def Xp (l : List Int) (k : Nat) : Nat := (l.take k).foldl (fun m x => m ||| 2 ^ x.toNat) 0
theorem maskTo_zero (l : List Int) : Xp l 0 = 0 := by simp [Xp]
theorem maskTo_step {l : List Int} {k : Nat} (hk : k < l.length) : Xp l (k + 1) = Xp l k ||| 2 ^ (l.getD k 0).toNat := by
 unfold Xp
 have e : l.getD k 0 = l[k] := by simp [List.getD, hk]
 rw [e, List.take_succ_eq_append_getElem hk, List.foldl_append]
 rfl
theorem setTo_pred {l : List Int} {k : Nat} (h : SetTo l (k + 1)) : SetTo l k := ⟨fun i hi => h.1 i (by omega), fun i hi => h.2 i (by omega)⟩
theorem bit_maskTo {l : List Int} : ∀ {k : Nat}, k ≤ l.length → SetTo l k → ∀ i : Nat, (Xp l k).testBit i = true ↔ ∃ j, j < k ∧ l.getD j 0 = (i : Int) := by
 intro k
 induction k with
 | zero => intro _ _ i; simp [maskTo_zero]
 | succ k ih =>
  intro hk hs i
  rw [maskTo_step (by omega), Nat.testBit_or, Bool.or_eq_true, ih (by omega) (setTo_pred hs), Nat.testBit_two_pow]
  have h0 := hs.1 k (by omega)
  constructor
  ·
   rintro (⟨j, hj, e⟩ | h)
   ·
    exact ⟨j, by omega, e⟩
   ·
    have := of_decide_eq_true h
    exact ⟨k, by omega, by omega⟩
  ·
   rintro ⟨j, hj, e⟩
   by_cases ej : j = k
   ·
    subst ej; right; rw [decide_eq_true_eq]; omega
   ·
    exact Or.inl ⟨j, by omega, e⟩
theorem maskTo_lt {l : List Int} {k : Nat} (hk : k ≤ l.length) (hs : SetTo l k) (x : Nat) (h : ∀ j, j < k → l.getD j 0 < (x : Int)) : Xp l k < 2 ^ x := by
 refine Nat.lt_pow_two_of_testBit _ fun i hi => ?_
 rw [Bool.eq_false_iff]
 intro g
 obtain ⟨j, hj, e⟩ := (bit_maskTo hk hs i).1 g
 have := h j hj
 omega
theorem maskTo_lt24 {l : List Int} {k : Nat} (hk : k ≤ l.length) (hs : SetTo l k) : Xp l k < 16777216 :=
 maskTo_lt hk hs 24 (fun j hj => by have := (hs.1 j hj).2; omega)
theorem maskTo_ge {l : List Int} {k : Nat} (hk : k ≤ l.length) (hs : SetTo l k) {x : Nat} {j : Nat} (hj : j < k) (h : (x : Int) ≤ l.getD j 0) : 2 ^ x ≤ Xp l k := by
 have h0 := (hs.1 j hj).1
 have := (bit_maskTo hk hs (l.getD j 0).toNat).2 ⟨j, hj, by omega⟩
 exact Nat.le_trans (Nat.pow_le_pow_right (by omega) (by omega)) (Nat.ge_two_pow_of_testBit this)
theorem setTo_mono {l : List Int} {k : Nat} (h : SetTo l k) : ∀ {i j : Nat}, i < j → j < k → l.getD i 0 < l.getD j 0 := by
 intro i j hij
 obtain ⟨d, rfl⟩ : ∃ d, j = i + d + 1 := ⟨j - i - 1, by omega⟩
 clear hij
 induction d with
 | zero => intro hj; exact h.2 i hj
 | succ d ih => intro hj; exact Int.lt_trans (ih (by omega)) (h.2 (i + d + 1) hj)
/-- The bit test of maskOf: no bit from x on, just where x goes on the ascent. -/
theorem maskTo_next {l : List Int} {k : Nat} (hk : k < l.length) (hs : SetTo l k) {x : Nat} (hx : l.getD k 0 = (x : Int)) (hx23 : x ≤ 23) : Xp l k / 2 ^ x = 0 ↔ SetTo l (k + 1) := by
 rw [Nat.div_eq_zero_iff]
 constructor
 ·
  rintro (h | h)
  ·
   exact absurd h (Nat.ne_of_gt (Nat.two_pow_pos x))
  ·
   refine setTo_step hs (by omega) (by omega) fun h0 => ?_
   apply Int.not_le.1
   intro g
   rw [hx] at g
   have := maskTo_ge (Nat.le_of_lt hk) hs (j := k - 1) (by omega) g
   omega
 ·
  intro h
  right
  refine maskTo_lt (Nat.le_of_lt hk) hs x fun j hj => ?_
  rw [← hx]
  exact setTo_mono h hj (by omega)
/-- The mask of a set, 0 of any other list. -/
def maskL (l : List Int) : Nat := if setB l = true then Xp l l.length else 0
theorem maskL_yes {l : List Int} (h : SetL l) : maskL l = Xp l l.length := by unfold maskL; rw [if_pos ((setB_iff l).2 h)]
theorem maskL_no {l : List Int} (h : setB l = false) : maskL l = 0 := by unfold maskL; rw [h]; rfl
theorem nat_u32 (a : Nat) (ha : a < 4294967296) : (BitVec.ofInt 32 (a : Int)).toNat = a := by
 rw [BitVec.ofInt_natCast, BitVec.toNat_ofNat]; exact Nat.mod_eq_of_lt (by omega)
theorem or_u32 (a b : Nat) (ha : a < 4294967296) (hb : b < 4294967296) : bits .or .u32 (a : Int) (b : Int) = ((a ||| b : Nat) : Int) := by
 have hx : a ||| b < 2 ^ 32 := Nat.or_lt_two_pow (by omega) (by omega)
 show IntKind.u32.wrap ((BitVec.ofInt 32 (a : Int) ||| BitVec.ofInt 32 (b : Int)).toNat : Int) = _
 rw [BitVec.toNat_or, nat_u32 a ha, nat_u32 b hb, IntKind.wrap_u32]
 omega
theorem isQuery (x : Int) (w : World) : Calls Tryz.prog 215 #[.int .i64 x] w fun e w' => e = .returned (.bool (decide (0 ≤ x ∧ x ≤ 23))) ∧ w' = w := by
 by_cases h0 : 0 ≤ x
 ·
  by_cases h1 : x ≤ 23
  ·
   rw [decide_eq_true (show 0 ≤ x ∧ x ≤ 23 from ⟨h0, h1⟩)]
   have h2 : x < 24 := by omega
   go_enter Tryz.func215, Tryz.ntmps215
   go_wp2
   go_ret
   exact ⟨rfl, rfl⟩
  ·
   rw [decide_eq_false (show ¬ (0 ≤ x ∧ x ≤ 23) by omega)]
   have h2 : ¬ x < 24 := by omega
   go_enter Tryz.func215, Tryz.ntmps215
   go_wp2
   go_ret
   exact ⟨rfl, rfl⟩
 ·
  rw [decide_eq_false (show ¬ (0 ≤ x ∧ x ≤ 23) by omega)]
  go_enter Tryz.func215, Tryz.ntmps215
  go_wp2
  go_ret
  exact ⟨rfl, rfl⟩
theorem pair_eq {a b : Nat} {x y : Bool} (h1 : a = b) (h2 : x = y) : Ending.returned (.tuple #[.int .u32 (a : Int), .bool x]) = .returned (.tuple #[.int .u32 (b : Int), .bool y]) := by rw [h1, h2]
set_option maxHeartbeats 2000000 in
theorem implMaskOf (va : Value) (a : List Int) (w : World) (h : Uc w va a) (hn : a.length ≤ 1073741824) :
  Calls Tryz.prog 243 #[va] w fun e w' => e = .returned (.tuple #[.int .u32 (maskL a : Nat), .bool (setB a)]) ∧ Below w w w' := by
 obtain ⟨ap, cap, hva⟩ := Yg h
 have HA := Lib.hid h
 have HN := Lib.hid hn
 clear h hn
 subst hva
 go_enter Tryz.func243, Tryz.ntmps243
 go_wp2
 go_loopw [4, 9] (fun m i wr => ∃ k : Nat, k ≤ a.length ∧ i = .int .i64 k ∧ Hid (SetTo a k) ∧ m = .int .u32 (Xp a k : Nat) ∧ wr = w) (fun _ i _ => a.length - (intOf i).toNat)
 case atStart => exact ⟨0, Ij _, rfl, Lib.hid ⟨fun i hi => by omega, fun i hi => by omega⟩, by rw [maskTo_zero]; rfl, rfl⟩
 case round =>
  obtain ⟨k, hk, rfl, hset, rfl, rfl⟩ := hrel
  by_cases hlt : k < a.length
  ·
   obtain ⟨b, off, cap', hv, hbl, hc⟩ := Vq HA.out (by omega)
   simp only [Ik] at hv
   obtain ⟨rfl, _, rfl⟩ := hv
   have hcell := hc k hlt
   have i1 : (0 : Int) ≤ (k : Int) := by omega
   have i2 : (k : Int) < (a.length : Int) := by omega
   clear hc
   by_cases hr : 0 ≤ a.getD k 0 ∧ a.getD k 0 ≤ 23
   ·
    obtain ⟨x, hx⟩ : ∃ x : Nat, a.getD k 0 = (x : Int) := ⟨(a.getD k 0).toNat, by omega⟩
    have hx23 : x ≤ 23 := by omega
    have HQ := Lib.hid (show decide (0 ≤ (x : Int) ∧ (x : Int) ≤ 23) = true from decide_eq_true (by omega))
    have hnext := maskTo_next hlt hset.out hx hx23
    have HST := Lib.hid (maskTo_step hlt)
    rw [hx] at hcell HST
    have HM0 := Lib.hid (maskTo_lt24 (Nat.le_of_lt hlt) hset.out)
    have hdiv : ((Xp a k : Nat) : Int) / 2 ^ x = ((Xp a k / 2 ^ x : Nat) : Int) := by norm_cast
    by_cases hz : Xp a k / 2 ^ x = 0
    ·
     have HS1 := Lib.hid (hnext.1 hz)
     have HB : ((Xp a k : Int) / 2 ^ x != 0) = false := by rw [hdiv, hz]; rfl
     have HP : Hid (2 ^ x < 16777216 ∧ ((2 : Int) ^ x % 4294967296 = ((2 ^ x : Nat) : Int))) := by
      have h2 : 2 ^ x < 2 ^ 24 := Nat.pow_lt_pow_right (by omega) (show x < 24 by omega)
      have h3 : (2 : Int) ^ x = ((2 ^ x : Nat) : Int) := by norm_cast
      exact Lib.hid ⟨h2, by rw [h3]; clear h3; generalize 2 ^ x = q at *; omega⟩
     have HK := Lib.hid hlt
     clear hr hnext hx hz hset hk hlt hdiv
     generalize Xp a k = m at *
     go_wp2_with fail
     refine (isQuery _ _).mono ?_
     rintro e w1 ⟨rfl, rfl⟩
     rw [HQ.out]
     have hn := HN.out
     go_wp2
     go_roundw
     case rel => exact ⟨k + 1, HK.out, by go_num, HS1, by rw [HP.out.2, or_u32 m _ (by have := HM0.out; omega) (by have := HP.out.1; omega), HST.out]; rfl, by first | rfl | trivial⟩
     case measure => have := HK.out; simp [intOf]; omega
    ·
     have HF := Lib.hid (setB_no (l := a) (fun g => hz (hnext.2 ⟨fun i hi => g.1 i (by omega), fun i hi => g.2 i (by omega)⟩)))
     have HB : ((Xp a k : Int) / 2 ^ x != 0) = true := by rw [hdiv, bne_iff_ne]; omega
     clear hr hnext hx hz hset hk hlt hdiv
     generalize Xp a k = m at *
     go_wp2_with fail
     refine (isQuery _ _).mono ?_
     rintro e w1 ⟨rfl, rfl⟩
     rw [HQ.out]
     go_wp2
     go_ret2
     exact ⟨pair_eq (a := 0) (maskL_no HF.out).symm HF.out.symm, Il _ _⟩
   ·
    have HF := Lib.hid (setB_no (not_set_range hlt hr))
    have HQ := Lib.hid (show decide (0 ≤ a.getD k 0 ∧ a.getD k 0 ≤ 23) = false from decide_eq_false hr)
    clear hr hset hk hlt
    generalize Xp a k = m at *
    generalize a.getD k 0 = x at *
    go_wp2_with fail
    refine (isQuery _ _).mono ?_
    rintro e w1 ⟨rfl, rfl⟩
    rw [HQ.out]
    go_wp2
    go_ret2
    exact ⟨pair_eq (a := 0) (maskL_no HF.out).symm HF.out.symm, Il _ _⟩
  ·
   obtain rfl : k = a.length := by omega
   have HS := Lib.hid ((setTo_all a).1 hset.out)
   have HE := Lib.hid (maskL_yes HS.out)
   clear hset hk hlt
   generalize Xp a a.length = m at *
   go_wp2
   go_ret2
   exact ⟨pair_eq HE.out.symm ((setB_iff a).2 HS.out).symm, Il _ _⟩
set_option maxHeartbeats 2000000 in
theorem implIsSet (va : Value) (a : List Int) (w : World) (h : Uc w va a) (hn : a.length ≤ 1048576) :
  Calls Tryz.prog 200 #[va] w fun e w' => e = .returned (.bool (setB a)) ∧ Below w w w' := by
 have H := Lib.hid (fun w h => implMaskOf va a w h (by omega))
 have HA := Lib.hid h
 clear h hn
 go_enter Tryz.func200, Tryz.ntmps200
 go_wp2_with fail
 refine (H.out _ HA.out).mono ?_
 rintro e w1 ⟨rfl, b1⟩
 go_wp2
 go_ret
 exact ⟨rfl, b1⟩
set_option maxHeartbeats 2000000 in
theorem equalInts_any (v u : Value) (xs ys : List Int) (w : World) (h : Uc w v xs) (g : Uc w u ys) (hn : xs.length ≤ 1048576) (hm : ys.length ≤ 1048576) :
  Calls Tryz.prog 193 #[v, u] w fun e w' => e = .returned (.bool (decide (xs = ys))) ∧ Below w w w' := by
 have H := Lib.hid h
 have G := Lib.hid g
 obtain ⟨a, cap, rfl⟩ := Yg h
 obtain ⟨a2, cap2, rfl⟩ := Yg g
 clear h g
 by_cases hl : xs.length = ys.length
 ·
  have HL := Lib.hid hl
  have hne : ((xs.length : Int) != (ys.length : Int)) = false := by rw [hl]; simp
  clear hl
  go_enter Tryz.func193, Tryz.ntmps193
  go_wp2
  clear hne
  go_loopw [13] (fun i wr => ∃ k : Nat, k ≤ xs.length ∧ i = .int .i64 k ∧ Hid (∀ j, j < k → xs.getD j 0 = ys.getD j 0) ∧ Below w w wr) (fun i _ => xs.length - (intOf i).toNat)
  case atStart => exact ⟨0, Ij _, rfl, Lib.hid (fun j hj => by omega), Il _ _⟩
  case round =>
   obtain ⟨k, hk, rfl, hall, hbel⟩ := hrel
   by_cases hlt : k < xs.length
   ·
    obtain ⟨b, off, cap', hv, hbl, hc⟩ := Vq H.out (by omega)
    simp only [Ik] at hv
    obtain ⟨rfl, _, rfl⟩ := hv
    obtain ⟨b2, off2, cap2', hv2, hbl2, hc2⟩ := Vq G.out (by have := HL.out; omega)
    simp only [Ik] at hv2
    obtain ⟨rfl, _, rfl⟩ := hv2
    have hcell := (hbel.cell (p := ⟨b, off + k, none⟩) hbl).trans (hc k hlt)
    have hcell2 := (hbel.cell (p := ⟨b2, off2 + k, none⟩) hbl2).trans (hc2 k (by have := HL.out; omega))
    have i1 : (0 : Int) ≤ (k : Int) := by omega
    have i2 : (k : Int) < (xs.length : Int) := by omega
    have i3 : (k : Int) < (ys.length : Int) := by have := HL.out; omega
    clear hc hc2
    by_cases he : xs.getD k 0 = ys.getD k 0
    ·
     have HA : Hid (∀ j, j < k + 1 → xs.getD j 0 = ys.getD j 0) := Lib.hid (fun j hj => by
      by_cases e : j = k
      ·
       exact e ▸ he
      ·
       exact hall.out j (by omega))
     rw [← he] at hcell2
     clear he hall
     generalize xs.getD k 0 = y at hcell hcell2
     go_wp2
     go_quiet (fail)
     go_wp2
     go_roundw
     case rel => exact ⟨k + 1, by omega, by go_num, HA, below_dn hbel _⟩
     case measure => simp [intOf]; omega
    ·
     have HF := Lib.hid (decide_eq_false (list_ne_at hlt he))
     have heq : (xs.getD k 0 != ys.getD k 0) = true := by rw [bne_iff_ne]; exact he
     clear he hall
     generalize xs.getD k 0 = y at hcell heq
     generalize ys.getD k 0 = z at hcell2 heq
     go_wp2
     go_quiet (fail)
     go_wp2
     go_ret
     exact ⟨Jy HF.out.symm, below_dn hbel _⟩
   ·
    obtain rfl : k = xs.length := by omega
    have HT := Lib.hid (decide_eq_true (list_eq_all HL.out hall.out))
    clear hall
    go_wp2
    go_ret
    exact ⟨Jy HT.out.symm, hbel⟩
 ·
  have HF := Lib.hid (decide_eq_false (show ¬ xs = ys from fun e => hl (by rw [e])))
  have hne : ((xs.length : Int) != (ys.length : Int)) = true := by rw [bne_iff_ne]; omega
  clear hl
  go_enter Tryz.func193, Tryz.ntmps193
  go_wp2
  go_ret
  exact ⟨Jy HF.out.symm, Il _ _⟩
set_option maxHeartbeats 2000000 in
theorem Uk (v : Value) (xs : List Int) (w : World) (h : Ko Je w v xs) (hn : xs.length ≤ 1048576) :
  Calls Tryz.prog 158 #[v] w (Xg 3 Je w xs) := by
 have H := zh h
 have HN := zh hn
 obtain ⟨a, cap, rfl⟩ := Jl h
 clear h hn
 go_enter Tryz.func158, Tryz.ntmps158
 go_wp2_with (at_builtin; refine Xt Jc Uf Yp Tryz.underlying25 rfl rfl _ (.tmp 3) rfl (fun _ => False) (Kw w) _ _ [] xs rfl rfl (Ya _ _ _ _) H.out (fun _ h => h.elim) (Ii _) (by have := HN.out; simp; omega) ?_)
 intro v' w1 o1 t1
 obtain ⟨va, vc, rfl⟩ := Ju o1
 have b1 := Js (Il w.heap.size w) t1 (fun _ h => h.elim) (Ii _)
 go_wp2
 go_ret
 exact ⟨_, rfl, o1, b1⟩
set_option maxHeartbeats 8000000 in
theorem copyK_Version {cs : List Value} {x : _} {w : World} (h : Jh.R w cs x) (hs : leVersion x) :
  Calls Tryz.prog 247 #[.agg cs.toArray] w (Yy Jh (fun cs => .agg cs.toArray) w x) := by
 obtain ⟨x0, x1, x2, x3⟩ := x
 obtain ⟨v1, rfl, h1⟩ := tVersion_P h
 have l1 := hs
 have H1 := zh h1; have S1 := zh l1
 clear h1
 clear l1
 have SP : Hid (St w [iB (w.heap.size + 1) [Ja, (), Ja, Ja] 212, iB w.heap.size [.int .i64 x0, v1, .int .i64 x2, .int .i64 x3] 212] ((w.alloc (.cells #[.int .i64 x0, v1, .int .i64 x2, .int .i64 x3] 212)).alloc (.cells #[Ja, (), Ja, Ja] 212))) := zh (by have := ((St.init w).box [.int .i64 x0, v1, .int .i64 x2, .int .i64 x3] 212).box [Ja, (), Ja, Ja] 212; simpa only [Ie] using this)
 go_enter Tryz.func247, Tryz.ntmps247
 go_upto_region 1 with fail
 generalize ((w.alloc (.cells #[.int .i64 x0, v1, .int .i64 x2, .int .i64 x3] 212)).alloc (.cells #[Ja, (), Ja, Ja] 212)) = W0 at *
 have ld := Vv (SP.out.gB 1 rfl)
 go_wp2_with fail
 clear ld
 refine (Uk _ _ _ (Jb Jc H1.out SP.out.d) (Jz S1.out)).mono ?_
 rintro e V1 ⟨g1, rfl, o, c⟩
 obtain ⟨ga1, gc1, rfl⟩ := Ju o
 obtain ⟨F1, sp⟩ := SP.out.pushTE Jc Vm c o (fun b h => h)
 replace SP := zh sp
 clear sp o c
 have le := Vv (SP.out.gB 2 rfl)
 have fz := froz4 (SP.out.gB 2 rfl)
 go_upto_region 2 with fail
 clear le fz
 have e := Jv (SP.out.gB 2 rfl) 1 (.slice ga1 x1.length gc1)
 simp only [List.setIfInBounds_toArray, List.set_cons_succ, List.set_cons_zero] at e
 rw [e]
 clear e
 replace SP := zh (SP.out.store 2 rfl [.int .i64 x0, .slice ga1 x1.length gc1, .int .i64 x2, .int .i64 x3])
 generalize V1.setRow w.heap.size #[.int .i64 x0, .slice ga1 x1.length gc1, .int .i64 x2, .int .i64 x3] = Y1 at *
 generalize hu0 : Value.int .i64 x0 = u0 at SP
 have on0 : ∀ v ∈ [u0], v.oneCell' = true := by rw [← hu0]; simp [Value.oneCell']
 have HU0 := zh hu0
 clear hu0
 generalize hu1 : Value.slice ga1 x1.length gc1 = u1 at SP
 have on1 : ∀ v ∈ [u1], v.oneCell' = true := by rw [← hu1]; simp [Value.oneCell']
 have HU1 := zh hu1
 clear hu1
 generalize hu2 : Value.int .i64 x2 = u2 at SP
 have on2 : ∀ v ∈ [u2], v.oneCell' = true := by rw [← hu2]; simp [Value.oneCell']
 have HU2 := zh hu2
 clear hu2
 generalize hu3 : Value.int .i64 x3 = u3 at SP
 have on3 : ∀ v ∈ [u3], v.oneCell' = true := by rw [← hu3]; simp [Value.oneCell']
 have HU3 := zh hu3
 clear hu3
 have hone := (Kk on0 (Kk on1 (Kk on2 on3)))
 clear on0 on1 on2 on3
 have ld := Vv (SP.out.gB 2 rfl)
 have st := rst4 (P := Tryz.prog) (SP.out.gB 1 rfl) hone
 go_wp2
 clear ld st hone
 replace SP := zh (SP.out.store 1 rfl [u0, u1, u2, u3])
 generalize Y1.setRow (w.heap.size + 1) #[u0, u1, u2, u3] = YY at *
 have ld := Vv (SP.out.gB 1 rfl)
 have J := SP.out.sub [0] (by decide)
 refine bodyPost_ret (v := .agg #[u0, u1, u2, u3]) (by simp [results, Tryz.f247, go_sem, ld]) rfl ?_
 replace J := J.pval (Km Jc Jc) (o_pair (o_int x2) (o_int x3))
 replace J := J.intp x0
 obtain rfl := HU0.out
 obtain rfl := HU1.out
 obtain rfl := HU2.out
 obtain rfl := HU3.out
 exact ⟨_, rfl, J.outC, SP.out.d⟩
theorem Tryz.yinfo_VersionS : (Tryz.prog.info? 212).map (fun i => (i.zero, i.size)) = some (some (.agg #[Ja, (), Ja, Ja]), 4) := by kernel_rfl
theorem Tryz.ybytes_VersionS : ((Tryz.prog.info? 212).map (fun i => decide (i.bytes ≤ 512))) = some true := by kernel_rfl
set_option maxHeartbeats 8000000 in
theorem copyKE_Version {v : Value} {xs : _} {w : World} (h : Ko Jh w v xs) (hs : zL Jh xs ≤ 1048576) :
  Calls Tryz.prog 246 #[v, .func (.func 247) #[] #[]] w (Xg 212 Jh w xs) := by
 obtain ⟨i0, hi, hz0, hz1⟩ : ∃ i0, Tryz.prog.info? 212 = some i0 ∧ i0.zero = some (.agg #[Ja, (), Ja, Ja]) ∧ i0.size = 4 := by
  have h0 := Tryz.yinfo_VersionS
  cases q : Tryz.prog.info? 212 with
  | none => rw [q] at h0; simp at h0
  | some i => rw [q] at h0; simp only [Option.map_some, Option.some.injEq, Prod.mk.injEq] at h0; exact ⟨i, rfl, h0.1, h0.2⟩
 have hz2 : i0.bytes ≤ 512 := by
  have h0 := Tryz.ybytes_VersionS
  rw [hi] at h0
  simpa using h0
 have HI := zh hi; have HZ0 := zh hz0; have HZ1 := zh hz1; have HZ2 := zh hz2
 clear hi hz0 hz1 hz2
 have H := zh h
 have hlen := Jz hs
 have HS := zh hs
 obtain ⟨a, cap, rfl⟩ := Jl h
 clear h hs
 go_enter Tryz.func246, Tryz.ntmps246
 go_wp2_with (at_make; refine wpList_make_full _ rfl (.tmp 9) (.tmp 9) 213 rfl w.heap.size 212 i0 (.agg #[Ja, (), Ja, Ja]) 4 Tryz.underlying213 HI.out HZ0.out HZ1.out _ _ _ _ xs.length rfl rfl rfl rfl (by have h9 := Nat.mul_le_mul HZ2.out hlen; have h8 := Nat.mul_le_mul hlen HZ2.out; omega) (by unfold maxLen; omega) (Ii _) ?_)
 intro w1 hown0 hg0
 have hown1 : Kp 212 Jh w1 (Kw w) (.slice (some ⟨w, 0, none⟩) xs.length xs.length) (List.replicate xs.length Jh.d) := Yz (z := #[.int .i64 0, .slice none 0 0, .int .i64 0, .int .i64 0]) Jp rfl (tVersion_zero w1) (Ii _) hown0
 have hbel1 := (Il w.heap.size w).grown hg0 (Ii _) (fun k hk => by cases hk)
 clear hown0 hg0
 go_wp2
 go_loopw [6, 7, 13] (fun u6 u7 i wr => ∃ k : Nat, k ≤ xs.length ∧ i = .int .i64 k ∧ Kp 212 Jh wr (Kw w) (.slice (some ⟨w, 0, none⟩) xs.length xs.length) (xs.take k ++ List.replicate (xs.length - k) Jh.d) ∧ Below w w wr) (fun _ _ i _ => xs.length - (intOf i).toNat)
 case atStart => exact ⟨0, Ij _, rfl, by simpa using hown1, hbel1⟩
 case round =>
  obtain ⟨k, hk, rfl, hown, hbel⟩ := hrel
  by_cases hlt : k < xs.length
  ·
   have HSET := zh (Xb (d := Jh.d) hlt)
   have HKL : k < (xs.take k ++ List.replicate (xs.length - k) Jh.d).length := by rw [Xn hk]; exact hlt
   have i1 : (0 : Int) ≤ (k : Int) := by omega
   have i2 : (k : Int) < (xs.length : Int) := by omega
   have S1 := zh (Vj HS.out hlt)
   obtain ⟨b, off, cap', cs, hv, hbl, hcs, hR⟩ := Ku (Jb Jp H.out hbel) hlt
   simp only [Ik] at hv
   obtain ⟨rfl, _, rfl⟩ := hv
   obtain ⟨cur, hg, hsz, hput⟩ := Xq Jp hown HKL
   have HG := zh hg; have HP := zh hput; have HB := zh hbel
   clear HKL hown1 hbel1 hg hput hown hbel
   generalize xs.getD k Jh.d = x at *
   obtain ⟨y0, y1, y2, y3, rfl⟩ := len4 (Jp.len hR)
   have p := row4 (o := off + k * 4) hcs
   have HR := zh hR
   clear hcs hR
   have hone := tVersion_one HR.out
   have HP0 := zh p
   have SV := zh ((St.init wr).box [Ja, (), Ja, Ja] 212)
   have st := rst4 (P := Tryz.prog) (SV.out.gB 0 rfl) hone
   go_upto_region 5 with fail
   clear st p hone
   replace SV := zh (SV.out.store 0 rfl [y0, y1, y2, y3])
   generalize (wr.alloc (.cells #[Ja, (), Ja, Ja] 212)).setRow wr.heap.size #[y0, y1, y2, y3] = WV at *
   have ld := Vv (SV.out.gB 0 rfl)
   go_wp2_with fail
   clear ld
   have bv := SV.out.d
   refine (copyK_Version (Jp.below HR.out SV.out.d) (leVersion_of S1.out)).mono ?_
   rintro e w2 ⟨gs, rfl, ow, b2⟩
   obtain ⟨g0, g1, g2, g3, rfl⟩ := len4 (Jp.len (Jp.reads ow))
   have hgl := (Array.getElem?_eq_some_iff.1 HG.out).1
   have c2 : Below wr wr w2 := bv.trans (b2.mono bv.size)
   have ox := ow
   replace ow := Jp.mono ow (fun b hb => Nat.le_trans bv.size hb)
   have st := fill4 (P := Tryz.prog) (o := k * 4) ((c2.block _ hgl).trans HG.out) hsz (tVersion_one (Jp.reads ow))
   have HST := zh (HP.out w2 _ _ _ c2 ow (fun b hb => ⟨Nat.le_trans HB.out.size hb, hb⟩))
   rw [HSET.out] at HST
   have B3 := zh (Js (HB.out.trans (c2.mono HB.out.size)) (Vk (b := w.heap.size) (c := Ki cur (k * 4) [g0, g1, g2, g3])) (fun b hb => by rw [hb]; exact Ii _) (Nat.le_trans HB.out.size c2.size))
   clear hsz hgl b2 ow ox c2 bv SV
   go_wp2
   go_roundw
   case rel => exact ⟨k + 1, by omega, by go_num, HST.out, B3.out⟩
   case measure => simp [intOf]; omega
  ·
   obtain rfl : k = xs.length := by omega
   have HE : Hid (xs.take xs.length ++ List.replicate (xs.length - xs.length) Jh.d = xs) := zh (by simp)
   rw [HE.out] at hown
   go_wp2
   go_ret
   exact ⟨_, rfl, hown, hbel⟩
set_option maxHeartbeats 8000000 in
theorem copyVersK {v : Value} {xs : _} {w : World} (h : Ko Jh w v xs) (hs : zL Jh xs ≤ 1048576) :
  Calls Tryz.prog 214 #[v] w (Xg 212 Jh w xs) := by
 have H := zh h
 have HS := zh hs
 obtain ⟨a, cap, rfl⟩ := Jl h
 clear h hs
 go_enter Tryz.func214, Tryz.ntmps214
 go_wp2_with fail
 refine (copyKE_Version H.out HS.out).mono ?_
 rintro e w1 ⟨g, rfl, o, c⟩
 obtain ⟨ga, gc, rfl⟩ := Ju o
 go_wp2
 go_ret
 exact ⟨_, rfl, o, c⟩
theorem Tryz.yinfo_VersionSS : (Tryz.prog.info? 213).map (fun i => (i.zero, i.size)) = some (some (.slice none 0 0), 1) := by kernel_rfl
theorem Tryz.ybytes_VersionSS : ((Tryz.prog.info? 213).map (fun i => decide (i.bytes ≤ 512))) = some true := by kernel_rfl
set_option maxHeartbeats 8000000 in
theorem copyKE_VersionS {v : Value} {xs : _} {w : World} (h : Ko Jd w v xs) (hs : zL Jd xs ≤ 1048576) :
  Calls Tryz.prog 213 #[v, .func (.func 214) #[] #[]] w (Xg 213 Jd w xs) := by
 obtain ⟨i0, hi, hz0, hz1⟩ : ∃ i0, Tryz.prog.info? 213 = some i0 ∧ i0.zero = some (.slice none 0 0) ∧ i0.size = 1 := by
  have h0 := Tryz.yinfo_VersionSS
  cases q : Tryz.prog.info? 213 with
  | none => rw [q] at h0; simp at h0
  | some i => rw [q] at h0; simp only [Option.map_some, Option.some.injEq, Prod.mk.injEq] at h0; exact ⟨i, rfl, h0.1, h0.2⟩
 have hz2 : i0.bytes ≤ 512 := by
  have h0 := Tryz.ybytes_VersionSS
  rw [hi] at h0
  simpa using h0
 have HI := zh hi; have HZ0 := zh hz0; have HZ1 := zh hz1; have HZ2 := zh hz2
 clear hi hz0 hz1 hz2
 have H := zh h
 have hlen := Jz hs
 have HS := zh hs
 obtain ⟨a, cap, rfl⟩ := Jl h
 clear h hs
 go_enter Tryz.func213, Tryz.ntmps213
 go_wp2_with (at_make; refine wpList_make_full _ rfl (.tmp 9) (.tmp 9) 33 rfl w.heap.size 213 i0 () 1 Tryz.underlying33 HI.out HZ0.out HZ1.out _ _ _ _ xs.length rfl rfl rfl rfl (by have h9 := Nat.mul_le_mul HZ2.out hlen; have h8 := Nat.mul_le_mul hlen HZ2.out; omega) (by unfold maxLen; omega) (Ii _) ?_)
 intro w1 hown0 hg0
 have hown1 : Kp 213 Jd w1 (Kw w) (.slice (some ⟨w, 0, none⟩) xs.length xs.length) (List.replicate xs.length Jd.d) := Yz (z := #[.slice none 0 0]) Jf rfl (⟨_, rfl, Ya _ _ _ _⟩) (Ii _) (by rw [show xs.length * Jd.n = xs.length from Nat.mul_one _]; exact hown0)
 have hbel1 := (Il w.heap.size w).grown hg0 (Ii _) (fun k hk => by cases hk)
 clear hown0 hg0
 go_wp2
 go_loopw [6, 7, 13] (fun u6 u7 i wr => ∃ k : Nat, k ≤ xs.length ∧ i = .int .i64 k ∧ Kp 213 Jd wr (Kw w) (.slice (some ⟨w, 0, none⟩) xs.length xs.length) (xs.take k ++ List.replicate (xs.length - k) Jd.d) ∧ Below w w wr) (fun _ _ i _ => xs.length - (intOf i).toNat)
 case atStart => exact ⟨0, Ij _, rfl, by simpa using hown1, hbel1⟩
 case round =>
  obtain ⟨k, hk, rfl, hown, hbel⟩ := hrel
  by_cases hlt : k < xs.length
  ·
   have HSET := zh (Xb (d := Jd.d) hlt)
   have HKL : k < (xs.take k ++ List.replicate (xs.length - k) Jd.d).length := by rw [Xn hk]; exact hlt
   have i1 : (0 : Int) ≤ (k : Int) := by omega
   have i2 : (k : Int) < (xs.length : Int) := by omega
   have S1 := zh (Vj HS.out hlt)
   obtain ⟨b, off, cap', cs, hv, hbl, hcs, hR⟩ := Ku (Jb Jf H.out hbel) hlt
   simp only [Ik] at hv
   obtain ⟨rfl, _, rfl⟩ := hv
   obtain ⟨cur, hg, hsz, hput⟩ := Xq Jf hown HKL
   have HG := zh hg; have HP := zh hput; have HB := zh hbel
   clear HKL hown1 hbel1 hg hput hown hbel
   generalize xs.getD k Jd.d = x at *
   obtain ⟨y0, rfl, hR⟩ := hR
   have p : wr.cell? ⟨b, off + k, none⟩ = some y0 := by have q := hcs 0 Nat.one_pos; rw [show Jd.n = 1 from rfl, Nat.mul_one, Nat.add_zero] at q; exact q
   obtain ⟨ya, yc, rfl⟩ := Jl hR
   have HR := zh hR
   clear hcs hR
   go_wp2_with fail
   have bv := Il wr.heap.size wr
   refine (copyVersK HR.out S1.out).mono ?_
   rintro e w2 ⟨g0, rfl, ow, b2⟩
   obtain ⟨ga, gc, rfl⟩ := Ju ow
   replace ow : Jd.O w2 (Kw wr) [.slice ga x.length gc] x := ⟨_, rfl, ow⟩
   have hgl := (Array.getElem?_eq_some_iff.1 HG.out).1
   have c2 : Below wr wr w2 := bv.trans (b2.mono bv.size)
   have ox := ow
   replace ow := Jf.mono ow (fun b hb => Nat.le_trans bv.size hb)
   have hsk : k < cur.size := by rw [show Jd.n = 1 from rfl] at hsz; omega
   have HK := zh hsk; have HG2 := zh ((c2.block _ hgl).trans HG.out)
   obtain ⟨u, hu⟩ := cell_ex HG2.out hsk
   have fz := Ez w2 _ k _ _ HG2.out
   have HST := zh (HP.out w2 _ _ _ c2 ow (fun b hb => ⟨Nat.le_trans HB.out.size hb, hb⟩))
   rw [HSET.out, show Jd.n = 1 from rfl, Nat.mul_one] at HST
   have B3 := zh (Js (HB.out.trans (c2.mono HB.out.size)) (Vk (b := w.heap.size) (c := Ki cur (k) [.slice ga x.length gc])) (fun b hb => by rw [hb]; exact Ii _) (Nat.le_trans HB.out.size c2.size))
   clear hsz hgl b2 ow ox c2 bv hsk p
   go_upto_region 6 with fail
   clear hu fz
   rw [Jv HG2.out k _, Es HK.out]
   go_wp2
   go_roundw
   case rel => exact ⟨k + 1, by omega, by go_num, HST.out, B3.out⟩
   case measure => simp [intOf]; omega
  ·
   obtain rfl : k = xs.length := by omega
   have HE : Hid (xs.take xs.length ++ List.replicate (xs.length - xs.length) Jd.d = xs) := zh (by simp)
   rw [HE.out] at hown
   go_wp2
   go_ret
   exact ⟨_, rfl, hown, hbel⟩
set_option maxHeartbeats 8000000 in
theorem copyK_Store {cs : List Value} {x : _} {w : World} (h : Ks.R w cs x) (hs : leStore x) :
  Calls Tryz.prog 157 #[.agg cs.toArray] w (Yy Ks (fun cs => .agg cs.toArray) w x) := by
 obtain ⟨x0, x1⟩ := x
 obtain ⟨v0, rfl, h0⟩ := tStore_P h
 have l0 := hs
 have H0 := zh h0; have S0 := zh l0
 clear h0
 clear l0
 have SP : Hid (St w [iB (w.heap.size + 1) [(), Ja] 35, iB w.heap.size [v0, .int .i64 x1] 35] ((w.alloc (.cells #[v0, .int .i64 x1] 35)).alloc (.cells #[(), Ja] 35))) := zh (by have := ((St.init w).box [v0, .int .i64 x1] 35).box [(), Ja] 35; simpa only [Ie] using this)
 go_enter Tryz.func157, Tryz.ntmps157
 go_upto_region 1 with fail
 generalize ((w.alloc (.cells #[v0, .int .i64 x1] 35)).alloc (.cells #[(), Ja] 35)) = W0 at *
 have ld := Xk (SP.out.gB 1 rfl)
 go_wp2_with fail
 clear ld
 refine (copyKE_VersionS (Jb Jf H0.out SP.out.d) S0.out).mono ?_
 rintro e V0 ⟨g0, rfl, o, c⟩
 obtain ⟨ga0, gc0, rfl⟩ := Ju o
 obtain ⟨F0, sp⟩ := SP.out.pushTE Jf tVersionSS_law c o (fun b h => h)
 replace SP := zh sp
 clear sp o c
 have le := Xk (SP.out.gB 2 rfl)
 have fz := froz2 (SP.out.gB 2 rfl)
 go_upto_region 2 with fail
 clear le fz
 have e := Jv (SP.out.gB 2 rfl) 0 (.slice ga0 x0.length gc0)
 simp only [List.setIfInBounds_toArray, List.set_cons_succ, List.set_cons_zero] at e
 rw [e]
 clear e
 replace SP := zh (SP.out.store 2 rfl [.slice ga0 x0.length gc0, .int .i64 x1])
 generalize V0.setRow w.heap.size #[.slice ga0 x0.length gc0, .int .i64 x1] = Y0 at *
 generalize hu0 : Value.slice ga0 x0.length gc0 = u0 at SP
 have on0 : ∀ v ∈ [u0], v.oneCell' = true := by rw [← hu0]; simp [Value.oneCell']
 have HU0 := zh hu0
 clear hu0
 generalize hu1 : Value.int .i64 x1 = u1 at SP
 have on1 : ∀ v ∈ [u1], v.oneCell' = true := by rw [← hu1]; simp [Value.oneCell']
 have HU1 := zh hu1
 clear hu1
 have hone := (Kk on0 on1)
 clear on0 on1
 have ld := Xk (SP.out.gB 2 rfl)
 have st := rst2 (P := Tryz.prog) (SP.out.gB 1 rfl) hone
 go_wp2
 clear ld st hone
 replace SP := zh (SP.out.store 1 rfl [u0, u1])
 generalize Y0.setRow (w.heap.size + 1) #[u0, u1] = YY at *
 have ld := Xk (SP.out.gB 1 rfl)
 have J := SP.out.sub [0] (by decide)
 refine bodyPost_ret (v := .agg #[u0, u1]) (by simp [results, Tryz.f157, go_sem, ld]) rfl ?_
 replace J := J.pval Jc (o_int x1)
 obtain rfl := HU0.out
 obtain rfl := HU1.out
 exact ⟨_, rfl, J.outC, SP.out.d⟩
set_option maxHeartbeats 2000000 in
theorem copyLQueryCond (v : Value) (xs : List (Int × Int × Int)) (w : World) (h : Ko Jk w v xs) (hn : xs.length ≤ 1048576) :
  Calls Tryz.prog 165 #[v] w (Xg 177 Jk w xs) := by
 have H := zh h
 have HN := zh hn
 obtain ⟨a, cap, rfl⟩ := Jl h
 clear h hn
 go_enter Tryz.func165, Tryz.ntmps165
 go_wp2_with (at_builtin; refine Xt Jt flat_Cond info_T_Cond Tryz.underlying51 rfl rfl _ (.tmp 3) rfl (fun _ => False) (Kw w) _ _ [] xs rfl rfl (Ya _ _ _ _) H.out (fun _ h => h.elim) (Ii _) (by have := HN.out; simp; omega) ?_)
 intro v' w1 o1 t1
 obtain ⟨va, vc, rfl⟩ := Ju o1
 have b1 := Js (Il w.heap.size w) t1 (fun _ h => h.elim) (Ii _)
 go_wp2
 go_ret
 exact ⟨_, rfl, o1, b1⟩
set_option maxHeartbeats 8000000 in
theorem copyK_Query {cs : List Value} {x : _} {w : World} (h : Kq.R w cs x) (hs : leQuery x) :
  Calls Tryz.prog 96 #[.agg cs.toArray] w (Yy Kq (fun cs => .agg cs.toArray) w x) := by
 obtain ⟨x0, x1, x2, x3⟩ := x
 obtain ⟨v2, v3, rfl, h2, h3⟩ := tQuery_P h
 obtain ⟨l2, l3⟩ := hs
 have H2 := zh h2; have S2 := zh l2
 have H3 := zh h3; have S3 := zh l3
 clear h2 h3
 clear l2 l3
 have SP : Hid (St w [iB (w.heap.size + 1) [Ja, Ja, (), ()] 53, iB w.heap.size [.int .i64 x0, .int .i64 x1, v2, v3] 53] ((w.alloc (.cells #[.int .i64 x0, .int .i64 x1, v2, v3] 53)).alloc (.cells #[Ja, Ja, (), ()] 53))) := zh (by have := ((St.init w).box [.int .i64 x0, .int .i64 x1, v2, v3] 53).box [Ja, Ja, (), ()] 53; simpa only [Ie] using this)
 go_enter Tryz.func96, Tryz.ntmps96
 go_upto_region 1 with fail
 generalize ((w.alloc (.cells #[.int .i64 x0, .int .i64 x1, v2, v3] 53)).alloc (.cells #[Ja, Ja, (), ()] 53)) = W0 at *
 have ld := Vv (SP.out.gB 1 rfl)
 go_wp2_with fail
 clear ld
 refine (copyLQueryCond _ _ _ (Jb Jt H2.out SP.out.d) (Jz S2.out)).mono ?_
 rintro e V2 ⟨g2, rfl, o, c⟩
 obtain ⟨ga2, gc2, rfl⟩ := Ju o
 obtain ⟨F2, sp⟩ := SP.out.pushTE Jt tCondS_law c o (fun b h => h)
 replace SP := zh sp
 clear sp o c
 have le := Vv (SP.out.gB 2 rfl)
 have fz := froz4 (SP.out.gB 2 rfl)
 go_upto_region 2 with fail
 clear le fz
 have e := Jv (SP.out.gB 2 rfl) 2 (.slice ga2 x2.length gc2)
 simp only [List.setIfInBounds_toArray, List.set_cons_succ, List.set_cons_zero] at e
 rw [e]
 clear e
 replace SP := zh (SP.out.store 2 rfl [.int .i64 x0, .int .i64 x1, .slice ga2 x2.length gc2, v3])
 generalize V2.setRow w.heap.size #[.int .i64 x0, .int .i64 x1, .slice ga2 x2.length gc2, v3] = Y2 at *
 have ld := Vv (SP.out.gB 2 rfl)
 go_wp2_with fail
 clear ld
 refine (Uk _ _ _ (Jb Jc H3.out SP.out.d) (Jz S3.out)).mono ?_
 rintro e V3 ⟨g3, rfl, o, c⟩
 obtain ⟨ga3, gc3, rfl⟩ := Ju o
 obtain ⟨F3, sp⟩ := SP.out.pushTE Jc Vm c o (fun b h => h)
 replace SP := zh sp
 clear sp o c
 have le := Vv (SP.out.gB 3 rfl)
 have fz := froz4 (SP.out.gB 3 rfl)
 go_upto_region 3 with fail
 clear le fz
 have e := Jv (SP.out.gB 3 rfl) 3 (.slice ga3 x3.length gc3)
 simp only [List.setIfInBounds_toArray, List.set_cons_succ, List.set_cons_zero] at e
 rw [e]
 clear e
 replace SP := zh (SP.out.store 3 rfl [.int .i64 x0, .int .i64 x1, .slice ga2 x2.length gc2, .slice ga3 x3.length gc3])
 generalize V3.setRow w.heap.size #[.int .i64 x0, .int .i64 x1, .slice ga2 x2.length gc2, .slice ga3 x3.length gc3] = Y3 at *
 generalize hu0 : Value.int .i64 x0 = u0 at SP
 have on0 : ∀ v ∈ [u0], v.oneCell' = true := by rw [← hu0]; simp [Value.oneCell']
 have HU0 := zh hu0
 clear hu0
 generalize hu1 : Value.int .i64 x1 = u1 at SP
 have on1 : ∀ v ∈ [u1], v.oneCell' = true := by rw [← hu1]; simp [Value.oneCell']
 have HU1 := zh hu1
 clear hu1
 generalize hu2 : Value.slice ga2 x2.length gc2 = u2 at SP
 have on2 : ∀ v ∈ [u2], v.oneCell' = true := by rw [← hu2]; simp [Value.oneCell']
 have HU2 := zh hu2
 clear hu2
 generalize hu3 : Value.slice ga3 x3.length gc3 = u3 at SP
 have on3 : ∀ v ∈ [u3], v.oneCell' = true := by rw [← hu3]; simp [Value.oneCell']
 have HU3 := zh hu3
 clear hu3
 have hone := (Kk on0 (Kk on1 (Kk on2 on3)))
 clear on0 on1 on2 on3
 have ld := Vv (SP.out.gB 3 rfl)
 have st := rst4 (P := Tryz.prog) (SP.out.gB 2 rfl) hone
 go_wp2
 clear ld st hone
 replace SP := zh (SP.out.store 2 rfl [u0, u1, u2, u3])
 generalize Y3.setRow (w.heap.size + 1) #[u0, u1, u2, u3] = YY at *
 have ld := Vv (SP.out.gB 2 rfl)
 have J := SP.out.sub [0, 1] (by decide)
 refine bodyPost_ret (v := .agg #[u0, u1, u2, u3]) (by simp [results, Tryz.f96, go_sem, ld]) rfl ?_
 obtain ⟨_, J⟩ := J.cat
 replace J := J.intp x1
 replace J := J.intp x0
 obtain rfl := HU0.out
 obtain rfl := HU1.out
 obtain rfl := HU2.out
 obtain rfl := HU3.out
 exact ⟨_, rfl, J.outC, SP.out.d⟩
set_option maxHeartbeats 8000000 in
theorem copyK_Row {cs : List Value} {x : _} {w : World} (h : Ke.R w cs x) (hs : leRow x) :
  Calls Tryz.prog 211 #[.agg cs.toArray] w (Yy Ke (fun cs => .agg cs.toArray) w x) := by
 obtain ⟨x0, x1⟩ := x
 obtain ⟨v1, rfl, h1⟩ := tRow_P h
 have l1 := hs
 have H1 := zh h1; have S1 := zh l1
 clear h1
 clear l1
 have SP : Hid (St w [iB (w.heap.size + 1) [Ja, ()] 75, iB w.heap.size [.int .i64 x0, v1] 75] ((w.alloc (.cells #[.int .i64 x0, v1] 75)).alloc (.cells #[Ja, ()] 75))) := zh (by have := ((St.init w).box [.int .i64 x0, v1] 75).box [Ja, ()] 75; simpa only [Ie] using this)
 go_enter Tryz.func211, Tryz.ntmps211
 go_upto_region 1 with fail
 generalize ((w.alloc (.cells #[.int .i64 x0, v1] 75)).alloc (.cells #[Ja, ()] 75)) = W0 at *
 have ld := Xk (SP.out.gB 1 rfl)
 go_wp2_with fail
 clear ld
 refine (Uk _ _ _ (Jb Jc H1.out SP.out.d) (Jz S1.out)).mono ?_
 rintro e V1 ⟨g1, rfl, o, c⟩
 obtain ⟨ga1, gc1, rfl⟩ := Ju o
 obtain ⟨F1, sp⟩ := SP.out.pushTE Jc Vm c o (fun b h => h)
 replace SP := zh sp
 clear sp o c
 have le := Xk (SP.out.gB 2 rfl)
 have fz := froz2 (SP.out.gB 2 rfl)
 go_upto_region 2 with fail
 clear le fz
 have e := Jv (SP.out.gB 2 rfl) 1 (.slice ga1 x1.length gc1)
 simp only [List.setIfInBounds_toArray, List.set_cons_succ, List.set_cons_zero] at e
 rw [e]
 clear e
 replace SP := zh (SP.out.store 2 rfl [.int .i64 x0, .slice ga1 x1.length gc1])
 generalize V1.setRow w.heap.size #[.int .i64 x0, .slice ga1 x1.length gc1] = Y1 at *
 generalize hu0 : Value.int .i64 x0 = u0 at SP
 have on0 : ∀ v ∈ [u0], v.oneCell' = true := by rw [← hu0]; simp [Value.oneCell']
 have HU0 := zh hu0
 clear hu0
 generalize hu1 : Value.slice ga1 x1.length gc1 = u1 at SP
 have on1 : ∀ v ∈ [u1], v.oneCell' = true := by rw [← hu1]; simp [Value.oneCell']
 have HU1 := zh hu1
 clear hu1
 have hone := (Kk on0 on1)
 clear on0 on1
 have ld := Xk (SP.out.gB 2 rfl)
 have st := rst2 (P := Tryz.prog) (SP.out.gB 1 rfl) hone
 go_wp2
 clear ld st hone
 replace SP := zh (SP.out.store 1 rfl [u0, u1])
 generalize Y1.setRow (w.heap.size + 1) #[u0, u1] = YY at *
 have ld := Xk (SP.out.gB 1 rfl)
 have J := SP.out.sub [0] (by decide)
 refine bodyPost_ret (v := .agg #[u0, u1]) (by simp [results, Tryz.f211, go_sem, ld]) rfl ?_
 replace J := J.intp x0
 obtain rfl := HU0.out
 obtain rfl := HU1.out
 exact ⟨_, rfl, J.outC, SP.out.d⟩
theorem Tryz.yinfo_RowS : (Tryz.prog.info? 75).map (fun i => (i.zero, i.size)) = some (some (.agg #[Ja, ()]), 2) := by kernel_rfl
theorem Tryz.ybytes_RowS : ((Tryz.prog.info? 75).map (fun i => decide (i.bytes ≤ 512))) = some true := by kernel_rfl
set_option maxHeartbeats 8000000 in
theorem copyKE_Row {v : Value} {xs : _} {w : World} (h : Ko Ke w v xs) (hs : zL Ke xs ≤ 1048576) :
  Calls Tryz.prog 210 #[v, .func (.func 211) #[] #[]] w (Xg 75 Ke w xs) := by
 obtain ⟨i0, hi, hz0, hz1⟩ : ∃ i0, Tryz.prog.info? 75 = some i0 ∧ i0.zero = some (.agg #[Ja, ()]) ∧ i0.size = 2 := by
  have h0 := Tryz.yinfo_RowS
  cases q : Tryz.prog.info? 75 with
  | none => rw [q] at h0; simp at h0
  | some i => rw [q] at h0; simp only [Option.map_some, Option.some.injEq, Prod.mk.injEq] at h0; exact ⟨i, rfl, h0.1, h0.2⟩
 have hz2 : i0.bytes ≤ 512 := by
  have h0 := Tryz.ybytes_RowS
  rw [hi] at h0
  simpa using h0
 have HI := zh hi; have HZ0 := zh hz0; have HZ1 := zh hz1; have HZ2 := zh hz2
 clear hi hz0 hz1 hz2
 have H := zh h
 have hlen := Jz hs
 have HS := zh hs
 obtain ⟨a, cap, rfl⟩ := Jl h
 clear h hs
 go_enter Tryz.func210, Tryz.ntmps210
 go_wp2_with (at_make; refine wpList_make_full _ rfl (.tmp 9) (.tmp 9) 57 rfl w.heap.size 75 i0 (.agg #[Ja, ()]) 2 Tryz.underlying57 HI.out HZ0.out HZ1.out _ _ _ _ xs.length rfl rfl rfl rfl (by have h9 := Nat.mul_le_mul HZ2.out hlen; have h8 := Nat.mul_le_mul hlen HZ2.out; omega) (by unfold maxLen; omega) (Ii _) ?_)
 intro w1 hown0 hg0
 have hown1 : Kp 75 Ke w1 (Kw w) (.slice (some ⟨w, 0, none⟩) xs.length xs.length) (List.replicate xs.length Ke.d) := Yz (z := #[.int .i64 0, .slice none 0 0]) Jw rfl (tRow_zero w1) (Ii _) hown0
 have hbel1 := (Il w.heap.size w).grown hg0 (Ii _) (fun k hk => by cases hk)
 clear hown0 hg0
 go_wp2
 go_loopw [6, 7, 13] (fun u6 u7 i wr => ∃ k : Nat, k ≤ xs.length ∧ i = .int .i64 k ∧ Kp 75 Ke wr (Kw w) (.slice (some ⟨w, 0, none⟩) xs.length xs.length) (xs.take k ++ List.replicate (xs.length - k) Ke.d) ∧ Below w w wr) (fun _ _ i _ => xs.length - (intOf i).toNat)
 case atStart => exact ⟨0, Ij _, rfl, by simpa using hown1, hbel1⟩
 case round =>
  obtain ⟨k, hk, rfl, hown, hbel⟩ := hrel
  by_cases hlt : k < xs.length
  ·
   have HSET := zh (Xb (d := Ke.d) hlt)
   have HKL : k < (xs.take k ++ List.replicate (xs.length - k) Ke.d).length := by rw [Xn hk]; exact hlt
   have i1 : (0 : Int) ≤ (k : Int) := by omega
   have i2 : (k : Int) < (xs.length : Int) := by omega
   have S1 := zh (Vj HS.out hlt)
   obtain ⟨b, off, cap', cs, hv, hbl, hcs, hR⟩ := Ku (Jb Jw H.out hbel) hlt
   simp only [Ik] at hv
   obtain ⟨rfl, _, rfl⟩ := hv
   obtain ⟨cur, hg, hsz, hput⟩ := Xq Jw hown HKL
   have HG := zh hg; have HP := zh hput; have HB := zh hbel
   clear HKL hown1 hbel1 hg hput hown hbel
   generalize xs.getD k Ke.d = x at *
   obtain ⟨y0, y1, rfl⟩ := len2 (Jw.len hR)
   have p := row2 (o := off + k * 2) hcs
   have HR := zh hR
   clear hcs hR
   have hone := tRow_one HR.out
   have HP0 := zh p
   have SV := zh ((St.init wr).box [Ja, ()] 75)
   have st := rst2 (P := Tryz.prog) (SV.out.gB 0 rfl) hone
   go_upto_region 5 with fail
   clear st p hone
   replace SV := zh (SV.out.store 0 rfl [y0, y1])
   generalize (wr.alloc (.cells #[Ja, ()] 75)).setRow wr.heap.size #[y0, y1] = WV at *
   have ld := Xk (SV.out.gB 0 rfl)
   go_wp2_with fail
   clear ld
   have bv := SV.out.d
   refine (copyK_Row (Jw.below HR.out SV.out.d) (leRow_of S1.out)).mono ?_
   rintro e w2 ⟨gs, rfl, ow, b2⟩
   obtain ⟨g0, g1, rfl⟩ := len2 (Jw.len (Jw.reads ow))
   have hgl := (Array.getElem?_eq_some_iff.1 HG.out).1
   have c2 : Below wr wr w2 := bv.trans (b2.mono bv.size)
   have ox := ow
   replace ow := Jw.mono ow (fun b hb => Nat.le_trans bv.size hb)
   have st := fill2 (P := Tryz.prog) (o := k * 2) ((c2.block _ hgl).trans HG.out) hsz (tRow_one (Jw.reads ow))
   have HST := zh (HP.out w2 _ _ _ c2 ow (fun b hb => ⟨Nat.le_trans HB.out.size hb, hb⟩))
   rw [HSET.out] at HST
   have B3 := zh (Js (HB.out.trans (c2.mono HB.out.size)) (Vk (b := w.heap.size) (c := Ki cur (k * 2) [g0, g1])) (fun b hb => by rw [hb]; exact Ii _) (Nat.le_trans HB.out.size c2.size))
   clear hsz hgl b2 ow ox c2 bv SV
   go_wp2
   go_roundw
   case rel => exact ⟨k + 1, by omega, by go_num, HST.out, B3.out⟩
   case measure => simp [intOf]; omega
  ·
   obtain rfl : k = xs.length := by omega
   have HE : Hid (xs.take xs.length ++ List.replicate (xs.length - xs.length) Ke.d = xs) := zh (by simp)
   rw [HE.out] at hown
   go_wp2
   go_ret
   exact ⟨_, rfl, hown, hbel⟩
set_option maxHeartbeats 8000000 in
theorem copyRowsK {v : Value} {xs : _} {w : World} (h : Ko Ke w v xs) (hs : zL Ke xs ≤ 1048576) :
  Calls Tryz.prog 152 #[v] w (Xg 75 Ke w xs) := by
 have H := zh h
 have HS := zh hs
 obtain ⟨a, cap, rfl⟩ := Jl h
 clear h hs
 go_enter Tryz.func152, Tryz.ntmps152
 go_wp2_with fail
 refine (copyKE_Row H.out HS.out).mono ?_
 rintro e w1 ⟨g, rfl, o, c⟩
 obtain ⟨ga, gc, rfl⟩ := Ju o
 go_wp2
 go_ret
 exact ⟨_, rfl, o, c⟩
set_option maxHeartbeats 8000000 in
theorem copyK_Active {cs : List Value} {x : _} {w : World} (h : Ji.R w cs x) (hs : leActive x) :
  Calls Tryz.prog 160 #[.agg cs.toArray] w (Yy Ji (fun cs => .agg cs.toArray) w x) := by
 obtain ⟨x0, x1, x2, x3, x4, x5, x6⟩ := x
 obtain ⟨p0_0, p0_1, p0_2, p0_3, v2, v6, rfl, h0, h2, h6⟩ := tActive_P h
 obtain ⟨l0, l2, l6⟩ := hs
 have H0 := zh h0; have S0 := zh l0
 have H2 := zh h2; have S2 := zh l2
 have H6 := zh h6; have S6 := zh l6
 clear h0 h2 h6
 clear l0 l2 l6
 have SP : Hid (St w [iB (w.heap.size + 1) [Ja, Ja, (), (), Ja, (), Ja, Ja, Ja, ()] 104, iB w.heap.size [p0_0, p0_1, p0_2, p0_3, .int .i64 x1, v2, .int .i64 x3, .int .i64 x4, .int .i64 x5, v6] 104] ((w.alloc (.cells #[p0_0, p0_1, p0_2, p0_3, .int .i64 x1, v2, .int .i64 x3, .int .i64 x4, .int .i64 x5, v6] 104)).alloc (.cells #[Ja, Ja, (), (), Ja, (), Ja, Ja, Ja, ()] 104))) := zh (by have := ((St.init w).box [p0_0, p0_1, p0_2, p0_3, .int .i64 x1, v2, .int .i64 x3, .int .i64 x4, .int .i64 x5, v6] 104).box [Ja, Ja, (), (), Ja, (), Ja, Ja, Ja, ()] 104; simpa only [Ie] using this)
 go_enter Tryz.func160, Tryz.ntmps160
 go_upto_region 1 with fail
 generalize ((w.alloc (.cells #[p0_0, p0_1, p0_2, p0_3, .int .i64 x1, v2, .int .i64 x3, .int .i64 x4, .int .i64 x5, v6] 104)).alloc (.cells #[Ja, Ja, (), (), Ja, (), Ja, Ja, Ja, ()] 104)) = W0 at *
 have ld := Vr (SP.out.gB 1 rfl)
 go_wp2_with fail
 clear ld
 refine (copyK_Query (Kt.below H0.out SP.out.d) S0.out).mono ?_
 rintro e V0 ⟨gs, rfl, o, c⟩
 obtain ⟨g0_0, g0_1, g0_2, g0_3, rfl⟩ := len4 (Kt.len (Kt.reads o))
 obtain ⟨F0, sp⟩ := SP.out.pushE Kt c o (fun b h => h)
 replace SP := zh sp
 clear sp o c
 have st0_ := Jx (P := Tryz.prog) (j := 0) (SP.out.gB 2 rfl) (by simp) (v := g0_0) (Vf (SP.out.rT 0 rfl) _ (by simp))
 have st1_ := Jx (P := Tryz.prog) (j := 1) (setRow_heap V0 w.heap.size _ #[g0_0, p0_1, p0_2, p0_3, .int .i64 x1, v2, .int .i64 x3, .int .i64 x4, .int .i64 x5, v6] 104 (0, 0) (SP.out.gB 2 rfl)) (by simp) (v := g0_1) (Vf (SP.out.rT 0 rfl) _ (by simp))
 rw [setRow_setRow] at st1_
 have st2_ := Jx (P := Tryz.prog) (j := 2) (setRow_heap V0 w.heap.size _ #[g0_0, g0_1, p0_2, p0_3, .int .i64 x1, v2, .int .i64 x3, .int .i64 x4, .int .i64 x5, v6] 104 (0, 0) (SP.out.gB 2 rfl)) (by simp) (v := g0_2) (Vf (SP.out.rT 0 rfl) _ (by simp))
 rw [setRow_setRow] at st2_
 have st3_ := Jx (P := Tryz.prog) (j := 3) (setRow_heap V0 w.heap.size _ #[g0_0, g0_1, g0_2, p0_3, .int .i64 x1, v2, .int .i64 x3, .int .i64 x4, .int .i64 x5, v6] 104 (0, 0) (SP.out.gB 2 rfl)) (by simp) (v := g0_3) (Vf (SP.out.rT 0 rfl) _ (by simp))
 rw [setRow_setRow] at st3_
 simp only [List.setIfInBounds_toArray, List.set_cons_succ, List.set_cons_zero] at st0_ st1_ st2_ st3_
 go_upto_region 2 with fail
 clear st0_ st1_ st2_ st3_
 replace SP := zh (SP.out.store 2 rfl [g0_0, g0_1, g0_2, g0_3, .int .i64 x1, v2, .int .i64 x3, .int .i64 x4, .int .i64 x5, v6])
 generalize V0.setRow w.heap.size #[g0_0, g0_1, g0_2, g0_3, .int .i64 x1, v2, .int .i64 x3, .int .i64 x4, .int .i64 x5, v6] = Y0 at *
 have ld := Vr (SP.out.gB 2 rfl)
 go_wp2_with fail
 clear ld
 refine (Uk _ _ _ (Jb Jc H2.out SP.out.d) (Jz S2.out)).mono ?_
 rintro e V2 ⟨g2, rfl, o, c⟩
 obtain ⟨ga2, gc2, rfl⟩ := Ju o
 obtain ⟨F2, sp⟩ := SP.out.pushTE Jc Vm c o (fun b h => h)
 replace SP := zh sp
 clear sp o c
 have le := Vr (SP.out.gB 3 rfl)
 have fz := froz10 (SP.out.gB 3 rfl)
 go_upto_region 3 with fail
 clear le fz
 have e := Jv (SP.out.gB 3 rfl) 5 (.slice ga2 x2.length gc2)
 simp only [List.setIfInBounds_toArray, List.set_cons_succ, List.set_cons_zero] at e
 rw [e]
 clear e
 replace SP := zh (SP.out.store 3 rfl [g0_0, g0_1, g0_2, g0_3, .int .i64 x1, .slice ga2 x2.length gc2, .int .i64 x3, .int .i64 x4, .int .i64 x5, v6])
 generalize V2.setRow w.heap.size #[g0_0, g0_1, g0_2, g0_3, .int .i64 x1, .slice ga2 x2.length gc2, .int .i64 x3, .int .i64 x4, .int .i64 x5, v6] = Y2 at *
 have ld := Vr (SP.out.gB 3 rfl)
 go_wp2_with fail
 clear ld
 refine (copyRowsK (Jb Jw H6.out SP.out.d) S6.out).mono ?_
 rintro e V6 ⟨g6, rfl, o, c⟩
 obtain ⟨ga6, gc6, rfl⟩ := Ju o
 obtain ⟨F6, sp⟩ := SP.out.pushTE Jw tRowS_law c o (fun b h => h)
 replace SP := zh sp
 clear sp o c
 have le := Vr (SP.out.gB 4 rfl)
 have fz := froz10 (SP.out.gB 4 rfl)
 go_upto_region 4 with fail
 clear le fz
 have e := Jv (SP.out.gB 4 rfl) 9 (.slice ga6 x6.length gc6)
 simp only [List.setIfInBounds_toArray, List.set_cons_succ, List.set_cons_zero] at e
 rw [e]
 clear e
 replace SP := zh (SP.out.store 4 rfl [g0_0, g0_1, g0_2, g0_3, .int .i64 x1, .slice ga2 x2.length gc2, .int .i64 x3, .int .i64 x4, .int .i64 x5, .slice ga6 x6.length gc6])
 generalize V6.setRow w.heap.size #[g0_0, g0_1, g0_2, g0_3, .int .i64 x1, .slice ga2 x2.length gc2, .int .i64 x3, .int .i64 x4, .int .i64 x5, .slice ga6 x6.length gc6] = Y6 at *
 generalize hu4 : Value.int .i64 x1 = u4 at SP
 have on4 : ∀ v ∈ [u4], v.oneCell' = true := by rw [← hu4]; simp [Value.oneCell']
 have HU4 := zh hu4
 clear hu4
 generalize hu5 : Value.slice ga2 x2.length gc2 = u5 at SP
 have on5 : ∀ v ∈ [u5], v.oneCell' = true := by rw [← hu5]; simp [Value.oneCell']
 have HU5 := zh hu5
 clear hu5
 generalize hu6 : Value.int .i64 x3 = u6 at SP
 have on6 : ∀ v ∈ [u6], v.oneCell' = true := by rw [← hu6]; simp [Value.oneCell']
 have HU6 := zh hu6
 clear hu6
 generalize hu7 : Value.int .i64 x4 = u7 at SP
 have on7 : ∀ v ∈ [u7], v.oneCell' = true := by rw [← hu7]; simp [Value.oneCell']
 have HU7 := zh hu7
 clear hu7
 generalize hu8 : Value.int .i64 x5 = u8 at SP
 have on8 : ∀ v ∈ [u8], v.oneCell' = true := by rw [← hu8]; simp [Value.oneCell']
 have HU8 := zh hu8
 clear hu8
 generalize hu9 : Value.slice ga6 x6.length gc6 = u9 at SP
 have on9 : ∀ v ∈ [u9], v.oneCell' = true := by rw [← hu9]; simp [Value.oneCell']
 have HU9 := zh hu9
 clear hu9
 have hone := (Kk (Vf (SP.out.rT 2 rfl)) (Kk on4 (Kk on5 (Kk on6 (Kk on7 (Kk on8 on9))))))
 clear on4 on5 on6 on7 on8 on9
 have ld := Vr (SP.out.gB 4 rfl)
 have st := rst10 (P := Tryz.prog) (SP.out.gB 3 rfl) hone
 go_wp2
 clear ld st hone
 replace SP := zh (SP.out.store 3 rfl [g0_0, g0_1, g0_2, g0_3, u4, u5, u6, u7, u8, u9])
 generalize Y6.setRow (w.heap.size + 1) #[g0_0, g0_1, g0_2, g0_3, u4, u5, u6, u7, u8, u9] = YY at *
 have ld := Vr (SP.out.gB 3 rfl)
 have J := SP.out.sub [0, 1, 2] (by decide)
 refine bodyPost_ret (v := .agg #[g0_0, g0_1, g0_2, g0_3, u4, u5, u6, u7, u8, u9]) (by simp [results, Tryz.f160, go_sem, ld]) rfl ?_
 replace J := J.intp x5
 replace J := J.intp x4
 replace J := J.intp x3
 obtain ⟨_, J⟩ := J.cat
 replace J := J.intp x1
 obtain ⟨_, J⟩ := J.cat
 obtain rfl := HU4.out
 obtain rfl := HU5.out
 obtain rfl := HU6.out
 obtain rfl := HU7.out
 obtain rfl := HU8.out
 obtain rfl := HU9.out
 exact ⟨_, rfl, J.outC, SP.out.d⟩
theorem Tryz.yinfo_ActiveS : (Tryz.prog.info? 104).map (fun i => (i.zero, i.size)) = some (some (.agg #[Ja, Ja, (), (), Ja, (), Ja, Ja, Ja, ()]), 10) := by kernel_rfl
theorem Tryz.ybytes_ActiveS : ((Tryz.prog.info? 104).map (fun i => decide (i.bytes ≤ 512))) = some true := by kernel_rfl
set_option maxHeartbeats 8000000 in
theorem copyKE_Active {v : Value} {xs : _} {w : World} (h : Ko Ji w v xs) (hs : zL Ji xs ≤ 1048576) :
  Calls Tryz.prog 159 #[v, .func (.func 160) #[] #[]] w (Xg 104 Ji w xs) := by
 obtain ⟨i0, hi, hz0, hz1⟩ : ∃ i0, Tryz.prog.info? 104 = some i0 ∧ i0.zero = some (.agg #[Ja, Ja, (), (), Ja, (), Ja, Ja, Ja, ()]) ∧ i0.size = 10 := by
  have h0 := Tryz.yinfo_ActiveS
  cases q : Tryz.prog.info? 104 with
  | none => rw [q] at h0; simp at h0
  | some i => rw [q] at h0; simp only [Option.map_some, Option.some.injEq, Prod.mk.injEq] at h0; exact ⟨i, rfl, h0.1, h0.2⟩
 have hz2 : i0.bytes ≤ 512 := by
  have h0 := Tryz.ybytes_ActiveS
  rw [hi] at h0
  simpa using h0
 have HI := zh hi; have HZ0 := zh hz0; have HZ1 := zh hz1; have HZ2 := zh hz2
 clear hi hz0 hz1 hz2
 have H := zh h
 have hlen := Jz hs
 have HS := zh hs
 obtain ⟨a, cap, rfl⟩ := Jl h
 clear h hs
 go_enter Tryz.func159, Tryz.ntmps159
 go_wp2_with (at_make; refine wpList_make_full _ rfl (.tmp 9) (.tmp 9) 36 rfl w.heap.size 104 i0 (.agg #[Ja, Ja, (), (), Ja, (), Ja, Ja, Ja, ()]) 10 Tryz.underlying36 HI.out HZ0.out HZ1.out _ _ _ _ xs.length rfl rfl rfl rfl (by have h9 := Nat.mul_le_mul HZ2.out hlen; have h8 := Nat.mul_le_mul hlen HZ2.out; omega) (by unfold maxLen; omega) (Ii _) ?_)
 intro w1 hown0 hg0
 have hown1 : Kp 104 Ji w1 (Kw w) (.slice (some ⟨w, 0, none⟩) xs.length xs.length) (List.replicate xs.length Ji.d) := Yz (z := #[.int .i64 0, .int .i64 0, .slice none 0 0, .slice none 0 0, .int .i64 0, .slice none 0 0, .int .i64 0, .int .i64 0, .int .i64 0, .slice none 0 0]) Jj rfl (tActive_zero w1) (Ii _) hown0
 have hbel1 := (Il w.heap.size w).grown hg0 (Ii _) (fun k hk => by cases hk)
 clear hown0 hg0
 go_wp2
 go_loopw [6, 7, 13] (fun u6 u7 i wr => ∃ k : Nat, k ≤ xs.length ∧ i = .int .i64 k ∧ Kp 104 Ji wr (Kw w) (.slice (some ⟨w, 0, none⟩) xs.length xs.length) (xs.take k ++ List.replicate (xs.length - k) Ji.d) ∧ Below w w wr) (fun _ _ i _ => xs.length - (intOf i).toNat)
 case atStart => exact ⟨0, Ij _, rfl, by simpa using hown1, hbel1⟩
 case round =>
  obtain ⟨k, hk, rfl, hown, hbel⟩ := hrel
  by_cases hlt : k < xs.length
  ·
   have HSET := zh (Xb (d := Ji.d) hlt)
   have HKL : k < (xs.take k ++ List.replicate (xs.length - k) Ji.d).length := by rw [Xn hk]; exact hlt
   have i1 : (0 : Int) ≤ (k : Int) := by omega
   have i2 : (k : Int) < (xs.length : Int) := by omega
   have S1 := zh (Vj HS.out hlt)
   obtain ⟨b, off, cap', cs, hv, hbl, hcs, hR⟩ := Ku (Jb Jj H.out hbel) hlt
   simp only [Ik] at hv
   obtain ⟨rfl, _, rfl⟩ := hv
   obtain ⟨cur, hg, hsz, hput⟩ := Xq Jj hown HKL
   have HG := zh hg; have HP := zh hput; have HB := zh hbel
   clear HKL hown1 hbel1 hg hput hown hbel
   generalize xs.getD k Ji.d = x at *
   obtain ⟨y0, y1, y2, y3, y4, y5, y6, y7, y8, y9, rfl⟩ := len10 (Jj.len hR)
   have p := row10 (o := off + k * 10) hcs
   have HR := zh hR
   clear hcs hR
   have hone := tActive_one HR.out
   have HP0 := zh p
   have SV := zh ((St.init wr).box [Ja, Ja, (), (), Ja, (), Ja, Ja, Ja, ()] 104)
   have st := rst10 (P := Tryz.prog) (SV.out.gB 0 rfl) hone
   go_upto_region 5 with fail
   clear st p hone
   replace SV := zh (SV.out.store 0 rfl [y0, y1, y2, y3, y4, y5, y6, y7, y8, y9])
   generalize (wr.alloc (.cells #[Ja, Ja, (), (), Ja, (), Ja, Ja, Ja, ()] 104)).setRow wr.heap.size #[y0, y1, y2, y3, y4, y5, y6, y7, y8, y9] = WV at *
   have ld := Vr (SV.out.gB 0 rfl)
   go_wp2_with fail
   clear ld
   have bv := SV.out.d
   refine (copyK_Active (Jj.below HR.out SV.out.d) (leActive_of S1.out)).mono ?_
   rintro e w2 ⟨gs, rfl, ow, b2⟩
   obtain ⟨g0, g1, g2, g3, g4, g5, g6, g7, g8, g9, rfl⟩ := len10 (Jj.len (Jj.reads ow))
   have hgl := (Array.getElem?_eq_some_iff.1 HG.out).1
   have c2 : Below wr wr w2 := bv.trans (b2.mono bv.size)
   have ox := ow
   replace ow := Jj.mono ow (fun b hb => Nat.le_trans bv.size hb)
   have st := fill10 (P := Tryz.prog) (o := k * 10) ((c2.block _ hgl).trans HG.out) hsz (tActive_one (Jj.reads ow))
   have HST := zh (HP.out w2 _ _ _ c2 ow (fun b hb => ⟨Nat.le_trans HB.out.size hb, hb⟩))
   rw [HSET.out] at HST
   have B3 := zh (Js (HB.out.trans (c2.mono HB.out.size)) (Vk (b := w.heap.size) (c := Ki cur (k * 10) [g0, g1, g2, g3, g4, g5, g6, g7, g8, g9])) (fun b hb => by rw [hb]; exact Ii _) (Nat.le_trans HB.out.size c2.size))
   clear hsz hgl b2 ow ox c2 bv SV
   go_wp2
   go_roundw
   case rel => exact ⟨k + 1, by omega, by go_num, HST.out, B3.out⟩
   case measure => simp [intOf]; omega
  ·
   obtain rfl : k = xs.length := by omega
   have HE : Hid (xs.take xs.length ++ List.replicate (xs.length - xs.length) Ji.d = xs) := zh (by simp)
   rw [HE.out] at hown
   go_wp2
   go_ret
   exact ⟨_, rfl, hown, hbel⟩
set_option maxHeartbeats 8000000 in
theorem copyK_Finished {cs : List Value} {x : _} {w : World} (h : Jg.R w cs x) (hs : leFinished x) :
  Calls Tryz.prog 81 #[.agg cs.toArray] w (Yy Jg (fun cs => .agg cs.toArray) w x) := by
 obtain ⟨x0, x1, x2, x3⟩ := x
 obtain ⟨p0_0, p0_1, p0_2, p0_3, v3, rfl, h0, h3⟩ := tFinished_P h
 obtain ⟨l0, l3⟩ := hs
 have H0 := zh h0; have S0 := zh l0
 have H3 := zh h3; have S3 := zh l3
 clear h0 h3
 clear l0 l3
 have SP : Hid (St w [iB (w.heap.size + 1) [Ja, Ja, (), (), Ja, Ja, ()] 59, iB w.heap.size [p0_0, p0_1, p0_2, p0_3, .int .i64 x1, .int .i64 x2, v3] 59] ((w.alloc (.cells #[p0_0, p0_1, p0_2, p0_3, .int .i64 x1, .int .i64 x2, v3] 59)).alloc (.cells #[Ja, Ja, (), (), Ja, Ja, ()] 59))) := zh (by have := ((St.init w).box [p0_0, p0_1, p0_2, p0_3, .int .i64 x1, .int .i64 x2, v3] 59).box [Ja, Ja, (), (), Ja, Ja, ()] 59; simpa only [Ie] using this)
 go_enter Tryz.func81, Tryz.ntmps81
 go_upto_region 1 with fail
 generalize ((w.alloc (.cells #[p0_0, p0_1, p0_2, p0_3, .int .i64 x1, .int .i64 x2, v3] 59)).alloc (.cells #[Ja, Ja, (), (), Ja, Ja, ()] 59)) = W0 at *
 have ld := Uv (SP.out.gB 1 rfl)
 go_wp2_with fail
 clear ld
 refine (copyK_Query (Kt.below H0.out SP.out.d) S0.out).mono ?_
 rintro e V0 ⟨gs, rfl, o, c⟩
 obtain ⟨g0_0, g0_1, g0_2, g0_3, rfl⟩ := len4 (Kt.len (Kt.reads o))
 obtain ⟨F0, sp⟩ := SP.out.pushE Kt c o (fun b h => h)
 replace SP := zh sp
 clear sp o c
 have st0_ := Jx (P := Tryz.prog) (j := 0) (SP.out.gB 2 rfl) (by simp) (v := g0_0) (Vf (SP.out.rT 0 rfl) _ (by simp))
 have st1_ := Jx (P := Tryz.prog) (j := 1) (setRow_heap V0 w.heap.size _ #[g0_0, p0_1, p0_2, p0_3, .int .i64 x1, .int .i64 x2, v3] 59 (0, 0) (SP.out.gB 2 rfl)) (by simp) (v := g0_1) (Vf (SP.out.rT 0 rfl) _ (by simp))
 rw [setRow_setRow] at st1_
 have st2_ := Jx (P := Tryz.prog) (j := 2) (setRow_heap V0 w.heap.size _ #[g0_0, g0_1, p0_2, p0_3, .int .i64 x1, .int .i64 x2, v3] 59 (0, 0) (SP.out.gB 2 rfl)) (by simp) (v := g0_2) (Vf (SP.out.rT 0 rfl) _ (by simp))
 rw [setRow_setRow] at st2_
 have st3_ := Jx (P := Tryz.prog) (j := 3) (setRow_heap V0 w.heap.size _ #[g0_0, g0_1, g0_2, p0_3, .int .i64 x1, .int .i64 x2, v3] 59 (0, 0) (SP.out.gB 2 rfl)) (by simp) (v := g0_3) (Vf (SP.out.rT 0 rfl) _ (by simp))
 rw [setRow_setRow] at st3_
 simp only [List.setIfInBounds_toArray, List.set_cons_succ, List.set_cons_zero] at st0_ st1_ st2_ st3_
 go_upto_region 2 with fail
 clear st0_ st1_ st2_ st3_
 replace SP := zh (SP.out.store 2 rfl [g0_0, g0_1, g0_2, g0_3, .int .i64 x1, .int .i64 x2, v3])
 generalize V0.setRow w.heap.size #[g0_0, g0_1, g0_2, g0_3, .int .i64 x1, .int .i64 x2, v3] = Y0 at *
 have ld := Uv (SP.out.gB 2 rfl)
 go_wp2_with fail
 clear ld
 refine (copyRowsK (Jb Jw H3.out SP.out.d) S3.out).mono ?_
 rintro e V3 ⟨g3, rfl, o, c⟩
 obtain ⟨ga3, gc3, rfl⟩ := Ju o
 obtain ⟨F3, sp⟩ := SP.out.pushTE Jw tRowS_law c o (fun b h => h)
 replace SP := zh sp
 clear sp o c
 have le := Uv (SP.out.gB 3 rfl)
 have fz := froz7 (SP.out.gB 3 rfl)
 go_upto_region 3 with fail
 clear le fz
 have e := Jv (SP.out.gB 3 rfl) 6 (.slice ga3 x3.length gc3)
 simp only [List.setIfInBounds_toArray, List.set_cons_succ, List.set_cons_zero] at e
 rw [e]
 clear e
 replace SP := zh (SP.out.store 3 rfl [g0_0, g0_1, g0_2, g0_3, .int .i64 x1, .int .i64 x2, .slice ga3 x3.length gc3])
 generalize V3.setRow w.heap.size #[g0_0, g0_1, g0_2, g0_3, .int .i64 x1, .int .i64 x2, .slice ga3 x3.length gc3] = Y3 at *
 generalize hu4 : Value.int .i64 x1 = u4 at SP
 have on4 : ∀ v ∈ [u4], v.oneCell' = true := by rw [← hu4]; simp [Value.oneCell']
 have HU4 := zh hu4
 clear hu4
 generalize hu5 : Value.int .i64 x2 = u5 at SP
 have on5 : ∀ v ∈ [u5], v.oneCell' = true := by rw [← hu5]; simp [Value.oneCell']
 have HU5 := zh hu5
 clear hu5
 generalize hu6 : Value.slice ga3 x3.length gc3 = u6 at SP
 have on6 : ∀ v ∈ [u6], v.oneCell' = true := by rw [← hu6]; simp [Value.oneCell']
 have HU6 := zh hu6
 clear hu6
 have hone := (Kk (Vf (SP.out.rT 1 rfl)) (Kk on4 (Kk on5 on6)))
 clear on4 on5 on6
 have ld := Uv (SP.out.gB 3 rfl)
 have st := rst7 (P := Tryz.prog) (SP.out.gB 2 rfl) hone
 go_wp2
 clear ld st hone
 replace SP := zh (SP.out.store 2 rfl [g0_0, g0_1, g0_2, g0_3, u4, u5, u6])
 generalize Y3.setRow (w.heap.size + 1) #[g0_0, g0_1, g0_2, g0_3, u4, u5, u6] = YY at *
 have ld := Uv (SP.out.gB 2 rfl)
 have J := SP.out.sub [0, 1] (by decide)
 refine bodyPost_ret (v := .agg #[g0_0, g0_1, g0_2, g0_3, u4, u5, u6]) (by simp [results, Tryz.f81, go_sem, ld]) rfl ?_
 replace J := J.intp x2
 replace J := J.intp x1
 obtain ⟨_, J⟩ := J.cat
 obtain rfl := HU4.out
 obtain rfl := HU5.out
 obtain rfl := HU6.out
 exact ⟨_, rfl, J.outC, SP.out.d⟩
theorem Tryz.yinfo_FinishedS : (Tryz.prog.info? 59).map (fun i => (i.zero, i.size)) = some (some (.agg #[Ja, Ja, (), (), Ja, Ja, ()]), 7) := by kernel_rfl
theorem Tryz.ybytes_FinishedS : ((Tryz.prog.info? 59).map (fun i => decide (i.bytes ≤ 512))) = some true := by kernel_rfl
set_option maxHeartbeats 8000000 in
theorem copyKE_Finished {v : Value} {xs : _} {w : World} (h : Ko Jg w v xs) (hs : zL Jg xs ≤ 1048576) :
  Calls Tryz.prog 161 #[v, .func (.func 81) #[] #[]] w (Xg 59 Jg w xs) := by
 obtain ⟨i0, hi, hz0, hz1⟩ : ∃ i0, Tryz.prog.info? 59 = some i0 ∧ i0.zero = some (.agg #[Ja, Ja, (), (), Ja, Ja, ()]) ∧ i0.size = 7 := by
  have h0 := Tryz.yinfo_FinishedS
  cases q : Tryz.prog.info? 59 with
  | none => rw [q] at h0; simp at h0
  | some i => rw [q] at h0; simp only [Option.map_some, Option.some.injEq, Prod.mk.injEq] at h0; exact ⟨i, rfl, h0.1, h0.2⟩
 have hz2 : i0.bytes ≤ 512 := by
  have h0 := Tryz.ybytes_FinishedS
  rw [hi] at h0
  simpa using h0
 have HI := zh hi; have HZ0 := zh hz0; have HZ1 := zh hz1; have HZ2 := zh hz2
 clear hi hz0 hz1 hz2
 have H := zh h
 have hlen := Jz hs
 have HS := zh hs
 obtain ⟨a, cap, rfl⟩ := Jl h
 clear h hs
 go_enter Tryz.func161, Tryz.ntmps161
 go_wp2_with (at_make; refine wpList_make_full _ rfl (.tmp 9) (.tmp 9) 37 rfl w.heap.size 59 i0 (.agg #[Ja, Ja, (), (), Ja, Ja, ()]) 7 Tryz.underlying37 HI.out HZ0.out HZ1.out _ _ _ _ xs.length rfl rfl rfl rfl (by have h9 := Nat.mul_le_mul HZ2.out hlen; have h8 := Nat.mul_le_mul hlen HZ2.out; omega) (by unfold maxLen; omega) (Ii _) ?_)
 intro w1 hown0 hg0
 have hown1 : Kp 59 Jg w1 (Kw w) (.slice (some ⟨w, 0, none⟩) xs.length xs.length) (List.replicate xs.length Jg.d) := Yz (z := #[.int .i64 0, .int .i64 0, .slice none 0 0, .slice none 0 0, .int .i64 0, .int .i64 0, .slice none 0 0]) Jn rfl (tFinished_zero w1) (Ii _) hown0
 have hbel1 := (Il w.heap.size w).grown hg0 (Ii _) (fun k hk => by cases hk)
 clear hown0 hg0
 go_wp2
 go_loopw [6, 7, 13] (fun u6 u7 i wr => ∃ k : Nat, k ≤ xs.length ∧ i = .int .i64 k ∧ Kp 59 Jg wr (Kw w) (.slice (some ⟨w, 0, none⟩) xs.length xs.length) (xs.take k ++ List.replicate (xs.length - k) Jg.d) ∧ Below w w wr) (fun _ _ i _ => xs.length - (intOf i).toNat)
 case atStart => exact ⟨0, Ij _, rfl, by simpa using hown1, hbel1⟩
 case round =>
  obtain ⟨k, hk, rfl, hown, hbel⟩ := hrel
  by_cases hlt : k < xs.length
  ·
   have HSET := zh (Xb (d := Jg.d) hlt)
   have HKL : k < (xs.take k ++ List.replicate (xs.length - k) Jg.d).length := by rw [Xn hk]; exact hlt
   have i1 : (0 : Int) ≤ (k : Int) := by omega
   have i2 : (k : Int) < (xs.length : Int) := by omega
   have S1 := zh (Vj HS.out hlt)
   obtain ⟨b, off, cap', cs, hv, hbl, hcs, hR⟩ := Ku (Jb Jn H.out hbel) hlt
   simp only [Ik] at hv
   obtain ⟨rfl, _, rfl⟩ := hv
   obtain ⟨cur, hg, hsz, hput⟩ := Xq Jn hown HKL
   have HG := zh hg; have HP := zh hput; have HB := zh hbel
   clear HKL hown1 hbel1 hg hput hown hbel
   generalize xs.getD k Jg.d = x at *
   obtain ⟨y0, y1, y2, y3, y4, y5, y6, rfl⟩ := len7 (Jn.len hR)
   have p := row7 (o := off + k * 7) hcs
   have HR := zh hR
   clear hcs hR
   have hone := tFinished_one HR.out
   have HP0 := zh p
   have SV := zh ((St.init wr).box [Ja, Ja, (), (), Ja, Ja, ()] 59)
   have st := rst7 (P := Tryz.prog) (SV.out.gB 0 rfl) hone
   go_upto_region 5 with fail
   clear st p hone
   replace SV := zh (SV.out.store 0 rfl [y0, y1, y2, y3, y4, y5, y6])
   generalize (wr.alloc (.cells #[Ja, Ja, (), (), Ja, Ja, ()] 59)).setRow wr.heap.size #[y0, y1, y2, y3, y4, y5, y6] = WV at *
   have ld := Uv (SV.out.gB 0 rfl)
   go_wp2_with fail
   clear ld
   have bv := SV.out.d
   refine (copyK_Finished (Jn.below HR.out SV.out.d) (leFinished_of S1.out)).mono ?_
   rintro e w2 ⟨gs, rfl, ow, b2⟩
   obtain ⟨g0, g1, g2, g3, g4, g5, g6, rfl⟩ := len7 (Jn.len (Jn.reads ow))
   have hgl := (Array.getElem?_eq_some_iff.1 HG.out).1
   have c2 : Below wr wr w2 := bv.trans (b2.mono bv.size)
   have ox := ow
   replace ow := Jn.mono ow (fun b hb => Nat.le_trans bv.size hb)
   have st := fill7 (P := Tryz.prog) (o := k * 7) ((c2.block _ hgl).trans HG.out) hsz (tFinished_one (Jn.reads ow))
   have HST := zh (HP.out w2 _ _ _ c2 ow (fun b hb => ⟨Nat.le_trans HB.out.size hb, hb⟩))
   rw [HSET.out] at HST
   have B3 := zh (Js (HB.out.trans (c2.mono HB.out.size)) (Vk (b := w.heap.size) (c := Ki cur (k * 7) [g0, g1, g2, g3, g4, g5, g6])) (fun b hb => by rw [hb]; exact Ii _) (Nat.le_trans HB.out.size c2.size))
   clear hsz hgl b2 ow ox c2 bv SV
   go_wp2
   go_roundw
   case rel => exact ⟨k + 1, by omega, by go_num, HST.out, B3.out⟩
   case measure => simp [intOf]; omega
  ·
   obtain rfl : k = xs.length := by omega
   have HE : Hid (xs.take xs.length ++ List.replicate (xs.length - xs.length) Jg.d = xs) := zh (by simp)
   rw [HE.out] at hown
   go_wp2
   go_ret
   exact ⟨_, rfl, hown, hbel⟩
set_option maxHeartbeats 8000000 in
theorem copyK_Charge {cs : List Value} {x : _} {w : World} (h : Jo.R w cs x) (hs : leCharge x) :
  Calls Tryz.prog 163 #[.agg cs.toArray] w (Yy Jo (fun cs => .agg cs.toArray) w x) := by
 obtain ⟨x0, x1, x2, x3, x4⟩ := x
 obtain ⟨v2, v3, v4, rfl, h2, h3, h4⟩ := tCharge_P h
 obtain ⟨l2, l3, l4⟩ := hs
 have H2 := zh h2; have S2 := zh l2
 have H3 := zh h3; have S3 := zh l3
 have H4 := zh h4; have S4 := zh l4
 clear h2 h3 h4
 clear l2 l3 l4
 have SP : Hid (St w [iB (w.heap.size + 1) [Ja, Ja, (), (), ()] 162, iB w.heap.size [.int .i64 x0, .int .i64 x1, v2, v3, v4] 162] ((w.alloc (.cells #[.int .i64 x0, .int .i64 x1, v2, v3, v4] 162)).alloc (.cells #[Ja, Ja, (), (), ()] 162))) := zh (by have := ((St.init w).box [.int .i64 x0, .int .i64 x1, v2, v3, v4] 162).box [Ja, Ja, (), (), ()] 162; simpa only [Ie] using this)
 go_enter Tryz.func163, Tryz.ntmps163
 go_upto_region 1 with fail
 generalize ((w.alloc (.cells #[.int .i64 x0, .int .i64 x1, v2, v3, v4] 162)).alloc (.cells #[Ja, Ja, (), (), ()] 162)) = W0 at *
 have ld := Xh (SP.out.gB 1 rfl)
 go_wp2_with fail
 clear ld
 refine (Uk _ _ _ (Jb Jc H2.out SP.out.d) (Jz S2.out)).mono ?_
 rintro e V2 ⟨g2, rfl, o, c⟩
 obtain ⟨ga2, gc2, rfl⟩ := Ju o
 obtain ⟨F2, sp⟩ := SP.out.pushTE Jc Vm c o (fun b h => h)
 replace SP := zh sp
 clear sp o c
 have le := Xh (SP.out.gB 2 rfl)
 have fz := froz5 (SP.out.gB 2 rfl)
 go_upto_region 2 with fail
 clear le fz
 have e := Jv (SP.out.gB 2 rfl) 2 (.slice ga2 x2.length gc2)
 simp only [List.setIfInBounds_toArray, List.set_cons_succ, List.set_cons_zero] at e
 rw [e]
 clear e
 replace SP := zh (SP.out.store 2 rfl [.int .i64 x0, .int .i64 x1, .slice ga2 x2.length gc2, v3, v4])
 generalize V2.setRow w.heap.size #[.int .i64 x0, .int .i64 x1, .slice ga2 x2.length gc2, v3, v4] = Y2 at *
 have ld := Xh (SP.out.gB 2 rfl)
 go_wp2_with fail
 clear ld
 refine (Uk _ _ _ (Jb Jc H3.out SP.out.d) (Jz S3.out)).mono ?_
 rintro e V3 ⟨g3, rfl, o, c⟩
 obtain ⟨ga3, gc3, rfl⟩ := Ju o
 obtain ⟨F3, sp⟩ := SP.out.pushTE Jc Vm c o (fun b h => h)
 replace SP := zh sp
 clear sp o c
 have le := Xh (SP.out.gB 3 rfl)
 have fz := froz5 (SP.out.gB 3 rfl)
 go_upto_region 3 with fail
 clear le fz
 have e := Jv (SP.out.gB 3 rfl) 3 (.slice ga3 x3.length gc3)
 simp only [List.setIfInBounds_toArray, List.set_cons_succ, List.set_cons_zero] at e
 rw [e]
 clear e
 replace SP := zh (SP.out.store 3 rfl [.int .i64 x0, .int .i64 x1, .slice ga2 x2.length gc2, .slice ga3 x3.length gc3, v4])
 generalize V3.setRow w.heap.size #[.int .i64 x0, .int .i64 x1, .slice ga2 x2.length gc2, .slice ga3 x3.length gc3, v4] = Y3 at *
 have ld := Xh (SP.out.gB 3 rfl)
 go_wp2_with fail
 clear ld
 refine (Uk _ _ _ (Jb Jc H4.out SP.out.d) (Jz S4.out)).mono ?_
 rintro e V4 ⟨g4, rfl, o, c⟩
 obtain ⟨ga4, gc4, rfl⟩ := Ju o
 obtain ⟨F4, sp⟩ := SP.out.pushTE Jc Vm c o (fun b h => h)
 replace SP := zh sp
 clear sp o c
 have le := Xh (SP.out.gB 4 rfl)
 have fz := froz5 (SP.out.gB 4 rfl)
 go_upto_region 4 with fail
 clear le fz
 have e := Jv (SP.out.gB 4 rfl) 4 (.slice ga4 x4.length gc4)
 simp only [List.setIfInBounds_toArray, List.set_cons_succ, List.set_cons_zero] at e
 rw [e]
 clear e
 replace SP := zh (SP.out.store 4 rfl [.int .i64 x0, .int .i64 x1, .slice ga2 x2.length gc2, .slice ga3 x3.length gc3, .slice ga4 x4.length gc4])
 generalize V4.setRow w.heap.size #[.int .i64 x0, .int .i64 x1, .slice ga2 x2.length gc2, .slice ga3 x3.length gc3, .slice ga4 x4.length gc4] = Y4 at *
 generalize hu0 : Value.int .i64 x0 = u0 at SP
 have on0 : ∀ v ∈ [u0], v.oneCell' = true := by rw [← hu0]; simp [Value.oneCell']
 have HU0 := zh hu0
 clear hu0
 generalize hu1 : Value.int .i64 x1 = u1 at SP
 have on1 : ∀ v ∈ [u1], v.oneCell' = true := by rw [← hu1]; simp [Value.oneCell']
 have HU1 := zh hu1
 clear hu1
 generalize hu2 : Value.slice ga2 x2.length gc2 = u2 at SP
 have on2 : ∀ v ∈ [u2], v.oneCell' = true := by rw [← hu2]; simp [Value.oneCell']
 have HU2 := zh hu2
 clear hu2
 generalize hu3 : Value.slice ga3 x3.length gc3 = u3 at SP
 have on3 : ∀ v ∈ [u3], v.oneCell' = true := by rw [← hu3]; simp [Value.oneCell']
 have HU3 := zh hu3
 clear hu3
 generalize hu4 : Value.slice ga4 x4.length gc4 = u4 at SP
 have on4 : ∀ v ∈ [u4], v.oneCell' = true := by rw [← hu4]; simp [Value.oneCell']
 have HU4 := zh hu4
 clear hu4
 have hone := (Kk on0 (Kk on1 (Kk on2 (Kk on3 on4))))
 clear on0 on1 on2 on3 on4
 have ld := Xh (SP.out.gB 4 rfl)
 have st := rst5 (P := Tryz.prog) (SP.out.gB 3 rfl) hone
 go_wp2
 clear ld st hone
 replace SP := zh (SP.out.store 3 rfl [u0, u1, u2, u3, u4])
 generalize Y4.setRow (w.heap.size + 1) #[u0, u1, u2, u3, u4] = YY at *
 have ld := Xh (SP.out.gB 3 rfl)
 have J := SP.out.sub [0, 1, 2] (by decide)
 refine bodyPost_ret (v := .agg #[u0, u1, u2, u3, u4]) (by simp [results, Tryz.f163, go_sem, ld]) rfl ?_
 obtain ⟨_, J⟩ := J.cat
 obtain ⟨_, J⟩ := J.cat
 replace J := J.intp x1
 replace J := J.intp x0
 obtain rfl := HU0.out
 obtain rfl := HU1.out
 obtain rfl := HU2.out
 obtain rfl := HU3.out
 obtain rfl := HU4.out
 exact ⟨_, rfl, J.outC, SP.out.d⟩
theorem Tryz.yinfo_ChargeS : (Tryz.prog.info? 162).map (fun i => (i.zero, i.size)) = some (some (.agg #[Ja, Ja, (), (), ()]), 5) := by kernel_rfl
theorem Tryz.ybytes_ChargeS : ((Tryz.prog.info? 162).map (fun i => decide (i.bytes ≤ 512))) = some true := by kernel_rfl
set_option maxHeartbeats 8000000 in
theorem copyKE_Charge {v : Value} {xs : _} {w : World} (h : Ko Jo w v xs) (hs : zL Jo xs ≤ 1048576) :
  Calls Tryz.prog 162 #[v, .func (.func 163) #[] #[]] w (Xg 162 Jo w xs) := by
 obtain ⟨i0, hi, hz0, hz1⟩ : ∃ i0, Tryz.prog.info? 162 = some i0 ∧ i0.zero = some (.agg #[Ja, Ja, (), (), ()]) ∧ i0.size = 5 := by
  have h0 := Tryz.yinfo_ChargeS
  cases q : Tryz.prog.info? 162 with
  | none => rw [q] at h0; simp at h0
  | some i => rw [q] at h0; simp only [Option.map_some, Option.some.injEq, Prod.mk.injEq] at h0; exact ⟨i, rfl, h0.1, h0.2⟩
 have hz2 : i0.bytes ≤ 512 := by
  have h0 := Tryz.ybytes_ChargeS
  rw [hi] at h0
  simpa using h0
 have HI := zh hi; have HZ0 := zh hz0; have HZ1 := zh hz1; have HZ2 := zh hz2
 clear hi hz0 hz1 hz2
 have H := zh h
 have hlen := Jz hs
 have HS := zh hs
 obtain ⟨a, cap, rfl⟩ := Jl h
 clear h hs
 go_enter Tryz.func162, Tryz.ntmps162
 go_wp2_with (at_make; refine wpList_make_full _ rfl (.tmp 9) (.tmp 9) 38 rfl w.heap.size 162 i0 (.agg #[Ja, Ja, (), (), ()]) 5 Tryz.underlying38 HI.out HZ0.out HZ1.out _ _ _ _ xs.length rfl rfl rfl rfl (by have h9 := Nat.mul_le_mul HZ2.out hlen; have h8 := Nat.mul_le_mul hlen HZ2.out; omega) (by unfold maxLen; omega) (Ii _) ?_)
 intro w1 hown0 hg0
 have hown1 : Kp 162 Jo w1 (Kw w) (.slice (some ⟨w, 0, none⟩) xs.length xs.length) (List.replicate xs.length Jo.d) := Yz (z := #[.int .i64 0, .int .i64 0, .slice none 0 0, .slice none 0 0, .slice none 0 0]) Jr rfl (tCharge_zero w1) (Ii _) hown0
 have hbel1 := (Il w.heap.size w).grown hg0 (Ii _) (fun k hk => by cases hk)
 clear hown0 hg0
 go_wp2
 go_loopw [6, 7, 13] (fun u6 u7 i wr => ∃ k : Nat, k ≤ xs.length ∧ i = .int .i64 k ∧ Kp 162 Jo wr (Kw w) (.slice (some ⟨w, 0, none⟩) xs.length xs.length) (xs.take k ++ List.replicate (xs.length - k) Jo.d) ∧ Below w w wr) (fun _ _ i _ => xs.length - (intOf i).toNat)
 case atStart => exact ⟨0, Ij _, rfl, by simpa using hown1, hbel1⟩
 case round =>
  obtain ⟨k, hk, rfl, hown, hbel⟩ := hrel
  by_cases hlt : k < xs.length
  ·
   have HSET := zh (Xb (d := Jo.d) hlt)
   have HKL : k < (xs.take k ++ List.replicate (xs.length - k) Jo.d).length := by rw [Xn hk]; exact hlt
   have i1 : (0 : Int) ≤ (k : Int) := by omega
   have i2 : (k : Int) < (xs.length : Int) := by omega
   have S1 := zh (Vj HS.out hlt)
   obtain ⟨b, off, cap', cs, hv, hbl, hcs, hR⟩ := Ku (Jb Jr H.out hbel) hlt
   simp only [Ik] at hv
   obtain ⟨rfl, _, rfl⟩ := hv
   obtain ⟨cur, hg, hsz, hput⟩ := Xq Jr hown HKL
   have HG := zh hg; have HP := zh hput; have HB := zh hbel
   clear HKL hown1 hbel1 hg hput hown hbel
   generalize xs.getD k Jo.d = x at *
   obtain ⟨y0, y1, y2, y3, y4, rfl⟩ := len5 (Jr.len hR)
   have p := row5 (o := off + k * 5) hcs
   have HR := zh hR
   clear hcs hR
   have hone := tCharge_one HR.out
   have HP0 := zh p
   have SV := zh ((St.init wr).box [Ja, Ja, (), (), ()] 162)
   have st := rst5 (P := Tryz.prog) (SV.out.gB 0 rfl) hone
   go_upto_region 5 with fail
   clear st p hone
   replace SV := zh (SV.out.store 0 rfl [y0, y1, y2, y3, y4])
   generalize (wr.alloc (.cells #[Ja, Ja, (), (), ()] 162)).setRow wr.heap.size #[y0, y1, y2, y3, y4] = WV at *
   have ld := Xh (SV.out.gB 0 rfl)
   go_wp2_with fail
   clear ld
   have bv := SV.out.d
   refine (copyK_Charge (Jr.below HR.out SV.out.d) (leCharge_of S1.out)).mono ?_
   rintro e w2 ⟨gs, rfl, ow, b2⟩
   obtain ⟨g0, g1, g2, g3, g4, rfl⟩ := len5 (Jr.len (Jr.reads ow))
   have hgl := (Array.getElem?_eq_some_iff.1 HG.out).1
   have c2 : Below wr wr w2 := bv.trans (b2.mono bv.size)
   have ox := ow
   replace ow := Jr.mono ow (fun b hb => Nat.le_trans bv.size hb)
   have st := fill5 (P := Tryz.prog) (o := k * 5) ((c2.block _ hgl).trans HG.out) hsz (tCharge_one (Jr.reads ow))
   have HST := zh (HP.out w2 _ _ _ c2 ow (fun b hb => ⟨Nat.le_trans HB.out.size hb, hb⟩))
   rw [HSET.out] at HST
   have B3 := zh (Js (HB.out.trans (c2.mono HB.out.size)) (Vk (b := w.heap.size) (c := Ki cur (k * 5) [g0, g1, g2, g3, g4])) (fun b hb => by rw [hb]; exact Ii _) (Nat.le_trans HB.out.size c2.size))
   clear hsz hgl b2 ow ox c2 bv SV
   go_wp2
   go_roundw
   case rel => exact ⟨k + 1, by omega, by go_num, HST.out, B3.out⟩
   case measure => simp [intOf]; omega
  ·
   obtain rfl : k = xs.length := by omega
   have HE : Hid (xs.take xs.length ++ List.replicate (xs.length - xs.length) Jo.d = xs) := zh (by simp)
   rw [HE.out] at hown
   go_wp2
   go_ret
   exact ⟨_, rfl, hown, hbel⟩
set_option maxHeartbeats 8000000 in
theorem copyK_Engine {cs : List Value} {x : _} {w : World} (h : Kf.R w cs x) (hs : Ev x) :
  Calls Tryz.prog 94 #[.agg cs.toArray] w (Yy Kf (fun cs => .agg cs.toArray) w x) := by
 obtain ⟨x0, x1, x2, x3, x4, x5, x6⟩ := x
 obtain ⟨p0_0, p0_1, v2, v3, v4, v5, rfl, h0, h2, h3, h4, h5⟩ := tEngine_P h
 obtain ⟨l0, l2, l3, l4, l5⟩ := hs
 have H0 := zh h0; have S0 := zh l0
 have H2 := zh h2; have S2 := zh l2
 have H3 := zh h3; have S3 := zh l3
 have H4 := zh h4; have S4 := zh l4
 have H5 := zh h5; have S5 := zh l5
 clear h0 h2 h3 h4 h5
 clear l0 l2 l3 l4 l5
 have SP : Hid (St w [iB (w.heap.size + 1) [(), Ja, Ja, (), (), (), (), Ja] 40, iB w.heap.size [p0_0, p0_1, .int .i64 x1, v2, v3, v4, v5, .int .i64 x6] 40] ((w.alloc (.cells #[p0_0, p0_1, .int .i64 x1, v2, v3, v4, v5, .int .i64 x6] 40)).alloc (.cells #[(), Ja, Ja, (), (), (), (), Ja] 40))) := zh (by have := ((St.init w).box [p0_0, p0_1, .int .i64 x1, v2, v3, v4, v5, .int .i64 x6] 40).box [(), Ja, Ja, (), (), (), (), Ja] 40; simpa only [Ie] using this)
 go_enter Tryz.func94, Tryz.ntmps94
 go_upto_region 1 with fail
 generalize ((w.alloc (.cells #[p0_0, p0_1, .int .i64 x1, v2, v3, v4, v5, .int .i64 x6] 40)).alloc (.cells #[(), Ja, Ja, (), (), (), (), Ja] 40)) = W0 at *
 have ld := Kh (SP.out.gB 1 rfl)
 go_wp2_with fail
 clear ld
 refine (copyK_Store (Vu.below H0.out SP.out.d) S0.out).mono ?_
 rintro e V0 ⟨gs, rfl, o, c⟩
 obtain ⟨g0_0, g0_1, rfl⟩ := len2 (Vu.len (Vu.reads o))
 obtain ⟨F0, sp⟩ := SP.out.pushE Vu c o (fun b h => h)
 replace SP := zh sp
 clear sp o c
 have st0_ := Jx (P := Tryz.prog) (j := 0) (SP.out.gB 2 rfl) (by simp) (v := g0_0) (Eh (SP.out.rT 0 rfl) _ (by simp))
 have st1_ := Jx (P := Tryz.prog) (j := 1) (setRow_heap V0 w.heap.size _ #[g0_0, p0_1, .int .i64 x1, v2, v3, v4, v5, .int .i64 x6] 40 (0, 0) (SP.out.gB 2 rfl)) (by simp) (v := g0_1) (Eh (SP.out.rT 0 rfl) _ (by simp))
 rw [setRow_setRow] at st1_
 simp only [List.setIfInBounds_toArray, List.set_cons_succ, List.set_cons_zero] at st0_ st1_
 go_upto_region 2 with fail
 clear st0_ st1_
 replace SP := zh (SP.out.store 2 rfl [g0_0, g0_1, .int .i64 x1, v2, v3, v4, v5, .int .i64 x6])
 generalize V0.setRow w.heap.size #[g0_0, g0_1, .int .i64 x1, v2, v3, v4, v5, .int .i64 x6] = Y0 at *
 have ld := Kh (SP.out.gB 2 rfl)
 go_wp2_with fail
 clear ld
 refine (Uk _ _ _ (Jb Jc H2.out SP.out.d) (Jz S2.out)).mono ?_
 rintro e V2 ⟨g2, rfl, o, c⟩
 obtain ⟨ga2, gc2, rfl⟩ := Ju o
 obtain ⟨F2, sp⟩ := SP.out.pushE tIntES_law c ⟨_, _, rfl, o⟩ (fun b h => h)
 replace SP := zh sp
 clear sp o c
 have le := Kh (SP.out.gB 3 rfl)
 have fz := Ex (SP.out.gB 3 rfl)
 go_upto_region 3 with fail
 clear le fz
 have e := Jv (SP.out.gB 3 rfl) 3 (.slice ga2 x2.length gc2)
 simp only [List.setIfInBounds_toArray, List.set_cons_succ, List.set_cons_zero] at e
 rw [e]
 clear e
 replace SP := zh (SP.out.store 3 rfl [g0_0, g0_1, .int .i64 x1, .slice ga2 x2.length gc2, v3, v4, v5, .int .i64 x6])
 generalize V2.setRow w.heap.size #[g0_0, g0_1, .int .i64 x1, .slice ga2 x2.length gc2, v3, v4, v5, .int .i64 x6] = Y2 at *
 have ld := Kh (SP.out.gB 3 rfl)
 go_wp2_with fail
 clear ld
 refine (copyKE_Active (Jb Jj H3.out SP.out.d) S3.out).mono ?_
 rintro e V3 ⟨g3, rfl, o, c⟩
 obtain ⟨ga3, gc3, rfl⟩ := Ju o
 obtain ⟨F3, sp⟩ := SP.out.pushTE Jj tActiveS_law c o (fun b h => h)
 replace SP := zh sp
 clear sp o c
 have le := Kh (SP.out.gB 4 rfl)
 have fz := Ex (SP.out.gB 4 rfl)
 go_upto_region 4 with fail
 clear le fz
 have e := Jv (SP.out.gB 4 rfl) 4 (.slice ga3 x3.length gc3)
 simp only [List.setIfInBounds_toArray, List.set_cons_succ, List.set_cons_zero] at e
 rw [e]
 clear e
 replace SP := zh (SP.out.store 4 rfl [g0_0, g0_1, .int .i64 x1, .slice ga2 x2.length gc2, .slice ga3 x3.length gc3, v4, v5, .int .i64 x6])
 generalize V3.setRow w.heap.size #[g0_0, g0_1, .int .i64 x1, .slice ga2 x2.length gc2, .slice ga3 x3.length gc3, v4, v5, .int .i64 x6] = Y3 at *
 have ld := Kh (SP.out.gB 4 rfl)
 go_wp2_with fail
 clear ld
 refine (copyKE_Finished (Jb Jn H4.out SP.out.d) S4.out).mono ?_
 rintro e V4 ⟨g4, rfl, o, c⟩
 obtain ⟨ga4, gc4, rfl⟩ := Ju o
 obtain ⟨F4, sp⟩ := SP.out.pushTE Jn tFinishedS_law c o (fun b h => h)
 replace SP := zh sp
 clear sp o c
 have le := Kh (SP.out.gB 5 rfl)
 have fz := Ex (SP.out.gB 5 rfl)
 go_upto_region 5 with fail
 clear le fz
 have e := Jv (SP.out.gB 5 rfl) 5 (.slice ga4 x4.length gc4)
 simp only [List.setIfInBounds_toArray, List.set_cons_succ, List.set_cons_zero] at e
 rw [e]
 clear e
 replace SP := zh (SP.out.store 5 rfl [g0_0, g0_1, .int .i64 x1, .slice ga2 x2.length gc2, .slice ga3 x3.length gc3, .slice ga4 x4.length gc4, v5, .int .i64 x6])
 generalize V4.setRow w.heap.size #[g0_0, g0_1, .int .i64 x1, .slice ga2 x2.length gc2, .slice ga3 x3.length gc3, .slice ga4 x4.length gc4, v5, .int .i64 x6] = Y4 at *
 have ld := Kh (SP.out.gB 5 rfl)
 go_wp2_with fail
 clear ld
 refine (copyKE_Charge (Jb Jr H5.out SP.out.d) S5.out).mono ?_
 rintro e V5 ⟨g5, rfl, o, c⟩
 obtain ⟨ga5, gc5, rfl⟩ := Ju o
 obtain ⟨F5, sp⟩ := SP.out.pushTE Jr tChargeS_law c o (fun b h => h)
 replace SP := zh sp
 clear sp o c
 have le := Kh (SP.out.gB 6 rfl)
 have fz := Ex (SP.out.gB 6 rfl)
 go_upto_region 6 with fail
 clear le fz
 have e := Jv (SP.out.gB 6 rfl) 6 (.slice ga5 x5.length gc5)
 simp only [List.setIfInBounds_toArray, List.set_cons_succ, List.set_cons_zero] at e
 rw [e]
 clear e
 replace SP := zh (SP.out.store 6 rfl [g0_0, g0_1, .int .i64 x1, .slice ga2 x2.length gc2, .slice ga3 x3.length gc3, .slice ga4 x4.length gc4, .slice ga5 x5.length gc5, .int .i64 x6])
 generalize V5.setRow w.heap.size #[g0_0, g0_1, .int .i64 x1, .slice ga2 x2.length gc2, .slice ga3 x3.length gc3, .slice ga4 x4.length gc4, .slice ga5 x5.length gc5, .int .i64 x6] = Y5 at *
 generalize hu2 : Value.int .i64 x1 = u2 at SP
 have on2 : ∀ v ∈ [u2], v.oneCell' = true := by rw [← hu2]; simp [Value.oneCell']
 have HU2 := zh hu2
 clear hu2
 generalize hu3 : Value.slice ga2 x2.length gc2 = u3 at SP
 have on3 : ∀ v ∈ [u3], v.oneCell' = true := by rw [← hu3]; simp [Value.oneCell']
 have HU3 := zh hu3
 clear hu3
 generalize hu4 : Value.slice ga3 x3.length gc3 = u4 at SP
 have on4 : ∀ v ∈ [u4], v.oneCell' = true := by rw [← hu4]; simp [Value.oneCell']
 have HU4 := zh hu4
 clear hu4
 generalize hu5 : Value.slice ga4 x4.length gc4 = u5 at SP
 have on5 : ∀ v ∈ [u5], v.oneCell' = true := by rw [← hu5]; simp [Value.oneCell']
 have HU5 := zh hu5
 clear hu5
 generalize hu6 : Value.slice ga5 x5.length gc5 = u6 at SP
 have on6 : ∀ v ∈ [u6], v.oneCell' = true := by rw [← hu6]; simp [Value.oneCell']
 have HU6 := zh hu6
 clear hu6
 generalize hu7 : Value.int .i64 x6 = u7 at SP
 have on7 : ∀ v ∈ [u7], v.oneCell' = true := by rw [← hu7]; simp [Value.oneCell']
 have HU7 := zh hu7
 clear hu7
 have hone := (Kk (Eh (SP.out.rT 4 rfl)) (Kk on2 (Kk on3 (Kk on4 (Kk on5 (Kk on6 on7))))))
 clear on2 on3 on4 on5 on6 on7
 have ld := Kh (SP.out.gB 6 rfl)
 have st := rst8 (P := Tryz.prog) (SP.out.gB 5 rfl) hone
 go_wp2
 clear ld st hone
 replace SP := zh (SP.out.store 5 rfl [g0_0, g0_1, u2, u3, u4, u5, u6, u7])
 generalize Y5.setRow (w.heap.size + 1) #[g0_0, g0_1, u2, u3, u4, u5, u6, u7] = YY at *
 have ld := Kh (SP.out.gB 5 rfl)
 have J := SP.out.sub [0, 1, 2, 3, 4] (by decide)
 refine bodyPost_ret (v := .agg #[g0_0, g0_1, u2, u3, u4, u5, u6, u7]) (by simp [results, Tryz.f94, go_sem, ld]) rfl ?_
 replace J := J.pval Jc (o_int x6)
 obtain ⟨_, J⟩ := J.cat
 obtain ⟨_, J⟩ := J.cat
 obtain ⟨_, J⟩ := J.cat
 replace J := J.intp x1
 obtain ⟨_, J⟩ := J.cat
 obtain rfl := HU2.out
 obtain rfl := HU3.out
 obtain rfl := HU4.out
 obtain rfl := HU5.out
 obtain rfl := HU6.out
 obtain rfl := HU7.out
 exact ⟨_, rfl, J.outC, SP.out.d⟩
end Go.Proofs.YtnepfacnmaoieaaGreatDoor
