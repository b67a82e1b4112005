/-
 Texts of the proof, merged: MaskMath, MaskWalks, CountMath, SlEq, CopyEachQuery, CopyEachRow, CopyEng1, CopyEachVersion, CopyStore, CopyEng2, OrdMark.
-/
import Derived.Test.YtcolddalajoheaaGreatDoorSO1
import Derived.Test.YtcolddalajoheaaGreatDoorSO2
import Derived.Test.YtcolddalajoheaaGreatDoorSO4
import Derived.Test.YtcolddalajoheaaGreatDoorSO6
import Derived.Laws.BitsLemmas
import Derived.Deep.RegionHeld3
import Derived.Lib.BitFns
namespace Go.Proofs.YtcolddalajoheaaGreatDoor
open Go.RowKit
open Go renaming frozen_of_row → Ut, cell_of_row → Uu, heap_setCell_same → Uv, heap_alloc_new → Uw
open Go.World renaming size_alloc → Ux
open Go.World.ownsRow renaming frozenAt → Uy, stored → Uz
open List renaming getElem?_set_ne → Ea, getElem?_set_self → Eb
open Nat renaming le_refl → Ed, lt_of_lt_of_le → Ee, zero_le → Ef
open Go.Value.slice renaming injEq → Eg
open Go.RowKit.Below renaming refl → Eh
open ZD0
set_option maxRecDepth 100000
set_option linter.unusedVariables false
set_option linter.unusedSimpArgs false
/-- The mask of the first k numbers. -/
def Yg (l : List Int) (k : Nat) : Nat := (l.take k).foldl (fun m x => m ||| 2 ^ x.toNat) 0
theorem maskTo_zero (l : List Int) : Yg l 0 = 0 := by simp [Yg]
theorem maskTo_step {l : List Int} {k : Nat} (hk : k < l.length) : Yg l (k + 1) = Yg l k ||| 2 ^ (l.getD k 0).toNat := by
 unfold Yg
 have e : l.getD k 0 = l[k] := by simp [List.getD, hk]
 rw [e, List.take_succ_eq_append_getElem hk, List.foldl_append]
 rfl
theorem setTo_pred {l : List Int} {k : Nat} (h : SetTo l (k + 1)) : SetTo l k := ⟨fun i hi => h.1 i (by omega), fun i hi => h.2 i (by omega)⟩
theorem bit_maskTo {l : List Int} : ∀ {k : Nat}, k ≤ l.length → SetTo l k → ∀ i : Nat, (Yg l k).testBit i = true ↔ ∃ j, j < k ∧ l.getD j 0 = (i : Int) := by
 intro k
 induction k with
 | zero => intro _ _ i; simp [maskTo_zero]
 | succ k ih =>
  intro hk hs i
  rw [maskTo_step (by omega), Nat.testBit_or, Bool.or_eq_true, ih (by omega) (setTo_pred hs), Nat.testBit_two_pow]
  have h0 := hs.1 k (by omega)
  constructor
  ·
   rintro (⟨j, hj, e⟩ | h)
   ·
    exact ⟨j, by omega, e⟩
   ·
    have := of_decide_eq_true h
    exact ⟨k, by omega, by omega⟩
  ·
   rintro ⟨j, hj, e⟩
   by_cases ej : j = k
   ·
    subst ej; right; rw [decide_eq_true_eq]; omega
   ·
    exact Or.inl ⟨j, by omega, e⟩
theorem maskTo_lt {l : List Int} {k : Nat} (hk : k ≤ l.length) (hs : SetTo l k) (x : Nat) (h : ∀ j, j < k → l.getD j 0 < (x : Int)) : Yg l k < 2 ^ x := by
 refine Nat.lt_pow_two_of_testBit _ fun i hi => ?_
 rw [Bool.eq_false_iff]
 intro g
 obtain ⟨j, hj, e⟩ := (bit_maskTo hk hs i).1 g
 have := h j hj
 omega
theorem maskTo_lt24 {l : List Int} {k : Nat} (hk : k ≤ l.length) (hs : SetTo l k) : Yg l k < 16777216 :=
 maskTo_lt hk hs 24 (fun j hj => by have := (hs.1 j hj).2; omega)
theorem maskTo_ge {l : List Int} {k : Nat} (hk : k ≤ l.length) (hs : SetTo l k) {x : Nat} {j : Nat} (hj : j < k) (h : (x : Int) ≤ l.getD j 0) : 2 ^ x ≤ Yg l k := by
 have h0 := (hs.1 j hj).1
 have := (bit_maskTo hk hs (l.getD j 0).toNat).2 ⟨j, hj, by omega⟩
 exact Nat.le_trans (Nat.pow_le_pow_right (by omega) (by omega)) (Nat.ge_two_pow_of_testBit this)
theorem setTo_mono {l : List Int} {k : Nat} (h : SetTo l k) : ∀ {i j : Nat}, i < j → j < k → l.getD i 0 < l.getD j 0 := by
 intro i j hij
 obtain ⟨d, rfl⟩ : ∃ d, j = i + d + 1 := ⟨j - i - 1, by omega⟩
 clear hij
 induction d with
 | zero => intro hj; exact h.2 i hj
 | succ d ih => intro hj; exact Int.lt_trans (ih (by omega)) (h.2 (i + d + 1) hj)
/-- The bit test of maskOf: no bit from x on, just where x goes on the ascent. -/
theorem maskTo_next {l : List Int} {k : Nat} (hk : k < l.length) (hs : SetTo l k) {x : Nat} (hx : l.getD k 0 = (x : Int)) (hx23 : x ≤ 23) : Yg l k / 2 ^ x = 0 ↔ SetTo l (k + 1) := by
 rw [Nat.div_eq_zero_iff]
 constructor
 ·
  rintro (h | h)
  ·
   exact absurd h (Nat.ne_of_gt (Nat.two_pow_pos x))
  ·
   refine setTo_step hs (by omega) (by omega) fun h0 => ?_
   apply Int.not_le.1
   intro g
   rw [hx] at g
   have := maskTo_ge (Nat.le_of_lt hk) hs (j := k - 1) (by omega) g
   omega
 ·
  intro h
  right
  refine maskTo_lt (Nat.le_of_lt hk) hs x fun j hj => ?_
  rw [← hx]
  exact setTo_mono h hj (by omega)
/-- The mask of a set, 0 of any other list. -/
def maskL (l : List Int) : Nat := if setB l = true then Yg l l.length else 0
theorem maskL_yes {l : List Int} (h : SetL l) : maskL l = Yg l l.length := by unfold maskL; rw [if_pos ((setB_iff l).2 h)]
theorem maskL_no {l : List Int} (h : setB l = false) : maskL l = 0 := by unfold maskL; rw [h]; rfl
theorem nat_u32 (a : Nat) (ha : a < 4294967296) : (BitVec.ofInt 32 (a : Int)).toNat = a := by
 rw [BitVec.ofInt_natCast, BitVec.toNat_ofNat]; exact Nat.mod_eq_of_lt (by omega)
theorem or_u32 (a b : Nat) (ha : a < 4294967296) (hb : b < 4294967296) : bits .or .u32 (a : Int) (b : Int) = ((a ||| b : Nat) : Int) := by
 have hx : a ||| b < 2 ^ 32 := Nat.or_lt_two_pow (by omega) (by omega)
 show IntKind.u32.wrap ((BitVec.ofInt 32 (a : Int) ||| BitVec.ofInt 32 (b : Int)).toNat : Int) = _
 rw [BitVec.toNat_or, nat_u32 a ha, nat_u32 b hb, IntKind.wrap_u32]
 omega
theorem isQuery (x : Int) (w : World) : Calls Tryz.prog 115 #[.int .i64 x] w fun e w' => e = .returned (.bool (decide (0 ≤ x ∧ x ≤ 23))) ∧ w' = w := by
 by_cases h0 : 0 ≤ x
 ·
  by_cases h1 : x ≤ 23
  ·
   rw [decide_eq_true (show 0 ≤ x ∧ x ≤ 23 from ⟨h0, h1⟩)]
   have h2 : x < 24 := by omega
   go_enter Tryz.func115, Tryz.ntmps115
   go_wp2
   go_ret
   exact ⟨rfl, rfl⟩
  ·
   rw [decide_eq_false (show ¬ (0 ≤ x ∧ x ≤ 23) by omega)]
   have h2 : ¬ x < 24 := by omega
   go_enter Tryz.func115, Tryz.ntmps115
   go_wp2
   go_ret
   exact ⟨rfl, rfl⟩
 ·
  rw [decide_eq_false (show ¬ (0 ≤ x ∧ x ≤ 23) by omega)]
  go_enter Tryz.func115, Tryz.ntmps115
  go_wp2
  go_ret
  exact ⟨rfl, rfl⟩
theorem pair_eq {a b : Nat} {x y : Bool} (h1 : a = b) (h2 : x = y) : Ending.returned (.tuple #[.int .u32 (a : Int), .bool x]) = .returned (.tuple #[.int .u32 (b : Int), .bool y]) := by rw [h1, h2]
set_option maxHeartbeats 2000000 in
theorem implMaskOf (va : Value) (a : List Int) (w : World) (h : Yh w va a) (hn : a.length ≤ 1073741824) :
  Calls Tryz.prog 192 #[va] w fun e w' => e = .returned (.tuple #[.int .u32 (maskL a : Nat), .bool (setB a)]) ∧ Below w w w' := by
 obtain ⟨ap, cap, hva⟩ := Vi h
 have HA := Lib.hid h
 have HN := Lib.hid hn
 clear h hn
 subst hva
 go_enter Tryz.func192, Tryz.ntmps192
 go_wp2
 go_loopw [4, 9] (fun m i wr => ∃ k : Nat, k ≤ a.length ∧ i = .int .i64 k ∧ Hid (SetTo a k) ∧ m = .int .u32 (Yg a k : Nat) ∧ wr = w) (fun _ i _ => a.length - (intOf i).toNat)
 case atStart => exact ⟨0, Ef _, rfl, Lib.hid ⟨fun i hi => by omega, fun i hi => by omega⟩, by rw [maskTo_zero]; rfl, rfl⟩
 case round =>
  obtain ⟨k, hk, rfl, hset, rfl, rfl⟩ := hrel
  by_cases hlt : k < a.length
  ·
   obtain ⟨b, off, cap', hv, hbl, hc⟩ := Vb HA.out (by omega)
   simp only [Eg] at hv
   obtain ⟨rfl, _, rfl⟩ := hv
   have hcell := hc k hlt
   have i1 : (0 : Int) ≤ (k : Int) := by omega
   have i2 : (k : Int) < (a.length : Int) := by omega
   clear hc
   by_cases hr : 0 ≤ a.getD k 0 ∧ a.getD k 0 ≤ 23
   ·
    obtain ⟨x, hx⟩ : ∃ x : Nat, a.getD k 0 = (x : Int) := ⟨(a.getD k 0).toNat, by omega⟩
    have hx23 : x ≤ 23 := by omega
    have HQ := Lib.hid (show decide (0 ≤ (x : Int) ∧ (x : Int) ≤ 23) = true from decide_eq_true (by omega))
    have hnext := maskTo_next hlt hset.out hx hx23
    have HST := Lib.hid (maskTo_step hlt)
    rw [hx] at hcell HST
    have HM0 := Lib.hid (maskTo_lt24 (Nat.le_of_lt hlt) hset.out)
    have hdiv : ((Yg a k : Nat) : Int) / 2 ^ x = ((Yg a k / 2 ^ x : Nat) : Int) := by norm_cast
    by_cases hz : Yg a k / 2 ^ x = 0
    ·
     have HS1 := Lib.hid (hnext.1 hz)
     have HB : ((Yg a k : Int) / 2 ^ x != 0) = false := by rw [hdiv, hz]; rfl
     have HP : Hid (2 ^ x < 16777216 ∧ ((2 : Int) ^ x % 4294967296 = ((2 ^ x : Nat) : Int))) := by
      have h2 : 2 ^ x < 2 ^ 24 := Nat.pow_lt_pow_right (by omega) (show x < 24 by omega)
      have h3 : (2 : Int) ^ x = ((2 ^ x : Nat) : Int) := by norm_cast
      exact Lib.hid ⟨h2, by rw [h3]; clear h3; generalize 2 ^ x = q at *; omega⟩
     have HK := Lib.hid hlt
     clear hr hnext hx hz hset hk hlt hdiv
     generalize Yg a k = m at *
     go_wp2_with fail
     refine (isQuery _ _).mono ?_
     rintro e w1 ⟨rfl, rfl⟩
     rw [HQ.out]
     have hn := HN.out
     go_wp2
     go_roundw
     case rel => exact ⟨k + 1, HK.out, by go_num, HS1, by rw [HP.out.2, or_u32 m _ (by have := HM0.out; omega) (by have := HP.out.1; omega), HST.out]; rfl, by first | rfl | trivial⟩
     case measure => have := HK.out; simp [intOf]; omega
    ·
     have HF := Lib.hid (setB_no (l := a) (fun g => hz (hnext.2 ⟨fun i hi => g.1 i (by omega), fun i hi => g.2 i (by omega)⟩)))
     have HB : ((Yg a k : Int) / 2 ^ x != 0) = true := by rw [hdiv, bne_iff_ne]; omega
     clear hr hnext hx hz hset hk hlt hdiv
     generalize Yg a k = m at *
     go_wp2_with fail
     refine (isQuery _ _).mono ?_
     rintro e w1 ⟨rfl, rfl⟩
     rw [HQ.out]
     go_wp2
     go_ret2
     exact ⟨pair_eq (a := 0) (maskL_no HF.out).symm HF.out.symm, Eh _ _⟩
   ·
    have HF := Lib.hid (setB_no (not_set_range hlt hr))
    have HQ := Lib.hid (show decide (0 ≤ a.getD k 0 ∧ a.getD k 0 ≤ 23) = false from decide_eq_false hr)
    clear hr hset hk hlt
    generalize Yg a k = m at *
    generalize a.getD k 0 = x at *
    go_wp2_with fail
    refine (isQuery _ _).mono ?_
    rintro e w1 ⟨rfl, rfl⟩
    rw [HQ.out]
    go_wp2
    go_ret2
    exact ⟨pair_eq (a := 0) (maskL_no HF.out).symm HF.out.symm, Eh _ _⟩
  ·
   obtain rfl : k = a.length := by omega
   have HS := Lib.hid ((setTo_all a).1 hset.out)
   have HE := Lib.hid (maskL_yes HS.out)
   clear hset hk hlt
   generalize Yg a a.length = m at *
   go_wp2
   go_ret2
   exact ⟨pair_eq HE.out.symm ((setB_iff a).2 HS.out).symm, Eh _ _⟩
set_option maxHeartbeats 2000000 in
theorem implIsSet (va : Value) (a : List Int) (w : World) (h : Yh w va a) (hn : a.length ≤ 1048576) :
  Calls Tryz.prog 162 #[va] w fun e w' => e = .returned (.bool (setB a)) ∧ Below w w w' := by
 have H := Lib.hid (fun w h => implMaskOf va a w h (by omega))
 have HA := Lib.hid h
 clear h hn
 go_enter Tryz.func162, Tryz.ntmps162
 go_wp2_with fail
 refine (H.out _ HA.out).mono ?_
 rintro e w1 ⟨rfl, b1⟩
 go_wp2
 go_ret
 exact ⟨rfl, b1⟩
set_option maxHeartbeats 2000000 in
theorem equalInts_any (v u : Value) (xs ys : List Int) (w : World) (h : Yh w v xs) (g : Yh w u ys) (hn : xs.length ≤ 1048576) (hm : ys.length ≤ 1048576) :
  Calls Tryz.prog 139 #[v, u] w fun e w' => e = .returned (.bool (decide (xs = ys))) ∧ Below w w w' := by
 have H := Lib.hid h
 have G := Lib.hid g
 obtain ⟨a, cap, rfl⟩ := Vi h
 obtain ⟨a2, cap2, rfl⟩ := Vi g
 clear h g
 by_cases hl : xs.length = ys.length
 ·
  have HL := Lib.hid hl
  have hne : ((xs.length : Int) != (ys.length : Int)) = false := by rw [hl]; simp
  clear hl
  go_enter Tryz.func139, Tryz.ntmps139
  go_wp2
  clear hne
  go_loopw [13] (fun i wr => ∃ k : Nat, k ≤ xs.length ∧ i = .int .i64 k ∧ Hid (∀ j, j < k → xs.getD j 0 = ys.getD j 0) ∧ Below w w wr) (fun i _ => xs.length - (intOf i).toNat)
  case atStart => exact ⟨0, Ef _, rfl, Lib.hid (fun j hj => by omega), Eh _ _⟩
  case round =>
   obtain ⟨k, hk, rfl, hall, hbel⟩ := hrel
   by_cases hlt : k < xs.length
   ·
    obtain ⟨b, off, cap', hv, hbl, hc⟩ := Vb H.out (by omega)
    simp only [Eg] at hv
    obtain ⟨rfl, _, rfl⟩ := hv
    obtain ⟨b2, off2, cap2', hv2, hbl2, hc2⟩ := Vb G.out (by have := HL.out; omega)
    simp only [Eg] at hv2
    obtain ⟨rfl, _, rfl⟩ := hv2
    have hcell := (hbel.cell (p := ⟨b, off + k, none⟩) hbl).trans (hc k hlt)
    have hcell2 := (hbel.cell (p := ⟨b2, off2 + k, none⟩) hbl2).trans (hc2 k (by have := HL.out; omega))
    have i1 : (0 : Int) ≤ (k : Int) := by omega
    have i2 : (k : Int) < (xs.length : Int) := by omega
    have i3 : (k : Int) < (ys.length : Int) := by have := HL.out; omega
    clear hc hc2
    by_cases he : xs.getD k 0 = ys.getD k 0
    ·
     have HA : Hid (∀ j, j < k + 1 → xs.getD j 0 = ys.getD j 0) := Lib.hid (fun j hj => by
      by_cases e : j = k
      ·
       exact e ▸ he
      ·
       exact hall.out j (by omega))
     rw [← he] at hcell2
     clear he hall
     generalize xs.getD k 0 = y at hcell hcell2
     go_wp2
     go_quiet (fail)
     go_wp2
     go_roundw
     case rel => exact ⟨k + 1, by omega, by go_num, HA, below_dn hbel _⟩
     case measure => simp [intOf]; omega
    ·
     have HF := Lib.hid (decide_eq_false (list_ne_at hlt he))
     have heq : (xs.getD k 0 != ys.getD k 0) = true := by rw [bne_iff_ne]; exact he
     clear he hall
     generalize xs.getD k 0 = y at hcell heq
     generalize ys.getD k 0 = z at hcell2 heq
     go_wp2
     go_quiet (fail)
     go_wp2
     go_ret
     exact ⟨Jx HF.out.symm, below_dn hbel _⟩
   ·
    obtain rfl : k = xs.length := by omega
    have HT := Lib.hid (decide_eq_true (list_eq_all HL.out hall.out))
    clear hall
    go_wp2
    go_ret
    exact ⟨Jx HT.out.symm, hbel⟩
 ·
  have HF := Lib.hid (decide_eq_false (show ¬ xs = ys from fun e => hl (by rw [e])))
  have hne : ((xs.length : Int) != (ys.length : Int)) = true := by rw [bne_iff_ne]; omega
  clear hl
  go_enter Tryz.func139, Tryz.ntmps139
  go_wp2
  go_ret
  exact ⟨Jx HF.out.symm, Eh _ _⟩
set_option maxHeartbeats 2000000 in
theorem copyLQueryCond (v : Value) (xs : List (Int × Int × Int)) (w : World) (h : Kc Jl w v xs) (hn : xs.length ≤ 1048576) :
  Calls Tryz.prog 120 #[v] w (Yi 145 Jl w xs) := by
 have H := hd h
 have HN := hd hn
 obtain ⟨a, cap, rfl⟩ := Jo h
 clear h hn
 go_enter Tryz.func120, Tryz.ntmps120
 go_wp2_with (at_builtin; refine Xq Jq flat_Cond info_T_Cond Tryz.underlying47 rfl rfl _ (.tmp 3) rfl (fun _ => False) (Kg w) _ _ [] xs rfl rfl (Vl _ _ _ _) H.out (fun _ h => h.elim) (Ed _) (by have := HN.out; simp; omega) ?_)
 intro v' w1 o1 t1
 obtain ⟨va, vc, rfl⟩ := Js o1
 have b1 := Jr (Eh w.heap.size w) t1 (fun _ h => h.elim) (Ed _)
 go_wp2
 go_ret
 exact ⟨_, rfl, o1, b1⟩
set_option maxHeartbeats 2000000 in
theorem Xl (v : Value) (xs : List Int) (w : World) (h : Kc Jf w v xs) (hn : xs.length ≤ 1048576) :
  Calls Tryz.prog 101 #[v] w (Yi 3 Jf w xs) := by
 have H := hd h
 have HN := hd hn
 obtain ⟨a, cap, rfl⟩ := Jo h
 clear h hn
 go_enter Tryz.func101, Tryz.ntmps101
 go_wp2_with (at_builtin; refine Xq Jb Yw Vq Tryz.underlying25 rfl rfl _ (.tmp 3) rfl (fun _ => False) (Kg w) _ _ [] xs rfl rfl (Vl _ _ _ _) H.out (fun _ h => h.elim) (Ed _) (by have := HN.out; simp; omega) ?_)
 intro v' w1 o1 t1
 obtain ⟨va, vc, rfl⟩ := Js o1
 have b1 := Jr (Eh w.heap.size w) t1 (fun _ h => h.elim) (Ed _)
 go_wp2
 go_ret
 exact ⟨_, rfl, o1, b1⟩
set_option maxHeartbeats 8000000 in
theorem copyQuery_P (a0 : Int) (a1 : Int) (v2 v3 : Value) (x2 : List (Int × Int × Int)) (x3 : List Int) (w : World) (h2 : Kc Jl w v2 x2) (h3 : Kc Jf w v3 x3) (s2 : zL Jl x2 ≤ 1048576) (s3 : zL Jf x3 ≤ 1048576) :
  Calls Tryz.prog 53 #[.agg #[a0, a1, v2, v3]] w (Yc Ue (fun cs => .agg cs.toArray) w (a0, a1, x2, x3)) := by
 obtain ⟨sa2, sc2, rfl⟩ := Jo h2
 have H2 := hd h2; have N2 := hd (Jz s2)
 obtain ⟨sa3, sc3, rfl⟩ := Jo h3
 have H3 := hd h3; have N3 := hd (Jz s3)
 clear h2 s2 h3 s3
 have d := hd (((Eh w.heap.size w).alloc (Ed _) (.cells #[a0, a1, .slice sa2 x2.length sc2, .slice sa3 x3.length sc3] 49)).alloc (by simp) (.cells #[Ja, Ja, (), ()] 49))
 have B0 : Hid (((w.alloc (.cells #[a0, a1, .slice sa2 x2.length sc2, .slice sa3 x3.length sc3] 49)).alloc (.cells #[Ja, Ja, (), ()] 49)).heap[w.heap.size]? = some (.cells #[a0, a1, .slice sa2 x2.length sc2, .slice sa3 x3.length sc3] 49 (0, 0))) := hd (by rw [Below.heap_alloc _ _ _ (by simp)]; exact Uw w _)
 have B1 : Hid (((w.alloc (.cells #[a0, a1, .slice sa2 x2.length sc2, .slice sa3 x3.length sc3] 49)).alloc (.cells #[Ja, Ja, (), ()] 49)).heap[(w.heap.size + 1)]? = some (.cells #[Ja, Ja, (), ()] 49 (0, 0))) := hd (by
  have := Uw (w.alloc (.cells #[a0, a1, .slice sa2 x2.length sc2, .slice sa3 x3.length sc3] 49)) (.cells #[Ja, Ja, (), ()] 49)
  simpa only [Ux] using this)
 have YW : Hid (w.heap.size + 1 < ((w.alloc (.cells #[a0, a1, .slice sa2 x2.length sc2, .slice sa3 x3.length sc3] 49)).alloc (.cells #[Ja, Ja, (), ()] 49)).heap.size) := hd (by simp)
 go_enter Tryz.func53, Tryz.ntmps53
 go_wp2_with fail
 generalize ((w.alloc (.cells #[a0, a1, .slice sa2 x2.length sc2, .slice sa3 x3.length sc3] 49)).alloc (.cells #[Ja, Ja, (), ()] 49)) = W at *
 refine (copyLQueryCond (.slice sa2 x2.length sc2) x2 W (Jc Jq H2.out d.out) N2.out).mono ?_
 rintro e wq2 ⟨u, rfl, o2, c1⟩
 replace o2 := Ki Jq o2
 obtain ⟨ua2, uc2, rfl⟩ := Js o2
 replace B0 := zb c1 B0
 replace B1 := zb c1 B1
 have P2 := hd o2
 have y0 := YW.out; have yd := d.out.size; have yc := c1.size
 have Q2 : Hid (∀ b, (Kg W b ∧ b < wq2.heap.size) → w.heap.size + 1 < b ∧ W.heap.size ≤ b ∧ b < wq2.heap.size) := hd (fun b h => ⟨Ee y0 h.1, h.1, h.2⟩)
 have Zq2 : Hid (W.heap.size ≤ wq2.heap.size) := hd yc
 replace d := zD d c1
 replace YW : Hid (w.heap.size + 1 < wq2.heap.size) := hd (Ee y0 yc)
 clear o2 c1 y0 yd yc
 have p0 := cr 2 (Value.slice sa2 x2.length sc2) B0.out
 have f0 := Ut wq2 _ 2 _ _ B0.out
 skip
 have tt : Jy (fun b => b = w.heap.size) wq2 (wq2.setCell ⟨w, 2, none⟩ (.slice ua2 x2.length uc2)) := Jh (G := fun b => b = w.heap.size) (g := w.heap.size) (j := 2) (u := .slice ua2 x2.length uc2) rfl
 have r := Uv wq2 w.heap.size 2 _ _ (.slice ua2 x2.length uc2) B0.out
 simp at r
 have y1 := YW.out
 have K0 : Hid ((wq2.setCell ⟨w, 2, none⟩ (.slice ua2 x2.length uc2)).heap[w.heap.size]? = some (.cells #[a0, a1, .slice ua2 x2.length uc2, .slice sa3 x3.length sc3] 49 (0, 0))) := hd r
 have K1 := hd ((tt.block (w.heap.size + 1) (Array.getElem?_eq_some_iff.1 B1.out).1 (fun h => by omega)).trans B1.out)
 have KP2 := zt Jq P2 tt (fun b h1 h2 => by have := Q2.out b h1; omega)
 have kd := hd (Jr d.out tt (fun b h => by omega) d.out.size)
 have KY : Hid (w.heap.size + 1 < (wq2.setCell ⟨w, 2, none⟩ (.slice ua2 x2.length uc2)).heap.size) := hd (Ee y1 tt.size)
 have Zs2 : Hid (wq2.heap.size ≤ (wq2.setCell ⟨w, 2, none⟩ (.slice ua2 x2.length uc2)).heap.size) := hd tt.size
 clear tt r y1 B0 B1 d YW P2
 have p1 := cr 3 (Value.slice sa3 x3.length sc3) K0.out
 go_wp2_with fail
 clear p0 f0 p1
 generalize (wq2.setCell ⟨w, 2, none⟩ (.slice ua2 x2.length uc2)) = W2 at *
 have B0 := K0; have B1 := K1; have d := kd; have YW := KY; have P2 := KP2
 clear K0 K1 kd KY KP2
 refine (Xl (.slice sa3 x3.length sc3) x3 W2 (Jc Jb H3.out d.out) N3.out).mono ?_
 rintro e wq3 ⟨u, rfl, o3, c1⟩
 replace o3 := Ki Jb o3
 obtain ⟨ua3, uc3, rfl⟩ := Js o3
 replace B0 := zb c1 B0
 replace B1 := zb c1 B1
 replace P2 := zf Jq P2 c1
 have P3 := hd o3
 have y0 := YW.out; have yd := d.out.size; have yc := c1.size
 have Q3 : Hid (∀ b, (Kg W2 b ∧ b < wq3.heap.size) → w.heap.size + 1 < b ∧ W2.heap.size ≤ b ∧ b < wq3.heap.size) := hd (fun b h => ⟨Ee y0 h.1, h.1, h.2⟩)
 have Zq3 : Hid (W2.heap.size ≤ wq3.heap.size) := hd yc
 replace d := zD d c1
 replace YW : Hid (w.heap.size + 1 < wq3.heap.size) := hd (Ee y0 yc)
 clear o3 c1 y0 yd yc
 have p0 := cr 3 (Value.slice sa3 x3.length sc3) B0.out
 have f0 := Ut wq3 _ 3 _ _ B0.out
 skip
 have tt : Jy (fun b => b = w.heap.size) wq3 (wq3.setCell ⟨w, 3, none⟩ (.slice ua3 x3.length uc3)) := Jh (G := fun b => b = w.heap.size) (g := w.heap.size) (j := 3) (u := .slice ua3 x3.length uc3) rfl
 have r := Uv wq3 w.heap.size 3 _ _ (.slice ua3 x3.length uc3) B0.out
 simp at r
 have y1 := YW.out
 have K0 : Hid ((wq3.setCell ⟨w, 3, none⟩ (.slice ua3 x3.length uc3)).heap[w.heap.size]? = some (.cells #[a0, a1, .slice ua2 x2.length uc2, .slice ua3 x3.length uc3] 49 (0, 0))) := hd r
 have K1 := hd ((tt.block (w.heap.size + 1) (Array.getElem?_eq_some_iff.1 B1.out).1 (fun h => by omega)).trans B1.out)
 have KP2 := zt Jq P2 tt (fun b h1 h2 => by have := Q2.out b h1; omega)
 have KP3 := zt Jb P3 tt (fun b h1 h2 => by have := Q3.out b h1; omega)
 have kd := hd (Jr d.out tt (fun b h => by omega) d.out.size)
 have KY : Hid (w.heap.size + 1 < (wq3.setCell ⟨w, 3, none⟩ (.slice ua3 x3.length uc3)).heap.size) := hd (Ee y1 tt.size)
 have Zs3 : Hid (wq3.heap.size ≤ (wq3.setCell ⟨w, 3, none⟩ (.slice ua3 x3.length uc3)).heap.size) := hd tt.size
 clear tt r y1 B0 B1 d YW P2 P3
 generalize hW : (wq3.setCell ⟨w, 3, none⟩ (.slice ua3 x3.length uc3)) = WF at *
 have c0 := cr 0 a0 K0.out
 have c1 := cr 1 a1 K0.out
 have c2 := cr 2 (Value.slice ua2 x2.length uc2) K0.out
 have c3 := cr 3 (Value.slice ua3 x3.length uc3) K0.out
 have z0 := cr 0 Ja K1.out
 have g0 := Ut WF _ 0 _ _ K1.out
 have z1 := cr 1 Ja K1.out
 have g1 := Ut WF _ 1 _ _ K1.out
 have z2 := cr 2 () K1.out
 have g2 := Ut WF _ 2 _ _ K1.out
 have z3 := cr 3 () K1.out
 have g3 := Ut WF _ 3 _ _ K1.out
 have y1 := KY.out
 have DF := hd ((((kd.out.setCell (p := ⟨w.heap.size + 1, 0, none⟩) (by simp) a0).setCell (p := ⟨w.heap.size + 1, 1, none⟩) (by simp) a1).setCell (p := ⟨w.heap.size + 1, 2, none⟩) (by simp) (.slice ua2 x2.length uc2)).setCell (p := ⟨w.heap.size + 1, 3, none⟩) (by simp) (.slice ua3 x3.length uc3))
 have r := st4 K1.out a0 a1 (.slice ua2 x2.length uc2) (.slice ua3 x3.length uc3)
 try simp at r
 have e0 := (Uu _ (w.heap.size + 1) 0 _ _ _ r).trans (show _ = some (Value.int .i64 a0) from rfl)
 have e1 := (Uu _ (w.heap.size + 1) 1 _ _ _ r).trans (show _ = some (Value.int .i64 a1) from rfl)
 have e2 := (Uu _ (w.heap.size + 1) 2 _ _ _ r).trans (show _ = some (Value.slice ua2 x2.length uc2) from rfl)
 have e3 := (Uu _ (w.heap.size + 1) 3 _ _ _ r).trans (show _ = some (Value.slice ua3 x3.length uc3) from rfl)
 have tt := ts4 WF (w.heap.size + 1) a0 a1 (.slice ua2 x2.length uc2) (.slice ua3 x3.length uc3)
 have PF2 := zt Jq KP2 tt (fun b h1 h2 => by have := Q2.out b h1; omega)
 have PF3 := zt Jb KP3 tt (fun b h1 h2 => by have := Q3.out b h1; omega)
 clear r tt KY K1 kd y1 K0 KP2 KP3
 subst hW
 go_wp2
 refine bodyPost_ret (v := .agg #[a0, a1, .slice ua2 x2.length uc2, .slice ua3 x3.length uc3]) ?_ rfl ⟨[a0, a1, .slice ua2 x2.length uc2, .slice ua3 x3.length uc3], rfl, tQuery_mkO PF2.out PF3.out (fun b h => by have := Q2.out b h; show w.heap.size ≤ b; omega) (fun b h => by have := Q3.out b h; show w.heap.size ≤ b; omega) (fun b h1 h2 => by have r1 := Q2.out b h1; have r2 := Q3.out b h2; have := Zq3.out; have := Zs2.out;  omega), DF.out⟩
 simp [results, Tryz.f53, go_sem, e0, e1, e2, e3]
set_option maxHeartbeats 2000000 in
theorem copyLRowint (v : Value) (xs : List Int) (w : World) (h : Kc Jf w v xs) (hn : xs.length ≤ 1048576) :
  Calls Tryz.prog 101 #[v] w (Yi 3 Jf w xs) := by
 have H := hd h
 have HN := hd hn
 obtain ⟨a, cap, rfl⟩ := Jo h
 clear h hn
 go_enter Tryz.func101, Tryz.ntmps101
 go_wp2_with (at_builtin; refine Xq Jb Yw Vq Tryz.underlying25 rfl rfl _ (.tmp 3) rfl (fun _ => False) (Kg w) _ _ [] xs rfl rfl (Vl _ _ _ _) H.out (fun _ h => h.elim) (Ed _) (by have := HN.out; simp; omega) ?_)
 intro v' w1 o1 t1
 obtain ⟨va, vc, rfl⟩ := Js o1
 have b1 := Jr (Eh w.heap.size w) t1 (fun _ h => h.elim) (Ed _)
 go_wp2
 go_ret
 exact ⟨_, rfl, o1, b1⟩
set_option maxHeartbeats 8000000 in
theorem copyRow_P (a0 : Int) (v1 : Value) (x1 : List Int) (w : World) (h1 : Kc Jf w v1 x1) (s1 : zL Jf x1 ≤ 1048576) :
  Calls Tryz.prog 185 #[.agg #[a0, v1]] w (Yc Kb (fun cs => .agg cs.toArray) w (a0, x1)) := by
 obtain ⟨sa1, sc1, rfl⟩ := Jo h1
 have H1 := hd h1; have N1 := hd (Jz s1)
 clear h1 s1
 have d := hd (((Eh w.heap.size w).alloc (Ed _) (.cells #[a0, .slice sa1 x1.length sc1] 64)).alloc (by simp) (.cells #[Ja, ()] 64))
 have B0 : Hid (((w.alloc (.cells #[a0, .slice sa1 x1.length sc1] 64)).alloc (.cells #[Ja, ()] 64)).heap[w.heap.size]? = some (.cells #[a0, .slice sa1 x1.length sc1] 64 (0, 0))) := hd (by rw [Below.heap_alloc _ _ _ (by simp)]; exact Uw w _)
 have B1 : Hid (((w.alloc (.cells #[a0, .slice sa1 x1.length sc1] 64)).alloc (.cells #[Ja, ()] 64)).heap[(w.heap.size + 1)]? = some (.cells #[Ja, ()] 64 (0, 0))) := hd (by
  have := Uw (w.alloc (.cells #[a0, .slice sa1 x1.length sc1] 64)) (.cells #[Ja, ()] 64)
  simpa only [Ux] using this)
 have YW : Hid (w.heap.size + 1 < ((w.alloc (.cells #[a0, .slice sa1 x1.length sc1] 64)).alloc (.cells #[Ja, ()] 64)).heap.size) := hd (by simp)
 go_enter Tryz.func185, Tryz.ntmps185
 go_wp2_with fail
 generalize ((w.alloc (.cells #[a0, .slice sa1 x1.length sc1] 64)).alloc (.cells #[Ja, ()] 64)) = W at *
 refine (copyLRowint (.slice sa1 x1.length sc1) x1 W (Jc Jb H1.out d.out) N1.out).mono ?_
 rintro e wq1 ⟨u, rfl, o1, c1⟩
 replace o1 := Ki Jb o1
 obtain ⟨ua1, uc1, rfl⟩ := Js o1
 replace B0 := zb c1 B0
 replace B1 := zb c1 B1
 have P1 := hd o1
 have y0 := YW.out; have yd := d.out.size; have yc := c1.size
 have Q1 : Hid (∀ b, (Kg W b ∧ b < wq1.heap.size) → w.heap.size + 1 < b ∧ W.heap.size ≤ b ∧ b < wq1.heap.size) := hd (fun b h => ⟨Ee y0 h.1, h.1, h.2⟩)
 have Zq1 : Hid (W.heap.size ≤ wq1.heap.size) := hd yc
 replace d := zD d c1
 replace YW : Hid (w.heap.size + 1 < wq1.heap.size) := hd (Ee y0 yc)
 clear o1 c1 y0 yd yc
 have p0 := cr 1 (Value.slice sa1 x1.length sc1) B0.out
 have f0 := Ut wq1 _ 1 _ _ B0.out
 skip
 have tt : Jy (fun b => b = w.heap.size) wq1 (wq1.setCell ⟨w, 1, none⟩ (.slice ua1 x1.length uc1)) := Jh (G := fun b => b = w.heap.size) (g := w.heap.size) (j := 1) (u := .slice ua1 x1.length uc1) rfl
 have r := Uv wq1 w.heap.size 1 _ _ (.slice ua1 x1.length uc1) B0.out
 simp at r
 have y1 := YW.out
 have K0 : Hid ((wq1.setCell ⟨w, 1, none⟩ (.slice ua1 x1.length uc1)).heap[w.heap.size]? = some (.cells #[a0, .slice ua1 x1.length uc1] 64 (0, 0))) := hd r
 have K1 := hd ((tt.block (w.heap.size + 1) (Array.getElem?_eq_some_iff.1 B1.out).1 (fun h => by omega)).trans B1.out)
 have KP1 := zt Jb P1 tt (fun b h1 h2 => by have := Q1.out b h1; omega)
 have kd := hd (Jr d.out tt (fun b h => by omega) d.out.size)
 have KY : Hid (w.heap.size + 1 < (wq1.setCell ⟨w, 1, none⟩ (.slice ua1 x1.length uc1)).heap.size) := hd (Ee y1 tt.size)
 have Zs1 : Hid (wq1.heap.size ≤ (wq1.setCell ⟨w, 1, none⟩ (.slice ua1 x1.length uc1)).heap.size) := hd tt.size
 clear tt r y1 B0 B1 d YW P1
 generalize hW : (wq1.setCell ⟨w, 1, none⟩ (.slice ua1 x1.length uc1)) = WF at *
 have c0 := cr 0 a0 K0.out
 have c1 := cr 1 (Value.slice ua1 x1.length uc1) K0.out
 have z0 := cr 0 Ja K1.out
 have g0 := Ut WF _ 0 _ _ K1.out
 have z1 := cr 1 () K1.out
 have g1 := Ut WF _ 1 _ _ K1.out
 have y1 := KY.out
 have DF := hd ((kd.out.setCell (p := ⟨w.heap.size + 1, 0, none⟩) (by simp) a0).setCell (p := ⟨w.heap.size + 1, 1, none⟩) (by simp) (.slice ua1 x1.length uc1))
 have r := st2 K1.out a0 (.slice ua1 x1.length uc1)
 try simp at r
 have e0 := (Uu _ (w.heap.size + 1) 0 _ _ _ r).trans (show _ = some (Value.int .i64 a0) from rfl)
 have e1 := (Uu _ (w.heap.size + 1) 1 _ _ _ r).trans (show _ = some (Value.slice ua1 x1.length uc1) from rfl)
 have tt := ts2 WF (w.heap.size + 1) a0 (.slice ua1 x1.length uc1)
 have PF1 := zt Jb KP1 tt (fun b h1 h2 => by have := Q1.out b h1; omega)
 clear r tt KY K1 kd y1 K0 KP1
 subst hW
 go_wp2
 refine bodyPost_ret (v := .agg #[a0, .slice ua1 x1.length uc1]) ?_ rfl ⟨[a0, .slice ua1 x1.length uc1], rfl, tRow_mkO PF1.out (fun b h => by have := Q1.out b h; show w.heap.size ≤ b; omega) , DF.out⟩
 simp [results, Tryz.f185, go_sem, e0, e1]
set_option maxHeartbeats 8000000 in
theorem copyEachRow (v : Value) (xs : List (Int × List Int)) (w : World) (h : Kc Kb w v xs) (hs : zL Kb xs ≤ 1048576) :
  Calls Tryz.prog 184 #[v, .func (.func 185) #[] #[]] w (Yi 64 Kb w xs) := by
 obtain ⟨i0, hi, hz0, hz1⟩ : ∃ i0, Tryz.prog.info? 64 = some i0 ∧ i0.zero = some (.agg #[Ja, ()]) ∧ i0.size = 2 := by
  have h0 := Tryz.info_Row
  cases q : Tryz.prog.info? 64 with
  | none => rw [q] at h0; simp at h0
  | some i => rw [q] at h0; simp only [Option.map_some, Option.some.injEq, Prod.mk.injEq] at h0; exact ⟨i, rfl, h0.1, h0.2⟩
 have hz2 : i0.bytes ≤ 512 := by
  have h0 := Tryz.bytes_Row
  rw [hi] at h0
  simpa using h0
 have HI := hd hi; have HZ0 := hd hz0; have HZ1 := hd hz1; have HZ2 := hd hz2
 clear hi hz0 hz1 hz2
 have H := hd h
 have hlen := Jz hs
 have HS := hd hs
 obtain ⟨a, cap, rfl⟩ := Jo h
 clear h hs
 go_enter Tryz.func184, Tryz.ntmps184
 go_wp2_with (at_make; refine wpList_make_full _ rfl (.tmp 9) (.tmp 9) 86 rfl w.heap.size 64 i0 (.agg #[Ja, ()]) 2 Tryz.underlying86 HI.out HZ0.out HZ1.out _ _ _ _ xs.length rfl rfl rfl rfl (by have h9 := Nat.mul_le_mul HZ2.out hlen; have h8 := Nat.mul_le_mul hlen HZ2.out; omega) (by unfold maxLen; omega) (Ed _) ?_)
 intro w1 hown0 hg0
 have hown1 : Kt 64 Kb w1 (Kg w) (.slice (some ⟨w, 0, none⟩) xs.length xs.length) (List.replicate xs.length Kb.d) := Yu (z := #[.int .i64 0, .slice none 0 0]) Jv rfl (tRow_zero w1) (Ed _) hown0
 have hbel1 := (Eh w.heap.size w).grown hg0 (Ed _) (fun k hk => by cases hk)
 clear hown0 hg0
 go_wp2
 go_loopw [13] (fun i wr => ∃ k : Nat, k ≤ xs.length ∧ i = .int .i64 k ∧ Kt 64 Kb wr (Kg w) (.slice (some ⟨w, 0, none⟩) xs.length xs.length) (xs.take k ++ List.replicate (xs.length - k) Kb.d) ∧ Below w w wr) (fun i _ => xs.length - (intOf i).toNat)
 case atStart => exact ⟨0, Ef _, rfl, by simpa using hown1, hbel1⟩
 case round =>
  obtain ⟨k, hk, rfl, hown, hbel⟩ := hrel
  by_cases hlt : k < xs.length
  ·
   have HSET := hd (Yx (d := Kb.d) hlt)
   have HKL : Hid (k < (xs.take k ++ List.replicate (xs.length - k) Kb.d).length) := hd (by rw [Vc hk]; exact hlt)
   have HLL := hd (Vc (d := Kb.d) hk)
   have i1 : (0 : Int) ≤ (k : Int) := by omega
   have i2 : (k : Int) < (xs.length : Int) := by omega
   have hzx := Kz HS.out hlt
   obtain ⟨b, off, cap', cs, hv, hbl, hcs, hR⟩ := Km (Jc Jv H.out hbel) hlt
   simp only [Eg] at hv
   obtain ⟨rfl, _, rfl⟩ := hv
   obtain ⟨hme, hFg, hgl, cj, Fj, Lc, hrow, hLc, hO, hFj, hput⟩ := Vh Jv hown HKL.out
   clear hme
   clear hown1 hbel1
   generalize xs.getD k Kb.d = x at *
   generalize xs.take k ++ List.replicate (xs.length - k) Kb.d = ys at *
   obtain ⟨a0, x1⟩ := x
   obtain ⟨v1, hR'⟩ := tRow_R hR
   obtain ⟨rfl, h1⟩ := hR'
   have p0 : wr.cell? ⟨b, off + k * 2, none⟩ = some (Value.int .i64 a0) := hcs 0 (by decide)
   have p1 : wr.cell? ⟨b, off + k * 2 + 1, none⟩ = some (v1) := hcs 1 (by decide)
   rw [tRow_sz] at hzx
   have S1 := hd (show zL Jf x1 ≤ 1048576 by omega)
   obtain ⟨sa1, sc1, rfl⟩ := Jo h1
   have HC := hd (fun w g1 => copyRow_P a0 (.slice sa1 x1.length sc1) x1 w g1 S1.out)
   have G1 := hd h1
   clear hcs hzx h1
   have hal : Below wr wr (wr.alloc (.cells #[a0, .slice sa1 x1.length sc1] 64)) := (Eh _ _).alloc (Ed _) _
   go_wp2_with fail
   generalize wr.alloc (.cells #[a0, .slice sa1 x1.length sc1] 64) = W2 at *
   refine (HC.out _ (Jc Jb G1.out hal)).mono ?_
   rintro e w2 ⟨cv, rfl, ow0, b20⟩
   have ow : Kb.O w2 (Kg wr) cv _ := Jv.mono ow0 (fun b hb => Nat.le_trans hal.size hb)
   have b2 := hal.trans (b20.mono hal.size)
   clear ow0 b20 hal
   replace ow := Jv.lt ow
   have ow2 := ow
   obtain ⟨u1, K1, rfl, o1, _⟩ := tRow_O ow2
   obtain ⟨ua1, uc1, rfl⟩ := Js o1
   clear o1
   have r0 := Kv (G := fun _ => False) hrow (Kj b2) (fun _ _ => not_false)
   rw [HLL.out] at r0
   have q0 : ∃ x, w2.cell? ⟨w, k * 2, none⟩ = some x := zq r0 (k * 2) (by have := HKL.out; rw [HLL.out] at this; show _ < xs.length * 2; omega)
   obtain ⟨y0, q0⟩ := q0
   have f0 := Uy r0 (k * 2)
   have q1 : ∃ x, w2.cell? ⟨w, k * 2 + 1, none⟩ = some x := zq r0 (k * 2 + 1) (by have := HKL.out; rw [HLL.out] at this; show _ < xs.length * 2; omega)
   obtain ⟨y1, q1⟩ := q1
   have f1 := Uy r0 (k * 2 + 1)
   have b3 := hbel.trans (b2.mono hbel.size)
   have B3 := hd ((b3.setCell (p := ⟨w, k * 2, none⟩) (Ed _) a0).setCell (p := ⟨w, k * 2 + 1, none⟩) (Ed _) (.slice ua1 x1.length uc1))
   have hT : Jy (fun b => b = w.heap.size ∨ Fj b ∨ wr.heap.size ≤ b) wr ((w2.setCell ⟨w, k * 2, none⟩ a0).setCell ⟨w, k * 2 + 1, none⟩ (.slice ua1 x1.length uc1)) := (((Kj b2).trans (Jh (j := k * 2) (u := .int .i64 a0) (Or.inl rfl))).trans (Jh (j := k * 2 + 1) (u := .slice ua1 x1.length uc1) (Or.inl rfl)))
   have hT2 : Jy (fun b => b = w.heap.size) w2 ((w2.setCell ⟨w, k * 2, none⟩ a0).setCell ⟨w, k * 2 + 1, none⟩ (.slice ua1 x1.length uc1)) := (((Jy.refl (fun b => b = w.heap.size) _).trans (Jh (G := fun b => b = w.heap.size) (j := k * 2) (u := .int .i64 a0) rfl)).trans (Jh (G := fun b => b = w.heap.size) (j := k * 2 + 1) (u := .slice ua1 x1.length uc1) rfl))
   have hO2 := Jv.turn ow hT2 (fun b h1 h2 => by have := h1.1; simp only [Kg] at this; omega)
   have r9 := (Uz (Uz r0 (k * 2) a0).1 (k * 2 + 1) (.slice ua1 x1.length uc1)).1
   have hLl : Lc.length = xs.length * 2 := r0.1
   have hst := hd (hput ((w2.setCell ⟨w, k * 2, none⟩ a0).setCell ⟨w, k * 2 + 1, none⟩ (.slice ua1 x1.length uc1)) ((Lc.set (k * 2) a0).set (k * 2 + 1) (.slice ua1 x1.length uc1)) [a0, .slice ua1 x1.length uc1] _ (a0, x1) (by rw [HLL.out]; exact r9) (fun p hp => by have hp2 : p < k * 2 ∨ k * 2 + 2 ≤ p := hp; rw [Ea (by omega)]; rw [Ea (by omega)]) (fun i hi => by have hi' : i < 2 := hi; match i, hi' with | 0, _ => (show (((Lc.set (k * 2) a0).set (k * 2 + 1) (.slice ua1 x1.length uc1)))[k * 2]? = _; rw [Ea (by omega)]; rw [Eb (by first | omega | (simp only [List.length_set]; omega))]; rfl) | 1, _ => (show (((Lc.set (k * 2) a0).set (k * 2 + 1) (.slice ua1 x1.length uc1)))[k * 2 + 1]? = _; rw [Eb (by first | omega | (simp only [List.length_set]; omega))]; rfl)) hO2 (fun b hb => ⟨Nat.le_trans hbel.size hb.1, Or.inr hb.1⟩) hT)
   have hst2 : Kt 64 Kb ((w2.setCell ⟨w, k * 2, none⟩ a0).setCell ⟨w, k * 2 + 1, none⟩ (.slice ua1 x1.length uc1)) (Kg w) (.slice (some ⟨w, 0, none⟩) xs.length xs.length) (xs.take (k + 1) ++ List.replicate (xs.length - (k + 1)) Kb.d) := by have := hst.out; rw [HSET.out] at this; exact this
   have HST := hd hst2
   clear hst hst2 hT hT2 hO2 r9 r0 hrow hO hput hown hbel b2 ow b3 hLl hLc hFj
   go_wp2
   go_roundw
   case rel => exact ⟨k + 1, by omega, by go_num, HST.out, B3.out⟩
   case measure => simp [intOf]; omega
  ·
   obtain rfl : k = xs.length := by omega
   have HE : Hid (xs.take xs.length ++ List.replicate (xs.length - xs.length) Kb.d = xs) := hd (by simp)
   rw [HE.out] at hown
   go_wp2
   go_ret
   exact ⟨_, rfl, hown, hbel⟩
set_option maxHeartbeats 2000000 in
theorem copyRows_any (v : Value) (xs : List (Int × List Int)) (w : World) (h : Kc Kb w v xs) (hs : zL Kb xs ≤ 1048576) :
  Calls Tryz.prog 154 #[v] w (Yi 64 Kb w xs) := by
 have H := hd (fun w h => copyEachRow v xs w h hs)
 have HV := hd h
 clear h hs
 go_enter Tryz.func154, Tryz.ntmps154
 go_wp2_with fail
 refine (H.out _ HV.out).mono ?_
 rintro e w1 ⟨u, rfl, o1, b1⟩
 obtain ⟨ua, uc, rfl⟩ := Js o1
 go_wp2
 go_ret
 exact ⟨_, rfl, o1, b1⟩
set_option maxHeartbeats 16000000 in
theorem copyCharge_P (a0 a1 : Int) (v2 v3 v4 : Value) (x2 : List Int) (x3 : List Int) (x4 : List Int) (w : World) (h2 : Kc Jf w v2 x2) (h3 : Kc Jf w v3 x3) (h4 : Kc Jf w v4 x4) (s2 : zL Jf x2 ≤ 1048576) (s3 : zL Jf x3 ≤ 1048576) (s4 : zL Jf x4 ≤ 1048576) :
  Calls Tryz.prog 107 #[.agg #[a0, a1, v2, v3, v4]] w (Yc Jp (fun cs => .agg cs.toArray) w (a0, a1, x2, x3, x4)) := by
 obtain ⟨c2, k2, rfl⟩ := Jo h2
 have H2 := hd h2; have S2 := hd s2; have N2 := hd (Jz s2)
 obtain ⟨c3, k3, rfl⟩ := Jo h3
 have H3 := hd h3; have S3 := hd s3; have N3 := hd (Jz s3)
 obtain ⟨c4, k4, rfl⟩ := Jo h4
 have H4 := hd h4; have S4 := hd s4; have N4 := hd (Jz s4)
 clear h2 s2 h3 s3 h4 s4
 have d := hd (show Below w w ((w.alloc (.cells #[a0, a1, .slice c2 x2.length k2, .slice c3 x3.length k3, .slice c4 x4.length k4] 137)).alloc (.cells #[Ja, Ja, (), (), ()] 137)) from (((Eh _ w).alloc (Ed _) _).alloc (by simp) _))
 have B0 : Hid (((w.alloc (.cells #[a0, a1, .slice c2 x2.length k2, .slice c3 x3.length k3, .slice c4 x4.length k4] 137)).alloc (.cells #[Ja, Ja, (), (), ()] 137)).heap[w.heap.size]? = some (.cells #[a0, a1, .slice c2 x2.length k2, .slice c3 x3.length k3, .slice c4 x4.length k4] 137 (0, 0))) := hd (by
  rw [Below.heap_alloc _ _ _ (by simp)]
  exact Uw w _)
 have B1 : Hid (((w.alloc (.cells #[a0, a1, .slice c2 x2.length k2, .slice c3 x3.length k3, .slice c4 x4.length k4] 137)).alloc (.cells #[Ja, Ja, (), (), ()] 137)).heap[(w.heap.size + 1)]? = some (.cells #[Ja, Ja, (), (), ()] 137 (0, 0))) := hd (by
  have := Uw (w.alloc (.cells #[a0, a1, .slice c2 x2.length k2, .slice c3 x3.length k3, .slice c4 x4.length k4] 137)) (.cells #[Ja, Ja, (), (), ()] 137)
  simpa only [Ux] using this)
 have YW : Hid (w.heap.size + 2 ≤ ((w.alloc (.cells #[a0, a1, .slice c2 x2.length k2, .slice c3 x3.length k3, .slice c4 x4.length k4] 137)).alloc (.cells #[Ja, Ja, (), (), ()] 137)).heap.size) := hd (by simp [Ux])
 go_enter Tryz.func107, Tryz.ntmps107
 go_wp2_with fail
 generalize ((w.alloc (.cells #[a0, a1, .slice c2 x2.length k2, .slice c3 x3.length k3, .slice c4 x4.length k4] 137)).alloc (.cells #[Ja, Ja, (), (), ()] 137)) = W at *
 refine (Xl (.slice c2 x2.length k2) x2 W (Jc Jb H2.out d.out) N2.out).mono ?_
 rintro e Wq0 ⟨u, rfl, o1, c⟩
 replace o1 := Ki Jb o1
 obtain ⟨ua2, uc2, rfl⟩ := Js o1
 have Q2 : Hid (∀ b, (Kg W b ∧ b < Wq0.heap.size) → W.heap.size ≤ b ∧ b < Wq0.heap.size) := hd (fun b h => h)
 have P2 := hd o1
 clear o1
 replace B0 := zb c B0
 replace B1 := zb c B1
 replace d := zD d c
 have Z_Wq0 := hd (show W.heap.size ≤ Wq0.heap.size from c.size)
 clear c
 have cp_B0_0 := Xk B0.out
 have cp_B1_0 := Xk B1.out
 have f_B0_0 := Ut Wq0 _ 0 _ _ B0.out
 have f_B0_1 := Ut Wq0 _ 1 _ _ B0.out
 have f_B0_2 := Ut Wq0 _ 2 _ _ B0.out
 have f_B0_3 := Ut Wq0 _ 3 _ _ B0.out
 have f_B0_4 := Ut Wq0 _ 4 _ _ B0.out
 have tt : Jy (fun b => b = w.heap.size) Wq0 (Wq0.setCell ⟨w, 2, none⟩ (.slice ua2 x2.length uc2)) := ((Jy.refl (fun b => b = w.heap.size) Wq0).trans (Jh (G := fun b => b = w.heap.size) (g := w.heap.size) (j := 2) (u := .slice ua2 x2.length uc2) rfl))
 have r := (Uv _ w.heap.size 2 _ _ (.slice ua2 x2.length uc2) B0.out)
 simp at r
 have y0 := YW.out
 have y1 := Z_Wq0.out
 have KB0 : Hid ((Wq0.setCell ⟨w, 2, none⟩ (.slice ua2 x2.length uc2)).heap[w.heap.size]? = some (.cells #[a0, a1, .slice ua2 x2.length uc2, .slice c3 x3.length k3, .slice c4 x4.length k4] 137 (0, 0))) := hd r
 have KB1 := hd ((tt.block (w.heap.size + 1) (Array.getElem?_eq_some_iff.1 B1.out).1 (fun h => by omega)).trans B1.out)
 have KP2 := zt Jb P2 tt (fun b h1 h2 => by have r1 := Q2.out b h1; omega)
 have Kd := hd (Jr d.out tt (fun b h => by omega) d.out.size)
 have KZ := hd (show Wq0.heap.size ≤ (Wq0.setCell ⟨w, 2, none⟩ (.slice ua2 x2.length uc2)).heap.size from tt.size)
 clear tt r y0 y1
 have kk3 := cr 3 (Value.slice c3 x3.length k3) KB0.out
 go_wp2_with fail
 clear cp_B0_0 cp_B1_0 f_B0_0 f_B0_1 f_B0_2 f_B0_3 f_B0_4 kk3
 generalize (Wq0.setCell ⟨w, 2, none⟩ (.slice ua2 x2.length uc2)) = V0 at *
 replace B0 := KB0; replace B1 := KB1; replace d := Kd; replace P2 := KP2
 clear KB0 KB1 Kd KP2
 have Z_V0 := KZ
 clear KZ
 refine (Xl (.slice c3 x3.length k3) x3 V0 (Jc Jb H3.out d.out) N3.out).mono ?_
 rintro e Wq1 ⟨u, rfl, o1, c⟩
 replace o1 := Ki Jb o1
 obtain ⟨ua3, uc3, rfl⟩ := Js o1
 have Q3 : Hid (∀ b, (Kg V0 b ∧ b < Wq1.heap.size) → V0.heap.size ≤ b ∧ b < Wq1.heap.size) := hd (fun b h => h)
 have P3 := hd o1
 clear o1
 replace B0 := zb c B0
 replace B1 := zb c B1
 replace P2 := zf Jb P2 c
 replace d := zD d c
 have Z_Wq1 := hd (show V0.heap.size ≤ Wq1.heap.size from c.size)
 clear c
 have cp_B0_0 := Xk B0.out
 have cp_B1_0 := Xk B1.out
 have f_B0_0 := Ut Wq1 _ 0 _ _ B0.out
 have f_B0_1 := Ut Wq1 _ 1 _ _ B0.out
 have f_B0_2 := Ut Wq1 _ 2 _ _ B0.out
 have f_B0_3 := Ut Wq1 _ 3 _ _ B0.out
 have f_B0_4 := Ut Wq1 _ 4 _ _ B0.out
 have tt : Jy (fun b => b = w.heap.size) Wq1 (Wq1.setCell ⟨w, 3, none⟩ (.slice ua3 x3.length uc3)) := ((Jy.refl (fun b => b = w.heap.size) Wq1).trans (Jh (G := fun b => b = w.heap.size) (g := w.heap.size) (j := 3) (u := .slice ua3 x3.length uc3) rfl))
 have r := (Uv _ w.heap.size 3 _ _ (.slice ua3 x3.length uc3) B0.out)
 simp at r
 have y0 := YW.out
 have y1 := Z_Wq0.out
 have y2 := Z_V0.out
 have y3 := Z_Wq1.out
 have KB0 : Hid ((Wq1.setCell ⟨w, 3, none⟩ (.slice ua3 x3.length uc3)).heap[w.heap.size]? = some (.cells #[a0, a1, .slice ua2 x2.length uc2, .slice ua3 x3.length uc3, .slice c4 x4.length k4] 137 (0, 0))) := hd r
 have KB1 := hd ((tt.block (w.heap.size + 1) (Array.getElem?_eq_some_iff.1 B1.out).1 (fun h => by omega)).trans B1.out)
 have KP2 := zt Jb P2 tt (fun b h1 h2 => by have r1 := Q2.out b h1; omega)
 have KP3 := zt Jb P3 tt (fun b h1 h2 => by have r1 := Q3.out b h1; omega)
 have Kd := hd (Jr d.out tt (fun b h => by omega) d.out.size)
 have KZ := hd (show Wq1.heap.size ≤ (Wq1.setCell ⟨w, 3, none⟩ (.slice ua3 x3.length uc3)).heap.size from tt.size)
 clear tt r y0 y1 y2 y3
 have kk4 := cr 4 (Value.slice c4 x4.length k4) KB0.out
 go_wp2_with fail
 clear cp_B0_0 cp_B1_0 f_B0_0 f_B0_1 f_B0_2 f_B0_3 f_B0_4 kk4
 generalize (Wq1.setCell ⟨w, 3, none⟩ (.slice ua3 x3.length uc3)) = V1 at *
 replace B0 := KB0; replace B1 := KB1; replace d := Kd; replace P2 := KP2; replace P3 := KP3
 clear KB0 KB1 Kd KP2 KP3
 have Z_V1 := KZ
 clear KZ
 refine (Xl (.slice c4 x4.length k4) x4 V1 (Jc Jb H4.out d.out) N4.out).mono ?_
 rintro e Wq2 ⟨u, rfl, o1, c⟩
 replace o1 := Ki Jb o1
 obtain ⟨ua4, uc4, rfl⟩ := Js o1
 have Q4 : Hid (∀ b, (Kg V1 b ∧ b < Wq2.heap.size) → V1.heap.size ≤ b ∧ b < Wq2.heap.size) := hd (fun b h => h)
 have P4 := hd o1
 clear o1
 replace B0 := zb c B0
 replace B1 := zb c B1
 replace P2 := zf Jb P2 c
 replace P3 := zf Jb P3 c
 replace d := zD d c
 have Z_Wq2 := hd (show V1.heap.size ≤ Wq2.heap.size from c.size)
 clear c
 obtain ⟨p_B0_0, p_B0_1, p_B0_2, p_B0_3, p_B0_4⟩ := Xk B0.out
 obtain ⟨p_B1_0, p_B1_1, p_B1_2, p_B1_3, p_B1_4⟩ := Xk B1.out
 have f_B0_0 := Ut Wq2 _ 0 _ _ B0.out
 have f_B0_1 := Ut Wq2 _ 1 _ _ B0.out
 have f_B0_2 := Ut Wq2 _ 2 _ _ B0.out
 have f_B0_3 := Ut Wq2 _ 3 _ _ B0.out
 have f_B0_4 := Ut Wq2 _ 4 _ _ B0.out
 have f_B1_0 := Ut Wq2 _ 0 _ _ B1.out
 have f_B1_1 := Ut Wq2 _ 1 _ _ B1.out
 have f_B1_2 := Ut Wq2 _ 2 _ _ B1.out
 have f_B1_3 := Ut Wq2 _ 3 _ _ B1.out
 have f_B1_4 := Ut Wq2 _ 4 _ _ B1.out
 have tt : Jy (fun b => b = w.heap.size) Wq2 (Wq2.setCell ⟨w, 4, none⟩ (.slice ua4 x4.length uc4)) := ((Jy.refl (fun b => b = w.heap.size) Wq2).trans (Jh (G := fun b => b = w.heap.size) (g := w.heap.size) (j := 4) (u := .slice ua4 x4.length uc4) rfl))
 have r := (Uv _ w.heap.size 4 _ _ (.slice ua4 x4.length uc4) B0.out)
 simp at r
 have y0 := YW.out
 have y1 := Z_Wq0.out
 have y2 := Z_V0.out
 have y3 := Z_Wq1.out
 have y4 := Z_V1.out
 have y5 := Z_Wq2.out
 have KB0 : Hid ((Wq2.setCell ⟨w, 4, none⟩ (.slice ua4 x4.length uc4)).heap[w.heap.size]? = some (.cells #[a0, a1, .slice ua2 x2.length uc2, .slice ua3 x3.length uc3, .slice ua4 x4.length uc4] 137 (0, 0))) := hd r
 have KB1 := hd ((tt.block (w.heap.size + 1) (Array.getElem?_eq_some_iff.1 B1.out).1 (fun h => by omega)).trans B1.out)
 have KP2 := zt Jb P2 tt (fun b h1 h2 => by have r1 := Q2.out b h1; omega)
 have KP3 := zt Jb P3 tt (fun b h1 h2 => by have r1 := Q3.out b h1; omega)
 have KP4 := zt Jb P4 tt (fun b h1 h2 => by have r1 := Q4.out b h1; omega)
 have Kd := hd (Jr d.out tt (fun b h => by omega) d.out.size)
 have KZ := hd (show Wq2.heap.size ≤ (Wq2.setCell ⟨w, 4, none⟩ (.slice ua4 x4.length uc4)).heap.size from tt.size)
 clear tt r y0 y1 y2 y3 y4 y5
 generalize hW : (Wq2.setCell ⟨w, 4, none⟩ (.slice ua4 x4.length uc4)) = WF at *
 have c0_ := cr 0 a0 KB0.out
 have c1_ := cr 1 a1 KB0.out
 have c2_ := cr 2 (Value.slice ua2 x2.length uc2) KB0.out
 have c3_ := cr 3 (Value.slice ua3 x3.length uc3) KB0.out
 have c4_ := cr 4 (Value.slice ua4 x4.length uc4) KB0.out
 have z0_ := cr 0 Ja KB1.out
 have g0_ := Ut WF _ 0 _ _ KB1.out
 have z1_ := cr 1 Ja KB1.out
 have g1_ := Ut WF _ 1 _ _ KB1.out
 have z2_ := cr 2 () KB1.out
 have g2_ := Ut WF _ 2 _ _ KB1.out
 have z3_ := cr 3 () KB1.out
 have g3_ := Ut WF _ 3 _ _ KB1.out
 have z4_ := cr 4 () KB1.out
 have g4_ := Ut WF _ 4 _ _ KB1.out
 have tt := ts5 WF (w.heap.size + 1) a0 a1 (.slice ua2 x2.length uc2) (.slice ua3 x3.length uc3) (.slice ua4 x4.length uc4)
 have r := st5 KB1.out a0 a1 (.slice ua2 x2.length uc2) (.slice ua3 x3.length uc3) (.slice ua4 x4.length uc4)
 try simp at r
 have e0_ := (Uu _ (w.heap.size + 1) 0 _ _ _ r).trans (show _ = some (Value.int .i64 a0) from rfl)
 have e1_ := (Uu _ (w.heap.size + 1) 1 _ _ _ r).trans (show _ = some (Value.int .i64 a1) from rfl)
 have e2_ := (Uu _ (w.heap.size + 1) 2 _ _ _ r).trans (show _ = some (Value.slice ua2 x2.length uc2) from rfl)
 have e3_ := (Uu _ (w.heap.size + 1) 3 _ _ _ r).trans (show _ = some (Value.slice ua3 x3.length uc3) from rfl)
 have e4_ := (Uu _ (w.heap.size + 1) 4 _ _ _ r).trans (show _ = some (Value.slice ua4 x4.length uc4) from rfl)
 have y0 := YW.out
 have y1 := Z_Wq0.out
 have y2 := Z_V0.out
 have y3 := Z_Wq1.out
 have y4 := Z_V1.out
 have y5 := Z_Wq2.out
 have yk := KZ.out
 have PFP2 := zt Jb KP2 tt (fun b h1 h2 => by have r1 := Q2.out b h1; omega)
 have PFP3 := zt Jb KP3 tt (fun b h1 h2 => by have r1 := Q3.out b h1; omega)
 have PFP4 := zt Jb KP4 tt (fun b h1 h2 => by have r1 := Q4.out b h1; omega)
 have DF := hd (Jr Kd.out tt (fun b h => by omega) Kd.out.size)
 clear tt r yk y0 y1 y2 y3 y4 y5
 subst hW
 go_wp2
 have y0 := YW.out
 have y1 := Z_Wq0.out
 have y2 := Z_V0.out
 have y3 := Z_Wq1.out
 have y4 := Z_V1.out
 have y5 := Z_Wq2.out
 refine bodyPost_ret (v := .agg #[a0, a1, .slice ua2 x2.length uc2, .slice ua3 x3.length uc3, .slice ua4 x4.length uc4]) ?_ rfl ⟨[a0, a1, .slice ua2 x2.length uc2, .slice ua3 x3.length uc3, .slice ua4 x4.length uc4], rfl, tCharge_mkO PFP2.out PFP3.out PFP4.out (fun b h => by have r1 := Q2.out b h; show w.heap.size ≤ b; omega) (fun b h => by have r1 := Q3.out b h; show w.heap.size ≤ b; omega) (fun b h => by have r1 := Q4.out b h; show w.heap.size ≤ b; omega) (fun b h1 h2 => by have r1 := Q2.out b h1; have r2 := Q3.out b h2; omega) (fun b h1 h2 => by have r1 := Q2.out b h1; have r2 := Q4.out b h2; omega) (fun b h1 h2 => by have r1 := Q3.out b h1; have r2 := Q4.out b h2; omega), DF.out⟩
 simp [results, Tryz.f107, go_sem, e0_, e1_, e2_, e3_, e4_]
set_option maxHeartbeats 8000000 in
theorem copyEachCharge (v : Value) (xs : List (Int × Int × List Int × List Int × List Int)) (w : World) (h : Kc Jp w v xs) (hs : zL Jp xs ≤ 1048576) :
  Calls Tryz.prog 106 #[v, .func (.func 107) #[] #[]] w (Yi 137 Jp w xs) := by
 obtain ⟨i0, hi, hz0, hz1⟩ : ∃ i0, Tryz.prog.info? 137 = some i0 ∧ i0.zero = some (.agg #[Ja, Ja, (), (), ()]) ∧ i0.size = 5 := by
  have h0 := Tryz.info_Charge
  cases q : Tryz.prog.info? 137 with
  | none => rw [q] at h0; simp at h0
  | some i => rw [q] at h0; simp only [Option.map_some, Option.some.injEq, Prod.mk.injEq] at h0; exact ⟨i, rfl, h0.1, h0.2⟩
 have hz2 : i0.bytes ≤ 512 := by
  have h0 := Tryz.bytes_Charge
  rw [hi] at h0
  simpa using h0
 have HI := hd hi; have HZ0 := hd hz0; have HZ1 := hd hz1; have HZ2 := hd hz2
 clear hi hz0 hz1 hz2
 have H := hd h
 have hlen := Jz hs
 have HS := hd hs
 obtain ⟨a, cap, rfl⟩ := Jo h
 clear h hs
 go_enter Tryz.func106, Tryz.ntmps106
 go_wp2_with (at_make; refine wpList_make_full _ rfl (.tmp 9) (.tmp 9) 41 rfl w.heap.size 137 i0 (.agg #[Ja, Ja, (), (), ()]) 5 Tryz.underlying41 HI.out HZ0.out HZ1.out _ _ _ _ xs.length rfl rfl rfl rfl (by have h9 := Nat.mul_le_mul HZ2.out hlen; have h8 := Nat.mul_le_mul hlen HZ2.out; omega) (by unfold maxLen; omega) (Ed _) ?_)
 intro w1 hown0 hg0
 have hown1 : Kt 137 Jp w1 (Kg w) (.slice (some ⟨w, 0, none⟩) xs.length xs.length) (List.replicate xs.length Jp.d) := Yu (z := #[.int .i64 0, .int .i64 0, .slice none 0 0, .slice none 0 0, .slice none 0 0]) Jj rfl (tCharge_zero w1) (Ed _) hown0
 have hbel1 := (Eh w.heap.size w).grown hg0 (Ed _) (fun k hk => by cases hk)
 clear hown0 hg0
 go_wp2
 go_loopw [13] (fun i wr => ∃ k : Nat, k ≤ xs.length ∧ i = .int .i64 k ∧ Kt 137 Jp wr (Kg w) (.slice (some ⟨w, 0, none⟩) xs.length xs.length) (xs.take k ++ List.replicate (xs.length - k) Jp.d) ∧ Below w w wr) (fun i _ => xs.length - (intOf i).toNat)
 case atStart => exact ⟨0, Ef _, rfl, by simpa using hown1, hbel1⟩
 case round =>
  obtain ⟨k, hk, rfl, hown, hbel⟩ := hrel
  by_cases hlt : k < xs.length
  ·
   have HSET := hd (Yx (d := Jp.d) hlt)
   have HKL : Hid (k < (xs.take k ++ List.replicate (xs.length - k) Jp.d).length) := hd (by rw [Vc hk]; exact hlt)
   have HLL := hd (Vc (d := Jp.d) hk)
   have i1 : (0 : Int) ≤ (k : Int) := by omega
   have i2 : (k : Int) < (xs.length : Int) := by omega
   have hzx := Kz HS.out hlt
   obtain ⟨b, off, cap', cs, hv, hbl, hcs, hR⟩ := Km (Jc Jj H.out hbel) hlt
   simp only [Eg] at hv
   obtain ⟨rfl, _, rfl⟩ := hv
   obtain ⟨hme, hFg, hgl, cj, Fj, Lc, hrow, hLc, hO, hFj, hput⟩ := Vh Jj hown HKL.out
   clear hme
   clear hown1 hbel1
   generalize xs.getD k Jp.d = x at *
   generalize xs.take k ++ List.replicate (xs.length - k) Jp.d = ys at *
   obtain ⟨a0, a1, x2, x3, x4⟩ := x
   obtain ⟨v2, v3, v4, hR'⟩ := Ug hR
   obtain ⟨rfl, h2, h3, h4⟩ := hR'
   have p0 : wr.cell? ⟨b, off + k * 5, none⟩ = some (Value.int .i64 a0) := hcs 0 (by decide)
   have p1 : wr.cell? ⟨b, off + k * 5 + 1, none⟩ = some (Value.int .i64 a1) := hcs 1 (by decide)
   have p2 : wr.cell? ⟨b, off + k * 5 + 2, none⟩ = some (v2) := hcs 2 (by decide)
   have p3 : wr.cell? ⟨b, off + k * 5 + 3, none⟩ = some (v3) := hcs 3 (by decide)
   have p4 : wr.cell? ⟨b, off + k * 5 + 4, none⟩ = some (v4) := hcs 4 (by decide)
   rw [Yn] at hzx
   have S2 := hd (show zL Jf x2 ≤ 1048576 by omega)
   have S3 := hd (show zL Jf x3 ≤ 1048576 by omega)
   have S4 := hd (show zL Jf x4 ≤ 1048576 by omega)
   obtain ⟨sa2, sc2, rfl⟩ := Jo h2
   obtain ⟨sa3, sc3, rfl⟩ := Jo h3
   obtain ⟨sa4, sc4, rfl⟩ := Jo h4
   have HC := hd (fun w g2 g3 g4 => copyCharge_P a0 a1 (.slice sa2 x2.length sc2) (.slice sa3 x3.length sc3) (.slice sa4 x4.length sc4) x2 x3 x4 w g2 g3 g4 S2.out S3.out S4.out)
   have G2 := hd h2
   have G3 := hd h3
   have G4 := hd h4
   clear hcs hzx h2 h3 h4
   have hal : Below wr wr (wr.alloc (.cells #[a0, a1, .slice sa2 x2.length sc2, .slice sa3 x3.length sc3, .slice sa4 x4.length sc4] 137)) := (Eh _ _).alloc (Ed _) _
   go_wp2_with fail
   generalize wr.alloc (.cells #[a0, a1, .slice sa2 x2.length sc2, .slice sa3 x3.length sc3, .slice sa4 x4.length sc4] 137) = W2 at *
   refine (HC.out _ (Jc Jb G2.out hal) (Jc Jb G3.out hal) (Jc Jb G4.out hal)).mono ?_
   rintro e w2 ⟨cv, rfl, ow0, b20⟩
   have ow : Jp.O w2 (Kg wr) cv _ := Jj.mono ow0 (fun b hb => Nat.le_trans hal.size hb)
   have b2 := hal.trans (b20.mono hal.size)
   clear ow0 b20 hal
   replace ow := Jj.lt ow
   have ow2 := ow
   obtain ⟨u2, u3, u4, K2, K3, K4, rfl, o2, o3, o4, _, _, _, _, _, _⟩ := tCharge_O ow2
   obtain ⟨ua2, uc2, rfl⟩ := Js o2
   obtain ⟨ua3, uc3, rfl⟩ := Js o3
   obtain ⟨ua4, uc4, rfl⟩ := Js o4
   clear o2 o3 o4
   have r0 := Kv (G := fun _ => False) hrow (Kj b2) (fun _ _ => not_false)
   rw [HLL.out] at r0
   have q0 : ∃ x, w2.cell? ⟨w, k * 5, none⟩ = some x := zq r0 (k * 5) (by have := HKL.out; rw [HLL.out] at this; show _ < xs.length * 5; omega)
   obtain ⟨y0, q0⟩ := q0
   have f0 := Uy r0 (k * 5)
   have q1 : ∃ x, w2.cell? ⟨w, k * 5 + 1, none⟩ = some x := zq r0 (k * 5 + 1) (by have := HKL.out; rw [HLL.out] at this; show _ < xs.length * 5; omega)
   obtain ⟨y1, q1⟩ := q1
   have f1 := Uy r0 (k * 5 + 1)
   have q2 : ∃ x, w2.cell? ⟨w, k * 5 + 2, none⟩ = some x := zq r0 (k * 5 + 2) (by have := HKL.out; rw [HLL.out] at this; show _ < xs.length * 5; omega)
   obtain ⟨y2, q2⟩ := q2
   have f2 := Uy r0 (k * 5 + 2)
   have q3 : ∃ x, w2.cell? ⟨w, k * 5 + 3, none⟩ = some x := zq r0 (k * 5 + 3) (by have := HKL.out; rw [HLL.out] at this; show _ < xs.length * 5; omega)
   obtain ⟨y3, q3⟩ := q3
   have f3 := Uy r0 (k * 5 + 3)
   have q4 : ∃ x, w2.cell? ⟨w, k * 5 + 4, none⟩ = some x := zq r0 (k * 5 + 4) (by have := HKL.out; rw [HLL.out] at this; show _ < xs.length * 5; omega)
   obtain ⟨y4, q4⟩ := q4
   have f4 := Uy r0 (k * 5 + 4)
   have b3 := hbel.trans (b2.mono hbel.size)
   have B3 := hd (((((b3.setCell (p := ⟨w, k * 5, none⟩) (Ed _) a0).setCell (p := ⟨w, k * 5 + 1, none⟩) (Ed _) a1).setCell (p := ⟨w, k * 5 + 2, none⟩) (Ed _) (.slice ua2 x2.length uc2)).setCell (p := ⟨w, k * 5 + 3, none⟩) (Ed _) (.slice ua3 x3.length uc3)).setCell (p := ⟨w, k * 5 + 4, none⟩) (Ed _) (.slice ua4 x4.length uc4))
   have hT : Jy (fun b => b = w.heap.size ∨ Fj b ∨ wr.heap.size ≤ b) wr (((((w2.setCell ⟨w, k * 5, none⟩ a0).setCell ⟨w, k * 5 + 1, none⟩ a1).setCell ⟨w, k * 5 + 2, none⟩ (.slice ua2 x2.length uc2)).setCell ⟨w, k * 5 + 3, none⟩ (.slice ua3 x3.length uc3)).setCell ⟨w, k * 5 + 4, none⟩ (.slice ua4 x4.length uc4)) := ((((((Kj b2).trans (Jh (j := k * 5) (u := .int .i64 a0) (Or.inl rfl))).trans (Jh (j := k * 5 + 1) (u := .int .i64 a1) (Or.inl rfl))).trans (Jh (j := k * 5 + 2) (u := .slice ua2 x2.length uc2) (Or.inl rfl))).trans (Jh (j := k * 5 + 3) (u := .slice ua3 x3.length uc3) (Or.inl rfl))).trans (Jh (j := k * 5 + 4) (u := .slice ua4 x4.length uc4) (Or.inl rfl)))
   have hT2 : Jy (fun b => b = w.heap.size) w2 (((((w2.setCell ⟨w, k * 5, none⟩ a0).setCell ⟨w, k * 5 + 1, none⟩ a1).setCell ⟨w, k * 5 + 2, none⟩ (.slice ua2 x2.length uc2)).setCell ⟨w, k * 5 + 3, none⟩ (.slice ua3 x3.length uc3)).setCell ⟨w, k * 5 + 4, none⟩ (.slice ua4 x4.length uc4)) := ((((((Jy.refl (fun b => b = w.heap.size) _).trans (Jh (G := fun b => b = w.heap.size) (j := k * 5) (u := .int .i64 a0) rfl)).trans (Jh (G := fun b => b = w.heap.size) (j := k * 5 + 1) (u := .int .i64 a1) rfl)).trans (Jh (G := fun b => b = w.heap.size) (j := k * 5 + 2) (u := .slice ua2 x2.length uc2) rfl)).trans (Jh (G := fun b => b = w.heap.size) (j := k * 5 + 3) (u := .slice ua3 x3.length uc3) rfl)).trans (Jh (G := fun b => b = w.heap.size) (j := k * 5 + 4) (u := .slice ua4 x4.length uc4) rfl))
   have hO2 := Jj.turn ow hT2 (fun b h1 h2 => by have := h1.1; simp only [Kg] at this; omega)
   have r9 := (Uz (Uz (Uz (Uz (Uz r0 (k * 5) a0).1 (k * 5 + 1) a1).1 (k * 5 + 2) (.slice ua2 x2.length uc2)).1 (k * 5 + 3) (.slice ua3 x3.length uc3)).1 (k * 5 + 4) (.slice ua4 x4.length uc4)).1
   have hLl : Lc.length = xs.length * 5 := r0.1
   have hst := hd (hput (((((w2.setCell ⟨w, k * 5, none⟩ a0).setCell ⟨w, k * 5 + 1, none⟩ a1).setCell ⟨w, k * 5 + 2, none⟩ (.slice ua2 x2.length uc2)).setCell ⟨w, k * 5 + 3, none⟩ (.slice ua3 x3.length uc3)).setCell ⟨w, k * 5 + 4, none⟩ (.slice ua4 x4.length uc4)) (((((Lc.set (k * 5) a0).set (k * 5 + 1) a1).set (k * 5 + 2) (.slice ua2 x2.length uc2)).set (k * 5 + 3) (.slice ua3 x3.length uc3)).set (k * 5 + 4) (.slice ua4 x4.length uc4)) [a0, a1, .slice ua2 x2.length uc2, .slice ua3 x3.length uc3, .slice ua4 x4.length uc4] _ (a0, a1, x2, x3, x4) (by rw [HLL.out]; exact r9) (fun p hp => by have hp2 : p < k * 5 ∨ k * 5 + 5 ≤ p := hp; rw [Ea (by omega)]; rw [Ea (by omega)]; rw [Ea (by omega)]; rw [Ea (by omega)]; rw [Ea (by omega)]) (fun i hi => by have hi' : i < 5 := hi; match i, hi' with | 0, _ => (show ((((((Lc.set (k * 5) a0).set (k * 5 + 1) a1).set (k * 5 + 2) (.slice ua2 x2.length uc2)).set (k * 5 + 3) (.slice ua3 x3.length uc3)).set (k * 5 + 4) (.slice ua4 x4.length uc4)))[k * 5]? = _; rw [Ea (by omega)]; rw [Ea (by omega)]; rw [Ea (by omega)]; rw [Ea (by omega)]; rw [Eb (by first | omega | (simp only [List.length_set]; omega))]; rfl) | 1, _ => (show ((((((Lc.set (k * 5) a0).set (k * 5 + 1) a1).set (k * 5 + 2) (.slice ua2 x2.length uc2)).set (k * 5 + 3) (.slice ua3 x3.length uc3)).set (k * 5 + 4) (.slice ua4 x4.length uc4)))[k * 5 + 1]? = _; rw [Ea (by omega)]; rw [Ea (by omega)]; rw [Ea (by omega)]; rw [Eb (by first | omega | (simp only [List.length_set]; omega))]; rfl) | 2, _ => (show ((((((Lc.set (k * 5) a0).set (k * 5 + 1) a1).set (k * 5 + 2) (.slice ua2 x2.length uc2)).set (k * 5 + 3) (.slice ua3 x3.length uc3)).set (k * 5 + 4) (.slice ua4 x4.length uc4)))[k * 5 + 2]? = _; rw [Ea (by omega)]; rw [Ea (by omega)]; rw [Eb (by first | omega | (simp only [List.length_set]; omega))]; rfl) | 3, _ => (show ((((((Lc.set (k * 5) a0).set (k * 5 + 1) a1).set (k * 5 + 2) (.slice ua2 x2.length uc2)).set (k * 5 + 3) (.slice ua3 x3.length uc3)).set (k * 5 + 4) (.slice ua4 x4.length uc4)))[k * 5 + 3]? = _; rw [Ea (by omega)]; rw [Eb (by first | omega | (simp only [List.length_set]; omega))]; rfl) | 4, _ => (show ((((((Lc.set (k * 5) a0).set (k * 5 + 1) a1).set (k * 5 + 2) (.slice ua2 x2.length uc2)).set (k * 5 + 3) (.slice ua3 x3.length uc3)).set (k * 5 + 4) (.slice ua4 x4.length uc4)))[k * 5 + 4]? = _; rw [Eb (by first | omega | (simp only [List.length_set]; omega))]; rfl)) hO2 (fun b hb => ⟨Nat.le_trans hbel.size hb.1, Or.inr hb.1⟩) hT)
   have hst2 : Kt 137 Jp (((((w2.setCell ⟨w, k * 5, none⟩ a0).setCell ⟨w, k * 5 + 1, none⟩ a1).setCell ⟨w, k * 5 + 2, none⟩ (.slice ua2 x2.length uc2)).setCell ⟨w, k * 5 + 3, none⟩ (.slice ua3 x3.length uc3)).setCell ⟨w, k * 5 + 4, none⟩ (.slice ua4 x4.length uc4)) (Kg w) (.slice (some ⟨w, 0, none⟩) xs.length xs.length) (xs.take (k + 1) ++ List.replicate (xs.length - (k + 1)) Jp.d) := by have := hst.out; rw [HSET.out] at this; exact this
   have HST := hd hst2
   clear hst hst2 hT hT2 hO2 r9 r0 hrow hO hput hown hbel b2 ow b3 hLl hLc hFj
   go_wp2
   go_roundw
   case rel => exact ⟨k + 1, by omega, by go_num, HST.out, B3.out⟩
   case measure => simp [intOf]; omega
  ·
   obtain rfl : k = xs.length := by omega
   have HE : Hid (xs.take xs.length ++ List.replicate (xs.length - xs.length) Jp.d = xs) := hd (by simp)
   rw [HE.out] at hown
   go_wp2
   go_ret
   exact ⟨_, rfl, hown, hbel⟩
set_option maxHeartbeats 16000000 in
theorem copyFinished_P (a0 a1 a4 a5 : Int) (v2 v3 v6 : Value) (x2 : List (Int × Int × Int)) (x3 : List Int) (x6 : List (Int × List Int)) (w : World) (h2 : Kc Jl w v2 x2) (h3 : Kc Jf w v3 x3) (h6 : Kc Kb w v6 x6) (s2 : zL Jl x2 ≤ 1048576) (s3 : zL Jf x3 ≤ 1048576) (s6 : zL Kb x6 ≤ 1048576) :
  Calls Tryz.prog 105 #[.agg #[a0, a1, v2, v3, a4, a5, v6]] w (Yc Jk (fun cs => .agg cs.toArray) w ((a0, a1, x2, x3), a4, a5, x6)) := by
 obtain ⟨c2, k2, rfl⟩ := Jo h2
 have H2 := hd h2; have S2 := hd s2; have N2 := hd (Jz s2)
 obtain ⟨c3, k3, rfl⟩ := Jo h3
 have H3 := hd h3; have S3 := hd s3; have N3 := hd (Jz s3)
 obtain ⟨c6, k6, rfl⟩ := Jo h6
 have H6 := hd h6; have S6 := hd s6; have N6 := hd (Jz s6)
 clear h2 s2 h3 s3 h6 s6
 have d := hd (show Below w w ((w.alloc (.cells #[a0, a1, .slice c2 x2.length k2, .slice c3 x3.length k3, a4, a5, .slice c6 x6.length k6] 136)).alloc (.cells #[Ja, Ja, (), (), Ja, Ja, ()] 136)) from (((Eh _ w).alloc (Ed _) _).alloc (by simp) _))
 have B0 : Hid (((w.alloc (.cells #[a0, a1, .slice c2 x2.length k2, .slice c3 x3.length k3, a4, a5, .slice c6 x6.length k6] 136)).alloc (.cells #[Ja, Ja, (), (), Ja, Ja, ()] 136)).heap[w.heap.size]? = some (.cells #[a0, a1, .slice c2 x2.length k2, .slice c3 x3.length k3, a4, a5, .slice c6 x6.length k6] 136 (0, 0))) := hd (by
  rw [Below.heap_alloc _ _ _ (by simp)]
  exact Uw w _)
 have B1 : Hid (((w.alloc (.cells #[a0, a1, .slice c2 x2.length k2, .slice c3 x3.length k3, a4, a5, .slice c6 x6.length k6] 136)).alloc (.cells #[Ja, Ja, (), (), Ja, Ja, ()] 136)).heap[(w.heap.size + 1)]? = some (.cells #[Ja, Ja, (), (), Ja, Ja, ()] 136 (0, 0))) := hd (by
  have := Uw (w.alloc (.cells #[a0, a1, .slice c2 x2.length k2, .slice c3 x3.length k3, a4, a5, .slice c6 x6.length k6] 136)) (.cells #[Ja, Ja, (), (), Ja, Ja, ()] 136)
  simpa only [Ux] using this)
 have YW : Hid (w.heap.size + 2 ≤ ((w.alloc (.cells #[a0, a1, .slice c2 x2.length k2, .slice c3 x3.length k3, a4, a5, .slice c6 x6.length k6] 136)).alloc (.cells #[Ja, Ja, (), (), Ja, Ja, ()] 136)).heap.size) := hd (by simp [Ux])
 go_enter Tryz.func105, Tryz.ntmps105
 go_wp2_with fail
 generalize ((w.alloc (.cells #[a0, a1, .slice c2 x2.length k2, .slice c3 x3.length k3, a4, a5, .slice c6 x6.length k6] 136)).alloc (.cells #[Ja, Ja, (), (), Ja, Ja, ()] 136)) = W at *
 refine (copyQuery_P a0 a1 (.slice c2 x2.length k2) (.slice c3 x3.length k3) x2 x3 W (Jc Jq H2.out d.out) (Jc Jb H3.out d.out) S2.out S3.out).mono ?_
 rintro e Wq0 ⟨cs, rfl, ow, c⟩
 replace ow := Ym.lt ow
 obtain ⟨u2, u3, F2, F3, rfl, o2, o3, q2, q3, dj2_3⟩ := tQuery_O ow
 obtain ⟨ua2, uc2, rfl⟩ := Js o2
 obtain ⟨ua3, uc3, rfl⟩ := Js o3
 have Q2 : Hid (∀ b, F2 b → W.heap.size ≤ b ∧ b < Wq0.heap.size) := hd (fun b h => q2 b h)
 have P2 := hd o2
 have DJ2_3 := hd dj2_3
 have Q3 : Hid (∀ b, F3 b → W.heap.size ≤ b ∧ b < Wq0.heap.size) := hd (fun b h => q3 b h)
 have P3 := hd o3
 clear ow o2 q2 o3 q3 dj2_3
 replace B0 := zb c B0
 replace B1 := zb c B1
 replace d := zD d c
 have Z_Wq0 := hd (show W.heap.size ≤ Wq0.heap.size from c.size)
 clear c
 have cp_B0_0 := cls7 B0.out
 have cp_B1_0 := cls7 B1.out
 have f_B0_0 := Ut Wq0 _ 0 _ _ B0.out
 have f_B0_1 := Ut Wq0 _ 1 _ _ B0.out
 have f_B0_2 := Ut Wq0 _ 2 _ _ B0.out
 have f_B0_3 := Ut Wq0 _ 3 _ _ B0.out
 have f_B0_4 := Ut Wq0 _ 4 _ _ B0.out
 have f_B0_5 := Ut Wq0 _ 5 _ _ B0.out
 have f_B0_6 := Ut Wq0 _ 6 _ _ B0.out
 have tt := ts4 Wq0 w.heap.size a0 a1 (.slice ua2 x2.length uc2) (.slice ua3 x3.length uc3)
 have r := (Uv _ w.heap.size 3 _ _ (.slice ua3 x3.length uc3) (Uv _ w.heap.size 2 _ _ (.slice ua2 x2.length uc2) (Uv _ w.heap.size 1 _ _ a1 (Uv _ w.heap.size 0 _ _ a0 B0.out))))
 simp at r
 have y0 := YW.out
 have y1 := Z_Wq0.out
 have KB0 : Hid (((((Wq0.setCell ⟨w, 0, none⟩ a0).setCell ⟨w, 1, none⟩ a1).setCell ⟨w, 2, none⟩ (.slice ua2 x2.length uc2)).setCell ⟨w, 3, none⟩ (.slice ua3 x3.length uc3)).heap[w.heap.size]? = some (.cells #[a0, a1, .slice ua2 x2.length uc2, .slice ua3 x3.length uc3, a4, a5, .slice c6 x6.length k6] 136 (0, 0))) := hd r
 have KB1 := hd ((tt.block (w.heap.size + 1) (Array.getElem?_eq_some_iff.1 B1.out).1 (fun h => by omega)).trans B1.out)
 have KP2 := zt Jq P2 tt (fun b h1 h2 => by have r1 := Q2.out b h1; omega)
 have KP3 := zt Jb P3 tt (fun b h1 h2 => by have r1 := Q3.out b h1; omega)
 have Kd := hd (Jr d.out tt (fun b h => by omega) d.out.size)
 have KZ := hd (show Wq0.heap.size ≤ ((((Wq0.setCell ⟨w, 0, none⟩ a0).setCell ⟨w, 1, none⟩ a1).setCell ⟨w, 2, none⟩ (.slice ua2 x2.length uc2)).setCell ⟨w, 3, none⟩ (.slice ua3 x3.length uc3)).heap.size from tt.size)
 clear tt r y0 y1
 have kk6 := (Uu ((((Wq0.setCell ⟨w, 0, none⟩ a0).setCell ⟨w, 1, none⟩ a1).setCell ⟨w, 2, none⟩ (.slice ua2 x2.length uc2)).setCell ⟨w, 3, none⟩ (.slice ua3 x3.length uc3)) _ 6 _ _ _ KB0.out).trans (show _ = some (Value.slice c6 x6.length k6) from rfl)
 go_wp2_with fail
 clear cp_B0_0 cp_B1_0 f_B0_0 f_B0_1 f_B0_2 f_B0_3 f_B0_4 f_B0_5 f_B0_6 kk6
 generalize ((((Wq0.setCell ⟨w, 0, none⟩ a0).setCell ⟨w, 1, none⟩ a1).setCell ⟨w, 2, none⟩ (.slice ua2 x2.length uc2)).setCell ⟨w, 3, none⟩ (.slice ua3 x3.length uc3)) = V0 at *
 replace B0 := KB0; replace B1 := KB1; replace d := Kd; replace P2 := KP2; replace P3 := KP3
 clear KB0 KB1 Kd KP2 KP3
 have Z_V0 := KZ
 clear KZ
 refine (copyRows_any (.slice c6 x6.length k6) x6 V0 (Jc Jv H6.out d.out) S6.out).mono ?_
 rintro e Wq1 ⟨u, rfl, o1, c⟩
 replace o1 := Ki Jv o1
 obtain ⟨ua6, uc6, rfl⟩ := Js o1
 have Q6 : Hid (∀ b, (Kg V0 b ∧ b < Wq1.heap.size) → V0.heap.size ≤ b ∧ b < Wq1.heap.size) := hd (fun b h => h)
 have P6 := hd o1
 clear o1
 replace B0 := zb c B0
 replace B1 := zb c B1
 replace P2 := zf Jq P2 c
 replace P3 := zf Jb P3 c
 replace d := zD d c
 have Z_Wq1 := hd (show V0.heap.size ≤ Wq1.heap.size from c.size)
 clear c
 obtain ⟨p_B0_0, p_B0_1, p_B0_2, p_B0_3, p_B0_4, p_B0_5, p_B0_6⟩ := cls7 B0.out
 obtain ⟨p_B1_0, p_B1_1, p_B1_2, p_B1_3, p_B1_4, p_B1_5, p_B1_6⟩ := cls7 B1.out
 have f_B0_0 := Ut Wq1 _ 0 _ _ B0.out
 have f_B0_1 := Ut Wq1 _ 1 _ _ B0.out
 have f_B0_2 := Ut Wq1 _ 2 _ _ B0.out
 have f_B0_3 := Ut Wq1 _ 3 _ _ B0.out
 have f_B0_4 := Ut Wq1 _ 4 _ _ B0.out
 have f_B0_5 := Ut Wq1 _ 5 _ _ B0.out
 have f_B0_6 := Ut Wq1 _ 6 _ _ B0.out
 have f_B1_0 := Ut Wq1 _ 0 _ _ B1.out
 have f_B1_1 := Ut Wq1 _ 1 _ _ B1.out
 have f_B1_2 := Ut Wq1 _ 2 _ _ B1.out
 have f_B1_3 := Ut Wq1 _ 3 _ _ B1.out
 have f_B1_4 := Ut Wq1 _ 4 _ _ B1.out
 have f_B1_5 := Ut Wq1 _ 5 _ _ B1.out
 have f_B1_6 := Ut Wq1 _ 6 _ _ B1.out
 have tt : Jy (fun b => b = w.heap.size) Wq1 (Wq1.setCell ⟨w, 6, none⟩ (.slice ua6 x6.length uc6)) := ((Jy.refl (fun b => b = w.heap.size) Wq1).trans (Jh (G := fun b => b = w.heap.size) (g := w.heap.size) (j := 6) (u := .slice ua6 x6.length uc6) rfl))
 have r := (Uv _ w.heap.size 6 _ _ (.slice ua6 x6.length uc6) B0.out)
 simp at r
 have y0 := YW.out
 have y1 := Z_Wq0.out
 have y2 := Z_V0.out
 have y3 := Z_Wq1.out
 have KB0 : Hid ((Wq1.setCell ⟨w, 6, none⟩ (.slice ua6 x6.length uc6)).heap[w.heap.size]? = some (.cells #[a0, a1, .slice ua2 x2.length uc2, .slice ua3 x3.length uc3, a4, a5, .slice ua6 x6.length uc6] 136 (0, 0))) := hd r
 have KB1 := hd ((tt.block (w.heap.size + 1) (Array.getElem?_eq_some_iff.1 B1.out).1 (fun h => by omega)).trans B1.out)
 have KP2 := zt Jq P2 tt (fun b h1 h2 => by have r1 := Q2.out b h1; omega)
 have KP3 := zt Jb P3 tt (fun b h1 h2 => by have r1 := Q3.out b h1; omega)
 have KP6 := zt Jv P6 tt (fun b h1 h2 => by have r1 := Q6.out b h1; omega)
 have Kd := hd (Jr d.out tt (fun b h => by omega) d.out.size)
 have KZ := hd (show Wq1.heap.size ≤ (Wq1.setCell ⟨w, 6, none⟩ (.slice ua6 x6.length uc6)).heap.size from tt.size)
 clear tt r y0 y1 y2 y3
 generalize hW : (Wq1.setCell ⟨w, 6, none⟩ (.slice ua6 x6.length uc6)) = WF at *
 have c0_ := cr 0 a0 KB0.out
 have c1_ := cr 1 a1 KB0.out
 have c2_ := cr 2 (Value.slice ua2 x2.length uc2) KB0.out
 have c3_ := cr 3 (Value.slice ua3 x3.length uc3) KB0.out
 have c4_ := cr 4 a4 KB0.out
 have c5_ := cr 5 a5 KB0.out
 have c6_ := cr 6 (Value.slice ua6 x6.length uc6) KB0.out
 have z0_ := cr 0 Ja KB1.out
 have g0_ := Ut WF _ 0 _ _ KB1.out
 have z1_ := cr 1 Ja KB1.out
 have g1_ := Ut WF _ 1 _ _ KB1.out
 have z2_ := cr 2 () KB1.out
 have g2_ := Ut WF _ 2 _ _ KB1.out
 have z3_ := cr 3 () KB1.out
 have g3_ := Ut WF _ 3 _ _ KB1.out
 have z4_ := cr 4 Ja KB1.out
 have g4_ := Ut WF _ 4 _ _ KB1.out
 have z5_ := cr 5 Ja KB1.out
 have g5_ := Ut WF _ 5 _ _ KB1.out
 have z6_ := cr 6 () KB1.out
 have g6_ := Ut WF _ 6 _ _ KB1.out
 have tt := ts7 WF (w.heap.size + 1) a0 a1 (.slice ua2 x2.length uc2) (.slice ua3 x3.length uc3) a4 a5 (.slice ua6 x6.length uc6)
 have r := st7 KB1.out a0 a1 (.slice ua2 x2.length uc2) (.slice ua3 x3.length uc3) a4 a5 (.slice ua6 x6.length uc6)
 try simp at r
 have e0_ := (Uu _ (w.heap.size + 1) 0 _ _ _ r).trans (show _ = some (Value.int .i64 a0) from rfl)
 have e1_ := (Uu _ (w.heap.size + 1) 1 _ _ _ r).trans (show _ = some (Value.int .i64 a1) from rfl)
 have e2_ := (Uu _ (w.heap.size + 1) 2 _ _ _ r).trans (show _ = some (Value.slice ua2 x2.length uc2) from rfl)
 have e3_ := (Uu _ (w.heap.size + 1) 3 _ _ _ r).trans (show _ = some (Value.slice ua3 x3.length uc3) from rfl)
 have e4_ := (Uu _ (w.heap.size + 1) 4 _ _ _ r).trans (show _ = some (Value.int .i64 a4) from rfl)
 have e5_ := (Uu _ (w.heap.size + 1) 5 _ _ _ r).trans (show _ = some (Value.int .i64 a5) from rfl)
 have e6_ := (Uu _ (w.heap.size + 1) 6 _ _ _ r).trans (show _ = some (Value.slice ua6 x6.length uc6) from rfl)
 have y0 := YW.out
 have y1 := Z_Wq0.out
 have y2 := Z_V0.out
 have y3 := Z_Wq1.out
 have yk := KZ.out
 have PFP2 := zt Jq KP2 tt (fun b h1 h2 => by have r1 := Q2.out b h1; omega)
 have PFP3 := zt Jb KP3 tt (fun b h1 h2 => by have r1 := Q3.out b h1; omega)
 have PFP6 := zt Jv KP6 tt (fun b h1 h2 => by have r1 := Q6.out b h1; omega)
 have DF := hd (Jr Kd.out tt (fun b h => by omega) Kd.out.size)
 clear tt r yk y0 y1 y2 y3
 subst hW
 go_wp2
 have y0 := YW.out
 have y1 := Z_Wq0.out
 have y2 := Z_V0.out
 have y3 := Z_Wq1.out
 refine bodyPost_ret (v := .agg #[a0, a1, .slice ua2 x2.length uc2, .slice ua3 x3.length uc3, a4, a5, .slice ua6 x6.length uc6]) ?_ rfl ⟨[a0, a1, .slice ua2 x2.length uc2, .slice ua3 x3.length uc3, a4, a5, .slice ua6 x6.length uc6], rfl, Xy PFP2.out PFP3.out PFP6.out (fun b h => by have r1 := Q2.out b h; show w.heap.size ≤ b; omega) (fun b h => by have r1 := Q3.out b h; show w.heap.size ≤ b; omega) (fun b h => by have r1 := Q6.out b h; show w.heap.size ≤ b; omega) DJ2_3.out (fun b h1 h2 => by have r1 := Q2.out b h1; have r2 := Q6.out b h2; omega) (fun b h1 h2 => by have r1 := Q3.out b h1; have r2 := Q6.out b h2; omega), DF.out⟩
 simp [results, Tryz.f105, go_sem, e0_, e1_, e2_, e3_, e4_, e5_, e6_]
set_option maxHeartbeats 8000000 in
theorem copyEachFinished (v : Value) (xs : List ((Int × Int × List (Int × Int × Int) × List Int) × Int × Int × List (Int × List Int))) (w : World) (h : Kc Jk w v xs) (hs : zL Jk xs ≤ 1048576) :
  Calls Tryz.prog 104 #[v, .func (.func 105) #[] #[]] w (Yi 136 Jk w xs) := by
 obtain ⟨i0, hi, hz0, hz1⟩ : ∃ i0, Tryz.prog.info? 136 = some i0 ∧ i0.zero = some (.agg #[Ja, Ja, (), (), Ja, Ja, ()]) ∧ i0.size = 7 := by
  have h0 := Tryz.info_Finished
  cases q : Tryz.prog.info? 136 with
  | none => rw [q] at h0; simp at h0
  | some i => rw [q] at h0; simp only [Option.map_some, Option.some.injEq, Prod.mk.injEq] at h0; exact ⟨i, rfl, h0.1, h0.2⟩
 have hz2 : i0.bytes ≤ 512 := by
  have h0 := Tryz.bytes_Finished
  rw [hi] at h0
  simpa using h0
 have HI := hd hi; have HZ0 := hd hz0; have HZ1 := hd hz1; have HZ2 := hd hz2
 clear hi hz0 hz1 hz2
 have H := hd h
 have hlen := Jz hs
 have HS := hd hs
 obtain ⟨a, cap, rfl⟩ := Jo h
 clear h hs
 go_enter Tryz.func104, Tryz.ntmps104
 go_wp2_with (at_make; refine wpList_make_full _ rfl (.tmp 9) (.tmp 9) 40 rfl w.heap.size 136 i0 (.agg #[Ja, Ja, (), (), Ja, Ja, ()]) 7 Tryz.underlying40 HI.out HZ0.out HZ1.out _ _ _ _ xs.length rfl rfl rfl rfl (by have h9 := Nat.mul_le_mul HZ2.out hlen; have h8 := Nat.mul_le_mul hlen HZ2.out; omega) (by unfold maxLen; omega) (Ed _) ?_)
 intro w1 hown0 hg0
 have hown1 : Kt 136 Jk w1 (Kg w) (.slice (some ⟨w, 0, none⟩) xs.length xs.length) (List.replicate xs.length Jk.d) := Yu (z := #[.int .i64 0, .int .i64 0, .slice none 0 0, .slice none 0 0, .int .i64 0, .int .i64 0, .slice none 0 0]) Jg rfl (tFinished_zero w1) (Ed _) hown0
 have hbel1 := (Eh w.heap.size w).grown hg0 (Ed _) (fun k hk => by cases hk)
 clear hown0 hg0
 go_wp2
 go_loopw [13] (fun i wr => ∃ k : Nat, k ≤ xs.length ∧ i = .int .i64 k ∧ Kt 136 Jk wr (Kg w) (.slice (some ⟨w, 0, none⟩) xs.length xs.length) (xs.take k ++ List.replicate (xs.length - k) Jk.d) ∧ Below w w wr) (fun i _ => xs.length - (intOf i).toNat)
 case atStart => exact ⟨0, Ef _, rfl, by simpa using hown1, hbel1⟩
 case round =>
  obtain ⟨k, hk, rfl, hown, hbel⟩ := hrel
  by_cases hlt : k < xs.length
  ·
   have HSET := hd (Yx (d := Jk.d) hlt)
   have HKL : Hid (k < (xs.take k ++ List.replicate (xs.length - k) Jk.d).length) := hd (by rw [Vc hk]; exact hlt)
   have HLL := hd (Vc (d := Jk.d) hk)
   have i1 : (0 : Int) ≤ (k : Int) := by omega
   have i2 : (k : Int) < (xs.length : Int) := by omega
   have hzx := Kz HS.out hlt
   obtain ⟨b, off, cap', cs, hv, hbl, hcs, hR⟩ := Km (Jc Jg H.out hbel) hlt
   simp only [Eg] at hv
   obtain ⟨rfl, _, rfl⟩ := hv
   obtain ⟨hme, hFg, hgl, cj, Fj, Lc, hrow, hLc, hO, hFj, hput⟩ := Vh Jg hown HKL.out
   clear hme
   clear hown1 hbel1
   generalize xs.getD k Jk.d = x at *
   generalize xs.take k ++ List.replicate (xs.length - k) Jk.d = ys at *
   obtain ⟨⟨a0, a1, x2, x3⟩, a4, a5, x6⟩ := x
   obtain ⟨v2, v3, v6, hR'⟩ := Xb hR
   obtain ⟨rfl, h2, h3, h6⟩ := hR'
   have p0 : wr.cell? ⟨b, off + k * 7, none⟩ = some (Value.int .i64 a0) := hcs 0 (by decide)
   have p1 : wr.cell? ⟨b, off + k * 7 + 1, none⟩ = some (Value.int .i64 a1) := hcs 1 (by decide)
   have p2 : wr.cell? ⟨b, off + k * 7 + 2, none⟩ = some (v2) := hcs 2 (by decide)
   have p3 : wr.cell? ⟨b, off + k * 7 + 3, none⟩ = some (v3) := hcs 3 (by decide)
   have p4 : wr.cell? ⟨b, off + k * 7 + 4, none⟩ = some (Value.int .i64 a4) := hcs 4 (by decide)
   have p5 : wr.cell? ⟨b, off + k * 7 + 5, none⟩ = some (Value.int .i64 a5) := hcs 5 (by decide)
   have p6 : wr.cell? ⟨b, off + k * 7 + 6, none⟩ = some (v6) := hcs 6 (by decide)
   rw [Vs] at hzx
   have S2 := hd (show zL Jl x2 ≤ 1048576 by omega)
   have S3 := hd (show zL Jf x3 ≤ 1048576 by omega)
   have S6 := hd (show zL Kb x6 ≤ 1048576 by omega)
   obtain ⟨sa2, sc2, rfl⟩ := Jo h2
   obtain ⟨sa3, sc3, rfl⟩ := Jo h3
   obtain ⟨sa6, sc6, rfl⟩ := Jo h6
   have HC := hd (fun w g2 g3 g6 => copyFinished_P a0 a1 a4 a5 (.slice sa2 x2.length sc2) (.slice sa3 x3.length sc3) (.slice sa6 x6.length sc6) x2 x3 x6 w g2 g3 g6 S2.out S3.out S6.out)
   have G2 := hd h2
   have G3 := hd h3
   have G6 := hd h6
   clear hcs hzx h2 h3 h6
   have hal : Below wr wr (wr.alloc (.cells #[a0, a1, .slice sa2 x2.length sc2, .slice sa3 x3.length sc3, a4, a5, .slice sa6 x6.length sc6] 136)) := (Eh _ _).alloc (Ed _) _
   go_wp2_with fail
   generalize wr.alloc (.cells #[a0, a1, .slice sa2 x2.length sc2, .slice sa3 x3.length sc3, a4, a5, .slice sa6 x6.length sc6] 136) = W2 at *
   refine (HC.out _ (Jc Jq G2.out hal) (Jc Jb G3.out hal) (Jc Jv G6.out hal)).mono ?_
   rintro e w2 ⟨cv, rfl, ow0, b20⟩
   have ow : Jk.O w2 (Kg wr) cv _ := Jg.mono ow0 (fun b hb => Nat.le_trans hal.size hb)
   have b2 := hal.trans (b20.mono hal.size)
   clear ow0 b20 hal
   replace ow := Jg.lt ow
   have ow2 := ow
   obtain ⟨u2, u3, u6, K2, K3, K6, rfl, o2, o3, o6, _, _, _, _, _, _⟩ := tFinished_O ow2
   obtain ⟨ua2, uc2, rfl⟩ := Js o2
   obtain ⟨ua3, uc3, rfl⟩ := Js o3
   obtain ⟨ua6, uc6, rfl⟩ := Js o6
   clear o2 o3 o6
   have r0 := Kv (G := fun _ => False) hrow (Kj b2) (fun _ _ => not_false)
   rw [HLL.out] at r0
   have q0 : ∃ x, w2.cell? ⟨w, k * 7, none⟩ = some x := zq r0 (k * 7) (by have := HKL.out; rw [HLL.out] at this; show _ < xs.length * 7; omega)
   obtain ⟨y0, q0⟩ := q0
   have f0 := Uy r0 (k * 7)
   have q1 : ∃ x, w2.cell? ⟨w, k * 7 + 1, none⟩ = some x := zq r0 (k * 7 + 1) (by have := HKL.out; rw [HLL.out] at this; show _ < xs.length * 7; omega)
   obtain ⟨y1, q1⟩ := q1
   have f1 := Uy r0 (k * 7 + 1)
   have q2 : ∃ x, w2.cell? ⟨w, k * 7 + 2, none⟩ = some x := zq r0 (k * 7 + 2) (by have := HKL.out; rw [HLL.out] at this; show _ < xs.length * 7; omega)
   obtain ⟨y2, q2⟩ := q2
   have f2 := Uy r0 (k * 7 + 2)
   have q3 : ∃ x, w2.cell? ⟨w, k * 7 + 3, none⟩ = some x := zq r0 (k * 7 + 3) (by have := HKL.out; rw [HLL.out] at this; show _ < xs.length * 7; omega)
   obtain ⟨y3, q3⟩ := q3
   have f3 := Uy r0 (k * 7 + 3)
   have q4 : ∃ x, w2.cell? ⟨w, k * 7 + 4, none⟩ = some x := zq r0 (k * 7 + 4) (by have := HKL.out; rw [HLL.out] at this; show _ < xs.length * 7; omega)
   obtain ⟨y4, q4⟩ := q4
   have f4 := Uy r0 (k * 7 + 4)
   have q5 : ∃ x, w2.cell? ⟨w, k * 7 + 5, none⟩ = some x := zq r0 (k * 7 + 5) (by have := HKL.out; rw [HLL.out] at this; show _ < xs.length * 7; omega)
   obtain ⟨y5, q5⟩ := q5
   have f5 := Uy r0 (k * 7 + 5)
   have q6 : ∃ x, w2.cell? ⟨w, k * 7 + 6, none⟩ = some x := zq r0 (k * 7 + 6) (by have := HKL.out; rw [HLL.out] at this; show _ < xs.length * 7; omega)
   obtain ⟨y6, q6⟩ := q6
   have f6 := Uy r0 (k * 7 + 6)
   have b3 := hbel.trans (b2.mono hbel.size)
   have B3 := hd (((((((b3.setCell (p := ⟨w, k * 7, none⟩) (Ed _) a0).setCell (p := ⟨w, k * 7 + 1, none⟩) (Ed _) a1).setCell (p := ⟨w, k * 7 + 2, none⟩) (Ed _) (.slice ua2 x2.length uc2)).setCell (p := ⟨w, k * 7 + 3, none⟩) (Ed _) (.slice ua3 x3.length uc3)).setCell (p := ⟨w, k * 7 + 4, none⟩) (Ed _) a4).setCell (p := ⟨w, k * 7 + 5, none⟩) (Ed _) a5).setCell (p := ⟨w, k * 7 + 6, none⟩) (Ed _) (.slice ua6 x6.length uc6))
   have hT : Jy (fun b => b = w.heap.size ∨ Fj b ∨ wr.heap.size ≤ b) wr (((((((w2.setCell ⟨w, k * 7, none⟩ a0).setCell ⟨w, k * 7 + 1, none⟩ a1).setCell ⟨w, k * 7 + 2, none⟩ (.slice ua2 x2.length uc2)).setCell ⟨w, k * 7 + 3, none⟩ (.slice ua3 x3.length uc3)).setCell ⟨w, k * 7 + 4, none⟩ a4).setCell ⟨w, k * 7 + 5, none⟩ a5).setCell ⟨w, k * 7 + 6, none⟩ (.slice ua6 x6.length uc6)) := ((((((((Kj b2).trans (Jh (j := k * 7) (u := .int .i64 a0) (Or.inl rfl))).trans (Jh (j := k * 7 + 1) (u := .int .i64 a1) (Or.inl rfl))).trans (Jh (j := k * 7 + 2) (u := .slice ua2 x2.length uc2) (Or.inl rfl))).trans (Jh (j := k * 7 + 3) (u := .slice ua3 x3.length uc3) (Or.inl rfl))).trans (Jh (j := k * 7 + 4) (u := .int .i64 a4) (Or.inl rfl))).trans (Jh (j := k * 7 + 5) (u := .int .i64 a5) (Or.inl rfl))).trans (Jh (j := k * 7 + 6) (u := .slice ua6 x6.length uc6) (Or.inl rfl)))
   have hT2 : Jy (fun b => b = w.heap.size) w2 (((((((w2.setCell ⟨w, k * 7, none⟩ a0).setCell ⟨w, k * 7 + 1, none⟩ a1).setCell ⟨w, k * 7 + 2, none⟩ (.slice ua2 x2.length uc2)).setCell ⟨w, k * 7 + 3, none⟩ (.slice ua3 x3.length uc3)).setCell ⟨w, k * 7 + 4, none⟩ a4).setCell ⟨w, k * 7 + 5, none⟩ a5).setCell ⟨w, k * 7 + 6, none⟩ (.slice ua6 x6.length uc6)) := ((((((((Jy.refl (fun b => b = w.heap.size) _).trans (Jh (G := fun b => b = w.heap.size) (j := k * 7) (u := .int .i64 a0) rfl)).trans (Jh (G := fun b => b = w.heap.size) (j := k * 7 + 1) (u := .int .i64 a1) rfl)).trans (Jh (G := fun b => b = w.heap.size) (j := k * 7 + 2) (u := .slice ua2 x2.length uc2) rfl)).trans (Jh (G := fun b => b = w.heap.size) (j := k * 7 + 3) (u := .slice ua3 x3.length uc3) rfl)).trans (Jh (G := fun b => b = w.heap.size) (j := k * 7 + 4) (u := .int .i64 a4) rfl)).trans (Jh (G := fun b => b = w.heap.size) (j := k * 7 + 5) (u := .int .i64 a5) rfl)).trans (Jh (G := fun b => b = w.heap.size) (j := k * 7 + 6) (u := .slice ua6 x6.length uc6) rfl))
   have hO2 := Jg.turn ow hT2 (fun b h1 h2 => by have := h1.1; simp only [Kg] at this; omega)
   have r9 := (Uz (Uz (Uz (Uz (Uz (Uz (Uz r0 (k * 7) a0).1 (k * 7 + 1) a1).1 (k * 7 + 2) (.slice ua2 x2.length uc2)).1 (k * 7 + 3) (.slice ua3 x3.length uc3)).1 (k * 7 + 4) a4).1 (k * 7 + 5) a5).1 (k * 7 + 6) (.slice ua6 x6.length uc6)).1
   have hLl : Lc.length = xs.length * 7 := r0.1
   have hst := hd (hput (((((((w2.setCell ⟨w, k * 7, none⟩ a0).setCell ⟨w, k * 7 + 1, none⟩ a1).setCell ⟨w, k * 7 + 2, none⟩ (.slice ua2 x2.length uc2)).setCell ⟨w, k * 7 + 3, none⟩ (.slice ua3 x3.length uc3)).setCell ⟨w, k * 7 + 4, none⟩ a4).setCell ⟨w, k * 7 + 5, none⟩ a5).setCell ⟨w, k * 7 + 6, none⟩ (.slice ua6 x6.length uc6)) (((((((Lc.set (k * 7) a0).set (k * 7 + 1) a1).set (k * 7 + 2) (.slice ua2 x2.length uc2)).set (k * 7 + 3) (.slice ua3 x3.length uc3)).set (k * 7 + 4) a4).set (k * 7 + 5) a5).set (k * 7 + 6) (.slice ua6 x6.length uc6)) [a0, a1, .slice ua2 x2.length uc2, .slice ua3 x3.length uc3, a4, a5, .slice ua6 x6.length uc6] _ ((a0, a1, x2, x3), a4, a5, x6) (by rw [HLL.out]; exact r9) (fun p hp => by have hp2 : p < k * 7 ∨ k * 7 + 7 ≤ p := hp; rw [Ea (by omega)]; rw [Ea (by omega)]; rw [Ea (by omega)]; rw [Ea (by omega)]; rw [Ea (by omega)]; rw [Ea (by omega)]; rw [Ea (by omega)]) (fun i hi => by have hi' : i < 7 := hi; match i, hi' with | 0, _ => (show ((((((((Lc.set (k * 7) a0).set (k * 7 + 1) a1).set (k * 7 + 2) (.slice ua2 x2.length uc2)).set (k * 7 + 3) (.slice ua3 x3.length uc3)).set (k * 7 + 4) a4).set (k * 7 + 5) a5).set (k * 7 + 6) (.slice ua6 x6.length uc6)))[k * 7]? = _; rw [Ea (by omega)]; rw [Ea (by omega)]; rw [Ea (by omega)]; rw [Ea (by omega)]; rw [Ea (by omega)]; rw [Ea (by omega)]; rw [Eb (by first | omega | (simp only [List.length_set]; omega))]; rfl) | 1, _ => (show ((((((((Lc.set (k * 7) a0).set (k * 7 + 1) a1).set (k * 7 + 2) (.slice ua2 x2.length uc2)).set (k * 7 + 3) (.slice ua3 x3.length uc3)).set (k * 7 + 4) a4).set (k * 7 + 5) a5).set (k * 7 + 6) (.slice ua6 x6.length uc6)))[k * 7 + 1]? = _; rw [Ea (by omega)]; rw [Ea (by omega)]; rw [Ea (by omega)]; rw [Ea (by omega)]; rw [Ea (by omega)]; rw [Eb (by first | omega | (simp only [List.length_set]; omega))]; rfl) | 2, _ => (show ((((((((Lc.set (k * 7) a0).set (k * 7 + 1) a1).set (k * 7 + 2) (.slice ua2 x2.length uc2)).set (k * 7 + 3) (.slice ua3 x3.length uc3)).set (k * 7 + 4) a4).set (k * 7 + 5) a5).set (k * 7 + 6) (.slice ua6 x6.length uc6)))[k * 7 + 2]? = _; rw [Ea (by omega)]; rw [Ea (by omega)]; rw [Ea (by omega)]; rw [Ea (by omega)]; rw [Eb (by first | omega | (simp only [List.length_set]; omega))]; rfl) | 3, _ => (show ((((((((Lc.set (k * 7) a0).set (k * 7 + 1) a1).set (k * 7 + 2) (.slice ua2 x2.length uc2)).set (k * 7 + 3) (.slice ua3 x3.length uc3)).set (k * 7 + 4) a4).set (k * 7 + 5) a5).set (k * 7 + 6) (.slice ua6 x6.length uc6)))[k * 7 + 3]? = _; rw [Ea (by omega)]; rw [Ea (by omega)]; rw [Ea (by omega)]; rw [Eb (by first | omega | (simp only [List.length_set]; omega))]; rfl) | 4, _ => (show ((((((((Lc.set (k * 7) a0).set (k * 7 + 1) a1).set (k * 7 + 2) (.slice ua2 x2.length uc2)).set (k * 7 + 3) (.slice ua3 x3.length uc3)).set (k * 7 + 4) a4).set (k * 7 + 5) a5).set (k * 7 + 6) (.slice ua6 x6.length uc6)))[k * 7 + 4]? = _; rw [Ea (by omega)]; rw [Ea (by omega)]; rw [Eb (by first | omega | (simp only [List.length_set]; omega))]; rfl) | 5, _ => (show ((((((((Lc.set (k * 7) a0).set (k * 7 + 1) a1).set (k * 7 + 2) (.slice ua2 x2.length uc2)).set (k * 7 + 3) (.slice ua3 x3.length uc3)).set (k * 7 + 4) a4).set (k * 7 + 5) a5).set (k * 7 + 6) (.slice ua6 x6.length uc6)))[k * 7 + 5]? = _; rw [Ea (by omega)]; rw [Eb (by first | omega | (simp only [List.length_set]; omega))]; rfl) | 6, _ => (show ((((((((Lc.set (k * 7) a0).set (k * 7 + 1) a1).set (k * 7 + 2) (.slice ua2 x2.length uc2)).set (k * 7 + 3) (.slice ua3 x3.length uc3)).set (k * 7 + 4) a4).set (k * 7 + 5) a5).set (k * 7 + 6) (.slice ua6 x6.length uc6)))[k * 7 + 6]? = _; rw [Eb (by first | omega | (simp only [List.length_set]; omega))]; rfl)) hO2 (fun b hb => ⟨Nat.le_trans hbel.size hb.1, Or.inr hb.1⟩) hT)
   have hst2 : Kt 136 Jk (((((((w2.setCell ⟨w, k * 7, none⟩ a0).setCell ⟨w, k * 7 + 1, none⟩ a1).setCell ⟨w, k * 7 + 2, none⟩ (.slice ua2 x2.length uc2)).setCell ⟨w, k * 7 + 3, none⟩ (.slice ua3 x3.length uc3)).setCell ⟨w, k * 7 + 4, none⟩ a4).setCell ⟨w, k * 7 + 5, none⟩ a5).setCell ⟨w, k * 7 + 6, none⟩ (.slice ua6 x6.length uc6)) (Kg w) (.slice (some ⟨w, 0, none⟩) xs.length xs.length) (xs.take (k + 1) ++ List.replicate (xs.length - (k + 1)) Jk.d) := by have := hst.out; rw [HSET.out] at this; exact this
   have HST := hd hst2
   clear hst hst2 hT hT2 hO2 r9 r0 hrow hO hput hown hbel b2 ow b3 hLl hLc hFj
   go_wp2
   go_roundw
   case rel => exact ⟨k + 1, by omega, by go_num, HST.out, B3.out⟩
   case measure => simp [intOf]; omega
  ·
   obtain rfl : k = xs.length := by omega
   have HE : Hid (xs.take xs.length ++ List.replicate (xs.length - xs.length) Jk.d = xs) := hd (by simp)
   rw [HE.out] at hown
   go_wp2
   go_ret
   exact ⟨_, rfl, hown, hbel⟩
set_option maxHeartbeats 16000000 in
theorem copyActive_P (a0 a1 a4 a6 a7 a8 : Int) (v2 v3 v5 v9 : Value) (x2 : List (Int × Int × Int)) (x3 : List Int) (x5 : List Int) (x9 : List (Int × List Int)) (w : World) (h2 : Kc Jl w v2 x2) (h3 : Kc Jf w v3 x3) (h5 : Kc Jf w v5 x5) (h9 : Kc Kb w v9 x9) (s2 : zL Jl x2 ≤ 1048576) (s3 : zL Jf x3 ≤ 1048576) (s5 : zL Jf x5 ≤ 1048576) (s9 : zL Kb x9 ≤ 1048576) :
  Calls Tryz.prog 103 #[.agg #[a0, a1, v2, v3, a4, v5, a6, a7, a8, v9]] w (Yc Jm (fun cs => .agg cs.toArray) w ((a0, a1, x2, x3), a4, x5, a6, a7, a8, x9)) := by
 obtain ⟨c2, k2, rfl⟩ := Jo h2
 have H2 := hd h2; have S2 := hd s2; have N2 := hd (Jz s2)
 obtain ⟨c3, k3, rfl⟩ := Jo h3
 have H3 := hd h3; have S3 := hd s3; have N3 := hd (Jz s3)
 obtain ⟨c5, k5, rfl⟩ := Jo h5
 have H5 := hd h5; have S5 := hd s5; have N5 := hd (Jz s5)
 obtain ⟨c9, k9, rfl⟩ := Jo h9
 have H9 := hd h9; have S9 := hd s9; have N9 := hd (Jz s9)
 clear h2 s2 h3 s3 h5 s5 h9 s9
 have d := hd (show Below w w ((w.alloc (.cells #[a0, a1, .slice c2 x2.length k2, .slice c3 x3.length k3, a4, .slice c5 x5.length k5, a6, a7, a8, .slice c9 x9.length k9] 88)).alloc (.cells #[Ja, Ja, (), (), Ja, (), Ja, Ja, Ja, ()] 88)) from (((Eh _ w).alloc (Ed _) _).alloc (by simp) _))
 have B0 : Hid (((w.alloc (.cells #[a0, a1, .slice c2 x2.length k2, .slice c3 x3.length k3, a4, .slice c5 x5.length k5, a6, a7, a8, .slice c9 x9.length k9] 88)).alloc (.cells #[Ja, Ja, (), (), Ja, (), Ja, Ja, Ja, ()] 88)).heap[w.heap.size]? = some (.cells #[a0, a1, .slice c2 x2.length k2, .slice c3 x3.length k3, a4, .slice c5 x5.length k5, a6, a7, a8, .slice c9 x9.length k9] 88 (0, 0))) := hd (by
  rw [Below.heap_alloc _ _ _ (by simp)]
  exact Uw w _)
 have B1 : Hid (((w.alloc (.cells #[a0, a1, .slice c2 x2.length k2, .slice c3 x3.length k3, a4, .slice c5 x5.length k5, a6, a7, a8, .slice c9 x9.length k9] 88)).alloc (.cells #[Ja, Ja, (), (), Ja, (), Ja, Ja, Ja, ()] 88)).heap[(w.heap.size + 1)]? = some (.cells #[Ja, Ja, (), (), Ja, (), Ja, Ja, Ja, ()] 88 (0, 0))) := hd (by
  have := Uw (w.alloc (.cells #[a0, a1, .slice c2 x2.length k2, .slice c3 x3.length k3, a4, .slice c5 x5.length k5, a6, a7, a8, .slice c9 x9.length k9] 88)) (.cells #[Ja, Ja, (), (), Ja, (), Ja, Ja, Ja, ()] 88)
  simpa only [Ux] using this)
 have YW : Hid (w.heap.size + 2 ≤ ((w.alloc (.cells #[a0, a1, .slice c2 x2.length k2, .slice c3 x3.length k3, a4, .slice c5 x5.length k5, a6, a7, a8, .slice c9 x9.length k9] 88)).alloc (.cells #[Ja, Ja, (), (), Ja, (), Ja, Ja, Ja, ()] 88)).heap.size) := hd (by simp [Ux])
 go_enter Tryz.func103, Tryz.ntmps103
 go_wp2_with fail
 generalize ((w.alloc (.cells #[a0, a1, .slice c2 x2.length k2, .slice c3 x3.length k3, a4, .slice c5 x5.length k5, a6, a7, a8, .slice c9 x9.length k9] 88)).alloc (.cells #[Ja, Ja, (), (), Ja, (), Ja, Ja, Ja, ()] 88)) = W at *
 refine (copyQuery_P a0 a1 (.slice c2 x2.length k2) (.slice c3 x3.length k3) x2 x3 W (Jc Jq H2.out d.out) (Jc Jb H3.out d.out) S2.out S3.out).mono ?_
 rintro e Wq0 ⟨cs, rfl, ow, c⟩
 replace ow := Ym.lt ow
 obtain ⟨u2, u3, F2, F3, rfl, o2, o3, q2, q3, dj2_3⟩ := tQuery_O ow
 obtain ⟨ua2, uc2, rfl⟩ := Js o2
 obtain ⟨ua3, uc3, rfl⟩ := Js o3
 have Q2 : Hid (∀ b, F2 b → W.heap.size ≤ b ∧ b < Wq0.heap.size) := hd (fun b h => q2 b h)
 have P2 := hd o2
 have DJ2_3 := hd dj2_3
 have Q3 : Hid (∀ b, F3 b → W.heap.size ≤ b ∧ b < Wq0.heap.size) := hd (fun b h => q3 b h)
 have P3 := hd o3
 clear ow o2 q2 o3 q3 dj2_3
 replace B0 := zb c B0
 replace B1 := zb c B1
 replace d := zD d c
 have Z_Wq0 := hd (show W.heap.size ≤ Wq0.heap.size from c.size)
 clear c
 have cp_B0_0 := Vg B0.out
 have cp_B1_0 := Vg B1.out
 have f_B0_0 := Ut Wq0 _ 0 _ _ B0.out
 have f_B0_1 := Ut Wq0 _ 1 _ _ B0.out
 have f_B0_2 := Ut Wq0 _ 2 _ _ B0.out
 have f_B0_3 := Ut Wq0 _ 3 _ _ B0.out
 have f_B0_4 := Ut Wq0 _ 4 _ _ B0.out
 have f_B0_5 := Ut Wq0 _ 5 _ _ B0.out
 have f_B0_6 := Ut Wq0 _ 6 _ _ B0.out
 have f_B0_7 := Ut Wq0 _ 7 _ _ B0.out
 have f_B0_8 := Ut Wq0 _ 8 _ _ B0.out
 have f_B0_9 := Ut Wq0 _ 9 _ _ B0.out
 have tt := ts4 Wq0 w.heap.size a0 a1 (.slice ua2 x2.length uc2) (.slice ua3 x3.length uc3)
 have r := (Uv _ w.heap.size 3 _ _ (.slice ua3 x3.length uc3) (Uv _ w.heap.size 2 _ _ (.slice ua2 x2.length uc2) (Uv _ w.heap.size 1 _ _ a1 (Uv _ w.heap.size 0 _ _ a0 B0.out))))
 simp at r
 have y0 := YW.out
 have y1 := Z_Wq0.out
 have KB0 : Hid (((((Wq0.setCell ⟨w, 0, none⟩ a0).setCell ⟨w, 1, none⟩ a1).setCell ⟨w, 2, none⟩ (.slice ua2 x2.length uc2)).setCell ⟨w, 3, none⟩ (.slice ua3 x3.length uc3)).heap[w.heap.size]? = some (.cells #[a0, a1, .slice ua2 x2.length uc2, .slice ua3 x3.length uc3, a4, .slice c5 x5.length k5, a6, a7, a8, .slice c9 x9.length k9] 88 (0, 0))) := hd r
 have KB1 := hd ((tt.block (w.heap.size + 1) (Array.getElem?_eq_some_iff.1 B1.out).1 (fun h => by omega)).trans B1.out)
 have KP2 := zt Jq P2 tt (fun b h1 h2 => by have r1 := Q2.out b h1; omega)
 have KP3 := zt Jb P3 tt (fun b h1 h2 => by have r1 := Q3.out b h1; omega)
 have Kd := hd (Jr d.out tt (fun b h => by omega) d.out.size)
 have KZ := hd (show Wq0.heap.size ≤ ((((Wq0.setCell ⟨w, 0, none⟩ a0).setCell ⟨w, 1, none⟩ a1).setCell ⟨w, 2, none⟩ (.slice ua2 x2.length uc2)).setCell ⟨w, 3, none⟩ (.slice ua3 x3.length uc3)).heap.size from tt.size)
 clear tt r y0 y1
 have kk5 := (Uu ((((Wq0.setCell ⟨w, 0, none⟩ a0).setCell ⟨w, 1, none⟩ a1).setCell ⟨w, 2, none⟩ (.slice ua2 x2.length uc2)).setCell ⟨w, 3, none⟩ (.slice ua3 x3.length uc3)) _ 5 _ _ _ KB0.out).trans (show _ = some (Value.slice c5 x5.length k5) from rfl)
 go_wp2_with fail
 clear cp_B0_0 cp_B1_0 f_B0_0 f_B0_1 f_B0_2 f_B0_3 f_B0_4 f_B0_5 f_B0_6 f_B0_7 f_B0_8 f_B0_9 kk5
 generalize ((((Wq0.setCell ⟨w, 0, none⟩ a0).setCell ⟨w, 1, none⟩ a1).setCell ⟨w, 2, none⟩ (.slice ua2 x2.length uc2)).setCell ⟨w, 3, none⟩ (.slice ua3 x3.length uc3)) = V0 at *
 replace B0 := KB0; replace B1 := KB1; replace d := Kd; replace P2 := KP2; replace P3 := KP3
 clear KB0 KB1 Kd KP2 KP3
 have Z_V0 := KZ
 clear KZ
 refine (Xl (.slice c5 x5.length k5) x5 V0 (Jc Jb H5.out d.out) N5.out).mono ?_
 rintro e Wq1 ⟨u, rfl, o1, c⟩
 replace o1 := Ki Jb o1
 obtain ⟨ua5, uc5, rfl⟩ := Js o1
 have Q5 : Hid (∀ b, (Kg V0 b ∧ b < Wq1.heap.size) → V0.heap.size ≤ b ∧ b < Wq1.heap.size) := hd (fun b h => h)
 have P5 := hd o1
 clear o1
 replace B0 := zb c B0
 replace B1 := zb c B1
 replace P2 := zf Jq P2 c
 replace P3 := zf Jb P3 c
 replace d := zD d c
 have Z_Wq1 := hd (show V0.heap.size ≤ Wq1.heap.size from c.size)
 clear c
 have cp_B0_0 := Vg B0.out
 have cp_B1_0 := Vg B1.out
 have f_B0_0 := Ut Wq1 _ 0 _ _ B0.out
 have f_B0_1 := Ut Wq1 _ 1 _ _ B0.out
 have f_B0_2 := Ut Wq1 _ 2 _ _ B0.out
 have f_B0_3 := Ut Wq1 _ 3 _ _ B0.out
 have f_B0_4 := Ut Wq1 _ 4 _ _ B0.out
 have f_B0_5 := Ut Wq1 _ 5 _ _ B0.out
 have f_B0_6 := Ut Wq1 _ 6 _ _ B0.out
 have f_B0_7 := Ut Wq1 _ 7 _ _ B0.out
 have f_B0_8 := Ut Wq1 _ 8 _ _ B0.out
 have f_B0_9 := Ut Wq1 _ 9 _ _ B0.out
 have tt : Jy (fun b => b = w.heap.size) Wq1 (Wq1.setCell ⟨w, 5, none⟩ (.slice ua5 x5.length uc5)) := ((Jy.refl (fun b => b = w.heap.size) Wq1).trans (Jh (G := fun b => b = w.heap.size) (g := w.heap.size) (j := 5) (u := .slice ua5 x5.length uc5) rfl))
 have r := (Uv _ w.heap.size 5 _ _ (.slice ua5 x5.length uc5) B0.out)
 simp at r
 have y0 := YW.out
 have y1 := Z_Wq0.out
 have y2 := Z_V0.out
 have y3 := Z_Wq1.out
 have KB0 : Hid ((Wq1.setCell ⟨w, 5, none⟩ (.slice ua5 x5.length uc5)).heap[w.heap.size]? = some (.cells #[a0, a1, .slice ua2 x2.length uc2, .slice ua3 x3.length uc3, a4, .slice ua5 x5.length uc5, a6, a7, a8, .slice c9 x9.length k9] 88 (0, 0))) := hd r
 have KB1 := hd ((tt.block (w.heap.size + 1) (Array.getElem?_eq_some_iff.1 B1.out).1 (fun h => by omega)).trans B1.out)
 have KP2 := zt Jq P2 tt (fun b h1 h2 => by have r1 := Q2.out b h1; omega)
 have KP3 := zt Jb P3 tt (fun b h1 h2 => by have r1 := Q3.out b h1; omega)
 have KP5 := zt Jb P5 tt (fun b h1 h2 => by have r1 := Q5.out b h1; omega)
 have Kd := hd (Jr d.out tt (fun b h => by omega) d.out.size)
 have KZ := hd (show Wq1.heap.size ≤ (Wq1.setCell ⟨w, 5, none⟩ (.slice ua5 x5.length uc5)).heap.size from tt.size)
 clear tt r y0 y1 y2 y3
 have kk9 := cr 9 (Value.slice c9 x9.length k9) KB0.out
 go_wp2_with fail
 clear cp_B0_0 cp_B1_0 f_B0_0 f_B0_1 f_B0_2 f_B0_3 f_B0_4 f_B0_5 f_B0_6 f_B0_7 f_B0_8 f_B0_9 kk9
 generalize (Wq1.setCell ⟨w, 5, none⟩ (.slice ua5 x5.length uc5)) = V1 at *
 replace B0 := KB0; replace B1 := KB1; replace d := Kd; replace P2 := KP2; replace P3 := KP3; replace P5 := KP5
 clear KB0 KB1 Kd KP2 KP3 KP5
 have Z_V1 := KZ
 clear KZ
 refine (copyRows_any (.slice c9 x9.length k9) x9 V1 (Jc Jv H9.out d.out) S9.out).mono ?_
 rintro e Wq2 ⟨u, rfl, o1, c⟩
 replace o1 := Ki Jv o1
 obtain ⟨ua9, uc9, rfl⟩ := Js o1
 have Q9 : Hid (∀ b, (Kg V1 b ∧ b < Wq2.heap.size) → V1.heap.size ≤ b ∧ b < Wq2.heap.size) := hd (fun b h => h)
 have P9 := hd o1
 clear o1
 replace B0 := zb c B0
 replace B1 := zb c B1
 replace P2 := zf Jq P2 c
 replace P3 := zf Jb P3 c
 replace P5 := zf Jb P5 c
 replace d := zD d c
 have Z_Wq2 := hd (show V1.heap.size ≤ Wq2.heap.size from c.size)
 clear c
 obtain ⟨p_B0_0, p_B0_1, p_B0_2, p_B0_3, p_B0_4, p_B0_5, p_B0_6, p_B0_7, p_B0_8, p_B0_9⟩ := Vg B0.out
 obtain ⟨p_B1_0, p_B1_1, p_B1_2, p_B1_3, p_B1_4, p_B1_5, p_B1_6, p_B1_7, p_B1_8, p_B1_9⟩ := Vg B1.out
 have f_B0_0 := Ut Wq2 _ 0 _ _ B0.out
 have f_B0_1 := Ut Wq2 _ 1 _ _ B0.out
 have f_B0_2 := Ut Wq2 _ 2 _ _ B0.out
 have f_B0_3 := Ut Wq2 _ 3 _ _ B0.out
 have f_B0_4 := Ut Wq2 _ 4 _ _ B0.out
 have f_B0_5 := Ut Wq2 _ 5 _ _ B0.out
 have f_B0_6 := Ut Wq2 _ 6 _ _ B0.out
 have f_B0_7 := Ut Wq2 _ 7 _ _ B0.out
 have f_B0_8 := Ut Wq2 _ 8 _ _ B0.out
 have f_B0_9 := Ut Wq2 _ 9 _ _ B0.out
 have f_B1_0 := Ut Wq2 _ 0 _ _ B1.out
 have f_B1_1 := Ut Wq2 _ 1 _ _ B1.out
 have f_B1_2 := Ut Wq2 _ 2 _ _ B1.out
 have f_B1_3 := Ut Wq2 _ 3 _ _ B1.out
 have f_B1_4 := Ut Wq2 _ 4 _ _ B1.out
 have f_B1_5 := Ut Wq2 _ 5 _ _ B1.out
 have f_B1_6 := Ut Wq2 _ 6 _ _ B1.out
 have f_B1_7 := Ut Wq2 _ 7 _ _ B1.out
 have f_B1_8 := Ut Wq2 _ 8 _ _ B1.out
 have f_B1_9 := Ut Wq2 _ 9 _ _ B1.out
 have tt : Jy (fun b => b = w.heap.size) Wq2 (Wq2.setCell ⟨w, 9, none⟩ (.slice ua9 x9.length uc9)) := ((Jy.refl (fun b => b = w.heap.size) Wq2).trans (Jh (G := fun b => b = w.heap.size) (g := w.heap.size) (j := 9) (u := .slice ua9 x9.length uc9) rfl))
 have r := (Uv _ w.heap.size 9 _ _ (.slice ua9 x9.length uc9) B0.out)
 simp at r
 have y0 := YW.out
 have y1 := Z_Wq0.out
 have y2 := Z_V0.out
 have y3 := Z_Wq1.out
 have y4 := Z_V1.out
 have y5 := Z_Wq2.out
 have KB0 : Hid ((Wq2.setCell ⟨w, 9, none⟩ (.slice ua9 x9.length uc9)).heap[w.heap.size]? = some (.cells #[a0, a1, .slice ua2 x2.length uc2, .slice ua3 x3.length uc3, a4, .slice ua5 x5.length uc5, a6, a7, a8, .slice ua9 x9.length uc9] 88 (0, 0))) := hd r
 have KB1 := hd ((tt.block (w.heap.size + 1) (Array.getElem?_eq_some_iff.1 B1.out).1 (fun h => by omega)).trans B1.out)
 have KP2 := zt Jq P2 tt (fun b h1 h2 => by have r1 := Q2.out b h1; omega)
 have KP3 := zt Jb P3 tt (fun b h1 h2 => by have r1 := Q3.out b h1; omega)
 have KP5 := zt Jb P5 tt (fun b h1 h2 => by have r1 := Q5.out b h1; omega)
 have KP9 := zt Jv P9 tt (fun b h1 h2 => by have r1 := Q9.out b h1; omega)
 have Kd := hd (Jr d.out tt (fun b h => by omega) d.out.size)
 have KZ := hd (show Wq2.heap.size ≤ (Wq2.setCell ⟨w, 9, none⟩ (.slice ua9 x9.length uc9)).heap.size from tt.size)
 clear tt r y0 y1 y2 y3 y4 y5
 generalize hW : (Wq2.setCell ⟨w, 9, none⟩ (.slice ua9 x9.length uc9)) = WF at *
 have c0_ := cr 0 a0 KB0.out
 have c1_ := cr 1 a1 KB0.out
 have c2_ := cr 2 (Value.slice ua2 x2.length uc2) KB0.out
 have c3_ := cr 3 (Value.slice ua3 x3.length uc3) KB0.out
 have c4_ := cr 4 a4 KB0.out
 have c5_ := cr 5 (Value.slice ua5 x5.length uc5) KB0.out
 have c6_ := cr 6 a6 KB0.out
 have c7_ := cr 7 a7 KB0.out
 have c8_ := cr 8 a8 KB0.out
 have c9_ := cr 9 (Value.slice ua9 x9.length uc9) KB0.out
 have z0_ := cr 0 Ja KB1.out
 have g0_ := Ut WF _ 0 _ _ KB1.out
 have z1_ := cr 1 Ja KB1.out
 have g1_ := Ut WF _ 1 _ _ KB1.out
 have z2_ := cr 2 () KB1.out
 have g2_ := Ut WF _ 2 _ _ KB1.out
 have z3_ := cr 3 () KB1.out
 have g3_ := Ut WF _ 3 _ _ KB1.out
 have z4_ := cr 4 Ja KB1.out
 have g4_ := Ut WF _ 4 _ _ KB1.out
 have z5_ := cr 5 () KB1.out
 have g5_ := Ut WF _ 5 _ _ KB1.out
 have z6_ := cr 6 Ja KB1.out
 have g6_ := Ut WF _ 6 _ _ KB1.out
 have z7_ := cr 7 Ja KB1.out
 have g7_ := Ut WF _ 7 _ _ KB1.out
 have z8_ := cr 8 Ja KB1.out
 have g8_ := Ut WF _ 8 _ _ KB1.out
 have z9_ := cr 9 () KB1.out
 have g9_ := Ut WF _ 9 _ _ KB1.out
 have tt := ts10 WF (w.heap.size + 1) a0 a1 (.slice ua2 x2.length uc2) (.slice ua3 x3.length uc3) a4 (.slice ua5 x5.length uc5) a6 a7 a8 (.slice ua9 x9.length uc9)
 have r := st10 KB1.out a0 a1 (.slice ua2 x2.length uc2) (.slice ua3 x3.length uc3) a4 (.slice ua5 x5.length uc5) a6 a7 a8 (.slice ua9 x9.length uc9)
 try simp at r
 have e0_ := (Uu _ (w.heap.size + 1) 0 _ _ _ r).trans (show _ = some (Value.int .i64 a0) from rfl)
 have e1_ := (Uu _ (w.heap.size + 1) 1 _ _ _ r).trans (show _ = some (Value.int .i64 a1) from rfl)
 have e2_ := (Uu _ (w.heap.size + 1) 2 _ _ _ r).trans (show _ = some (Value.slice ua2 x2.length uc2) from rfl)
 have e3_ := (Uu _ (w.heap.size + 1) 3 _ _ _ r).trans (show _ = some (Value.slice ua3 x3.length uc3) from rfl)
 have e4_ := (Uu _ (w.heap.size + 1) 4 _ _ _ r).trans (show _ = some (Value.int .i64 a4) from rfl)
 have e5_ := (Uu _ (w.heap.size + 1) 5 _ _ _ r).trans (show _ = some (Value.slice ua5 x5.length uc5) from rfl)
 have e6_ := (Uu _ (w.heap.size + 1) 6 _ _ _ r).trans (show _ = some (Value.int .i64 a6) from rfl)
 have e7_ := (Uu _ (w.heap.size + 1) 7 _ _ _ r).trans (show _ = some (Value.int .i64 a7) from rfl)
 have e8_ := (Uu _ (w.heap.size + 1) 8 _ _ _ r).trans (show _ = some (Value.int .i64 a8) from rfl)
 have e9_ := (Uu _ (w.heap.size + 1) 9 _ _ _ r).trans (show _ = some (Value.slice ua9 x9.length uc9) from rfl)
 have y0 := YW.out
 have y1 := Z_Wq0.out
 have y2 := Z_V0.out
 have y3 := Z_Wq1.out
 have y4 := Z_V1.out
 have y5 := Z_Wq2.out
 have yk := KZ.out
 have PFP2 := zt Jq KP2 tt (fun b h1 h2 => by have r1 := Q2.out b h1; omega)
 have PFP3 := zt Jb KP3 tt (fun b h1 h2 => by have r1 := Q3.out b h1; omega)
 have PFP5 := zt Jb KP5 tt (fun b h1 h2 => by have r1 := Q5.out b h1; omega)
 have PFP9 := zt Jv KP9 tt (fun b h1 h2 => by have r1 := Q9.out b h1; omega)
 have DF := hd (Jr Kd.out tt (fun b h => by omega) Kd.out.size)
 clear tt r yk y0 y1 y2 y3 y4 y5
 subst hW
 go_wp2
 have y0 := YW.out
 have y1 := Z_Wq0.out
 have y2 := Z_V0.out
 have y3 := Z_Wq1.out
 have y4 := Z_V1.out
 have y5 := Z_Wq2.out
 refine bodyPost_ret (v := .agg #[a0, a1, .slice ua2 x2.length uc2, .slice ua3 x3.length uc3, a4, .slice ua5 x5.length uc5, a6, a7, a8, .slice ua9 x9.length uc9]) ?_ rfl ⟨[a0, a1, .slice ua2 x2.length uc2, .slice ua3 x3.length uc3, a4, .slice ua5 x5.length uc5, a6, a7, a8, .slice ua9 x9.length uc9], rfl, tActive_mkO PFP2.out PFP3.out PFP5.out PFP9.out (fun b h => by have r1 := Q2.out b h; show w.heap.size ≤ b; omega) (fun b h => by have r1 := Q3.out b h; show w.heap.size ≤ b; omega) (fun b h => by have r1 := Q5.out b h; show w.heap.size ≤ b; omega) (fun b h => by have r1 := Q9.out b h; show w.heap.size ≤ b; omega) DJ2_3.out (fun b h1 h2 => by have r1 := Q2.out b h1; have r2 := Q5.out b h2; omega) (fun b h1 h2 => by have r1 := Q2.out b h1; have r2 := Q9.out b h2; omega) (fun b h1 h2 => by have r1 := Q3.out b h1; have r2 := Q5.out b h2; omega) (fun b h1 h2 => by have r1 := Q3.out b h1; have r2 := Q9.out b h2; omega) (fun b h1 h2 => by have r1 := Q5.out b h1; have r2 := Q9.out b h2; omega), DF.out⟩
 simp [results, Tryz.f103, go_sem, e0_, e1_, e2_, e3_, e4_, e5_, e6_, e7_, e8_, e9_]
set_option maxHeartbeats 8000000 in
theorem copyEachActive (v : Value) (xs : List ((Int × Int × List (Int × Int × Int) × List Int) × Int × List Int × Int × Int × Int × List (Int × List Int))) (w : World) (h : Kc Jm w v xs) (hs : zL Jm xs ≤ 1048576) :
  Calls Tryz.prog 102 #[v, .func (.func 103) #[] #[]] w (Yi 88 Jm w xs) := by
 obtain ⟨i0, hi, hz0, hz1⟩ : ∃ i0, Tryz.prog.info? 88 = some i0 ∧ i0.zero = some (.agg #[Ja, Ja, (), (), Ja, (), Ja, Ja, Ja, ()]) ∧ i0.size = 10 := by
  have h0 := Tryz.info_Active
  cases q : Tryz.prog.info? 88 with
  | none => rw [q] at h0; simp at h0
  | some i => rw [q] at h0; simp only [Option.map_some, Option.some.injEq, Prod.mk.injEq] at h0; exact ⟨i, rfl, h0.1, h0.2⟩
 have hz2 : i0.bytes ≤ 512 := by
  have h0 := Tryz.bytes_Active
  rw [hi] at h0
  simpa using h0
 have HI := hd hi; have HZ0 := hd hz0; have HZ1 := hd hz1; have HZ2 := hd hz2
 clear hi hz0 hz1 hz2
 have H := hd h
 have hlen := Jz hs
 have HS := hd hs
 obtain ⟨a, cap, rfl⟩ := Jo h
 clear h hs
 go_enter Tryz.func102, Tryz.ntmps102
 go_wp2_with (at_make; refine wpList_make_full _ rfl (.tmp 9) (.tmp 9) 39 rfl w.heap.size 88 i0 (.agg #[Ja, Ja, (), (), Ja, (), Ja, Ja, Ja, ()]) 10 Tryz.underlying39 HI.out HZ0.out HZ1.out _ _ _ _ xs.length rfl rfl rfl rfl (by have h9 := Nat.mul_le_mul HZ2.out hlen; have h8 := Nat.mul_le_mul hlen HZ2.out; omega) (by unfold maxLen; omega) (Ed _) ?_)
 intro w1 hown0 hg0
 have hown1 : Kt 88 Jm w1 (Kg w) (.slice (some ⟨w, 0, none⟩) xs.length xs.length) (List.replicate xs.length Jm.d) := Yu (z := #[.int .i64 0, .int .i64 0, .slice none 0 0, .slice none 0 0, .int .i64 0, .slice none 0 0, .int .i64 0, .int .i64 0, .int .i64 0, .slice none 0 0]) Ji rfl (tActive_zero w1) (Ed _) hown0
 have hbel1 := (Eh w.heap.size w).grown hg0 (Ed _) (fun k hk => by cases hk)
 clear hown0 hg0
 go_wp2
 go_loopw [13] (fun i wr => ∃ k : Nat, k ≤ xs.length ∧ i = .int .i64 k ∧ Kt 88 Jm wr (Kg w) (.slice (some ⟨w, 0, none⟩) xs.length xs.length) (xs.take k ++ List.replicate (xs.length - k) Jm.d) ∧ Below w w wr) (fun i _ => xs.length - (intOf i).toNat)
 case atStart => exact ⟨0, Ef _, rfl, by simpa using hown1, hbel1⟩
 case round =>
  obtain ⟨k, hk, rfl, hown, hbel⟩ := hrel
  by_cases hlt : k < xs.length
  ·
   have HSET := hd (Yx (d := Jm.d) hlt)
   have HKL : Hid (k < (xs.take k ++ List.replicate (xs.length - k) Jm.d).length) := hd (by rw [Vc hk]; exact hlt)
   have HLL := hd (Vc (d := Jm.d) hk)
   have i1 : (0 : Int) ≤ (k : Int) := by omega
   have i2 : (k : Int) < (xs.length : Int) := by omega
   have hzx := Kz HS.out hlt
   obtain ⟨b, off, cap', cs, hv, hbl, hcs, hR⟩ := Km (Jc Ji H.out hbel) hlt
   simp only [Eg] at hv
   obtain ⟨rfl, _, rfl⟩ := hv
   obtain ⟨hme, hFg, hgl, cj, Fj, Lc, hrow, hLc, hO, hFj, hput⟩ := Vh Ji hown HKL.out
   clear hme
   clear hown1 hbel1
   generalize xs.getD k Jm.d = x at *
   generalize xs.take k ++ List.replicate (xs.length - k) Jm.d = ys at *
   obtain ⟨⟨a0, a1, x2, x3⟩, a4, x5, a6, a7, a8, x9⟩ := x
   obtain ⟨v2, v3, v5, v9, hR'⟩ := Uh hR
   obtain ⟨rfl, h2, h3, h5, h9⟩ := hR'
   have p0 : wr.cell? ⟨b, off + k * 10, none⟩ = some (Value.int .i64 a0) := hcs 0 (by decide)
   have p1 : wr.cell? ⟨b, off + k * 10 + 1, none⟩ = some (Value.int .i64 a1) := hcs 1 (by decide)
   have p2 : wr.cell? ⟨b, off + k * 10 + 2, none⟩ = some (v2) := hcs 2 (by decide)
   have p3 : wr.cell? ⟨b, off + k * 10 + 3, none⟩ = some (v3) := hcs 3 (by decide)
   have p4 : wr.cell? ⟨b, off + k * 10 + 4, none⟩ = some (Value.int .i64 a4) := hcs 4 (by decide)
   have p5 : wr.cell? ⟨b, off + k * 10 + 5, none⟩ = some (v5) := hcs 5 (by decide)
   have p6 : wr.cell? ⟨b, off + k * 10 + 6, none⟩ = some (Value.int .i64 a6) := hcs 6 (by decide)
   have p7 : wr.cell? ⟨b, off + k * 10 + 7, none⟩ = some (Value.int .i64 a7) := hcs 7 (by decide)
   have p8 : wr.cell? ⟨b, off + k * 10 + 8, none⟩ = some (Value.int .i64 a8) := hcs 8 (by decide)
   have p9 : wr.cell? ⟨b, off + k * 10 + 9, none⟩ = some (v9) := hcs 9 (by decide)
   rw [Yo] at hzx
   have S2 := hd (show zL Jl x2 ≤ 1048576 by omega)
   have S3 := hd (show zL Jf x3 ≤ 1048576 by omega)
   have S5 := hd (show zL Jf x5 ≤ 1048576 by omega)
   have S9 := hd (show zL Kb x9 ≤ 1048576 by omega)
   obtain ⟨sa2, sc2, rfl⟩ := Jo h2
   obtain ⟨sa3, sc3, rfl⟩ := Jo h3
   obtain ⟨sa5, sc5, rfl⟩ := Jo h5
   obtain ⟨sa9, sc9, rfl⟩ := Jo h9
   have HC := hd (fun w g2 g3 g5 g9 => copyActive_P a0 a1 a4 a6 a7 a8 (.slice sa2 x2.length sc2) (.slice sa3 x3.length sc3) (.slice sa5 x5.length sc5) (.slice sa9 x9.length sc9) x2 x3 x5 x9 w g2 g3 g5 g9 S2.out S3.out S5.out S9.out)
   have G2 := hd h2
   have G3 := hd h3
   have G5 := hd h5
   have G9 := hd h9
   clear hcs hzx h2 h3 h5 h9
   have hal : Below wr wr (wr.alloc (.cells #[a0, a1, .slice sa2 x2.length sc2, .slice sa3 x3.length sc3, a4, .slice sa5 x5.length sc5, a6, a7, a8, .slice sa9 x9.length sc9] 88)) := (Eh _ _).alloc (Ed _) _
   go_wp2_with fail
   generalize wr.alloc (.cells #[a0, a1, .slice sa2 x2.length sc2, .slice sa3 x3.length sc3, a4, .slice sa5 x5.length sc5, a6, a7, a8, .slice sa9 x9.length sc9] 88) = W2 at *
   refine (HC.out _ (Jc Jq G2.out hal) (Jc Jb G3.out hal) (Jc Jb G5.out hal) (Jc Jv G9.out hal)).mono ?_
   rintro e w2 ⟨cv, rfl, ow0, b20⟩
   have ow : Jm.O w2 (Kg wr) cv _ := Ji.mono ow0 (fun b hb => Nat.le_trans hal.size hb)
   have b2 := hal.trans (b20.mono hal.size)
   clear ow0 b20 hal
   replace ow := Ji.lt ow
   have ow2 := ow
   obtain ⟨u2, u3, u5, u9, K2, K3, K5, K9, rfl, o2, o3, o5, o9, _, _, _, _, _, _, _, _, _, _⟩ := tActive_O ow2
   obtain ⟨ua2, uc2, rfl⟩ := Js o2
   obtain ⟨ua3, uc3, rfl⟩ := Js o3
   obtain ⟨ua5, uc5, rfl⟩ := Js o5
   obtain ⟨ua9, uc9, rfl⟩ := Js o9
   clear o2 o3 o5 o9
   have r0 := Kv (G := fun _ => False) hrow (Kj b2) (fun _ _ => not_false)
   rw [HLL.out] at r0
   have q0 : ∃ x, w2.cell? ⟨w, k * 10, none⟩ = some x := zq r0 (k * 10) (by have := HKL.out; rw [HLL.out] at this; show _ < xs.length * 10; omega)
   obtain ⟨y0, q0⟩ := q0
   have f0 := Uy r0 (k * 10)
   have q1 : ∃ x, w2.cell? ⟨w, k * 10 + 1, none⟩ = some x := zq r0 (k * 10 + 1) (by have := HKL.out; rw [HLL.out] at this; show _ < xs.length * 10; omega)
   obtain ⟨y1, q1⟩ := q1
   have f1 := Uy r0 (k * 10 + 1)
   have q2 : ∃ x, w2.cell? ⟨w, k * 10 + 2, none⟩ = some x := zq r0 (k * 10 + 2) (by have := HKL.out; rw [HLL.out] at this; show _ < xs.length * 10; omega)
   obtain ⟨y2, q2⟩ := q2
   have f2 := Uy r0 (k * 10 + 2)
   have q3 : ∃ x, w2.cell? ⟨w, k * 10 + 3, none⟩ = some x := zq r0 (k * 10 + 3) (by have := HKL.out; rw [HLL.out] at this; show _ < xs.length * 10; omega)
   obtain ⟨y3, q3⟩ := q3
   have f3 := Uy r0 (k * 10 + 3)
   have q4 : ∃ x, w2.cell? ⟨w, k * 10 + 4, none⟩ = some x := zq r0 (k * 10 + 4) (by have := HKL.out; rw [HLL.out] at this; show _ < xs.length * 10; omega)
   obtain ⟨y4, q4⟩ := q4
   have f4 := Uy r0 (k * 10 + 4)
   have q5 : ∃ x, w2.cell? ⟨w, k * 10 + 5, none⟩ = some x := zq r0 (k * 10 + 5) (by have := HKL.out; rw [HLL.out] at this; show _ < xs.length * 10; omega)
   obtain ⟨y5, q5⟩ := q5
   have f5 := Uy r0 (k * 10 + 5)
   have q6 : ∃ x, w2.cell? ⟨w, k * 10 + 6, none⟩ = some x := zq r0 (k * 10 + 6) (by have := HKL.out; rw [HLL.out] at this; show _ < xs.length * 10; omega)
   obtain ⟨y6, q6⟩ := q6
   have f6 := Uy r0 (k * 10 + 6)
   have q7 : ∃ x, w2.cell? ⟨w, k * 10 + 7, none⟩ = some x := zq r0 (k * 10 + 7) (by have := HKL.out; rw [HLL.out] at this; show _ < xs.length * 10; omega)
   obtain ⟨y7, q7⟩ := q7
   have f7 := Uy r0 (k * 10 + 7)
   have q8 : ∃ x, w2.cell? ⟨w, k * 10 + 8, none⟩ = some x := zq r0 (k * 10 + 8) (by have := HKL.out; rw [HLL.out] at this; show _ < xs.length * 10; omega)
   obtain ⟨y8, q8⟩ := q8
   have f8 := Uy r0 (k * 10 + 8)
   have q9 : ∃ x, w2.cell? ⟨w, k * 10 + 9, none⟩ = some x := zq r0 (k * 10 + 9) (by have := HKL.out; rw [HLL.out] at this; show _ < xs.length * 10; omega)
   obtain ⟨y9, q9⟩ := q9
   have f9 := Uy r0 (k * 10 + 9)
   have b3 := hbel.trans (b2.mono hbel.size)
   have B3 := hd ((((((((((b3.setCell (p := ⟨w, k * 10, none⟩) (Ed _) a0).setCell (p := ⟨w, k * 10 + 1, none⟩) (Ed _) a1).setCell (p := ⟨w, k * 10 + 2, none⟩) (Ed _) (.slice ua2 x2.length uc2)).setCell (p := ⟨w, k * 10 + 3, none⟩) (Ed _) (.slice ua3 x3.length uc3)).setCell (p := ⟨w, k * 10 + 4, none⟩) (Ed _) a4).setCell (p := ⟨w, k * 10 + 5, none⟩) (Ed _) (.slice ua5 x5.length uc5)).setCell (p := ⟨w, k * 10 + 6, none⟩) (Ed _) a6).setCell (p := ⟨w, k * 10 + 7, none⟩) (Ed _) a7).setCell (p := ⟨w, k * 10 + 8, none⟩) (Ed _) a8).setCell (p := ⟨w, k * 10 + 9, none⟩) (Ed _) (.slice ua9 x9.length uc9))
   have hT : Jy (fun b => b = w.heap.size ∨ Fj b ∨ wr.heap.size ≤ b) wr ((((((((((w2.setCell ⟨w, k * 10, none⟩ a0).setCell ⟨w, k * 10 + 1, none⟩ a1).setCell ⟨w, k * 10 + 2, none⟩ (.slice ua2 x2.length uc2)).setCell ⟨w, k * 10 + 3, none⟩ (.slice ua3 x3.length uc3)).setCell ⟨w, k * 10 + 4, none⟩ a4).setCell ⟨w, k * 10 + 5, none⟩ (.slice ua5 x5.length uc5)).setCell ⟨w, k * 10 + 6, none⟩ a6).setCell ⟨w, k * 10 + 7, none⟩ a7).setCell ⟨w, k * 10 + 8, none⟩ a8).setCell ⟨w, k * 10 + 9, none⟩ (.slice ua9 x9.length uc9)) := (((((((((((Kj b2).trans (Jh (j := k * 10) (u := .int .i64 a0) (Or.inl rfl))).trans (Jh (j := k * 10 + 1) (u := .int .i64 a1) (Or.inl rfl))).trans (Jh (j := k * 10 + 2) (u := .slice ua2 x2.length uc2) (Or.inl rfl))).trans (Jh (j := k * 10 + 3) (u := .slice ua3 x3.length uc3) (Or.inl rfl))).trans (Jh (j := k * 10 + 4) (u := .int .i64 a4) (Or.inl rfl))).trans (Jh (j := k * 10 + 5) (u := .slice ua5 x5.length uc5) (Or.inl rfl))).trans (Jh (j := k * 10 + 6) (u := .int .i64 a6) (Or.inl rfl))).trans (Jh (j := k * 10 + 7) (u := .int .i64 a7) (Or.inl rfl))).trans (Jh (j := k * 10 + 8) (u := .int .i64 a8) (Or.inl rfl))).trans (Jh (j := k * 10 + 9) (u := .slice ua9 x9.length uc9) (Or.inl rfl)))
   have hT2 : Jy (fun b => b = w.heap.size) w2 ((((((((((w2.setCell ⟨w, k * 10, none⟩ a0).setCell ⟨w, k * 10 + 1, none⟩ a1).setCell ⟨w, k * 10 + 2, none⟩ (.slice ua2 x2.length uc2)).setCell ⟨w, k * 10 + 3, none⟩ (.slice ua3 x3.length uc3)).setCell ⟨w, k * 10 + 4, none⟩ a4).setCell ⟨w, k * 10 + 5, none⟩ (.slice ua5 x5.length uc5)).setCell ⟨w, k * 10 + 6, none⟩ a6).setCell ⟨w, k * 10 + 7, none⟩ a7).setCell ⟨w, k * 10 + 8, none⟩ a8).setCell ⟨w, k * 10 + 9, none⟩ (.slice ua9 x9.length uc9)) := (((((((((((Jy.refl (fun b => b = w.heap.size) _).trans (Jh (G := fun b => b = w.heap.size) (j := k * 10) (u := .int .i64 a0) rfl)).trans (Jh (G := fun b => b = w.heap.size) (j := k * 10 + 1) (u := .int .i64 a1) rfl)).trans (Jh (G := fun b => b = w.heap.size) (j := k * 10 + 2) (u := .slice ua2 x2.length uc2) rfl)).trans (Jh (G := fun b => b = w.heap.size) (j := k * 10 + 3) (u := .slice ua3 x3.length uc3) rfl)).trans (Jh (G := fun b => b = w.heap.size) (j := k * 10 + 4) (u := .int .i64 a4) rfl)).trans (Jh (G := fun b => b = w.heap.size) (j := k * 10 + 5) (u := .slice ua5 x5.length uc5) rfl)).trans (Jh (G := fun b => b = w.heap.size) (j := k * 10 + 6) (u := .int .i64 a6) rfl)).trans (Jh (G := fun b => b = w.heap.size) (j := k * 10 + 7) (u := .int .i64 a7) rfl)).trans (Jh (G := fun b => b = w.heap.size) (j := k * 10 + 8) (u := .int .i64 a8) rfl)).trans (Jh (G := fun b => b = w.heap.size) (j := k * 10 + 9) (u := .slice ua9 x9.length uc9) rfl))
   have hO2 := Ji.turn ow hT2 (fun b h1 h2 => by have := h1.1; simp only [Kg] at this; omega)
   have r9 := (Uz (Uz (Uz (Uz (Uz (Uz (Uz (Uz (Uz (Uz r0 (k * 10) a0).1 (k * 10 + 1) a1).1 (k * 10 + 2) (.slice ua2 x2.length uc2)).1 (k * 10 + 3) (.slice ua3 x3.length uc3)).1 (k * 10 + 4) a4).1 (k * 10 + 5) (.slice ua5 x5.length uc5)).1 (k * 10 + 6) a6).1 (k * 10 + 7) a7).1 (k * 10 + 8) a8).1 (k * 10 + 9) (.slice ua9 x9.length uc9)).1
   have hLl : Lc.length = xs.length * 10 := r0.1
   have hst := hd (hput ((((((((((w2.setCell ⟨w, k * 10, none⟩ a0).setCell ⟨w, k * 10 + 1, none⟩ a1).setCell ⟨w, k * 10 + 2, none⟩ (.slice ua2 x2.length uc2)).setCell ⟨w, k * 10 + 3, none⟩ (.slice ua3 x3.length uc3)).setCell ⟨w, k * 10 + 4, none⟩ a4).setCell ⟨w, k * 10 + 5, none⟩ (.slice ua5 x5.length uc5)).setCell ⟨w, k * 10 + 6, none⟩ a6).setCell ⟨w, k * 10 + 7, none⟩ a7).setCell ⟨w, k * 10 + 8, none⟩ a8).setCell ⟨w, k * 10 + 9, none⟩ (.slice ua9 x9.length uc9)) ((((((((((Lc.set (k * 10) a0).set (k * 10 + 1) a1).set (k * 10 + 2) (.slice ua2 x2.length uc2)).set (k * 10 + 3) (.slice ua3 x3.length uc3)).set (k * 10 + 4) a4).set (k * 10 + 5) (.slice ua5 x5.length uc5)).set (k * 10 + 6) a6).set (k * 10 + 7) a7).set (k * 10 + 8) a8).set (k * 10 + 9) (.slice ua9 x9.length uc9)) [a0, a1, .slice ua2 x2.length uc2, .slice ua3 x3.length uc3, a4, .slice ua5 x5.length uc5, a6, a7, a8, .slice ua9 x9.length uc9] _ ((a0, a1, x2, x3), a4, x5, a6, a7, a8, x9) (by rw [HLL.out]; exact r9) (fun p hp => by have hp2 : p < k * 10 ∨ k * 10 + 10 ≤ p := hp; rw [Ea (by omega)]; rw [Ea (by omega)]; rw [Ea (by omega)]; rw [Ea (by omega)]; rw [Ea (by omega)]; rw [Ea (by omega)]; rw [Ea (by omega)]; rw [Ea (by omega)]; rw [Ea (by omega)]; rw [Ea (by omega)]) (fun i hi => by have hi' : i < 10 := hi; match i, hi' with | 0, _ => (show (((((((((((Lc.set (k * 10) a0).set (k * 10 + 1) a1).set (k * 10 + 2) (.slice ua2 x2.length uc2)).set (k * 10 + 3) (.slice ua3 x3.length uc3)).set (k * 10 + 4) a4).set (k * 10 + 5) (.slice ua5 x5.length uc5)).set (k * 10 + 6) a6).set (k * 10 + 7) a7).set (k * 10 + 8) a8).set (k * 10 + 9) (.slice ua9 x9.length uc9)))[k * 10]? = _; rw [Ea (by omega)]; rw [Ea (by omega)]; rw [Ea (by omega)]; rw [Ea (by omega)]; rw [Ea (by omega)]; rw [Ea (by omega)]; rw [Ea (by omega)]; rw [Ea (by omega)]; rw [Ea (by omega)]; rw [Eb (by first | omega | (simp only [List.length_set]; omega))]; rfl) | 1, _ => (show (((((((((((Lc.set (k * 10) a0).set (k * 10 + 1) a1).set (k * 10 + 2) (.slice ua2 x2.length uc2)).set (k * 10 + 3) (.slice ua3 x3.length uc3)).set (k * 10 + 4) a4).set (k * 10 + 5) (.slice ua5 x5.length uc5)).set (k * 10 + 6) a6).set (k * 10 + 7) a7).set (k * 10 + 8) a8).set (k * 10 + 9) (.slice ua9 x9.length uc9)))[k * 10 + 1]? = _; rw [Ea (by omega)]; rw [Ea (by omega)]; rw [Ea (by omega)]; rw [Ea (by omega)]; rw [Ea (by omega)]; rw [Ea (by omega)]; rw [Ea (by omega)]; rw [Ea (by omega)]; rw [Eb (by first | omega | (simp only [List.length_set]; omega))]; rfl) | 2, _ => (show (((((((((((Lc.set (k * 10) a0).set (k * 10 + 1) a1).set (k * 10 + 2) (.slice ua2 x2.length uc2)).set (k * 10 + 3) (.slice ua3 x3.length uc3)).set (k * 10 + 4) a4).set (k * 10 + 5) (.slice ua5 x5.length uc5)).set (k * 10 + 6) a6).set (k * 10 + 7) a7).set (k * 10 + 8) a8).set (k * 10 + 9) (.slice ua9 x9.length uc9)))[k * 10 + 2]? = _; rw [Ea (by omega)]; rw [Ea (by omega)]; rw [Ea (by omega)]; rw [Ea (by omega)]; rw [Ea (by omega)]; rw [Ea (by omega)]; rw [Ea (by omega)]; rw [Eb (by first | omega | (simp only [List.length_set]; omega))]; rfl) | 3, _ => (show (((((((((((Lc.set (k * 10) a0).set (k * 10 + 1) a1).set (k * 10 + 2) (.slice ua2 x2.length uc2)).set (k * 10 + 3) (.slice ua3 x3.length uc3)).set (k * 10 + 4) a4).set (k * 10 + 5) (.slice ua5 x5.length uc5)).set (k * 10 + 6) a6).set (k * 10 + 7) a7).set (k * 10 + 8) a8).set (k * 10 + 9) (.slice ua9 x9.length uc9)))[k * 10 + 3]? = _; rw [Ea (by omega)]; rw [Ea (by omega)]; rw [Ea (by omega)]; rw [Ea (by omega)]; rw [Ea (by omega)]; rw [Ea (by omega)]; rw [Eb (by first | omega | (simp only [List.length_set]; omega))]; rfl) | 4, _ => (show (((((((((((Lc.set (k * 10) a0).set (k * 10 + 1) a1).set (k * 10 + 2) (.slice ua2 x2.length uc2)).set (k * 10 + 3) (.slice ua3 x3.length uc3)).set (k * 10 + 4) a4).set (k * 10 + 5) (.slice ua5 x5.length uc5)).set (k * 10 + 6) a6).set (k * 10 + 7) a7).set (k * 10 + 8) a8).set (k * 10 + 9) (.slice ua9 x9.length uc9)))[k * 10 + 4]? = _; rw [Ea (by omega)]; rw [Ea (by omega)]; rw [Ea (by omega)]; rw [Ea (by omega)]; rw [Ea (by omega)]; rw [Eb (by first | omega | (simp only [List.length_set]; omega))]; rfl) | 5, _ => (show (((((((((((Lc.set (k * 10) a0).set (k * 10 + 1) a1).set (k * 10 + 2) (.slice ua2 x2.length uc2)).set (k * 10 + 3) (.slice ua3 x3.length uc3)).set (k * 10 + 4) a4).set (k * 10 + 5) (.slice ua5 x5.length uc5)).set (k * 10 + 6) a6).set (k * 10 + 7) a7).set (k * 10 + 8) a8).set (k * 10 + 9) (.slice ua9 x9.length uc9)))[k * 10 + 5]? = _; rw [Ea (by omega)]; rw [Ea (by omega)]; rw [Ea (by omega)]; rw [Ea (by omega)]; rw [Eb (by first | omega | (simp only [List.length_set]; omega))]; rfl) | 6, _ => (show (((((((((((Lc.set (k * 10) a0).set (k * 10 + 1) a1).set (k * 10 + 2) (.slice ua2 x2.length uc2)).set (k * 10 + 3) (.slice ua3 x3.length uc3)).set (k * 10 + 4) a4).set (k * 10 + 5) (.slice ua5 x5.length uc5)).set (k * 10 + 6) a6).set (k * 10 + 7) a7).set (k * 10 + 8) a8).set (k * 10 + 9) (.slice ua9 x9.length uc9)))[k * 10 + 6]? = _; rw [Ea (by omega)]; rw [Ea (by omega)]; rw [Ea (by omega)]; rw [Eb (by first | omega | (simp only [List.length_set]; omega))]; rfl) | 7, _ => (show (((((((((((Lc.set (k * 10) a0).set (k * 10 + 1) a1).set (k * 10 + 2) (.slice ua2 x2.length uc2)).set (k * 10 + 3) (.slice ua3 x3.length uc3)).set (k * 10 + 4) a4).set (k * 10 + 5) (.slice ua5 x5.length uc5)).set (k * 10 + 6) a6).set (k * 10 + 7) a7).set (k * 10 + 8) a8).set (k * 10 + 9) (.slice ua9 x9.length uc9)))[k * 10 + 7]? = _; rw [Ea (by omega)]; rw [Ea (by omega)]; rw [Eb (by first | omega | (simp only [List.length_set]; omega))]; rfl) | 8, _ => (show (((((((((((Lc.set (k * 10) a0).set (k * 10 + 1) a1).set (k * 10 + 2) (.slice ua2 x2.length uc2)).set (k * 10 + 3) (.slice ua3 x3.length uc3)).set (k * 10 + 4) a4).set (k * 10 + 5) (.slice ua5 x5.length uc5)).set (k * 10 + 6) a6).set (k * 10 + 7) a7).set (k * 10 + 8) a8).set (k * 10 + 9) (.slice ua9 x9.length uc9)))[k * 10 + 8]? = _; rw [Ea (by omega)]; rw [Eb (by first | omega | (simp only [List.length_set]; omega))]; rfl) | 9, _ => (show (((((((((((Lc.set (k * 10) a0).set (k * 10 + 1) a1).set (k * 10 + 2) (.slice ua2 x2.length uc2)).set (k * 10 + 3) (.slice ua3 x3.length uc3)).set (k * 10 + 4) a4).set (k * 10 + 5) (.slice ua5 x5.length uc5)).set (k * 10 + 6) a6).set (k * 10 + 7) a7).set (k * 10 + 8) a8).set (k * 10 + 9) (.slice ua9 x9.length uc9)))[k * 10 + 9]? = _; rw [Eb (by first | omega | (simp only [List.length_set]; omega))]; rfl)) hO2 (fun b hb => ⟨Nat.le_trans hbel.size hb.1, Or.inr hb.1⟩) hT)
   have hst2 : Kt 88 Jm ((((((((((w2.setCell ⟨w, k * 10, none⟩ a0).setCell ⟨w, k * 10 + 1, none⟩ a1).setCell ⟨w, k * 10 + 2, none⟩ (.slice ua2 x2.length uc2)).setCell ⟨w, k * 10 + 3, none⟩ (.slice ua3 x3.length uc3)).setCell ⟨w, k * 10 + 4, none⟩ a4).setCell ⟨w, k * 10 + 5, none⟩ (.slice ua5 x5.length uc5)).setCell ⟨w, k * 10 + 6, none⟩ a6).setCell ⟨w, k * 10 + 7, none⟩ a7).setCell ⟨w, k * 10 + 8, none⟩ a8).setCell ⟨w, k * 10 + 9, none⟩ (.slice ua9 x9.length uc9)) (Kg w) (.slice (some ⟨w, 0, none⟩) xs.length xs.length) (xs.take (k + 1) ++ List.replicate (xs.length - (k + 1)) Jm.d) := by have := hst.out; rw [HSET.out] at this; exact this
   have HST := hd hst2
   clear hst hst2 hT hT2 hO2 r9 r0 hrow hO hput hown hbel b2 ow b3 hLl hLc hFj
   go_wp2
   go_roundw
   case rel => exact ⟨k + 1, by omega, by go_num, HST.out, B3.out⟩
   case measure => simp [intOf]; omega
  ·
   obtain rfl : k = xs.length := by omega
   have HE : Hid (xs.take xs.length ++ List.replicate (xs.length - xs.length) Jm.d = xs) := hd (by simp)
   rw [HE.out] at hown
   go_wp2
   go_ret
   exact ⟨_, rfl, hown, hbel⟩
set_option maxHeartbeats 2000000 in
theorem copyLVersionint (v : Value) (xs : List Int) (w : World) (h : Kc Jf w v xs) (hn : xs.length ≤ 1048576) :
  Calls Tryz.prog 101 #[v] w (Yi 3 Jf w xs) := by
 have H := hd h
 have HN := hd hn
 obtain ⟨a, cap, rfl⟩ := Jo h
 clear h hn
 go_enter Tryz.func101, Tryz.ntmps101
 go_wp2_with (at_builtin; refine Xq Jb Yw Vq Tryz.underlying25 rfl rfl _ (.tmp 3) rfl (fun _ => False) (Kg w) _ _ [] xs rfl rfl (Vl _ _ _ _) H.out (fun _ h => h.elim) (Ed _) (by have := HN.out; simp; omega) ?_)
 intro v' w1 o1 t1
 obtain ⟨va, vc, rfl⟩ := Js o1
 have b1 := Jr (Eh w.heap.size w) t1 (fun _ h => h.elim) (Ed _)
 go_wp2
 go_ret
 exact ⟨_, rfl, o1, b1⟩
set_option maxHeartbeats 8000000 in
theorem copyVersion_P (a0 : Int) (a2 : Int) (a3 : Int) (v1 : Value) (x1 : List Int) (w : World) (h1 : Kc Jf w v1 x1) (s1 : zL Jf x1 ≤ 1048576) :
  Calls Tryz.prog 183 #[.agg #[a0, v1, a2, a3]] w (Yc Jn (fun cs => .agg cs.toArray) w (a0, x1, a2, a3)) := by
 obtain ⟨sa1, sc1, rfl⟩ := Jo h1
 have H1 := hd h1; have N1 := hd (Jz s1)
 clear h1 s1
 have d := hd (((Eh w.heap.size w).alloc (Ed _) (.cells #[a0, .slice sa1 x1.length sc1, a2, a3] 178)).alloc (by simp) (.cells #[Ja, (), Ja, Ja] 178))
 have B0 : Hid (((w.alloc (.cells #[a0, .slice sa1 x1.length sc1, a2, a3] 178)).alloc (.cells #[Ja, (), Ja, Ja] 178)).heap[w.heap.size]? = some (.cells #[a0, .slice sa1 x1.length sc1, a2, a3] 178 (0, 0))) := hd (by rw [Below.heap_alloc _ _ _ (by simp)]; exact Uw w _)
 have B1 : Hid (((w.alloc (.cells #[a0, .slice sa1 x1.length sc1, a2, a3] 178)).alloc (.cells #[Ja, (), Ja, Ja] 178)).heap[(w.heap.size + 1)]? = some (.cells #[Ja, (), Ja, Ja] 178 (0, 0))) := hd (by
  have := Uw (w.alloc (.cells #[a0, .slice sa1 x1.length sc1, a2, a3] 178)) (.cells #[Ja, (), Ja, Ja] 178)
  simpa only [Ux] using this)
 have YW : Hid (w.heap.size + 1 < ((w.alloc (.cells #[a0, .slice sa1 x1.length sc1, a2, a3] 178)).alloc (.cells #[Ja, (), Ja, Ja] 178)).heap.size) := hd (by simp)
 go_enter Tryz.func183, Tryz.ntmps183
 go_wp2_with fail
 generalize ((w.alloc (.cells #[a0, .slice sa1 x1.length sc1, a2, a3] 178)).alloc (.cells #[Ja, (), Ja, Ja] 178)) = W at *
 refine (copyLVersionint (.slice sa1 x1.length sc1) x1 W (Jc Jb H1.out d.out) N1.out).mono ?_
 rintro e wq1 ⟨u, rfl, o1, c1⟩
 replace o1 := Ki Jb o1
 obtain ⟨ua1, uc1, rfl⟩ := Js o1
 replace B0 := zb c1 B0
 replace B1 := zb c1 B1
 have P1 := hd o1
 have y0 := YW.out; have yd := d.out.size; have yc := c1.size
 have Q1 : Hid (∀ b, (Kg W b ∧ b < wq1.heap.size) → w.heap.size + 1 < b ∧ W.heap.size ≤ b ∧ b < wq1.heap.size) := hd (fun b h => ⟨Ee y0 h.1, h.1, h.2⟩)
 have Zq1 : Hid (W.heap.size ≤ wq1.heap.size) := hd yc
 replace d := zD d c1
 replace YW : Hid (w.heap.size + 1 < wq1.heap.size) := hd (Ee y0 yc)
 clear o1 c1 y0 yd yc
 have p0 := cr 1 (Value.slice sa1 x1.length sc1) B0.out
 have f0 := Ut wq1 _ 1 _ _ B0.out
 skip
 have tt : Jy (fun b => b = w.heap.size) wq1 (wq1.setCell ⟨w, 1, none⟩ (.slice ua1 x1.length uc1)) := Jh (G := fun b => b = w.heap.size) (g := w.heap.size) (j := 1) (u := .slice ua1 x1.length uc1) rfl
 have r := Uv wq1 w.heap.size 1 _ _ (.slice ua1 x1.length uc1) B0.out
 simp at r
 have y1 := YW.out
 have K0 : Hid ((wq1.setCell ⟨w, 1, none⟩ (.slice ua1 x1.length uc1)).heap[w.heap.size]? = some (.cells #[a0, .slice ua1 x1.length uc1, a2, a3] 178 (0, 0))) := hd r
 have K1 := hd ((tt.block (w.heap.size + 1) (Array.getElem?_eq_some_iff.1 B1.out).1 (fun h => by omega)).trans B1.out)
 have KP1 := zt Jb P1 tt (fun b h1 h2 => by have := Q1.out b h1; omega)
 have kd := hd (Jr d.out tt (fun b h => by omega) d.out.size)
 have KY : Hid (w.heap.size + 1 < (wq1.setCell ⟨w, 1, none⟩ (.slice ua1 x1.length uc1)).heap.size) := hd (Ee y1 tt.size)
 have Zs1 : Hid (wq1.heap.size ≤ (wq1.setCell ⟨w, 1, none⟩ (.slice ua1 x1.length uc1)).heap.size) := hd tt.size
 clear tt r y1 B0 B1 d YW P1
 generalize hW : (wq1.setCell ⟨w, 1, none⟩ (.slice ua1 x1.length uc1)) = WF at *
 have c0 := cr 0 a0 K0.out
 have c1 := cr 1 (Value.slice ua1 x1.length uc1) K0.out
 have c2 := cr 2 a2 K0.out
 have c3 := cr 3 a3 K0.out
 have z0 := cr 0 Ja K1.out
 have g0 := Ut WF _ 0 _ _ K1.out
 have z1 := cr 1 () K1.out
 have g1 := Ut WF _ 1 _ _ K1.out
 have z2 := cr 2 Ja K1.out
 have g2 := Ut WF _ 2 _ _ K1.out
 have z3 := cr 3 Ja K1.out
 have g3 := Ut WF _ 3 _ _ K1.out
 have y1 := KY.out
 have DF := hd ((((kd.out.setCell (p := ⟨w.heap.size + 1, 0, none⟩) (by simp) a0).setCell (p := ⟨w.heap.size + 1, 1, none⟩) (by simp) (.slice ua1 x1.length uc1)).setCell (p := ⟨w.heap.size + 1, 2, none⟩) (by simp) a2).setCell (p := ⟨w.heap.size + 1, 3, none⟩) (by simp) a3)
 have r := st4 K1.out a0 (.slice ua1 x1.length uc1) a2 a3
 try simp at r
 have e0 := (Uu _ (w.heap.size + 1) 0 _ _ _ r).trans (show _ = some (Value.int .i64 a0) from rfl)
 have e1 := (Uu _ (w.heap.size + 1) 1 _ _ _ r).trans (show _ = some (Value.slice ua1 x1.length uc1) from rfl)
 have e2 := (Uu _ (w.heap.size + 1) 2 _ _ _ r).trans (show _ = some (Value.int .i64 a2) from rfl)
 have e3 := (Uu _ (w.heap.size + 1) 3 _ _ _ r).trans (show _ = some (Value.int .i64 a3) from rfl)
 have tt := ts4 WF (w.heap.size + 1) a0 (.slice ua1 x1.length uc1) a2 a3
 have PF1 := zt Jb KP1 tt (fun b h1 h2 => by have := Q1.out b h1; omega)
 clear r tt KY K1 kd y1 K0 KP1
 subst hW
 go_wp2
 refine bodyPost_ret (v := .agg #[a0, .slice ua1 x1.length uc1, a2, a3]) ?_ rfl ⟨[a0, .slice ua1 x1.length uc1, a2, a3], rfl, Xu PF1.out (fun b h => by have := Q1.out b h; show w.heap.size ≤ b; omega) , DF.out⟩
 simp [results, Tryz.f183, go_sem, e0, e1, e2, e3]
set_option maxHeartbeats 8000000 in
theorem copyEachVersion (v : Value) (xs : List (Int × List Int × Int × Int)) (w : World) (h : Kc Jn w v xs) (hs : zL Jn xs ≤ 1048576) :
  Calls Tryz.prog 182 #[v, .func (.func 183) #[] #[]] w (Yi 178 Jn w xs) := by
 obtain ⟨i0, hi, hz0, hz1⟩ : ∃ i0, Tryz.prog.info? 178 = some i0 ∧ i0.zero = some (.agg #[Ja, (), Ja, Ja]) ∧ i0.size = 4 := by
  have h0 := Tryz.info_Version
  cases q : Tryz.prog.info? 178 with
  | none => rw [q] at h0; simp at h0
  | some i => rw [q] at h0; simp only [Option.map_some, Option.some.injEq, Prod.mk.injEq] at h0; exact ⟨i, rfl, h0.1, h0.2⟩
 have hz2 : i0.bytes ≤ 512 := by
  have h0 := Tryz.bytes_Version
  rw [hi] at h0
  simpa using h0
 have HI := hd hi; have HZ0 := hd hz0; have HZ1 := hd hz1; have HZ2 := hd hz2
 clear hi hz0 hz1 hz2
 have H := hd h
 have hlen := Jz hs
 have HS := hd hs
 obtain ⟨a, cap, rfl⟩ := Jo h
 clear h hs
 go_enter Tryz.func182, Tryz.ntmps182
 go_wp2_with (at_make; refine wpList_make_full _ rfl (.tmp 9) (.tmp 9) 179 rfl w.heap.size 178 i0 (.agg #[Ja, (), Ja, Ja]) 4 Tryz.underlying179 HI.out HZ0.out HZ1.out _ _ _ _ xs.length rfl rfl rfl rfl (by have h9 := Nat.mul_le_mul HZ2.out hlen; have h8 := Nat.mul_le_mul hlen HZ2.out; omega) (by unfold maxLen; omega) (Ed _) ?_)
 intro w1 hown0 hg0
 have hown1 : Kt 178 Jn w1 (Kg w) (.slice (some ⟨w, 0, none⟩) xs.length xs.length) (List.replicate xs.length Jn.d) := Yu (z := #[.int .i64 0, .slice none 0 0, .int .i64 0, .int .i64 0]) Ka rfl (tVersion_zero w1) (Ed _) hown0
 have hbel1 := (Eh w.heap.size w).grown hg0 (Ed _) (fun k hk => by cases hk)
 clear hown0 hg0
 go_wp2
 go_loopw [13] (fun i wr => ∃ k : Nat, k ≤ xs.length ∧ i = .int .i64 k ∧ Kt 178 Jn wr (Kg w) (.slice (some ⟨w, 0, none⟩) xs.length xs.length) (xs.take k ++ List.replicate (xs.length - k) Jn.d) ∧ Below w w wr) (fun i _ => xs.length - (intOf i).toNat)
 case atStart => exact ⟨0, Ef _, rfl, by simpa using hown1, hbel1⟩
 case round =>
  obtain ⟨k, hk, rfl, hown, hbel⟩ := hrel
  by_cases hlt : k < xs.length
  ·
   have HSET := hd (Yx (d := Jn.d) hlt)
   have HKL : Hid (k < (xs.take k ++ List.replicate (xs.length - k) Jn.d).length) := hd (by rw [Vc hk]; exact hlt)
   have HLL := hd (Vc (d := Jn.d) hk)
   have i1 : (0 : Int) ≤ (k : Int) := by omega
   have i2 : (k : Int) < (xs.length : Int) := by omega
   have hzx := Kz HS.out hlt
   obtain ⟨b, off, cap', cs, hv, hbl, hcs, hR⟩ := Km (Jc Ka H.out hbel) hlt
   simp only [Eg] at hv
   obtain ⟨rfl, _, rfl⟩ := hv
   obtain ⟨hme, hFg, hgl, cj, Fj, Lc, hrow, hLc, hO, hFj, hput⟩ := Vh Ka hown HKL.out
   clear hme
   clear hown1 hbel1
   generalize xs.getD k Jn.d = x at *
   generalize xs.take k ++ List.replicate (xs.length - k) Jn.d = ys at *
   obtain ⟨a0, x1, a2, a3⟩ := x
   obtain ⟨v1, hR'⟩ := Xe hR
   obtain ⟨rfl, h1⟩ := hR'
   have p0 : wr.cell? ⟨b, off + k * 4, none⟩ = some (Value.int .i64 a0) := hcs 0 (by decide)
   have p1 : wr.cell? ⟨b, off + k * 4 + 1, none⟩ = some (v1) := hcs 1 (by decide)
   have p2 : wr.cell? ⟨b, off + k * 4 + 2, none⟩ = some (Value.int .i64 a2) := hcs 2 (by decide)
   have p3 : wr.cell? ⟨b, off + k * 4 + 3, none⟩ = some (Value.int .i64 a3) := hcs 3 (by decide)
   rw [Xa] at hzx
   have S1 := hd (show zL Jf x1 ≤ 1048576 by omega)
   obtain ⟨sa1, sc1, rfl⟩ := Jo h1
   have HC := hd (fun w g1 => copyVersion_P a0 a2 a3 (.slice sa1 x1.length sc1) x1 w g1 S1.out)
   have G1 := hd h1
   clear hcs hzx h1
   have hal : Below wr wr (wr.alloc (.cells #[a0, .slice sa1 x1.length sc1, a2, a3] 178)) := (Eh _ _).alloc (Ed _) _
   go_wp2_with fail
   generalize wr.alloc (.cells #[a0, .slice sa1 x1.length sc1, a2, a3] 178) = W2 at *
   refine (HC.out _ (Jc Jb G1.out hal)).mono ?_
   rintro e w2 ⟨cv, rfl, ow0, b20⟩
   have ow : Jn.O w2 (Kg wr) cv _ := Ka.mono ow0 (fun b hb => Nat.le_trans hal.size hb)
   have b2 := hal.trans (b20.mono hal.size)
   clear ow0 b20 hal
   replace ow := Ka.lt ow
   have ow2 := ow
   obtain ⟨u1, K1, rfl, o1, _⟩ := tVersion_O ow2
   obtain ⟨ua1, uc1, rfl⟩ := Js o1
   clear o1
   have r0 := Kv (G := fun _ => False) hrow (Kj b2) (fun _ _ => not_false)
   rw [HLL.out] at r0
   have q0 : ∃ x, w2.cell? ⟨w, k * 4, none⟩ = some x := zq r0 (k * 4) (by have := HKL.out; rw [HLL.out] at this; show _ < xs.length * 4; omega)
   obtain ⟨y0, q0⟩ := q0
   have f0 := Uy r0 (k * 4)
   have q1 : ∃ x, w2.cell? ⟨w, k * 4 + 1, none⟩ = some x := zq r0 (k * 4 + 1) (by have := HKL.out; rw [HLL.out] at this; show _ < xs.length * 4; omega)
   obtain ⟨y1, q1⟩ := q1
   have f1 := Uy r0 (k * 4 + 1)
   have q2 : ∃ x, w2.cell? ⟨w, k * 4 + 2, none⟩ = some x := zq r0 (k * 4 + 2) (by have := HKL.out; rw [HLL.out] at this; show _ < xs.length * 4; omega)
   obtain ⟨y2, q2⟩ := q2
   have f2 := Uy r0 (k * 4 + 2)
   have q3 : ∃ x, w2.cell? ⟨w, k * 4 + 3, none⟩ = some x := zq r0 (k * 4 + 3) (by have := HKL.out; rw [HLL.out] at this; show _ < xs.length * 4; omega)
   obtain ⟨y3, q3⟩ := q3
   have f3 := Uy r0 (k * 4 + 3)
   have b3 := hbel.trans (b2.mono hbel.size)
   have B3 := hd ((((b3.setCell (p := ⟨w, k * 4, none⟩) (Ed _) a0).setCell (p := ⟨w, k * 4 + 1, none⟩) (Ed _) (.slice ua1 x1.length uc1)).setCell (p := ⟨w, k * 4 + 2, none⟩) (Ed _) a2).setCell (p := ⟨w, k * 4 + 3, none⟩) (Ed _) a3)
   have hT : Jy (fun b => b = w.heap.size ∨ Fj b ∨ wr.heap.size ≤ b) wr ((((w2.setCell ⟨w, k * 4, none⟩ a0).setCell ⟨w, k * 4 + 1, none⟩ (.slice ua1 x1.length uc1)).setCell ⟨w, k * 4 + 2, none⟩ a2).setCell ⟨w, k * 4 + 3, none⟩ a3) := (((((Kj b2).trans (Jh (j := k * 4) (u := .int .i64 a0) (Or.inl rfl))).trans (Jh (j := k * 4 + 1) (u := .slice ua1 x1.length uc1) (Or.inl rfl))).trans (Jh (j := k * 4 + 2) (u := .int .i64 a2) (Or.inl rfl))).trans (Jh (j := k * 4 + 3) (u := .int .i64 a3) (Or.inl rfl)))
   have hT2 : Jy (fun b => b = w.heap.size) w2 ((((w2.setCell ⟨w, k * 4, none⟩ a0).setCell ⟨w, k * 4 + 1, none⟩ (.slice ua1 x1.length uc1)).setCell ⟨w, k * 4 + 2, none⟩ a2).setCell ⟨w, k * 4 + 3, none⟩ a3) := (((((Jy.refl (fun b => b = w.heap.size) _).trans (Jh (G := fun b => b = w.heap.size) (j := k * 4) (u := .int .i64 a0) rfl)).trans (Jh (G := fun b => b = w.heap.size) (j := k * 4 + 1) (u := .slice ua1 x1.length uc1) rfl)).trans (Jh (G := fun b => b = w.heap.size) (j := k * 4 + 2) (u := .int .i64 a2) rfl)).trans (Jh (G := fun b => b = w.heap.size) (j := k * 4 + 3) (u := .int .i64 a3) rfl))
   have hO2 := Ka.turn ow hT2 (fun b h1 h2 => by have := h1.1; simp only [Kg] at this; omega)
   have r9 := (Uz (Uz (Uz (Uz r0 (k * 4) a0).1 (k * 4 + 1) (.slice ua1 x1.length uc1)).1 (k * 4 + 2) a2).1 (k * 4 + 3) a3).1
   have hLl : Lc.length = xs.length * 4 := r0.1
   have hst := hd (hput ((((w2.setCell ⟨w, k * 4, none⟩ a0).setCell ⟨w, k * 4 + 1, none⟩ (.slice ua1 x1.length uc1)).setCell ⟨w, k * 4 + 2, none⟩ a2).setCell ⟨w, k * 4 + 3, none⟩ a3) ((((Lc.set (k * 4) a0).set (k * 4 + 1) (.slice ua1 x1.length uc1)).set (k * 4 + 2) a2).set (k * 4 + 3) a3) [a0, .slice ua1 x1.length uc1, a2, a3] _ (a0, x1, a2, a3) (by rw [HLL.out]; exact r9) (fun p hp => by have hp2 : p < k * 4 ∨ k * 4 + 4 ≤ p := hp; rw [Ea (by omega)]; rw [Ea (by omega)]; rw [Ea (by omega)]; rw [Ea (by omega)]) (fun i hi => by have hi' : i < 4 := hi; match i, hi' with | 0, _ => (show (((((Lc.set (k * 4) a0).set (k * 4 + 1) (.slice ua1 x1.length uc1)).set (k * 4 + 2) a2).set (k * 4 + 3) a3))[k * 4]? = _; rw [Ea (by omega)]; rw [Ea (by omega)]; rw [Ea (by omega)]; rw [Eb (by first | omega | (simp only [List.length_set]; omega))]; rfl) | 1, _ => (show (((((Lc.set (k * 4) a0).set (k * 4 + 1) (.slice ua1 x1.length uc1)).set (k * 4 + 2) a2).set (k * 4 + 3) a3))[k * 4 + 1]? = _; rw [Ea (by omega)]; rw [Ea (by omega)]; rw [Eb (by first | omega | (simp only [List.length_set]; omega))]; rfl) | 2, _ => (show (((((Lc.set (k * 4) a0).set (k * 4 + 1) (.slice ua1 x1.length uc1)).set (k * 4 + 2) a2).set (k * 4 + 3) a3))[k * 4 + 2]? = _; rw [Ea (by omega)]; rw [Eb (by first | omega | (simp only [List.length_set]; omega))]; rfl) | 3, _ => (show (((((Lc.set (k * 4) a0).set (k * 4 + 1) (.slice ua1 x1.length uc1)).set (k * 4 + 2) a2).set (k * 4 + 3) a3))[k * 4 + 3]? = _; rw [Eb (by first | omega | (simp only [List.length_set]; omega))]; rfl)) hO2 (fun b hb => ⟨Nat.le_trans hbel.size hb.1, Or.inr hb.1⟩) hT)
   have hst2 : Kt 178 Jn ((((w2.setCell ⟨w, k * 4, none⟩ a0).setCell ⟨w, k * 4 + 1, none⟩ (.slice ua1 x1.length uc1)).setCell ⟨w, k * 4 + 2, none⟩ a2).setCell ⟨w, k * 4 + 3, none⟩ a3) (Kg w) (.slice (some ⟨w, 0, none⟩) xs.length xs.length) (xs.take (k + 1) ++ List.replicate (xs.length - (k + 1)) Jn.d) := by have := hst.out; rw [HSET.out] at this; exact this
   have HST := hd hst2
   clear hst hst2 hT hT2 hO2 r9 r0 hrow hO hput hown hbel b2 ow b3 hLl hLc hFj
   go_wp2
   go_roundw
   case rel => exact ⟨k + 1, by omega, by go_num, HST.out, B3.out⟩
   case measure => simp [intOf]; omega
  ·
   obtain rfl : k = xs.length := by omega
   have HE : Hid (xs.take xs.length ++ List.replicate (xs.length - xs.length) Jn.d = xs) := hd (by simp)
   rw [HE.out] at hown
   go_wp2
   go_ret
   exact ⟨_, rfl, hown, hbel⟩
set_option maxHeartbeats 2000000 in
theorem copyVersions_any (v : Value) (xs : List (Int × List Int × Int × Int)) (w : World) (h : Kc Jn w v xs) (hs : zL Jn xs ≤ 1048576) :
  Calls Tryz.prog 153 #[v] w (Yi 178 Jn w xs) := by
 have H := hd (fun w h => copyEachVersion v xs w h hs)
 have HV := hd h
 clear h hs
 go_enter Tryz.func153, Tryz.ntmps153
 go_wp2_with fail
 refine (H.out _ HV.out).mono ?_
 rintro e w1 ⟨u, rfl, o1, b1⟩
 obtain ⟨ua, uc, rfl⟩ := Js o1
 go_wp2
 go_ret
 exact ⟨_, rfl, o1, b1⟩
set_option maxHeartbeats 8000000 in
theorem copyEachVersionS (v : Value) (xs : List (List (Int × List Int × Int × Int))) (w : World) (h : Kc Je w v xs) (hs : zL Je xs ≤ 1048576) :
  Calls Tryz.prog 152 #[v, .func (.func 153) #[] #[]] w (Yi 179 Je w xs) := by
 obtain ⟨i0, hi, hz0, hz1⟩ : ∃ i0, Tryz.prog.info? 179 = some i0 ∧ i0.zero = some (.slice none 0 0) ∧ i0.size = 1 := by
  have h0 := Tryz.info_VersionS
  cases q : Tryz.prog.info? 179 with
  | none => rw [q] at h0; simp at h0
  | some i => rw [q] at h0; simp only [Option.map_some, Option.some.injEq, Prod.mk.injEq] at h0; exact ⟨i, rfl, h0.1, h0.2⟩
 have hz2 : i0.bytes ≤ 512 := by
  have h0 := Tryz.bytes_VersionS
  rw [hi] at h0
  simpa using h0
 have HI := hd hi; have HZ0 := hd hz0; have HZ1 := hd hz1; have HZ2 := hd hz2
 clear hi hz0 hz1 hz2
 have H := hd h
 have hlen := Jz hs
 have HS := hd hs
 obtain ⟨a, cap, rfl⟩ := Jo h
 clear h hs
 go_enter Tryz.func152, Tryz.ntmps152
 go_wp2_with (at_make; refine wpList_make_full _ rfl (.tmp 9) (.tmp 9) 36 rfl w.heap.size 179 i0 () 1 Tryz.underlying36 HI.out HZ0.out HZ1.out _ _ _ _ xs.length rfl rfl rfl rfl (by have h9 := Nat.mul_le_mul HZ2.out hlen; have h8 := Nat.mul_le_mul hlen HZ2.out; omega) (by unfold maxLen; omega) (Ed _) ?_)
 intro w1 hown0 hg0
 have hown1 : Kt 179 Je w1 (Kg w) (.slice (some ⟨w, 0, none⟩) xs.length xs.length) (List.replicate xs.length Je.d) := Yu (z := #[.slice none 0 0]) Jd rfl (tVersionS_zero w1) (Ed _) (by rw [show xs.length * Je.n = xs.length from Nat.mul_one _]; exact hown0)
 have hbel1 := (Eh w.heap.size w).grown hg0 (Ed _) (fun k hk => by cases hk)
 clear hown0 hg0
 go_wp2
 go_loopw [13] (fun i wr => ∃ k : Nat, k ≤ xs.length ∧ i = .int .i64 k ∧ Kt 179 Je wr (Kg w) (.slice (some ⟨w, 0, none⟩) xs.length xs.length) (xs.take k ++ List.replicate (xs.length - k) Je.d) ∧ Below w w wr) (fun i _ => xs.length - (intOf i).toNat)
 case atStart => exact ⟨0, Ef _, rfl, by simpa using hown1, hbel1⟩
 case round =>
  obtain ⟨k, hk, rfl, hown, hbel⟩ := hrel
  by_cases hlt : k < xs.length
  ·
   have HSET := hd (Yx (d := Je.d) hlt)
   have HKL : Hid (k < (xs.take k ++ List.replicate (xs.length - k) Je.d).length) := hd (by rw [Vc hk]; exact hlt)
   have HLL := hd (Vc (d := Je.d) hk)
   have i1 : (0 : Int) ≤ (k : Int) := by omega
   have i2 : (k : Int) < (xs.length : Int) := by omega
   have hzx := Kz HS.out hlt
   obtain ⟨b, off, cap', cs, hv, hbl, hcs, hR⟩ := Km (Jc Jd H.out hbel) hlt
   simp only [Eg] at hv
   obtain ⟨rfl, _, rfl⟩ := hv
   obtain ⟨hme, hFg, hgl, cj, Fj, Lc, hrow, hLc, hO, hFj, hput⟩ := Vh Jd hown HKL.out
   clear hme
   clear hown1 hbel1
   generalize xs.getD k Je.d = x at *
   generalize xs.take k ++ List.replicate (xs.length - k) Je.d = ys at *
   obtain ⟨u, rfl, h0⟩ := hR
   have p0 : wr.cell? ⟨b, off + k, none⟩ = some u := by have := hcs 0 Nat.one_pos; rw [show Je.n = 1 from rfl, Nat.mul_one, Nat.add_zero] at this; exact this
   have HC := hd (fun w g => copyVersions_any u x w g hzx)
   have G0 := hd h0
   clear hcs h0
   go_wp2_with fail
   refine (HC.out _ G0.out).mono ?_
   rintro e w2 ⟨u2, rfl, ow0, b2⟩
   replace ow0 := Ki Ka ow0
   obtain ⟨ua, uc, rfl⟩ := Js ow0
   have ow : Je.O w2 (fun b => Kg wr b ∧ b < w2.heap.size) [.slice ua x.length uc] x := ⟨_, rfl, ow0⟩
   have r0 := Kv (G := fun _ => False) hrow (Kj b2) (fun _ _ => not_false)
   rw [HLL.out] at r0
   have q0 : ∃ x, w2.cell? ⟨w, k, none⟩ = some x := zq r0 (k) (by have := HKL.out; rw [HLL.out] at this; show _ < xs.length * 1; omega)
   obtain ⟨y0, q0⟩ := q0
   have f0 := Uy r0 (k)
   have b3 := hbel.trans (b2.mono hbel.size)
   have B3 := hd (b3.setCell (p := ⟨w, k, none⟩) (Ed _) (.slice ua x.length uc))
   have hT : Jy (fun b => b = w.heap.size ∨ Fj b ∨ wr.heap.size ≤ b) wr (w2.setCell ⟨w, k, none⟩ (.slice ua x.length uc)) := ((Kj b2).trans (Jh (j := k) (u := .slice ua x.length uc) (Or.inl rfl)))
   have hT2 : Jy (fun b => b = w.heap.size) w2 (w2.setCell ⟨w, k, none⟩ (.slice ua x.length uc)) := ((Jy.refl (fun b => b = w.heap.size) _).trans (Jh (G := fun b => b = w.heap.size) (j := k) (u := .slice ua x.length uc) rfl))
   have hO2 := Jd.turn ow hT2 (fun b h1 h2 => by have := h1.1; simp only [Kg] at this; omega)
   have r9 := (Uz r0 (k) (.slice ua x.length uc)).1
   have hLl : Lc.length = xs.length * 1 := r0.1
   have hst := hd (hput (w2.setCell ⟨w, k, none⟩ (.slice ua x.length uc)) (Lc.set (k) (.slice ua x.length uc)) [.slice ua x.length uc] _ x (by rw [HLL.out]; exact r9) (fun p hp => by have hp2 : p < k * 1 ∨ k * 1 + 1 ≤ p := hp; rw [Ea (by omega)]) (fun i hi => by have hi2 : i < 1 := hi; obtain rfl : i = 0 := (by omega); have e0 : k * Je.n + 0 = k := (by show k * 1 + 0 = k; omega); rw [e0]; exact Eb (by omega)) hO2 (fun b hb => ⟨Nat.le_trans hbel.size hb.1, Or.inr hb.1⟩) hT)
   have hst2 : Kt 179 Je (w2.setCell ⟨w, k, none⟩ (.slice ua x.length uc)) (Kg w) (.slice (some ⟨w, 0, none⟩) xs.length xs.length) (xs.take (k + 1) ++ List.replicate (xs.length - (k + 1)) Je.d) := by have := hst.out; rw [HSET.out] at this; exact this
   have HST := hd hst2
   clear hst hst2 hT hT2 hO2 r9 r0 hrow hO hput hown hbel b2 ow b3 hLl hLc hFj
   go_wp2
   go_roundw
   case rel => exact ⟨k + 1, by omega, by go_num, HST.out, B3.out⟩
   case measure => simp [intOf]; omega
  ·
   obtain rfl : k = xs.length := by omega
   have HE : Hid (xs.take xs.length ++ List.replicate (xs.length - xs.length) Je.d = xs) := hd (by simp)
   rw [HE.out] at hown
   go_wp2
   go_ret
   exact ⟨_, rfl, hown, hbel⟩
set_option maxHeartbeats 8000000 in
theorem copyStore_P (a1 : Int) (v0 : Value) (x0 : List (List (Int × List Int × Int × Int))) (w : World) (h0 : Kc Je w v0 x0) (s0 : zL Je x0 ≤ 1048576) :
  Calls Tryz.prog 100 #[.agg #[v0, a1]] w (Yc tStore (fun cs => .agg cs.toArray) w (x0, a1)) := by
 obtain ⟨sa0, sc0, rfl⟩ := Jo h0
 have H := hd (fun w h => copyEachVersionS (.slice sa0 x0.length sc0) x0 w h s0)
 have HV := hd h0
 clear h0 s0
 have d := hd (((Eh w.heap.size w).alloc (Ed _) (.cells #[.slice sa0 x0.length sc0, a1] 38)).alloc (by simp) (.cells #[(), Ja] 38))
 have B0 : Hid (((w.alloc (.cells #[.slice sa0 x0.length sc0, a1] 38)).alloc (.cells #[(), Ja] 38)).heap[w.heap.size]? = some (.cells #[.slice sa0 x0.length sc0, a1] 38 (0, 0))) := hd (by rw [Below.heap_alloc _ _ _ (by simp)]; exact Uw w _)
 have B1 : Hid (((w.alloc (.cells #[.slice sa0 x0.length sc0, a1] 38)).alloc (.cells #[(), Ja] 38)).heap[(w.heap.size + 1)]? = some (.cells #[(), Ja] 38 (0, 0))) := hd (by
  have := Uw (w.alloc (.cells #[.slice sa0 x0.length sc0, a1] 38)) (.cells #[(), Ja] 38)
  simpa only [Ux] using this)
 have YW : Hid (w.heap.size + 1 < ((w.alloc (.cells #[.slice sa0 x0.length sc0, a1] 38)).alloc (.cells #[(), Ja] 38)).heap.size) := hd (by simp)
 go_enter Tryz.func100, Tryz.ntmps100
 go_wp2_with fail
 generalize ((w.alloc (.cells #[.slice sa0 x0.length sc0, a1] 38)).alloc (.cells #[(), Ja] 38)) = W at *
 refine (H.out W (Jc Jd HV.out d.out)).mono ?_
 rintro e w1 ⟨u, rfl, o1, c1⟩
 replace o1 := Ki Jd o1
 obtain ⟨ua, uc, rfl⟩ := Js o1
 replace B0 := zb c1 B0
 replace B1 := zb c1 B1
 have P1 := hd o1
 have y0 := YW.out; have yc := c1.size
 have Q1 : Hid (∀ b, (Kg W b ∧ b < w1.heap.size) → w.heap.size + 1 < b) := hd (fun b h => Ee y0 h.1)
 replace d := zD d c1
 replace YW : Hid (w.heap.size + 1 < w1.heap.size) := hd (Ee y0 yc)
 clear o1 c1 y0 yc
 have p0 := cr 0 (Value.slice sa0 x0.length sc0) B0.out
 have f0 := Ut w1 _ 0 _ _ B0.out
 have tt : Jy (fun b => b = w.heap.size) w1 (w1.setCell ⟨w, 0, none⟩ (.slice ua x0.length uc)) := Jh (G := fun b => b = w.heap.size) (g := w.heap.size) (j := 0) (u := .slice ua x0.length uc) rfl
 have r := Uv w1 w.heap.size 0 _ _ (.slice ua x0.length uc) B0.out
 simp at r
 have y1 := YW.out
 have K0 : Hid ((w1.setCell ⟨w, 0, none⟩ (.slice ua x0.length uc)).heap[w.heap.size]? = some (.cells #[.slice ua x0.length uc, a1] 38 (0, 0))) := hd r
 have K1 := hd ((tt.block (w.heap.size + 1) (Array.getElem?_eq_some_iff.1 B1.out).1 (fun h => by omega)).trans B1.out)
 have KP1 := zt Jd P1 tt (fun b h1 h2 => by have := Q1.out b h1; omega)
 have kd := hd (Jr d.out tt (fun b h => by omega) d.out.size)
 have KY : Hid (w.heap.size + 1 < (w1.setCell ⟨w, 0, none⟩ (.slice ua x0.length uc)).heap.size) := hd (Ee y1 tt.size)
 clear tt r y1 B0 B1 d YW P1
 generalize hW : (w1.setCell ⟨w, 0, none⟩ (.slice ua x0.length uc)) = WF at *
 have c0 := cr 0 (Value.slice ua x0.length uc) K0.out
 have c1 := cr 1 a1 K0.out
 have z0 := cr 0 () K1.out
 have g0 := Ut WF _ 0 _ _ K1.out
 have z1 := cr 1 Ja K1.out
 have g1 := Ut WF _ 1 _ _ K1.out
 have y1 := KY.out
 have DF := hd ((kd.out.setCell (p := ⟨w.heap.size + 1, 0, none⟩) (by simp) (.slice ua x0.length uc)).setCell (p := ⟨w.heap.size + 1, 1, none⟩) (by simp) a1)
 have r := st2 K1.out (.slice ua x0.length uc) a1
 try simp at r
 have e0 := (Uu _ (w.heap.size + 1) 0 _ _ _ r).trans (show _ = some (Value.slice ua x0.length uc) from rfl)
 have e1 := (Uu _ (w.heap.size + 1) 1 _ _ _ r).trans (show _ = some (Value.int .i64 a1) from rfl)
 have tt := ts2 WF (w.heap.size + 1) (.slice ua x0.length uc) a1
 have PF1 := zt Jd KP1 tt (fun b h1 h2 => by have := Q1.out b h1; omega)
 clear r tt KY K1 kd y1 K0 KP1
 subst hW
 go_wp2
 refine bodyPost_ret (v := .agg #[.slice ua x0.length uc, a1]) ?_ rfl ⟨[.slice ua x0.length uc, a1], rfl, tStore_mkO PF1.out (fun b h => by have := Q1.out b h; show w.heap.size ≤ b; omega), DF.out⟩
 simp [results, Tryz.f100, go_sem, e0, e1]
set_option maxHeartbeats 16000000 in
theorem copyEngine_P (a1 a2 a7 : Int) (v0 v3 v4 v5 v6 : Value) (x0 : List (List (Int × List Int × Int × Int))) (x3 : List Int) (x4 : List ((Int × Int × List (Int × Int × Int) × List Int) × Int × List Int × Int × Int × Int × List (Int × List Int))) (x5 : List ((Int × Int × List (Int × Int × Int) × List Int) × Int × Int × List (Int × List Int))) (x6 : List (Int × Int × List Int × List Int × List Int)) (w : World) (h0 : Kc Je w v0 x0) (h3 : Kc Jf w v3 x3) (h4 : Kc Jm w v4 x4) (h5 : Kc Jk w v5 x5) (h6 : Kc Jp w v6 x6) (s0 : zL Je x0 ≤ 1048576) (s3 : zL Jf x3 ≤ 1048576) (s4 : zL Jm x4 ≤ 1048576) (s5 : zL Jk x5 ≤ 1048576) (s6 : zL Jp x6 ≤ 1048576) :
  Calls Tryz.prog 48 #[.agg #[v0, a1, a2, v3, v4, v5, v6, a7]] w (Yc Yj (fun cs => .agg cs.toArray) w ((x0, a1), a2, x3, x4, x5, x6, a7)) := by
 obtain ⟨c0, k0, rfl⟩ := Jo h0
 have H0 := hd h0; have S0 := hd s0; have N0 := hd (Jz s0)
 obtain ⟨c3, k3, rfl⟩ := Jo h3
 have H3 := hd h3; have S3 := hd s3; have N3 := hd (Jz s3)
 obtain ⟨c4, k4, rfl⟩ := Jo h4
 have H4 := hd h4; have S4 := hd s4; have N4 := hd (Jz s4)
 obtain ⟨c5, k5, rfl⟩ := Jo h5
 have H5 := hd h5; have S5 := hd s5; have N5 := hd (Jz s5)
 obtain ⟨c6, k6, rfl⟩ := Jo h6
 have H6 := hd h6; have S6 := hd s6; have N6 := hd (Jz s6)
 clear h0 s0 h3 s3 h4 s4 h5 s5 h6 s6
 have d := hd (show Below w w ((w.alloc (.cells #[.slice c0 x0.length k0, a1, a2, .slice c3 x3.length k3, .slice c4 x4.length k4, .slice c5 x5.length k5, .slice c6 x6.length k6, a7] 43)).alloc (.cells #[(), Ja, Ja, (), (), (), (), Ja] 43)) from (((Eh _ w).alloc (Ed _) _).alloc (by simp) _))
 have B0 : Hid (((w.alloc (.cells #[.slice c0 x0.length k0, a1, a2, .slice c3 x3.length k3, .slice c4 x4.length k4, .slice c5 x5.length k5, .slice c6 x6.length k6, a7] 43)).alloc (.cells #[(), Ja, Ja, (), (), (), (), Ja] 43)).heap[w.heap.size]? = some (.cells #[.slice c0 x0.length k0, a1, a2, .slice c3 x3.length k3, .slice c4 x4.length k4, .slice c5 x5.length k5, .slice c6 x6.length k6, a7] 43 (0, 0))) := hd (by
  rw [Below.heap_alloc _ _ _ (by simp)]
  exact Uw w _)
 have B1 : Hid (((w.alloc (.cells #[.slice c0 x0.length k0, a1, a2, .slice c3 x3.length k3, .slice c4 x4.length k4, .slice c5 x5.length k5, .slice c6 x6.length k6, a7] 43)).alloc (.cells #[(), Ja, Ja, (), (), (), (), Ja] 43)).heap[(w.heap.size + 1)]? = some (.cells #[(), Ja, Ja, (), (), (), (), Ja] 43 (0, 0))) := hd (by
  have := Uw (w.alloc (.cells #[.slice c0 x0.length k0, a1, a2, .slice c3 x3.length k3, .slice c4 x4.length k4, .slice c5 x5.length k5, .slice c6 x6.length k6, a7] 43)) (.cells #[(), Ja, Ja, (), (), (), (), Ja] 43)
  simpa only [Ux] using this)
 have YW : Hid (w.heap.size + 2 ≤ ((w.alloc (.cells #[.slice c0 x0.length k0, a1, a2, .slice c3 x3.length k3, .slice c4 x4.length k4, .slice c5 x5.length k5, .slice c6 x6.length k6, a7] 43)).alloc (.cells #[(), Ja, Ja, (), (), (), (), Ja] 43)).heap.size) := hd (by simp [Ux])
 go_enter Tryz.func48, Tryz.ntmps48
 go_wp2_with fail
 generalize ((w.alloc (.cells #[.slice c0 x0.length k0, a1, a2, .slice c3 x3.length k3, .slice c4 x4.length k4, .slice c5 x5.length k5, .slice c6 x6.length k6, a7] 43)).alloc (.cells #[(), Ja, Ja, (), (), (), (), Ja] 43)) = W at *
 refine (copyStore_P a1 (.slice c0 x0.length k0) x0 W (Jc Jd H0.out d.out) S0.out).mono ?_
 rintro e Wq0 ⟨cs, rfl, ow, c⟩
 replace ow := tStore_law.lt ow
 obtain ⟨u0, F0, rfl, o0, q0⟩ := tStore_O ow
 obtain ⟨ua0, uc0, rfl⟩ := Js o0
 have Q0 : Hid (∀ b, F0 b → W.heap.size ≤ b ∧ b < Wq0.heap.size) := hd (fun b h => q0 b h)
 have P0 := hd o0
 clear ow o0 q0 
 replace B0 := zb c B0
 replace B1 := zb c B1
 replace d := zD d c
 have Z_Wq0 := hd (show W.heap.size ≤ Wq0.heap.size from c.size)
 clear c
 have cp_B0_0 := Kh B0.out
 have cp_B1_0 := Kh B1.out
 have f_B0_0 := Ut Wq0 _ 0 _ _ B0.out
 have f_B0_1 := Ut Wq0 _ 1 _ _ B0.out
 have f_B0_2 := Ut Wq0 _ 2 _ _ B0.out
 have f_B0_3 := Ut Wq0 _ 3 _ _ B0.out
 have f_B0_4 := Ut Wq0 _ 4 _ _ B0.out
 have f_B0_5 := Ut Wq0 _ 5 _ _ B0.out
 have f_B0_6 := Ut Wq0 _ 6 _ _ B0.out
 have f_B0_7 := Ut Wq0 _ 7 _ _ B0.out
 have tt := ts2 Wq0 w.heap.size (.slice ua0 x0.length uc0) a1
 have r := (Uv _ w.heap.size 1 _ _ a1 (Uv _ w.heap.size 0 _ _ (.slice ua0 x0.length uc0) B0.out))
 simp at r
 have y0 := YW.out
 have y1 := Z_Wq0.out
 have KB0 : Hid (((Wq0.setCell ⟨w, 0, none⟩ (.slice ua0 x0.length uc0)).setCell ⟨w, 1, none⟩ a1).heap[w.heap.size]? = some (.cells #[.slice ua0 x0.length uc0, a1, a2, .slice c3 x3.length k3, .slice c4 x4.length k4, .slice c5 x5.length k5, .slice c6 x6.length k6, a7] 43 (0, 0))) := hd r
 have KB1 := hd ((tt.block (w.heap.size + 1) (Array.getElem?_eq_some_iff.1 B1.out).1 (fun h => by omega)).trans B1.out)
 have KP0 := zt Jd P0 tt (fun b h1 h2 => by have r1 := Q0.out b h1; omega)
 have Kd := hd (Jr d.out tt (fun b h => by omega) d.out.size)
 have KZ := hd (show Wq0.heap.size ≤ ((Wq0.setCell ⟨w, 0, none⟩ (.slice ua0 x0.length uc0)).setCell ⟨w, 1, none⟩ a1).heap.size from tt.size)
 clear tt r y0 y1
 have kk3 := (Uu ((Wq0.setCell ⟨w, 0, none⟩ (.slice ua0 x0.length uc0)).setCell ⟨w, 1, none⟩ a1) _ 3 _ _ _ KB0.out).trans (show _ = some (Value.slice c3 x3.length k3) from rfl)
 go_wp2_with fail
 clear cp_B0_0 cp_B1_0 f_B0_0 f_B0_1 f_B0_2 f_B0_3 f_B0_4 f_B0_5 f_B0_6 f_B0_7 kk3
 generalize ((Wq0.setCell ⟨w, 0, none⟩ (.slice ua0 x0.length uc0)).setCell ⟨w, 1, none⟩ a1) = V0 at *
 replace B0 := KB0; replace B1 := KB1; replace d := Kd; replace P0 := KP0
 clear KB0 KB1 Kd KP0
 have Z_V0 := KZ
 clear KZ
 refine (Xl (.slice c3 x3.length k3) x3 V0 (Jc Jb H3.out d.out) N3.out).mono ?_
 rintro e Wq1 ⟨u, rfl, o1, c⟩
 replace o1 := Ki Jb o1
 obtain ⟨ua3, uc3, rfl⟩ := Js o1
 have Q3 : Hid (∀ b, (Kg V0 b ∧ b < Wq1.heap.size) → V0.heap.size ≤ b ∧ b < Wq1.heap.size) := hd (fun b h => h)
 have P3 := hd o1
 clear o1
 replace B0 := zb c B0
 replace B1 := zb c B1
 replace P0 := zf Jd P0 c
 replace d := zD d c
 have Z_Wq1 := hd (show V0.heap.size ≤ Wq1.heap.size from c.size)
 clear c
 have cp_B0_0 := Kh B0.out
 have cp_B1_0 := Kh B1.out
 have f_B0_0 := Ut Wq1 _ 0 _ _ B0.out
 have f_B0_1 := Ut Wq1 _ 1 _ _ B0.out
 have f_B0_2 := Ut Wq1 _ 2 _ _ B0.out
 have f_B0_3 := Ut Wq1 _ 3 _ _ B0.out
 have f_B0_4 := Ut Wq1 _ 4 _ _ B0.out
 have f_B0_5 := Ut Wq1 _ 5 _ _ B0.out
 have f_B0_6 := Ut Wq1 _ 6 _ _ B0.out
 have f_B0_7 := Ut Wq1 _ 7 _ _ B0.out
 have tt : Jy (fun b => b = w.heap.size) Wq1 (Wq1.setCell ⟨w, 3, none⟩ (.slice ua3 x3.length uc3)) := ((Jy.refl (fun b => b = w.heap.size) Wq1).trans (Jh (G := fun b => b = w.heap.size) (g := w.heap.size) (j := 3) (u := .slice ua3 x3.length uc3) rfl))
 have r := (Uv _ w.heap.size 3 _ _ (.slice ua3 x3.length uc3) B0.out)
 simp at r
 have y0 := YW.out
 have y1 := Z_Wq0.out
 have y2 := Z_V0.out
 have y3 := Z_Wq1.out
 have KB0 : Hid ((Wq1.setCell ⟨w, 3, none⟩ (.slice ua3 x3.length uc3)).heap[w.heap.size]? = some (.cells #[.slice ua0 x0.length uc0, a1, a2, .slice ua3 x3.length uc3, .slice c4 x4.length k4, .slice c5 x5.length k5, .slice c6 x6.length k6, a7] 43 (0, 0))) := hd r
 have KB1 := hd ((tt.block (w.heap.size + 1) (Array.getElem?_eq_some_iff.1 B1.out).1 (fun h => by omega)).trans B1.out)
 have KP0 := zt Jd P0 tt (fun b h1 h2 => by have r1 := Q0.out b h1; omega)
 have KP3 := zt Jb P3 tt (fun b h1 h2 => by have r1 := Q3.out b h1; omega)
 have Kd := hd (Jr d.out tt (fun b h => by omega) d.out.size)
 have KZ := hd (show Wq1.heap.size ≤ (Wq1.setCell ⟨w, 3, none⟩ (.slice ua3 x3.length uc3)).heap.size from tt.size)
 clear tt r y0 y1 y2 y3
 have kk4 := cr 4 (Value.slice c4 x4.length k4) KB0.out
 go_wp2_with fail
 clear cp_B0_0 cp_B1_0 f_B0_0 f_B0_1 f_B0_2 f_B0_3 f_B0_4 f_B0_5 f_B0_6 f_B0_7 kk4
 generalize (Wq1.setCell ⟨w, 3, none⟩ (.slice ua3 x3.length uc3)) = V1 at *
 replace B0 := KB0; replace B1 := KB1; replace d := Kd; replace P0 := KP0; replace P3 := KP3
 clear KB0 KB1 Kd KP0 KP3
 have Z_V1 := KZ
 clear KZ
 refine (copyEachActive (.slice c4 x4.length k4) x4 V1 (Jc Ji H4.out d.out) S4.out).mono ?_
 rintro e Wq2 ⟨u, rfl, o1, c⟩
 replace o1 := Ki Ji o1
 obtain ⟨ua4, uc4, rfl⟩ := Js o1
 have Q4 : Hid (∀ b, (Kg V1 b ∧ b < Wq2.heap.size) → V1.heap.size ≤ b ∧ b < Wq2.heap.size) := hd (fun b h => h)
 have P4 := hd o1
 clear o1
 replace B0 := zb c B0
 replace B1 := zb c B1
 replace P0 := zf Jd P0 c
 replace P3 := zf Jb P3 c
 replace d := zD d c
 have Z_Wq2 := hd (show V1.heap.size ≤ Wq2.heap.size from c.size)
 clear c
 have cp_B0_0 := Kh B0.out
 have cp_B1_0 := Kh B1.out
 have f_B0_0 := Ut Wq2 _ 0 _ _ B0.out
 have f_B0_1 := Ut Wq2 _ 1 _ _ B0.out
 have f_B0_2 := Ut Wq2 _ 2 _ _ B0.out
 have f_B0_3 := Ut Wq2 _ 3 _ _ B0.out
 have f_B0_4 := Ut Wq2 _ 4 _ _ B0.out
 have f_B0_5 := Ut Wq2 _ 5 _ _ B0.out
 have f_B0_6 := Ut Wq2 _ 6 _ _ B0.out
 have f_B0_7 := Ut Wq2 _ 7 _ _ B0.out
 have tt : Jy (fun b => b = w.heap.size) Wq2 (Wq2.setCell ⟨w, 4, none⟩ (.slice ua4 x4.length uc4)) := ((Jy.refl (fun b => b = w.heap.size) Wq2).trans (Jh (G := fun b => b = w.heap.size) (g := w.heap.size) (j := 4) (u := .slice ua4 x4.length uc4) rfl))
 have r := (Uv _ w.heap.size 4 _ _ (.slice ua4 x4.length uc4) B0.out)
 simp at r
 have y0 := YW.out
 have y1 := Z_Wq0.out
 have y2 := Z_V0.out
 have y3 := Z_Wq1.out
 have y4 := Z_V1.out
 have y5 := Z_Wq2.out
 have KB0 : Hid ((Wq2.setCell ⟨w, 4, none⟩ (.slice ua4 x4.length uc4)).heap[w.heap.size]? = some (.cells #[.slice ua0 x0.length uc0, a1, a2, .slice ua3 x3.length uc3, .slice ua4 x4.length uc4, .slice c5 x5.length k5, .slice c6 x6.length k6, a7] 43 (0, 0))) := hd r
 have KB1 := hd ((tt.block (w.heap.size + 1) (Array.getElem?_eq_some_iff.1 B1.out).1 (fun h => by omega)).trans B1.out)
 have KP0 := zt Jd P0 tt (fun b h1 h2 => by have r1 := Q0.out b h1; omega)
 have KP3 := zt Jb P3 tt (fun b h1 h2 => by have r1 := Q3.out b h1; omega)
 have KP4 := zt Ji P4 tt (fun b h1 h2 => by have r1 := Q4.out b h1; omega)
 have Kd := hd (Jr d.out tt (fun b h => by omega) d.out.size)
 have KZ := hd (show Wq2.heap.size ≤ (Wq2.setCell ⟨w, 4, none⟩ (.slice ua4 x4.length uc4)).heap.size from tt.size)
 clear tt r y0 y1 y2 y3 y4 y5
 have kk5 := cr 5 (Value.slice c5 x5.length k5) KB0.out
 go_wp2_with fail
 clear cp_B0_0 cp_B1_0 f_B0_0 f_B0_1 f_B0_2 f_B0_3 f_B0_4 f_B0_5 f_B0_6 f_B0_7 kk5
 generalize (Wq2.setCell ⟨w, 4, none⟩ (.slice ua4 x4.length uc4)) = V2 at *
 replace B0 := KB0; replace B1 := KB1; replace d := Kd; replace P0 := KP0; replace P3 := KP3; replace P4 := KP4
 clear KB0 KB1 Kd KP0 KP3 KP4
 have Z_V2 := KZ
 clear KZ
 refine (copyEachFinished (.slice c5 x5.length k5) x5 V2 (Jc Jg H5.out d.out) S5.out).mono ?_
 rintro e Wq3 ⟨u, rfl, o1, c⟩
 replace o1 := Ki Jg o1
 obtain ⟨ua5, uc5, rfl⟩ := Js o1
 have Q5 : Hid (∀ b, (Kg V2 b ∧ b < Wq3.heap.size) → V2.heap.size ≤ b ∧ b < Wq3.heap.size) := hd (fun b h => h)
 have P5 := hd o1
 clear o1
 replace B0 := zb c B0
 replace B1 := zb c B1
 replace P0 := zf Jd P0 c
 replace P3 := zf Jb P3 c
 replace P4 := zf Ji P4 c
 replace d := zD d c
 have Z_Wq3 := hd (show V2.heap.size ≤ Wq3.heap.size from c.size)
 clear c
 have cp_B0_0 := Kh B0.out
 have cp_B1_0 := Kh B1.out
 have f_B0_0 := Ut Wq3 _ 0 _ _ B0.out
 have f_B0_1 := Ut Wq3 _ 1 _ _ B0.out
 have f_B0_2 := Ut Wq3 _ 2 _ _ B0.out
 have f_B0_3 := Ut Wq3 _ 3 _ _ B0.out
 have f_B0_4 := Ut Wq3 _ 4 _ _ B0.out
 have f_B0_5 := Ut Wq3 _ 5 _ _ B0.out
 have f_B0_6 := Ut Wq3 _ 6 _ _ B0.out
 have f_B0_7 := Ut Wq3 _ 7 _ _ B0.out
 have tt : Jy (fun b => b = w.heap.size) Wq3 (Wq3.setCell ⟨w, 5, none⟩ (.slice ua5 x5.length uc5)) := ((Jy.refl (fun b => b = w.heap.size) Wq3).trans (Jh (G := fun b => b = w.heap.size) (g := w.heap.size) (j := 5) (u := .slice ua5 x5.length uc5) rfl))
 have r := (Uv _ w.heap.size 5 _ _ (.slice ua5 x5.length uc5) B0.out)
 simp at r
 have y0 := YW.out
 have y1 := Z_Wq0.out
 have y2 := Z_V0.out
 have y3 := Z_Wq1.out
 have y4 := Z_V1.out
 have y5 := Z_Wq2.out
 have y6 := Z_V2.out
 have y7 := Z_Wq3.out
 have KB0 : Hid ((Wq3.setCell ⟨w, 5, none⟩ (.slice ua5 x5.length uc5)).heap[w.heap.size]? = some (.cells #[.slice ua0 x0.length uc0, a1, a2, .slice ua3 x3.length uc3, .slice ua4 x4.length uc4, .slice ua5 x5.length uc5, .slice c6 x6.length k6, a7] 43 (0, 0))) := hd r
 have KB1 := hd ((tt.block (w.heap.size + 1) (Array.getElem?_eq_some_iff.1 B1.out).1 (fun h => by omega)).trans B1.out)
 have KP0 := zt Jd P0 tt (fun b h1 h2 => by have r1 := Q0.out b h1; omega)
 have KP3 := zt Jb P3 tt (fun b h1 h2 => by have r1 := Q3.out b h1; omega)
 have KP4 := zt Ji P4 tt (fun b h1 h2 => by have r1 := Q4.out b h1; omega)
 have KP5 := zt Jg P5 tt (fun b h1 h2 => by have r1 := Q5.out b h1; omega)
 have Kd := hd (Jr d.out tt (fun b h => by omega) d.out.size)
 have KZ := hd (show Wq3.heap.size ≤ (Wq3.setCell ⟨w, 5, none⟩ (.slice ua5 x5.length uc5)).heap.size from tt.size)
 clear tt r y0 y1 y2 y3 y4 y5 y6 y7
 have kk6 := cr 6 (Value.slice c6 x6.length k6) KB0.out
 go_wp2_with fail
 clear cp_B0_0 cp_B1_0 f_B0_0 f_B0_1 f_B0_2 f_B0_3 f_B0_4 f_B0_5 f_B0_6 f_B0_7 kk6
 generalize (Wq3.setCell ⟨w, 5, none⟩ (.slice ua5 x5.length uc5)) = V3 at *
 replace B0 := KB0; replace B1 := KB1; replace d := Kd; replace P0 := KP0; replace P3 := KP3; replace P4 := KP4; replace P5 := KP5
 clear KB0 KB1 Kd KP0 KP3 KP4 KP5
 have Z_V3 := KZ
 clear KZ
 refine (copyEachCharge (.slice c6 x6.length k6) x6 V3 (Jc Jj H6.out d.out) S6.out).mono ?_
 rintro e Wq4 ⟨u, rfl, o1, c⟩
 replace o1 := Ki Jj o1
 obtain ⟨ua6, uc6, rfl⟩ := Js o1
 have Q6 : Hid (∀ b, (Kg V3 b ∧ b < Wq4.heap.size) → V3.heap.size ≤ b ∧ b < Wq4.heap.size) := hd (fun b h => h)
 have P6 := hd o1
 clear o1
 replace B0 := zb c B0
 replace B1 := zb c B1
 replace P0 := zf Jd P0 c
 replace P3 := zf Jb P3 c
 replace P4 := zf Ji P4 c
 replace P5 := zf Jg P5 c
 replace d := zD d c
 have Z_Wq4 := hd (show V3.heap.size ≤ Wq4.heap.size from c.size)
 clear c
 obtain ⟨p_B0_0, p_B0_1, p_B0_2, p_B0_3, p_B0_4, p_B0_5, p_B0_6, p_B0_7⟩ := Kh B0.out
 obtain ⟨p_B1_0, p_B1_1, p_B1_2, p_B1_3, p_B1_4, p_B1_5, p_B1_6, p_B1_7⟩ := Kh B1.out
 have f_B0_0 := Ut Wq4 _ 0 _ _ B0.out
 have f_B0_1 := Ut Wq4 _ 1 _ _ B0.out
 have f_B0_2 := Ut Wq4 _ 2 _ _ B0.out
 have f_B0_3 := Ut Wq4 _ 3 _ _ B0.out
 have f_B0_4 := Ut Wq4 _ 4 _ _ B0.out
 have f_B0_5 := Ut Wq4 _ 5 _ _ B0.out
 have f_B0_6 := Ut Wq4 _ 6 _ _ B0.out
 have f_B0_7 := Ut Wq4 _ 7 _ _ B0.out
 have f_B1_0 := Ut Wq4 _ 0 _ _ B1.out
 have f_B1_1 := Ut Wq4 _ 1 _ _ B1.out
 have f_B1_2 := Ut Wq4 _ 2 _ _ B1.out
 have f_B1_3 := Ut Wq4 _ 3 _ _ B1.out
 have f_B1_4 := Ut Wq4 _ 4 _ _ B1.out
 have f_B1_5 := Ut Wq4 _ 5 _ _ B1.out
 have f_B1_6 := Ut Wq4 _ 6 _ _ B1.out
 have f_B1_7 := Ut Wq4 _ 7 _ _ B1.out
 have tt : Jy (fun b => b = w.heap.size) Wq4 (Wq4.setCell ⟨w, 6, none⟩ (.slice ua6 x6.length uc6)) := ((Jy.refl (fun b => b = w.heap.size) Wq4).trans (Jh (G := fun b => b = w.heap.size) (g := w.heap.size) (j := 6) (u := .slice ua6 x6.length uc6) rfl))
 have r := (Uv _ w.heap.size 6 _ _ (.slice ua6 x6.length uc6) B0.out)
 simp at r
 have y0 := YW.out
 have y1 := Z_Wq0.out
 have y2 := Z_V0.out
 have y3 := Z_Wq1.out
 have y4 := Z_V1.out
 have y5 := Z_Wq2.out
 have y6 := Z_V2.out
 have y7 := Z_Wq3.out
 have y8 := Z_V3.out
 have y9 := Z_Wq4.out
 have KB0 : Hid ((Wq4.setCell ⟨w, 6, none⟩ (.slice ua6 x6.length uc6)).heap[w.heap.size]? = some (.cells #[.slice ua0 x0.length uc0, a1, a2, .slice ua3 x3.length uc3, .slice ua4 x4.length uc4, .slice ua5 x5.length uc5, .slice ua6 x6.length uc6, a7] 43 (0, 0))) := hd r
 have KB1 := hd ((tt.block (w.heap.size + 1) (Array.getElem?_eq_some_iff.1 B1.out).1 (fun h => by omega)).trans B1.out)
 have KP0 := zt Jd P0 tt (fun b h1 h2 => by have r1 := Q0.out b h1; omega)
 have KP3 := zt Jb P3 tt (fun b h1 h2 => by have r1 := Q3.out b h1; omega)
 have KP4 := zt Ji P4 tt (fun b h1 h2 => by have r1 := Q4.out b h1; omega)
 have KP5 := zt Jg P5 tt (fun b h1 h2 => by have r1 := Q5.out b h1; omega)
 have KP6 := zt Jj P6 tt (fun b h1 h2 => by have r1 := Q6.out b h1; omega)
 have Kd := hd (Jr d.out tt (fun b h => by omega) d.out.size)
 have KZ := hd (show Wq4.heap.size ≤ (Wq4.setCell ⟨w, 6, none⟩ (.slice ua6 x6.length uc6)).heap.size from tt.size)
 clear tt r y0 y1 y2 y3 y4 y5 y6 y7 y8 y9
 generalize hW : (Wq4.setCell ⟨w, 6, none⟩ (.slice ua6 x6.length uc6)) = WF at *
 have c0_ := cr 0 (Value.slice ua0 x0.length uc0) KB0.out
 have c1_ := cr 1 a1 KB0.out
 have c2_ := cr 2 a2 KB0.out
 have c3_ := cr 3 (Value.slice ua3 x3.length uc3) KB0.out
 have c4_ := cr 4 (Value.slice ua4 x4.length uc4) KB0.out
 have c5_ := cr 5 (Value.slice ua5 x5.length uc5) KB0.out
 have c6_ := cr 6 (Value.slice ua6 x6.length uc6) KB0.out
 have c7_ := cr 7 a7 KB0.out
 have z0_ := cr 0 () KB1.out
 have g0_ := Ut WF _ 0 _ _ KB1.out
 have z1_ := cr 1 Ja KB1.out
 have g1_ := Ut WF _ 1 _ _ KB1.out
 have z2_ := cr 2 Ja KB1.out
 have g2_ := Ut WF _ 2 _ _ KB1.out
 have z3_ := cr 3 () KB1.out
 have g3_ := Ut WF _ 3 _ _ KB1.out
 have z4_ := cr 4 () KB1.out
 have g4_ := Ut WF _ 4 _ _ KB1.out
 have z5_ := cr 5 () KB1.out
 have g5_ := Ut WF _ 5 _ _ KB1.out
 have z6_ := cr 6 () KB1.out
 have g6_ := Ut WF _ 6 _ _ KB1.out
 have z7_ := cr 7 Ja KB1.out
 have g7_ := Ut WF _ 7 _ _ KB1.out
 have tt := ts8 WF (w.heap.size + 1) (.slice ua0 x0.length uc0) a1 a2 (.slice ua3 x3.length uc3) (.slice ua4 x4.length uc4) (.slice ua5 x5.length uc5) (.slice ua6 x6.length uc6) a7
 have r := st8 KB1.out (.slice ua0 x0.length uc0) a1 a2 (.slice ua3 x3.length uc3) (.slice ua4 x4.length uc4) (.slice ua5 x5.length uc5) (.slice ua6 x6.length uc6) a7
 try simp at r
 have e0_ := (Uu _ (w.heap.size + 1) 0 _ _ _ r).trans (show _ = some (Value.slice ua0 x0.length uc0) from rfl)
 have e1_ := (Uu _ (w.heap.size + 1) 1 _ _ _ r).trans (show _ = some (Value.int .i64 a1) from rfl)
 have e2_ := (Uu _ (w.heap.size + 1) 2 _ _ _ r).trans (show _ = some (Value.int .i64 a2) from rfl)
 have e3_ := (Uu _ (w.heap.size + 1) 3 _ _ _ r).trans (show _ = some (Value.slice ua3 x3.length uc3) from rfl)
 have e4_ := (Uu _ (w.heap.size + 1) 4 _ _ _ r).trans (show _ = some (Value.slice ua4 x4.length uc4) from rfl)
 have e5_ := (Uu _ (w.heap.size + 1) 5 _ _ _ r).trans (show _ = some (Value.slice ua5 x5.length uc5) from rfl)
 have e6_ := (Uu _ (w.heap.size + 1) 6 _ _ _ r).trans (show _ = some (Value.slice ua6 x6.length uc6) from rfl)
 have e7_ := (Uu _ (w.heap.size + 1) 7 _ _ _ r).trans (show _ = some (Value.int .i64 a7) from rfl)
 have y0 := YW.out
 have y1 := Z_Wq0.out
 have y2 := Z_V0.out
 have y3 := Z_Wq1.out
 have y4 := Z_V1.out
 have y5 := Z_Wq2.out
 have y6 := Z_V2.out
 have y7 := Z_Wq3.out
 have y8 := Z_V3.out
 have y9 := Z_Wq4.out
 have yk := KZ.out
 have PFP0 := zt Jd KP0 tt (fun b h1 h2 => by have r1 := Q0.out b h1; omega)
 have PFP3 := zt Jb KP3 tt (fun b h1 h2 => by have r1 := Q3.out b h1; omega)
 have PFP4 := zt Ji KP4 tt (fun b h1 h2 => by have r1 := Q4.out b h1; omega)
 have PFP5 := zt Jg KP5 tt (fun b h1 h2 => by have r1 := Q5.out b h1; omega)
 have PFP6 := zt Jj KP6 tt (fun b h1 h2 => by have r1 := Q6.out b h1; omega)
 have DF := hd (Jr Kd.out tt (fun b h => by omega) Kd.out.size)
 clear tt r yk y0 y1 y2 y3 y4 y5 y6 y7 y8 y9
 subst hW
 go_wp2
 have y0 := YW.out
 have y1 := Z_Wq0.out
 have y2 := Z_V0.out
 have y3 := Z_Wq1.out
 have y4 := Z_V1.out
 have y5 := Z_Wq2.out
 have y6 := Z_V2.out
 have y7 := Z_Wq3.out
 have y8 := Z_V3.out
 have y9 := Z_Wq4.out
 refine bodyPost_ret (v := .agg #[.slice ua0 x0.length uc0, a1, a2, .slice ua3 x3.length uc3, .slice ua4 x4.length uc4, .slice ua5 x5.length uc5, .slice ua6 x6.length uc6, a7]) ?_ rfl ⟨[.slice ua0 x0.length uc0, a1, a2, .slice ua3 x3.length uc3, .slice ua4 x4.length uc4, .slice ua5 x5.length uc5, .slice ua6 x6.length uc6, a7], rfl, tEngine_mkO PFP0.out PFP3.out PFP4.out PFP5.out PFP6.out (fun b h => by have r1 := Q0.out b h; show w.heap.size ≤ b; omega) (fun b h => by have r1 := Q3.out b h; show w.heap.size ≤ b; omega) (fun b h => by have r1 := Q4.out b h; show w.heap.size ≤ b; omega) (fun b h => by have r1 := Q5.out b h; show w.heap.size ≤ b; omega) (fun b h => by have r1 := Q6.out b h; show w.heap.size ≤ b; omega) (fun b h1 h2 => by have r1 := Q0.out b h1; have r2 := Q3.out b h2; omega) (fun b h1 h2 => by have r1 := Q0.out b h1; have r2 := Q4.out b h2; omega) (fun b h1 h2 => by have r1 := Q0.out b h1; have r2 := Q5.out b h2; omega) (fun b h1 h2 => by have r1 := Q0.out b h1; have r2 := Q6.out b h2; omega) (fun b h1 h2 => by have r1 := Q3.out b h1; have r2 := Q4.out b h2; omega) (fun b h1 h2 => by have r1 := Q3.out b h1; have r2 := Q5.out b h2; omega) (fun b h1 h2 => by have r1 := Q3.out b h1; have r2 := Q6.out b h2; omega) (fun b h1 h2 => by have r1 := Q4.out b h1; have r2 := Q5.out b h2; omega) (fun b h1 h2 => by have r1 := Q4.out b h1; have r2 := Q6.out b h2; omega) (fun b h1 h2 => by have r1 := Q5.out b h1; have r2 := Q6.out b h2; omega), DF.out⟩
 simp [results, Tryz.f48, go_sem, e0_, e1_, e2_, e3_, e4_, e5_, e6_, e7_]
/-- The slice v owns the numbers xs, in a block of an order's type. -/
def OwnsX (w : World) (B : Nat) (v : Value) (xs : List Int) : Prop := w.ownsRow B 119 1 v xs.length (xs.map (Value.int .i64))
theorem own_slX {w : World} {F : Nat → Prop} {v : Value} {xs : List Int} {B : Nat} (h : OwnsX w B v xs) (hF : ∀ b, v.ownBlock = some b → F b) : Kt 119 Jf w F v xs := by
 refine ⟨_, fun j => [.int .i64 (xs.getD j 0)], fun _ _ => False, row_low h (Ef _), hF, fun j hj => ⟨fun i hi => ?_, rfl, fun b hb => False.elim hb⟩, fun i j _ _ _ b hb => False.elim hb⟩
 have hi0 : i < 1 := hi
 obtain rfl : i = 0 := by omega
 have e : j * Jf.n + 0 = j := by show j * 1 + 0 = _; omega
 rw [e]
 simp [List.getD, hj]
theorem slX_block {w : World} {b : Nat} {x y z : Int} (h : w.heap[b]? = some (.cells #[.int .i64 x, .int .i64 y, .int .i64 z] 119 (0, 0))) : Kt 119 Jf w (fun c => c = b) (.slice (some ⟨b, 0, none⟩) 3 3) [x, y, z] :=
 own_slX (B := 0) ⟨rfl, Or.inr ⟨b, 3, _, rfl, Ef _, h, Ed _, by decide, rfl, rfl⟩⟩ (fun c hc => by simp [Value.ownBlock] at hc; exact hc.symm)
end Go.Proofs.YtcolddalajoheaaGreatDoor
