/-
 Texts of the proof, merged: MaskWalks, MaskCount, MapCount, MapEntry.
-/
import Derived.Test.YtededfficggkaaaDoorI2
import Derived.Test.YtededfficggkaaaDoorI24
import Derived.Laws.BitsLemmas
import Derived.Deep.RegionHeld3
import Derived.Lib.Tables
import Derived.Lib.BitFns
import Derived.BigQuiet
import Derived.Deep.QuietTactic
import Derived.Maps.RangeWalk
import Derived.WideKeyPair
import Derived.WideKeyEntry
import Derived.Maps.OwnOps
namespace Go.Proofs.YtededfficggkaaaDoor
open Go.RowKit
set_option linter.unusedVariables false
theorem nat_u32 (a : Nat) (ha : a < 4294967296) : (BitVec.ofInt 32 (a : Int)).toNat = a := by
 rw [BitVec.ofInt_natCast, BitVec.toNat_ofNat]; exact Nat.mod_eq_of_lt (by omega)
theorem and_u32 (a b : Nat) (ha : a < 4294967296) (hb : b < 4294967296) : bits .and .u32 (a : Int) (b : Int) = ((a &&& b : Nat) : Int) := by
 have hx : a &&& b < 2 ^ 32 := Nat.and_lt_two_pow _ (by omega)
 show IntKind.u32.wrap ((BitVec.ofInt 32 (a : Int) &&& BitVec.ofInt 32 (b : Int)).toNat : Int) = _
 rw [BitVec.toNat_and, nat_u32 a ha, nat_u32 b hb, IntKind.wrap_u32]
 omega
theorem or_u32 (a b : Nat) (ha : a < 4294967296) (hb : b < 4294967296) : bits .or .u32 (a : Int) (b : Int) = ((a ||| b : Nat) : Int) := by
 have hx : a ||| b < 2 ^ 32 := Nat.or_lt_two_pow (by omega) (by omega)
 show IntKind.u32.wrap ((BitVec.ofInt 32 (a : Int) ||| BitVec.ofInt 32 (b : Int)).toNat : Int) = _
 rw [BitVec.toNat_or, nat_u32 a ha, nat_u32 b hb, IntKind.wrap_u32]
 omega
theorem isQuery (x : Int) (w : World) : Calls Tryd.prog 96 #[.int .i64 x] w fun e w' => e = .returned (.bool (decide (0 ≤ x ∧ x ≤ 23))) ∧ w' = w := by
 by_cases h0 : 0 ≤ x
 ·
  by_cases h1 : x ≤ 23
  ·
   rw [decide_eq_true (show 0 ≤ x ∧ x ≤ 23 from ⟨h0, h1⟩)]
   have h2 : x < 24 := by omega
   go_enter Tryd.func96, Tryd.ntmps96
   go_wp2
   go_ret
   exact ⟨rfl, rfl⟩
  ·
   rw [decide_eq_false (show ¬ (0 ≤ x ∧ x ≤ 23) by omega)]
   have h2 : ¬ x < 24 := by omega
   go_enter Tryd.func96, Tryd.ntmps96
   go_wp2
   go_ret
   exact ⟨rfl, rfl⟩
 ·
  rw [decide_eq_false (show ¬ (0 ≤ x ∧ x ≤ 23) by omega)]
  go_enter Tryd.func96, Tryd.ntmps96
  go_wp2
  go_ret
  exact ⟨rfl, rfl⟩
theorem pair_eq {a b : Nat} {x y : Bool} (h1 : a = b) (h2 : x = y) : Ending.returned (.tuple #[.int .u32 (a : Int), .bool x]) = .returned (.tuple #[.int .u32 (b : Int), .bool y]) := by rw [h1, h2]
set_option maxHeartbeats 2000000 in
set_option maxRecDepth 100000 in
theorem implMaskOf (va : Value) (a : List Int) (w : World) (h : Ints w va a) (hn : a.length ≤ 1073741824) :
  Calls Tryd.prog 53 #[va] w fun e w' => e = .returned (.tuple #[.int .u32 (maskL a : Nat), .bool (setB a)]) ∧ Below w.heap.size w w' := by
 obtain ⟨ap, cap, hva⟩ := ints_len h
 have HA := Lib.hid h
 have HN := Lib.hid hn
 clear h hn
 subst hva
 go_enter Tryd.func53, Tryd.ntmps53
 go_wp2
 go_loopw [4, 9] (fun m i wr => ∃ k : Nat, k ≤ a.length ∧ i = .int .i64 k ∧ Hid (SetTo a k) ∧ m = .int .u32 (maskTo a k : Nat) ∧ wr = w) (fun _ i _ => a.length - (intOf i).toNat)
 case atStart => exact ⟨0, Nat.zero_le _, rfl, Lib.hid ⟨fun i hi => by omega, fun i hi => by omega⟩, by rw [maskTo_zero]; rfl, rfl⟩
 case round =>
  obtain ⟨k, hk, rfl, hset, rfl, rfl⟩ := hrel
  by_cases hlt : k < a.length
  ·
   obtain ⟨b, off, cap', hv, hbl, hc⟩ := ints_cell HA.out (by omega)
   simp only [Value.slice.injEq] at hv
   obtain ⟨rfl, _, rfl⟩ := hv
   have hcell := hc k hlt
   have i1 : (0 : Int) ≤ (k : Int) := by omega
   have i2 : (k : Int) < (a.length : Int) := by omega
   clear hc
   by_cases hr : 0 ≤ a.getD k 0 ∧ a.getD k 0 ≤ 23
   ·
    obtain ⟨x, hx⟩ : ∃ x : Nat, a.getD k 0 = (x : Int) := ⟨(a.getD k 0).toNat, by omega⟩
    have hx23 : x ≤ 23 := by omega
    have HQ := Lib.hid (show decide (0 ≤ (x : Int) ∧ (x : Int) ≤ 23) = true from decide_eq_true (by omega))
    have hnext := maskTo_next hlt hset.out hx hx23
    have HST := Lib.hid (maskTo_step hlt)
    rw [hx] at hcell HST
    have HM0 := Lib.hid (maskTo_lt24 (Nat.le_of_lt hlt) hset.out)
    have hdiv : ((maskTo a k : Nat) : Int) / 2 ^ x = ((maskTo a k / 2 ^ x : Nat) : Int) := by norm_cast
    by_cases hz : maskTo a k / 2 ^ x = 0
    ·
     have HS1 := Lib.hid (hnext.1 hz)
     have HB : ((maskTo a k : Int) / 2 ^ x != 0) = false := by rw [hdiv, hz]; rfl
     have HP : Hid (2 ^ x < 16777216 ∧ ((2 : Int) ^ x % 4294967296 = ((2 ^ x : Nat) : Int))) := by
      have h2 : 2 ^ x < 2 ^ 24 := Nat.pow_lt_pow_right (by omega) (show x < 24 by omega)
      have h3 : (2 : Int) ^ x = ((2 ^ x : Nat) : Int) := by norm_cast
      exact Lib.hid ⟨h2, by rw [h3]; clear h3; generalize 2 ^ x = q at *; omega⟩
     have HK := Lib.hid hlt
     clear hr hnext hx hz hset hk hlt hdiv
     generalize maskTo a k = m at *
     go_wp2_with fail
     refine (isQuery _ _).mono ?_
     rintro e w1 ⟨rfl, rfl⟩
     rw [HQ.out]
     have hn := HN.out
     go_wp2
     go_roundw
     case rel => exact ⟨k + 1, HK.out, by go_num, HS1, by rw [HP.out.2, or_u32 m _ (by have := HM0.out; omega) (by have := HP.out.1; omega), HST.out]; rfl, by first | rfl | trivial⟩
     case measure => have := HK.out; simp [intOf]; omega
    ·
     have HF := Lib.hid (setB_no (l := a) (fun g => hz (hnext.2 ⟨fun i hi => g.1 i (by omega), fun i hi => g.2 i (by omega)⟩)))
     have HB : ((maskTo a k : Int) / 2 ^ x != 0) = true := by rw [hdiv, bne_iff_ne]; omega
     clear hr hnext hx hz hset hk hlt hdiv
     generalize maskTo a k = m at *
     go_wp2_with fail
     refine (isQuery _ _).mono ?_
     rintro e w1 ⟨rfl, rfl⟩
     rw [HQ.out]
     go_wp2
     go_ret2
     exact ⟨pair_eq (a := 0) (maskL_no HF.out).symm HF.out.symm, Below.refl _ _⟩
   ·
    have HF := Lib.hid (setB_no (not_set_range hlt hr))
    have HQ := Lib.hid (show decide (0 ≤ a.getD k 0 ∧ a.getD k 0 ≤ 23) = false from decide_eq_false hr)
    clear hr hset hk hlt
    generalize maskTo a k = m at *
    generalize a.getD k 0 = x at *
    go_wp2_with fail
    refine (isQuery _ _).mono ?_
    rintro e w1 ⟨rfl, rfl⟩
    rw [HQ.out]
    go_wp2
    go_ret2
    exact ⟨pair_eq (a := 0) (maskL_no HF.out).symm HF.out.symm, Below.refl _ _⟩
  ·
   obtain rfl : k = a.length := by omega
   have HS := Lib.hid ((setTo_all a).1 hset.out)
   have HE := Lib.hid (maskL_yes HS.out)
   clear hset hk hlt
   generalize maskTo a a.length = m at *
   go_wp2
   go_ret2
   exact ⟨pair_eq HE.out.symm ((setB_iff a).2 HS.out).symm, Below.refl _ _⟩
end Go.Proofs.YtededfficggkaaaDoor
namespace Go.Proofs.YtededfficggkaaaDoor
open Go.RowKit
set_option linter.unusedVariables false
theorem fold_pop : (⟨(([0, 1, 1, 2, 1, 2, 2, 3, 1, 2, 2, 3, 2, 3, 3, 4, 1, 2, 2, 3, 2, 3, 3, 4, 2, 3, 3, 4, 3, 4, 4, 5, 1, 2, 2, 3, 2, 3, 3, 4, 2, 3, 3, 4, 3, 4, 4, 5, 2, 3, 3, 4, 3, 4, 4, 5, 3, 4, 4, 5, 4, 5, 5, 6].append [1, 2, 2, 3, 2, 3, 3, 4, 2, 3, 3, 4, 3, 4, 4, 5, 2, 3, 3, 4, 3, 4, 4, 5, 3, 4, 4, 5, 4, 5, 5, 6, 2, 3, 3, 4, 3, 4, 4, 5, 3, 4, 4, 5, 4, 5, 5, 6, 3, 4, 4, 5, 4, 5, 5, 6, 4, 5, 5, 6, 5, 6, 6, 7]).append ([1, 2, 2, 3, 2, 3, 3, 4, 2, 3, 3, 4, 3, 4, 4, 5, 2, 3, 3, 4, 3, 4, 4, 5, 3, 4, 4, 5, 4, 5, 5, 6, 2, 3, 3, 4, 3, 4, 4, 5, 3, 4, 4, 5, 4, 5, 5, 6, 3, 4, 4, 5, 4, 5, 5, 6, 4, 5, 5, 6, 5, 6, 6, 7].append [2, 3, 3, 4, 3, 4, 4, 5, 3, 4, 4, 5, 4, 5, 5, 6, 3, 4, 4, 5, 4, 5, 5, 6, 4, 5, 5, 6, 5, 6, 6, 7, 3, 4, 4, 5, 4, 5, 5, 6, 4, 5, 5, 6, 5, 6, 6, 7, 4, 5, 5, 6, 5, 6, 6, 7, 5, 6, 6, 7, 6, 7, 7, 8])).toArray⟩ : ByteArray) = Lib.pop8tab := by decide +kernel
theorem ret_i {a b : Int} (h : a = b) : Ending.returned (.int .i64 a) = .returned (.int .i64 b) := by rw [h]
theorem below_drewN {B : Nat} {a w : World} (h : Below B a w) (q : Nat) : Below B a (w.drewN q) := ⟨h.os, h.tape, h.output, h.size, h.block⟩
theorem byte_u32 (x : Int) (h0 : 0 ≤ x) (h1 : x < 4294967296) : 0 ≤ bits .and .u32 x 255 ∧ bits .and .u32 x 255 ≤ 255 := by
 have h : bits .and .u32 x 255 = x % 256 := bits_mask .u32 32 (by decide) (fun n a b => by rw [IntKind.wrap_u32]; omega) 8 (by decide) x h0 (by omega)
 rw [h]; omega
theorem pop_byte (x : Nat) (h : x < 4294967296) : Lib.pop8 (bits .and .u32 (x : Int) 255) = (Lib.onesCount (x % 256) : Int) := by
 have e : bits .and .u32 (x : Int) 255 = (x : Int) % 256 := bits_mask .u32 32 (by decide) (fun n a b => by rw [IntKind.wrap_u32]; omega) 8 (by decide) (x : Int) (by omega) (by omega)
 rw [e]
 have := Lib.pop8_eq ⟨x % 256, Nat.mod_lt _ (by omega)⟩
 simpa using this
set_option maxHeartbeats 1000000 in
set_option maxRecDepth 100000 in
theorem onesCount (m : Nat) (hm : m < 16777216) (w : World) : Calls Tryd.prog 127 #[.int .u32 (m : Nat)] w fun e w' => e = .returned (.int .i64 (cntM m : Nat)) ∧ Below w.heap.size w w' := by
 have HC := Lib.hid (memL_count m)
 have HL := Lib.hid (memL_le m)
 have E1 : Hid (Lib.pop8 ((m : Int) / 16777216) = 0) := Lib.hid (by
  have e : (m : Int) / 16777216 = 0 := by omega
  rw [e]; decide +kernel)
 have E2 : Hid (Lib.pop8 (bits .and .u32 ((m : Int) / 65536) 255) = (Lib.onesCount (m / 65536 % 256) : Int)) := Lib.hid (by
  have := pop_byte (m / 65536) (by omega)
  simpa using this)
 have E3 : Hid (Lib.pop8 (bits .and .u32 ((m : Int) / 256) 255) = (Lib.onesCount (m / 256 % 256) : Int)) := Lib.hid (by
  have := pop_byte (m / 256) (by omega)
  simpa using this)
 have E4 : Hid (Lib.pop8 (bits .and .u32 (m : Int) 255) = (Lib.onesCount (m % 256) : Int)) := Lib.hid (pop_byte m (by omega))
 go_enter Tryd.func127, Tryd.ntmps127
 have h0 : (0 : Int) ≤ (m : Int) := by omega
 have h1 : (m : Int) < 16777216 := by omega
 go_wp2
 simp only [fold_pop]
 have a0 : (0 : Int) ≤ (m : Int) / 16777216 := by omega
 have a1 : (m : Int) / 16777216 ≤ 255 := by omega
 have hu := Tryd.underlying9
 obtain ⟨b0, b1⟩ := byte_u32 ((m : Int) / 65536) (by omega) (by omega)
 obtain ⟨c0, c1⟩ := byte_u32 ((m : Int) / 256) (by omega) (by omega)
 obtain ⟨d0, d1⟩ := byte_u32 (m : Int) (by omega) (by omega)
 clear h1
 go_quiet (fail)
 generalize hp1 : Lib.pop8 _ = p1
 generalize hp2 : Lib.pop8 _ = p2
 generalize hp3 : Lib.pop8 _ = p3
 generalize hp4 : Lib.pop8 _ = p4
 have HS : Hid (p1 + p2 + p3 + p4 = ((cntM m : Nat) : Int)) := Lib.hid (by
  have e1 := E1.out; have e2 := E2.out; have e3 := E3.out; have e4 := E4.out; have hc := HC.out
  rw [← hp1, ← hp2, ← hp3, ← hp4]
  simp only [e1, e2, e3, e4]
  unfold cntM
  omega)
 clear hp1 hp2 hp3 hp4 E1 E2 E3 E4
 go_wp2
 go_ret
 refine ⟨ret_i ?_, below_drewN (Below.refl _ _) _⟩
 have hs := HS.out; have hl := HL.out
 have : cntM m ≤ 24 := hl
 omega
set_option maxHeartbeats 1000000 in
set_option maxRecDepth 100000 in
theorem maskCount (m : Nat) (hm : m < 16777216) (w : World) : Calls Tryd.prog 95 #[.int .u32 (m : Nat)] w fun e w' => e = .returned (.int .i64 (cntM m : Nat)) ∧ Below w.heap.size w w' := by
 have HC := Lib.hid (fun w => onesCount m hm w)
 generalize cntM m = c at *
 go_enter Tryd.func95, Tryd.ntmps95
 go_wp2_with fail
 refine (HC.out _).mono ?_
 rintro e w1 ⟨rfl, b1⟩
 go_wp2
 go_ret
 exact ⟨rfl, b1⟩
end Go.Proofs.YtededfficggkaaaDoor
namespace Go.Proofs.YtededfficggkaaaDoor
open Go.Maps
set_option linter.unusedVariables false
set_option linter.unusedSimpArgs false
def numD : DataW Unit → Int
 | .lit (.int _ n) => n
 | _ => 0
theorem numD_int (q : IntKind) (n : Int) : numD (.lit (.int q n)) = n := rfl
/-- How often the key stands in the list. -/
def cntK (L : List Lit) (k : Lit) : Nat := L.countP fun x => x.sameKey k
theorem cntK_snoc (L : List Lit) (x k : Lit) : cntK (L ++ [x]) k = cntK L k + (if x.sameKey k = true then 1 else 0) := by
 unfold cntK
 rw [List.countP_append]
 simp [List.countP_cons]
theorem cntK_le (L : List Lit) (k : Lit) : cntK L k ≤ L.length := List.countP_le_length
structure CountsD (D : DataW Unit) (L : List Lit) : Prop where
 isMap : IsMap D
 key : ∀ k ∈ L, WideAt.IsKeyLit k
 here : ∀ k ∈ L, Maps.has D k = true
 only : ∀ k, Maps.has D k = true → k ∈ L
 at_ : ∀ k, WideAt.IsKeyLit k → numD (D.atKey k (.lit (.int .i64 0))) = (cntK L k : Int)
theorem countsD_start : CountsD (.map []) [] where
 isMap := isMap_empty
 key := fun k h => absurd h List.not_mem_nil
 here := fun k h => absurd h List.not_mem_nil
 only := fun k h => by cases h
 at_ := fun k _ => rfl
theorem countsD_step {D : DataW Unit} {L : List Lit} {kl : Lit} {c : Int} (h : CountsD D L) (hk : WideAt.IsKeyLit kl) (hat : D.atKey kl (.lit (.int .i64 0)) = .lit (.int .i64 c)) :
  CountsD (D.put kl (.lit (.int .i64 (c + 1)))) (L ++ [kl]) where
 isMap := h.isMap.put kl _
 key := fun k hm => by
  rcases List.mem_append.1 hm with hm | hm
  ·
   exact h.key k hm
  ·
   rw [List.mem_singleton.1 hm]; exact hk
 here := fun k hm => by
  by_cases e : k = kl
  ·
   rw [e]; exact has_put_same h.isMap hk _
  ·
   rw [has_put_other e]
   rcases List.mem_append.1 hm with hm | hm
   ·
    exact h.here k hm
   ·
    exact absurd (List.mem_singleton.1 hm) e
 only := fun k hm => by
  by_cases e : k = kl
  ·
   rw [e]; simp
  ·
   rw [has_put_other e] at hm
   exact List.mem_append_left _ (h.only k hm)
 at_ := fun k hkk => by
  rw [cntK_snoc]
  by_cases e : k = kl
  ·
   subst e
   rw [atKey_put_same h.isMap hk, WideAt.sameKey_self hk]
   have := h.at_ k hk
   rw [hat] at this
   simp only [numD_int] at this ⊢
   simp
   omega
  ·
   rw [atKey_put_other e]
   have : kl.sameKey k = false := sameKey_ne (fun h => e h.symm)
   rw [this, h.at_ k hkk]
   simp
theorem countsD_at {D : DataW Unit} {L : List Lit} {kl : Lit} {c : Int} (h : CountsD D L) (hk : WideAt.IsKeyLit kl) (hat : D.atKey kl (.lit (.int .i64 0)) = .lit (.int .i64 c)) : c = (cntK L kl : Int) := by
 have := h.at_ kl hk
 rw [hat] at this
 exact this
/-- What the keys that are no longer to come add up to. -/
def doneS (g : Lit → Int) (left : Lit → Bool) (L : List Lit) : Int := (L.map fun k => if left k = true then 0 else g k).sum
theorem sum_zero {α : Type} {f : α → Int} : ∀ {L : List α}, (∀ k ∈ L, f k = 0) → (L.map f).sum = 0
 | [], _ => rfl
 | x :: L, h => by
  rw [List.map_cons, List.sum_cons, h x (List.mem_cons_self ..), sum_zero (fun k hk => h k (List.mem_cons_of_mem _ hk))]
  rfl
theorem doneS_start {g : Lit → Int} {left : Lit → Bool} {L : List Lit} (h : ∀ k ∈ L, left k = true) : doneS g left L = 0 :=
 sum_zero (fun k hk => by rw [h k hk]; rfl)
theorem doneS_end {g : Lit → Int} {left : Lit → Bool} {L : List Lit} (h : ∀ k, left k = false) : doneS g left L = (L.map g).sum := by
 unfold doneS
 congr 1
 apply List.map_congr_left
 intro k _
 rw [h k]; rfl
theorem doneS_step {g : Lit → Int} {left : Lit → Bool} {kl : Lit} (hl : left kl = true) : ∀ (L : List Lit), doneS g (fun z => left z && !z.sameKey kl) L = doneS g left L + (cntK L kl : Int) * g kl
 | [] => by simp [doneS, cntK]
 | x :: L => by
  have ih := doneS_step (g := g) hl L
  unfold doneS cntK at ih ⊢
  rw [List.map_cons, List.sum_cons, List.map_cons, List.sum_cons, ih, List.countP_cons]
  cases hx : x.sameKey kl with
  | true =>
   have e := WideAt.sameKey_eq hx
   subst e
   simp only [hl, hx, Bool.not_true, Bool.and_false, if_true, if_false, Bool.false_eq_true]
   rw [show ((List.countP (fun x_1 => x_1.sameKey x) L + 1 : Nat) : Int) = (List.countP (fun x_1 => x_1.sameKey x) L : Int) + 1 from rfl, Int.add_mul, Int.one_mul]
   omega
  | false =>
   simp only [hx, Bool.not_false, Bool.and_true, if_false, Bool.false_eq_true, Nat.add_zero]
   omega
theorem doneS_range {g : Lit → Int} {M : Int} (hg : ∀ k, 0 ≤ g k ∧ g k ≤ M) (left : Lit → Bool) : ∀ (L : List Lit), 0 ≤ doneS g left L ∧ doneS g left L ≤ (L.length : Int) * M
 | [] => by simp [doneS]
 | x :: L => by
  have ih := doneS_range hg left L
  have hx := hg x
  unfold doneS at ih ⊢
  rw [List.map_cons, List.sum_cons, List.length_cons]
  rw [show ((L.length + 1 : Nat) : Int) = (L.length : Int) + 1 from rfl, Int.add_mul, Int.one_mul]
  split <;> omega
/-- Three numbers of a kind as a key. -/
theorem keyOf_triple {P : Program} {k e : TypeId} {q : IntKind} (A : WideMaps.ArrKey P k e 3) (he : P.underlying e = some (.int q)) (hsz : ∃ m, P.types.size = m + 1) {a b c : Int} (wa : (Lit.int q a).wf = true) (wb : (Lit.int q b).wf = true) (wc : (Lit.int q c).wf = true) :
  keyOf P k (.agg #[.int q a, .int q b, .int q c]) = some (.string (keyBytes [.int q a, .int q b, .int q c])) := by
 have hkt := A.keyType hsz
 obtain ⟨m, hm⟩ := hsz
 unfold keyOf
 simp only [A.hu]
 rw [if_pos (by simp [hkt, Value.formed, A.hu, A.size]), hm]
 unfold Program.keyLits
 simp only [A.hu, Value.cells]
 rw [if_pos (by rw [A.size]; rfl), show List.range 3 = [0, 1, 2] from rfl, List.mapM_cons, List.mapM_cons, List.mapM_cons, List.mapM_nil]
 simp [A.one, Program.keyLits, he, wa, wb, wc]
end Go.Proofs.YtededfficggkaaaDoor
namespace Go.Proofs.YtededfficggkaaaDoor
open Go.Maps Go.WideElems Go.ChangeMaps
open Go.WideMaps (KeyLaw)
set_option linter.unusedVariables false
set_option linter.unusedSimpArgs false
theorem setBlock_twice {w : World} {b : Nat} {o o' : Obj} (hb : b < w.heap.size) : setBlock (setBlock w b o) b o' = setBlock w b o' := by
 unfold setBlock
 simp
theorem entry_any {P : Program} {w : World} {t k e : TypeId} {b n : Nat} {D : DataW Unit} (K : KeyLaw P k) (ht : P.underlying t = some (.map k e)) (he : P.underlying e = some (.int .i64)) (hz : ∀ u : World, (zeroValue e).run P u = .ok (.int .i64 0) u)
  (hown : w.ownsMap P k (plainElem P e) b n D) (hn : n + 1 < maxLen) {key : Value} {kl : Lit} (hkey : keyOf P k key = some kl) :
  ∃ (c : Int) (st : Nat) (w1 : World), D.atKey kl (.lit (.int .i64 0)) = .lit (.int .i64 c) ∧ (Lit.int .i64 c).wf = true ∧
   (Instr.lookup t (.map (some b)) key false).run P w = .ok (.int .i64 c) w ∧
   (Instr.mapEntry t (.map (some b)) key).run P w = .ok (.tuple #[.int .i64 c, goInt st]) w1 ∧
   (Instr.lookup t (.map (some b)) key false).run P w1 = .ok (.int .i64 c) w1 ∧ w.grownBy w1 (some b) ∧
   ∀ val, (Lit.int .i64 val).wf = true → ∃ w2, (Instr.entryStore t (.map (some b)) (goInt st) (.int .i64 val)).run P w1 = .ok () w2 ∧ w2.ownsMap P k (plainElem P e) b (n + 1) (D.put kl (.lit (.int .i64 val))) ∧ w1.grownBy w2 (some b) := by
 have K' := Keyed.of_law K
 obtain ⟨c, hlook, hat, hwc⟩ := hown.lookup_int K' ht he (hz w) hkey
 have hown' := hown
 obtain ⟨es, clock, hb, F, hs, hD⟩ := hown
 have hlt : b < w.heap.size := (Array.getElem?_eq_some_iff.1 hb).1
 obtain ⟨v0, st, es1, clock1, hent, hv0, hst⟩ := entry_then_store K ht hz hb F hkey
 -- the number that the entry holds is the one that the look-up sees
 obtain ⟨f1, _⟩ := F.stamped
 have hw1 : (setBlock w b (.map es1 clock1)).heap[b]? = some (.map es1 clock1) := heap_setBlock_same hb _
 have hval : v0 = .int .i64 c ∧ (Instr.lookup t (.map (some b)) key false).run P (setBlock w b (.map es1 clock1)) = .ok (.int .i64 c) (setBlock w b (.map es1 clock1)) := by
  -- storing the very number turns nothing further: so behind the entry the map reads as one that holds it
  rcases K.find w hkey es.toList F.keys with ⟨h1, h2⟩ | ⟨j, e0, h1, h2, h3⟩
  ·
   have hz0 : v0 = .int .i64 0 := by
    rcases hv0 with ⟨e0, hm, hk, _⟩ | ⟨_, e⟩
    ·
     exact absurd hk (h2 e0 hm)
    ·
     exact e
   have hc0 : c = 0 := by
    have := hlook
    simp [Instr.lookup, run_underlying ht, MapKept.run_getObj_map hb, K.check w es.isEmpty hkey, h1, hz, Result.andThen] at this
    exact this.symm
   have hes : es1 = es.push ⟨key, .int .i64 0, clock⟩ := by
    have := hent
    simp [Instr.mapEntry, run_underlying ht, MapKept.run_getObj_map hb, K.check w false hkey, h1, hz, MapKept.run_setObj_map _ hb, Result.andThen] at this
    have h9 := congrArg (fun u : World => u.heap[b]?) this.2
    simp [setBlock, hlt] at h9
    exact h9.1.symm
   refine ⟨by rw [hz0, hc0], ?_⟩
   rcases K.find (setBlock w b (.map es1 clock1)) hkey es1.toList (fun x hx => by
    rw [hes] at hx
    simp at hx
    rcases hx with hx | rfl
    ·
     exact F.keys x (by simpa using hx)
    ·
     exact ⟨kl, hkey⟩) with ⟨g1, g2⟩ | ⟨j, e0, g1, g2, g3⟩
   ·
    exact absurd rfl (g2 ⟨key, .int .i64 0, clock⟩ (by rw [hes]; simp))
   ·
    have he0 : e0.val = .int .i64 0 := by
     have hm := List.mem_of_getElem? g2
     rw [hes] at hm
     simp at hm
     rcases hm with hm | rfl
     ·
      exact absurd g3 (h2 e0 (by simpa using hm))
     ·
      rfl
    rw [hc0]
    simp [Instr.lookup, run_underlying ht, MapKept.run_getObj_map hw1, K.check _ es1.isEmpty hkey, g1, he0, Result.andThen]
  ·
   have hes : setBlock w b (.map es1 clock1) = w ∧ v0 = e0.val := by
    have hj : es[j]? = some e0 := by simpa using h2
    have hsame : es.modify j (fun e => { e with key := key }) = es := by
     apply Array.ext'
     rw [Array.toList_modify, modify_eq_set _ _ _ _ h2]
     have h9 : ({ e0 with key := key } : MapEntry) = e0 := by rw [← h3]
     rw [h9]
     exact set_self _ _ _ h2
    have := hent
    simp [Instr.mapEntry, run_underlying ht, MapKept.run_getObj_map hb, K.check w false hkey, h1, hj, h3, K.stays w hkey, hsame, MapKept.run_setObj_map _ hb, Result.andThen] at this
    refine ⟨?_, this.1.1.symm⟩
    have h7 := this.2
    simp only [setBlock] at h7 ⊢
    rw [← h7]
    have h8 : w.heap[b] = .map es clock := by
     have := Array.getElem?_eq_some_iff.1 hb
     exact this.2
    have : w.heap.setIfInBounds b (.map es clock) = w.heap := by
     apply Array.ext
     ·
      simp
     ·
      intro i hi1 hi2
      rw [Array.getElem_setIfInBounds]
      split
      ·
       rename_i heq; subst heq; exact h8.symm
      ·
       rfl
    rw [this]
   have hc0 : e0.val = .int .i64 c := by
    have := hlook
    simp [Instr.lookup, run_underlying ht, MapKept.run_getObj_map hb, K.check w es.isEmpty hkey, h1, Result.andThen] at this
    exact this
   rw [hes.1]
   exact ⟨by rw [hes.2, hc0], hlook⟩
 refine ⟨c, st, setBlock w b (.map es1 clock1), hat, hwc, hlook, by rw [hent, hval.1], hval.2, ⟨rfl, rfl, rfl, by simp [setBlock], fun i _ hi => heap_setBlock_other hb _ (fun e => hi (by rw [e]))⟩, fun val hwv => ?_⟩
 obtain ⟨es', clock', r1, r2⟩ := hst (setBlock w b (.map es1 clock1)) (.int .i64 val) hw1
 obtain ⟨w9, r3, r4, r5⟩ := hown'.update K' ht (by omega) hkey (plainElem_int he hwv)
 have e9 : w9 = setBlock w b (.map es' clock') := by
  rw [r2] at r3
  injection r3 with _ h
  exact h.symm
 subst e9
 refine ⟨_, r1, ?_, ⟨rfl, rfl, rfl, by simp [setBlock], fun i _ hi => heap_setBlock_other hw1 _ (fun e => hi (by rw [e]))⟩⟩
 rw [setBlock_twice hlt]
 exact r4
end Go.Proofs.YtededfficggkaaaDoor
