/-
 Texts of the proof, merged: TCondS, TQuery, TRow, TRowS, TActive.
-/
import Derived.Test.YtdhglmoanpkeoaaEQ1
import Derived.BigQuiet
import Derived.Deep.QuietTactic
import Derived.Deep.RegionHeld3
namespace Go.Proofs.Ytdhglmoanpkeoaa
open Go.RowKit
set_option linter.unusedVariables false
set_option linter.unusedSimpArgs false
abbrev tCondS : Ty (List (Int × Int × Int)) := tSl 147 tCond
theorem tCondS_law : tCondS.Law := tSl_law tCond_law (by decide)
set_option maxHeartbeats 8000000 in
set_option maxRecDepth 100000 in
theorem szCondS_Y (v : Value) (xs : List (Int × Int × Int)) (k0 : Int) (w : World) (h : SlR tCond w v xs) (hs : ((zL tCond xs : Nat) : Int) ≤ k0) (hk : k0 ≤ 1048576) :
  Calls Try.prog 142 #[v, .int .i64 k0] w fun e w' => e = .returned (.int .i64 (k0 - ((zL tCond xs : Nat) : Int))) ∧ Below w.heap.size w w' := by
 have hz : zL tCond xs = xs.length := zL_flat (fun _ => rfl) xs
 rw [hz] at hs ⊢
 obtain ⟨a, cap, rfl⟩ := slR_len h
 clear h hz
 have h0 : ¬ k0 - (xs.length : Int) < 0 := by omega
 go_enter Try.func142, Try.ntmps142
 go_wp2
 go_ret
 exact ⟨rfl, Below.refl _ _⟩
set_option maxHeartbeats 8000000 in
set_option maxRecDepth 100000 in
theorem szCondS_N (v : Value) (xs : List (Int × Int × Int)) (k0 : Int) (w : World) (h : SlR tCond w v xs) (hs : k0 < ((zL tCond xs : Nat) : Int)) (hk : k0 ≤ 1048576) (hp : 0 ≤ k0) (ho : tCondS.ok xs) :
  Calls Try.prog 142 #[v, .int .i64 k0] w fun e w' => e = .returned (.int .i64 (-1)) ∧ Below w.heap.size w w' := by
 have hz : zL tCond xs = xs.length := zL_flat (fun _ => rfl) xs
 rw [hz] at hs
 obtain ⟨a, cap, rfl⟩ := slR_len h
 have hn := ho.1
 clear h hz ho
 have h0 : k0 - (xs.length : Int) < 0 := by omega
 go_enter Try.func142, Try.ntmps142
 go_wp2
 go_ret
 exact ⟨rfl, Below.refl _ _⟩
theorem Try.info_Cond : (Try.prog.info? 147).map (fun i => (i.zero, i.size)) = some (some (.agg #[.int .i64 0, .int .i64 0, .int .i64 0]), 3) := by kernel_rfl
theorem Try.bytes_Cond : ((Try.prog.info? 147).map (fun i => decide (i.bytes ≤ 512))) = some true := by kernel_rfl
theorem tCond_zero (w : World) : tCond.O w (fun _ => False) #[.int .i64 0, .int .i64 0, .int .i64 0].toList tCond.d := tCond_mkO   
set_option maxHeartbeats 8000000 in
set_option maxRecDepth 100000 in
theorem toCondS_S (v : Value) (xs : List (Int × Int × Int)) (w : World) (h : SlR tCond w v xs) (hs : zL tCond xs ≤ 1048576) :
  Calls Try.prog 144 #[v] w (FreshS 147 tCond w xs) := by
 obtain ⟨i0, hi, hz0, hz1⟩ : ∃ i0, Try.prog.info? 147 = some i0 ∧ i0.zero = some (.agg #[.int .i64 0, .int .i64 0, .int .i64 0]) ∧ i0.size = 3 := by
  have h0 := Try.info_Cond
  cases q : Try.prog.info? 147 with
  | none => rw [q] at h0; simp at h0
  | some i => rw [q] at h0; simp only [Option.map_some, Option.some.injEq, Prod.mk.injEq] at h0; exact ⟨i, rfl, h0.1, h0.2⟩
 have hz2 : i0.bytes ≤ 512 := by
  have h0 := Try.bytes_Cond
  rw [hi] at h0
  simpa using h0
 have HI := Lib.hid hi; have HZ0 := Lib.hid hz0; have HZ1 := Lib.hid hz1; have HZ2 := Lib.hid hz2
 clear hi hz0 hz1 hz2
 have H := Lib.hid h
 have hlen := zL_len hs
 have HS := Lib.hid hs
 obtain ⟨a, cap, rfl⟩ := slR_len h
 clear h hs
 go_enter Try.func144, Try.ntmps144
 go_wp2_with (at_make; refine wpList_make_full _ rfl (.tmp 6) (.tmp 6) 88 rfl w.heap.size 147 i0 (.agg #[.int .i64 0, .int .i64 0, .int .i64 0]) 3 Try.underlying88 HI.out HZ0.out HZ1.out _ _ _ _ xs.length rfl rfl rfl rfl (by have h9 := Nat.mul_le_mul HZ2.out hlen; have h8 := Nat.mul_le_mul hlen HZ2.out; omega) (by unfold maxLen; omega) (Nat.le_refl _) ?_)
 intro w1 hown0 hg0
 have hown1 : SlO 147 tCond w1 (since w) (.slice (some ⟨w.heap.size, 0, none⟩) xs.length xs.length) (List.replicate xs.length tCond.d) := slO_made (z := #[.int .i64 0, .int .i64 0, .int .i64 0]) tCond_law rfl (tCond_zero w1) (Nat.le_refl _) hown0
 have hbel1 := (Below.refl w.heap.size w).grown hg0 (Nat.le_refl _) (fun k hk => by cases hk)
 clear hown0 hg0
 go_wp2
 go_loopw [4] (fun i wr => ∃ k : Nat, k ≤ xs.length ∧ i = .int .i64 k ∧ SlO 147 tCond wr (since w) (.slice (some ⟨w.heap.size, 0, none⟩) xs.length xs.length) (xs.take k ++ List.replicate (xs.length - k) tCond.d) ∧ Below w.heap.size w wr) (fun i _ => xs.length - (intOf i).toNat)
 case atStart => exact ⟨0, Nat.zero_le _, rfl, by simpa using hown1, hbel1⟩
 case round =>
  obtain ⟨k, hk, rfl, hown, hbel⟩ := hrel
  by_cases hlt : k < xs.length
  ·
   have HSET := Lib.hid (cTo_step (d := tCond.d) hlt)
   have HKL : Hid (k < (xs.take k ++ List.replicate (xs.length - k) tCond.d).length) := Lib.hid (by rw [cTo_len hk]; exact hlt)
   have HLL := Lib.hid (cTo_len (d := tCond.d) hk)
   have i1 : (0 : Int) ≤ (k : Int) := by omega
   have i2 : (k : Int) < (xs.length : Int) := by omega
   have hzx := zL_at HS.out hlt
   obtain ⟨b, off, cap', cs, hv, hbl, hcs, hR⟩ := slR_at (slR_below tCond_law H.out hbel) hlt
   simp only [Value.slice.injEq] at hv
   obtain ⟨rfl, _, rfl⟩ := hv
   obtain ⟨hme, hFg, hgl, cj, Fj, Lc, hrow, hLc, hO, hFj, hput⟩ := slO_open tCond_law hown HKL.out
   clear hme
   clear hown1 hbel1
   generalize xs.getD k tCond.d = x at *
   generalize xs.take k ++ List.replicate (xs.length - k) tCond.d = ys at *
   obtain ⟨a0, a1, a2⟩ := x
   obtain rfl := tCond_R hR
   have p0 : wr.cell? ⟨b, off + k * 3, none⟩ = some (Value.int .i64 a0) := hcs 0 (by decide)
   have p1 : wr.cell? ⟨b, off + k * 3 + 1, none⟩ = some (Value.int .i64 a1) := hcs 1 (by decide)
   have p2 : wr.cell? ⟨b, off + k * 3 + 2, none⟩ = some (Value.int .i64 a2) := hcs 2 (by decide)
   have HC := Lib.hid (fun w => toCond_T a0 a1 a2 w  )
   clear hcs hzx
   go_wp2_with fail
   refine (HC.out _).mono ?_
   rintro e w2 ⟨cv, rfl, ow, b2⟩
   replace ow := tCond_law.lt ow
   obtain rfl := tCond_O ow
   have r0 := row_turn (G := fun _ => False) hrow (turn_below b2) (fun _ _ => not_false)
   rw [HLL.out] at r0
   have q0 : ∃ x, w2.cell? ⟨w.heap.size, k * 3, none⟩ = some x := ⟨_, (World.ownsRow.cellAt r0 (k * 3) (by have := HKL.out; rw [HLL.out] at this; show _ < xs.length * 3; omega)).trans (List.getElem?_eq_getElem (by have h1 : Lc.length = xs.length * 3 := r0.1; omega))⟩
   obtain ⟨y0, q0⟩ := q0
   have f0 := World.ownsRow.frozenAt r0 (k * 3)
   have q1 : ∃ x, w2.cell? ⟨w.heap.size, k * 3 + 1, none⟩ = some x := ⟨_, (World.ownsRow.cellAt r0 (k * 3 + 1) (by have := HKL.out; rw [HLL.out] at this; show _ < xs.length * 3; omega)).trans (List.getElem?_eq_getElem (by have h1 : Lc.length = xs.length * 3 := r0.1; omega))⟩
   obtain ⟨y1, q1⟩ := q1
   have f1 := World.ownsRow.frozenAt r0 (k * 3 + 1)
   have q2 : ∃ x, w2.cell? ⟨w.heap.size, k * 3 + 2, none⟩ = some x := ⟨_, (World.ownsRow.cellAt r0 (k * 3 + 2) (by have := HKL.out; rw [HLL.out] at this; show _ < xs.length * 3; omega)).trans (List.getElem?_eq_getElem (by have h1 : Lc.length = xs.length * 3 := r0.1; omega))⟩
   obtain ⟨y2, q2⟩ := q2
   have f2 := World.ownsRow.frozenAt r0 (k * 3 + 2)
   have b3 := hbel.trans (b2.mono hbel.size)
   have B3 := Lib.hid (((b3.setCell (p := ⟨w.heap.size, k * 3, none⟩) (Nat.le_refl _) (.int .i64 a0)).setCell (p := ⟨w.heap.size, k * 3 + 1, none⟩) (Nat.le_refl _) (.int .i64 a1)).setCell (p := ⟨w.heap.size, k * 3 + 2, none⟩) (Nat.le_refl _) (.int .i64 a2))
   have hT : Turn (fun b => b = w.heap.size ∨ Fj b ∨ wr.heap.size ≤ b) wr (((w2.setCell ⟨w.heap.size, k * 3, none⟩ (.int .i64 a0)).setCell ⟨w.heap.size, k * 3 + 1, none⟩ (.int .i64 a1)).setCell ⟨w.heap.size, k * 3 + 2, none⟩ (.int .i64 a2)) := ((((turn_below b2).trans (turn_set (j := k * 3) (u := .int .i64 a0) (Or.inl rfl))).trans (turn_set (j := k * 3 + 1) (u := .int .i64 a1) (Or.inl rfl))).trans (turn_set (j := k * 3 + 2) (u := .int .i64 a2) (Or.inl rfl)))
   have hT2 : Turn (fun b => b = w.heap.size) w2 (((w2.setCell ⟨w.heap.size, k * 3, none⟩ (.int .i64 a0)).setCell ⟨w.heap.size, k * 3 + 1, none⟩ (.int .i64 a1)).setCell ⟨w.heap.size, k * 3 + 2, none⟩ (.int .i64 a2)) := ((((Turn.refl (fun b => b = w.heap.size) _).trans (turn_set (G := fun b => b = w.heap.size) (j := k * 3) (u := .int .i64 a0) rfl)).trans (turn_set (G := fun b => b = w.heap.size) (j := k * 3 + 1) (u := .int .i64 a1) rfl)).trans (turn_set (G := fun b => b = w.heap.size) (j := k * 3 + 2) (u := .int .i64 a2) rfl))
   have hO2 := tCond_law.turn ow hT2 (fun b h1 h2 => by have := h1.1; simp only [since] at this; omega)
   have r9 := (World.ownsRow.stored (World.ownsRow.stored (World.ownsRow.stored r0 (k * 3) (.int .i64 a0)).1 (k * 3 + 1) (.int .i64 a1)).1 (k * 3 + 2) (.int .i64 a2)).1
   have hLl : Lc.length = xs.length * 3 := r0.1
   have hst := Lib.hid (hput (((w2.setCell ⟨w.heap.size, k * 3, none⟩ (.int .i64 a0)).setCell ⟨w.heap.size, k * 3 + 1, none⟩ (.int .i64 a1)).setCell ⟨w.heap.size, k * 3 + 2, none⟩ (.int .i64 a2)) (((Lc.set (k * 3) (.int .i64 a0)).set (k * 3 + 1) (.int .i64 a1)).set (k * 3 + 2) (.int .i64 a2)) [.int .i64 a0, .int .i64 a1, .int .i64 a2] _ (a0, a1, a2) (by rw [HLL.out]; exact r9) (fun p hp => by have hp2 : p < k * 3 ∨ k * 3 + 3 ≤ p := hp; rw [List.getElem?_set_ne (by omega)]; rw [List.getElem?_set_ne (by omega)]; rw [List.getElem?_set_ne (by omega)]) (fun i hi => by have hi' : i < 3 := hi; match i, hi' with | 0, _ => (show ((((Lc.set (k * 3) (.int .i64 a0)).set (k * 3 + 1) (.int .i64 a1)).set (k * 3 + 2) (.int .i64 a2)))[k * 3]? = _; rw [List.getElem?_set_ne (by omega)]; rw [List.getElem?_set_ne (by omega)]; rw [List.getElem?_set_self (by first | omega | (simp only [List.length_set]; omega))]; rfl) | 1, _ => (show ((((Lc.set (k * 3) (.int .i64 a0)).set (k * 3 + 1) (.int .i64 a1)).set (k * 3 + 2) (.int .i64 a2)))[k * 3 + 1]? = _; rw [List.getElem?_set_ne (by omega)]; rw [List.getElem?_set_self (by first | omega | (simp only [List.length_set]; omega))]; rfl) | 2, _ => (show ((((Lc.set (k * 3) (.int .i64 a0)).set (k * 3 + 1) (.int .i64 a1)).set (k * 3 + 2) (.int .i64 a2)))[k * 3 + 2]? = _; rw [List.getElem?_set_self (by first | omega | (simp only [List.length_set]; omega))]; rfl)) hO2 (fun b hb => ⟨Nat.le_trans hbel.size hb.1, Or.inr hb.1⟩) hT)
   have hst2 : SlO 147 tCond (((w2.setCell ⟨w.heap.size, k * 3, none⟩ (.int .i64 a0)).setCell ⟨w.heap.size, k * 3 + 1, none⟩ (.int .i64 a1)).setCell ⟨w.heap.size, k * 3 + 2, none⟩ (.int .i64 a2)) (since w) (.slice (some ⟨w.heap.size, 0, none⟩) xs.length xs.length) (xs.take (k + 1) ++ List.replicate (xs.length - (k + 1)) tCond.d) := by have := hst.out; rw [HSET.out] at this; exact this
   have HST := Lib.hid hst2
   clear hst hst2 hT hT2 hO2 r9 r0 hrow hO hput hown hbel b2 ow b3 hLl hLc hFj
   go_wp2
   go_roundw
   case rel => exact ⟨k + 1, by omega, by go_num, HST.out, B3.out⟩
   case measure => simp [intOf]; omega
  ·
   obtain rfl : k = xs.length := by omega
   have HE : Hid (xs.take xs.length ++ List.replicate (xs.length - xs.length) tCond.d = xs) := Lib.hid (by simp)
   rw [HE.out] at hown
   go_wp2
   go_ret
   exact ⟨_, rfl, hown, hbel⟩
set_option maxHeartbeats 8000000 in
set_option maxRecDepth 100000 in
theorem eqCondS_S (v u : Value) (xs : List (Int × Int × Int)) (w : World) (h : SlR tCond w v xs) (g : SlR tCond w u xs) (hs : zL tCond xs ≤ 1048576) :
  Calls Try.prog 141 #[v, u] w fun e w' => e = .returned (.bool true) ∧ Below w.heap.size w w' := by
 have H := Lib.hid h
 have G := Lib.hid g
 have HS := Lib.hid hs
 have hlen := zL_len hs
 obtain ⟨a, cap, rfl⟩ := slR_len h
 obtain ⟨a2, cap2, rfl⟩ := slR_len g
 clear h g hs
 go_enter Try.func141, Try.ntmps141
 go_wp2
 go_loopw [5] (fun i wr => ∃ k : Nat, k ≤ xs.length ∧ i = .int .i64 k ∧ Below w.heap.size w wr) (fun i _ => xs.length - (intOf i).toNat)
 case atStart => exact ⟨0, Nat.zero_le _, rfl, Below.refl _ _⟩
 case round =>
  obtain ⟨k, hk, rfl, hbel⟩ := hrel
  by_cases hlt : k < xs.length
  ·
   obtain ⟨b, off, cap', cs, hv, hbl, hcs, hR⟩ := slR_at (slR_below tCond_law H.out hbel) hlt
   simp only [Value.slice.injEq] at hv
   obtain ⟨rfl, _, rfl⟩ := hv
   obtain ⟨b2, off2, cap2', ds, hv2, hbl2, hds, hQ⟩ := slR_at (slR_below tCond_law G.out hbel) hlt
   simp only [Value.slice.injEq] at hv2
   obtain ⟨rfl, _, rfl⟩ := hv2
   have hzx := zL_at HS.out hlt
   have i1 : (0 : Int) ≤ (k : Int) := by omega
   have i2 : (k : Int) < (xs.length : Int) := by omega
   generalize xs.getD k tCond.d = x at *
   obtain ⟨a0, a1, a2⟩ := x
   obtain rfl := tCond_R hR
   obtain rfl := tCond_R hQ
   have p0 : wr.cell? ⟨b, off + k * 3, none⟩ = some (Value.int .i64 a0) := hcs 0 (by decide)
   have q0 : wr.cell? ⟨b2, off2 + k * 3, none⟩ = some (Value.int .i64 a0) := hds 0 (by decide)
   have p1 : wr.cell? ⟨b, off + k * 3 + 1, none⟩ = some (Value.int .i64 a1) := hcs 1 (by decide)
   have q1 : wr.cell? ⟨b2, off2 + k * 3 + 1, none⟩ = some (Value.int .i64 a1) := hds 1 (by decide)
   have p2 : wr.cell? ⟨b, off + k * 3 + 2, none⟩ = some (Value.int .i64 a2) := hcs 2 (by decide)
   have q2 : wr.cell? ⟨b2, off2 + k * 3 + 2, none⟩ = some (Value.int .i64 a2) := hds 2 (by decide)
   clear hcs hds hzx
   go_wp2
   go_region_with (first | (go_at_call 149; refine (eqCond_T a0 a1 a2 _).mono ?_; rintro e w8 ⟨rfl, b9⟩; have b10 : Below wr.heap.size wr w8 := ⟨b9.os, b9.tape, b9.output, b9.size, b9.block⟩))
   all_goals
    have b11 := hbel.trans (b10.mono hbel.size)
    go_wp2
    go_roundw
    case rel => exact ⟨k + 1, by omega, by go_num, b11⟩
    case measure => simp [intOf]; omega
  ·
   go_wp2
   go_ret
   exact ⟨rfl, hbel⟩
def tQuery : Ty (Int × Int × List (Int × Int × Int) × List Int) := tPair tInt (tPair tInt (tPair tCondS tIntS))
theorem tQuery_law : tQuery.Law := tPair_law tInt_law (tPair_law tInt_law (tPair_law tCondS_law tIntS_law))
theorem tQuery_O {w : World} {F : Nat → Prop} {cs : List Value} {a0 : Int} {a1 : Int} {x2 : List (Int × Int × Int)} {x3 : List Int} (h : tQuery.O w F cs (a0, a1, x2, x3)) : ∃ v2 v3, ∃ F2 F3 : Nat → Prop, cs = [.int .i64 a0, .int .i64 a1, v2, v3] ∧ SlO 147 tCond w F2 v2 x2 ∧ SlO 3 tInt w F3 v3 x3 ∧ (∀ b, F2 b → F b) ∧ (∀ b, F3 b → F b) ∧ (∀ b, F2 b → ¬ F3 b) := by
 obtain ⟨_, _, F0_1, F0_2, rfl, rfl, ⟨_, _, F1_1, F1_2, rfl, rfl, ⟨_, _, F2_1, F2_2, rfl, ⟨v2, rfl, h2⟩, ⟨v3, rfl, h3⟩, s2_1, s2_2, d2⟩, s1_1, s1_2, d1⟩, s0_1, s0_2, d0⟩ := h
 exact ⟨v2, v3, F2_1, F2_2, rfl, h2, h3, fun b h => (s0_2 b (s1_2 b (s2_1 b h))), fun b h => (s0_2 b (s1_2 b (s2_2 b h))), fun b h h2 => d2 b h h2⟩
theorem tQuery_mkO {w : World} {F : Nat → Prop} {a0 : Int} {a1 : Int} {x2 : List (Int × Int × Int)} {x3 : List Int} {v2 v3 : Value} {F2 F3 : Nat → Prop} (h2 : SlO 147 tCond w F2 v2 x2) (h3 : SlO 3 tInt w F3 v3 x3) (s2 : ∀ b, F2 b → F b) (s3 : ∀ b, F3 b → F b) (d2_3 : ∀ b, F2 b → ¬ F3 b) : tQuery.O w F [.int .i64 a0, .int .i64 a1, v2, v3] (a0, a1, x2, x3) := ⟨[.int .i64 a0], [.int .i64 a1, v2, v3], fun _ => False, fun b => F2 b ∨ (F3 b), rfl, rfl, ⟨[.int .i64 a1], [v2, v3], fun _ => False, fun b => F2 b ∨ (F3 b), rfl, rfl, ⟨[v2], [v3], F2, F3, rfl, ⟨_, rfl, h2⟩, ⟨_, rfl, h3⟩, (fun b h => (Or.inl h)), (fun b h => (Or.inr h)), (fun b h g => d2_3 b h g)⟩, (fun b h => (False.elim h)), (fun b h => (h.elim (fun q0 => (Or.inl q0)) (fun q0 => (Or.inr q0)))), (fun b h g => (False.elim h))⟩, (fun b h => (False.elim h)), (fun b h => (h.elim (fun q0 => s2 b q0) (fun q0 => s3 b q0))), (fun b h g => (False.elim h))⟩
set_option maxHeartbeats 8000000 in
set_option maxRecDepth 100000 in
theorem szQuery_Y (a0 a1 : Int) (v2 v3 : Value) (x2 : List (Int × Int × Int)) (x3 : List Int) (k0 : Int) (w : World) (h2 : SlR tCond w v2 x2) (h3 : SlR tInt w v3 x3) (hs : ((zL tCond x2 + zL tInt x3 : Nat) : Int) ≤ k0) (hk : k0 ≤ 1048576) :
  Calls Try.prog 130 #[.agg #[.int .i64 a0, .int .i64 a1, v2, v3], .int .i64 k0] w fun e w' => e = .returned (.int .i64 (k0 - ((zL tCond x2 + zL tInt x3 : Nat) : Int))) ∧ Below w.heap.size w w' := by
 have H2 := Lib.hid h2
 have H3 := Lib.hid h3
 clear h2 h3
 have HZ2 : Hid (((zL tCond x2 : Nat) : Int) ≤ k0) := Lib.hid (by omega)
 have HK2 : Hid (k0 ≤ 1048576) := Lib.hid (by omega)
 have hn2 : ¬ k0 - ((zL tCond x2 : Nat) : Int) < 0 := by omega
 have HZ3 : Hid (((zL tInt x3 : Nat) : Int) ≤ k0 - ((zL tCond x2 : Nat) : Int)) := Lib.hid (by omega)
 have HK3 : Hid (k0 - ((zL tCond x2 : Nat) : Int) ≤ 1048576) := Lib.hid (by omega)
 have hn3 : ¬ k0 - ((zL tCond x2 : Nat) : Int) - ((zL tInt x3 : Nat) : Int) < 0 := by omega
 have HE : Hid (k0 - ((zL tCond x2 : Nat) : Int) - ((zL tInt x3 : Nat) : Int) = k0 - ((zL tCond x2 + zL tInt x3 : Nat) : Int)) := Lib.hid (by omega)
 clear hs hk
 have hb : Below w.heap.size w (w.alloc (.cells #[.int .i64 a0, .int .i64 a1, v2, v3] 132)) := (Below.refl _ w).alloc (Nat.le_refl _) _
 have g0 : (w.alloc (.cells #[.int .i64 a0, .int .i64 a1, v2, v3] 132)).heap[w.heap.size]? = some (.cells #[.int .i64 a0, .int .i64 a1, v2, v3] 132 (0, 0)) := heap_alloc_new w _
 have hz0 : w.heap.size < (w.alloc (.cells #[.int .i64 a0, .int .i64 a1, v2, v3] 132)).heap.size := by simp
 go_enter Try.func130, Try.ntmps130
 go_wp2_with fail
 generalize (w.alloc (.cells #[.int .i64 a0, .int .i64 a1, v2, v3] 132)) = W at *
 refine (szCondS_Y v2 x2 (k0) W (slR_below tCond_law H2.out hb) HZ2.out HK2.out).mono ?_
 rintro e W1 ⟨rfl, b1⟩
 replace g0 := (b1.block w.heap.size hz0).trans g0
 replace hz0 := Nat.lt_of_lt_of_le hz0 b1.size
 replace hb := hb.trans (b1.mono hb.size)
 clear b1
 have p3 := (cell_of_row W1 _ 3 _ _ _ g0).trans (show _ = some (v3) from rfl)
 go_wp2_with fail
 clear p3
 refine (szIntS_Y v3 x3 (k0 - ((zL tCond x2 : Nat) : Int)) W1 (slR_below tInt_law H3.out hb) HZ3.out HK3.out).mono ?_
 rintro e W2 ⟨rfl, b1⟩
 replace g0 := (b1.block w.heap.size hz0).trans g0
 replace hz0 := Nat.lt_of_lt_of_le hz0 b1.size
 replace hb := hb.trans (b1.mono hb.size)
 clear b1
 go_wp2
 go_ret
 exact ⟨ty_ret HE.out, hb⟩
set_option maxHeartbeats 8000000 in
set_option maxRecDepth 100000 in
theorem szQuery_N (a0 a1 : Int) (v2 v3 : Value) (x2 : List (Int × Int × Int)) (x3 : List Int) (k0 : Int) (w : World) (h2 : SlR tCond w v2 x2) (h3 : SlR tInt w v3 x3) (hs : k0 < ((zL tCond x2 + zL tInt x3 : Nat) : Int)) (hk : k0 ≤ 1048576) (hp : 0 ≤ k0) (o2 : tCondS.ok x2) (o3 : tIntS.ok x3) :
  Calls Try.prog 130 #[.agg #[.int .i64 a0, .int .i64 a1, v2, v3], .int .i64 k0] w fun e w' => e = .returned (.int .i64 (-1)) ∧ Below w.heap.size w w' := by
 have H2 := Lib.hid h2
 have H3 := Lib.hid h3
 clear h2 h3
 have HO2 := Lib.hid o2
 have HO3 := Lib.hid o3
 clear o2 o3
 by_cases c0 : k0 < ((zL tCond x2 : Nat) : Int)
 ·
  have HZ2 : Hid (k0 < ((zL tCond x2 : Nat) : Int)) := Lib.hid (by omega)
  have HP2 : Hid (0 ≤ k0) := Lib.hid (by omega)
  have HK2 : Hid (k0 ≤ 1048576) := Lib.hid (by omega)
  clear hs hk
  clear c0 hp
  have hb : Below w.heap.size w (w.alloc (.cells #[.int .i64 a0, .int .i64 a1, v2, v3] 132)) := (Below.refl _ w).alloc (Nat.le_refl _) _
  have g0 : (w.alloc (.cells #[.int .i64 a0, .int .i64 a1, v2, v3] 132)).heap[w.heap.size]? = some (.cells #[.int .i64 a0, .int .i64 a1, v2, v3] 132 (0, 0)) := heap_alloc_new w _
  have hz0 : w.heap.size < (w.alloc (.cells #[.int .i64 a0, .int .i64 a1, v2, v3] 132)).heap.size := by simp
  go_enter Try.func130, Try.ntmps130
  go_wp2_with fail
  generalize (w.alloc (.cells #[.int .i64 a0, .int .i64 a1, v2, v3] 132)) = W at *
  refine (szCondS_N v2 x2 (k0) W (slR_below tCond_law H2.out hb) HZ2.out HK2.out HP2.out HO2.out).mono ?_
  rintro e W1 ⟨rfl, b1⟩
  replace g0 := (b1.block w.heap.size hz0).trans g0
  replace hz0 := Nat.lt_of_lt_of_le hz0 b1.size
  replace hb := hb.trans (b1.mono hb.size)
  clear b1
  go_wp2
  go_ret
  exact ⟨rfl, hb⟩
 ·
  have HZ2 : Hid (((zL tCond x2 : Nat) : Int) ≤ k0) := Lib.hid (by omega)
  have hn2 : ¬ k0 - ((zL tCond x2 : Nat) : Int) < 0 := by omega
  have HK2 : Hid (k0 ≤ 1048576) := Lib.hid (by omega)
  have HZ3 : Hid (k0 - ((zL tCond x2 : Nat) : Int) < ((zL tInt x3 : Nat) : Int)) := Lib.hid (by omega)
  have HP3 : Hid (0 ≤ k0 - ((zL tCond x2 : Nat) : Int)) := Lib.hid (by omega)
  have HK3 : Hid (k0 - ((zL tCond x2 : Nat) : Int) ≤ 1048576) := Lib.hid (by omega)
  clear hs hk
  clear hp c0
  have hb : Below w.heap.size w (w.alloc (.cells #[.int .i64 a0, .int .i64 a1, v2, v3] 132)) := (Below.refl _ w).alloc (Nat.le_refl _) _
  have g0 : (w.alloc (.cells #[.int .i64 a0, .int .i64 a1, v2, v3] 132)).heap[w.heap.size]? = some (.cells #[.int .i64 a0, .int .i64 a1, v2, v3] 132 (0, 0)) := heap_alloc_new w _
  have hz0 : w.heap.size < (w.alloc (.cells #[.int .i64 a0, .int .i64 a1, v2, v3] 132)).heap.size := by simp
  go_enter Try.func130, Try.ntmps130
  go_wp2_with fail
  generalize (w.alloc (.cells #[.int .i64 a0, .int .i64 a1, v2, v3] 132)) = W at *
  refine (szCondS_Y v2 x2 (k0) W (slR_below tCond_law H2.out hb) HZ2.out HK2.out).mono ?_
  rintro e W1 ⟨rfl, b1⟩
  replace g0 := (b1.block w.heap.size hz0).trans g0
  replace hz0 := Nat.lt_of_lt_of_le hz0 b1.size
  replace hb := hb.trans (b1.mono hb.size)
  clear b1
  have p3 := (cell_of_row W1 _ 3 _ _ _ g0).trans (show _ = some (v3) from rfl)
  go_wp2_with fail
  clear p3
  refine (szIntS_N v3 x3 (k0 - ((zL tCond x2 : Nat) : Int)) W1 (slR_below tInt_law H3.out hb) HZ3.out HK3.out HP3.out HO3.out).mono ?_
  rintro e W2 ⟨rfl, b1⟩
  replace g0 := (b1.block w.heap.size hz0).trans g0
  replace hz0 := Nat.lt_of_lt_of_le hz0 b1.size
  replace hb := hb.trans (b1.mono hb.size)
  clear b1
  go_wp2
  go_ret
  exact ⟨rfl, hb⟩
set_option maxHeartbeats 8000000 in
set_option maxRecDepth 100000 in
theorem toQuery_T (a0 a1 : Int) (v2 v3 : Value) (x2 : List (Int × Int × Int)) (x3 : List Int) (w : World) (h2 : SlR tCond w v2 x2) (h3 : SlR tInt w v3 x3) (s2 : zL tCond x2 ≤ 1048576) (s3 : zL tInt x3 ≤ 1048576) :
  Calls Try.prog 132 #[.agg #[.int .i64 a0, .int .i64 a1, v2, v3]] w (FreshT tQuery (fun cs => .agg cs.toArray) w (a0, a1, x2, x3)) := by
 have H2 := Lib.hid h2
 have H3 := Lib.hid h3
 clear h2 h3
 have S2 := Lib.hid s2
 have S3 := Lib.hid s3
 clear s2 s3
 go_enter Try.func132, Try.ntmps132
 go_wp2_with fail
 have hb : Below w.heap.size w (((w.alloc (.cells #[.int .i64 a0, .int .i64 a1, v2, v3] 132)).alloc (.cells #[.int .i64 0, .int .i64 0, .slice none 0 0, .slice none 0 0] 90)).alloc (.cells #[.int .i64 a0, .int .i64 a1, .slice none 0 0, .slice none 0 0] 90)) := (((Below.refl _ w).alloc (Nat.le_refl _) _).alloc (by simp) _).alloc (by simp; omega) _
 have g2 : (((w.alloc (.cells #[.int .i64 a0, .int .i64 a1, v2, v3] 132)).alloc (.cells #[.int .i64 0, .int .i64 0, .slice none 0 0, .slice none 0 0] 90)).alloc (.cells #[.int .i64 a0, .int .i64 a1, .slice none 0 0, .slice none 0 0] 90)).heap[w.heap.size + 1 + 1]? = some (.cells #[.int .i64 a0, .int .i64 a1, .slice none 0 0, .slice none 0 0] 90 (0, 0)) := by
  have := heap_alloc_new ((w.alloc (.cells #[.int .i64 a0, .int .i64 a1, v2, v3] 132)).alloc (.cells #[.int .i64 0, .int .i64 0, .slice none 0 0, .slice none 0 0] 90)) (.cells #[.int .i64 a0, .int .i64 a1, .slice none 0 0, .slice none 0 0] 90)
  simpa only [World.size_alloc] using this
 have g1 : (((w.alloc (.cells #[.int .i64 a0, .int .i64 a1, v2, v3] 132)).alloc (.cells #[.int .i64 0, .int .i64 0, .slice none 0 0, .slice none 0 0] 90)).alloc (.cells #[.int .i64 a0, .int .i64 a1, .slice none 0 0, .slice none 0 0] 90)).heap[w.heap.size + 1]? = some (.cells #[.int .i64 0, .int .i64 0, .slice none 0 0, .slice none 0 0] 90 (0, 0)) := by
  have := heap_alloc_new (w.alloc (.cells #[.int .i64 a0, .int .i64 a1, v2, v3] 132)) (.cells #[.int .i64 0, .int .i64 0, .slice none 0 0, .slice none 0 0] 90)
  rw [Below.heap_alloc _ _ _ (by simp)]
  simpa only [World.size_alloc] using this
 have g0 : (((w.alloc (.cells #[.int .i64 a0, .int .i64 a1, v2, v3] 132)).alloc (.cells #[.int .i64 0, .int .i64 0, .slice none 0 0, .slice none 0 0] 90)).alloc (.cells #[.int .i64 a0, .int .i64 a1, .slice none 0 0, .slice none 0 0] 90)).heap[w.heap.size]? = some (.cells #[.int .i64 a0, .int .i64 a1, v2, v3] 132 (0, 0)) := by
  rw [Below.heap_alloc _ _ _ (by simp; omega), Below.heap_alloc _ _ _ (by simp)]
  exact heap_alloc_new w _
 have hz : w.heap.size + 2 < (((w.alloc (.cells #[.int .i64 a0, .int .i64 a1, v2, v3] 132)).alloc (.cells #[.int .i64 0, .int .i64 0, .slice none 0 0, .slice none 0 0] 90)).alloc (.cells #[.int .i64 a0, .int .i64 a1, .slice none 0 0, .slice none 0 0] 90)).heap.size := by simp [World.size_alloc]
 generalize (((w.alloc (.cells #[.int .i64 a0, .int .i64 a1, v2, v3] 132)).alloc (.cells #[.int .i64 0, .int .i64 0, .slice none 0 0, .slice none 0 0] 90)).alloc (.cells #[.int .i64 a0, .int .i64 a1, .slice none 0 0, .slice none 0 0] 90)) = W at *
 refine (toCondS_S v2 x2 W (slR_below tCond_law H2.out hb) S2.out).mono ?_
 rintro e w1 ⟨u2, rfl, o2, b1⟩
 obtain ⟨ua2, uc2, rfl⟩ := slO_len o2
 replace o2 := slO_mono (slO_lt tCond_law o2) (F' := fun b => W.heap.size ≤ b ∧ b < w1.heap.size) (fun b h => h)
 replace g0 := (b1.block _ (by omega)).trans g0
 replace g1 := (b1.block _ (by omega)).trans g1
 replace g2 := (b1.block _ (by omega)).trans g2
 have zz1 := b1.size
 replace hb := hb.trans (b1.mono (by omega))
 clear b1
 have c2_0 := (cell_of_row w1 _ 0 _ _ _ g2).trans (show _ = some (Value.int .i64 a0) from rfl)
 have f2_0 := frozen_of_row w1 _ 0 _ _ g2
 have c2_1 := (cell_of_row w1 _ 1 _ _ _ g2).trans (show _ = some (Value.int .i64 a1) from rfl)
 have f2_1 := frozen_of_row w1 _ 1 _ _ g2
 have c2_2 := (cell_of_row w1 _ 2 _ _ _ g2).trans (show _ = some (Value.slice none 0 0) from rfl)
 have f2_2 := frozen_of_row w1 _ 2 _ _ g2
 have ne1 : ¬ w.heap.size = w.heap.size + 1 + 1 := by omega
 have ne2 : ¬ w.heap.size + 1 = w.heap.size + 1 + 1 := by omega
 have ne3 : ¬ w.heap.size + 1 + 1 = w.heap.size + 1 := by omega
 have c0_3 := (cell_of_row w1 _ 3 _ _ _ g0).trans (show _ = some (v3) from rfl)
 have l0_3 : (w1.setCell ⟨w.heap.size + 1 + 1, 2, none⟩ (.slice ua2 x2.length uc2)).cell? ⟨w.heap.size, 3, none⟩ = some (v3) := by
  have m : (w1.setCell ⟨w.heap.size + 1 + 1, 2, none⟩ (.slice ua2 x2.length uc2)).heap[w.heap.size]? = some (.cells #[.int .i64 a0, .int .i64 a1, v2, v3] 132 (0, 0)) := by
   repeat rw [heap_setCell_other _ _ _ _ (by simp <;> omega)]
   exact g0
  exact (cell_of_row _ _ 3 _ _ _ m).trans rfl
 go_wp2_with fail
 clear c2_0 f2_0 c2_1 f2_1 c2_2 f2_2 ne1 ne2 ne3 c0_3 l0_3
 have hw : Turn (fun b => b = w.heap.size + 1 + 1) w1 (w1.setCell ⟨w.heap.size + 1 + 1, 2, none⟩ (.slice ua2 x2.length uc2)) := by
  first | exact ((Turn.refl _ _).trans (turn_set (g := w.heap.size + 1 + 1) (j := 2) (u := .slice ua2 x2.length uc2) rfl)) | skip
 replace g0 := (hw.block _ (by omega) (by omega)).trans g0
 replace g1 := (hw.block _ (by omega) (by omega)).trans g1
 have g2n := (heap_setCell_same _ (w.heap.size + 1 + 1) 2 _ _ (.slice ua2 x2.length uc2) g2)
 replace g2 : (w1.setCell ⟨w.heap.size + 1 + 1, 2, none⟩ (.slice ua2 x2.length uc2)).heap[w.heap.size + 1 + 1]? = some (.cells #[.int .i64 a0, .int .i64 a1, .slice ua2 x2.length uc2, .slice none 0 0] 90 (0, 0)) := by simpa using g2n
 clear g2n
 replace o2 := slO_turn tCond_law o2 hw (fun b h1 h2 => by have := h1.1; omega)
 replace hb := below_turn hb hw (fun b h => by omega) (by omega)
 have hz0 := hw.size
 clear hw
 generalize (w1.setCell ⟨w.heap.size + 1 + 1, 2, none⟩ (.slice ua2 x2.length uc2)) = W1 at *
 refine (toIntS_S v3 x3 W1 (slR_below tInt_law H3.out hb) S3.out).mono ?_
 rintro e w2 ⟨u3, rfl, o3, b1⟩
 obtain ⟨ua3, uc3, rfl⟩ := slO_len o3
 replace o3 := slO_mono (slO_lt tInt_law o3) (F' := fun b => W1.heap.size ≤ b ∧ b < w2.heap.size) (fun b h => h)
 replace g0 := (b1.block _ (by omega)).trans g0
 replace g1 := (b1.block _ (by omega)).trans g1
 replace g2 := (b1.block _ (by omega)).trans g2
 replace o2 := slO_fresh tCond_law o2 b1
 have zz2 := b1.size
 replace hb := hb.trans (b1.mono (by omega))
 clear b1
 have c2_0 := (cell_of_row w2 _ 0 _ _ _ g2).trans (show _ = some (Value.int .i64 a0) from rfl)
 have f2_0 := frozen_of_row w2 _ 0 _ _ g2
 have c2_1 := (cell_of_row w2 _ 1 _ _ _ g2).trans (show _ = some (Value.int .i64 a1) from rfl)
 have f2_1 := frozen_of_row w2 _ 1 _ _ g2
 have c2_2 := (cell_of_row w2 _ 2 _ _ _ g2).trans (show _ = some (Value.slice ua2 x2.length uc2) from rfl)
 have f2_2 := frozen_of_row w2 _ 2 _ _ g2
 have c2_3 := (cell_of_row w2 _ 3 _ _ _ g2).trans (show _ = some (Value.slice none 0 0) from rfl)
 have f2_3 := frozen_of_row w2 _ 3 _ _ g2
 have ne1 : ¬ w.heap.size = w.heap.size + 1 + 1 := by omega
 have ne2 : ¬ w.heap.size + 1 = w.heap.size + 1 + 1 := by omega
 have ne3 : ¬ w.heap.size + 1 + 1 = w.heap.size + 1 := by omega
 have c1_0 := (cell_of_row w2 _ 0 _ _ _ g1).trans (show _ = some (Value.int .i64 0) from rfl)
 have f1_0 := frozen_of_row w2 _ 0 _ _ g1
 have c1_1 := (cell_of_row w2 _ 1 _ _ _ g1).trans (show _ = some (Value.int .i64 0) from rfl)
 have f1_1 := frozen_of_row w2 _ 1 _ _ g1
 have c1_2 := (cell_of_row w2 _ 2 _ _ _ g1).trans (show _ = some (Value.slice none 0 0) from rfl)
 have f1_2 := frozen_of_row w2 _ 2 _ _ g1
 have c1_3 := (cell_of_row w2 _ 3 _ _ _ g1).trans (show _ = some (Value.slice none 0 0) from rfl)
 have f1_3 := frozen_of_row w2 _ 3 _ _ g1
 go_wp2
 clear c2_0 f2_0 c2_1 f2_1 c2_2 f2_2 c2_3 f2_3 ne1 ne2 ne3 c1_0 f1_0 c1_1 f1_1 c1_2 f1_2 c1_3 f1_3
 have hw : Turn (fun b => b = w.heap.size + 1 ∨ b = w.heap.size + 1 + 1) w2 (((((w2.setCell ⟨w.heap.size + 1 + 1, 3, none⟩ (.slice ua3 x3.length uc3)).setCell ⟨w.heap.size + 1, 0, none⟩ (.int .i64 a0)).setCell ⟨w.heap.size + 1, 1, none⟩ (.int .i64 a1)).setCell ⟨w.heap.size + 1, 2, none⟩ (.slice ua2 x2.length uc2)).setCell ⟨w.heap.size + 1, 3, none⟩ (.slice ua3 x3.length uc3)) := by
  first | exact ((((((Turn.refl _ _).trans (turn_set (g := w.heap.size + 1 + 1) (j := 3) (u := .slice ua3 x3.length uc3) (Or.inr rfl))).trans (turn_set (g := w.heap.size + 1) (j := 0) (u := .int .i64 a0) (Or.inl rfl))).trans (turn_set (g := w.heap.size + 1) (j := 1) (u := .int .i64 a1) (Or.inl rfl))).trans (turn_set (g := w.heap.size + 1) (j := 2) (u := .slice ua2 x2.length uc2) (Or.inl rfl))).trans (turn_set (g := w.heap.size + 1) (j := 3) (u := .slice ua3 x3.length uc3) (Or.inl rfl))) | skip
 have r := (heap_setCell_same _ (w.heap.size + 1) 3 _ _ (.slice ua3 x3.length uc3) (heap_setCell_same _ (w.heap.size + 1) 2 _ _ (.slice ua2 x2.length uc2) (heap_setCell_same _ (w.heap.size + 1) 1 _ _ (.int .i64 a1) (heap_setCell_same _ (w.heap.size + 1) 0 _ _ (.int .i64 a0) ((heap_setCell_other _ ⟨w.heap.size + 1 + 1, 3, none⟩ (w.heap.size + 1) (.slice ua3 x3.length uc3) (by simp)).trans g1)))))
 have e0 := cell_of_row _ _ 0 _ _ _ r
 have e1 := cell_of_row _ _ 1 _ _ _ r
 have e2 := cell_of_row _ _ 2 _ _ _ r
 have e3 := cell_of_row _ _ 3 _ _ _ r
 simp at e0 e1 e2 e3
 replace o2 := slO_turn tCond_law o2 hw (fun b h1 h2 => by have := h1.1; omega)
 replace o3 := slO_turn tInt_law o3 hw (fun b h1 h2 => by have := h1.1; omega)
 replace hb := below_turn hb hw (fun b h => by omega) (by omega)
 refine bodyPost_ret (v := .agg #[.int .i64 a0, .int .i64 a1, .slice ua2 x2.length uc2, .slice ua3 x3.length uc3]) ?_ rfl ?_
 ·
  simp [results, Try.f132, go_sem, e0, e1, e2, e3]
 ·
  exact ⟨[.int .i64 a0, .int .i64 a1, .slice ua2 x2.length uc2, .slice ua3 x3.length uc3], rfl, tQuery_mkO o2 o3 (fun b h => by show w.heap.size ≤ b; have := h.1; omega) (fun b h => by show w.heap.size ≤ b; have := h.1; omega) (fun b h1 h2 => by have := h1.1; have := h1.2; have := h2.1; have := h2.2; omega), hb⟩
set_option maxHeartbeats 8000000 in
set_option maxRecDepth 100000 in
theorem eqQuery_T (a0 a1 : Int) (v2 v3 : Value) (x2 : List (Int × Int × Int)) (x3 : List Int) (u2 u3 : Value) (w : World) (h2 : SlR tCond w v2 x2) (h3 : SlR tInt w v3 x3) (g2 : SlR tCond w u2 x2) (g3 : SlR tInt w u3 x3) (s2 : zL tCond x2 ≤ 1048576) (s3 : zL tInt x3 ≤ 1048576) :
  Calls Try.prog 128 #[.agg #[.int .i64 a0, .int .i64 a1, v2, v3], .agg #[.int .i64 a0, .int .i64 a1, u2, u3]] w fun e w' => e = .returned (.bool true) ∧ Below w.heap.size w w' := by
 have H2 := Lib.hid h2; have G2 := Lib.hid g2; have S2 := Lib.hid s2
 have H3 := Lib.hid h3; have G3 := Lib.hid g3; have S3 := Lib.hid s3
 clear h2 g2 s2 h3 g3 s3
 have e0 : (a0 != a0) = false := by simp
 have e1 : (a1 != a1) = false := by simp
 go_enter Try.func128, Try.ntmps128
 go_wp2_with fail
 have hb : Below w.heap.size w ((w.alloc (.cells #[.int .i64 a0, .int .i64 a1, v2, v3] 90)).alloc (.cells #[.int .i64 a0, .int .i64 a1, u2, u3] 90)) := ((Below.refl _ w).alloc (Nat.le_refl _) _).alloc (by simp) _
 have g1 : ((w.alloc (.cells #[.int .i64 a0, .int .i64 a1, v2, v3] 90)).alloc (.cells #[.int .i64 a0, .int .i64 a1, u2, u3] 90)).heap[w.heap.size + 1]? = some (.cells #[.int .i64 a0, .int .i64 a1, u2, u3] 90 (0, 0)) := by
  have := heap_alloc_new (w.alloc (.cells #[.int .i64 a0, .int .i64 a1, v2, v3] 90)) (.cells #[.int .i64 a0, .int .i64 a1, u2, u3] 90)
  simpa only [World.size_alloc] using this
 have g0 : ((w.alloc (.cells #[.int .i64 a0, .int .i64 a1, v2, v3] 90)).alloc (.cells #[.int .i64 a0, .int .i64 a1, u2, u3] 90)).heap[w.heap.size]? = some (.cells #[.int .i64 a0, .int .i64 a1, v2, v3] 90 (0, 0)) := by
  rw [Below.heap_alloc _ _ _ (by simp)]
  exact heap_alloc_new w _
 have hz : w.heap.size + 1 < ((w.alloc (.cells #[.int .i64 a0, .int .i64 a1, v2, v3] 90)).alloc (.cells #[.int .i64 a0, .int .i64 a1, u2, u3] 90)).heap.size := by simp [World.size_alloc]
 generalize ((w.alloc (.cells #[.int .i64 a0, .int .i64 a1, v2, v3] 90)).alloc (.cells #[.int .i64 a0, .int .i64 a1, u2, u3] 90)) = W at *
 refine (eqCondS_S v2 u2 x2 W (slR_below tCond_law H2.out hb) (slR_below tCond_law G2.out hb) S2.out).mono ?_
 rintro e w1 ⟨rfl, b1⟩
 replace g0 := (b1.block _ (by omega)).trans g0
 replace g1 := (b1.block _ (by omega)).trans g1
 have zz0 := b1.size
 replace hb := hb.trans (b1.mono (by omega))
 clear b1
 have p0_3 := (cell_of_row w1 _ 3 _ _ _ g0).trans (show _ = some (v3) from rfl)
 have p1_3 := (cell_of_row w1 _ 3 _ _ _ g1).trans (show _ = some (u3) from rfl)
 go_wp2_with fail
 clear p0_3 p1_3
 refine (eqIntS_S v3 u3 x3 w1 (slR_below tInt_law H3.out hb) (slR_below tInt_law G3.out hb) S3.out).mono ?_
 rintro e w2 ⟨rfl, b1⟩
 replace g0 := (b1.block _ (by omega)).trans g0
 replace g1 := (b1.block _ (by omega)).trans g1
 have zz1 := b1.size
 replace hb := hb.trans (b1.mono (by omega))
 clear b1
 go_wp2
 go_ret
 exact ⟨rfl, hb⟩
def tRow : Ty (Int × List Int) := tPair tInt tIntS
theorem tRow_law : tRow.Law := tPair_law tInt_law tIntS_law
theorem tRow_R {w : World} {cs : List Value} {a0 : Int} {x1 : List Int} (h : tRow.R w cs (a0, x1)) : ∃ v1, cs = [.int .i64 a0, v1] ∧ SlR tInt w v1 x1 := by
 obtain ⟨_, _, rfl, rfl, ⟨v1, rfl, h1⟩⟩ := h
 exact ⟨_, rfl, h1⟩
theorem tRow_sz {a0 : Int} {x1 : List Int} : tRow.sz (a0, x1) = zL tInt x1 := by
 simp only [tRow, tPair_sz, tPair_nd, tPair_nv, tInt_sz, tInt_nd, tInt_nv, tSl_sz, tSl_nd, tSl_nv]
 try omega
theorem tRow_O {w : World} {F : Nat → Prop} {cs : List Value} {a0 : Int} {x1 : List Int} (h : tRow.O w F cs (a0, x1)) : ∃ v1, ∃ F1 : Nat → Prop, cs = [.int .i64 a0, v1] ∧ SlO 3 tInt w F1 v1 x1 ∧ (∀ b, F1 b → F b) := by
 obtain ⟨_, _, F0_1, F0_2, rfl, rfl, ⟨v1, rfl, h1⟩, s0_1, s0_2, d0⟩ := h
 exact ⟨v1, F0_2, rfl, h1, fun b h => (s0_2 b h)⟩
theorem tRow_mkO {w : World} {F : Nat → Prop} {a0 : Int} {x1 : List Int} {v1 : Value} {F1 : Nat → Prop} (h1 : SlO 3 tInt w F1 v1 x1) (s1 : ∀ b, F1 b → F b)  : tRow.O w F [.int .i64 a0, v1] (a0, x1) := ⟨[.int .i64 a0], [v1], fun _ => False, F1, rfl, rfl, ⟨_, rfl, h1⟩, (fun b h => (False.elim h)), (fun b h => s1 b h), (fun b h g => (False.elim h))⟩
set_option maxHeartbeats 8000000 in
set_option maxRecDepth 100000 in
theorem szRow_Y (a0 : Int) (v1 : Value) (x1 : List Int) (k0 : Int) (w : World) (h1 : SlR tInt w v1 x1) (hs : ((zL tInt x1 : Nat) : Int) ≤ k0) (hk : k0 ≤ 1048576) :
  Calls Try.prog 143 #[.agg #[.int .i64 a0, v1], .int .i64 k0] w fun e w' => e = .returned (.int .i64 (k0 - ((zL tInt x1 : Nat) : Int))) ∧ Below w.heap.size w w' := by
 have H1 := Lib.hid h1
 clear h1
 have HZ1 : Hid (((zL tInt x1 : Nat) : Int) ≤ k0) := Lib.hid (by omega)
 have HK1 : Hid (k0 ≤ 1048576) := Lib.hid (by omega)
 have hn1 : ¬ k0 - ((zL tInt x1 : Nat) : Int) < 0 := by omega
 clear hs hk
 have hb : Below w.heap.size w (w.alloc (.cells #[.int .i64 a0, v1] 168)) := (Below.refl _ w).alloc (Nat.le_refl _) _
 have g0 : (w.alloc (.cells #[.int .i64 a0, v1] 168)).heap[w.heap.size]? = some (.cells #[.int .i64 a0, v1] 168 (0, 0)) := heap_alloc_new w _
 have hz0 : w.heap.size < (w.alloc (.cells #[.int .i64 a0, v1] 168)).heap.size := by simp
 go_enter Try.func143, Try.ntmps143
 go_wp2_with fail
 generalize (w.alloc (.cells #[.int .i64 a0, v1] 168)) = W at *
 refine (szIntS_Y v1 x1 (k0) W (slR_below tInt_law H1.out hb) HZ1.out HK1.out).mono ?_
 rintro e W1 ⟨rfl, b1⟩
 replace g0 := (b1.block w.heap.size hz0).trans g0
 replace hz0 := Nat.lt_of_lt_of_le hz0 b1.size
 replace hb := hb.trans (b1.mono hb.size)
 clear b1
 go_wp2
 go_ret
 exact ⟨rfl, hb⟩
set_option maxHeartbeats 8000000 in
set_option maxRecDepth 100000 in
theorem szRow_N (a0 : Int) (v1 : Value) (x1 : List Int) (k0 : Int) (w : World) (h1 : SlR tInt w v1 x1) (hs : k0 < ((zL tInt x1 : Nat) : Int)) (hk : k0 ≤ 1048576) (hp : 0 ≤ k0) (o1 : tIntS.ok x1) :
  Calls Try.prog 143 #[.agg #[.int .i64 a0, v1], .int .i64 k0] w fun e w' => e = .returned (.int .i64 (-1)) ∧ Below w.heap.size w w' := by
 have H1 := Lib.hid h1
 clear h1
 have HO1 := Lib.hid o1
 clear o1
 have HZ1 : Hid (k0 < ((zL tInt x1 : Nat) : Int)) := Lib.hid (by omega)
 have HP1 : Hid (0 ≤ k0) := Lib.hid (by omega)
 have HK1 : Hid (k0 ≤ 1048576) := Lib.hid (by omega)
 clear hs hk
 clear hp
 have hb : Below w.heap.size w (w.alloc (.cells #[.int .i64 a0, v1] 168)) := (Below.refl _ w).alloc (Nat.le_refl _) _
 have g0 : (w.alloc (.cells #[.int .i64 a0, v1] 168)).heap[w.heap.size]? = some (.cells #[.int .i64 a0, v1] 168 (0, 0)) := heap_alloc_new w _
 have hz0 : w.heap.size < (w.alloc (.cells #[.int .i64 a0, v1] 168)).heap.size := by simp
 go_enter Try.func143, Try.ntmps143
 go_wp2_with fail
 generalize (w.alloc (.cells #[.int .i64 a0, v1] 168)) = W at *
 refine (szIntS_N v1 x1 (k0) W (slR_below tInt_law H1.out hb) HZ1.out HK1.out HP1.out HO1.out).mono ?_
 rintro e W1 ⟨rfl, b1⟩
 replace g0 := (b1.block w.heap.size hz0).trans g0
 replace hz0 := Nat.lt_of_lt_of_le hz0 b1.size
 replace hb := hb.trans (b1.mono hb.size)
 clear b1
 go_wp2
 go_ret
 exact ⟨rfl, hb⟩
set_option maxHeartbeats 8000000 in
set_option maxRecDepth 100000 in
theorem toRow_T (a0 : Int) (v1 : Value) (x1 : List Int) (w : World) (h1 : SlR tInt w v1 x1) (s1 : zL tInt x1 ≤ 1048576) :
  Calls Try.prog 145 #[.agg #[.int .i64 a0, v1]] w (FreshT tRow (fun cs => .agg cs.toArray) w (a0, x1)) := by
 have H1 := Lib.hid h1
 clear h1
 have S1 := Lib.hid s1
 clear s1
 go_enter Try.func145, Try.ntmps145
 go_wp2_with fail
 have hb : Below w.heap.size w (((w.alloc (.cells #[.int .i64 a0, v1] 168)).alloc (.cells #[.int .i64 0, .slice none 0 0] 73)).alloc (.cells #[.int .i64 a0, .slice none 0 0] 73)) := (((Below.refl _ w).alloc (Nat.le_refl _) _).alloc (by simp) _).alloc (by simp; omega) _
 have g2 : (((w.alloc (.cells #[.int .i64 a0, v1] 168)).alloc (.cells #[.int .i64 0, .slice none 0 0] 73)).alloc (.cells #[.int .i64 a0, .slice none 0 0] 73)).heap[w.heap.size + 1 + 1]? = some (.cells #[.int .i64 a0, .slice none 0 0] 73 (0, 0)) := by
  have := heap_alloc_new ((w.alloc (.cells #[.int .i64 a0, v1] 168)).alloc (.cells #[.int .i64 0, .slice none 0 0] 73)) (.cells #[.int .i64 a0, .slice none 0 0] 73)
  simpa only [World.size_alloc] using this
 have g1 : (((w.alloc (.cells #[.int .i64 a0, v1] 168)).alloc (.cells #[.int .i64 0, .slice none 0 0] 73)).alloc (.cells #[.int .i64 a0, .slice none 0 0] 73)).heap[w.heap.size + 1]? = some (.cells #[.int .i64 0, .slice none 0 0] 73 (0, 0)) := by
  have := heap_alloc_new (w.alloc (.cells #[.int .i64 a0, v1] 168)) (.cells #[.int .i64 0, .slice none 0 0] 73)
  rw [Below.heap_alloc _ _ _ (by simp)]
  simpa only [World.size_alloc] using this
 have g0 : (((w.alloc (.cells #[.int .i64 a0, v1] 168)).alloc (.cells #[.int .i64 0, .slice none 0 0] 73)).alloc (.cells #[.int .i64 a0, .slice none 0 0] 73)).heap[w.heap.size]? = some (.cells #[.int .i64 a0, v1] 168 (0, 0)) := by
  rw [Below.heap_alloc _ _ _ (by simp; omega), Below.heap_alloc _ _ _ (by simp)]
  exact heap_alloc_new w _
 have hz : w.heap.size + 2 < (((w.alloc (.cells #[.int .i64 a0, v1] 168)).alloc (.cells #[.int .i64 0, .slice none 0 0] 73)).alloc (.cells #[.int .i64 a0, .slice none 0 0] 73)).heap.size := by simp [World.size_alloc]
 generalize (((w.alloc (.cells #[.int .i64 a0, v1] 168)).alloc (.cells #[.int .i64 0, .slice none 0 0] 73)).alloc (.cells #[.int .i64 a0, .slice none 0 0] 73)) = W at *
 refine (toIntS_S v1 x1 W (slR_below tInt_law H1.out hb) S1.out).mono ?_
 rintro e w1 ⟨u1, rfl, o1, b1⟩
 obtain ⟨ua1, uc1, rfl⟩ := slO_len o1
 replace o1 := slO_mono (slO_lt tInt_law o1) (F' := fun b => W.heap.size ≤ b ∧ b < w1.heap.size) (fun b h => h)
 replace g0 := (b1.block _ (by omega)).trans g0
 replace g1 := (b1.block _ (by omega)).trans g1
 replace g2 := (b1.block _ (by omega)).trans g2
 have zz1 := b1.size
 replace hb := hb.trans (b1.mono (by omega))
 clear b1
 have c2_0 := (cell_of_row w1 _ 0 _ _ _ g2).trans (show _ = some (Value.int .i64 a0) from rfl)
 have f2_0 := frozen_of_row w1 _ 0 _ _ g2
 have c2_1 := (cell_of_row w1 _ 1 _ _ _ g2).trans (show _ = some (Value.slice none 0 0) from rfl)
 have f2_1 := frozen_of_row w1 _ 1 _ _ g2
 have ne1 : ¬ w.heap.size = w.heap.size + 1 + 1 := by omega
 have ne2 : ¬ w.heap.size + 1 = w.heap.size + 1 + 1 := by omega
 have ne3 : ¬ w.heap.size + 1 + 1 = w.heap.size + 1 := by omega
 have c1_0 := (cell_of_row w1 _ 0 _ _ _ g1).trans (show _ = some (Value.int .i64 0) from rfl)
 have f1_0 := frozen_of_row w1 _ 0 _ _ g1
 have c1_1 := (cell_of_row w1 _ 1 _ _ _ g1).trans (show _ = some (Value.slice none 0 0) from rfl)
 have f1_1 := frozen_of_row w1 _ 1 _ _ g1
 go_wp2
 clear c2_0 f2_0 c2_1 f2_1 ne1 ne2 ne3 c1_0 f1_0 c1_1 f1_1
 have hw : Turn (fun b => b = w.heap.size + 1 ∨ b = w.heap.size + 1 + 1) w1 (((w1.setCell ⟨w.heap.size + 1 + 1, 1, none⟩ (.slice ua1 x1.length uc1)).setCell ⟨w.heap.size + 1, 0, none⟩ (.int .i64 a0)).setCell ⟨w.heap.size + 1, 1, none⟩ (.slice ua1 x1.length uc1)) := by
  first | exact ((((Turn.refl _ _).trans (turn_set (g := w.heap.size + 1 + 1) (j := 1) (u := .slice ua1 x1.length uc1) (Or.inr rfl))).trans (turn_set (g := w.heap.size + 1) (j := 0) (u := .int .i64 a0) (Or.inl rfl))).trans (turn_set (g := w.heap.size + 1) (j := 1) (u := .slice ua1 x1.length uc1) (Or.inl rfl))) | skip
 have r := (heap_setCell_same _ (w.heap.size + 1) 1 _ _ (.slice ua1 x1.length uc1) (heap_setCell_same _ (w.heap.size + 1) 0 _ _ (.int .i64 a0) ((heap_setCell_other _ ⟨w.heap.size + 1 + 1, 1, none⟩ (w.heap.size + 1) (.slice ua1 x1.length uc1) (by simp)).trans g1)))
 have e0 := cell_of_row _ _ 0 _ _ _ r
 have e1 := cell_of_row _ _ 1 _ _ _ r
 simp at e0 e1
 replace o1 := slO_turn tInt_law o1 hw (fun b h1 h2 => by have := h1.1; omega)
 replace hb := below_turn hb hw (fun b h => by omega) (by omega)
 refine bodyPost_ret (v := .agg #[.int .i64 a0, .slice ua1 x1.length uc1]) ?_ rfl ?_
 ·
  simp [results, Try.f145, go_sem, e0, e1]
 ·
  exact ⟨[.int .i64 a0, .slice ua1 x1.length uc1], rfl, tRow_mkO o1 (fun b h => by show w.heap.size ≤ b; have := h.1; omega) , hb⟩
set_option maxHeartbeats 8000000 in
set_option maxRecDepth 100000 in
theorem eqRow_T (a0 : Int) (v1 : Value) (x1 : List Int) (u1 : Value) (w : World) (h1 : SlR tInt w v1 x1) (g1 : SlR tInt w u1 x1) (s1 : zL tInt x1 ≤ 1048576) :
  Calls Try.prog 36 #[.agg #[.int .i64 a0, v1], .agg #[.int .i64 a0, u1]] w fun e w' => e = .returned (.bool true) ∧ Below w.heap.size w w' := by
 have H1 := Lib.hid h1; have G1 := Lib.hid g1; have S1 := Lib.hid s1
 clear h1 g1 s1
 have e0 : (a0 != a0) = false := by simp
 go_enter Try.func36, Try.ntmps36
 go_wp2_with fail
 have hb : Below w.heap.size w ((w.alloc (.cells #[.int .i64 a0, v1] 73)).alloc (.cells #[.int .i64 a0, u1] 73)) := ((Below.refl _ w).alloc (Nat.le_refl _) _).alloc (by simp) _
 have g1 : ((w.alloc (.cells #[.int .i64 a0, v1] 73)).alloc (.cells #[.int .i64 a0, u1] 73)).heap[w.heap.size + 1]? = some (.cells #[.int .i64 a0, u1] 73 (0, 0)) := by
  have := heap_alloc_new (w.alloc (.cells #[.int .i64 a0, v1] 73)) (.cells #[.int .i64 a0, u1] 73)
  simpa only [World.size_alloc] using this
 have g0 : ((w.alloc (.cells #[.int .i64 a0, v1] 73)).alloc (.cells #[.int .i64 a0, u1] 73)).heap[w.heap.size]? = some (.cells #[.int .i64 a0, v1] 73 (0, 0)) := by
  rw [Below.heap_alloc _ _ _ (by simp)]
  exact heap_alloc_new w _
 have hz : w.heap.size + 1 < ((w.alloc (.cells #[.int .i64 a0, v1] 73)).alloc (.cells #[.int .i64 a0, u1] 73)).heap.size := by simp [World.size_alloc]
 generalize ((w.alloc (.cells #[.int .i64 a0, v1] 73)).alloc (.cells #[.int .i64 a0, u1] 73)) = W at *
 refine (eqIntS_S v1 u1 x1 W (slR_below tInt_law H1.out hb) (slR_below tInt_law G1.out hb) S1.out).mono ?_
 rintro e w1 ⟨rfl, b1⟩
 replace g0 := (b1.block _ (by omega)).trans g0
 replace g1 := (b1.block _ (by omega)).trans g1
 have zz0 := b1.size
 replace hb := hb.trans (b1.mono (by omega))
 clear b1
 go_wp2
 go_ret
 exact ⟨rfl, hb⟩
abbrev tRowS : Ty (List (Int × List Int)) := tSl 73 tRow
theorem tRowS_law : tRowS.Law := tSl_law tRow_law (by decide)
set_option maxHeartbeats 8000000 in
set_option maxRecDepth 100000 in
theorem szRowS_Y (v : Value) (xs : List (Int × List Int)) (k0 : Int) (w : World) (h : SlR tRow w v xs) (hs : ((zL tRow xs : Nat) : Int) ≤ k0) (hk : k0 ≤ 1048576) :
  Calls Try.prog 131 #[v, .int .i64 k0] w fun e w' => e = .returned (.int .i64 (k0 - ((zL tRow xs : Nat) : Int))) ∧ Below w.heap.size w w' := by
 have H := Lib.hid h
 obtain ⟨a, cap, rfl⟩ := slR_len h
 clear h
 have h00 := zTo_le (T := tRow) (xs := xs) (Nat.zero_le _)
 rw [zTo_zero] at h00
 have HS := Lib.hid hs
 go_enter Try.func131, Try.ntmps131
 have hneg : ¬ k0 - (xs.length : Int) < 0 := by omega
 go_wp2
 clear hneg
 go_loopw [1, 5] (fun l i wr => ∃ k : Nat, k ≤ xs.length ∧ i = .int .i64 k ∧ l = .int .i64 (k0 - (zTo tRow xs k : Int)) ∧ Below w.heap.size w wr) (fun _ i _ => xs.length - (intOf i).toNat)
 case atStart => exact ⟨0, Nat.zero_le _, rfl, by rw [zTo_zero], Below.refl _ _⟩
 case round =>
  obtain ⟨k, hk', rfl, rfl, hbel⟩ := hrel
  by_cases hlt : k < xs.length
  ·
   have HST := Lib.hid (zTo_step (T := tRow) hlt)
   have HLE := Lib.hid (zTo_le (T := tRow) (xs := xs) (k := k + 1) (by omega))
   have i1 : (0 : Int) ≤ (k : Int) := by omega
   have i2 : (k : Int) < (xs.length : Int) := by omega
   obtain ⟨b, off, cap', cs, hv, hbl, hcs, hR⟩ := slR_at (slR_below tRow_law H.out hbel) hlt
   simp only [Value.slice.injEq] at hv
   obtain ⟨rfl, _, rfl⟩ := hv
   generalize xs.getD k tRow.d = x at *
   obtain ⟨a0, x1⟩ := x
   obtain ⟨v1, hR'⟩ := tRow_R hR
   obtain ⟨rfl, h1⟩ := hR'
   have p0 : wr.cell? ⟨b, off + k * 2, none⟩ = some (Value.int .i64 a0) := hcs 0 (by decide)
   have p1 : wr.cell? ⟨b, off + k * 2 + 1, none⟩ = some (v1) := hcs 1 (by decide)
   clear hcs
   have HQ : Hid (tRow.sz (a0, x1) = zL tInt x1) := Lib.hid tRow_sz
   have hx1 : ((zL tInt x1 : Nat) : Int) ≤ k0 - (zTo tRow xs k : Int) := by have := HST.out; have := HLE.out; have := HQ.out; omega
   have hx2 : k0 - (zTo tRow xs k : Int) ≤ 1048576 := by omega
   have hneg : ¬ k0 - (zTo tRow xs k : Int) - ((zL tInt x1 : Nat) : Int) < 0 := by omega
   have HC := Lib.hid (fun W b => szRow_Y a0 v1 x1 (k0 - (zTo tRow xs k : Int)) W (slR_below tInt_law h1 b) hx1 hx2)
   go_wp2_with fail
   refine (HC.out _ (Below.refl _ _)).mono ?_
   rintro e w1 ⟨rfl, b1⟩
   have b2 := hbel.trans (b1.mono hbel.size)
   go_wp2
   go_roundw
   case rel => exact ⟨k + 1, by omega, by go_num, by rw [HST.out, HQ.out]; go_num, b2⟩
   case measure => simp [intOf]; omega
  ·
   obtain rfl : k = xs.length := by omega
   go_wp2
   go_ret
   exact ⟨rfl, hbel⟩
set_option maxHeartbeats 8000000 in
set_option maxRecDepth 100000 in
theorem szRowS_N (v : Value) (xs : List (Int × List Int)) (k0 : Int) (w : World) (h : SlR tRow w v xs) (hs : k0 < ((zL tRow xs : Nat) : Int)) (hk : k0 ≤ 1048576) (hp : 0 ≤ k0) (ho : tRowS.ok xs) :
  Calls Try.prog 131 #[v, .int .i64 k0] w fun e w' => e = .returned (.int .i64 (-1)) ∧ Below w.heap.size w w' := by
 have H := Lib.hid h
 have HX := Lib.hid ho.2
 have hn := ho.1
 have HS := Lib.hid hs
 obtain ⟨a, cap, rfl⟩ := slR_len h
 clear h ho hs
 by_cases h1 : k0 < (xs.length : Int)
 ·
  have hneg : k0 - (xs.length : Int) < 0 := by omega
  go_enter Try.func131, Try.ntmps131
  go_wp2
  go_ret
  exact ⟨rfl, Below.refl _ _⟩
 ·
  go_enter Try.func131, Try.ntmps131
  have hneg : ¬ k0 - (xs.length : Int) < 0 := by omega
  go_wp2
  clear hneg
  go_loopw [1, 5] (fun l i wr => ∃ k : Nat, k ≤ xs.length ∧ i = .int .i64 k ∧ l = .int .i64 (k0 - (zTo tRow xs k : Int)) ∧ (zTo tRow xs k : Int) ≤ k0 ∧ Below w.heap.size w wr) (fun _ i _ => xs.length - (intOf i).toNat)
  case atStart => exact ⟨0, Nat.zero_le _, rfl, by rw [zTo_zero], by rw [zTo_zero]; omega, Below.refl _ _⟩
  case round =>
   obtain ⟨k, hk', rfl, rfl, hle, hbel⟩ := hrel
   by_cases hlt : k < xs.length
   ·
    have HST := Lib.hid (zTo_step (T := tRow) hlt)
    have hx := HX.out k hlt
    have i1 : (0 : Int) ≤ (k : Int) := by omega
    have i2 : (k : Int) < (xs.length : Int) := by omega
    obtain ⟨b, off, cap', cs, hv, hbl, hcs, hR⟩ := slR_at (slR_below tRow_law H.out hbel) hlt
    simp only [Value.slice.injEq] at hv
    obtain ⟨rfl, _, rfl⟩ := hv
    generalize xs.getD k tRow.d = x at *
    obtain ⟨a0, x1⟩ := x
    obtain ⟨v1, hR'⟩ := tRow_R hR
    obtain ⟨rfl, h1⟩ := hR'
    have p0 : wr.cell? ⟨b, off + k * 2, none⟩ = some (Value.int .i64 a0) := hcs 0 (by decide)
    have p1 : wr.cell? ⟨b, off + k * 2 + 1, none⟩ = some (v1) := hcs 1 (by decide)
    clear hcs
    have HQ : Hid (tRow.sz (a0, x1) = zL tInt x1) := Lib.hid tRow_sz
    obtain ⟨_, o1⟩ := hx
    have hz0 : (0 : Int) ≤ (zTo tRow xs k : Int) := by omega
    by_cases hg : ((zL tInt x1 : Nat) : Int) ≤ k0 - (zTo tRow xs k : Int)
    ·
     have hx2 : k0 - (zTo tRow xs k : Int) ≤ 1048576 := by omega
     have hneg : ¬ k0 - (zTo tRow xs k : Int) - ((zL tInt x1 : Nat) : Int) < 0 := by omega
     have HC := Lib.hid (fun W b => szRow_Y a0 v1 x1 (k0 - (zTo tRow xs k : Int)) W (slR_below tInt_law h1 b) hg hx2)
     go_wp2_with fail
     refine (HC.out _ (Below.refl _ _)).mono ?_
     rintro e w1 ⟨rfl, b1⟩
     have b2 := hbel.trans (b1.mono hbel.size)
     go_wp2
     go_roundw
     case rel => exact ⟨k + 1, by omega, by go_num, by rw [HST.out, HQ.out]; go_num, by rw [HST.out, HQ.out]; omega, b2⟩
     case measure => simp [intOf]; omega
    ·
     have hx1 : k0 - (zTo tRow xs k : Int) < ((zL tInt x1 : Nat) : Int) := by omega
     have hx0 : 0 ≤ k0 - (zTo tRow xs k : Int) := by omega
     have hx2 : k0 - (zTo tRow xs k : Int) ≤ 1048576 := by omega
     have HC := Lib.hid (fun W b => szRow_N a0 v1 x1 (k0 - (zTo tRow xs k : Int)) W (slR_below tInt_law h1 b) hx1 hx2 hx0 o1)
     clear hg
     go_wp2_with fail
     refine (HC.out _ (Below.refl _ _)).mono ?_
     rintro e w1 ⟨rfl, b1⟩
     have b2 := hbel.trans (b1.mono hbel.size)
     go_wp2
     go_ret
     exact ⟨rfl, b2⟩
   ·
    obtain rfl : k = xs.length := by omega
    exact absurd HS.out (by show ¬ k0 < ((zTo tRow xs xs.length : Nat) : Int); omega)
theorem Try.info_Row : (Try.prog.info? 73).map (fun i => (i.zero, i.size)) = some (some (.agg #[.int .i64 0, .slice none 0 0]), 2) := by kernel_rfl
theorem Try.bytes_Row : ((Try.prog.info? 73).map (fun i => decide (i.bytes ≤ 512))) = some true := by kernel_rfl
theorem tRow_zero (w : World) : tRow.O w (fun _ => False) #[.int .i64 0, .slice none 0 0].toList tRow.d := tRow_mkO (slO_nil _ _ _ (fun _ => False)) (fun b h => h) 
set_option maxHeartbeats 8000000 in
set_option maxRecDepth 100000 in
theorem toRowS_S (v : Value) (xs : List (Int × List Int)) (w : World) (h : SlR tRow w v xs) (hs : zL tRow xs ≤ 1048576) :
  Calls Try.prog 133 #[v] w (FreshS 73 tRow w xs) := by
 obtain ⟨i0, hi, hz0, hz1⟩ : ∃ i0, Try.prog.info? 73 = some i0 ∧ i0.zero = some (.agg #[.int .i64 0, .slice none 0 0]) ∧ i0.size = 2 := by
  have h0 := Try.info_Row
  cases q : Try.prog.info? 73 with
  | none => rw [q] at h0; simp at h0
  | some i => rw [q] at h0; simp only [Option.map_some, Option.some.injEq, Prod.mk.injEq] at h0; exact ⟨i, rfl, h0.1, h0.2⟩
 have hz2 : i0.bytes ≤ 512 := by
  have h0 := Try.bytes_Row
  rw [hi] at h0
  simpa using h0
 have HI := Lib.hid hi; have HZ0 := Lib.hid hz0; have HZ1 := Lib.hid hz1; have HZ2 := Lib.hid hz2
 clear hi hz0 hz1 hz2
 have H := Lib.hid h
 have hlen := zL_len hs
 have HS := Lib.hid hs
 obtain ⟨a, cap, rfl⟩ := slR_len h
 clear h hs
 go_enter Try.func133, Try.ntmps133
 go_wp2_with (at_make; refine wpList_make_full _ rfl (.tmp 6) (.tmp 6) 26 rfl w.heap.size 73 i0 (.agg #[.int .i64 0, .slice none 0 0]) 2 Try.underlying26 HI.out HZ0.out HZ1.out _ _ _ _ xs.length rfl rfl rfl rfl (by have h9 := Nat.mul_le_mul HZ2.out hlen; have h8 := Nat.mul_le_mul hlen HZ2.out; omega) (by unfold maxLen; omega) (Nat.le_refl _) ?_)
 intro w1 hown0 hg0
 have hown1 : SlO 73 tRow w1 (since w) (.slice (some ⟨w.heap.size, 0, none⟩) xs.length xs.length) (List.replicate xs.length tRow.d) := slO_made (z := #[.int .i64 0, .slice none 0 0]) tRow_law rfl (tRow_zero w1) (Nat.le_refl _) hown0
 have hbel1 := (Below.refl w.heap.size w).grown hg0 (Nat.le_refl _) (fun k hk => by cases hk)
 clear hown0 hg0
 go_wp2
 go_loopw [4] (fun i wr => ∃ k : Nat, k ≤ xs.length ∧ i = .int .i64 k ∧ SlO 73 tRow wr (since w) (.slice (some ⟨w.heap.size, 0, none⟩) xs.length xs.length) (xs.take k ++ List.replicate (xs.length - k) tRow.d) ∧ Below w.heap.size w wr) (fun i _ => xs.length - (intOf i).toNat)
 case atStart => exact ⟨0, Nat.zero_le _, rfl, by simpa using hown1, hbel1⟩
 case round =>
  obtain ⟨k, hk, rfl, hown, hbel⟩ := hrel
  by_cases hlt : k < xs.length
  ·
   have HSET := Lib.hid (cTo_step (d := tRow.d) hlt)
   have HKL : Hid (k < (xs.take k ++ List.replicate (xs.length - k) tRow.d).length) := Lib.hid (by rw [cTo_len hk]; exact hlt)
   have HLL := Lib.hid (cTo_len (d := tRow.d) hk)
   have i1 : (0 : Int) ≤ (k : Int) := by omega
   have i2 : (k : Int) < (xs.length : Int) := by omega
   have hzx := zL_at HS.out hlt
   obtain ⟨b, off, cap', cs, hv, hbl, hcs, hR⟩ := slR_at (slR_below tRow_law H.out hbel) hlt
   simp only [Value.slice.injEq] at hv
   obtain ⟨rfl, _, rfl⟩ := hv
   obtain ⟨hme, hFg, hgl, cj, Fj, Lc, hrow, hLc, hO, hFj, hput⟩ := slO_open tRow_law hown HKL.out
   clear hme
   clear hown1 hbel1
   generalize xs.getD k tRow.d = x at *
   generalize xs.take k ++ List.replicate (xs.length - k) tRow.d = ys at *
   obtain ⟨a0, x1⟩ := x
   obtain ⟨v1, hR'⟩ := tRow_R hR
   obtain ⟨rfl, h1⟩ := hR'
   have p0 : wr.cell? ⟨b, off + k * 2, none⟩ = some (Value.int .i64 a0) := hcs 0 (by decide)
   have p1 : wr.cell? ⟨b, off + k * 2 + 1, none⟩ = some (v1) := hcs 1 (by decide)
   rw [tRow_sz] at hzx
   have S1 := Lib.hid (show zL tInt x1 ≤ 1048576 by omega)
   have HC := Lib.hid (fun w g1 => toRow_T a0 v1 x1 w g1 S1.out)
   have G1 := Lib.hid h1
   clear hcs hzx h1
   go_wp2_with fail
   refine (HC.out _ G1.out).mono ?_
   rintro e w2 ⟨cv, rfl, ow, b2⟩
   replace ow := tRow_law.lt ow
   have ow2 := ow
   obtain ⟨u1, K1, rfl, o1, _⟩ := tRow_O ow2
   obtain ⟨ua1, uc1, rfl⟩ := slO_len o1
   clear o1
   have r0 := row_turn (G := fun _ => False) hrow (turn_below b2) (fun _ _ => not_false)
   rw [HLL.out] at r0
   have q0 : ∃ x, w2.cell? ⟨w.heap.size, k * 2, none⟩ = some x := ⟨_, (World.ownsRow.cellAt r0 (k * 2) (by have := HKL.out; rw [HLL.out] at this; show _ < xs.length * 2; omega)).trans (List.getElem?_eq_getElem (by have h1 : Lc.length = xs.length * 2 := r0.1; omega))⟩
   obtain ⟨y0, q0⟩ := q0
   have f0 := World.ownsRow.frozenAt r0 (k * 2)
   have q1 : ∃ x, w2.cell? ⟨w.heap.size, k * 2 + 1, none⟩ = some x := ⟨_, (World.ownsRow.cellAt r0 (k * 2 + 1) (by have := HKL.out; rw [HLL.out] at this; show _ < xs.length * 2; omega)).trans (List.getElem?_eq_getElem (by have h1 : Lc.length = xs.length * 2 := r0.1; omega))⟩
   obtain ⟨y1, q1⟩ := q1
   have f1 := World.ownsRow.frozenAt r0 (k * 2 + 1)
   have b3 := hbel.trans (b2.mono hbel.size)
   have B3 := Lib.hid ((b3.setCell (p := ⟨w.heap.size, k * 2, none⟩) (Nat.le_refl _) (.int .i64 a0)).setCell (p := ⟨w.heap.size, k * 2 + 1, none⟩) (Nat.le_refl _) (.slice ua1 x1.length uc1))
   have hT : Turn (fun b => b = w.heap.size ∨ Fj b ∨ wr.heap.size ≤ b) wr ((w2.setCell ⟨w.heap.size, k * 2, none⟩ (.int .i64 a0)).setCell ⟨w.heap.size, k * 2 + 1, none⟩ (.slice ua1 x1.length uc1)) := (((turn_below b2).trans (turn_set (j := k * 2) (u := .int .i64 a0) (Or.inl rfl))).trans (turn_set (j := k * 2 + 1) (u := .slice ua1 x1.length uc1) (Or.inl rfl)))
   have hT2 : Turn (fun b => b = w.heap.size) w2 ((w2.setCell ⟨w.heap.size, k * 2, none⟩ (.int .i64 a0)).setCell ⟨w.heap.size, k * 2 + 1, none⟩ (.slice ua1 x1.length uc1)) := (((Turn.refl (fun b => b = w.heap.size) _).trans (turn_set (G := fun b => b = w.heap.size) (j := k * 2) (u := .int .i64 a0) rfl)).trans (turn_set (G := fun b => b = w.heap.size) (j := k * 2 + 1) (u := .slice ua1 x1.length uc1) rfl))
   have hO2 := tRow_law.turn ow hT2 (fun b h1 h2 => by have := h1.1; simp only [since] at this; omega)
   have r9 := (World.ownsRow.stored (World.ownsRow.stored r0 (k * 2) (.int .i64 a0)).1 (k * 2 + 1) (.slice ua1 x1.length uc1)).1
   have hLl : Lc.length = xs.length * 2 := r0.1
   have hst := Lib.hid (hput ((w2.setCell ⟨w.heap.size, k * 2, none⟩ (.int .i64 a0)).setCell ⟨w.heap.size, k * 2 + 1, none⟩ (.slice ua1 x1.length uc1)) ((Lc.set (k * 2) (.int .i64 a0)).set (k * 2 + 1) (.slice ua1 x1.length uc1)) [.int .i64 a0, .slice ua1 x1.length uc1] _ (a0, x1) (by rw [HLL.out]; exact r9) (fun p hp => by have hp2 : p < k * 2 ∨ k * 2 + 2 ≤ p := hp; rw [List.getElem?_set_ne (by omega)]; rw [List.getElem?_set_ne (by omega)]) (fun i hi => by have hi' : i < 2 := hi; match i, hi' with | 0, _ => (show (((Lc.set (k * 2) (.int .i64 a0)).set (k * 2 + 1) (.slice ua1 x1.length uc1)))[k * 2]? = _; rw [List.getElem?_set_ne (by omega)]; rw [List.getElem?_set_self (by first | omega | (simp only [List.length_set]; omega))]; rfl) | 1, _ => (show (((Lc.set (k * 2) (.int .i64 a0)).set (k * 2 + 1) (.slice ua1 x1.length uc1)))[k * 2 + 1]? = _; rw [List.getElem?_set_self (by first | omega | (simp only [List.length_set]; omega))]; rfl)) hO2 (fun b hb => ⟨Nat.le_trans hbel.size hb.1, Or.inr hb.1⟩) hT)
   have hst2 : SlO 73 tRow ((w2.setCell ⟨w.heap.size, k * 2, none⟩ (.int .i64 a0)).setCell ⟨w.heap.size, k * 2 + 1, none⟩ (.slice ua1 x1.length uc1)) (since w) (.slice (some ⟨w.heap.size, 0, none⟩) xs.length xs.length) (xs.take (k + 1) ++ List.replicate (xs.length - (k + 1)) tRow.d) := by have := hst.out; rw [HSET.out] at this; exact this
   have HST := Lib.hid hst2
   clear hst hst2 hT hT2 hO2 r9 r0 hrow hO hput hown hbel b2 ow b3 hLl hLc hFj
   go_wp2
   go_roundw
   case rel => exact ⟨k + 1, by omega, by go_num, HST.out, B3.out⟩
   case measure => simp [intOf]; omega
  ·
   obtain rfl : k = xs.length := by omega
   have HE : Hid (xs.take xs.length ++ List.replicate (xs.length - xs.length) tRow.d = xs) := Lib.hid (by simp)
   rw [HE.out] at hown
   go_wp2
   go_ret
   exact ⟨_, rfl, hown, hbel⟩
set_option maxHeartbeats 8000000 in
set_option maxRecDepth 100000 in
theorem eqRowS_S (v u : Value) (xs : List (Int × List Int)) (w : World) (h : SlR tRow w v xs) (g : SlR tRow w u xs) (hs : zL tRow xs ≤ 1048576) :
  Calls Try.prog 11 #[v, u] w fun e w' => e = .returned (.bool true) ∧ Below w.heap.size w w' := by
 have H := Lib.hid h
 have G := Lib.hid g
 have HS := Lib.hid hs
 have hlen := zL_len hs
 obtain ⟨a, cap, rfl⟩ := slR_len h
 obtain ⟨a2, cap2, rfl⟩ := slR_len g
 clear h g hs
 go_enter Try.func11, Try.ntmps11
 go_wp2
 go_loopw [5] (fun i wr => ∃ k : Nat, k ≤ xs.length ∧ i = .int .i64 k ∧ Below w.heap.size w wr) (fun i _ => xs.length - (intOf i).toNat)
 case atStart => exact ⟨0, Nat.zero_le _, rfl, Below.refl _ _⟩
 case round =>
  obtain ⟨k, hk, rfl, hbel⟩ := hrel
  by_cases hlt : k < xs.length
  ·
   obtain ⟨b, off, cap', cs, hv, hbl, hcs, hR⟩ := slR_at (slR_below tRow_law H.out hbel) hlt
   simp only [Value.slice.injEq] at hv
   obtain ⟨rfl, _, rfl⟩ := hv
   obtain ⟨b2, off2, cap2', ds, hv2, hbl2, hds, hQ⟩ := slR_at (slR_below tRow_law G.out hbel) hlt
   simp only [Value.slice.injEq] at hv2
   obtain ⟨rfl, _, rfl⟩ := hv2
   have hzx := zL_at HS.out hlt
   have i1 : (0 : Int) ≤ (k : Int) := by omega
   have i2 : (k : Int) < (xs.length : Int) := by omega
   generalize xs.getD k tRow.d = x at *
   obtain ⟨a0, x1⟩ := x
   obtain ⟨v1, hR'⟩ := tRow_R hR
   obtain ⟨rfl, h1⟩ := hR'
   obtain ⟨u1, hQ'⟩ := tRow_R hQ
   obtain ⟨rfl, g1⟩ := hQ'
   rw [tRow_sz] at hzx
   have S1 := Lib.hid (show zL tInt x1 ≤ 1048576 by omega)
   have p0 : wr.cell? ⟨b, off + k * 2, none⟩ = some (Value.int .i64 a0) := hcs 0 (by decide)
   have q0 : wr.cell? ⟨b2, off2 + k * 2, none⟩ = some (Value.int .i64 a0) := hds 0 (by decide)
   have p1 : wr.cell? ⟨b, off + k * 2 + 1, none⟩ = some (v1) := hcs 1 (by decide)
   have q1 : wr.cell? ⟨b2, off2 + k * 2 + 1, none⟩ = some (u1) := hds 1 (by decide)
   clear hcs hds hzx
   go_wp2
   go_region_with (first | (go_at_call 36; refine (eqRow_T a0 v1 x1 u1 _ (by exact slR_same tInt_law h1 rfl rfl rfl rfl) (by exact slR_same tInt_law g1 rfl rfl rfl rfl) S1.out).mono ?_; rintro e w8 ⟨rfl, b9⟩; have b10 : Below wr.heap.size wr w8 := ⟨b9.os, b9.tape, b9.output, b9.size, b9.block⟩))
   all_goals
    have b11 := hbel.trans (b10.mono hbel.size)
    go_wp2
    go_roundw
    case rel => exact ⟨k + 1, by omega, by go_num, b11⟩
    case measure => simp [intOf]; omega
  ·
   go_wp2
   go_ret
   exact ⟨rfl, hbel⟩
def tActive : Ty ((Int × Int × List (Int × Int × Int) × List Int) × Int × List Int × Int × Int × Int × List (Int × List Int)) := tPair tQuery (tPair tInt (tPair tIntS (tPair tInt (tPair tInt (tPair tInt tRowS)))))
theorem tActive_law : tActive.Law := tPair_law tQuery_law (tPair_law tInt_law (tPair_law tIntS_law (tPair_law tInt_law (tPair_law tInt_law (tPair_law tInt_law tRowS_law)))))
theorem tActive_R {w : World} {cs : List Value} {a0 : Int} {a1 : Int} {x2 : List (Int × Int × Int)} {x3 : List Int} {a4 : Int} {x5 : List Int} {a6 : Int} {a7 : Int} {a8 : Int} {x9 : List (Int × List Int)} (h : tActive.R w cs ((a0, a1, x2, x3), a4, x5, a6, a7, a8, x9)) : ∃ v2 v3 v5 v9, cs = [.int .i64 a0, .int .i64 a1, v2, v3, .int .i64 a4, v5, .int .i64 a6, .int .i64 a7, .int .i64 a8, v9] ∧ SlR tCond w v2 x2 ∧ SlR tInt w v3 x3 ∧ SlR tInt w v5 x5 ∧ SlR tRow w v9 x9 := by
 obtain ⟨_, _, rfl, ⟨_, _, rfl, rfl, ⟨_, _, rfl, rfl, ⟨_, _, rfl, ⟨v2, rfl, h2⟩, ⟨v3, rfl, h3⟩⟩⟩⟩, ⟨_, _, rfl, rfl, ⟨_, _, rfl, ⟨v5, rfl, h5⟩, ⟨_, _, rfl, rfl, ⟨_, _, rfl, rfl, ⟨_, _, rfl, rfl, ⟨v9, rfl, h9⟩⟩⟩⟩⟩⟩⟩ := h
 exact ⟨_, _, _, _, rfl, h2, h3, h5, h9⟩
theorem tActive_sz {a0 : Int} {a1 : Int} {x2 : List (Int × Int × Int)} {x3 : List Int} {a4 : Int} {x5 : List Int} {a6 : Int} {a7 : Int} {a8 : Int} {x9 : List (Int × List Int)} : tActive.sz ((a0, a1, x2, x3), a4, x5, a6, a7, a8, x9) = zL tCond x2 + zL tInt x3 + zL tInt x5 + zL tRow x9 := by
 simp only [tActive, tPair_sz, tPair_nd, tPair_nv, tInt_sz, tInt_nd, tInt_nv, tSl_sz, tSl_nd, tSl_nv, tQuery]
 try omega
theorem tActive_O {w : World} {F : Nat → Prop} {cs : List Value} {a0 : Int} {a1 : Int} {x2 : List (Int × Int × Int)} {x3 : List Int} {a4 : Int} {x5 : List Int} {a6 : Int} {a7 : Int} {a8 : Int} {x9 : List (Int × List Int)} (h : tActive.O w F cs ((a0, a1, x2, x3), a4, x5, a6, a7, a8, x9)) : ∃ v2 v3 v5 v9, ∃ F2 F3 F5 F9 : Nat → Prop, cs = [.int .i64 a0, .int .i64 a1, v2, v3, .int .i64 a4, v5, .int .i64 a6, .int .i64 a7, .int .i64 a8, v9] ∧ SlO 147 tCond w F2 v2 x2 ∧ SlO 3 tInt w F3 v3 x3 ∧ SlO 3 tInt w F5 v5 x5 ∧ SlO 73 tRow w F9 v9 x9 ∧ (∀ b, F2 b → F b) ∧ (∀ b, F3 b → F b) ∧ (∀ b, F5 b → F b) ∧ (∀ b, F9 b → F b) ∧ (∀ b, F2 b → ¬ F3 b) ∧ (∀ b, F2 b → ¬ F5 b) ∧ (∀ b, F2 b → ¬ F9 b) ∧ (∀ b, F3 b → ¬ F5 b) ∧ (∀ b, F3 b → ¬ F9 b) ∧ (∀ b, F5 b → ¬ F9 b) := by
 obtain ⟨_, _, F0_1, F0_2, rfl, ⟨_, _, F1_1, F1_2, rfl, rfl, ⟨_, _, F2_1, F2_2, rfl, rfl, ⟨_, _, F3_1, F3_2, rfl, ⟨v2, rfl, h2⟩, ⟨v3, rfl, h3⟩, s3_1, s3_2, d3⟩, s2_1, s2_2, d2⟩, s1_1, s1_2, d1⟩, ⟨_, _, F4_1, F4_2, rfl, rfl, ⟨_, _, F5_1, F5_2, rfl, ⟨v5, rfl, h5⟩, ⟨_, _, F6_1, F6_2, rfl, rfl, ⟨_, _, F7_1, F7_2, rfl, rfl, ⟨_, _, F8_1, F8_2, rfl, rfl, ⟨v9, rfl, h9⟩, s8_1, s8_2, d8⟩, s7_1, s7_2, d7⟩, s6_1, s6_2, d6⟩, s5_1, s5_2, d5⟩, s4_1, s4_2, d4⟩, s0_1, s0_2, d0⟩ := h
 exact ⟨v2, v3, v5, v9, F3_1, F3_2, F5_1, F8_2, rfl, h2, h3, h5, h9, fun b h => (s0_1 b (s1_2 b (s2_2 b (s3_1 b h)))), fun b h => (s0_1 b (s1_2 b (s2_2 b (s3_2 b h)))), fun b h => (s0_2 b (s4_2 b (s5_1 b h))), fun b h => (s0_2 b (s4_2 b (s5_2 b (s6_2 b (s7_2 b (s8_2 b h)))))), fun b h h2 => d3 b h h2, fun b h h2 => d0 b (s1_2 b (s2_2 b (s3_1 b h))) (s4_2 b (s5_1 b h2)), fun b h h2 => d0 b (s1_2 b (s2_2 b (s3_1 b h))) (s4_2 b (s5_2 b (s6_2 b (s7_2 b (s8_2 b h2))))), fun b h h2 => d0 b (s1_2 b (s2_2 b (s3_2 b h))) (s4_2 b (s5_1 b h2)), fun b h h2 => d0 b (s1_2 b (s2_2 b (s3_2 b h))) (s4_2 b (s5_2 b (s6_2 b (s7_2 b (s8_2 b h2))))), fun b h h2 => d5 b h (s6_2 b (s7_2 b (s8_2 b h2)))⟩
theorem tActive_mkO {w : World} {F : Nat → Prop} {a0 : Int} {a1 : Int} {x2 : List (Int × Int × Int)} {x3 : List Int} {a4 : Int} {x5 : List Int} {a6 : Int} {a7 : Int} {a8 : Int} {x9 : List (Int × List Int)} {v2 v3 v5 v9 : Value} {F2 F3 F5 F9 : Nat → Prop} (h2 : SlO 147 tCond w F2 v2 x2) (h3 : SlO 3 tInt w F3 v3 x3) (h5 : SlO 3 tInt w F5 v5 x5) (h9 : SlO 73 tRow w F9 v9 x9) (s2 : ∀ b, F2 b → F b) (s3 : ∀ b, F3 b → F b) (s5 : ∀ b, F5 b → F b) (s9 : ∀ b, F9 b → F b) (d2_3 : ∀ b, F2 b → ¬ F3 b) (d2_5 : ∀ b, F2 b → ¬ F5 b) (d2_9 : ∀ b, F2 b → ¬ F9 b) (d3_5 : ∀ b, F3 b → ¬ F5 b) (d3_9 : ∀ b, F3 b → ¬ F9 b) (d5_9 : ∀ b, F5 b → ¬ F9 b) : tActive.O w F [.int .i64 a0, .int .i64 a1, v2, v3, .int .i64 a4, v5, .int .i64 a6, .int .i64 a7, .int .i64 a8, v9] ((a0, a1, x2, x3), a4, x5, a6, a7, a8, x9) := ⟨[.int .i64 a0, .int .i64 a1, v2, v3], [.int .i64 a4, v5, .int .i64 a6, .int .i64 a7, .int .i64 a8, v9], fun b => F2 b ∨ (F3 b), fun b => F5 b ∨ (F9 b), rfl, ⟨[.int .i64 a0], [.int .i64 a1, v2, v3], fun _ => False, fun b => F2 b ∨ (F3 b), rfl, rfl, ⟨[.int .i64 a1], [v2, v3], fun _ => False, fun b => F2 b ∨ (F3 b), rfl, rfl, ⟨[v2], [v3], F2, F3, rfl, ⟨_, rfl, h2⟩, ⟨_, rfl, h3⟩, (fun b h => (Or.inl h)), (fun b h => (Or.inr h)), (fun b h g => d2_3 b h g)⟩, (fun b h => (False.elim h)), (fun b h => (h.elim (fun q0 => (Or.inl q0)) (fun q0 => (Or.inr q0)))), (fun b h g => (False.elim h))⟩, (fun b h => (False.elim h)), (fun b h => (h.elim (fun q0 => (Or.inl q0)) (fun q0 => (Or.inr q0)))), (fun b h g => (False.elim h))⟩, ⟨[.int .i64 a4], [v5, .int .i64 a6, .int .i64 a7, .int .i64 a8, v9], fun _ => False, fun b => F5 b ∨ (F9 b), rfl, rfl, ⟨[v5], [.int .i64 a6, .int .i64 a7, .int .i64 a8, v9], F5, F9, rfl, ⟨_, rfl, h5⟩, ⟨[.int .i64 a6], [.int .i64 a7, .int .i64 a8, v9], fun _ => False, F9, rfl, rfl, ⟨[.int .i64 a7], [.int .i64 a8, v9], fun _ => False, F9, rfl, rfl, ⟨[.int .i64 a8], [v9], fun _ => False, F9, rfl, rfl, ⟨_, rfl, h9⟩, (fun b h => (False.elim h)), (fun b h => h), (fun b h g => (False.elim h))⟩, (fun b h => (False.elim h)), (fun b h => h), (fun b h g => (False.elim h))⟩, (fun b h => (False.elim h)), (fun b h => h), (fun b h g => (False.elim h))⟩, (fun b h => (Or.inl h)), (fun b h => (Or.inr h)), (fun b h g => d5_9 b h g)⟩, (fun b h => (False.elim h)), (fun b h => (h.elim (fun q0 => (Or.inl q0)) (fun q0 => (Or.inr q0)))), (fun b h g => (False.elim h))⟩, (fun b h => (h.elim (fun q0 => s2 b q0) (fun q0 => s3 b q0))), (fun b h => (h.elim (fun q0 => s5 b q0) (fun q0 => s9 b q0))), (fun b h g => (h.elim (fun q0 => (g.elim (fun q10 => d2_5 b q0 q10) (fun q10 => d2_9 b q0 q10))) (fun q0 => (g.elim (fun q10 => d3_5 b q0 q10) (fun q10 => d3_9 b q0 q10)))))⟩
set_option maxHeartbeats 8000000 in
set_option maxRecDepth 100000 in
theorem szActive_Y (a0 a1 a4 a6 a7 a8 : Int) (v2 v3 v5 v9 : Value) (x2 : List (Int × Int × Int)) (x3 : List Int) (x5 : List Int) (x9 : List (Int × List Int)) (k0 : Int) (w : World) (h2 : SlR tCond w v2 x2) (h3 : SlR tInt w v3 x3) (h5 : SlR tInt w v5 x5) (h9 : SlR tRow w v9 x9) (hs : ((zL tCond x2 + zL tInt x3 + zL tInt x5 + zL tRow x9 : Nat) : Int) ≤ k0) (hk : k0 ≤ 1048576) :
  Calls Try.prog 103 #[.agg #[.int .i64 a0, .int .i64 a1, v2, v3, .int .i64 a4, v5, .int .i64 a6, .int .i64 a7, .int .i64 a8, v9], .int .i64 k0] w fun e w' => e = .returned (.int .i64 (k0 - ((zL tCond x2 + zL tInt x3 + zL tInt x5 + zL tRow x9 : Nat) : Int))) ∧ Below w.heap.size w w' := by
 have H2 := Lib.hid h2
 have H3 := Lib.hid h3
 have H5 := Lib.hid h5
 have H9 := Lib.hid h9
 clear h2 h3 h5 h9
 have HZ0 : Hid (((zL tCond x2 + zL tInt x3 : Nat) : Int) ≤ k0) := Lib.hid (by omega)
 have HK0 : Hid (k0 ≤ 1048576) := Lib.hid (by omega)
 have hn0 : ¬ k0 - ((zL tCond x2 + zL tInt x3 : Nat) : Int) < 0 := by omega
 have HZ5 : Hid (((zL tInt x5 : Nat) : Int) ≤ k0 - ((zL tCond x2 + zL tInt x3 : Nat) : Int)) := Lib.hid (by omega)
 have HK5 : Hid (k0 - ((zL tCond x2 + zL tInt x3 : Nat) : Int) ≤ 1048576) := Lib.hid (by omega)
 have hn5 : ¬ k0 - ((zL tCond x2 + zL tInt x3 : Nat) : Int) - ((zL tInt x5 : Nat) : Int) < 0 := by omega
 have HZ9 : Hid (((zL tRow x9 : Nat) : Int) ≤ k0 - ((zL tCond x2 + zL tInt x3 : Nat) : Int) - ((zL tInt x5 : Nat) : Int)) := Lib.hid (by omega)
 have HK9 : Hid (k0 - ((zL tCond x2 + zL tInt x3 : Nat) : Int) - ((zL tInt x5 : Nat) : Int) ≤ 1048576) := Lib.hid (by omega)
 have hn9 : ¬ k0 - ((zL tCond x2 + zL tInt x3 : Nat) : Int) - ((zL tInt x5 : Nat) : Int) - ((zL tRow x9 : Nat) : Int) < 0 := by omega
 have HE : Hid (k0 - ((zL tCond x2 + zL tInt x3 : Nat) : Int) - ((zL tInt x5 : Nat) : Int) - ((zL tRow x9 : Nat) : Int) = k0 - ((zL tCond x2 + zL tInt x3 + zL tInt x5 + zL tRow x9 : Nat) : Int)) := Lib.hid (by omega)
 clear hs hk
 have hb : Below w.heap.size w (w.alloc (.cells #[.int .i64 a0, .int .i64 a1, v2, v3, .int .i64 a4, v5, .int .i64 a6, .int .i64 a7, .int .i64 a8, v9] 135)) := (Below.refl _ w).alloc (Nat.le_refl _) _
 have g0 : (w.alloc (.cells #[.int .i64 a0, .int .i64 a1, v2, v3, .int .i64 a4, v5, .int .i64 a6, .int .i64 a7, .int .i64 a8, v9] 135)).heap[w.heap.size]? = some (.cells #[.int .i64 a0, .int .i64 a1, v2, v3, .int .i64 a4, v5, .int .i64 a6, .int .i64 a7, .int .i64 a8, v9] 135 (0, 0)) := heap_alloc_new w _
 have hz0 : w.heap.size < (w.alloc (.cells #[.int .i64 a0, .int .i64 a1, v2, v3, .int .i64 a4, v5, .int .i64 a6, .int .i64 a7, .int .i64 a8, v9] 135)).heap.size := by simp
 go_enter Try.func103, Try.ntmps103
 go_wp2_with fail
 generalize (w.alloc (.cells #[.int .i64 a0, .int .i64 a1, v2, v3, .int .i64 a4, v5, .int .i64 a6, .int .i64 a7, .int .i64 a8, v9] 135)) = W at *
 refine (szQuery_Y a0 a1 v2 v3 x2 x3 (k0) W (slR_below tCond_law H2.out hb) (slR_below tInt_law H3.out hb) HZ0.out HK0.out).mono ?_
 rintro e W1 ⟨rfl, b1⟩
 replace g0 := (b1.block w.heap.size hz0).trans g0
 replace hz0 := Nat.lt_of_lt_of_le hz0 b1.size
 replace hb := hb.trans (b1.mono hb.size)
 clear b1
 have p5 := (cell_of_row W1 _ 5 _ _ _ g0).trans (show _ = some (v5) from rfl)
 go_wp2_with fail
 clear p5
 refine (szIntS_Y v5 x5 (k0 - ((zL tCond x2 + zL tInt x3 : Nat) : Int)) W1 (slR_below tInt_law H5.out hb) HZ5.out HK5.out).mono ?_
 rintro e W2 ⟨rfl, b1⟩
 replace g0 := (b1.block w.heap.size hz0).trans g0
 replace hz0 := Nat.lt_of_lt_of_le hz0 b1.size
 replace hb := hb.trans (b1.mono hb.size)
 clear b1
 have p9 := (cell_of_row W2 _ 9 _ _ _ g0).trans (show _ = some (v9) from rfl)
 go_wp2_with fail
 clear p9
 refine (szRowS_Y v9 x9 (k0 - ((zL tCond x2 + zL tInt x3 : Nat) : Int) - ((zL tInt x5 : Nat) : Int)) W2 (slR_below tRow_law H9.out hb) HZ9.out HK9.out).mono ?_
 rintro e W3 ⟨rfl, b1⟩
 replace g0 := (b1.block w.heap.size hz0).trans g0
 replace hz0 := Nat.lt_of_lt_of_le hz0 b1.size
 replace hb := hb.trans (b1.mono hb.size)
 clear b1
 go_wp2
 go_ret
 exact ⟨ty_ret HE.out, hb⟩
set_option maxHeartbeats 8000000 in
set_option maxRecDepth 100000 in
theorem szActive_N (a0 a1 a4 a6 a7 a8 : Int) (v2 v3 v5 v9 : Value) (x2 : List (Int × Int × Int)) (x3 : List Int) (x5 : List Int) (x9 : List (Int × List Int)) (k0 : Int) (w : World) (h2 : SlR tCond w v2 x2) (h3 : SlR tInt w v3 x3) (h5 : SlR tInt w v5 x5) (h9 : SlR tRow w v9 x9) (hs : k0 < ((zL tCond x2 + zL tInt x3 + zL tInt x5 + zL tRow x9 : Nat) : Int)) (hk : k0 ≤ 1048576) (hp : 0 ≤ k0) (o2 : tCondS.ok x2) (o3 : tIntS.ok x3) (o5 : tIntS.ok x5) (o9 : tRowS.ok x9) :
  Calls Try.prog 103 #[.agg #[.int .i64 a0, .int .i64 a1, v2, v3, .int .i64 a4, v5, .int .i64 a6, .int .i64 a7, .int .i64 a8, v9], .int .i64 k0] w fun e w' => e = .returned (.int .i64 (-1)) ∧ Below w.heap.size w w' := by
 have H2 := Lib.hid h2
 have H3 := Lib.hid h3
 have H5 := Lib.hid h5
 have H9 := Lib.hid h9
 clear h2 h3 h5 h9
 have HO2 := Lib.hid o2
 have HO3 := Lib.hid o3
 have HO5 := Lib.hid o5
 have HO9 := Lib.hid o9
 clear o2 o3 o5 o9
 by_cases c0 : k0 < ((zL tCond x2 + zL tInt x3 : Nat) : Int)
 ·
  have HZ0 : Hid (k0 < ((zL tCond x2 + zL tInt x3 : Nat) : Int)) := Lib.hid (by omega)
  have HP0 : Hid (0 ≤ k0) := Lib.hid (by omega)
  have HK0 : Hid (k0 ≤ 1048576) := Lib.hid (by omega)
  clear hs hk
  clear c0 hp
  have hb : Below w.heap.size w (w.alloc (.cells #[.int .i64 a0, .int .i64 a1, v2, v3, .int .i64 a4, v5, .int .i64 a6, .int .i64 a7, .int .i64 a8, v9] 135)) := (Below.refl _ w).alloc (Nat.le_refl _) _
  have g0 : (w.alloc (.cells #[.int .i64 a0, .int .i64 a1, v2, v3, .int .i64 a4, v5, .int .i64 a6, .int .i64 a7, .int .i64 a8, v9] 135)).heap[w.heap.size]? = some (.cells #[.int .i64 a0, .int .i64 a1, v2, v3, .int .i64 a4, v5, .int .i64 a6, .int .i64 a7, .int .i64 a8, v9] 135 (0, 0)) := heap_alloc_new w _
  have hz0 : w.heap.size < (w.alloc (.cells #[.int .i64 a0, .int .i64 a1, v2, v3, .int .i64 a4, v5, .int .i64 a6, .int .i64 a7, .int .i64 a8, v9] 135)).heap.size := by simp
  go_enter Try.func103, Try.ntmps103
  go_wp2_with fail
  generalize (w.alloc (.cells #[.int .i64 a0, .int .i64 a1, v2, v3, .int .i64 a4, v5, .int .i64 a6, .int .i64 a7, .int .i64 a8, v9] 135)) = W at *
  refine (szQuery_N a0 a1 v2 v3 x2 x3 (k0) W (slR_below tCond_law H2.out hb) (slR_below tInt_law H3.out hb) HZ0.out HK0.out HP0.out HO2.out HO3.out).mono ?_
  rintro e W1 ⟨rfl, b1⟩
  replace g0 := (b1.block w.heap.size hz0).trans g0
  replace hz0 := Nat.lt_of_lt_of_le hz0 b1.size
  replace hb := hb.trans (b1.mono hb.size)
  clear b1
  go_wp2
  go_ret
  exact ⟨rfl, hb⟩
 ·
  by_cases c1 : k0 - ((zL tCond x2 + zL tInt x3 : Nat) : Int) < ((zL tInt x5 : Nat) : Int)
  ·
   have HZ0 : Hid (((zL tCond x2 + zL tInt x3 : Nat) : Int) ≤ k0) := Lib.hid (by omega)
   have hn0 : ¬ k0 - ((zL tCond x2 + zL tInt x3 : Nat) : Int) < 0 := by omega
   have HK0 : Hid (k0 ≤ 1048576) := Lib.hid (by omega)
   have HZ5 : Hid (k0 - ((zL tCond x2 + zL tInt x3 : Nat) : Int) < ((zL tInt x5 : Nat) : Int)) := Lib.hid (by omega)
   have HP5 : Hid (0 ≤ k0 - ((zL tCond x2 + zL tInt x3 : Nat) : Int)) := Lib.hid (by omega)
   have HK5 : Hid (k0 - ((zL tCond x2 + zL tInt x3 : Nat) : Int) ≤ 1048576) := Lib.hid (by omega)
   clear hs hk
   clear c1 hp c0
   have hb : Below w.heap.size w (w.alloc (.cells #[.int .i64 a0, .int .i64 a1, v2, v3, .int .i64 a4, v5, .int .i64 a6, .int .i64 a7, .int .i64 a8, v9] 135)) := (Below.refl _ w).alloc (Nat.le_refl _) _
   have g0 : (w.alloc (.cells #[.int .i64 a0, .int .i64 a1, v2, v3, .int .i64 a4, v5, .int .i64 a6, .int .i64 a7, .int .i64 a8, v9] 135)).heap[w.heap.size]? = some (.cells #[.int .i64 a0, .int .i64 a1, v2, v3, .int .i64 a4, v5, .int .i64 a6, .int .i64 a7, .int .i64 a8, v9] 135 (0, 0)) := heap_alloc_new w _
   have hz0 : w.heap.size < (w.alloc (.cells #[.int .i64 a0, .int .i64 a1, v2, v3, .int .i64 a4, v5, .int .i64 a6, .int .i64 a7, .int .i64 a8, v9] 135)).heap.size := by simp
   go_enter Try.func103, Try.ntmps103
   go_wp2_with fail
   generalize (w.alloc (.cells #[.int .i64 a0, .int .i64 a1, v2, v3, .int .i64 a4, v5, .int .i64 a6, .int .i64 a7, .int .i64 a8, v9] 135)) = W at *
   refine (szQuery_Y a0 a1 v2 v3 x2 x3 (k0) W (slR_below tCond_law H2.out hb) (slR_below tInt_law H3.out hb) HZ0.out HK0.out).mono ?_
   rintro e W1 ⟨rfl, b1⟩
   replace g0 := (b1.block w.heap.size hz0).trans g0
   replace hz0 := Nat.lt_of_lt_of_le hz0 b1.size
   replace hb := hb.trans (b1.mono hb.size)
   clear b1
   have p5 := (cell_of_row W1 _ 5 _ _ _ g0).trans (show _ = some (v5) from rfl)
   go_wp2_with fail
   clear p5
   refine (szIntS_N v5 x5 (k0 - ((zL tCond x2 + zL tInt x3 : Nat) : Int)) W1 (slR_below tInt_law H5.out hb) HZ5.out HK5.out HP5.out HO5.out).mono ?_
   rintro e W2 ⟨rfl, b1⟩
   replace g0 := (b1.block w.heap.size hz0).trans g0
   replace hz0 := Nat.lt_of_lt_of_le hz0 b1.size
   replace hb := hb.trans (b1.mono hb.size)
   clear b1
   go_wp2
   go_ret
   exact ⟨rfl, hb⟩
  ·
   have HZ0 : Hid (((zL tCond x2 + zL tInt x3 : Nat) : Int) ≤ k0) := Lib.hid (by omega)
   have hn0 : ¬ k0 - ((zL tCond x2 + zL tInt x3 : Nat) : Int) < 0 := by omega
   have HK0 : Hid (k0 ≤ 1048576) := Lib.hid (by omega)
   have HZ5 : Hid (((zL tInt x5 : Nat) : Int) ≤ k0 - ((zL tCond x2 + zL tInt x3 : Nat) : Int)) := Lib.hid (by omega)
   have hn5 : ¬ k0 - ((zL tCond x2 + zL tInt x3 : Nat) : Int) - ((zL tInt x5 : Nat) : Int) < 0 := by omega
   have HK5 : Hid (k0 - ((zL tCond x2 + zL tInt x3 : Nat) : Int) ≤ 1048576) := Lib.hid (by omega)
   have HZ9 : Hid (k0 - ((zL tCond x2 + zL tInt x3 : Nat) : Int) - ((zL tInt x5 : Nat) : Int) < ((zL tRow x9 : Nat) : Int)) := Lib.hid (by omega)
   have HP9 : Hid (0 ≤ k0 - ((zL tCond x2 + zL tInt x3 : Nat) : Int) - ((zL tInt x5 : Nat) : Int)) := Lib.hid (by omega)
   have HK9 : Hid (k0 - ((zL tCond x2 + zL tInt x3 : Nat) : Int) - ((zL tInt x5 : Nat) : Int) ≤ 1048576) := Lib.hid (by omega)
   clear hs hk
   clear hp c0 c1
   have hb : Below w.heap.size w (w.alloc (.cells #[.int .i64 a0, .int .i64 a1, v2, v3, .int .i64 a4, v5, .int .i64 a6, .int .i64 a7, .int .i64 a8, v9] 135)) := (Below.refl _ w).alloc (Nat.le_refl _) _
   have g0 : (w.alloc (.cells #[.int .i64 a0, .int .i64 a1, v2, v3, .int .i64 a4, v5, .int .i64 a6, .int .i64 a7, .int .i64 a8, v9] 135)).heap[w.heap.size]? = some (.cells #[.int .i64 a0, .int .i64 a1, v2, v3, .int .i64 a4, v5, .int .i64 a6, .int .i64 a7, .int .i64 a8, v9] 135 (0, 0)) := heap_alloc_new w _
   have hz0 : w.heap.size < (w.alloc (.cells #[.int .i64 a0, .int .i64 a1, v2, v3, .int .i64 a4, v5, .int .i64 a6, .int .i64 a7, .int .i64 a8, v9] 135)).heap.size := by simp
   go_enter Try.func103, Try.ntmps103
   go_wp2_with fail
   generalize (w.alloc (.cells #[.int .i64 a0, .int .i64 a1, v2, v3, .int .i64 a4, v5, .int .i64 a6, .int .i64 a7, .int .i64 a8, v9] 135)) = W at *
   refine (szQuery_Y a0 a1 v2 v3 x2 x3 (k0) W (slR_below tCond_law H2.out hb) (slR_below tInt_law H3.out hb) HZ0.out HK0.out).mono ?_
   rintro e W1 ⟨rfl, b1⟩
   replace g0 := (b1.block w.heap.size hz0).trans g0
   replace hz0 := Nat.lt_of_lt_of_le hz0 b1.size
   replace hb := hb.trans (b1.mono hb.size)
   clear b1
   have p5 := (cell_of_row W1 _ 5 _ _ _ g0).trans (show _ = some (v5) from rfl)
   go_wp2_with fail
   clear p5
   refine (szIntS_Y v5 x5 (k0 - ((zL tCond x2 + zL tInt x3 : Nat) : Int)) W1 (slR_below tInt_law H5.out hb) HZ5.out HK5.out).mono ?_
   rintro e W2 ⟨rfl, b1⟩
   replace g0 := (b1.block w.heap.size hz0).trans g0
   replace hz0 := Nat.lt_of_lt_of_le hz0 b1.size
   replace hb := hb.trans (b1.mono hb.size)
   clear b1
   have p9 := (cell_of_row W2 _ 9 _ _ _ g0).trans (show _ = some (v9) from rfl)
   go_wp2_with fail
   clear p9
   refine (szRowS_N v9 x9 (k0 - ((zL tCond x2 + zL tInt x3 : Nat) : Int) - ((zL tInt x5 : Nat) : Int)) W2 (slR_below tRow_law H9.out hb) HZ9.out HK9.out HP9.out HO9.out).mono ?_
   rintro e W3 ⟨rfl, b1⟩
   replace g0 := (b1.block w.heap.size hz0).trans g0
   replace hz0 := Nat.lt_of_lt_of_le hz0 b1.size
   replace hb := hb.trans (b1.mono hb.size)
   clear b1
   go_wp2
   go_ret
   exact ⟨rfl, hb⟩
set_option maxHeartbeats 8000000 in
set_option maxRecDepth 100000 in
theorem toActive_T (a0 a1 a4 a6 a7 a8 : Int) (v2 v3 v5 v9 : Value) (x2 : List (Int × Int × Int)) (x3 : List Int) (x5 : List Int) (x9 : List (Int × List Int)) (w : World) (h2 : SlR tCond w v2 x2) (h3 : SlR tInt w v3 x3) (h5 : SlR tInt w v5 x5) (h9 : SlR tRow w v9 x9) (s2 : zL tCond x2 ≤ 1048576) (s3 : zL tInt x3 ≤ 1048576) (s5 : zL tInt x5 ≤ 1048576) (s9 : zL tRow x9 ≤ 1048576) :
  Calls Try.prog 106 #[.agg #[.int .i64 a0, .int .i64 a1, v2, v3, .int .i64 a4, v5, .int .i64 a6, .int .i64 a7, .int .i64 a8, v9]] w (FreshT tActive (fun cs => .agg cs.toArray) w ((a0, a1, x2, x3), a4, x5, a6, a7, a8, x9)) := by
 have H2 := Lib.hid h2
 have H3 := Lib.hid h3
 have H5 := Lib.hid h5
 have H9 := Lib.hid h9
 clear h2 h3 h5 h9
 have S2 := Lib.hid s2
 have S3 := Lib.hid s3
 have S5 := Lib.hid s5
 have S9 := Lib.hid s9
 clear s2 s3 s5 s9
 go_enter Try.func106, Try.ntmps106
 go_wp2_with fail
 have hb : Below w.heap.size w (((w.alloc (.cells #[.int .i64 a0, .int .i64 a1, v2, v3, .int .i64 a4, v5, .int .i64 a6, .int .i64 a7, .int .i64 a8, v9] 135)).alloc (.cells #[.int .i64 0, .int .i64 0, .slice none 0 0, .slice none 0 0, .int .i64 0, .slice none 0 0, .int .i64 0, .int .i64 0, .int .i64 0, .slice none 0 0] 92)).alloc (.cells #[.int .i64 0, .int .i64 0, .slice none 0 0, .slice none 0 0, .int .i64 0, .slice none 0 0, .int .i64 0, .int .i64 0, .int .i64 0, .slice none 0 0] 92)) := (((Below.refl _ w).alloc (Nat.le_refl _) _).alloc (by simp) _).alloc (by simp; omega) _
 have g2 : (((w.alloc (.cells #[.int .i64 a0, .int .i64 a1, v2, v3, .int .i64 a4, v5, .int .i64 a6, .int .i64 a7, .int .i64 a8, v9] 135)).alloc (.cells #[.int .i64 0, .int .i64 0, .slice none 0 0, .slice none 0 0, .int .i64 0, .slice none 0 0, .int .i64 0, .int .i64 0, .int .i64 0, .slice none 0 0] 92)).alloc (.cells #[.int .i64 0, .int .i64 0, .slice none 0 0, .slice none 0 0, .int .i64 0, .slice none 0 0, .int .i64 0, .int .i64 0, .int .i64 0, .slice none 0 0] 92)).heap[w.heap.size + 1 + 1]? = some (.cells #[.int .i64 0, .int .i64 0, .slice none 0 0, .slice none 0 0, .int .i64 0, .slice none 0 0, .int .i64 0, .int .i64 0, .int .i64 0, .slice none 0 0] 92 (0, 0)) := by
  have := heap_alloc_new ((w.alloc (.cells #[.int .i64 a0, .int .i64 a1, v2, v3, .int .i64 a4, v5, .int .i64 a6, .int .i64 a7, .int .i64 a8, v9] 135)).alloc (.cells #[.int .i64 0, .int .i64 0, .slice none 0 0, .slice none 0 0, .int .i64 0, .slice none 0 0, .int .i64 0, .int .i64 0, .int .i64 0, .slice none 0 0] 92)) (.cells #[.int .i64 0, .int .i64 0, .slice none 0 0, .slice none 0 0, .int .i64 0, .slice none 0 0, .int .i64 0, .int .i64 0, .int .i64 0, .slice none 0 0] 92)
  simpa only [World.size_alloc] using this
 have g1 : (((w.alloc (.cells #[.int .i64 a0, .int .i64 a1, v2, v3, .int .i64 a4, v5, .int .i64 a6, .int .i64 a7, .int .i64 a8, v9] 135)).alloc (.cells #[.int .i64 0, .int .i64 0, .slice none 0 0, .slice none 0 0, .int .i64 0, .slice none 0 0, .int .i64 0, .int .i64 0, .int .i64 0, .slice none 0 0] 92)).alloc (.cells #[.int .i64 0, .int .i64 0, .slice none 0 0, .slice none 0 0, .int .i64 0, .slice none 0 0, .int .i64 0, .int .i64 0, .int .i64 0, .slice none 0 0] 92)).heap[w.heap.size + 1]? = some (.cells #[.int .i64 0, .int .i64 0, .slice none 0 0, .slice none 0 0, .int .i64 0, .slice none 0 0, .int .i64 0, .int .i64 0, .int .i64 0, .slice none 0 0] 92 (0, 0)) := by
  have := heap_alloc_new (w.alloc (.cells #[.int .i64 a0, .int .i64 a1, v2, v3, .int .i64 a4, v5, .int .i64 a6, .int .i64 a7, .int .i64 a8, v9] 135)) (.cells #[.int .i64 0, .int .i64 0, .slice none 0 0, .slice none 0 0, .int .i64 0, .slice none 0 0, .int .i64 0, .int .i64 0, .int .i64 0, .slice none 0 0] 92)
  rw [Below.heap_alloc _ _ _ (by simp)]
  simpa only [World.size_alloc] using this
 have g0 : (((w.alloc (.cells #[.int .i64 a0, .int .i64 a1, v2, v3, .int .i64 a4, v5, .int .i64 a6, .int .i64 a7, .int .i64 a8, v9] 135)).alloc (.cells #[.int .i64 0, .int .i64 0, .slice none 0 0, .slice none 0 0, .int .i64 0, .slice none 0 0, .int .i64 0, .int .i64 0, .int .i64 0, .slice none 0 0] 92)).alloc (.cells #[.int .i64 0, .int .i64 0, .slice none 0 0, .slice none 0 0, .int .i64 0, .slice none 0 0, .int .i64 0, .int .i64 0, .int .i64 0, .slice none 0 0] 92)).heap[w.heap.size]? = some (.cells #[.int .i64 a0, .int .i64 a1, v2, v3, .int .i64 a4, v5, .int .i64 a6, .int .i64 a7, .int .i64 a8, v9] 135 (0, 0)) := by
  rw [Below.heap_alloc _ _ _ (by simp; omega), Below.heap_alloc _ _ _ (by simp)]
  exact heap_alloc_new w _
 have hz : w.heap.size + 2 < (((w.alloc (.cells #[.int .i64 a0, .int .i64 a1, v2, v3, .int .i64 a4, v5, .int .i64 a6, .int .i64 a7, .int .i64 a8, v9] 135)).alloc (.cells #[.int .i64 0, .int .i64 0, .slice none 0 0, .slice none 0 0, .int .i64 0, .slice none 0 0, .int .i64 0, .int .i64 0, .int .i64 0, .slice none 0 0] 92)).alloc (.cells #[.int .i64 0, .int .i64 0, .slice none 0 0, .slice none 0 0, .int .i64 0, .slice none 0 0, .int .i64 0, .int .i64 0, .int .i64 0, .slice none 0 0] 92)).heap.size := by simp [World.size_alloc]
 generalize (((w.alloc (.cells #[.int .i64 a0, .int .i64 a1, v2, v3, .int .i64 a4, v5, .int .i64 a6, .int .i64 a7, .int .i64 a8, v9] 135)).alloc (.cells #[.int .i64 0, .int .i64 0, .slice none 0 0, .slice none 0 0, .int .i64 0, .slice none 0 0, .int .i64 0, .int .i64 0, .int .i64 0, .slice none 0 0] 92)).alloc (.cells #[.int .i64 0, .int .i64 0, .slice none 0 0, .slice none 0 0, .int .i64 0, .slice none 0 0, .int .i64 0, .int .i64 0, .int .i64 0, .slice none 0 0] 92)) = W at *
 refine (toQuery_T a0 a1 v2 v3 x2 x3 W (slR_below tCond_law H2.out hb) (slR_below tInt_law H3.out hb) S2.out S3.out).mono ?_
 rintro e w1 ⟨cs, rfl, ow, b1⟩
 replace ow := tQuery_law.mono (tQuery_law.lt ow) (F' := fun b => W.heap.size ≤ b ∧ b < w1.heap.size) (fun b h => h)
 obtain ⟨u2, u3, F2, F3, rfl, o2, o3, q2, q3, d2_3⟩ := tQuery_O ow
 obtain ⟨ua2, uc2, rfl⟩ := slO_len o2
 obtain ⟨ua3, uc3, rfl⟩ := slO_len o3
 replace g0 := (b1.block _ (by omega)).trans g0
 replace g1 := (b1.block _ (by omega)).trans g1
 replace g2 := (b1.block _ (by omega)).trans g2
 have zz1 := b1.size
 replace hb := hb.trans (b1.mono (by omega))
 clear b1
 have c2_0 := (cell_of_row w1 _ 0 _ _ _ g2).trans (show _ = some (Value.int .i64 0) from rfl)
 have f2_0 := frozen_of_row w1 _ 0 _ _ g2
 have c2_1 := (cell_of_row w1 _ 1 _ _ _ g2).trans (show _ = some (Value.int .i64 0) from rfl)
 have f2_1 := frozen_of_row w1 _ 1 _ _ g2
 have c2_2 := (cell_of_row w1 _ 2 _ _ _ g2).trans (show _ = some (Value.slice none 0 0) from rfl)
 have f2_2 := frozen_of_row w1 _ 2 _ _ g2
 have c2_3 := (cell_of_row w1 _ 3 _ _ _ g2).trans (show _ = some (Value.slice none 0 0) from rfl)
 have f2_3 := frozen_of_row w1 _ 3 _ _ g2
 have c2_4 := (cell_of_row w1 _ 4 _ _ _ g2).trans (show _ = some (Value.int .i64 0) from rfl)
 have f2_4 := frozen_of_row w1 _ 4 _ _ g2
 have ne1 : ¬ w.heap.size = w.heap.size + 1 + 1 := by omega
 have ne2 : ¬ w.heap.size + 1 = w.heap.size + 1 + 1 := by omega
 have ne3 : ¬ w.heap.size + 1 + 1 = w.heap.size + 1 := by omega
 have c0_4 := (cell_of_row w1 _ 4 _ _ _ g0).trans (show _ = some (Value.int .i64 a4) from rfl)
 have c0_5 := (cell_of_row w1 _ 5 _ _ _ g0).trans (show _ = some (v5) from rfl)
 have l0_4 : ((((w1.setCell ⟨w.heap.size + 1 + 1, 0, none⟩ (.int .i64 a0)).setCell ⟨w.heap.size + 1 + 1, 1, none⟩ (.int .i64 a1)).setCell ⟨w.heap.size + 1 + 1, 2, none⟩ (.slice ua2 x2.length uc2)).setCell ⟨w.heap.size + 1 + 1, 3, none⟩ (.slice ua3 x3.length uc3)).cell? ⟨w.heap.size, 4, none⟩ = some (Value.int .i64 a4) := by
  have m : ((((w1.setCell ⟨w.heap.size + 1 + 1, 0, none⟩ (.int .i64 a0)).setCell ⟨w.heap.size + 1 + 1, 1, none⟩ (.int .i64 a1)).setCell ⟨w.heap.size + 1 + 1, 2, none⟩ (.slice ua2 x2.length uc2)).setCell ⟨w.heap.size + 1 + 1, 3, none⟩ (.slice ua3 x3.length uc3)).heap[w.heap.size]? = some (.cells #[.int .i64 a0, .int .i64 a1, v2, v3, .int .i64 a4, v5, .int .i64 a6, .int .i64 a7, .int .i64 a8, v9] 135 (0, 0)) := by
   repeat rw [heap_setCell_other _ _ _ _ (by simp <;> omega)]
   exact g0
  exact (cell_of_row _ _ 4 _ _ _ m).trans rfl
 have l0_5 : (((((w1.setCell ⟨w.heap.size + 1 + 1, 0, none⟩ (.int .i64 a0)).setCell ⟨w.heap.size + 1 + 1, 1, none⟩ (.int .i64 a1)).setCell ⟨w.heap.size + 1 + 1, 2, none⟩ (.slice ua2 x2.length uc2)).setCell ⟨w.heap.size + 1 + 1, 3, none⟩ (.slice ua3 x3.length uc3)).setCell ⟨w.heap.size + 1 + 1, 4, none⟩ (.int .i64 a4)).cell? ⟨w.heap.size, 5, none⟩ = some (v5) := by
  have m : (((((w1.setCell ⟨w.heap.size + 1 + 1, 0, none⟩ (.int .i64 a0)).setCell ⟨w.heap.size + 1 + 1, 1, none⟩ (.int .i64 a1)).setCell ⟨w.heap.size + 1 + 1, 2, none⟩ (.slice ua2 x2.length uc2)).setCell ⟨w.heap.size + 1 + 1, 3, none⟩ (.slice ua3 x3.length uc3)).setCell ⟨w.heap.size + 1 + 1, 4, none⟩ (.int .i64 a4)).heap[w.heap.size]? = some (.cells #[.int .i64 a0, .int .i64 a1, v2, v3, .int .i64 a4, v5, .int .i64 a6, .int .i64 a7, .int .i64 a8, v9] 135 (0, 0)) := by
   repeat rw [heap_setCell_other _ _ _ _ (by simp <;> omega)]
   exact g0
  exact (cell_of_row _ _ 5 _ _ _ m).trans rfl
 go_wp2_with fail
 clear c2_0 f2_0 c2_1 f2_1 c2_2 f2_2 c2_3 f2_3 c2_4 f2_4 ne1 ne2 ne3 c0_4 c0_5 l0_4 l0_5
 have hw : Turn (fun b => b = w.heap.size + 1 + 1) w1 (((((w1.setCell ⟨w.heap.size + 1 + 1, 0, none⟩ (.int .i64 a0)).setCell ⟨w.heap.size + 1 + 1, 1, none⟩ (.int .i64 a1)).setCell ⟨w.heap.size + 1 + 1, 2, none⟩ (.slice ua2 x2.length uc2)).setCell ⟨w.heap.size + 1 + 1, 3, none⟩ (.slice ua3 x3.length uc3)).setCell ⟨w.heap.size + 1 + 1, 4, none⟩ (.int .i64 a4)) := by
  first | exact ((((((Turn.refl (fun b => b = w.heap.size + 1 + 1) _).trans (turn_set (G := fun b => b = w.heap.size + 1 + 1) (g := w.heap.size + 1 + 1) (j := 0) (u := .int .i64 a0) rfl)).trans (turn_set (G := fun b => b = w.heap.size + 1 + 1) (g := w.heap.size + 1 + 1) (j := 1) (u := .int .i64 a1) rfl)).trans (turn_set (G := fun b => b = w.heap.size + 1 + 1) (g := w.heap.size + 1 + 1) (j := 2) (u := .slice ua2 x2.length uc2) rfl)).trans (turn_set (G := fun b => b = w.heap.size + 1 + 1) (g := w.heap.size + 1 + 1) (j := 3) (u := .slice ua3 x3.length uc3) rfl)).trans (turn_set (G := fun b => b = w.heap.size + 1 + 1) (g := w.heap.size + 1 + 1) (j := 4) (u := .int .i64 a4) rfl)) | skip
 replace g0 := (hw.block _ (by omega) (by omega)).trans g0
 replace g1 := (hw.block _ (by omega) (by omega)).trans g1
 have g2n := (heap_setCell_same _ (w.heap.size + 1 + 1) 4 _ _ (.int .i64 a4) (heap_setCell_same _ (w.heap.size + 1 + 1) 3 _ _ (.slice ua3 x3.length uc3) (heap_setCell_same _ (w.heap.size + 1 + 1) 2 _ _ (.slice ua2 x2.length uc2) (heap_setCell_same _ (w.heap.size + 1 + 1) 1 _ _ (.int .i64 a1) (heap_setCell_same _ (w.heap.size + 1 + 1) 0 _ _ (.int .i64 a0) g2)))))
 replace g2 : (((((w1.setCell ⟨w.heap.size + 1 + 1, 0, none⟩ (.int .i64 a0)).setCell ⟨w.heap.size + 1 + 1, 1, none⟩ (.int .i64 a1)).setCell ⟨w.heap.size + 1 + 1, 2, none⟩ (.slice ua2 x2.length uc2)).setCell ⟨w.heap.size + 1 + 1, 3, none⟩ (.slice ua3 x3.length uc3)).setCell ⟨w.heap.size + 1 + 1, 4, none⟩ (.int .i64 a4)).heap[w.heap.size + 1 + 1]? = some (.cells #[.int .i64 a0, .int .i64 a1, .slice ua2 x2.length uc2, .slice ua3 x3.length uc3, .int .i64 a4, .slice none 0 0, .int .i64 0, .int .i64 0, .int .i64 0, .slice none 0 0] 92 (0, 0)) := by simpa using g2n
 clear g2n
 replace o2 := slO_turn tCond_law o2 hw (fun b h1 h2 => by first | (have := h1.1; omega) | (have := q2 b h1; omega))
 replace o3 := slO_turn tInt_law o3 hw (fun b h1 h2 => by first | (have := h1.1; omega) | (have := q3 b h1; omega))
 replace hb := below_turn hb hw (fun b h => by omega) (by omega)
 have hz0 := hw.size
 clear hw
 generalize (((((w1.setCell ⟨w.heap.size + 1 + 1, 0, none⟩ (.int .i64 a0)).setCell ⟨w.heap.size + 1 + 1, 1, none⟩ (.int .i64 a1)).setCell ⟨w.heap.size + 1 + 1, 2, none⟩ (.slice ua2 x2.length uc2)).setCell ⟨w.heap.size + 1 + 1, 3, none⟩ (.slice ua3 x3.length uc3)).setCell ⟨w.heap.size + 1 + 1, 4, none⟩ (.int .i64 a4)) = W1 at *
 refine (toIntS_S v5 x5 W1 (slR_below tInt_law H5.out hb) S5.out).mono ?_
 rintro e w2 ⟨u5, rfl, o5, b1⟩
 obtain ⟨ua5, uc5, rfl⟩ := slO_len o5
 replace o5 := slO_mono (slO_lt tInt_law o5) (F' := fun b => W1.heap.size ≤ b ∧ b < w2.heap.size) (fun b h => h)
 replace g0 := (b1.block _ (by omega)).trans g0
 replace g1 := (b1.block _ (by omega)).trans g1
 replace g2 := (b1.block _ (by omega)).trans g2
 replace o2 := slO_fresh tCond_law o2 b1
 replace o3 := slO_fresh tInt_law o3 b1
 have zz2 := b1.size
 replace hb := hb.trans (b1.mono (by omega))
 clear b1
 have c2_0 := (cell_of_row w2 _ 0 _ _ _ g2).trans (show _ = some (Value.int .i64 a0) from rfl)
 have f2_0 := frozen_of_row w2 _ 0 _ _ g2
 have c2_1 := (cell_of_row w2 _ 1 _ _ _ g2).trans (show _ = some (Value.int .i64 a1) from rfl)
 have f2_1 := frozen_of_row w2 _ 1 _ _ g2
 have c2_2 := (cell_of_row w2 _ 2 _ _ _ g2).trans (show _ = some (Value.slice ua2 x2.length uc2) from rfl)
 have f2_2 := frozen_of_row w2 _ 2 _ _ g2
 have c2_3 := (cell_of_row w2 _ 3 _ _ _ g2).trans (show _ = some (Value.slice ua3 x3.length uc3) from rfl)
 have f2_3 := frozen_of_row w2 _ 3 _ _ g2
 have c2_4 := (cell_of_row w2 _ 4 _ _ _ g2).trans (show _ = some (Value.int .i64 a4) from rfl)
 have f2_4 := frozen_of_row w2 _ 4 _ _ g2
 have c2_5 := (cell_of_row w2 _ 5 _ _ _ g2).trans (show _ = some (Value.slice none 0 0) from rfl)
 have f2_5 := frozen_of_row w2 _ 5 _ _ g2
 have c2_6 := (cell_of_row w2 _ 6 _ _ _ g2).trans (show _ = some (Value.int .i64 0) from rfl)
 have f2_6 := frozen_of_row w2 _ 6 _ _ g2
 have c2_7 := (cell_of_row w2 _ 7 _ _ _ g2).trans (show _ = some (Value.int .i64 0) from rfl)
 have f2_7 := frozen_of_row w2 _ 7 _ _ g2
 have c2_8 := (cell_of_row w2 _ 8 _ _ _ g2).trans (show _ = some (Value.int .i64 0) from rfl)
 have f2_8 := frozen_of_row w2 _ 8 _ _ g2
 have ne1 : ¬ w.heap.size = w.heap.size + 1 + 1 := by omega
 have ne2 : ¬ w.heap.size + 1 = w.heap.size + 1 + 1 := by omega
 have ne3 : ¬ w.heap.size + 1 + 1 = w.heap.size + 1 := by omega
 have c0_6 := (cell_of_row w2 _ 6 _ _ _ g0).trans (show _ = some (Value.int .i64 a6) from rfl)
 have c0_7 := (cell_of_row w2 _ 7 _ _ _ g0).trans (show _ = some (Value.int .i64 a7) from rfl)
 have c0_8 := (cell_of_row w2 _ 8 _ _ _ g0).trans (show _ = some (Value.int .i64 a8) from rfl)
 have c0_9 := (cell_of_row w2 _ 9 _ _ _ g0).trans (show _ = some (v9) from rfl)
 have l0_6 : (w2.setCell ⟨w.heap.size + 1 + 1, 5, none⟩ (.slice ua5 x5.length uc5)).cell? ⟨w.heap.size, 6, none⟩ = some (Value.int .i64 a6) := by
  have m : (w2.setCell ⟨w.heap.size + 1 + 1, 5, none⟩ (.slice ua5 x5.length uc5)).heap[w.heap.size]? = some (.cells #[.int .i64 a0, .int .i64 a1, v2, v3, .int .i64 a4, v5, .int .i64 a6, .int .i64 a7, .int .i64 a8, v9] 135 (0, 0)) := by
   repeat rw [heap_setCell_other _ _ _ _ (by simp <;> omega)]
   exact g0
  exact (cell_of_row _ _ 6 _ _ _ m).trans rfl
 have l0_7 : ((w2.setCell ⟨w.heap.size + 1 + 1, 5, none⟩ (.slice ua5 x5.length uc5)).setCell ⟨w.heap.size + 1 + 1, 6, none⟩ (.int .i64 a6)).cell? ⟨w.heap.size, 7, none⟩ = some (Value.int .i64 a7) := by
  have m : ((w2.setCell ⟨w.heap.size + 1 + 1, 5, none⟩ (.slice ua5 x5.length uc5)).setCell ⟨w.heap.size + 1 + 1, 6, none⟩ (.int .i64 a6)).heap[w.heap.size]? = some (.cells #[.int .i64 a0, .int .i64 a1, v2, v3, .int .i64 a4, v5, .int .i64 a6, .int .i64 a7, .int .i64 a8, v9] 135 (0, 0)) := by
   repeat rw [heap_setCell_other _ _ _ _ (by simp <;> omega)]
   exact g0
  exact (cell_of_row _ _ 7 _ _ _ m).trans rfl
 have l0_8 : (((w2.setCell ⟨w.heap.size + 1 + 1, 5, none⟩ (.slice ua5 x5.length uc5)).setCell ⟨w.heap.size + 1 + 1, 6, none⟩ (.int .i64 a6)).setCell ⟨w.heap.size + 1 + 1, 7, none⟩ (.int .i64 a7)).cell? ⟨w.heap.size, 8, none⟩ = some (Value.int .i64 a8) := by
  have m : (((w2.setCell ⟨w.heap.size + 1 + 1, 5, none⟩ (.slice ua5 x5.length uc5)).setCell ⟨w.heap.size + 1 + 1, 6, none⟩ (.int .i64 a6)).setCell ⟨w.heap.size + 1 + 1, 7, none⟩ (.int .i64 a7)).heap[w.heap.size]? = some (.cells #[.int .i64 a0, .int .i64 a1, v2, v3, .int .i64 a4, v5, .int .i64 a6, .int .i64 a7, .int .i64 a8, v9] 135 (0, 0)) := by
   repeat rw [heap_setCell_other _ _ _ _ (by simp <;> omega)]
   exact g0
  exact (cell_of_row _ _ 8 _ _ _ m).trans rfl
 have l0_9 : ((((w2.setCell ⟨w.heap.size + 1 + 1, 5, none⟩ (.slice ua5 x5.length uc5)).setCell ⟨w.heap.size + 1 + 1, 6, none⟩ (.int .i64 a6)).setCell ⟨w.heap.size + 1 + 1, 7, none⟩ (.int .i64 a7)).setCell ⟨w.heap.size + 1 + 1, 8, none⟩ (.int .i64 a8)).cell? ⟨w.heap.size, 9, none⟩ = some (v9) := by
  have m : ((((w2.setCell ⟨w.heap.size + 1 + 1, 5, none⟩ (.slice ua5 x5.length uc5)).setCell ⟨w.heap.size + 1 + 1, 6, none⟩ (.int .i64 a6)).setCell ⟨w.heap.size + 1 + 1, 7, none⟩ (.int .i64 a7)).setCell ⟨w.heap.size + 1 + 1, 8, none⟩ (.int .i64 a8)).heap[w.heap.size]? = some (.cells #[.int .i64 a0, .int .i64 a1, v2, v3, .int .i64 a4, v5, .int .i64 a6, .int .i64 a7, .int .i64 a8, v9] 135 (0, 0)) := by
   repeat rw [heap_setCell_other _ _ _ _ (by simp <;> omega)]
   exact g0
  exact (cell_of_row _ _ 9 _ _ _ m).trans rfl
 go_wp2_with fail
 clear c2_0 f2_0 c2_1 f2_1 c2_2 f2_2 c2_3 f2_3 c2_4 f2_4 c2_5 f2_5 c2_6 f2_6 c2_7 f2_7 c2_8 f2_8 ne1 ne2 ne3 c0_6 c0_7 c0_8 c0_9 l0_6 l0_7 l0_8 l0_9
 have hw : Turn (fun b => b = w.heap.size + 1 + 1) w2 ((((w2.setCell ⟨w.heap.size + 1 + 1, 5, none⟩ (.slice ua5 x5.length uc5)).setCell ⟨w.heap.size + 1 + 1, 6, none⟩ (.int .i64 a6)).setCell ⟨w.heap.size + 1 + 1, 7, none⟩ (.int .i64 a7)).setCell ⟨w.heap.size + 1 + 1, 8, none⟩ (.int .i64 a8)) := by
  first | exact (((((Turn.refl (fun b => b = w.heap.size + 1 + 1) _).trans (turn_set (G := fun b => b = w.heap.size + 1 + 1) (g := w.heap.size + 1 + 1) (j := 5) (u := .slice ua5 x5.length uc5) rfl)).trans (turn_set (G := fun b => b = w.heap.size + 1 + 1) (g := w.heap.size + 1 + 1) (j := 6) (u := .int .i64 a6) rfl)).trans (turn_set (G := fun b => b = w.heap.size + 1 + 1) (g := w.heap.size + 1 + 1) (j := 7) (u := .int .i64 a7) rfl)).trans (turn_set (G := fun b => b = w.heap.size + 1 + 1) (g := w.heap.size + 1 + 1) (j := 8) (u := .int .i64 a8) rfl)) | skip
 replace g0 := (hw.block _ (by omega) (by omega)).trans g0
 replace g1 := (hw.block _ (by omega) (by omega)).trans g1
 have g2n := (heap_setCell_same _ (w.heap.size + 1 + 1) 8 _ _ (.int .i64 a8) (heap_setCell_same _ (w.heap.size + 1 + 1) 7 _ _ (.int .i64 a7) (heap_setCell_same _ (w.heap.size + 1 + 1) 6 _ _ (.int .i64 a6) (heap_setCell_same _ (w.heap.size + 1 + 1) 5 _ _ (.slice ua5 x5.length uc5) g2))))
 replace g2 : ((((w2.setCell ⟨w.heap.size + 1 + 1, 5, none⟩ (.slice ua5 x5.length uc5)).setCell ⟨w.heap.size + 1 + 1, 6, none⟩ (.int .i64 a6)).setCell ⟨w.heap.size + 1 + 1, 7, none⟩ (.int .i64 a7)).setCell ⟨w.heap.size + 1 + 1, 8, none⟩ (.int .i64 a8)).heap[w.heap.size + 1 + 1]? = some (.cells #[.int .i64 a0, .int .i64 a1, .slice ua2 x2.length uc2, .slice ua3 x3.length uc3, .int .i64 a4, .slice ua5 x5.length uc5, .int .i64 a6, .int .i64 a7, .int .i64 a8, .slice none 0 0] 92 (0, 0)) := by simpa using g2n
 clear g2n
 replace o2 := slO_turn tCond_law o2 hw (fun b h1 h2 => by first | (have := h1.1; omega) | (have := q2 b h1; omega))
 replace o3 := slO_turn tInt_law o3 hw (fun b h1 h2 => by first | (have := h1.1; omega) | (have := q3 b h1; omega))
 replace o5 := slO_turn tInt_law o5 hw (fun b h1 h2 => by first | (have := h1.1; omega) | (have := q5 b h1; omega))
 replace hb := below_turn hb hw (fun b h => by omega) (by omega)
 have hz1 := hw.size
 clear hw
 generalize ((((w2.setCell ⟨w.heap.size + 1 + 1, 5, none⟩ (.slice ua5 x5.length uc5)).setCell ⟨w.heap.size + 1 + 1, 6, none⟩ (.int .i64 a6)).setCell ⟨w.heap.size + 1 + 1, 7, none⟩ (.int .i64 a7)).setCell ⟨w.heap.size + 1 + 1, 8, none⟩ (.int .i64 a8)) = W2 at *
 refine (toRowS_S v9 x9 W2 (slR_below tRow_law H9.out hb) S9.out).mono ?_
 rintro e w3 ⟨u9, rfl, o9, b1⟩
 obtain ⟨ua9, uc9, rfl⟩ := slO_len o9
 replace o9 := slO_mono (slO_lt tRow_law o9) (F' := fun b => W2.heap.size ≤ b ∧ b < w3.heap.size) (fun b h => h)
 replace g0 := (b1.block _ (by omega)).trans g0
 replace g1 := (b1.block _ (by omega)).trans g1
 replace g2 := (b1.block _ (by omega)).trans g2
 replace o2 := slO_fresh tCond_law o2 b1
 replace o3 := slO_fresh tInt_law o3 b1
 replace o5 := slO_fresh tInt_law o5 b1
 have zz3 := b1.size
 replace hb := hb.trans (b1.mono (by omega))
 clear b1
 have c2_0 := (cell_of_row w3 _ 0 _ _ _ g2).trans (show _ = some (Value.int .i64 a0) from rfl)
 have f2_0 := frozen_of_row w3 _ 0 _ _ g2
 have c2_1 := (cell_of_row w3 _ 1 _ _ _ g2).trans (show _ = some (Value.int .i64 a1) from rfl)
 have f2_1 := frozen_of_row w3 _ 1 _ _ g2
 have c2_2 := (cell_of_row w3 _ 2 _ _ _ g2).trans (show _ = some (Value.slice ua2 x2.length uc2) from rfl)
 have f2_2 := frozen_of_row w3 _ 2 _ _ g2
 have c2_3 := (cell_of_row w3 _ 3 _ _ _ g2).trans (show _ = some (Value.slice ua3 x3.length uc3) from rfl)
 have f2_3 := frozen_of_row w3 _ 3 _ _ g2
 have c2_4 := (cell_of_row w3 _ 4 _ _ _ g2).trans (show _ = some (Value.int .i64 a4) from rfl)
 have f2_4 := frozen_of_row w3 _ 4 _ _ g2
 have c2_5 := (cell_of_row w3 _ 5 _ _ _ g2).trans (show _ = some (Value.slice ua5 x5.length uc5) from rfl)
 have f2_5 := frozen_of_row w3 _ 5 _ _ g2
 have c2_6 := (cell_of_row w3 _ 6 _ _ _ g2).trans (show _ = some (Value.int .i64 a6) from rfl)
 have f2_6 := frozen_of_row w3 _ 6 _ _ g2
 have c2_7 := (cell_of_row w3 _ 7 _ _ _ g2).trans (show _ = some (Value.int .i64 a7) from rfl)
 have f2_7 := frozen_of_row w3 _ 7 _ _ g2
 have c2_8 := (cell_of_row w3 _ 8 _ _ _ g2).trans (show _ = some (Value.int .i64 a8) from rfl)
 have f2_8 := frozen_of_row w3 _ 8 _ _ g2
 have c2_9 := (cell_of_row w3 _ 9 _ _ _ g2).trans (show _ = some (Value.slice none 0 0) from rfl)
 have f2_9 := frozen_of_row w3 _ 9 _ _ g2
 have ne1 : ¬ w.heap.size = w.heap.size + 1 + 1 := by omega
 have ne2 : ¬ w.heap.size + 1 = w.heap.size + 1 + 1 := by omega
 have ne3 : ¬ w.heap.size + 1 + 1 = w.heap.size + 1 := by omega
 have c1_0 := (cell_of_row w3 _ 0 _ _ _ g1).trans (show _ = some (Value.int .i64 0) from rfl)
 have f1_0 := frozen_of_row w3 _ 0 _ _ g1
 have c1_1 := (cell_of_row w3 _ 1 _ _ _ g1).trans (show _ = some (Value.int .i64 0) from rfl)
 have f1_1 := frozen_of_row w3 _ 1 _ _ g1
 have c1_2 := (cell_of_row w3 _ 2 _ _ _ g1).trans (show _ = some (Value.slice none 0 0) from rfl)
 have f1_2 := frozen_of_row w3 _ 2 _ _ g1
 have c1_3 := (cell_of_row w3 _ 3 _ _ _ g1).trans (show _ = some (Value.slice none 0 0) from rfl)
 have f1_3 := frozen_of_row w3 _ 3 _ _ g1
 have c1_4 := (cell_of_row w3 _ 4 _ _ _ g1).trans (show _ = some (Value.int .i64 0) from rfl)
 have f1_4 := frozen_of_row w3 _ 4 _ _ g1
 have c1_5 := (cell_of_row w3 _ 5 _ _ _ g1).trans (show _ = some (Value.slice none 0 0) from rfl)
 have f1_5 := frozen_of_row w3 _ 5 _ _ g1
 have c1_6 := (cell_of_row w3 _ 6 _ _ _ g1).trans (show _ = some (Value.int .i64 0) from rfl)
 have f1_6 := frozen_of_row w3 _ 6 _ _ g1
 have c1_7 := (cell_of_row w3 _ 7 _ _ _ g1).trans (show _ = some (Value.int .i64 0) from rfl)
 have f1_7 := frozen_of_row w3 _ 7 _ _ g1
 have c1_8 := (cell_of_row w3 _ 8 _ _ _ g1).trans (show _ = some (Value.int .i64 0) from rfl)
 have f1_8 := frozen_of_row w3 _ 8 _ _ g1
 have c1_9 := (cell_of_row w3 _ 9 _ _ _ g1).trans (show _ = some (Value.slice none 0 0) from rfl)
 have f1_9 := frozen_of_row w3 _ 9 _ _ g1
 go_wp2
 clear c2_0 f2_0 c2_1 f2_1 c2_2 f2_2 c2_3 f2_3 c2_4 f2_4 c2_5 f2_5 c2_6 f2_6 c2_7 f2_7 c2_8 f2_8 c2_9 f2_9 ne1 ne2 ne3 c1_0 f1_0 c1_1 f1_1 c1_2 f1_2 c1_3 f1_3 c1_4 f1_4 c1_5 f1_5 c1_6 f1_6 c1_7 f1_7 c1_8 f1_8 c1_9 f1_9
 have hw : Turn (fun b => b = w.heap.size + 1 ∨ b = w.heap.size + 1 + 1) w3 (((((((((((w3.setCell ⟨w.heap.size + 1 + 1, 9, none⟩ (.slice ua9 x9.length uc9)).setCell ⟨w.heap.size + 1, 0, none⟩ (.int .i64 a0)).setCell ⟨w.heap.size + 1, 1, none⟩ (.int .i64 a1)).setCell ⟨w.heap.size + 1, 2, none⟩ (.slice ua2 x2.length uc2)).setCell ⟨w.heap.size + 1, 3, none⟩ (.slice ua3 x3.length uc3)).setCell ⟨w.heap.size + 1, 4, none⟩ (.int .i64 a4)).setCell ⟨w.heap.size + 1, 5, none⟩ (.slice ua5 x5.length uc5)).setCell ⟨w.heap.size + 1, 6, none⟩ (.int .i64 a6)).setCell ⟨w.heap.size + 1, 7, none⟩ (.int .i64 a7)).setCell ⟨w.heap.size + 1, 8, none⟩ (.int .i64 a8)).setCell ⟨w.heap.size + 1, 9, none⟩ (.slice ua9 x9.length uc9)) := by
  first | exact ((((((((((((Turn.refl _ _).trans (turn_set (g := w.heap.size + 1 + 1) (j := 9) (u := .slice ua9 x9.length uc9) (Or.inr rfl))).trans (turn_set (g := w.heap.size + 1) (j := 0) (u := .int .i64 a0) (Or.inl rfl))).trans (turn_set (g := w.heap.size + 1) (j := 1) (u := .int .i64 a1) (Or.inl rfl))).trans (turn_set (g := w.heap.size + 1) (j := 2) (u := .slice ua2 x2.length uc2) (Or.inl rfl))).trans (turn_set (g := w.heap.size + 1) (j := 3) (u := .slice ua3 x3.length uc3) (Or.inl rfl))).trans (turn_set (g := w.heap.size + 1) (j := 4) (u := .int .i64 a4) (Or.inl rfl))).trans (turn_set (g := w.heap.size + 1) (j := 5) (u := .slice ua5 x5.length uc5) (Or.inl rfl))).trans (turn_set (g := w.heap.size + 1) (j := 6) (u := .int .i64 a6) (Or.inl rfl))).trans (turn_set (g := w.heap.size + 1) (j := 7) (u := .int .i64 a7) (Or.inl rfl))).trans (turn_set (g := w.heap.size + 1) (j := 8) (u := .int .i64 a8) (Or.inl rfl))).trans (turn_set (g := w.heap.size + 1) (j := 9) (u := .slice ua9 x9.length uc9) (Or.inl rfl))) | skip
 have r := (heap_setCell_same _ (w.heap.size + 1) 9 _ _ (.slice ua9 x9.length uc9) (heap_setCell_same _ (w.heap.size + 1) 8 _ _ (.int .i64 a8) (heap_setCell_same _ (w.heap.size + 1) 7 _ _ (.int .i64 a7) (heap_setCell_same _ (w.heap.size + 1) 6 _ _ (.int .i64 a6) (heap_setCell_same _ (w.heap.size + 1) 5 _ _ (.slice ua5 x5.length uc5) (heap_setCell_same _ (w.heap.size + 1) 4 _ _ (.int .i64 a4) (heap_setCell_same _ (w.heap.size + 1) 3 _ _ (.slice ua3 x3.length uc3) (heap_setCell_same _ (w.heap.size + 1) 2 _ _ (.slice ua2 x2.length uc2) (heap_setCell_same _ (w.heap.size + 1) 1 _ _ (.int .i64 a1) (heap_setCell_same _ (w.heap.size + 1) 0 _ _ (.int .i64 a0) ((heap_setCell_other _ ⟨w.heap.size + 1 + 1, 9, none⟩ (w.heap.size + 1) (.slice ua9 x9.length uc9) (by simp)).trans g1)))))))))))
 have e0 := cell_of_row _ _ 0 _ _ _ r
 have e1 := cell_of_row _ _ 1 _ _ _ r
 have e2 := cell_of_row _ _ 2 _ _ _ r
 have e3 := cell_of_row _ _ 3 _ _ _ r
 have e4 := cell_of_row _ _ 4 _ _ _ r
 have e5 := cell_of_row _ _ 5 _ _ _ r
 have e6 := cell_of_row _ _ 6 _ _ _ r
 have e7 := cell_of_row _ _ 7 _ _ _ r
 have e8 := cell_of_row _ _ 8 _ _ _ r
 have e9 := cell_of_row _ _ 9 _ _ _ r
 simp at e0 e1 e2 e3 e4 e5 e6 e7 e8 e9
 replace o2 := slO_turn tCond_law o2 hw (fun b h1 h2 => by first | (have := h1.1; omega) | (have := q2 b h1; omega))
 replace o3 := slO_turn tInt_law o3 hw (fun b h1 h2 => by first | (have := h1.1; omega) | (have := q3 b h1; omega))
 replace o5 := slO_turn tInt_law o5 hw (fun b h1 h2 => by first | (have := h1.1; omega) | (have := q5 b h1; omega))
 replace o9 := slO_turn tRow_law o9 hw (fun b h1 h2 => by first | (have := h1.1; omega) | (have := q9 b h1; omega))
 replace hb := below_turn hb hw (fun b h => by omega) (by omega)
 refine bodyPost_ret (v := .agg #[.int .i64 a0, .int .i64 a1, .slice ua2 x2.length uc2, .slice ua3 x3.length uc3, .int .i64 a4, .slice ua5 x5.length uc5, .int .i64 a6, .int .i64 a7, .int .i64 a8, .slice ua9 x9.length uc9]) ?_ rfl ?_
 ·
  simp [results, Try.f106, go_sem, e0, e1, e2, e3, e4, e5, e6, e7, e8, e9]
 ·
  exact ⟨[.int .i64 a0, .int .i64 a1, .slice ua2 x2.length uc2, .slice ua3 x3.length uc3, .int .i64 a4, .slice ua5 x5.length uc5, .int .i64 a6, .int .i64 a7, .int .i64 a8, .slice ua9 x9.length uc9], rfl, tActive_mkO o2 o3 o5 o9 (fun b h => by show w.heap.size ≤ b; first | (have := h.1; omega) | (have := q2 b h; omega)) (fun b h => by show w.heap.size ≤ b; first | (have := h.1; omega) | (have := q3 b h; omega)) (fun b h => by show w.heap.size ≤ b; first | (have := h.1; omega) | (have := q5 b h; omega)) (fun b h => by show w.heap.size ≤ b; first | (have := h.1; omega) | (have := q9 b h; omega)) (fun b h1 h2 => by first | exact d2_3 b h1 h2 | (have := h1.1; have := h1.2; have := h2.1; have := h2.2; omega) | (have := q2 b h1; have := h2.1; have := h2.2; omega) | (have := h1.1; have := h1.2; have := q3 b h2; omega) | (have := q2 b h1; have := q3 b h2; omega)) (fun b h1 h2 => by first | exact d2_5 b h1 h2 | (have := h1.1; have := h1.2; have := h2.1; have := h2.2; omega) | (have := q2 b h1; have := h2.1; have := h2.2; omega) | (have := h1.1; have := h1.2; have := q5 b h2; omega) | (have := q2 b h1; have := q5 b h2; omega)) (fun b h1 h2 => by first | exact d2_9 b h1 h2 | (have := h1.1; have := h1.2; have := h2.1; have := h2.2; omega) | (have := q2 b h1; have := h2.1; have := h2.2; omega) | (have := h1.1; have := h1.2; have := q9 b h2; omega) | (have := q2 b h1; have := q9 b h2; omega)) (fun b h1 h2 => by first | exact d3_5 b h1 h2 | (have := h1.1; have := h1.2; have := h2.1; have := h2.2; omega) | (have := q3 b h1; have := h2.1; have := h2.2; omega) | (have := h1.1; have := h1.2; have := q5 b h2; omega) | (have := q3 b h1; have := q5 b h2; omega)) (fun b h1 h2 => by first | exact d3_9 b h1 h2 | (have := h1.1; have := h1.2; have := h2.1; have := h2.2; omega) | (have := q3 b h1; have := h2.1; have := h2.2; omega) | (have := h1.1; have := h1.2; have := q9 b h2; omega) | (have := q3 b h1; have := q9 b h2; omega)) (fun b h1 h2 => by first | exact d5_9 b h1 h2 | (have := h1.1; have := h1.2; have := h2.1; have := h2.2; omega) | (have := q5 b h1; have := h2.1; have := h2.2; omega) | (have := h1.1; have := h1.2; have := q9 b h2; omega) | (have := q5 b h1; have := q9 b h2; omega)), hb⟩
set_option maxHeartbeats 8000000 in
set_option maxRecDepth 100000 in
theorem eqActive_T (a0 a1 a4 a6 a7 a8 : Int) (v2 v3 v5 v9 : Value) (x2 : List (Int × Int × Int)) (x3 : List Int) (x5 : List Int) (x9 : List (Int × List Int)) (u2 u3 u5 u9 : Value) (w : World) (h2 : SlR tCond w v2 x2) (h3 : SlR tInt w v3 x3) (h5 : SlR tInt w v5 x5) (h9 : SlR tRow w v9 x9) (g2 : SlR tCond w u2 x2) (g3 : SlR tInt w u3 x3) (g5 : SlR tInt w u5 x5) (g9 : SlR tRow w u9 x9) (s2 : zL tCond x2 ≤ 1048576) (s3 : zL tInt x3 ≤ 1048576) (s5 : zL tInt x5 ≤ 1048576) (s9 : zL tRow x9 ≤ 1048576) :
  Calls Try.prog 97 #[.agg #[.int .i64 a0, .int .i64 a1, v2, v3, .int .i64 a4, v5, .int .i64 a6, .int .i64 a7, .int .i64 a8, v9], .agg #[.int .i64 a0, .int .i64 a1, u2, u3, .int .i64 a4, u5, .int .i64 a6, .int .i64 a7, .int .i64 a8, u9]] w fun e w' => e = .returned (.bool true) ∧ Below w.heap.size w w' := by
 have H2 := Lib.hid h2; have G2 := Lib.hid g2; have S2 := Lib.hid s2
 have H3 := Lib.hid h3; have G3 := Lib.hid g3; have S3 := Lib.hid s3
 have H5 := Lib.hid h5; have G5 := Lib.hid g5; have S5 := Lib.hid s5
 have H9 := Lib.hid h9; have G9 := Lib.hid g9; have S9 := Lib.hid s9
 clear h2 g2 s2 h3 g3 s3 h5 g5 s5 h9 g9 s9
 have e0 : (a0 != a0) = false := by simp
 have e1 : (a1 != a1) = false := by simp
 have e4 : (a4 != a4) = false := by simp
 have e6 : (a6 != a6) = false := by simp
 have e7 : (a7 != a7) = false := by simp
 have e8 : (a8 != a8) = false := by simp
 go_enter Try.func97, Try.ntmps97
 go_wp2_with fail
 have hb : Below w.heap.size w ((w.alloc (.cells #[.int .i64 a0, .int .i64 a1, v2, v3, .int .i64 a4, v5, .int .i64 a6, .int .i64 a7, .int .i64 a8, v9] 92)).alloc (.cells #[.int .i64 a0, .int .i64 a1, u2, u3, .int .i64 a4, u5, .int .i64 a6, .int .i64 a7, .int .i64 a8, u9] 92)) := ((Below.refl _ w).alloc (Nat.le_refl _) _).alloc (by simp) _
 have g1 : ((w.alloc (.cells #[.int .i64 a0, .int .i64 a1, v2, v3, .int .i64 a4, v5, .int .i64 a6, .int .i64 a7, .int .i64 a8, v9] 92)).alloc (.cells #[.int .i64 a0, .int .i64 a1, u2, u3, .int .i64 a4, u5, .int .i64 a6, .int .i64 a7, .int .i64 a8, u9] 92)).heap[w.heap.size + 1]? = some (.cells #[.int .i64 a0, .int .i64 a1, u2, u3, .int .i64 a4, u5, .int .i64 a6, .int .i64 a7, .int .i64 a8, u9] 92 (0, 0)) := by
  have := heap_alloc_new (w.alloc (.cells #[.int .i64 a0, .int .i64 a1, v2, v3, .int .i64 a4, v5, .int .i64 a6, .int .i64 a7, .int .i64 a8, v9] 92)) (.cells #[.int .i64 a0, .int .i64 a1, u2, u3, .int .i64 a4, u5, .int .i64 a6, .int .i64 a7, .int .i64 a8, u9] 92)
  simpa only [World.size_alloc] using this
 have g0 : ((w.alloc (.cells #[.int .i64 a0, .int .i64 a1, v2, v3, .int .i64 a4, v5, .int .i64 a6, .int .i64 a7, .int .i64 a8, v9] 92)).alloc (.cells #[.int .i64 a0, .int .i64 a1, u2, u3, .int .i64 a4, u5, .int .i64 a6, .int .i64 a7, .int .i64 a8, u9] 92)).heap[w.heap.size]? = some (.cells #[.int .i64 a0, .int .i64 a1, v2, v3, .int .i64 a4, v5, .int .i64 a6, .int .i64 a7, .int .i64 a8, v9] 92 (0, 0)) := by
  rw [Below.heap_alloc _ _ _ (by simp)]
  exact heap_alloc_new w _
 have hz : w.heap.size + 1 < ((w.alloc (.cells #[.int .i64 a0, .int .i64 a1, v2, v3, .int .i64 a4, v5, .int .i64 a6, .int .i64 a7, .int .i64 a8, v9] 92)).alloc (.cells #[.int .i64 a0, .int .i64 a1, u2, u3, .int .i64 a4, u5, .int .i64 a6, .int .i64 a7, .int .i64 a8, u9] 92)).heap.size := by simp [World.size_alloc]
 generalize ((w.alloc (.cells #[.int .i64 a0, .int .i64 a1, v2, v3, .int .i64 a4, v5, .int .i64 a6, .int .i64 a7, .int .i64 a8, v9] 92)).alloc (.cells #[.int .i64 a0, .int .i64 a1, u2, u3, .int .i64 a4, u5, .int .i64 a6, .int .i64 a7, .int .i64 a8, u9] 92)) = W at *
 refine (eqQuery_T a0 a1 v2 v3 x2 x3 u2 u3 W (slR_below tCond_law H2.out hb) (slR_below tInt_law H3.out hb) (slR_below tCond_law G2.out hb) (slR_below tInt_law G3.out hb) S2.out S3.out).mono ?_
 rintro e w1 ⟨rfl, b1⟩
 replace g0 := (b1.block _ (by omega)).trans g0
 replace g1 := (b1.block _ (by omega)).trans g1
 have zz0 := b1.size
 replace hb := hb.trans (b1.mono (by omega))
 clear b1
 have p0_4 := (cell_of_row w1 _ 4 _ _ _ g0).trans (show _ = some (Value.int .i64 a4) from rfl)
 have p1_4 := (cell_of_row w1 _ 4 _ _ _ g1).trans (show _ = some (Value.int .i64 a4) from rfl)
 have p0_5 := (cell_of_row w1 _ 5 _ _ _ g0).trans (show _ = some (v5) from rfl)
 have p1_5 := (cell_of_row w1 _ 5 _ _ _ g1).trans (show _ = some (u5) from rfl)
 go_wp2_with fail
 clear p0_4 p1_4 p0_5 p1_5
 refine (eqIntS_S v5 u5 x5 w1 (slR_below tInt_law H5.out hb) (slR_below tInt_law G5.out hb) S5.out).mono ?_
 rintro e w2 ⟨rfl, b1⟩
 replace g0 := (b1.block _ (by omega)).trans g0
 replace g1 := (b1.block _ (by omega)).trans g1
 have zz1 := b1.size
 replace hb := hb.trans (b1.mono (by omega))
 clear b1
 have p0_6 := (cell_of_row w2 _ 6 _ _ _ g0).trans (show _ = some (Value.int .i64 a6) from rfl)
 have p1_6 := (cell_of_row w2 _ 6 _ _ _ g1).trans (show _ = some (Value.int .i64 a6) from rfl)
 have p0_7 := (cell_of_row w2 _ 7 _ _ _ g0).trans (show _ = some (Value.int .i64 a7) from rfl)
 have p1_7 := (cell_of_row w2 _ 7 _ _ _ g1).trans (show _ = some (Value.int .i64 a7) from rfl)
 have p0_8 := (cell_of_row w2 _ 8 _ _ _ g0).trans (show _ = some (Value.int .i64 a8) from rfl)
 have p1_8 := (cell_of_row w2 _ 8 _ _ _ g1).trans (show _ = some (Value.int .i64 a8) from rfl)
 have p0_9 := (cell_of_row w2 _ 9 _ _ _ g0).trans (show _ = some (v9) from rfl)
 have p1_9 := (cell_of_row w2 _ 9 _ _ _ g1).trans (show _ = some (u9) from rfl)
 go_wp2_with fail
 clear p0_6 p1_6 p0_7 p1_7 p0_8 p1_8 p0_9 p1_9
 refine (eqRowS_S v9 u9 x9 w2 (slR_below tRow_law H9.out hb) (slR_below tRow_law G9.out hb) S9.out).mono ?_
 rintro e w3 ⟨rfl, b1⟩
 replace g0 := (b1.block _ (by omega)).trans g0
 replace g1 := (b1.block _ (by omega)).trans g1
 have zz2 := b1.size
 replace hb := hb.trans (b1.mono (by omega))
 clear b1
 go_wp2
 go_ret
 exact ⟨rfl, hb⟩
end Go.Proofs.Ytdhglmoanpkeoaa
