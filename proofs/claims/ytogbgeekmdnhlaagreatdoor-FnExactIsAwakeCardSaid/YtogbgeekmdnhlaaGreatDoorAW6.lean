/-
 Texts of the proof, merged: TFinishedS, TCharge, TChargeS.
-/
import Derived.Test.YtogbgeekmdnhlaaGreatDoorAW1
import Derived.Test.YtogbgeekmdnhlaaGreatDoorAW4
import Derived.BigQuiet
import Derived.Deep.QuietTactic
import Derived.Deep.RegionHeld3
namespace Go.Proofs.YtogbgeekmdnhlaaGreatDoor
open Go.RowKit
set_option maxRecDepth 100000
set_option linter.unusedVariables false
set_option linter.unusedSimpArgs false
abbrev tFinishedS : Ty (List ((Int × Int × List (Int × Int × Int) × List Int) × Int × Int × List (Int × List Int))) := tSl 54 tFinished
theorem tFinishedS_law : tFinishedS.Law := tSl_law tFinished_law (by decide)
set_option maxHeartbeats 8000000 in
theorem szFinishedS_Y (v : Value) (xs : List ((Int × Int × List (Int × Int × Int) × List Int) × Int × Int × List (Int × List Int))) (k0 : Int) (w : World) (h : SlR tFinished w v xs) (hs : ((zL tFinished xs : Nat) : Int) ≤ k0) (hk : k0 ≤ 1048576) :
  Calls Tryz.prog 52 #[v, .int .i64 k0] w fun e w' => e = .returned (.int .i64 (k0 - ((zL tFinished xs : Nat) : Int))) ∧ Below w.heap.size w w' := by
 have H := hd h
 obtain ⟨a, cap, rfl⟩ := slR_len h
 clear h
 have h00 := zTo_le (T := tFinished) (xs := xs) (Nat.zero_le _)
 rw [zTo_zero] at h00
 have HS := hd hs
 go_enter Tryz.func52, Tryz.ntmps52
 have hneg : ¬ k0 - (xs.length : Int) < 0 := by omega
 go_wp2
 clear hneg
 go_loopw [1, 5] (fun l i wr => ∃ k : Nat, k ≤ xs.length ∧ i = .int .i64 k ∧ l = .int .i64 (k0 - (zTo tFinished xs k : Int)) ∧ Below w.heap.size w wr) (fun _ i _ => xs.length - (intOf i).toNat)
 case atStart => exact ⟨0, Nat.zero_le _, rfl, by rw [zTo_zero], Below.refl _ _⟩
 case round =>
  obtain ⟨k, hk', rfl, rfl, hbel⟩ := hrel
  by_cases hlt : k < xs.length
  ·
   have HST := hd (zTo_step (T := tFinished) hlt)
   have HLE := hd (zTo_le (T := tFinished) (xs := xs) (k := k + 1) (by omega))
   have i1 : (0 : Int) ≤ (k : Int) := by omega
   have i2 : (k : Int) < (xs.length : Int) := by omega
   obtain ⟨b, off, cap', cs, hv, hbl, hcs, hR⟩ := slR_at (slR_below tFinished_law H.out hbel) hlt
   simp only [Value.slice.injEq] at hv
   obtain ⟨rfl, _, rfl⟩ := hv
   generalize xs.getD k tFinished.d = x at *
   obtain ⟨⟨a0, a1, x2, x3⟩, a4, a5, x6⟩ := x
   obtain ⟨v2, v3, v6, hR'⟩ := tFinished_R hR
   obtain ⟨rfl, h2, h3, h6⟩ := hR'
   have p0 : wr.cell? ⟨b, off + k * 7, none⟩ = some (Value.int .i64 a0) := hcs 0 (by decide)
   have p1 : wr.cell? ⟨b, off + k * 7 + 1, none⟩ = some (Value.int .i64 a1) := hcs 1 (by decide)
   have p2 : wr.cell? ⟨b, off + k * 7 + 2, none⟩ = some (v2) := hcs 2 (by decide)
   have p3 : wr.cell? ⟨b, off + k * 7 + 3, none⟩ = some (v3) := hcs 3 (by decide)
   have p4 : wr.cell? ⟨b, off + k * 7 + 4, none⟩ = some (Value.int .i64 a4) := hcs 4 (by decide)
   have p5 : wr.cell? ⟨b, off + k * 7 + 5, none⟩ = some (Value.int .i64 a5) := hcs 5 (by decide)
   have p6 : wr.cell? ⟨b, off + k * 7 + 6, none⟩ = some (v6) := hcs 6 (by decide)
   clear hcs
   have HQ : Hid (tFinished.sz ((a0, a1, x2, x3), a4, a5, x6) = zL tCond x2 + zL tInt x3 + zL tRow x6) := hd tFinished_sz
   have hx1 : ((zL tCond x2 + zL tInt x3 + zL tRow x6 : Nat) : Int) ≤ k0 - (zTo tFinished xs k : Int) := by have := HST.out; have := HLE.out; have := HQ.out; omega
   have hx2 : k0 - (zTo tFinished xs k : Int) ≤ 1048576 := by omega
   have hneg : ¬ k0 - (zTo tFinished xs k : Int) - ((zL tCond x2 + zL tInt x3 + zL tRow x6 : Nat) : Int) < 0 := by omega
   have HC := hd (fun W b => szFinished_Y a0 a1 a4 a5 v2 v3 v6 x2 x3 x6 (k0 - (zTo tFinished xs k : Int)) W (slR_below tCond_law h2 b) (slR_below tInt_law h3 b) (slR_below tRow_law h6 b) hx1 hx2)
   go_wp2_with fail
   refine (HC.out _ (Below.refl _ _)).mono ?_
   rintro e w1 ⟨rfl, b1⟩
   have b2 := hbel.trans (b1.mono hbel.size)
   go_wp2
   go_roundw
   case rel => exact ⟨k + 1, by omega, by go_num, by rw [HST.out, HQ.out]; go_num, b2⟩
   case measure => simp [intOf]; omega
  ·
   obtain rfl : k = xs.length := by omega
   go_wp2
   go_ret
   exact ⟨rfl, hbel⟩
set_option maxHeartbeats 8000000 in
theorem szFinishedS_N (v : Value) (xs : List ((Int × Int × List (Int × Int × Int) × List Int) × Int × Int × List (Int × List Int))) (k0 : Int) (w : World) (h : SlR tFinished w v xs) (hs : k0 < ((zL tFinished xs : Nat) : Int)) (hk : k0 ≤ 1048576) (hp : 0 ≤ k0) (ho : tFinishedS.ok xs) :
  Calls Tryz.prog 52 #[v, .int .i64 k0] w fun e w' => e = .returned (.int .i64 (-1)) ∧ Below w.heap.size w w' := by
 have H := hd h
 have HX := hd ho.2
 have hn := ho.1
 have HS := hd hs
 obtain ⟨a, cap, rfl⟩ := slR_len h
 clear h ho hs
 by_cases h1 : k0 < (xs.length : Int)
 ·
  have hneg : k0 - (xs.length : Int) < 0 := by omega
  go_enter Tryz.func52, Tryz.ntmps52
  go_wp2
  go_ret
  exact ⟨rfl, Below.refl _ _⟩
 ·
  go_enter Tryz.func52, Tryz.ntmps52
  have hneg : ¬ k0 - (xs.length : Int) < 0 := by omega
  go_wp2
  clear hneg
  go_loopw [1, 5] (fun l i wr => ∃ k : Nat, k ≤ xs.length ∧ i = .int .i64 k ∧ l = .int .i64 (k0 - (zTo tFinished xs k : Int)) ∧ (zTo tFinished xs k : Int) ≤ k0 ∧ Below w.heap.size w wr) (fun _ i _ => xs.length - (intOf i).toNat)
  case atStart => exact ⟨0, Nat.zero_le _, rfl, by rw [zTo_zero], by rw [zTo_zero]; omega, Below.refl _ _⟩
  case round =>
   obtain ⟨k, hk', rfl, rfl, hle, hbel⟩ := hrel
   by_cases hlt : k < xs.length
   ·
    have HST := hd (zTo_step (T := tFinished) hlt)
    have hx := HX.out k hlt
    have i1 : (0 : Int) ≤ (k : Int) := by omega
    have i2 : (k : Int) < (xs.length : Int) := by omega
    obtain ⟨b, off, cap', cs, hv, hbl, hcs, hR⟩ := slR_at (slR_below tFinished_law H.out hbel) hlt
    simp only [Value.slice.injEq] at hv
    obtain ⟨rfl, _, rfl⟩ := hv
    generalize xs.getD k tFinished.d = x at *
    obtain ⟨⟨a0, a1, x2, x3⟩, a4, a5, x6⟩ := x
    obtain ⟨v2, v3, v6, hR'⟩ := tFinished_R hR
    obtain ⟨rfl, h2, h3, h6⟩ := hR'
    have p0 : wr.cell? ⟨b, off + k * 7, none⟩ = some (Value.int .i64 a0) := hcs 0 (by decide)
    have p1 : wr.cell? ⟨b, off + k * 7 + 1, none⟩ = some (Value.int .i64 a1) := hcs 1 (by decide)
    have p2 : wr.cell? ⟨b, off + k * 7 + 2, none⟩ = some (v2) := hcs 2 (by decide)
    have p3 : wr.cell? ⟨b, off + k * 7 + 3, none⟩ = some (v3) := hcs 3 (by decide)
    have p4 : wr.cell? ⟨b, off + k * 7 + 4, none⟩ = some (Value.int .i64 a4) := hcs 4 (by decide)
    have p5 : wr.cell? ⟨b, off + k * 7 + 5, none⟩ = some (Value.int .i64 a5) := hcs 5 (by decide)
    have p6 : wr.cell? ⟨b, off + k * 7 + 6, none⟩ = some (v6) := hcs 6 (by decide)
    clear hcs
    have HQ : Hid (tFinished.sz ((a0, a1, x2, x3), a4, a5, x6) = zL tCond x2 + zL tInt x3 + zL tRow x6) := hd tFinished_sz
    obtain ⟨⟨_, ⟨_, ⟨o2, o3⟩⟩⟩, ⟨_, ⟨_, o6⟩⟩⟩ := hx
    have hz0 : (0 : Int) ≤ (zTo tFinished xs k : Int) := by omega
    by_cases hg : ((zL tCond x2 + zL tInt x3 + zL tRow x6 : Nat) : Int) ≤ k0 - (zTo tFinished xs k : Int)
    ·
     have hx2 : k0 - (zTo tFinished xs k : Int) ≤ 1048576 := by omega
     have hneg : ¬ k0 - (zTo tFinished xs k : Int) - ((zL tCond x2 + zL tInt x3 + zL tRow x6 : Nat) : Int) < 0 := by omega
     have HC := hd (fun W b => szFinished_Y a0 a1 a4 a5 v2 v3 v6 x2 x3 x6 (k0 - (zTo tFinished xs k : Int)) W (slR_below tCond_law h2 b) (slR_below tInt_law h3 b) (slR_below tRow_law h6 b) hg hx2)
     go_wp2_with fail
     refine (HC.out _ (Below.refl _ _)).mono ?_
     rintro e w1 ⟨rfl, b1⟩
     have b2 := hbel.trans (b1.mono hbel.size)
     go_wp2
     go_roundw
     case rel => exact ⟨k + 1, by omega, by go_num, by rw [HST.out, HQ.out]; go_num, by rw [HST.out, HQ.out]; omega, b2⟩
     case measure => simp [intOf]; omega
    ·
     have hx1 : k0 - (zTo tFinished xs k : Int) < ((zL tCond x2 + zL tInt x3 + zL tRow x6 : Nat) : Int) := by omega
     have hx0 : 0 ≤ k0 - (zTo tFinished xs k : Int) := by omega
     have hx2 : k0 - (zTo tFinished xs k : Int) ≤ 1048576 := by omega
     have HC := hd (fun W b => szFinished_N a0 a1 a4 a5 v2 v3 v6 x2 x3 x6 (k0 - (zTo tFinished xs k : Int)) W (slR_below tCond_law h2 b) (slR_below tInt_law h3 b) (slR_below tRow_law h6 b) hx1 hx2 hx0 o2 o3 o6)
     clear hg
     go_wp2_with fail
     refine (HC.out _ (Below.refl _ _)).mono ?_
     rintro e w1 ⟨rfl, b1⟩
     have b2 := hbel.trans (b1.mono hbel.size)
     go_wp2
     go_ret
     exact ⟨rfl, b2⟩
   ·
    obtain rfl : k = xs.length := by omega
    exact absurd HS.out (by show ¬ k0 < ((zTo tFinished xs xs.length : Nat) : Int); omega)
theorem Tryz.info_Finished : (Tryz.prog.info? 54).map (fun i => (i.zero, i.size)) = some (some (.agg #[.int .i64 0, .int .i64 0, .slice none 0 0, .slice none 0 0, .int .i64 0, .int .i64 0, .slice none 0 0]), 7) := by kernel_rfl
theorem Tryz.bytes_Finished : ((Tryz.prog.info? 54).map (fun i => decide (i.bytes ≤ 512))) = some true := by kernel_rfl
theorem tFinished_zero (w : World) : tFinished.O w (fun _ => False) #[.int .i64 0, .int .i64 0, .slice none 0 0, .slice none 0 0, .int .i64 0, .int .i64 0, .slice none 0 0].toList tFinished.d := tFinished_mkO (slO_nil _ _ _ (fun _ => False)) (slO_nil _ _ _ (fun _ => False)) (slO_nil _ _ _ (fun _ => False)) (fun b h => h) (fun b h => h) (fun b h => h) (fun b h _ => h) (fun b h _ => h) (fun b h _ => h)
set_option maxHeartbeats 8000000 in
theorem toFinishedS_S (v : Value) (xs : List ((Int × Int × List (Int × Int × Int) × List Int) × Int × Int × List (Int × List Int))) (w : World) (h : SlR tFinished w v xs) (hs : zL tFinished xs ≤ 1048576) :
  Calls Tryz.prog 59 #[v] w (FreshS 54 tFinished w xs) := by
 obtain ⟨i0, hi, hz0, hz1⟩ : ∃ i0, Tryz.prog.info? 54 = some i0 ∧ i0.zero = some (.agg #[.int .i64 0, .int .i64 0, .slice none 0 0, .slice none 0 0, .int .i64 0, .int .i64 0, .slice none 0 0]) ∧ i0.size = 7 := by
  have h0 := Tryz.info_Finished
  cases q : Tryz.prog.info? 54 with
  | none => rw [q] at h0; simp at h0
  | some i => rw [q] at h0; simp only [Option.map_some, Option.some.injEq, Prod.mk.injEq] at h0; exact ⟨i, rfl, h0.1, h0.2⟩
 have hz2 : i0.bytes ≤ 512 := by
  have h0 := Tryz.bytes_Finished
  rw [hi] at h0
  simpa using h0
 have HI := hd hi; have HZ0 := hd hz0; have HZ1 := hd hz1; have HZ2 := hd hz2
 clear hi hz0 hz1 hz2
 have H := hd h
 have hlen := zL_len hs
 have HS := hd hs
 obtain ⟨a, cap, rfl⟩ := slR_len h
 clear h hs
 go_enter Tryz.func59, Tryz.ntmps59
 go_wp2_with (at_make; refine wpList_make_full _ rfl (.tmp 6) (.tmp 6) 37 rfl w.heap.size 54 i0 (.agg #[.int .i64 0, .int .i64 0, .slice none 0 0, .slice none 0 0, .int .i64 0, .int .i64 0, .slice none 0 0]) 7 Tryz.underlying37 HI.out HZ0.out HZ1.out _ _ _ _ xs.length rfl rfl rfl rfl (by have h9 := Nat.mul_le_mul HZ2.out hlen; have h8 := Nat.mul_le_mul hlen HZ2.out; omega) (by unfold maxLen; omega) (Nat.le_refl _) ?_)
 intro w1 hown0 hg0
 have hown1 : SlO 54 tFinished w1 (since w) (.slice (some ⟨w.heap.size, 0, none⟩) xs.length xs.length) (List.replicate xs.length tFinished.d) := slO_made (z := #[.int .i64 0, .int .i64 0, .slice none 0 0, .slice none 0 0, .int .i64 0, .int .i64 0, .slice none 0 0]) tFinished_law rfl (tFinished_zero w1) (Nat.le_refl _) hown0
 have hbel1 := (Below.refl w.heap.size w).grown hg0 (Nat.le_refl _) (fun k hk => by cases hk)
 clear hown0 hg0
 go_wp2
 go_loopw [4] (fun i wr => ∃ k : Nat, k ≤ xs.length ∧ i = .int .i64 k ∧ SlO 54 tFinished wr (since w) (.slice (some ⟨w.heap.size, 0, none⟩) xs.length xs.length) (xs.take k ++ List.replicate (xs.length - k) tFinished.d) ∧ Below w.heap.size w wr) (fun i _ => xs.length - (intOf i).toNat)
 case atStart => exact ⟨0, Nat.zero_le _, rfl, by simpa using hown1, hbel1⟩
 case round =>
  obtain ⟨k, hk, rfl, hown, hbel⟩ := hrel
  by_cases hlt : k < xs.length
  ·
   have HSET := hd (cTo_step (d := tFinished.d) hlt)
   have HKL : Hid (k < (xs.take k ++ List.replicate (xs.length - k) tFinished.d).length) := hd (by rw [cTo_len hk]; exact hlt)
   have HLL := hd (cTo_len (d := tFinished.d) hk)
   have i1 : (0 : Int) ≤ (k : Int) := by omega
   have i2 : (k : Int) < (xs.length : Int) := by omega
   have hzx := zL_at HS.out hlt
   obtain ⟨b, off, cap', cs, hv, hbl, hcs, hR⟩ := slR_at (slR_below tFinished_law H.out hbel) hlt
   simp only [Value.slice.injEq] at hv
   obtain ⟨rfl, _, rfl⟩ := hv
   obtain ⟨hme, hFg, hgl, cj, Fj, Lc, hrow, hLc, hO, hFj, hput⟩ := slO_open tFinished_law hown HKL.out
   clear hme
   clear hown1 hbel1
   generalize xs.getD k tFinished.d = x at *
   generalize xs.take k ++ List.replicate (xs.length - k) tFinished.d = ys at *
   obtain ⟨⟨a0, a1, x2, x3⟩, a4, a5, x6⟩ := x
   obtain ⟨v2, v3, v6, hR'⟩ := tFinished_R hR
   obtain ⟨rfl, h2, h3, h6⟩ := hR'
   have p0 : wr.cell? ⟨b, off + k * 7, none⟩ = some (Value.int .i64 a0) := hcs 0 (by decide)
   have p1 : wr.cell? ⟨b, off + k * 7 + 1, none⟩ = some (Value.int .i64 a1) := hcs 1 (by decide)
   have p2 : wr.cell? ⟨b, off + k * 7 + 2, none⟩ = some (v2) := hcs 2 (by decide)
   have p3 : wr.cell? ⟨b, off + k * 7 + 3, none⟩ = some (v3) := hcs 3 (by decide)
   have p4 : wr.cell? ⟨b, off + k * 7 + 4, none⟩ = some (Value.int .i64 a4) := hcs 4 (by decide)
   have p5 : wr.cell? ⟨b, off + k * 7 + 5, none⟩ = some (Value.int .i64 a5) := hcs 5 (by decide)
   have p6 : wr.cell? ⟨b, off + k * 7 + 6, none⟩ = some (v6) := hcs 6 (by decide)
   rw [tFinished_sz] at hzx
   have S2 := hd (show zL tCond x2 ≤ 1048576 by omega)
   have S3 := hd (show zL tInt x3 ≤ 1048576 by omega)
   have S6 := hd (show zL tRow x6 ≤ 1048576 by omega)
   have HC := hd (fun w g2 g3 g6 => toFinished_T a0 a1 a4 a5 v2 v3 v6 x2 x3 x6 w g2 g3 g6 S2.out S3.out S6.out)
   have G2 := hd h2
   have G3 := hd h3
   have G6 := hd h6
   clear hcs hzx h2 h3 h6
   go_wp2_with fail
   refine (HC.out _ G2.out G3.out G6.out).mono ?_
   rintro e w2 ⟨cv, rfl, ow, b2⟩
   replace ow := tFinished_law.lt ow
   have ow2 := ow
   obtain ⟨u2, u3, u6, K2, K3, K6, rfl, o2, o3, o6, _, _, _, _, _, _⟩ := tFinished_O ow2
   obtain ⟨ua2, uc2, rfl⟩ := slO_len o2
   obtain ⟨ua3, uc3, rfl⟩ := slO_len o3
   obtain ⟨ua6, uc6, rfl⟩ := slO_len o6
   clear o2 o3 o6
   have r0 := row_turn (G := fun _ => False) hrow (turn_below b2) (fun _ _ => not_false)
   rw [HLL.out] at r0
   have q0 : ∃ x, w2.cell? ⟨w.heap.size, k * 7, none⟩ = some x := zq r0 (k * 7) (by have := HKL.out; rw [HLL.out] at this; show _ < xs.length * 7; omega)
   obtain ⟨y0, q0⟩ := q0
   have f0 := World.ownsRow.frozenAt r0 (k * 7)
   have q1 : ∃ x, w2.cell? ⟨w.heap.size, k * 7 + 1, none⟩ = some x := zq r0 (k * 7 + 1) (by have := HKL.out; rw [HLL.out] at this; show _ < xs.length * 7; omega)
   obtain ⟨y1, q1⟩ := q1
   have f1 := World.ownsRow.frozenAt r0 (k * 7 + 1)
   have q2 : ∃ x, w2.cell? ⟨w.heap.size, k * 7 + 2, none⟩ = some x := zq r0 (k * 7 + 2) (by have := HKL.out; rw [HLL.out] at this; show _ < xs.length * 7; omega)
   obtain ⟨y2, q2⟩ := q2
   have f2 := World.ownsRow.frozenAt r0 (k * 7 + 2)
   have q3 : ∃ x, w2.cell? ⟨w.heap.size, k * 7 + 3, none⟩ = some x := zq r0 (k * 7 + 3) (by have := HKL.out; rw [HLL.out] at this; show _ < xs.length * 7; omega)
   obtain ⟨y3, q3⟩ := q3
   have f3 := World.ownsRow.frozenAt r0 (k * 7 + 3)
   have q4 : ∃ x, w2.cell? ⟨w.heap.size, k * 7 + 4, none⟩ = some x := zq r0 (k * 7 + 4) (by have := HKL.out; rw [HLL.out] at this; show _ < xs.length * 7; omega)
   obtain ⟨y4, q4⟩ := q4
   have f4 := World.ownsRow.frozenAt r0 (k * 7 + 4)
   have q5 : ∃ x, w2.cell? ⟨w.heap.size, k * 7 + 5, none⟩ = some x := zq r0 (k * 7 + 5) (by have := HKL.out; rw [HLL.out] at this; show _ < xs.length * 7; omega)
   obtain ⟨y5, q5⟩ := q5
   have f5 := World.ownsRow.frozenAt r0 (k * 7 + 5)
   have q6 : ∃ x, w2.cell? ⟨w.heap.size, k * 7 + 6, none⟩ = some x := zq r0 (k * 7 + 6) (by have := HKL.out; rw [HLL.out] at this; show _ < xs.length * 7; omega)
   obtain ⟨y6, q6⟩ := q6
   have f6 := World.ownsRow.frozenAt r0 (k * 7 + 6)
   have b3 := hbel.trans (b2.mono hbel.size)
   have B3 := hd (((((((b3.setCell (p := ⟨w.heap.size, k * 7, none⟩) (Nat.le_refl _) (.int .i64 a0)).setCell (p := ⟨w.heap.size, k * 7 + 1, none⟩) (Nat.le_refl _) (.int .i64 a1)).setCell (p := ⟨w.heap.size, k * 7 + 2, none⟩) (Nat.le_refl _) (.slice ua2 x2.length uc2)).setCell (p := ⟨w.heap.size, k * 7 + 3, none⟩) (Nat.le_refl _) (.slice ua3 x3.length uc3)).setCell (p := ⟨w.heap.size, k * 7 + 4, none⟩) (Nat.le_refl _) (.int .i64 a4)).setCell (p := ⟨w.heap.size, k * 7 + 5, none⟩) (Nat.le_refl _) (.int .i64 a5)).setCell (p := ⟨w.heap.size, k * 7 + 6, none⟩) (Nat.le_refl _) (.slice ua6 x6.length uc6))
   have hT : Turn (fun b => b = w.heap.size ∨ Fj b ∨ wr.heap.size ≤ b) wr (((((((w2.setCell ⟨w.heap.size, k * 7, none⟩ (.int .i64 a0)).setCell ⟨w.heap.size, k * 7 + 1, none⟩ (.int .i64 a1)).setCell ⟨w.heap.size, k * 7 + 2, none⟩ (.slice ua2 x2.length uc2)).setCell ⟨w.heap.size, k * 7 + 3, none⟩ (.slice ua3 x3.length uc3)).setCell ⟨w.heap.size, k * 7 + 4, none⟩ (.int .i64 a4)).setCell ⟨w.heap.size, k * 7 + 5, none⟩ (.int .i64 a5)).setCell ⟨w.heap.size, k * 7 + 6, none⟩ (.slice ua6 x6.length uc6)) := ((((((((turn_below b2).trans (turn_set (j := k * 7) (u := .int .i64 a0) (Or.inl rfl))).trans (turn_set (j := k * 7 + 1) (u := .int .i64 a1) (Or.inl rfl))).trans (turn_set (j := k * 7 + 2) (u := .slice ua2 x2.length uc2) (Or.inl rfl))).trans (turn_set (j := k * 7 + 3) (u := .slice ua3 x3.length uc3) (Or.inl rfl))).trans (turn_set (j := k * 7 + 4) (u := .int .i64 a4) (Or.inl rfl))).trans (turn_set (j := k * 7 + 5) (u := .int .i64 a5) (Or.inl rfl))).trans (turn_set (j := k * 7 + 6) (u := .slice ua6 x6.length uc6) (Or.inl rfl)))
   have hT2 : Turn (fun b => b = w.heap.size) w2 (((((((w2.setCell ⟨w.heap.size, k * 7, none⟩ (.int .i64 a0)).setCell ⟨w.heap.size, k * 7 + 1, none⟩ (.int .i64 a1)).setCell ⟨w.heap.size, k * 7 + 2, none⟩ (.slice ua2 x2.length uc2)).setCell ⟨w.heap.size, k * 7 + 3, none⟩ (.slice ua3 x3.length uc3)).setCell ⟨w.heap.size, k * 7 + 4, none⟩ (.int .i64 a4)).setCell ⟨w.heap.size, k * 7 + 5, none⟩ (.int .i64 a5)).setCell ⟨w.heap.size, k * 7 + 6, none⟩ (.slice ua6 x6.length uc6)) := ((((((((Turn.refl (fun b => b = w.heap.size) _).trans (turn_set (G := fun b => b = w.heap.size) (j := k * 7) (u := .int .i64 a0) rfl)).trans (turn_set (G := fun b => b = w.heap.size) (j := k * 7 + 1) (u := .int .i64 a1) rfl)).trans (turn_set (G := fun b => b = w.heap.size) (j := k * 7 + 2) (u := .slice ua2 x2.length uc2) rfl)).trans (turn_set (G := fun b => b = w.heap.size) (j := k * 7 + 3) (u := .slice ua3 x3.length uc3) rfl)).trans (turn_set (G := fun b => b = w.heap.size) (j := k * 7 + 4) (u := .int .i64 a4) rfl)).trans (turn_set (G := fun b => b = w.heap.size) (j := k * 7 + 5) (u := .int .i64 a5) rfl)).trans (turn_set (G := fun b => b = w.heap.size) (j := k * 7 + 6) (u := .slice ua6 x6.length uc6) rfl))
   have hO2 := tFinished_law.turn ow hT2 (fun b h1 h2 => by have := h1.1; simp only [since] at this; omega)
   have r9 := (World.ownsRow.stored (World.ownsRow.stored (World.ownsRow.stored (World.ownsRow.stored (World.ownsRow.stored (World.ownsRow.stored (World.ownsRow.stored r0 (k * 7) (.int .i64 a0)).1 (k * 7 + 1) (.int .i64 a1)).1 (k * 7 + 2) (.slice ua2 x2.length uc2)).1 (k * 7 + 3) (.slice ua3 x3.length uc3)).1 (k * 7 + 4) (.int .i64 a4)).1 (k * 7 + 5) (.int .i64 a5)).1 (k * 7 + 6) (.slice ua6 x6.length uc6)).1
   have hLl : Lc.length = xs.length * 7 := r0.1
   have hst := hd (hput (((((((w2.setCell ⟨w.heap.size, k * 7, none⟩ (.int .i64 a0)).setCell ⟨w.heap.size, k * 7 + 1, none⟩ (.int .i64 a1)).setCell ⟨w.heap.size, k * 7 + 2, none⟩ (.slice ua2 x2.length uc2)).setCell ⟨w.heap.size, k * 7 + 3, none⟩ (.slice ua3 x3.length uc3)).setCell ⟨w.heap.size, k * 7 + 4, none⟩ (.int .i64 a4)).setCell ⟨w.heap.size, k * 7 + 5, none⟩ (.int .i64 a5)).setCell ⟨w.heap.size, k * 7 + 6, none⟩ (.slice ua6 x6.length uc6)) (((((((Lc.set (k * 7) (.int .i64 a0)).set (k * 7 + 1) (.int .i64 a1)).set (k * 7 + 2) (.slice ua2 x2.length uc2)).set (k * 7 + 3) (.slice ua3 x3.length uc3)).set (k * 7 + 4) (.int .i64 a4)).set (k * 7 + 5) (.int .i64 a5)).set (k * 7 + 6) (.slice ua6 x6.length uc6)) [.int .i64 a0, .int .i64 a1, .slice ua2 x2.length uc2, .slice ua3 x3.length uc3, .int .i64 a4, .int .i64 a5, .slice ua6 x6.length uc6] _ ((a0, a1, x2, x3), a4, a5, x6) (by rw [HLL.out]; exact r9) (fun p hp => by have hp2 : p < k * 7 ∨ k * 7 + 7 ≤ p := hp; rw [List.getElem?_set_ne (by omega)]; rw [List.getElem?_set_ne (by omega)]; rw [List.getElem?_set_ne (by omega)]; rw [List.getElem?_set_ne (by omega)]; rw [List.getElem?_set_ne (by omega)]; rw [List.getElem?_set_ne (by omega)]; rw [List.getElem?_set_ne (by omega)]) (fun i hi => by have hi' : i < 7 := hi; match i, hi' with | 0, _ => (show ((((((((Lc.set (k * 7) (.int .i64 a0)).set (k * 7 + 1) (.int .i64 a1)).set (k * 7 + 2) (.slice ua2 x2.length uc2)).set (k * 7 + 3) (.slice ua3 x3.length uc3)).set (k * 7 + 4) (.int .i64 a4)).set (k * 7 + 5) (.int .i64 a5)).set (k * 7 + 6) (.slice ua6 x6.length uc6)))[k * 7]? = _; rw [List.getElem?_set_ne (by omega)]; rw [List.getElem?_set_ne (by omega)]; rw [List.getElem?_set_ne (by omega)]; rw [List.getElem?_set_ne (by omega)]; rw [List.getElem?_set_ne (by omega)]; rw [List.getElem?_set_ne (by omega)]; rw [List.getElem?_set_self (by first | omega | (simp only [List.length_set]; omega))]; rfl) | 1, _ => (show ((((((((Lc.set (k * 7) (.int .i64 a0)).set (k * 7 + 1) (.int .i64 a1)).set (k * 7 + 2) (.slice ua2 x2.length uc2)).set (k * 7 + 3) (.slice ua3 x3.length uc3)).set (k * 7 + 4) (.int .i64 a4)).set (k * 7 + 5) (.int .i64 a5)).set (k * 7 + 6) (.slice ua6 x6.length uc6)))[k * 7 + 1]? = _; rw [List.getElem?_set_ne (by omega)]; rw [List.getElem?_set_ne (by omega)]; rw [List.getElem?_set_ne (by omega)]; rw [List.getElem?_set_ne (by omega)]; rw [List.getElem?_set_ne (by omega)]; rw [List.getElem?_set_self (by first | omega | (simp only [List.length_set]; omega))]; rfl) | 2, _ => (show ((((((((Lc.set (k * 7) (.int .i64 a0)).set (k * 7 + 1) (.int .i64 a1)).set (k * 7 + 2) (.slice ua2 x2.length uc2)).set (k * 7 + 3) (.slice ua3 x3.length uc3)).set (k * 7 + 4) (.int .i64 a4)).set (k * 7 + 5) (.int .i64 a5)).set (k * 7 + 6) (.slice ua6 x6.length uc6)))[k * 7 + 2]? = _; rw [List.getElem?_set_ne (by omega)]; rw [List.getElem?_set_ne (by omega)]; rw [List.getElem?_set_ne (by omega)]; rw [List.getElem?_set_ne (by omega)]; rw [List.getElem?_set_self (by first | omega | (simp only [List.length_set]; omega))]; rfl) | 3, _ => (show ((((((((Lc.set (k * 7) (.int .i64 a0)).set (k * 7 + 1) (.int .i64 a1)).set (k * 7 + 2) (.slice ua2 x2.length uc2)).set (k * 7 + 3) (.slice ua3 x3.length uc3)).set (k * 7 + 4) (.int .i64 a4)).set (k * 7 + 5) (.int .i64 a5)).set (k * 7 + 6) (.slice ua6 x6.length uc6)))[k * 7 + 3]? = _; rw [List.getElem?_set_ne (by omega)]; rw [List.getElem?_set_ne (by omega)]; rw [List.getElem?_set_ne (by omega)]; rw [List.getElem?_set_self (by first | omega | (simp only [List.length_set]; omega))]; rfl) | 4, _ => (show ((((((((Lc.set (k * 7) (.int .i64 a0)).set (k * 7 + 1) (.int .i64 a1)).set (k * 7 + 2) (.slice ua2 x2.length uc2)).set (k * 7 + 3) (.slice ua3 x3.length uc3)).set (k * 7 + 4) (.int .i64 a4)).set (k * 7 + 5) (.int .i64 a5)).set (k * 7 + 6) (.slice ua6 x6.length uc6)))[k * 7 + 4]? = _; rw [List.getElem?_set_ne (by omega)]; rw [List.getElem?_set_ne (by omega)]; rw [List.getElem?_set_self (by first | omega | (simp only [List.length_set]; omega))]; rfl) | 5, _ => (show ((((((((Lc.set (k * 7) (.int .i64 a0)).set (k * 7 + 1) (.int .i64 a1)).set (k * 7 + 2) (.slice ua2 x2.length uc2)).set (k * 7 + 3) (.slice ua3 x3.length uc3)).set (k * 7 + 4) (.int .i64 a4)).set (k * 7 + 5) (.int .i64 a5)).set (k * 7 + 6) (.slice ua6 x6.length uc6)))[k * 7 + 5]? = _; rw [List.getElem?_set_ne (by omega)]; rw [List.getElem?_set_self (by first | omega | (simp only [List.length_set]; omega))]; rfl) | 6, _ => (show ((((((((Lc.set (k * 7) (.int .i64 a0)).set (k * 7 + 1) (.int .i64 a1)).set (k * 7 + 2) (.slice ua2 x2.length uc2)).set (k * 7 + 3) (.slice ua3 x3.length uc3)).set (k * 7 + 4) (.int .i64 a4)).set (k * 7 + 5) (.int .i64 a5)).set (k * 7 + 6) (.slice ua6 x6.length uc6)))[k * 7 + 6]? = _; rw [List.getElem?_set_self (by first | omega | (simp only [List.length_set]; omega))]; rfl)) hO2 (fun b hb => ⟨Nat.le_trans hbel.size hb.1, Or.inr hb.1⟩) hT)
   have hst2 : SlO 54 tFinished (((((((w2.setCell ⟨w.heap.size, k * 7, none⟩ (.int .i64 a0)).setCell ⟨w.heap.size, k * 7 + 1, none⟩ (.int .i64 a1)).setCell ⟨w.heap.size, k * 7 + 2, none⟩ (.slice ua2 x2.length uc2)).setCell ⟨w.heap.size, k * 7 + 3, none⟩ (.slice ua3 x3.length uc3)).setCell ⟨w.heap.size, k * 7 + 4, none⟩ (.int .i64 a4)).setCell ⟨w.heap.size, k * 7 + 5, none⟩ (.int .i64 a5)).setCell ⟨w.heap.size, k * 7 + 6, none⟩ (.slice ua6 x6.length uc6)) (since w) (.slice (some ⟨w.heap.size, 0, none⟩) xs.length xs.length) (xs.take (k + 1) ++ List.replicate (xs.length - (k + 1)) tFinished.d) := by have := hst.out; rw [HSET.out] at this; exact this
   have HST := hd hst2
   clear hst hst2 hT hT2 hO2 r9 r0 hrow hO hput hown hbel b2 ow b3 hLl hLc hFj
   go_wp2
   go_roundw
   case rel => exact ⟨k + 1, by omega, by go_num, HST.out, B3.out⟩
   case measure => simp [intOf]; omega
  ·
   obtain rfl : k = xs.length := by omega
   have HE : Hid (xs.take xs.length ++ List.replicate (xs.length - xs.length) tFinished.d = xs) := hd (by simp)
   rw [HE.out] at hown
   go_wp2
   go_ret
   exact ⟨_, rfl, hown, hbel⟩
set_option maxHeartbeats 8000000 in
theorem eqFinishedS_S (v u : Value) (xs : List ((Int × Int × List (Int × Int × Int) × List Int) × Int × Int × List (Int × List Int))) (w : World) (h : SlR tFinished w v xs) (g : SlR tFinished w u xs) (hs : zL tFinished xs ≤ 1048576) :
  Calls Tryz.prog 65 #[v, u] w fun e w' => e = .returned (.bool true) ∧ Below w.heap.size w w' := by
 have H := hd h
 have G := hd g
 have HS := hd hs
 have hlen := zL_len hs
 obtain ⟨a, cap, rfl⟩ := slR_len h
 obtain ⟨a2, cap2, rfl⟩ := slR_len g
 clear h g hs
 go_enter Tryz.func65, Tryz.ntmps65
 go_wp2
 go_loopw [5] (fun i wr => ∃ k : Nat, k ≤ xs.length ∧ i = .int .i64 k ∧ Below w.heap.size w wr) (fun i _ => xs.length - (intOf i).toNat)
 case atStart => exact ⟨0, Nat.zero_le _, rfl, Below.refl _ _⟩
 case round =>
  obtain ⟨k, hk, rfl, hbel⟩ := hrel
  by_cases hlt : k < xs.length
  ·
   obtain ⟨b, off, cap', cs, hv, hbl, hcs, hR⟩ := slR_at (slR_below tFinished_law H.out hbel) hlt
   simp only [Value.slice.injEq] at hv
   obtain ⟨rfl, _, rfl⟩ := hv
   obtain ⟨b2, off2, cap2', ds, hv2, hbl2, hds, hQ⟩ := slR_at (slR_below tFinished_law G.out hbel) hlt
   simp only [Value.slice.injEq] at hv2
   obtain ⟨rfl, _, rfl⟩ := hv2
   have hzx := zL_at HS.out hlt
   have i1 : (0 : Int) ≤ (k : Int) := by omega
   have i2 : (k : Int) < (xs.length : Int) := by omega
   generalize xs.getD k tFinished.d = x at *
   obtain ⟨⟨a0, a1, x2, x3⟩, a4, a5, x6⟩ := x
   obtain ⟨v2, v3, v6, hR'⟩ := tFinished_R hR
   obtain ⟨rfl, h2, h3, h6⟩ := hR'
   obtain ⟨u2, u3, u6, hQ'⟩ := tFinished_R hQ
   obtain ⟨rfl, g2, g3, g6⟩ := hQ'
   rw [tFinished_sz] at hzx
   have S2 := hd (show zL tCond x2 ≤ 1048576 by omega)
   have S3 := hd (show zL tInt x3 ≤ 1048576 by omega)
   have S6 := hd (show zL tRow x6 ≤ 1048576 by omega)
   have p0 : wr.cell? ⟨b, off + k * 7, none⟩ = some (Value.int .i64 a0) := hcs 0 (by decide)
   have q0 : wr.cell? ⟨b2, off2 + k * 7, none⟩ = some (Value.int .i64 a0) := hds 0 (by decide)
   have p1 : wr.cell? ⟨b, off + k * 7 + 1, none⟩ = some (Value.int .i64 a1) := hcs 1 (by decide)
   have q1 : wr.cell? ⟨b2, off2 + k * 7 + 1, none⟩ = some (Value.int .i64 a1) := hds 1 (by decide)
   have p2 : wr.cell? ⟨b, off + k * 7 + 2, none⟩ = some (v2) := hcs 2 (by decide)
   have q2 : wr.cell? ⟨b2, off2 + k * 7 + 2, none⟩ = some (u2) := hds 2 (by decide)
   have p3 : wr.cell? ⟨b, off + k * 7 + 3, none⟩ = some (v3) := hcs 3 (by decide)
   have q3 : wr.cell? ⟨b2, off2 + k * 7 + 3, none⟩ = some (u3) := hds 3 (by decide)
   have p4 : wr.cell? ⟨b, off + k * 7 + 4, none⟩ = some (Value.int .i64 a4) := hcs 4 (by decide)
   have q4 : wr.cell? ⟨b2, off2 + k * 7 + 4, none⟩ = some (Value.int .i64 a4) := hds 4 (by decide)
   have p5 : wr.cell? ⟨b, off + k * 7 + 5, none⟩ = some (Value.int .i64 a5) := hcs 5 (by decide)
   have q5 : wr.cell? ⟨b2, off2 + k * 7 + 5, none⟩ = some (Value.int .i64 a5) := hds 5 (by decide)
   have p6 : wr.cell? ⟨b, off + k * 7 + 6, none⟩ = some (v6) := hcs 6 (by decide)
   have q6 : wr.cell? ⟨b2, off2 + k * 7 + 6, none⟩ = some (u6) := hds 6 (by decide)
   clear hcs hds hzx
   go_wp2
   go_region_with (first | (go_at_call 25; refine (eqFinished_T a0 a1 a4 a5 v2 v3 v6 x2 x3 x6 u2 u3 u6 _ (by exact slR_same tCond_law h2 rfl rfl rfl rfl) (by exact slR_same tInt_law h3 rfl rfl rfl rfl) (by exact slR_same tRow_law h6 rfl rfl rfl rfl) (by exact slR_same tCond_law g2 rfl rfl rfl rfl) (by exact slR_same tInt_law g3 rfl rfl rfl rfl) (by exact slR_same tRow_law g6 rfl rfl rfl rfl) S2.out S3.out S6.out).mono ?_; rintro e w8 ⟨rfl, b9⟩; have b10 : Below wr.heap.size wr w8 := ⟨b9.os, b9.tape, b9.output, b9.size, b9.block⟩))
   all_goals
    have b11 := hbel.trans (b10.mono hbel.size)
    go_wp2
    go_roundw
    case rel => exact ⟨k + 1, by omega, by go_num, b11⟩
    case measure => simp [intOf]; omega
  ·
   go_wp2
   go_ret
   exact ⟨rfl, hbel⟩
set_option maxHeartbeats 8000000 in
theorem markFinishedS_S (v : Value) (xs : List ((Int × Int × List (Int × Int × Int) × List Int) × Int × Int × List (Int × List Int))) (F : Nat → Prop) (k : Int) (w : World) (h : SlO 54 tFinished w F v xs) (hs : zL tFinished xs ≤ 1048576) (k0 : 0 ≤ k) (k1 : k ≤ 939524096) :
  Calls Tryz.prog 71 #[v, .int .i64 k] w fun e w' => e = .returned (.int .i64 (k + (ndL tFinished xs : Int))) ∧ SlO 54 tFinished w' F v (mAll tFinished xs k) ∧ Turn F w w' := by
 rw [← kAt_all]
 have HS := hd hs
 have hlen := zL_len hs
 rcases slO_form h with ⟨rfl, rfl⟩ | ⟨g, cap, rfl, hFg, hgw⟩
 ·
  have H := hd h
  clear h hs
  go_enter Tryz.func71, Tryz.ntmps71
  go_wp2
  go_loop [1, 5] (fun m i => i = .int .i64 0 ∧ m = .int .i64 k) (fun _ _ => 0)
  case atStart => exact ⟨rfl, rfl⟩
  case round =>
   obtain ⟨rfl, rfl⟩ := hrel
   go_wp2
   go_ret
   exact ⟨by simp [kAt, sumN], by rw [show mAll tFinished [] k = [] from rfl]; exact H.out, Turn.refl _ _⟩
 ·
  have H := hd h
  clear h hs
  go_enter Tryz.func71, Tryz.ntmps71
  go_wp2
  go_loopw [1, 5] (fun m i wr => ∃ j : Nat, j ≤ xs.length ∧ i = .int .i64 j ∧ m = .int .i64 (kAt tFinished xs k j) ∧ SlO 54 tFinished wr (fun b => F b ∧ b < w.heap.size) (.slice (some ⟨g, 0, none⟩) xs.length cap) (mTo tFinished xs k j) ∧ Turn F w wr) (fun _ i _ => xs.length - (intOf i).toNat)
  case atStart => exact ⟨0, Nat.zero_le _, rfl, by rw [kAt_zero], by rw [mTo_zero]; exact slO_lt tFinished_law H.out, Turn.refl _ _⟩
  case round =>
   obtain ⟨j, hj, rfl, rfl, hown, hon⟩ := hrel
   by_cases hlt : j < xs.length
   ·
    have i1 : (0 : Int) ≤ (j : Int) := by omega
    have i2 : (j : Int) < (xs.length : Int) := by omega
    have hjl : j < (mTo tFinished xs k j).length := by rw [mTo_len hj]; exact hlt
    have HLL := hd (mTo_len (T := tFinished) (k := k) hj)
    obtain ⟨r1, r2⟩ := kAt_range tFinished_law (by decide) (k := k) HS.out hj
    obtain ⟨r3, r4⟩ := kAt_range tFinished_law (by decide) (k := k) (j := j + 1) HS.out (by omega)
    have hzx := zL_at HS.out hlt
    have hstep := kAt_step (T := tFinished) (k := k) hlt
    have hset := mTo_step (T := tFinished) (k := k) hlt
    have hsz := hon.size
    obtain ⟨hme, hFg2, hgl, cj, Fj, Lc, hrow, hLc, hO, hFj, hput⟩ := slO_open tFinished_law hown hjl
    clear hme hFg2
    rw [mTo_at hlt] at hO
    have HM : Hid (∃ m', kAt tFinished xs k (j + 1) = m') := hd ⟨_, rfl⟩
    obtain ⟨m', hm'⟩ := HM.out
    rw [hm'] at hstep r3 r4
    have HM' := hd hm'
    clear hm' HM H hown hjl
    generalize kAt tFinished xs k j = m at *
    generalize xs.getD j tFinished.d = x at *
    rw [HLL.out] at hrow hput
    obtain ⟨⟨a0, a1, x2, x3⟩, a4, a5, x6⟩ := x
    rw [tFinished_md] at hset
    rw [tFinished_nd] at hstep
    rw [tFinished_sz] at hzx
    obtain ⟨v2, v3, v6, K2, K3, K6, rfl, o2, o3, o6, q2, q3, q6, d2_3, d2_6, d3_6⟩ := tFinished_O hO
    have S2 := hd (show zL tCond x2 ≤ 1048576 by omega)
    have N2 := ndL_le tCond_law (by decide) x2
    have S3 := hd (show zL tInt x3 ≤ 1048576 by omega)
    have N3 := ndL_le tInt_law (by decide) x3
    have S6 := hd (show zL tRow x6 ≤ 1048576 by omega)
    have N6 := ndL_le tRow_law (by decide) x6
    have R2 : Hid (0 ≤ m + 1 + 1 ∧ m + 1 + 1 ≤ 1006632960) := hd (by omega)
    have R3 : Hid (0 ≤ m + 1 + 1 + (ndL tCond x2 : Int) ∧ m + 1 + 1 + (ndL tCond x2 : Int) ≤ 1073741824) := hd (by omega)
    have R6 : Hid (0 ≤ m + 1 + 1 + (ndL tCond x2 : Int) + (ndL tInt x3 : Int) + 1 + 1 ∧ m + 1 + 1 + (ndL tCond x2 : Int) + (ndL tInt x3 : Int) + 1 + 1 ≤ 1006632960) := hd (by omega)
    have hmx6 : m + 1 + 1 + (ndL tCond x2 : Int) + (ndL tInt x3 : Int) + 1 + 1 ≤ 1073741824 := by omega
    have hmm : m + 1 + 1 + (ndL tCond x2 : Int) + (ndL tInt x3 : Int) + 1 + 1 + (ndL tRow x6 : Int) = m' := by omega
    have HMM := hd hmm
    have hm0 : 0 ≤ m := by omega
    have hm1 : m ≤ 1073741824 := by omega
    clear hmm hstep hzx N2 N3 N6
    have hLl : Lc.length = xs.length * 7 := hrow.1
    have HSET := hd hset
    clear hset
    have tt : Turn (fun b => b = g ∨ Fj b ∨ wr.heap.size ≤ b) wr wr := Turn.refl _ _
    have rr := hrow
    have c0 : ∃ x, wr.cell? ⟨g, j * 7, none⟩ = some x := ⟨_, (World.ownsRow.cellAt rr (j * 7) (by show j * 7 < xs.length * 7; omega)).trans (List.getElem?_eq_getElem (by have h9 := rr.1; have h8 : xs.length * tFinished.n = xs.length * 7 := rfl; omega))⟩
    obtain ⟨y0, c0⟩ := c0
    have f0 := World.ownsRow.frozenAt rr (j * 7)
    have c1 : ∃ x, wr.cell? ⟨g, j * 7 + 1, none⟩ = some x := ⟨_, (World.ownsRow.cellAt rr (j * 7 + 1) (by show j * 7 + 1 < xs.length * 7; omega)).trans (List.getElem?_eq_getElem (by have h9 := rr.1; have h8 : xs.length * tFinished.n = xs.length * 7 := rfl; omega))⟩
    obtain ⟨y1, c1⟩ := c1
    have f1 := World.ownsRow.frozenAt rr (j * 7 + 1)
    have cv2 : wr.cell? ⟨g, j * 7 + 2, none⟩ = some v2 := (World.ownsRow.cellAt rr (j * 7 + 2) (by show j * 7 + 2 < xs.length * 7; omega)).trans (by exact hLc 2 (by decide))
    go_wp2_with fail
    clear c0 f0 c1 f1 cv2
    have ts : Turn (fun b => b = g) wr ((wr.setCell ⟨g, j * 7, none⟩ (.int .i64 (m))).setCell ⟨g, j * 7 + 1, none⟩ (.int .i64 (m + 1))) := (((Turn.refl (fun b => b = g) _).trans (turn_set (G := fun b => b = g) (g := g) (j := j * 7) (u := .int .i64 (m)) rfl)).trans (turn_set (G := fun b => b = g) (g := g) (j := j * 7 + 1) (u := .int .i64 (m + 1)) rfl))
    replace rr := (World.ownsRow.stored (World.ownsRow.stored rr (j * 7) (.int .i64 (m))).1 (j * 7 + 1) (.int .i64 (m + 1))).1
    replace o2 := slO_turn tCond_law o2 ts (fun b h1 h2 => (hFj b (q2 b h1)).2.1 h2)
    replace o3 := slO_turn tInt_law o3 ts (fun b h1 h2 => (hFj b (q3 b h1)).2.1 h2)
    replace o6 := slO_turn tRow_law o6 ts (fun b h1 h2 => (hFj b (q6 b h1)).2.1 h2)
    replace tt := tt.trans (ts.mono (fun b h => Or.inl h))
    clear ts
    generalize ((wr.setCell ⟨g, j * 7, none⟩ (.int .i64 (m))).setCell ⟨g, j * 7 + 1, none⟩ (.int .i64 (m + 1))) = W0 at *
    refine (markCondS_S v2 x2 _ (m + 1 + 1) W0 o2 S2.out R2.out.1 (by have := R2.out.2; omega)).mono ?_
    rintro e w1 ⟨rfl, m2, t1⟩
    replace rr := row_turn rr t1 (fun b hb h => by simp [Value.ownBlock] at hb; exact (hFj b (q2 b h)).2.1 hb.symm)
    replace o2 := m2
    replace o3 := slO_turn tInt_law o3 t1 (fun b h1 h2 => d2_3 b h2 h1)
    replace o6 := slO_turn tRow_law o6 t1 (fun b h1 h2 => d2_6 b h2 h1)
    replace tt := tt.trans (t1.mono (fun b h => Or.inr (Or.inl (q2 b h))))
    clear t1
    have cv3 : w1.cell? ⟨g, j * 7 + 3, none⟩ = some v3 := (World.ownsRow.cellAt rr (j * 7 + 3) (by show j * 7 + 3 < xs.length * 7; omega)).trans (by rw [List.getElem?_set_ne (by omega)]; rw [List.getElem?_set_ne (by omega)]; exact hLc 3 (by decide))
    go_wp2_with fail
    clear cv3
    refine (markIntS_S v3 x3 _ (m + 1 + 1 + (ndL tCond x2 : Int)) w1 o3 S3.out R3.out.1 (by have := R3.out.2; omega)).mono ?_
    rintro e w2 ⟨rfl, m3, t1⟩
    replace rr := row_turn rr t1 (fun b hb h => by simp [Value.ownBlock] at hb; exact (hFj b (q3 b h)).2.1 hb.symm)
    replace o2 := slO_turn tCond_law o2 t1 (fun b h1 h2 => d2_3 b h1 h2)
    replace o3 := m3
    replace o6 := slO_turn tRow_law o6 t1 (fun b h1 h2 => d3_6 b h2 h1)
    replace tt := tt.trans (t1.mono (fun b h => Or.inr (Or.inl (q3 b h))))
    clear t1
    have c4 : ∃ x, w2.cell? ⟨g, j * 7 + 4, none⟩ = some x := ⟨_, (World.ownsRow.cellAt rr (j * 7 + 4) (by show j * 7 + 4 < xs.length * 7; omega)).trans (List.getElem?_eq_getElem (by have h9 := rr.1; have h8 : xs.length * tFinished.n = xs.length * 7 := rfl; omega))⟩
    obtain ⟨y4, c4⟩ := c4
    have f4 := World.ownsRow.frozenAt rr (j * 7 + 4)
    have c5 : ∃ x, w2.cell? ⟨g, j * 7 + 5, none⟩ = some x := ⟨_, (World.ownsRow.cellAt rr (j * 7 + 5) (by show j * 7 + 5 < xs.length * 7; omega)).trans (List.getElem?_eq_getElem (by have h9 := rr.1; have h8 : xs.length * tFinished.n = xs.length * 7 := rfl; omega))⟩
    obtain ⟨y5, c5⟩ := c5
    have f5 := World.ownsRow.frozenAt rr (j * 7 + 5)
    have cv6 : w2.cell? ⟨g, j * 7 + 6, none⟩ = some v6 := (World.ownsRow.cellAt rr (j * 7 + 6) (by show j * 7 + 6 < xs.length * 7; omega)).trans (by rw [List.getElem?_set_ne (by omega)]; rw [List.getElem?_set_ne (by omega)]; exact hLc 6 (by decide))
    go_wp2_with fail
    clear c4 f4 c5 f5 cv6
    have ts : Turn (fun b => b = g) w2 ((w2.setCell ⟨g, j * 7 + 4, none⟩ (.int .i64 (m + 1 + 1 + (ndL tCond x2 : Int) + (ndL tInt x3 : Int)))).setCell ⟨g, j * 7 + 5, none⟩ (.int .i64 (m + 1 + 1 + (ndL tCond x2 : Int) + (ndL tInt x3 : Int) + 1))) := (((Turn.refl (fun b => b = g) _).trans (turn_set (G := fun b => b = g) (g := g) (j := j * 7 + 4) (u := .int .i64 (m + 1 + 1 + (ndL tCond x2 : Int) + (ndL tInt x3 : Int))) rfl)).trans (turn_set (G := fun b => b = g) (g := g) (j := j * 7 + 5) (u := .int .i64 (m + 1 + 1 + (ndL tCond x2 : Int) + (ndL tInt x3 : Int) + 1)) rfl))
    replace rr := (World.ownsRow.stored (World.ownsRow.stored rr (j * 7 + 4) (.int .i64 (m + 1 + 1 + (ndL tCond x2 : Int) + (ndL tInt x3 : Int)))).1 (j * 7 + 5) (.int .i64 (m + 1 + 1 + (ndL tCond x2 : Int) + (ndL tInt x3 : Int) + 1))).1
    replace o2 := slO_turn tCond_law o2 ts (fun b h1 h2 => (hFj b (q2 b h1)).2.1 h2)
    replace o3 := slO_turn tInt_law o3 ts (fun b h1 h2 => (hFj b (q3 b h1)).2.1 h2)
    replace o6 := slO_turn tRow_law o6 ts (fun b h1 h2 => (hFj b (q6 b h1)).2.1 h2)
    replace tt := tt.trans (ts.mono (fun b h => Or.inl h))
    clear ts
    generalize ((w2.setCell ⟨g, j * 7 + 4, none⟩ (.int .i64 (m + 1 + 1 + (ndL tCond x2 : Int) + (ndL tInt x3 : Int)))).setCell ⟨g, j * 7 + 5, none⟩ (.int .i64 (m + 1 + 1 + (ndL tCond x2 : Int) + (ndL tInt x3 : Int) + 1))) = W2 at *
    refine (markRowS_S v6 x6 _ (m + 1 + 1 + (ndL tCond x2 : Int) + (ndL tInt x3 : Int) + 1 + 1) W2 o6 S6.out R6.out.1 (by have := R6.out.2; omega)).mono ?_
    rintro e w3 ⟨rfl, m6, t1⟩
    replace rr := row_turn rr t1 (fun b hb h => by simp [Value.ownBlock] at hb; exact (hFj b (q6 b h)).2.1 hb.symm)
    replace o2 := slO_turn tCond_law o2 t1 (fun b h1 h2 => d2_6 b h1 h2)
    replace o3 := slO_turn tInt_law o3 t1 (fun b h1 h2 => d3_6 b h1 h2)
    replace o6 := m6
    replace tt := tt.trans (t1.mono (fun b h => Or.inr (Or.inl (q6 b h))))
    clear t1
    have hO2 := tFinished_mkO (F := Fj) (a0 := m) (a1 := m + 1) (a4 := m + 1 + 1 + (ndL tCond x2 : Int) + (ndL tInt x3 : Int)) (a5 := m + 1 + 1 + (ndL tCond x2 : Int) + (ndL tInt x3 : Int) + 1) o2 o3 o6 q2 q3 q6 d2_3 d2_6 d3_6
    have hst := hput w3 ((((Lc.set (j * 7) (.int .i64 (m))).set (j * 7 + 1) (.int .i64 (m + 1))).set (j * 7 + 4) (.int .i64 (m + 1 + 1 + (ndL tCond x2 : Int) + (ndL tInt x3 : Int)))).set (j * 7 + 5) (.int .i64 (m + 1 + 1 + (ndL tCond x2 : Int) + (ndL tInt x3 : Int) + 1))) [.int .i64 (m), .int .i64 (m + 1), v2, v3, .int .i64 (m + 1 + 1 + (ndL tCond x2 : Int) + (ndL tInt x3 : Int)), .int .i64 (m + 1 + 1 + (ndL tCond x2 : Int) + (ndL tInt x3 : Int) + 1), v6] Fj _ rr (fun p hp => by have hp2 : p < j * 7 ∨ j * 7 + 7 ≤ p := hp; rw [List.getElem?_set_ne (by omega)]; rw [List.getElem?_set_ne (by omega)]; rw [List.getElem?_set_ne (by omega)]; rw [List.getElem?_set_ne (by omega)]) (fun i hi => by have hi' : i < 7 := hi; match i, hi' with | 0, _ => (show (((((Lc.set (j * 7) (.int .i64 (m))).set (j * 7 + 1) (.int .i64 (m + 1))).set (j * 7 + 4) (.int .i64 (m + 1 + 1 + (ndL tCond x2 : Int) + (ndL tInt x3 : Int)))).set (j * 7 + 5) (.int .i64 (m + 1 + 1 + (ndL tCond x2 : Int) + (ndL tInt x3 : Int) + 1))))[j * 7]? = _; rw [List.getElem?_set_ne (by omega)]; rw [List.getElem?_set_ne (by omega)]; rw [List.getElem?_set_ne (by omega)]; rw [List.getElem?_set_self (by first | omega | (simp only [List.length_set]; omega))]; rfl) | 1, _ => (show (((((Lc.set (j * 7) (.int .i64 (m))).set (j * 7 + 1) (.int .i64 (m + 1))).set (j * 7 + 4) (.int .i64 (m + 1 + 1 + (ndL tCond x2 : Int) + (ndL tInt x3 : Int)))).set (j * 7 + 5) (.int .i64 (m + 1 + 1 + (ndL tCond x2 : Int) + (ndL tInt x3 : Int) + 1))))[j * 7 + 1]? = _; rw [List.getElem?_set_ne (by omega)]; rw [List.getElem?_set_ne (by omega)]; rw [List.getElem?_set_self (by first | omega | (simp only [List.length_set]; omega))]; rfl) | 2, _ => (show (((((Lc.set (j * 7) (.int .i64 (m))).set (j * 7 + 1) (.int .i64 (m + 1))).set (j * 7 + 4) (.int .i64 (m + 1 + 1 + (ndL tCond x2 : Int) + (ndL tInt x3 : Int)))).set (j * 7 + 5) (.int .i64 (m + 1 + 1 + (ndL tCond x2 : Int) + (ndL tInt x3 : Int) + 1))))[j * 7 + 2]? = _; rw [List.getElem?_set_ne (by omega)]; rw [List.getElem?_set_ne (by omega)]; rw [List.getElem?_set_ne (by omega)]; rw [List.getElem?_set_ne (by omega)]; exact hLc 2 (by decide)) | 3, _ => (show (((((Lc.set (j * 7) (.int .i64 (m))).set (j * 7 + 1) (.int .i64 (m + 1))).set (j * 7 + 4) (.int .i64 (m + 1 + 1 + (ndL tCond x2 : Int) + (ndL tInt x3 : Int)))).set (j * 7 + 5) (.int .i64 (m + 1 + 1 + (ndL tCond x2 : Int) + (ndL tInt x3 : Int) + 1))))[j * 7 + 3]? = _; rw [List.getElem?_set_ne (by omega)]; rw [List.getElem?_set_ne (by omega)]; rw [List.getElem?_set_ne (by omega)]; rw [List.getElem?_set_ne (by omega)]; exact hLc 3 (by decide)) | 4, _ => (show (((((Lc.set (j * 7) (.int .i64 (m))).set (j * 7 + 1) (.int .i64 (m + 1))).set (j * 7 + 4) (.int .i64 (m + 1 + 1 + (ndL tCond x2 : Int) + (ndL tInt x3 : Int)))).set (j * 7 + 5) (.int .i64 (m + 1 + 1 + (ndL tCond x2 : Int) + (ndL tInt x3 : Int) + 1))))[j * 7 + 4]? = _; rw [List.getElem?_set_ne (by omega)]; rw [List.getElem?_set_self (by first | omega | (simp only [List.length_set]; omega))]; rfl) | 5, _ => (show (((((Lc.set (j * 7) (.int .i64 (m))).set (j * 7 + 1) (.int .i64 (m + 1))).set (j * 7 + 4) (.int .i64 (m + 1 + 1 + (ndL tCond x2 : Int) + (ndL tInt x3 : Int)))).set (j * 7 + 5) (.int .i64 (m + 1 + 1 + (ndL tCond x2 : Int) + (ndL tInt x3 : Int) + 1))))[j * 7 + 5]? = _; rw [List.getElem?_set_self (by first | omega | (simp only [List.length_set]; omega))]; rfl) | 6, _ => (show (((((Lc.set (j * 7) (.int .i64 (m))).set (j * 7 + 1) (.int .i64 (m + 1))).set (j * 7 + 4) (.int .i64 (m + 1 + 1 + (ndL tCond x2 : Int) + (ndL tInt x3 : Int)))).set (j * 7 + 5) (.int .i64 (m + 1 + 1 + (ndL tCond x2 : Int) + (ndL tInt x3 : Int) + 1))))[j * 7 + 6]? = _; rw [List.getElem?_set_ne (by omega)]; rw [List.getElem?_set_ne (by omega)]; rw [List.getElem?_set_ne (by omega)]; rw [List.getElem?_set_ne (by omega)]; exact hLc 6 (by decide))) hO2 (fun b hb => ⟨(hFj b hb).1, Or.inl hb⟩) tt
    rw [HSET.out] at hst
    have HST := hd hst
    have hon2 := hon.trans (Turn.mono (G := fun b => F b ∧ b < w.heap.size) (G' := F) ⟨tt.os, tt.tape, tt.output, tt.size, fun b hb hn => tt.block b hb (fun h => hn (h.elim (fun h => by rw [h]; exact ⟨hFg, hgw⟩) (fun h => h.elim (fun h => (hFj b h).1) (fun h => absurd hb (Nat.not_lt.2 h)))))⟩ (fun b h => h.1))
    clear hst hput tt rr hO2 hon hFj hLc hLl o2 o3 o6
    rw [HMM.out]
    go_wp2
    go_roundw
    case rel => exact ⟨j + 1, by omega, by go_num, by rw [HM'.out], HST.out, hon2⟩
    case measure => simp [intOf]; omega
   ·
    obtain rfl : j = xs.length := by omega
    rw [mTo_all] at hown
    go_wp2
    go_ret
    refine ⟨?_, slO_mono hown (fun b h => h.1), hon⟩
    simp
def tCharge : Ty (Int × Int × List Int × List Int × List Int) := tPair tInt (tPair tInt (tPair tIntS (tPair tIntS tIntS)))
theorem tCharge_law : tCharge.Law := tPair_law tInt_law (tPair_law tInt_law (tPair_law tIntS_law (tPair_law tIntS_law tIntS_law)))
theorem tCharge_R {w : World} {cs : List Value} {a0 : Int} {a1 : Int} {x2 : List Int} {x3 : List Int} {x4 : List Int} (h : tCharge.R w cs (a0, a1, x2, x3, x4)) : ∃ v2 v3 v4, cs = [.int .i64 a0, .int .i64 a1, v2, v3, v4] ∧ SlR tInt w v2 x2 ∧ SlR tInt w v3 x3 ∧ SlR tInt w v4 x4 := by
 obtain ⟨_, _, rfl, rfl, ⟨_, _, rfl, rfl, ⟨_, _, rfl, ⟨v2, rfl, h2⟩, ⟨_, _, rfl, ⟨v3, rfl, h3⟩, ⟨v4, rfl, h4⟩⟩⟩⟩⟩ := h
 exact ⟨_, _, _, rfl, h2, h3, h4⟩
theorem tCharge_sz {a0 : Int} {a1 : Int} {x2 : List Int} {x3 : List Int} {x4 : List Int} : tCharge.sz (a0, a1, x2, x3, x4) = zL tInt x2 + zL tInt x3 + zL tInt x4 := by
 simp only [tCharge, tPair_sz, tPair_nd, tPair_nv, tInt_sz, tInt_nd, tInt_nv, tSl_sz, tSl_nd, tSl_nv]
 try omega
theorem tCharge_nd {a0 : Int} {a1 : Int} {x2 : List Int} {x3 : List Int} {x4 : List Int} : tCharge.nd (a0, a1, x2, x3, x4) = 2 + ndL tInt x2 + ndL tInt x3 + ndL tInt x4 := by
 simp only [tCharge, tPair_sz, tPair_nd, tPair_nv, tInt_sz, tInt_nd, tInt_nv, tSl_sz, tSl_nd, tSl_nv]
 try omega
theorem tCharge_md {a0 : Int} {a1 : Int} {x2 : List Int} {x3 : List Int} {x4 : List Int} {k : Int} : tCharge.md (a0, a1, x2, x3, x4) k = ((k), (k + 1), mAll tInt x2 (k + 1 + 1), mAll tInt x3 (k + 1 + 1 + (ndL tInt x2 : Int)), mAll tInt x4 (k + 1 + 1 + (ndL tInt x2 : Int) + (ndL tInt x3 : Int))) := by
 simp only [tCharge, tPair_md, tPair_mv, tPair_nd, tPair_nv, tInt_md, tInt_mv, tInt_nd, tInt_nv, tSl_md, tSl_mv, tSl_nd, tSl_nv, Int.natCast_add, Int.natCast_zero, Int.natCast_one, Int.add_zero, Int.zero_add, Int.add_assoc]
theorem tCharge_O {w : World} {F : Nat → Prop} {cs : List Value} {a0 : Int} {a1 : Int} {x2 : List Int} {x3 : List Int} {x4 : List Int} (h : tCharge.O w F cs (a0, a1, x2, x3, x4)) : ∃ v2 v3 v4, ∃ F2 F3 F4 : Nat → Prop, cs = [.int .i64 a0, .int .i64 a1, v2, v3, v4] ∧ SlO 3 tInt w F2 v2 x2 ∧ SlO 3 tInt w F3 v3 x3 ∧ SlO 3 tInt w F4 v4 x4 ∧ (∀ b, F2 b → F b) ∧ (∀ b, F3 b → F b) ∧ (∀ b, F4 b → F b) ∧ (∀ b, F2 b → ¬ F3 b) ∧ (∀ b, F2 b → ¬ F4 b) ∧ (∀ b, F3 b → ¬ F4 b) := by
 obtain ⟨_, _, F0_1, F0_2, rfl, rfl, ⟨_, _, F1_1, F1_2, rfl, rfl, ⟨_, _, F2_1, F2_2, rfl, ⟨v2, rfl, h2⟩, ⟨_, _, F3_1, F3_2, rfl, ⟨v3, rfl, h3⟩, ⟨v4, rfl, h4⟩, s3_1, s3_2, d3⟩, s2_1, s2_2, d2⟩, s1_1, s1_2, d1⟩, s0_1, s0_2, d0⟩ := h
 exact ⟨v2, v3, v4, F2_1, F3_1, F3_2, rfl, h2, h3, h4, fun b h => (s0_2 b (s1_2 b (s2_1 b h))), fun b h => (s0_2 b (s1_2 b (s2_2 b (s3_1 b h)))), fun b h => (s0_2 b (s1_2 b (s2_2 b (s3_2 b h)))), fun b h h2 => d2 b h (s3_1 b h2), fun b h h2 => d2 b h (s3_2 b h2), fun b h h2 => d3 b h h2⟩
theorem tCharge_mkO {w : World} {F : Nat → Prop} {a0 : Int} {a1 : Int} {x2 : List Int} {x3 : List Int} {x4 : List Int} {v2 v3 v4 : Value} {F2 F3 F4 : Nat → Prop} (h2 : SlO 3 tInt w F2 v2 x2) (h3 : SlO 3 tInt w F3 v3 x3) (h4 : SlO 3 tInt w F4 v4 x4) (s2 : ∀ b, F2 b → F b) (s3 : ∀ b, F3 b → F b) (s4 : ∀ b, F4 b → F b) (d2_3 : ∀ b, F2 b → ¬ F3 b) (d2_4 : ∀ b, F2 b → ¬ F4 b) (d3_4 : ∀ b, F3 b → ¬ F4 b) : tCharge.O w F [.int .i64 a0, .int .i64 a1, v2, v3, v4] (a0, a1, x2, x3, x4) := ⟨[.int .i64 a0], [.int .i64 a1, v2, v3, v4], fun _ => False, fun b => F2 b ∨ (F3 b ∨ (F4 b)), rfl, rfl, ⟨[.int .i64 a1], [v2, v3, v4], fun _ => False, fun b => F2 b ∨ (F3 b ∨ (F4 b)), rfl, rfl, ⟨[v2], [v3, v4], F2, fun b => F3 b ∨ (F4 b), rfl, ⟨_, rfl, h2⟩, ⟨[v3], [v4], F3, F4, rfl, ⟨_, rfl, h3⟩, ⟨_, rfl, h4⟩, (fun b h => (Or.inl h)), (fun b h => (Or.inr h)), (fun b h g => d3_4 b h g)⟩, (fun b h => (Or.inl h)), (fun b h => (h.elim (fun q0 => (Or.inr (Or.inl q0))) (fun q0 => (Or.inr (Or.inr q0))))), (fun b h g => (g.elim (fun q10 => d2_3 b h q10) (fun q10 => d2_4 b h q10)))⟩, (fun b h => (False.elim h)), (fun b h => (h.elim (fun q0 => (Or.inl q0)) (fun q0 => (q0.elim (fun q1 => (Or.inr (Or.inl q1))) (fun q1 => (Or.inr (Or.inr q1))))))), (fun b h g => (False.elim h))⟩, (fun b h => (False.elim h)), (fun b h => (h.elim (fun q0 => s2 b q0) (fun q0 => (q0.elim (fun q1 => s3 b q1) (fun q1 => s4 b q1))))), (fun b h g => (False.elim h))⟩
set_option maxHeartbeats 8000000 in
theorem szCharge_Y (a0 a1 : Int) (v2 v3 v4 : Value) (x2 : List Int) (x3 : List Int) (x4 : List Int) (k0 : Int) (w : World) (h2 : SlR tInt w v2 x2) (h3 : SlR tInt w v3 x3) (h4 : SlR tInt w v4 x4) (hs : ((zL tInt x2 + zL tInt x3 + zL tInt x4 : Nat) : Int) ≤ k0) (hk : k0 ≤ 1048576) :
  Calls Tryz.prog 112 #[.agg #[.int .i64 a0, .int .i64 a1, v2, v3, v4], .int .i64 k0] w fun e w' => e = .returned (.int .i64 (k0 - ((zL tInt x2 + zL tInt x3 + zL tInt x4 : Nat) : Int))) ∧ Below w.heap.size w w' := by
 have H2 := hd h2
 have H3 := hd h3
 have H4 := hd h4
 clear h2 h3 h4
 have HZ2 : Hid (((zL tInt x2 : Nat) : Int) ≤ k0) := hd (by omega)
 have HK2 : Hid (k0 ≤ 1048576) := hd (by omega)
 have hn2 : ¬ k0 - ((zL tInt x2 : Nat) : Int) < 0 := by omega
 have HZ3 : Hid (((zL tInt x3 : Nat) : Int) ≤ k0 - ((zL tInt x2 : Nat) : Int)) := hd (by omega)
 have HK3 : Hid (k0 - ((zL tInt x2 : Nat) : Int) ≤ 1048576) := hd (by omega)
 have hn3 : ¬ k0 - ((zL tInt x2 : Nat) : Int) - ((zL tInt x3 : Nat) : Int) < 0 := by omega
 have HZ4 : Hid (((zL tInt x4 : Nat) : Int) ≤ k0 - ((zL tInt x2 : Nat) : Int) - ((zL tInt x3 : Nat) : Int)) := hd (by omega)
 have HK4 : Hid (k0 - ((zL tInt x2 : Nat) : Int) - ((zL tInt x3 : Nat) : Int) ≤ 1048576) := hd (by omega)
 have hn4 : ¬ k0 - ((zL tInt x2 : Nat) : Int) - ((zL tInt x3 : Nat) : Int) - ((zL tInt x4 : Nat) : Int) < 0 := by omega
 have HE : Hid (k0 - ((zL tInt x2 : Nat) : Int) - ((zL tInt x3 : Nat) : Int) - ((zL tInt x4 : Nat) : Int) = k0 - ((zL tInt x2 + zL tInt x3 + zL tInt x4 : Nat) : Int)) := hd (by omega)
 clear hs hk
 have hb : Below w.heap.size w (w.alloc (.cells #[.int .i64 a0, .int .i64 a1, v2, v3, v4] 148)) := (Below.refl _ w).alloc (Nat.le_refl _) _
 have g0 : (w.alloc (.cells #[.int .i64 a0, .int .i64 a1, v2, v3, v4] 148)).heap[w.heap.size]? = some (.cells #[.int .i64 a0, .int .i64 a1, v2, v3, v4] 148 (0, 0)) := heap_alloc_new w _
 have hz0 : w.heap.size < (w.alloc (.cells #[.int .i64 a0, .int .i64 a1, v2, v3, v4] 148)).heap.size := by simp
 go_enter Tryz.func112, Tryz.ntmps112
 go_wp2_with fail
 generalize (w.alloc (.cells #[.int .i64 a0, .int .i64 a1, v2, v3, v4] 148)) = W at *
 refine (szIntS_Y v2 x2 (k0) W (slR_below tInt_law H2.out hb) HZ2.out HK2.out).mono ?_
 rintro e W1 ⟨rfl, b1⟩
 replace g0 := (b1.block w.heap.size hz0).trans g0
 replace hz0 := Nat.lt_of_lt_of_le hz0 b1.size
 replace hb := hb.trans (b1.mono hb.size)
 clear b1
 have p3 := cr 3 (v3) g0
 go_wp2_with fail
 clear p3
 refine (szIntS_Y v3 x3 (k0 - ((zL tInt x2 : Nat) : Int)) W1 (slR_below tInt_law H3.out hb) HZ3.out HK3.out).mono ?_
 rintro e W2 ⟨rfl, b1⟩
 replace g0 := (b1.block w.heap.size hz0).trans g0
 replace hz0 := Nat.lt_of_lt_of_le hz0 b1.size
 replace hb := hb.trans (b1.mono hb.size)
 clear b1
 have p4 := cr 4 (v4) g0
 go_wp2_with fail
 clear p4
 refine (szIntS_Y v4 x4 (k0 - ((zL tInt x2 : Nat) : Int) - ((zL tInt x3 : Nat) : Int)) W2 (slR_below tInt_law H4.out hb) HZ4.out HK4.out).mono ?_
 rintro e W3 ⟨rfl, b1⟩
 replace g0 := (b1.block w.heap.size hz0).trans g0
 replace hz0 := Nat.lt_of_lt_of_le hz0 b1.size
 replace hb := hb.trans (b1.mono hb.size)
 clear b1
 go_wp2
 go_ret
 exact ⟨ty_ret HE.out, hb⟩
set_option maxHeartbeats 8000000 in
theorem szCharge_N (a0 a1 : Int) (v2 v3 v4 : Value) (x2 : List Int) (x3 : List Int) (x4 : List Int) (k0 : Int) (w : World) (h2 : SlR tInt w v2 x2) (h3 : SlR tInt w v3 x3) (h4 : SlR tInt w v4 x4) (hs : k0 < ((zL tInt x2 + zL tInt x3 + zL tInt x4 : Nat) : Int)) (hk : k0 ≤ 1048576) (hp : 0 ≤ k0) (o2 : tIntS.ok x2) (o3 : tIntS.ok x3) (o4 : tIntS.ok x4) :
  Calls Tryz.prog 112 #[.agg #[.int .i64 a0, .int .i64 a1, v2, v3, v4], .int .i64 k0] w fun e w' => e = .returned (.int .i64 (-1)) ∧ Below w.heap.size w w' := by
 have H2 := hd h2
 have H3 := hd h3
 have H4 := hd h4
 clear h2 h3 h4
 have HO2 := hd o2
 have HO3 := hd o3
 have HO4 := hd o4
 clear o2 o3 o4
 by_cases c0 : k0 < ((zL tInt x2 : Nat) : Int)
 ·
  have HZ2 : Hid (k0 < ((zL tInt x2 : Nat) : Int)) := hd (by omega)
  have HP2 : Hid (0 ≤ k0) := hd (by omega)
  have HK2 : Hid (k0 ≤ 1048576) := hd (by omega)
  clear hs hk
  clear c0 hp
  have hb : Below w.heap.size w (w.alloc (.cells #[.int .i64 a0, .int .i64 a1, v2, v3, v4] 148)) := (Below.refl _ w).alloc (Nat.le_refl _) _
  have g0 : (w.alloc (.cells #[.int .i64 a0, .int .i64 a1, v2, v3, v4] 148)).heap[w.heap.size]? = some (.cells #[.int .i64 a0, .int .i64 a1, v2, v3, v4] 148 (0, 0)) := heap_alloc_new w _
  have hz0 : w.heap.size < (w.alloc (.cells #[.int .i64 a0, .int .i64 a1, v2, v3, v4] 148)).heap.size := by simp
  go_enter Tryz.func112, Tryz.ntmps112
  go_wp2_with fail
  generalize (w.alloc (.cells #[.int .i64 a0, .int .i64 a1, v2, v3, v4] 148)) = W at *
  refine (szIntS_N v2 x2 (k0) W (slR_below tInt_law H2.out hb) HZ2.out HK2.out HP2.out HO2.out).mono ?_
  rintro e W1 ⟨rfl, b1⟩
  replace g0 := (b1.block w.heap.size hz0).trans g0
  replace hz0 := Nat.lt_of_lt_of_le hz0 b1.size
  replace hb := hb.trans (b1.mono hb.size)
  clear b1
  go_wp2
  go_ret
  exact ⟨rfl, hb⟩
 ·
  by_cases c1 : k0 - ((zL tInt x2 : Nat) : Int) < ((zL tInt x3 : Nat) : Int)
  ·
   have HZ2 : Hid (((zL tInt x2 : Nat) : Int) ≤ k0) := hd (by omega)
   have hn2 : ¬ k0 - ((zL tInt x2 : Nat) : Int) < 0 := by omega
   have HK2 : Hid (k0 ≤ 1048576) := hd (by omega)
   have HZ3 : Hid (k0 - ((zL tInt x2 : Nat) : Int) < ((zL tInt x3 : Nat) : Int)) := hd (by omega)
   have HP3 : Hid (0 ≤ k0 - ((zL tInt x2 : Nat) : Int)) := hd (by omega)
   have HK3 : Hid (k0 - ((zL tInt x2 : Nat) : Int) ≤ 1048576) := hd (by omega)
   clear hs hk
   clear c1 hp c0
   have hb : Below w.heap.size w (w.alloc (.cells #[.int .i64 a0, .int .i64 a1, v2, v3, v4] 148)) := (Below.refl _ w).alloc (Nat.le_refl _) _
   have g0 : (w.alloc (.cells #[.int .i64 a0, .int .i64 a1, v2, v3, v4] 148)).heap[w.heap.size]? = some (.cells #[.int .i64 a0, .int .i64 a1, v2, v3, v4] 148 (0, 0)) := heap_alloc_new w _
   have hz0 : w.heap.size < (w.alloc (.cells #[.int .i64 a0, .int .i64 a1, v2, v3, v4] 148)).heap.size := by simp
   go_enter Tryz.func112, Tryz.ntmps112
   go_wp2_with fail
   generalize (w.alloc (.cells #[.int .i64 a0, .int .i64 a1, v2, v3, v4] 148)) = W at *
   refine (szIntS_Y v2 x2 (k0) W (slR_below tInt_law H2.out hb) HZ2.out HK2.out).mono ?_
   rintro e W1 ⟨rfl, b1⟩
   replace g0 := (b1.block w.heap.size hz0).trans g0
   replace hz0 := Nat.lt_of_lt_of_le hz0 b1.size
   replace hb := hb.trans (b1.mono hb.size)
   clear b1
   have p3 := cr 3 (v3) g0
   go_wp2_with fail
   clear p3
   refine (szIntS_N v3 x3 (k0 - ((zL tInt x2 : Nat) : Int)) W1 (slR_below tInt_law H3.out hb) HZ3.out HK3.out HP3.out HO3.out).mono ?_
   rintro e W2 ⟨rfl, b1⟩
   replace g0 := (b1.block w.heap.size hz0).trans g0
   replace hz0 := Nat.lt_of_lt_of_le hz0 b1.size
   replace hb := hb.trans (b1.mono hb.size)
   clear b1
   go_wp2
   go_ret
   exact ⟨rfl, hb⟩
  ·
   have HZ2 : Hid (((zL tInt x2 : Nat) : Int) ≤ k0) := hd (by omega)
   have hn2 : ¬ k0 - ((zL tInt x2 : Nat) : Int) < 0 := by omega
   have HK2 : Hid (k0 ≤ 1048576) := hd (by omega)
   have HZ3 : Hid (((zL tInt x3 : Nat) : Int) ≤ k0 - ((zL tInt x2 : Nat) : Int)) := hd (by omega)
   have hn3 : ¬ k0 - ((zL tInt x2 : Nat) : Int) - ((zL tInt x3 : Nat) : Int) < 0 := by omega
   have HK3 : Hid (k0 - ((zL tInt x2 : Nat) : Int) ≤ 1048576) := hd (by omega)
   have HZ4 : Hid (k0 - ((zL tInt x2 : Nat) : Int) - ((zL tInt x3 : Nat) : Int) < ((zL tInt x4 : Nat) : Int)) := hd (by omega)
   have HP4 : Hid (0 ≤ k0 - ((zL tInt x2 : Nat) : Int) - ((zL tInt x3 : Nat) : Int)) := hd (by omega)
   have HK4 : Hid (k0 - ((zL tInt x2 : Nat) : Int) - ((zL tInt x3 : Nat) : Int) ≤ 1048576) := hd (by omega)
   clear hs hk
   clear hp c0 c1
   have hb : Below w.heap.size w (w.alloc (.cells #[.int .i64 a0, .int .i64 a1, v2, v3, v4] 148)) := (Below.refl _ w).alloc (Nat.le_refl _) _
   have g0 : (w.alloc (.cells #[.int .i64 a0, .int .i64 a1, v2, v3, v4] 148)).heap[w.heap.size]? = some (.cells #[.int .i64 a0, .int .i64 a1, v2, v3, v4] 148 (0, 0)) := heap_alloc_new w _
   have hz0 : w.heap.size < (w.alloc (.cells #[.int .i64 a0, .int .i64 a1, v2, v3, v4] 148)).heap.size := by simp
   go_enter Tryz.func112, Tryz.ntmps112
   go_wp2_with fail
   generalize (w.alloc (.cells #[.int .i64 a0, .int .i64 a1, v2, v3, v4] 148)) = W at *
   refine (szIntS_Y v2 x2 (k0) W (slR_below tInt_law H2.out hb) HZ2.out HK2.out).mono ?_
   rintro e W1 ⟨rfl, b1⟩
   replace g0 := (b1.block w.heap.size hz0).trans g0
   replace hz0 := Nat.lt_of_lt_of_le hz0 b1.size
   replace hb := hb.trans (b1.mono hb.size)
   clear b1
   have p3 := cr 3 (v3) g0
   go_wp2_with fail
   clear p3
   refine (szIntS_Y v3 x3 (k0 - ((zL tInt x2 : Nat) : Int)) W1 (slR_below tInt_law H3.out hb) HZ3.out HK3.out).mono ?_
   rintro e W2 ⟨rfl, b1⟩
   replace g0 := (b1.block w.heap.size hz0).trans g0
   replace hz0 := Nat.lt_of_lt_of_le hz0 b1.size
   replace hb := hb.trans (b1.mono hb.size)
   clear b1
   have p4 := cr 4 (v4) g0
   go_wp2_with fail
   clear p4
   refine (szIntS_N v4 x4 (k0 - ((zL tInt x2 : Nat) : Int) - ((zL tInt x3 : Nat) : Int)) W2 (slR_below tInt_law H4.out hb) HZ4.out HK4.out HP4.out HO4.out).mono ?_
   rintro e W3 ⟨rfl, b1⟩
   replace g0 := (b1.block w.heap.size hz0).trans g0
   replace hz0 := Nat.lt_of_lt_of_le hz0 b1.size
   replace hb := hb.trans (b1.mono hb.size)
   clear b1
   go_wp2
   go_ret
   exact ⟨rfl, hb⟩
set_option maxHeartbeats 8000000 in
theorem toCharge_T (a0 a1 : Int) (v2 v3 v4 : Value) (x2 : List Int) (x3 : List Int) (x4 : List Int) (w : World) (h2 : SlR tInt w v2 x2) (h3 : SlR tInt w v3 x3) (h4 : SlR tInt w v4 x4) (s2 : zL tInt x2 ≤ 1048576) (s3 : zL tInt x3 ≤ 1048576) (s4 : zL tInt x4 ≤ 1048576) :
  Calls Tryz.prog 121 #[.agg #[.int .i64 a0, .int .i64 a1, v2, v3, v4]] w (FreshT tCharge (fun cs => .agg cs.toArray) w (a0, a1, x2, x3, x4)) := by
 have H2 := hd h2
 have H3 := hd h3
 have H4 := hd h4
 clear h2 h3 h4
 have S2 := hd s2
 have S3 := hd s3
 have S4 := hd s4
 clear s2 s3 s4
 go_enter Tryz.func121, Tryz.ntmps121
 go_wp2_with fail
 have hb : Below w.heap.size w (((w.alloc (.cells #[.int .i64 a0, .int .i64 a1, v2, v3, v4] 148)).alloc (.cells #[.int .i64 0, .int .i64 0, .slice none 0 0, .slice none 0 0, .slice none 0 0] 154)).alloc (.cells #[.int .i64 a0, .int .i64 a1, .slice none 0 0, .slice none 0 0, .slice none 0 0] 154)) := (((Below.refl _ w).alloc (Nat.le_refl _) _).alloc (by simp) _).alloc (by simp; omega) _
 have g2 : (((w.alloc (.cells #[.int .i64 a0, .int .i64 a1, v2, v3, v4] 148)).alloc (.cells #[.int .i64 0, .int .i64 0, .slice none 0 0, .slice none 0 0, .slice none 0 0] 154)).alloc (.cells #[.int .i64 a0, .int .i64 a1, .slice none 0 0, .slice none 0 0, .slice none 0 0] 154)).heap[w.heap.size + 1 + 1]? = some (.cells #[.int .i64 a0, .int .i64 a1, .slice none 0 0, .slice none 0 0, .slice none 0 0] 154 (0, 0)) := by
  have := heap_alloc_new ((w.alloc (.cells #[.int .i64 a0, .int .i64 a1, v2, v3, v4] 148)).alloc (.cells #[.int .i64 0, .int .i64 0, .slice none 0 0, .slice none 0 0, .slice none 0 0] 154)) (.cells #[.int .i64 a0, .int .i64 a1, .slice none 0 0, .slice none 0 0, .slice none 0 0] 154)
  simpa only [World.size_alloc] using this
 have g1 : (((w.alloc (.cells #[.int .i64 a0, .int .i64 a1, v2, v3, v4] 148)).alloc (.cells #[.int .i64 0, .int .i64 0, .slice none 0 0, .slice none 0 0, .slice none 0 0] 154)).alloc (.cells #[.int .i64 a0, .int .i64 a1, .slice none 0 0, .slice none 0 0, .slice none 0 0] 154)).heap[w.heap.size + 1]? = some (.cells #[.int .i64 0, .int .i64 0, .slice none 0 0, .slice none 0 0, .slice none 0 0] 154 (0, 0)) := by
  have := heap_alloc_new (w.alloc (.cells #[.int .i64 a0, .int .i64 a1, v2, v3, v4] 148)) (.cells #[.int .i64 0, .int .i64 0, .slice none 0 0, .slice none 0 0, .slice none 0 0] 154)
  rw [Below.heap_alloc _ _ _ (by simp)]
  simpa only [World.size_alloc] using this
 have g0 : (((w.alloc (.cells #[.int .i64 a0, .int .i64 a1, v2, v3, v4] 148)).alloc (.cells #[.int .i64 0, .int .i64 0, .slice none 0 0, .slice none 0 0, .slice none 0 0] 154)).alloc (.cells #[.int .i64 a0, .int .i64 a1, .slice none 0 0, .slice none 0 0, .slice none 0 0] 154)).heap[w.heap.size]? = some (.cells #[.int .i64 a0, .int .i64 a1, v2, v3, v4] 148 (0, 0)) := by
  rw [Below.heap_alloc _ _ _ (by simp; omega), Below.heap_alloc _ _ _ (by simp)]
  exact heap_alloc_new w _
 have hz : w.heap.size + 2 < (((w.alloc (.cells #[.int .i64 a0, .int .i64 a1, v2, v3, v4] 148)).alloc (.cells #[.int .i64 0, .int .i64 0, .slice none 0 0, .slice none 0 0, .slice none 0 0] 154)).alloc (.cells #[.int .i64 a0, .int .i64 a1, .slice none 0 0, .slice none 0 0, .slice none 0 0] 154)).heap.size := by simp [World.size_alloc]
 generalize (((w.alloc (.cells #[.int .i64 a0, .int .i64 a1, v2, v3, v4] 148)).alloc (.cells #[.int .i64 0, .int .i64 0, .slice none 0 0, .slice none 0 0, .slice none 0 0] 154)).alloc (.cells #[.int .i64 a0, .int .i64 a1, .slice none 0 0, .slice none 0 0, .slice none 0 0] 154)) = W at *
 refine (toIntS_S v2 x2 W (slR_below tInt_law H2.out hb) S2.out).mono ?_
 rintro e w1 ⟨u2, rfl, o2, b1⟩
 obtain ⟨ua2, uc2, rfl⟩ := slO_len o2
 replace o2 := slO_mono (slO_lt tInt_law o2) (F' := fun b => W.heap.size ≤ b ∧ b < w1.heap.size) (fun b h => h)
 replace g0 := (b1.block _ (by omega)).trans g0
 replace g1 := (b1.block _ (by omega)).trans g1
 replace g2 := (b1.block _ (by omega)).trans g2
 have zz1 := b1.size
 replace hb := hb.trans (b1.mono (by omega))
 clear b1
 have c2_0 := cr 0 (Value.int .i64 a0) g2
 have f2_0 := frozen_of_row w1 _ 0 _ _ g2
 have c2_1 := cr 1 (Value.int .i64 a1) g2
 have f2_1 := frozen_of_row w1 _ 1 _ _ g2
 have c2_2 := cr 2 (Value.slice none 0 0) g2
 have f2_2 := frozen_of_row w1 _ 2 _ _ g2
 have ne1 : ¬ w.heap.size = w.heap.size + 1 + 1 := by omega
 have ne2 : ¬ w.heap.size + 1 = w.heap.size + 1 + 1 := by omega
 have ne3 : ¬ w.heap.size + 1 + 1 = w.heap.size + 1 := by omega
 have c0_3 := cr 3 (v3) g0
 have l0_3 : (w1.setCell ⟨w.heap.size + 1 + 1, 2, none⟩ (.slice ua2 x2.length uc2)).cell? ⟨w.heap.size, 3, none⟩ = some (v3) := by
  have m : (w1.setCell ⟨w.heap.size + 1 + 1, 2, none⟩ (.slice ua2 x2.length uc2)).heap[w.heap.size]? = some (.cells #[.int .i64 a0, .int .i64 a1, v2, v3, v4] 148 (0, 0)) := by
   repeat rw [heap_setCell_other _ _ _ _ (by simp <;> omega)]
   exact g0
  exact (cell_of_row _ _ 3 _ _ _ m).trans rfl
 go_wp2_with fail
 clear c2_0 f2_0 c2_1 f2_1 c2_2 f2_2 ne1 ne2 ne3 c0_3 l0_3
 have hw : Turn (fun b => b = w.heap.size + 1 + 1) w1 (w1.setCell ⟨w.heap.size + 1 + 1, 2, none⟩ (.slice ua2 x2.length uc2)) := by
  first | exact ((Turn.refl (fun b => b = w.heap.size + 1 + 1) _).trans (turn_set (G := fun b => b = w.heap.size + 1 + 1) (g := w.heap.size + 1 + 1) (j := 2) (u := .slice ua2 x2.length uc2) rfl)) | skip
 replace g0 := (hw.block _ (by omega) (by omega)).trans g0
 replace g1 := (hw.block _ (by omega) (by omega)).trans g1
 have g2n := (heap_setCell_same _ (w.heap.size + 1 + 1) 2 _ _ (.slice ua2 x2.length uc2) g2)
 replace g2 : (w1.setCell ⟨w.heap.size + 1 + 1, 2, none⟩ (.slice ua2 x2.length uc2)).heap[w.heap.size + 1 + 1]? = some (.cells #[.int .i64 a0, .int .i64 a1, .slice ua2 x2.length uc2, .slice none 0 0, .slice none 0 0] 154 (0, 0)) := by simpa using g2n
 clear g2n
 replace o2 := slO_turn tInt_law o2 hw (fun b h1 h2 => by first | (have := h1.1; omega) | (have := q2 b h1; omega))
 replace hb := below_turn hb hw (fun b h => by omega) (by omega)
 have hz0 := hw.size
 clear hw
 generalize (w1.setCell ⟨w.heap.size + 1 + 1, 2, none⟩ (.slice ua2 x2.length uc2)) = W1 at *
 refine (toIntS_S v3 x3 W1 (slR_below tInt_law H3.out hb) S3.out).mono ?_
 rintro e w2 ⟨u3, rfl, o3, b1⟩
 obtain ⟨ua3, uc3, rfl⟩ := slO_len o3
 replace o3 := slO_mono (slO_lt tInt_law o3) (F' := fun b => W1.heap.size ≤ b ∧ b < w2.heap.size) (fun b h => h)
 replace g0 := (b1.block _ (by omega)).trans g0
 replace g1 := (b1.block _ (by omega)).trans g1
 replace g2 := (b1.block _ (by omega)).trans g2
 replace o2 := slO_fresh tInt_law o2 b1
 have zz2 := b1.size
 replace hb := hb.trans (b1.mono (by omega))
 clear b1
 have c2_0 := cr 0 (Value.int .i64 a0) g2
 have f2_0 := frozen_of_row w2 _ 0 _ _ g2
 have c2_1 := cr 1 (Value.int .i64 a1) g2
 have f2_1 := frozen_of_row w2 _ 1 _ _ g2
 have c2_2 := cr 2 (Value.slice ua2 x2.length uc2) g2
 have f2_2 := frozen_of_row w2 _ 2 _ _ g2
 have c2_3 := cr 3 (Value.slice none 0 0) g2
 have f2_3 := frozen_of_row w2 _ 3 _ _ g2
 have ne1 : ¬ w.heap.size = w.heap.size + 1 + 1 := by omega
 have ne2 : ¬ w.heap.size + 1 = w.heap.size + 1 + 1 := by omega
 have ne3 : ¬ w.heap.size + 1 + 1 = w.heap.size + 1 := by omega
 have c0_4 := cr 4 (v4) g0
 have l0_4 : (w2.setCell ⟨w.heap.size + 1 + 1, 3, none⟩ (.slice ua3 x3.length uc3)).cell? ⟨w.heap.size, 4, none⟩ = some (v4) := by
  have m : (w2.setCell ⟨w.heap.size + 1 + 1, 3, none⟩ (.slice ua3 x3.length uc3)).heap[w.heap.size]? = some (.cells #[.int .i64 a0, .int .i64 a1, v2, v3, v4] 148 (0, 0)) := by
   repeat rw [heap_setCell_other _ _ _ _ (by simp <;> omega)]
   exact g0
  exact (cell_of_row _ _ 4 _ _ _ m).trans rfl
 go_wp2_with fail
 clear c2_0 f2_0 c2_1 f2_1 c2_2 f2_2 c2_3 f2_3 ne1 ne2 ne3 c0_4 l0_4
 have hw : Turn (fun b => b = w.heap.size + 1 + 1) w2 (w2.setCell ⟨w.heap.size + 1 + 1, 3, none⟩ (.slice ua3 x3.length uc3)) := by
  first | exact ((Turn.refl (fun b => b = w.heap.size + 1 + 1) _).trans (turn_set (G := fun b => b = w.heap.size + 1 + 1) (g := w.heap.size + 1 + 1) (j := 3) (u := .slice ua3 x3.length uc3) rfl)) | skip
 replace g0 := (hw.block _ (by omega) (by omega)).trans g0
 replace g1 := (hw.block _ (by omega) (by omega)).trans g1
 have g2n := (heap_setCell_same _ (w.heap.size + 1 + 1) 3 _ _ (.slice ua3 x3.length uc3) g2)
 replace g2 : (w2.setCell ⟨w.heap.size + 1 + 1, 3, none⟩ (.slice ua3 x3.length uc3)).heap[w.heap.size + 1 + 1]? = some (.cells #[.int .i64 a0, .int .i64 a1, .slice ua2 x2.length uc2, .slice ua3 x3.length uc3, .slice none 0 0] 154 (0, 0)) := by simpa using g2n
 clear g2n
 replace o2 := slO_turn tInt_law o2 hw (fun b h1 h2 => by first | (have := h1.1; omega) | (have := q2 b h1; omega))
 replace o3 := slO_turn tInt_law o3 hw (fun b h1 h2 => by first | (have := h1.1; omega) | (have := q3 b h1; omega))
 replace hb := below_turn hb hw (fun b h => by omega) (by omega)
 have hz1 := hw.size
 clear hw
 generalize (w2.setCell ⟨w.heap.size + 1 + 1, 3, none⟩ (.slice ua3 x3.length uc3)) = W2 at *
 refine (toIntS_S v4 x4 W2 (slR_below tInt_law H4.out hb) S4.out).mono ?_
 rintro e w3 ⟨u4, rfl, o4, b1⟩
 obtain ⟨ua4, uc4, rfl⟩ := slO_len o4
 replace o4 := slO_mono (slO_lt tInt_law o4) (F' := fun b => W2.heap.size ≤ b ∧ b < w3.heap.size) (fun b h => h)
 replace g0 := (b1.block _ (by omega)).trans g0
 replace g1 := (b1.block _ (by omega)).trans g1
 replace g2 := (b1.block _ (by omega)).trans g2
 replace o2 := slO_fresh tInt_law o2 b1
 replace o3 := slO_fresh tInt_law o3 b1
 have zz3 := b1.size
 replace hb := hb.trans (b1.mono (by omega))
 clear b1
 have c2_0 := cr 0 (Value.int .i64 a0) g2
 have f2_0 := frozen_of_row w3 _ 0 _ _ g2
 have c2_1 := cr 1 (Value.int .i64 a1) g2
 have f2_1 := frozen_of_row w3 _ 1 _ _ g2
 have c2_2 := cr 2 (Value.slice ua2 x2.length uc2) g2
 have f2_2 := frozen_of_row w3 _ 2 _ _ g2
 have c2_3 := cr 3 (Value.slice ua3 x3.length uc3) g2
 have f2_3 := frozen_of_row w3 _ 3 _ _ g2
 have c2_4 := cr 4 (Value.slice none 0 0) g2
 have f2_4 := frozen_of_row w3 _ 4 _ _ g2
 have ne1 : ¬ w.heap.size = w.heap.size + 1 + 1 := by omega
 have ne2 : ¬ w.heap.size + 1 = w.heap.size + 1 + 1 := by omega
 have ne3 : ¬ w.heap.size + 1 + 1 = w.heap.size + 1 := by omega
 have c1_0 := cr 0 (Value.int .i64 0) g1
 have f1_0 := frozen_of_row w3 _ 0 _ _ g1
 have c1_1 := cr 1 (Value.int .i64 0) g1
 have f1_1 := frozen_of_row w3 _ 1 _ _ g1
 have c1_2 := cr 2 (Value.slice none 0 0) g1
 have f1_2 := frozen_of_row w3 _ 2 _ _ g1
 have c1_3 := cr 3 (Value.slice none 0 0) g1
 have f1_3 := frozen_of_row w3 _ 3 _ _ g1
 have c1_4 := cr 4 (Value.slice none 0 0) g1
 have f1_4 := frozen_of_row w3 _ 4 _ _ g1
 go_wp2
 clear c2_0 f2_0 c2_1 f2_1 c2_2 f2_2 c2_3 f2_3 c2_4 f2_4 ne1 ne2 ne3 c1_0 f1_0 c1_1 f1_1 c1_2 f1_2 c1_3 f1_3 c1_4 f1_4
 have hw : Turn (fun b => b = w.heap.size + 1 ∨ b = w.heap.size + 1 + 1) w3 ((((((w3.setCell ⟨w.heap.size + 1 + 1, 4, none⟩ (.slice ua4 x4.length uc4)).setCell ⟨w.heap.size + 1, 0, none⟩ (.int .i64 a0)).setCell ⟨w.heap.size + 1, 1, none⟩ (.int .i64 a1)).setCell ⟨w.heap.size + 1, 2, none⟩ (.slice ua2 x2.length uc2)).setCell ⟨w.heap.size + 1, 3, none⟩ (.slice ua3 x3.length uc3)).setCell ⟨w.heap.size + 1, 4, none⟩ (.slice ua4 x4.length uc4)) := by
  first | exact (((((((Turn.refl _ _).trans (turn_set (g := w.heap.size + 1 + 1) (j := 4) (u := .slice ua4 x4.length uc4) (Or.inr rfl))).trans (turn_set (g := w.heap.size + 1) (j := 0) (u := .int .i64 a0) (Or.inl rfl))).trans (turn_set (g := w.heap.size + 1) (j := 1) (u := .int .i64 a1) (Or.inl rfl))).trans (turn_set (g := w.heap.size + 1) (j := 2) (u := .slice ua2 x2.length uc2) (Or.inl rfl))).trans (turn_set (g := w.heap.size + 1) (j := 3) (u := .slice ua3 x3.length uc3) (Or.inl rfl))).trans (turn_set (g := w.heap.size + 1) (j := 4) (u := .slice ua4 x4.length uc4) (Or.inl rfl))) | skip
 have r := (heap_setCell_same _ (w.heap.size + 1) 4 _ _ (.slice ua4 x4.length uc4) (heap_setCell_same _ (w.heap.size + 1) 3 _ _ (.slice ua3 x3.length uc3) (heap_setCell_same _ (w.heap.size + 1) 2 _ _ (.slice ua2 x2.length uc2) (heap_setCell_same _ (w.heap.size + 1) 1 _ _ (.int .i64 a1) (heap_setCell_same _ (w.heap.size + 1) 0 _ _ (.int .i64 a0) ((heap_setCell_other _ ⟨w.heap.size + 1 + 1, 4, none⟩ (w.heap.size + 1) (.slice ua4 x4.length uc4) (by simp)).trans g1))))))
 have e0 := cell_of_row _ _ 0 _ _ _ r
 have e1 := cell_of_row _ _ 1 _ _ _ r
 have e2 := cell_of_row _ _ 2 _ _ _ r
 have e3 := cell_of_row _ _ 3 _ _ _ r
 have e4 := cell_of_row _ _ 4 _ _ _ r
 simp at e0 e1 e2 e3 e4
 replace o2 := slO_turn tInt_law o2 hw (fun b h1 h2 => by first | (have := h1.1; omega) | (have := q2 b h1; omega))
 replace o3 := slO_turn tInt_law o3 hw (fun b h1 h2 => by first | (have := h1.1; omega) | (have := q3 b h1; omega))
 replace o4 := slO_turn tInt_law o4 hw (fun b h1 h2 => by first | (have := h1.1; omega) | (have := q4 b h1; omega))
 replace hb := below_turn hb hw (fun b h => by omega) (by omega)
 refine bodyPost_ret (v := .agg #[.int .i64 a0, .int .i64 a1, .slice ua2 x2.length uc2, .slice ua3 x3.length uc3, .slice ua4 x4.length uc4]) ?_ rfl ?_
 ·
  simp [results, Tryz.f121, go_sem, e0, e1, e2, e3, e4]
 ·
  exact ⟨[.int .i64 a0, .int .i64 a1, .slice ua2 x2.length uc2, .slice ua3 x3.length uc3, .slice ua4 x4.length uc4], rfl, tCharge_mkO o2 o3 o4 (fun b h => by show w.heap.size ≤ b; first | (have := h.1; omega) | (have := q2 b h; omega)) (fun b h => by show w.heap.size ≤ b; first | (have := h.1; omega) | (have := q3 b h; omega)) (fun b h => by show w.heap.size ≤ b; first | (have := h.1; omega) | (have := q4 b h; omega)) (fun b h1 h2 => by first | exact d2_3 b h1 h2 | (have := h1.1; have := h1.2; have := h2.1; have := h2.2; omega) | (have := q2 b h1; have := h2.1; have := h2.2; omega) | (have := h1.1; have := h1.2; have := q3 b h2; omega) | (have := q2 b h1; have := q3 b h2; omega)) (fun b h1 h2 => by first | exact d2_4 b h1 h2 | (have := h1.1; have := h1.2; have := h2.1; have := h2.2; omega) | (have := q2 b h1; have := h2.1; have := h2.2; omega) | (have := h1.1; have := h1.2; have := q4 b h2; omega) | (have := q2 b h1; have := q4 b h2; omega)) (fun b h1 h2 => by first | exact d3_4 b h1 h2 | (have := h1.1; have := h1.2; have := h2.1; have := h2.2; omega) | (have := q3 b h1; have := h2.1; have := h2.2; omega) | (have := h1.1; have := h1.2; have := q4 b h2; omega) | (have := q3 b h1; have := q4 b h2; omega)), hb⟩
set_option maxHeartbeats 8000000 in
theorem eqCharge_T (a0 a1 : Int) (v2 v3 v4 : Value) (x2 : List Int) (x3 : List Int) (x4 : List Int) (u2 u3 u4 : Value) (w : World) (h2 : SlR tInt w v2 x2) (h3 : SlR tInt w v3 x3) (h4 : SlR tInt w v4 x4) (g2 : SlR tInt w u2 x2) (g3 : SlR tInt w u3 x3) (g4 : SlR tInt w u4 x4) (s2 : zL tInt x2 ≤ 1048576) (s3 : zL tInt x3 ≤ 1048576) (s4 : zL tInt x4 ≤ 1048576) :
  Calls Tryz.prog 132 #[.agg #[.int .i64 a0, .int .i64 a1, v2, v3, v4], .agg #[.int .i64 a0, .int .i64 a1, u2, u3, u4]] w fun e w' => e = .returned (.bool true) ∧ Below w.heap.size w w' := by
 have H2 := hd h2; have G2 := hd g2; have S2 := hd s2
 have H3 := hd h3; have G3 := hd g3; have S3 := hd s3
 have H4 := hd h4; have G4 := hd g4; have S4 := hd s4
 clear h2 g2 s2 h3 g3 s3 h4 g4 s4
 have e0 : (a0 != a0) = false := by simp
 have e1 : (a1 != a1) = false := by simp
 go_enter Tryz.func132, Tryz.ntmps132
 go_wp2_with fail
 have hb : Below w.heap.size w ((w.alloc (.cells #[.int .i64 a0, .int .i64 a1, v2, v3, v4] 154)).alloc (.cells #[.int .i64 a0, .int .i64 a1, u2, u3, u4] 154)) := ((Below.refl _ w).alloc (Nat.le_refl _) _).alloc (by simp) _
 have g1 : ((w.alloc (.cells #[.int .i64 a0, .int .i64 a1, v2, v3, v4] 154)).alloc (.cells #[.int .i64 a0, .int .i64 a1, u2, u3, u4] 154)).heap[w.heap.size + 1]? = some (.cells #[.int .i64 a0, .int .i64 a1, u2, u3, u4] 154 (0, 0)) := by
  have := heap_alloc_new (w.alloc (.cells #[.int .i64 a0, .int .i64 a1, v2, v3, v4] 154)) (.cells #[.int .i64 a0, .int .i64 a1, u2, u3, u4] 154)
  simpa only [World.size_alloc] using this
 have g0 : ((w.alloc (.cells #[.int .i64 a0, .int .i64 a1, v2, v3, v4] 154)).alloc (.cells #[.int .i64 a0, .int .i64 a1, u2, u3, u4] 154)).heap[w.heap.size]? = some (.cells #[.int .i64 a0, .int .i64 a1, v2, v3, v4] 154 (0, 0)) := by
  rw [Below.heap_alloc _ _ _ (by simp)]
  exact heap_alloc_new w _
 have hz : w.heap.size + 1 < ((w.alloc (.cells #[.int .i64 a0, .int .i64 a1, v2, v3, v4] 154)).alloc (.cells #[.int .i64 a0, .int .i64 a1, u2, u3, u4] 154)).heap.size := by simp [World.size_alloc]
 generalize ((w.alloc (.cells #[.int .i64 a0, .int .i64 a1, v2, v3, v4] 154)).alloc (.cells #[.int .i64 a0, .int .i64 a1, u2, u3, u4] 154)) = W at *
 refine (eqIntS_S v2 u2 x2 W (slR_below tInt_law H2.out hb) (slR_below tInt_law G2.out hb) S2.out).mono ?_
 rintro e w1 ⟨rfl, b1⟩
 replace g0 := (b1.block _ (by omega)).trans g0
 replace g1 := (b1.block _ (by omega)).trans g1
 have zz0 := b1.size
 replace hb := hb.trans (b1.mono (by omega))
 clear b1
 have p0_3 := cr 3 (v3) g0
 have p1_3 := cr 3 (u3) g1
 go_wp2_with fail
 clear p0_3 p1_3
 refine (eqIntS_S v3 u3 x3 w1 (slR_below tInt_law H3.out hb) (slR_below tInt_law G3.out hb) S3.out).mono ?_
 rintro e w2 ⟨rfl, b1⟩
 replace g0 := (b1.block _ (by omega)).trans g0
 replace g1 := (b1.block _ (by omega)).trans g1
 have zz1 := b1.size
 replace hb := hb.trans (b1.mono (by omega))
 clear b1
 have p0_4 := cr 4 (v4) g0
 have p1_4 := cr 4 (u4) g1
 go_wp2_with fail
 clear p0_4 p1_4
 refine (eqIntS_S v4 u4 x4 w2 (slR_below tInt_law H4.out hb) (slR_below tInt_law G4.out hb) S4.out).mono ?_
 rintro e w3 ⟨rfl, b1⟩
 replace g0 := (b1.block _ (by omega)).trans g0
 replace g1 := (b1.block _ (by omega)).trans g1
 have zz2 := b1.size
 replace hb := hb.trans (b1.mono (by omega))
 clear b1
 go_wp2
 go_ret
 exact ⟨rfl, hb⟩
abbrev tChargeS : Ty (List (Int × Int × List Int × List Int × List Int)) := tSl 154 tCharge
theorem tChargeS_law : tChargeS.Law := tSl_law tCharge_law (by decide)
set_option maxHeartbeats 8000000 in
theorem szChargeS_Y (v : Value) (xs : List (Int × Int × List Int × List Int × List Int)) (k0 : Int) (w : World) (h : SlR tCharge w v xs) (hs : ((zL tCharge xs : Nat) : Int) ≤ k0) (hk : k0 ≤ 1048576) :
  Calls Tryz.prog 53 #[v, .int .i64 k0] w fun e w' => e = .returned (.int .i64 (k0 - ((zL tCharge xs : Nat) : Int))) ∧ Below w.heap.size w w' := by
 have H := hd h
 obtain ⟨a, cap, rfl⟩ := slR_len h
 clear h
 have h00 := zTo_le (T := tCharge) (xs := xs) (Nat.zero_le _)
 rw [zTo_zero] at h00
 have HS := hd hs
 go_enter Tryz.func53, Tryz.ntmps53
 have hneg : ¬ k0 - (xs.length : Int) < 0 := by omega
 go_wp2
 clear hneg
 go_loopw [1, 5] (fun l i wr => ∃ k : Nat, k ≤ xs.length ∧ i = .int .i64 k ∧ l = .int .i64 (k0 - (zTo tCharge xs k : Int)) ∧ Below w.heap.size w wr) (fun _ i _ => xs.length - (intOf i).toNat)
 case atStart => exact ⟨0, Nat.zero_le _, rfl, by rw [zTo_zero], Below.refl _ _⟩
 case round =>
  obtain ⟨k, hk', rfl, rfl, hbel⟩ := hrel
  by_cases hlt : k < xs.length
  ·
   have HST := hd (zTo_step (T := tCharge) hlt)
   have HLE := hd (zTo_le (T := tCharge) (xs := xs) (k := k + 1) (by omega))
   have i1 : (0 : Int) ≤ (k : Int) := by omega
   have i2 : (k : Int) < (xs.length : Int) := by omega
   obtain ⟨b, off, cap', cs, hv, hbl, hcs, hR⟩ := slR_at (slR_below tCharge_law H.out hbel) hlt
   simp only [Value.slice.injEq] at hv
   obtain ⟨rfl, _, rfl⟩ := hv
   generalize xs.getD k tCharge.d = x at *
   obtain ⟨a0, a1, x2, x3, x4⟩ := x
   obtain ⟨v2, v3, v4, hR'⟩ := tCharge_R hR
   obtain ⟨rfl, h2, h3, h4⟩ := hR'
   have p0 : wr.cell? ⟨b, off + k * 5, none⟩ = some (Value.int .i64 a0) := hcs 0 (by decide)
   have p1 : wr.cell? ⟨b, off + k * 5 + 1, none⟩ = some (Value.int .i64 a1) := hcs 1 (by decide)
   have p2 : wr.cell? ⟨b, off + k * 5 + 2, none⟩ = some (v2) := hcs 2 (by decide)
   have p3 : wr.cell? ⟨b, off + k * 5 + 3, none⟩ = some (v3) := hcs 3 (by decide)
   have p4 : wr.cell? ⟨b, off + k * 5 + 4, none⟩ = some (v4) := hcs 4 (by decide)
   clear hcs
   have HQ : Hid (tCharge.sz (a0, a1, x2, x3, x4) = zL tInt x2 + zL tInt x3 + zL tInt x4) := hd tCharge_sz
   have hx1 : ((zL tInt x2 + zL tInt x3 + zL tInt x4 : Nat) : Int) ≤ k0 - (zTo tCharge xs k : Int) := by have := HST.out; have := HLE.out; have := HQ.out; omega
   have hx2 : k0 - (zTo tCharge xs k : Int) ≤ 1048576 := by omega
   have hneg : ¬ k0 - (zTo tCharge xs k : Int) - ((zL tInt x2 + zL tInt x3 + zL tInt x4 : Nat) : Int) < 0 := by omega
   have HC := hd (fun W b => szCharge_Y a0 a1 v2 v3 v4 x2 x3 x4 (k0 - (zTo tCharge xs k : Int)) W (slR_below tInt_law h2 b) (slR_below tInt_law h3 b) (slR_below tInt_law h4 b) hx1 hx2)
   go_wp2_with fail
   refine (HC.out _ (Below.refl _ _)).mono ?_
   rintro e w1 ⟨rfl, b1⟩
   have b2 := hbel.trans (b1.mono hbel.size)
   go_wp2
   go_roundw
   case rel => exact ⟨k + 1, by omega, by go_num, by rw [HST.out, HQ.out]; go_num, b2⟩
   case measure => simp [intOf]; omega
  ·
   obtain rfl : k = xs.length := by omega
   go_wp2
   go_ret
   exact ⟨rfl, hbel⟩
set_option maxHeartbeats 8000000 in
theorem szChargeS_N (v : Value) (xs : List (Int × Int × List Int × List Int × List Int)) (k0 : Int) (w : World) (h : SlR tCharge w v xs) (hs : k0 < ((zL tCharge xs : Nat) : Int)) (hk : k0 ≤ 1048576) (hp : 0 ≤ k0) (ho : tChargeS.ok xs) :
  Calls Tryz.prog 53 #[v, .int .i64 k0] w fun e w' => e = .returned (.int .i64 (-1)) ∧ Below w.heap.size w w' := by
 have H := hd h
 have HX := hd ho.2
 have hn := ho.1
 have HS := hd hs
 obtain ⟨a, cap, rfl⟩ := slR_len h
 clear h ho hs
 by_cases h1 : k0 < (xs.length : Int)
 ·
  have hneg : k0 - (xs.length : Int) < 0 := by omega
  go_enter Tryz.func53, Tryz.ntmps53
  go_wp2
  go_ret
  exact ⟨rfl, Below.refl _ _⟩
 ·
  go_enter Tryz.func53, Tryz.ntmps53
  have hneg : ¬ k0 - (xs.length : Int) < 0 := by omega
  go_wp2
  clear hneg
  go_loopw [1, 5] (fun l i wr => ∃ k : Nat, k ≤ xs.length ∧ i = .int .i64 k ∧ l = .int .i64 (k0 - (zTo tCharge xs k : Int)) ∧ (zTo tCharge xs k : Int) ≤ k0 ∧ Below w.heap.size w wr) (fun _ i _ => xs.length - (intOf i).toNat)
  case atStart => exact ⟨0, Nat.zero_le _, rfl, by rw [zTo_zero], by rw [zTo_zero]; omega, Below.refl _ _⟩
  case round =>
   obtain ⟨k, hk', rfl, rfl, hle, hbel⟩ := hrel
   by_cases hlt : k < xs.length
   ·
    have HST := hd (zTo_step (T := tCharge) hlt)
    have hx := HX.out k hlt
    have i1 : (0 : Int) ≤ (k : Int) := by omega
    have i2 : (k : Int) < (xs.length : Int) := by omega
    obtain ⟨b, off, cap', cs, hv, hbl, hcs, hR⟩ := slR_at (slR_below tCharge_law H.out hbel) hlt
    simp only [Value.slice.injEq] at hv
    obtain ⟨rfl, _, rfl⟩ := hv
    generalize xs.getD k tCharge.d = x at *
    obtain ⟨a0, a1, x2, x3, x4⟩ := x
    obtain ⟨v2, v3, v4, hR'⟩ := tCharge_R hR
    obtain ⟨rfl, h2, h3, h4⟩ := hR'
    have p0 : wr.cell? ⟨b, off + k * 5, none⟩ = some (Value.int .i64 a0) := hcs 0 (by decide)
    have p1 : wr.cell? ⟨b, off + k * 5 + 1, none⟩ = some (Value.int .i64 a1) := hcs 1 (by decide)
    have p2 : wr.cell? ⟨b, off + k * 5 + 2, none⟩ = some (v2) := hcs 2 (by decide)
    have p3 : wr.cell? ⟨b, off + k * 5 + 3, none⟩ = some (v3) := hcs 3 (by decide)
    have p4 : wr.cell? ⟨b, off + k * 5 + 4, none⟩ = some (v4) := hcs 4 (by decide)
    clear hcs
    have HQ : Hid (tCharge.sz (a0, a1, x2, x3, x4) = zL tInt x2 + zL tInt x3 + zL tInt x4) := hd tCharge_sz
    obtain ⟨_, ⟨_, ⟨o2, ⟨o3, o4⟩⟩⟩⟩ := hx
    have hz0 : (0 : Int) ≤ (zTo tCharge xs k : Int) := by omega
    by_cases hg : ((zL tInt x2 + zL tInt x3 + zL tInt x4 : Nat) : Int) ≤ k0 - (zTo tCharge xs k : Int)
    ·
     have hx2 : k0 - (zTo tCharge xs k : Int) ≤ 1048576 := by omega
     have hneg : ¬ k0 - (zTo tCharge xs k : Int) - ((zL tInt x2 + zL tInt x3 + zL tInt x4 : Nat) : Int) < 0 := by omega
     have HC := hd (fun W b => szCharge_Y a0 a1 v2 v3 v4 x2 x3 x4 (k0 - (zTo tCharge xs k : Int)) W (slR_below tInt_law h2 b) (slR_below tInt_law h3 b) (slR_below tInt_law h4 b) hg hx2)
     go_wp2_with fail
     refine (HC.out _ (Below.refl _ _)).mono ?_
     rintro e w1 ⟨rfl, b1⟩
     have b2 := hbel.trans (b1.mono hbel.size)
     go_wp2
     go_roundw
     case rel => exact ⟨k + 1, by omega, by go_num, by rw [HST.out, HQ.out]; go_num, by rw [HST.out, HQ.out]; omega, b2⟩
     case measure => simp [intOf]; omega
    ·
     have hx1 : k0 - (zTo tCharge xs k : Int) < ((zL tInt x2 + zL tInt x3 + zL tInt x4 : Nat) : Int) := by omega
     have hx0 : 0 ≤ k0 - (zTo tCharge xs k : Int) := by omega
     have hx2 : k0 - (zTo tCharge xs k : Int) ≤ 1048576 := by omega
     have HC := hd (fun W b => szCharge_N a0 a1 v2 v3 v4 x2 x3 x4 (k0 - (zTo tCharge xs k : Int)) W (slR_below tInt_law h2 b) (slR_below tInt_law h3 b) (slR_below tInt_law h4 b) hx1 hx2 hx0 o2 o3 o4)
     clear hg
     go_wp2_with fail
     refine (HC.out _ (Below.refl _ _)).mono ?_
     rintro e w1 ⟨rfl, b1⟩
     have b2 := hbel.trans (b1.mono hbel.size)
     go_wp2
     go_ret
     exact ⟨rfl, b2⟩
   ·
    obtain rfl : k = xs.length := by omega
    exact absurd HS.out (by show ¬ k0 < ((zTo tCharge xs xs.length : Nat) : Int); omega)
theorem Tryz.info_Charge : (Tryz.prog.info? 154).map (fun i => (i.zero, i.size)) = some (some (.agg #[.int .i64 0, .int .i64 0, .slice none 0 0, .slice none 0 0, .slice none 0 0]), 5) := by kernel_rfl
theorem Tryz.bytes_Charge : ((Tryz.prog.info? 154).map (fun i => decide (i.bytes ≤ 512))) = some true := by kernel_rfl
theorem tCharge_zero (w : World) : tCharge.O w (fun _ => False) #[.int .i64 0, .int .i64 0, .slice none 0 0, .slice none 0 0, .slice none 0 0].toList tCharge.d := tCharge_mkO (slO_nil _ _ _ (fun _ => False)) (slO_nil _ _ _ (fun _ => False)) (slO_nil _ _ _ (fun _ => False)) (fun b h => h) (fun b h => h) (fun b h => h) (fun b h _ => h) (fun b h _ => h) (fun b h _ => h)
set_option maxHeartbeats 8000000 in
theorem toChargeS_S (v : Value) (xs : List (Int × Int × List Int × List Int × List Int)) (w : World) (h : SlR tCharge w v xs) (hs : zL tCharge xs ≤ 1048576) :
  Calls Tryz.prog 60 #[v] w (FreshS 154 tCharge w xs) := by
 obtain ⟨i0, hi, hz0, hz1⟩ : ∃ i0, Tryz.prog.info? 154 = some i0 ∧ i0.zero = some (.agg #[.int .i64 0, .int .i64 0, .slice none 0 0, .slice none 0 0, .slice none 0 0]) ∧ i0.size = 5 := by
  have h0 := Tryz.info_Charge
  cases q : Tryz.prog.info? 154 with
  | none => rw [q] at h0; simp at h0
  | some i => rw [q] at h0; simp only [Option.map_some, Option.some.injEq, Prod.mk.injEq] at h0; exact ⟨i, rfl, h0.1, h0.2⟩
 have hz2 : i0.bytes ≤ 512 := by
  have h0 := Tryz.bytes_Charge
  rw [hi] at h0
  simpa using h0
 have HI := hd hi; have HZ0 := hd hz0; have HZ1 := hd hz1; have HZ2 := hd hz2
 clear hi hz0 hz1 hz2
 have H := hd h
 have hlen := zL_len hs
 have HS := hd hs
 obtain ⟨a, cap, rfl⟩ := slR_len h
 clear h hs
 go_enter Tryz.func60, Tryz.ntmps60
 go_wp2_with (at_make; refine wpList_make_full _ rfl (.tmp 6) (.tmp 6) 38 rfl w.heap.size 154 i0 (.agg #[.int .i64 0, .int .i64 0, .slice none 0 0, .slice none 0 0, .slice none 0 0]) 5 Tryz.underlying38 HI.out HZ0.out HZ1.out _ _ _ _ xs.length rfl rfl rfl rfl (by have h9 := Nat.mul_le_mul HZ2.out hlen; have h8 := Nat.mul_le_mul hlen HZ2.out; omega) (by unfold maxLen; omega) (Nat.le_refl _) ?_)
 intro w1 hown0 hg0
 have hown1 : SlO 154 tCharge w1 (since w) (.slice (some ⟨w.heap.size, 0, none⟩) xs.length xs.length) (List.replicate xs.length tCharge.d) := slO_made (z := #[.int .i64 0, .int .i64 0, .slice none 0 0, .slice none 0 0, .slice none 0 0]) tCharge_law rfl (tCharge_zero w1) (Nat.le_refl _) hown0
 have hbel1 := (Below.refl w.heap.size w).grown hg0 (Nat.le_refl _) (fun k hk => by cases hk)
 clear hown0 hg0
 go_wp2
 go_loopw [4] (fun i wr => ∃ k : Nat, k ≤ xs.length ∧ i = .int .i64 k ∧ SlO 154 tCharge wr (since w) (.slice (some ⟨w.heap.size, 0, none⟩) xs.length xs.length) (xs.take k ++ List.replicate (xs.length - k) tCharge.d) ∧ Below w.heap.size w wr) (fun i _ => xs.length - (intOf i).toNat)
 case atStart => exact ⟨0, Nat.zero_le _, rfl, by simpa using hown1, hbel1⟩
 case round =>
  obtain ⟨k, hk, rfl, hown, hbel⟩ := hrel
  by_cases hlt : k < xs.length
  ·
   have HSET := hd (cTo_step (d := tCharge.d) hlt)
   have HKL : Hid (k < (xs.take k ++ List.replicate (xs.length - k) tCharge.d).length) := hd (by rw [cTo_len hk]; exact hlt)
   have HLL := hd (cTo_len (d := tCharge.d) hk)
   have i1 : (0 : Int) ≤ (k : Int) := by omega
   have i2 : (k : Int) < (xs.length : Int) := by omega
   have hzx := zL_at HS.out hlt
   obtain ⟨b, off, cap', cs, hv, hbl, hcs, hR⟩ := slR_at (slR_below tCharge_law H.out hbel) hlt
   simp only [Value.slice.injEq] at hv
   obtain ⟨rfl, _, rfl⟩ := hv
   obtain ⟨hme, hFg, hgl, cj, Fj, Lc, hrow, hLc, hO, hFj, hput⟩ := slO_open tCharge_law hown HKL.out
   clear hme
   clear hown1 hbel1
   generalize xs.getD k tCharge.d = x at *
   generalize xs.take k ++ List.replicate (xs.length - k) tCharge.d = ys at *
   obtain ⟨a0, a1, x2, x3, x4⟩ := x
   obtain ⟨v2, v3, v4, hR'⟩ := tCharge_R hR
   obtain ⟨rfl, h2, h3, h4⟩ := hR'
   have p0 : wr.cell? ⟨b, off + k * 5, none⟩ = some (Value.int .i64 a0) := hcs 0 (by decide)
   have p1 : wr.cell? ⟨b, off + k * 5 + 1, none⟩ = some (Value.int .i64 a1) := hcs 1 (by decide)
   have p2 : wr.cell? ⟨b, off + k * 5 + 2, none⟩ = some (v2) := hcs 2 (by decide)
   have p3 : wr.cell? ⟨b, off + k * 5 + 3, none⟩ = some (v3) := hcs 3 (by decide)
   have p4 : wr.cell? ⟨b, off + k * 5 + 4, none⟩ = some (v4) := hcs 4 (by decide)
   rw [tCharge_sz] at hzx
   have S2 := hd (show zL tInt x2 ≤ 1048576 by omega)
   have S3 := hd (show zL tInt x3 ≤ 1048576 by omega)
   have S4 := hd (show zL tInt x4 ≤ 1048576 by omega)
   have HC := hd (fun w g2 g3 g4 => toCharge_T a0 a1 v2 v3 v4 x2 x3 x4 w g2 g3 g4 S2.out S3.out S4.out)
   have G2 := hd h2
   have G3 := hd h3
   have G4 := hd h4
   clear hcs hzx h2 h3 h4
   go_wp2_with fail
   refine (HC.out _ G2.out G3.out G4.out).mono ?_
   rintro e w2 ⟨cv, rfl, ow, b2⟩
   replace ow := tCharge_law.lt ow
   have ow2 := ow
   obtain ⟨u2, u3, u4, K2, K3, K4, rfl, o2, o3, o4, _, _, _, _, _, _⟩ := tCharge_O ow2
   obtain ⟨ua2, uc2, rfl⟩ := slO_len o2
   obtain ⟨ua3, uc3, rfl⟩ := slO_len o3
   obtain ⟨ua4, uc4, rfl⟩ := slO_len o4
   clear o2 o3 o4
   have r0 := row_turn (G := fun _ => False) hrow (turn_below b2) (fun _ _ => not_false)
   rw [HLL.out] at r0
   have q0 : ∃ x, w2.cell? ⟨w.heap.size, k * 5, none⟩ = some x := zq r0 (k * 5) (by have := HKL.out; rw [HLL.out] at this; show _ < xs.length * 5; omega)
   obtain ⟨y0, q0⟩ := q0
   have f0 := World.ownsRow.frozenAt r0 (k * 5)
   have q1 : ∃ x, w2.cell? ⟨w.heap.size, k * 5 + 1, none⟩ = some x := zq r0 (k * 5 + 1) (by have := HKL.out; rw [HLL.out] at this; show _ < xs.length * 5; omega)
   obtain ⟨y1, q1⟩ := q1
   have f1 := World.ownsRow.frozenAt r0 (k * 5 + 1)
   have q2 : ∃ x, w2.cell? ⟨w.heap.size, k * 5 + 2, none⟩ = some x := zq r0 (k * 5 + 2) (by have := HKL.out; rw [HLL.out] at this; show _ < xs.length * 5; omega)
   obtain ⟨y2, q2⟩ := q2
   have f2 := World.ownsRow.frozenAt r0 (k * 5 + 2)
   have q3 : ∃ x, w2.cell? ⟨w.heap.size, k * 5 + 3, none⟩ = some x := zq r0 (k * 5 + 3) (by have := HKL.out; rw [HLL.out] at this; show _ < xs.length * 5; omega)
   obtain ⟨y3, q3⟩ := q3
   have f3 := World.ownsRow.frozenAt r0 (k * 5 + 3)
   have q4 : ∃ x, w2.cell? ⟨w.heap.size, k * 5 + 4, none⟩ = some x := zq r0 (k * 5 + 4) (by have := HKL.out; rw [HLL.out] at this; show _ < xs.length * 5; omega)
   obtain ⟨y4, q4⟩ := q4
   have f4 := World.ownsRow.frozenAt r0 (k * 5 + 4)
   have b3 := hbel.trans (b2.mono hbel.size)
   have B3 := hd (((((b3.setCell (p := ⟨w.heap.size, k * 5, none⟩) (Nat.le_refl _) (.int .i64 a0)).setCell (p := ⟨w.heap.size, k * 5 + 1, none⟩) (Nat.le_refl _) (.int .i64 a1)).setCell (p := ⟨w.heap.size, k * 5 + 2, none⟩) (Nat.le_refl _) (.slice ua2 x2.length uc2)).setCell (p := ⟨w.heap.size, k * 5 + 3, none⟩) (Nat.le_refl _) (.slice ua3 x3.length uc3)).setCell (p := ⟨w.heap.size, k * 5 + 4, none⟩) (Nat.le_refl _) (.slice ua4 x4.length uc4))
   have hT : Turn (fun b => b = w.heap.size ∨ Fj b ∨ wr.heap.size ≤ b) wr (((((w2.setCell ⟨w.heap.size, k * 5, none⟩ (.int .i64 a0)).setCell ⟨w.heap.size, k * 5 + 1, none⟩ (.int .i64 a1)).setCell ⟨w.heap.size, k * 5 + 2, none⟩ (.slice ua2 x2.length uc2)).setCell ⟨w.heap.size, k * 5 + 3, none⟩ (.slice ua3 x3.length uc3)).setCell ⟨w.heap.size, k * 5 + 4, none⟩ (.slice ua4 x4.length uc4)) := ((((((turn_below b2).trans (turn_set (j := k * 5) (u := .int .i64 a0) (Or.inl rfl))).trans (turn_set (j := k * 5 + 1) (u := .int .i64 a1) (Or.inl rfl))).trans (turn_set (j := k * 5 + 2) (u := .slice ua2 x2.length uc2) (Or.inl rfl))).trans (turn_set (j := k * 5 + 3) (u := .slice ua3 x3.length uc3) (Or.inl rfl))).trans (turn_set (j := k * 5 + 4) (u := .slice ua4 x4.length uc4) (Or.inl rfl)))
   have hT2 : Turn (fun b => b = w.heap.size) w2 (((((w2.setCell ⟨w.heap.size, k * 5, none⟩ (.int .i64 a0)).setCell ⟨w.heap.size, k * 5 + 1, none⟩ (.int .i64 a1)).setCell ⟨w.heap.size, k * 5 + 2, none⟩ (.slice ua2 x2.length uc2)).setCell ⟨w.heap.size, k * 5 + 3, none⟩ (.slice ua3 x3.length uc3)).setCell ⟨w.heap.size, k * 5 + 4, none⟩ (.slice ua4 x4.length uc4)) := ((((((Turn.refl (fun b => b = w.heap.size) _).trans (turn_set (G := fun b => b = w.heap.size) (j := k * 5) (u := .int .i64 a0) rfl)).trans (turn_set (G := fun b => b = w.heap.size) (j := k * 5 + 1) (u := .int .i64 a1) rfl)).trans (turn_set (G := fun b => b = w.heap.size) (j := k * 5 + 2) (u := .slice ua2 x2.length uc2) rfl)).trans (turn_set (G := fun b => b = w.heap.size) (j := k * 5 + 3) (u := .slice ua3 x3.length uc3) rfl)).trans (turn_set (G := fun b => b = w.heap.size) (j := k * 5 + 4) (u := .slice ua4 x4.length uc4) rfl))
   have hO2 := tCharge_law.turn ow hT2 (fun b h1 h2 => by have := h1.1; simp only [since] at this; omega)
   have r9 := (World.ownsRow.stored (World.ownsRow.stored (World.ownsRow.stored (World.ownsRow.stored (World.ownsRow.stored r0 (k * 5) (.int .i64 a0)).1 (k * 5 + 1) (.int .i64 a1)).1 (k * 5 + 2) (.slice ua2 x2.length uc2)).1 (k * 5 + 3) (.slice ua3 x3.length uc3)).1 (k * 5 + 4) (.slice ua4 x4.length uc4)).1
   have hLl : Lc.length = xs.length * 5 := r0.1
   have hst := hd (hput (((((w2.setCell ⟨w.heap.size, k * 5, none⟩ (.int .i64 a0)).setCell ⟨w.heap.size, k * 5 + 1, none⟩ (.int .i64 a1)).setCell ⟨w.heap.size, k * 5 + 2, none⟩ (.slice ua2 x2.length uc2)).setCell ⟨w.heap.size, k * 5 + 3, none⟩ (.slice ua3 x3.length uc3)).setCell ⟨w.heap.size, k * 5 + 4, none⟩ (.slice ua4 x4.length uc4)) (((((Lc.set (k * 5) (.int .i64 a0)).set (k * 5 + 1) (.int .i64 a1)).set (k * 5 + 2) (.slice ua2 x2.length uc2)).set (k * 5 + 3) (.slice ua3 x3.length uc3)).set (k * 5 + 4) (.slice ua4 x4.length uc4)) [.int .i64 a0, .int .i64 a1, .slice ua2 x2.length uc2, .slice ua3 x3.length uc3, .slice ua4 x4.length uc4] _ (a0, a1, x2, x3, x4) (by rw [HLL.out]; exact r9) (fun p hp => by have hp2 : p < k * 5 ∨ k * 5 + 5 ≤ p := hp; rw [List.getElem?_set_ne (by omega)]; rw [List.getElem?_set_ne (by omega)]; rw [List.getElem?_set_ne (by omega)]; rw [List.getElem?_set_ne (by omega)]; rw [List.getElem?_set_ne (by omega)]) (fun i hi => by have hi' : i < 5 := hi; match i, hi' with | 0, _ => (show ((((((Lc.set (k * 5) (.int .i64 a0)).set (k * 5 + 1) (.int .i64 a1)).set (k * 5 + 2) (.slice ua2 x2.length uc2)).set (k * 5 + 3) (.slice ua3 x3.length uc3)).set (k * 5 + 4) (.slice ua4 x4.length uc4)))[k * 5]? = _; rw [List.getElem?_set_ne (by omega)]; rw [List.getElem?_set_ne (by omega)]; rw [List.getElem?_set_ne (by omega)]; rw [List.getElem?_set_ne (by omega)]; rw [List.getElem?_set_self (by first | omega | (simp only [List.length_set]; omega))]; rfl) | 1, _ => (show ((((((Lc.set (k * 5) (.int .i64 a0)).set (k * 5 + 1) (.int .i64 a1)).set (k * 5 + 2) (.slice ua2 x2.length uc2)).set (k * 5 + 3) (.slice ua3 x3.length uc3)).set (k * 5 + 4) (.slice ua4 x4.length uc4)))[k * 5 + 1]? = _; rw [List.getElem?_set_ne (by omega)]; rw [List.getElem?_set_ne (by omega)]; rw [List.getElem?_set_ne (by omega)]; rw [List.getElem?_set_self (by first | omega | (simp only [List.length_set]; omega))]; rfl) | 2, _ => (show ((((((Lc.set (k * 5) (.int .i64 a0)).set (k * 5 + 1) (.int .i64 a1)).set (k * 5 + 2) (.slice ua2 x2.length uc2)).set (k * 5 + 3) (.slice ua3 x3.length uc3)).set (k * 5 + 4) (.slice ua4 x4.length uc4)))[k * 5 + 2]? = _; rw [List.getElem?_set_ne (by omega)]; rw [List.getElem?_set_ne (by omega)]; rw [List.getElem?_set_self (by first | omega | (simp only [List.length_set]; omega))]; rfl) | 3, _ => (show ((((((Lc.set (k * 5) (.int .i64 a0)).set (k * 5 + 1) (.int .i64 a1)).set (k * 5 + 2) (.slice ua2 x2.length uc2)).set (k * 5 + 3) (.slice ua3 x3.length uc3)).set (k * 5 + 4) (.slice ua4 x4.length uc4)))[k * 5 + 3]? = _; rw [List.getElem?_set_ne (by omega)]; rw [List.getElem?_set_self (by first | omega | (simp only [List.length_set]; omega))]; rfl) | 4, _ => (show ((((((Lc.set (k * 5) (.int .i64 a0)).set (k * 5 + 1) (.int .i64 a1)).set (k * 5 + 2) (.slice ua2 x2.length uc2)).set (k * 5 + 3) (.slice ua3 x3.length uc3)).set (k * 5 + 4) (.slice ua4 x4.length uc4)))[k * 5 + 4]? = _; rw [List.getElem?_set_self (by first | omega | (simp only [List.length_set]; omega))]; rfl)) hO2 (fun b hb => ⟨Nat.le_trans hbel.size hb.1, Or.inr hb.1⟩) hT)
   have hst2 : SlO 154 tCharge (((((w2.setCell ⟨w.heap.size, k * 5, none⟩ (.int .i64 a0)).setCell ⟨w.heap.size, k * 5 + 1, none⟩ (.int .i64 a1)).setCell ⟨w.heap.size, k * 5 + 2, none⟩ (.slice ua2 x2.length uc2)).setCell ⟨w.heap.size, k * 5 + 3, none⟩ (.slice ua3 x3.length uc3)).setCell ⟨w.heap.size, k * 5 + 4, none⟩ (.slice ua4 x4.length uc4)) (since w) (.slice (some ⟨w.heap.size, 0, none⟩) xs.length xs.length) (xs.take (k + 1) ++ List.replicate (xs.length - (k + 1)) tCharge.d) := by have := hst.out; rw [HSET.out] at this; exact this
   have HST := hd hst2
   clear hst hst2 hT hT2 hO2 r9 r0 hrow hO hput hown hbel b2 ow b3 hLl hLc hFj
   go_wp2
   go_roundw
   case rel => exact ⟨k + 1, by omega, by go_num, HST.out, B3.out⟩
   case measure => simp [intOf]; omega
  ·
   obtain rfl : k = xs.length := by omega
   have HE : Hid (xs.take xs.length ++ List.replicate (xs.length - xs.length) tCharge.d = xs) := hd (by simp)
   rw [HE.out] at hown
   go_wp2
   go_ret
   exact ⟨_, rfl, hown, hbel⟩
set_option maxHeartbeats 8000000 in
theorem eqChargeS_S (v u : Value) (xs : List (Int × Int × List Int × List Int × List Int)) (w : World) (h : SlR tCharge w v xs) (g : SlR tCharge w u xs) (hs : zL tCharge xs ≤ 1048576) :
  Calls Tryz.prog 66 #[v, u] w fun e w' => e = .returned (.bool true) ∧ Below w.heap.size w w' := by
 have H := hd h
 have G := hd g
 have HS := hd hs
 have hlen := zL_len hs
 obtain ⟨a, cap, rfl⟩ := slR_len h
 obtain ⟨a2, cap2, rfl⟩ := slR_len g
 clear h g hs
 go_enter Tryz.func66, Tryz.ntmps66
 go_wp2
 go_loopw [5] (fun i wr => ∃ k : Nat, k ≤ xs.length ∧ i = .int .i64 k ∧ Below w.heap.size w wr) (fun i _ => xs.length - (intOf i).toNat)
 case atStart => exact ⟨0, Nat.zero_le _, rfl, Below.refl _ _⟩
 case round =>
  obtain ⟨k, hk, rfl, hbel⟩ := hrel
  by_cases hlt : k < xs.length
  ·
   obtain ⟨b, off, cap', cs, hv, hbl, hcs, hR⟩ := slR_at (slR_below tCharge_law H.out hbel) hlt
   simp only [Value.slice.injEq] at hv
   obtain ⟨rfl, _, rfl⟩ := hv
   obtain ⟨b2, off2, cap2', ds, hv2, hbl2, hds, hQ⟩ := slR_at (slR_below tCharge_law G.out hbel) hlt
   simp only [Value.slice.injEq] at hv2
   obtain ⟨rfl, _, rfl⟩ := hv2
   have hzx := zL_at HS.out hlt
   have i1 : (0 : Int) ≤ (k : Int) := by omega
   have i2 : (k : Int) < (xs.length : Int) := by omega
   generalize xs.getD k tCharge.d = x at *
   obtain ⟨a0, a1, x2, x3, x4⟩ := x
   obtain ⟨v2, v3, v4, hR'⟩ := tCharge_R hR
   obtain ⟨rfl, h2, h3, h4⟩ := hR'
   obtain ⟨u2, u3, u4, hQ'⟩ := tCharge_R hQ
   obtain ⟨rfl, g2, g3, g4⟩ := hQ'
   rw [tCharge_sz] at hzx
   have S2 := hd (show zL tInt x2 ≤ 1048576 by omega)
   have S3 := hd (show zL tInt x3 ≤ 1048576 by omega)
   have S4 := hd (show zL tInt x4 ≤ 1048576 by omega)
   have p0 : wr.cell? ⟨b, off + k * 5, none⟩ = some (Value.int .i64 a0) := hcs 0 (by decide)
   have q0 : wr.cell? ⟨b2, off2 + k * 5, none⟩ = some (Value.int .i64 a0) := hds 0 (by decide)
   have p1 : wr.cell? ⟨b, off + k * 5 + 1, none⟩ = some (Value.int .i64 a1) := hcs 1 (by decide)
   have q1 : wr.cell? ⟨b2, off2 + k * 5 + 1, none⟩ = some (Value.int .i64 a1) := hds 1 (by decide)
   have p2 : wr.cell? ⟨b, off + k * 5 + 2, none⟩ = some (v2) := hcs 2 (by decide)
   have q2 : wr.cell? ⟨b2, off2 + k * 5 + 2, none⟩ = some (u2) := hds 2 (by decide)
   have p3 : wr.cell? ⟨b, off + k * 5 + 3, none⟩ = some (v3) := hcs 3 (by decide)
   have q3 : wr.cell? ⟨b2, off2 + k * 5 + 3, none⟩ = some (u3) := hds 3 (by decide)
   have p4 : wr.cell? ⟨b, off + k * 5 + 4, none⟩ = some (v4) := hcs 4 (by decide)
   have q4 : wr.cell? ⟨b2, off2 + k * 5 + 4, none⟩ = some (u4) := hds 4 (by decide)
   clear hcs hds hzx
   go_wp2
   go_region_with (first | (go_at_call 132; refine (eqCharge_T a0 a1 v2 v3 v4 x2 x3 x4 u2 u3 u4 _ (by exact slR_same tInt_law h2 rfl rfl rfl rfl) (by exact slR_same tInt_law h3 rfl rfl rfl rfl) (by exact slR_same tInt_law h4 rfl rfl rfl rfl) (by exact slR_same tInt_law g2 rfl rfl rfl rfl) (by exact slR_same tInt_law g3 rfl rfl rfl rfl) (by exact slR_same tInt_law g4 rfl rfl rfl rfl) S2.out S3.out S4.out).mono ?_; rintro e w8 ⟨rfl, b9⟩; have b10 : Below wr.heap.size wr w8 := ⟨b9.os, b9.tape, b9.output, b9.size, b9.block⟩))
   all_goals
    have b11 := hbel.trans (b10.mono hbel.size)
    go_wp2
    go_roundw
    case rel => exact ⟨k + 1, by omega, by go_num, b11⟩
    case measure => simp [intOf]; omega
  ·
   go_wp2
   go_ret
   exact ⟨rfl, hbel⟩
set_option maxHeartbeats 8000000 in
theorem markChargeS_S (v : Value) (xs : List (Int × Int × List Int × List Int × List Int)) (F : Nat → Prop) (k : Int) (w : World) (h : SlO 154 tCharge w F v xs) (hs : zL tCharge xs ≤ 1048576) (k0 : 0 ≤ k) (k1 : k ≤ 1006632960) :
  Calls Tryz.prog 72 #[v, .int .i64 k] w fun e w' => e = .returned (.int .i64 (k + (ndL tCharge xs : Int))) ∧ SlO 154 tCharge w' F v (mAll tCharge xs k) ∧ Turn F w w' := by
 rw [← kAt_all]
 have HS := hd hs
 have hlen := zL_len hs
 rcases slO_form h with ⟨rfl, rfl⟩ | ⟨g, cap, rfl, hFg, hgw⟩
 ·
  have H := hd h
  clear h hs
  go_enter Tryz.func72, Tryz.ntmps72
  go_wp2
  go_loop [1, 5] (fun m i => i = .int .i64 0 ∧ m = .int .i64 k) (fun _ _ => 0)
  case atStart => exact ⟨rfl, rfl⟩
  case round =>
   obtain ⟨rfl, rfl⟩ := hrel
   go_wp2
   go_ret
   exact ⟨by simp [kAt, sumN], by rw [show mAll tCharge [] k = [] from rfl]; exact H.out, Turn.refl _ _⟩
 ·
  have H := hd h
  clear h hs
  go_enter Tryz.func72, Tryz.ntmps72
  go_wp2
  go_loopw [1, 5] (fun m i wr => ∃ j : Nat, j ≤ xs.length ∧ i = .int .i64 j ∧ m = .int .i64 (kAt tCharge xs k j) ∧ SlO 154 tCharge wr (fun b => F b ∧ b < w.heap.size) (.slice (some ⟨g, 0, none⟩) xs.length cap) (mTo tCharge xs k j) ∧ Turn F w wr) (fun _ i _ => xs.length - (intOf i).toNat)
  case atStart => exact ⟨0, Nat.zero_le _, rfl, by rw [kAt_zero], by rw [mTo_zero]; exact slO_lt tCharge_law H.out, Turn.refl _ _⟩
  case round =>
   obtain ⟨j, hj, rfl, rfl, hown, hon⟩ := hrel
   by_cases hlt : j < xs.length
   ·
    have i1 : (0 : Int) ≤ (j : Int) := by omega
    have i2 : (j : Int) < (xs.length : Int) := by omega
    have hjl : j < (mTo tCharge xs k j).length := by rw [mTo_len hj]; exact hlt
    have HLL := hd (mTo_len (T := tCharge) (k := k) hj)
    obtain ⟨r1, r2⟩ := kAt_range tCharge_law (by decide) (k := k) HS.out hj
    obtain ⟨r3, r4⟩ := kAt_range tCharge_law (by decide) (k := k) (j := j + 1) HS.out (by omega)
    have hzx := zL_at HS.out hlt
    have hstep := kAt_step (T := tCharge) (k := k) hlt
    have hset := mTo_step (T := tCharge) (k := k) hlt
    have hsz := hon.size
    obtain ⟨hme, hFg2, hgl, cj, Fj, Lc, hrow, hLc, hO, hFj, hput⟩ := slO_open tCharge_law hown hjl
    clear hme hFg2
    rw [mTo_at hlt] at hO
    have HM : Hid (∃ m', kAt tCharge xs k (j + 1) = m') := hd ⟨_, rfl⟩
    obtain ⟨m', hm'⟩ := HM.out
    rw [hm'] at hstep r3 r4
    have HM' := hd hm'
    clear hm' HM H hown hjl
    generalize kAt tCharge xs k j = m at *
    generalize xs.getD j tCharge.d = x at *
    rw [HLL.out] at hrow hput
    obtain ⟨a0, a1, x2, x3, x4⟩ := x
    rw [tCharge_md] at hset
    rw [tCharge_nd] at hstep
    rw [tCharge_sz] at hzx
    obtain ⟨v2, v3, v4, K2, K3, K4, rfl, o2, o3, o4, q2, q3, q4, d2_3, d2_4, d3_4⟩ := tCharge_O hO
    have S2 := hd (show zL tInt x2 ≤ 1048576 by omega)
    have N2 := ndL_le tInt_law (by decide) x2
    have S3 := hd (show zL tInt x3 ≤ 1048576 by omega)
    have N3 := ndL_le tInt_law (by decide) x3
    have S4 := hd (show zL tInt x4 ≤ 1048576 by omega)
    have N4 := ndL_le tInt_law (by decide) x4
    have R2 : Hid (0 ≤ m + 1 + 1 ∧ m + 1 + 1 ≤ 1073741824) := hd (by omega)
    have R3 : Hid (0 ≤ m + 1 + 1 + (ndL tInt x2 : Int) ∧ m + 1 + 1 + (ndL tInt x2 : Int) ≤ 1073741824) := hd (by omega)
    have R4 : Hid (0 ≤ m + 1 + 1 + (ndL tInt x2 : Int) + (ndL tInt x3 : Int) ∧ m + 1 + 1 + (ndL tInt x2 : Int) + (ndL tInt x3 : Int) ≤ 1073741824) := hd (by omega)
    have hmm : m + 1 + 1 + (ndL tInt x2 : Int) + (ndL tInt x3 : Int) + (ndL tInt x4 : Int) = m' := by omega
    have HMM := hd hmm
    have hm0 : 0 ≤ m := by omega
    have hm1 : m ≤ 1073741824 := by omega
    clear hmm hstep hzx N2 N3 N4
    have hLl : Lc.length = xs.length * 5 := hrow.1
    have HSET := hd hset
    clear hset
    have tt : Turn (fun b => b = g ∨ Fj b ∨ wr.heap.size ≤ b) wr wr := Turn.refl _ _
    have rr := hrow
    have c0 : ∃ x, wr.cell? ⟨g, j * 5, none⟩ = some x := ⟨_, (World.ownsRow.cellAt rr (j * 5) (by show j * 5 < xs.length * 5; omega)).trans (List.getElem?_eq_getElem (by have h9 := rr.1; have h8 : xs.length * tCharge.n = xs.length * 5 := rfl; omega))⟩
    obtain ⟨y0, c0⟩ := c0
    have f0 := World.ownsRow.frozenAt rr (j * 5)
    have c1 : ∃ x, wr.cell? ⟨g, j * 5 + 1, none⟩ = some x := ⟨_, (World.ownsRow.cellAt rr (j * 5 + 1) (by show j * 5 + 1 < xs.length * 5; omega)).trans (List.getElem?_eq_getElem (by have h9 := rr.1; have h8 : xs.length * tCharge.n = xs.length * 5 := rfl; omega))⟩
    obtain ⟨y1, c1⟩ := c1
    have f1 := World.ownsRow.frozenAt rr (j * 5 + 1)
    have cv2 : wr.cell? ⟨g, j * 5 + 2, none⟩ = some v2 := (World.ownsRow.cellAt rr (j * 5 + 2) (by show j * 5 + 2 < xs.length * 5; omega)).trans (by exact hLc 2 (by decide))
    go_wp2_with fail
    clear c0 f0 c1 f1 cv2
    have ts : Turn (fun b => b = g) wr ((wr.setCell ⟨g, j * 5, none⟩ (.int .i64 (m))).setCell ⟨g, j * 5 + 1, none⟩ (.int .i64 (m + 1))) := (((Turn.refl (fun b => b = g) _).trans (turn_set (G := fun b => b = g) (g := g) (j := j * 5) (u := .int .i64 (m)) rfl)).trans (turn_set (G := fun b => b = g) (g := g) (j := j * 5 + 1) (u := .int .i64 (m + 1)) rfl))
    replace rr := (World.ownsRow.stored (World.ownsRow.stored rr (j * 5) (.int .i64 (m))).1 (j * 5 + 1) (.int .i64 (m + 1))).1
    replace o2 := slO_turn tInt_law o2 ts (fun b h1 h2 => (hFj b (q2 b h1)).2.1 h2)
    replace o3 := slO_turn tInt_law o3 ts (fun b h1 h2 => (hFj b (q3 b h1)).2.1 h2)
    replace o4 := slO_turn tInt_law o4 ts (fun b h1 h2 => (hFj b (q4 b h1)).2.1 h2)
    replace tt := tt.trans (ts.mono (fun b h => Or.inl h))
    clear ts
    generalize ((wr.setCell ⟨g, j * 5, none⟩ (.int .i64 (m))).setCell ⟨g, j * 5 + 1, none⟩ (.int .i64 (m + 1))) = W0 at *
    refine (markIntS_S v2 x2 _ (m + 1 + 1) W0 o2 S2.out R2.out.1 (by have := R2.out.2; omega)).mono ?_
    rintro e w1 ⟨rfl, m2, t1⟩
    replace rr := row_turn rr t1 (fun b hb h => by simp [Value.ownBlock] at hb; exact (hFj b (q2 b h)).2.1 hb.symm)
    replace o2 := m2
    replace o3 := slO_turn tInt_law o3 t1 (fun b h1 h2 => d2_3 b h2 h1)
    replace o4 := slO_turn tInt_law o4 t1 (fun b h1 h2 => d2_4 b h2 h1)
    replace tt := tt.trans (t1.mono (fun b h => Or.inr (Or.inl (q2 b h))))
    clear t1
    have cv3 : w1.cell? ⟨g, j * 5 + 3, none⟩ = some v3 := (World.ownsRow.cellAt rr (j * 5 + 3) (by show j * 5 + 3 < xs.length * 5; omega)).trans (by rw [List.getElem?_set_ne (by omega)]; rw [List.getElem?_set_ne (by omega)]; exact hLc 3 (by decide))
    go_wp2_with fail
    clear cv3
    refine (markIntS_S v3 x3 _ (m + 1 + 1 + (ndL tInt x2 : Int)) w1 o3 S3.out R3.out.1 (by have := R3.out.2; omega)).mono ?_
    rintro e w2 ⟨rfl, m3, t1⟩
    replace rr := row_turn rr t1 (fun b hb h => by simp [Value.ownBlock] at hb; exact (hFj b (q3 b h)).2.1 hb.symm)
    replace o2 := slO_turn tInt_law o2 t1 (fun b h1 h2 => d2_3 b h1 h2)
    replace o3 := m3
    replace o4 := slO_turn tInt_law o4 t1 (fun b h1 h2 => d3_4 b h2 h1)
    replace tt := tt.trans (t1.mono (fun b h => Or.inr (Or.inl (q3 b h))))
    clear t1
    have cv4 : w2.cell? ⟨g, j * 5 + 4, none⟩ = some v4 := (World.ownsRow.cellAt rr (j * 5 + 4) (by show j * 5 + 4 < xs.length * 5; omega)).trans (by rw [List.getElem?_set_ne (by omega)]; rw [List.getElem?_set_ne (by omega)]; exact hLc 4 (by decide))
    go_wp2_with fail
    clear cv4
    refine (markIntS_S v4 x4 _ (m + 1 + 1 + (ndL tInt x2 : Int) + (ndL tInt x3 : Int)) w2 o4 S4.out R4.out.1 (by have := R4.out.2; omega)).mono ?_
    rintro e w3 ⟨rfl, m4, t1⟩
    replace rr := row_turn rr t1 (fun b hb h => by simp [Value.ownBlock] at hb; exact (hFj b (q4 b h)).2.1 hb.symm)
    replace o2 := slO_turn tInt_law o2 t1 (fun b h1 h2 => d2_4 b h1 h2)
    replace o3 := slO_turn tInt_law o3 t1 (fun b h1 h2 => d3_4 b h1 h2)
    replace o4 := m4
    replace tt := tt.trans (t1.mono (fun b h => Or.inr (Or.inl (q4 b h))))
    clear t1
    have hO2 := tCharge_mkO (F := Fj) (a0 := m) (a1 := m + 1) o2 o3 o4 q2 q3 q4 d2_3 d2_4 d3_4
    have hst := hput w3 ((Lc.set (j * 5) (.int .i64 (m))).set (j * 5 + 1) (.int .i64 (m + 1))) [.int .i64 (m), .int .i64 (m + 1), v2, v3, v4] Fj _ rr (fun p hp => by have hp2 : p < j * 5 ∨ j * 5 + 5 ≤ p := hp; rw [List.getElem?_set_ne (by omega)]; rw [List.getElem?_set_ne (by omega)]) (fun i hi => by have hi' : i < 5 := hi; match i, hi' with | 0, _ => (show (((Lc.set (j * 5) (.int .i64 (m))).set (j * 5 + 1) (.int .i64 (m + 1))))[j * 5]? = _; rw [List.getElem?_set_ne (by omega)]; rw [List.getElem?_set_self (by first | omega | (simp only [List.length_set]; omega))]; rfl) | 1, _ => (show (((Lc.set (j * 5) (.int .i64 (m))).set (j * 5 + 1) (.int .i64 (m + 1))))[j * 5 + 1]? = _; rw [List.getElem?_set_self (by first | omega | (simp only [List.length_set]; omega))]; rfl) | 2, _ => (show (((Lc.set (j * 5) (.int .i64 (m))).set (j * 5 + 1) (.int .i64 (m + 1))))[j * 5 + 2]? = _; rw [List.getElem?_set_ne (by omega)]; rw [List.getElem?_set_ne (by omega)]; exact hLc 2 (by decide)) | 3, _ => (show (((Lc.set (j * 5) (.int .i64 (m))).set (j * 5 + 1) (.int .i64 (m + 1))))[j * 5 + 3]? = _; rw [List.getElem?_set_ne (by omega)]; rw [List.getElem?_set_ne (by omega)]; exact hLc 3 (by decide)) | 4, _ => (show (((Lc.set (j * 5) (.int .i64 (m))).set (j * 5 + 1) (.int .i64 (m + 1))))[j * 5 + 4]? = _; rw [List.getElem?_set_ne (by omega)]; rw [List.getElem?_set_ne (by omega)]; exact hLc 4 (by decide))) hO2 (fun b hb => ⟨(hFj b hb).1, Or.inl hb⟩) tt
    rw [HSET.out] at hst
    have HST := hd hst
    have hon2 := hon.trans (Turn.mono (G := fun b => F b ∧ b < w.heap.size) (G' := F) ⟨tt.os, tt.tape, tt.output, tt.size, fun b hb hn => tt.block b hb (fun h => hn (h.elim (fun h => by rw [h]; exact ⟨hFg, hgw⟩) (fun h => h.elim (fun h => (hFj b h).1) (fun h => absurd hb (Nat.not_lt.2 h)))))⟩ (fun b h => h.1))
    clear hst hput tt rr hO2 hon hFj hLc hLl o2 o3 o4
    rw [HMM.out]
    go_wp2
    go_roundw
    case rel => exact ⟨j + 1, by omega, by go_num, by rw [HM'.out], HST.out, hon2⟩
    case measure => simp [intOf]; omega
   ·
    obtain rfl : j = xs.length := by omega
    rw [mTo_all] at hown
    go_wp2
    go_ret
    refine ⟨?_, slO_mono hown (fun b h => h.1), hon⟩
    simp
end Go.Proofs.YtogbgeekmdnhlaaGreatDoor
