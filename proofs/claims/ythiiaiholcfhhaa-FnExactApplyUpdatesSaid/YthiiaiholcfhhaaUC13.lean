/-
 Texts of the proof, merged: LawApplyUpdates.
-/
import Derived.Test.YthiiaiholcfhhaaUC1
import Derived.Test.YthiiaiholcfhhaaUC2
import Derived.Test.YthiiaiholcfhhaaUC3
namespace Go.Proofs.Ythiiaiholcfhhaa
open Go.RowKit
set_option linter.unusedVariables false
set_option linter.unusedSimpArgs false
set_option maxHeartbeats 32000000 in
set_option maxRecDepth 100000 in
theorem law_fnExactApplyUpdates (a0_1 : Int) (v0_0 : Value) (x0_0 : List (List (Int × List Int × Int × Int))) (v1_0 : Value) (x1_0 : List (Int × (Int × List Int) × Int × Int)) (r0 : List (List (Int × List Int × Int × Int)) × Int) (r1 : Int) (w : World) (h0_0 : SlR tVersionS w v0_0 x0_0) (h1_0 : SlR tUpdate w v1_0 x1_0) (o0_0 : tVersionSS.ok x0_0) (o1_0 : tUpdateS.ok x1_0) (z0 : tStore.sz r0 ≤ 1048576)
  (hspec : ∀ (v0_0 v1_0 : Value) (w : World), SlR tVersionS w v0_0 x0_0 → SlR tUpdate w v1_0 x1_0 → zL tVersionS x0_0 + zL tUpdate x1_0 ≤ 1048576 → Calls Try.prog 23 #[.agg #[v0_0, .int .i64 a0_1], v1_0] w (fun e w' => ∃ (g0 : List Value) (G0 : Nat → Prop), e = .returned (.tuple #[.agg g0.toArray, .int .i64 r1]) ∧ tStore.O w' G0 g0 r0 ∧ (∀ b, G0 b → w.heap.size ≤ b) ∧ Below w.heap.size w w'))
  (himpl : ∀ (v0_0 v1_0 : Value) (w : World), SlR tVersionS w v0_0 x0_0 → SlR tUpdate w v1_0 x1_0 → zL tVersionS x0_0 + zL tUpdate x1_0 ≤ 1048576 → Calls Try.prog 25 #[.agg #[v0_0, .int .i64 a0_1], v1_0] w (fun e w' => ∃ (g0 : List Value) (G0 : Nat → Prop), e = .returned (.tuple #[.agg g0.toArray, .int .i64 r1]) ∧ tStore.O w' G0 g0 r0 ∧ (∀ b, G0 b → w.heap.size ≤ b) ∧ Below w.heap.size w w')) :
  Calls Try.prog 5 #[.agg #[v0_0, .int .i64 a0_1], v1_0] w fun e w' => e = .returned (.bool true) ∧ Below w.heap.size w w' := by
 obtain ⟨c0_0, k0_0, rfl⟩ := slR_len h0_0
 obtain ⟨c1_0, k1_0, rfl⟩ := slR_len h1_0
 have HB0 : Hid (Below w.heap.size w (w.alloc (.cells #[.slice c0_0 x0_0.length k0_0, .int .i64 a0_1] 37))) := Lib.hid ((Below.refl _ w).alloc (Nat.le_refl _) _)
 have B0 : Hid ((w.alloc (.cells #[.slice c0_0 x0_0.length k0_0, .int .i64 a0_1] 37)).heap[w.heap.size]? = some (.cells #[.slice c0_0 x0_0.length k0_0, .int .i64 a0_1] 37 (0, 0))) := Lib.hid (by have := heap_alloc_new w (.cells #[.slice c0_0 x0_0.length k0_0, .int .i64 a0_1] 37); simpa only [World.size_alloc] using this)
 have A0_0 : Hid (SlR tVersionS (w.alloc (.cells #[.slice c0_0 x0_0.length k0_0, .int .i64 a0_1] 37)) (.slice c0_0 x0_0.length k0_0) x0_0) := Lib.hid (slR_below tVersionS_law h0_0 HB0.out)
 have A1_0 : Hid (SlR tUpdate (w.alloc (.cells #[.slice c0_0 x0_0.length k0_0, .int .i64 a0_1] 37)) (.slice c1_0 x1_0.length k1_0) x1_0) := Lib.hid (slR_below tUpdate_law h1_0 HB0.out)
 have O0_0 := Lib.hid o0_0
 have O1_0 := Lib.hid o1_0
 clear h0_0 o0_0 h1_0 o1_0
 have HSP := Lib.hid hspec
 have HIM := Lib.hid himpl
 clear hspec himpl
 have Z0 := Lib.hid z0
 clear z0
 by_cases c0 : ((zL tVersionS x0_0 : Nat) : Int) ≤ (1048576 : Int)
 ·
  by_cases c1 : ((zL tUpdate x1_0 : Nat) : Int) ≤ (1048576 : Int) - ((zL tVersionS x0_0 : Nat) : Int)
  ·
   have HZ0 : Hid (((zL tVersionS x0_0 : Nat) : Int) ≤ (1048576 : Int)) := Lib.hid c0
   have HK0 : Hid ((1048576 : Int) ≤ 1048576) := Lib.hid (by omega)
   have hn0 : ¬ (1048576 : Int) - ((zL tVersionS x0_0 : Nat) : Int) < 0 := by omega
   have HZ1 : Hid (((zL tUpdate x1_0 : Nat) : Int) ≤ (1048576 : Int) - ((zL tVersionS x0_0 : Nat) : Int)) := Lib.hid c1
   have HK1 : Hid ((1048576 : Int) - ((zL tVersionS x0_0 : Nat) : Int) ≤ 1048576) := Lib.hid (by omega)
   have hn1 : ¬ (1048576 : Int) - ((zL tVersionS x0_0 : Nat) : Int) - ((zL tUpdate x1_0 : Nat) : Int) < 0 := by omega
   have HT : Hid (zL tVersionS x0_0 + zL tUpdate x1_0 ≤ 1048576) := Lib.hid (by omega)
   have S0_0 : Hid (zL tVersionS x0_0 ≤ 1048576) := Lib.hid (by omega)
   have S1_0 : Hid (zL tUpdate x1_0 ≤ 1048576) := Lib.hid (by omega)
   have N0_0 := ndL_le tVersionS_law (by decide) x0_0
   have N1_0 := ndL_le tUpdate_law (by decide) x1_0
   have M0 : Hid (0 ≤ (1 : Int) ∧ (1 : Int) ≤ 134217728) := Lib.hid (by have := HT.out; omega)
   have M1 : Hid (0 ≤ (1 + (ndL tVersionS x0_0 : Int) : Int) ∧ (1 + (ndL tVersionS x0_0 : Int) : Int) ≤ 134217728) := Lib.hid (by have := HT.out; omega)
   have hk : ¬ (1 + (ndL tVersionS x0_0 : Int) + (ndL tUpdate x1_0 : Int) : Int) < 0 := by omega
   clear N0_0 N1_0
   have e1 : (r1 != r1) = false := by simp
   obtain ⟨xr0_0, ar0_1⟩ := r0
   have ZZ0 := Z0.out
   rw [tStore_sz] at ZZ0
   have NR0_0 := ndL_le tVersionS_law (by decide) xr0_0
   have Z0_0 : Hid (zL tVersionS xr0_0 ≤ 1048576) := Lib.hid (by omega)
   have MR0 : Hid (0 ≤ (1 : Int) ∧ (1 : Int) ≤ 134217728) := Lib.hid (by omega)
   have hh0 : ¬ (1 + (ndL tVersionS xr0_0 : Int) : Int) < 0 := by omega
   have hq : ((1 + (ndL tVersionS xr0_0 : Int) : Int) != 1 + (ndL tVersionS xr0_0 : Int)) = false := by simp
   clear ZZ0 NR0_0
   clear c0 c1
   go_enter Try.func5, Try.ntmps5
   go_wp2_with fail
   have Y_W : Hid (w.heap.size + 1 ≤ (w.alloc (.cells #[.slice c0_0 x0_0.length k0_0, .int .i64 a0_1] 37)).heap.size) := Lib.hid (by simp [World.size_alloc])
   generalize (w.alloc (.cells #[.slice c0_0 x0_0.length k0_0, .int .i64 a0_1] 37)) = W at *
   have d := Lib.hid (Below.refl W.heap.size W)
   refine (szStore_Y a0_1 (.slice c0_0 x0_0.length k0_0) x0_0 ((1048576 : Int)) W (slR_below tVersionS_law A0_0.out d.out) HZ0.out HK0.out).mono ?_
   rintro e v1 ⟨rfl, c1⟩
   replace B0 := Lib.hid ((c1.block w.heap.size (Array.getElem?_eq_some_iff.1 B0.out).1).trans B0.out)
   replace d := Lib.hid (d.out.trans (c1.mono d.out.size))
   have Z_v1 := Lib.hid (show W.heap.size ≤ v1.heap.size from c1.size)
   clear c1
   go_wp2_with fail
   refine (szUpdateS_Y (.slice c1_0 x1_0.length k1_0) x1_0 ((1048576 : Int) - ((zL tVersionS x0_0 : Nat) : Int)) v1 (slR_below tUpdate_law A1_0.out d.out) HZ1.out HK1.out).mono ?_
   rintro e v2 ⟨rfl, c2⟩
   replace B0 := Lib.hid ((c2.block w.heap.size (Array.getElem?_eq_some_iff.1 B0.out).1).trans B0.out)
   replace d := Lib.hid (d.out.trans (c2.mono d.out.size))
   have Z_v2 := Lib.hid (show v1.heap.size ≤ v2.heap.size from c2.size)
   clear c2
   have p_B0_0 := (cell_of_row v2 _ 0 _ _ _ B0.out).trans (show _ = some (Value.slice c0_0 x0_0.length k0_0) from rfl)
   have p_B0_1 := (cell_of_row v2 _ 1 _ _ _ B0.out).trans (show _ = some (Value.int .i64 a0_1) from rfl)
   go_wp2_with fail
   clear p_B0_0 p_B0_1
   refine (toStore_T a0_1 (.slice c0_0 x0_0.length k0_0) x0_0 v2 (slR_below tVersionS_law A0_0.out d.out) S0_0.out).mono ?_
   rintro e v3 ⟨cs, rfl, ow, c3⟩
   replace B0 := Lib.hid ((c3.block w.heap.size (Array.getElem?_eq_some_iff.1 B0.out).1).trans B0.out)
   replace d := Lib.hid (d.out.trans (c3.mono d.out.size))
   have Z_v3 := Lib.hid (show v2.heap.size ≤ v3.heap.size from c3.size)
   clear c3
   replace ow := tStore_law.lt ow
   obtain ⟨y3_0, K3_0, rfl, p3_0, w3_0⟩ := tStore_O ow
   obtain ⟨ya3_0, yc3_0, rfl⟩ := slO_len p3_0
   have P3_0 := Lib.hid p3_0
   have Q3_0 := Lib.hid (fun b h => (show v2.heap.size ≤ b ∧ b < v3.heap.size from w3_0 b h))
   clear p3_0 w3_0 ow
   go_wp2_with fail
   refine (toUpdateS_S (.slice c1_0 x1_0.length k1_0) x1_0 v3 (slR_below tUpdate_law A1_0.out d.out) S1_0.out).mono ?_
   rintro e v4 ⟨y, rfl, o, c4⟩
   replace B0 := Lib.hid ((c4.block w.heap.size (Array.getElem?_eq_some_iff.1 B0.out).1).trans B0.out)
   replace P3_0 := Lib.hid (slO_fresh tVersionS_law P3_0.out c4)
   replace d := Lib.hid (d.out.trans (c4.mono d.out.size))
   have Z_v4 := Lib.hid (show v3.heap.size ≤ v4.heap.size from c4.size)
   clear c4
   obtain ⟨ya4, yc4, rfl⟩ := slO_len o
   have P4 := Lib.hid (slO_lt tUpdate_law o)
   have Q4 := Lib.hid (fun b (h : since v3 b ∧ b < v4.heap.size) => (show v3.heap.size ≤ b ∧ b < v4.heap.size from h))
   clear o
   go_wp2_with fail
   refine (HSP.out (.slice ya3_0 x0_0.length yc3_0) (.slice ya4 x1_0.length yc4) v4 (slO_reads tVersionS_law P3_0.out) (slO_reads tUpdate_law P4.out) HT.out ).mono ?_
   rintro e v5 ⟨g0, G0, rfl, o0, q0, c5⟩
   replace B0 := Lib.hid ((c5.block w.heap.size (Array.getElem?_eq_some_iff.1 B0.out).1).trans B0.out)
   replace P3_0 := Lib.hid (slO_fresh tVersionS_law P3_0.out c5)
   replace P4 := Lib.hid (slO_fresh tUpdate_law P4.out c5)
   replace d := Lib.hid (d.out.trans (c5.mono d.out.size))
   have Z_v5 := Lib.hid (show v4.heap.size ≤ v5.heap.size from c5.size)
   clear c5
   replace o0 := tStore_law.lt o0
   obtain ⟨y5_0, K5_0, rfl, p5_0, w5_0⟩ := tStore_O o0
   obtain ⟨ya5_0, yc5_0, rfl⟩ := slO_len p5_0
   have P5_0 := Lib.hid p5_0
   have Q5_0 := Lib.hid (fun b h => (show v4.heap.size ≤ b ∧ b < v5.heap.size from ⟨q0 b (w5_0 b h).1, (w5_0 b h).2⟩))
   clear p5_0 w5_0 o0 q0
   have hal : Below v5.heap.size v5 (v5.alloc (.cells #[.slice ya5_0 xr0_0.length yc5_0, .int .i64 ar0_1] 41)) := (Below.refl _ _).alloc (Nat.le_refl _) _
   have X1 := Lib.hid (heap_alloc_new v5 (.cells #[.slice ya5_0 xr0_0.length yc5_0, .int .i64 ar0_1] 41))
   have Y_X1 := Lib.hid (show v5.heap.size < (v5.alloc (.cells #[.slice ya5_0 xr0_0.length yc5_0, .int .i64 ar0_1] 41)).heap.size by simp [World.size_alloc])
   replace B0 := Lib.hid ((hal.block w.heap.size (Array.getElem?_eq_some_iff.1 B0.out).1).trans B0.out)
   replace P3_0 := Lib.hid (slO_fresh tVersionS_law P3_0.out hal)
   replace P4 := Lib.hid (slO_fresh tUpdate_law P4.out hal)
   replace P5_0 := Lib.hid (slO_fresh tVersionS_law P5_0.out hal)
   replace d := Lib.hid (d.out.trans (hal.mono d.out.size))
   clear hal
   have p_B0_0 := (cell_of_row (v5.alloc (.cells #[.slice ya5_0 xr0_0.length yc5_0, .int .i64 ar0_1] 41)) _ 0 _ _ _ B0.out).trans (show _ = some (Value.slice c0_0 x0_0.length k0_0) from rfl)
   have p_B0_1 := (cell_of_row (v5.alloc (.cells #[.slice ya5_0 xr0_0.length yc5_0, .int .i64 ar0_1] 41)) _ 1 _ _ _ B0.out).trans (show _ = some (Value.int .i64 a0_1) from rfl)
   go_wp2_with fail
   clear p_B0_0 p_B0_1
   generalize (v5.alloc (.cells #[.slice ya5_0 xr0_0.length yc5_0, .int .i64 ar0_1] 41)) = u6 at *
   refine (toStore_T a0_1 (.slice c0_0 x0_0.length k0_0) x0_0 u6 (slR_below tVersionS_law A0_0.out d.out) S0_0.out).mono ?_
   rintro e v7 ⟨cs, rfl, ow, c7⟩
   replace B0 := Lib.hid ((c7.block w.heap.size (Array.getElem?_eq_some_iff.1 B0.out).1).trans B0.out)
   replace X1 := Lib.hid ((c7.block v5.heap.size (Array.getElem?_eq_some_iff.1 X1.out).1).trans X1.out)
   replace P3_0 := Lib.hid (slO_fresh tVersionS_law P3_0.out c7)
   replace P4 := Lib.hid (slO_fresh tUpdate_law P4.out c7)
   replace P5_0 := Lib.hid (slO_fresh tVersionS_law P5_0.out c7)
   replace d := Lib.hid (d.out.trans (c7.mono d.out.size))
   have Z_v7 := Lib.hid (show u6.heap.size ≤ v7.heap.size from c7.size)
   clear c7
   replace ow := tStore_law.lt ow
   obtain ⟨y7_0, K7_0, rfl, p7_0, w7_0⟩ := tStore_O ow
   obtain ⟨ya7_0, yc7_0, rfl⟩ := slO_len p7_0
   have P7_0 := Lib.hid p7_0
   have Q7_0 := Lib.hid (fun b h => (show u6.heap.size ≤ b ∧ b < v7.heap.size from w7_0 b h))
   clear p7_0 w7_0 ow
   have hal : Below v7.heap.size v7 (v7.alloc (.cells #[.slice ya7_0 x0_0.length yc7_0, .int .i64 a0_1] 41)) := (Below.refl _ _).alloc (Nat.le_refl _) _
   have X2 := Lib.hid (heap_alloc_new v7 (.cells #[.slice ya7_0 x0_0.length yc7_0, .int .i64 a0_1] 41))
   have Y_X2 := Lib.hid (show v7.heap.size < (v7.alloc (.cells #[.slice ya7_0 x0_0.length yc7_0, .int .i64 a0_1] 41)).heap.size by simp [World.size_alloc])
   replace B0 := Lib.hid ((hal.block w.heap.size (Array.getElem?_eq_some_iff.1 B0.out).1).trans B0.out)
   replace X1 := Lib.hid ((hal.block v5.heap.size (Array.getElem?_eq_some_iff.1 X1.out).1).trans X1.out)
   replace P3_0 := Lib.hid (slO_fresh tVersionS_law P3_0.out hal)
   replace P4 := Lib.hid (slO_fresh tUpdate_law P4.out hal)
   replace P5_0 := Lib.hid (slO_fresh tVersionS_law P5_0.out hal)
   replace P7_0 := Lib.hid (slO_fresh tVersionS_law P7_0.out hal)
   replace d := Lib.hid (d.out.trans (hal.mono d.out.size))
   clear hal
   go_wp2_with fail
   generalize (v7.alloc (.cells #[.slice ya7_0 x0_0.length yc7_0, .int .i64 a0_1] 41)) = u8 at *
   refine (toUpdateS_S (.slice c1_0 x1_0.length k1_0) x1_0 u8 (slR_below tUpdate_law A1_0.out d.out) S1_0.out).mono ?_
   rintro e v9 ⟨y, rfl, o, c9⟩
   replace B0 := Lib.hid ((c9.block w.heap.size (Array.getElem?_eq_some_iff.1 B0.out).1).trans B0.out)
   replace X1 := Lib.hid ((c9.block v5.heap.size (Array.getElem?_eq_some_iff.1 X1.out).1).trans X1.out)
   replace X2 := Lib.hid ((c9.block v7.heap.size (Array.getElem?_eq_some_iff.1 X2.out).1).trans X2.out)
   replace P3_0 := Lib.hid (slO_fresh tVersionS_law P3_0.out c9)
   replace P4 := Lib.hid (slO_fresh tUpdate_law P4.out c9)
   replace P5_0 := Lib.hid (slO_fresh tVersionS_law P5_0.out c9)
   replace P7_0 := Lib.hid (slO_fresh tVersionS_law P7_0.out c9)
   replace d := Lib.hid (d.out.trans (c9.mono d.out.size))
   have Z_v9 := Lib.hid (show u8.heap.size ≤ v9.heap.size from c9.size)
   clear c9
   obtain ⟨ya9, yc9, rfl⟩ := slO_len o
   have P9 := Lib.hid (slO_lt tUpdate_law o)
   have Q9 := Lib.hid (fun b (h : since u8 b ∧ b < v9.heap.size) => (show u8.heap.size ≤ b ∧ b < v9.heap.size from h))
   clear o
   have p_X2_0 := (cell_of_row v9 _ 0 _ _ _ X2.out).trans (show _ = some (Value.slice ya7_0 x0_0.length yc7_0) from rfl)
   have p_X2_1 := (cell_of_row v9 _ 1 _ _ _ X2.out).trans (show _ = some (Value.int .i64 a0_1) from rfl)
   go_wp2_with fail
   clear p_X2_0 p_X2_1
   refine (HIM.out (.slice ya7_0 x0_0.length yc7_0) (.slice ya9 x1_0.length yc9) v9 (slO_reads tVersionS_law P7_0.out) (slO_reads tUpdate_law P9.out) HT.out ).mono ?_
   rintro e v10 ⟨g0, G0, rfl, o0, q0, c10⟩
   replace B0 := Lib.hid ((c10.block w.heap.size (Array.getElem?_eq_some_iff.1 B0.out).1).trans B0.out)
   replace X1 := Lib.hid ((c10.block v5.heap.size (Array.getElem?_eq_some_iff.1 X1.out).1).trans X1.out)
   replace X2 := Lib.hid ((c10.block v7.heap.size (Array.getElem?_eq_some_iff.1 X2.out).1).trans X2.out)
   replace P3_0 := Lib.hid (slO_fresh tVersionS_law P3_0.out c10)
   replace P4 := Lib.hid (slO_fresh tUpdate_law P4.out c10)
   replace P5_0 := Lib.hid (slO_fresh tVersionS_law P5_0.out c10)
   replace P7_0 := Lib.hid (slO_fresh tVersionS_law P7_0.out c10)
   replace P9 := Lib.hid (slO_fresh tUpdate_law P9.out c10)
   replace d := Lib.hid (d.out.trans (c10.mono d.out.size))
   have Z_v10 := Lib.hid (show v9.heap.size ≤ v10.heap.size from c10.size)
   clear c10
   replace o0 := tStore_law.lt o0
   obtain ⟨y10_0, K10_0, rfl, p10_0, w10_0⟩ := tStore_O o0
   obtain ⟨ya10_0, yc10_0, rfl⟩ := slO_len p10_0
   have P10_0 := Lib.hid p10_0
   have Q10_0 := Lib.hid (fun b h => (show v9.heap.size ≤ b ∧ b < v10.heap.size from ⟨q0 b (w10_0 b h).1, (w10_0 b h).2⟩))
   clear p10_0 w10_0 o0 q0
   have hal : Below v10.heap.size v10 (v10.alloc (.cells #[.slice ya10_0 xr0_0.length yc10_0, .int .i64 ar0_1] 41)) := (Below.refl _ _).alloc (Nat.le_refl _) _
   have X3 := Lib.hid (heap_alloc_new v10 (.cells #[.slice ya10_0 xr0_0.length yc10_0, .int .i64 ar0_1] 41))
   have Y_X3 := Lib.hid (show v10.heap.size < (v10.alloc (.cells #[.slice ya10_0 xr0_0.length yc10_0, .int .i64 ar0_1] 41)).heap.size by simp [World.size_alloc])
   replace B0 := Lib.hid ((hal.block w.heap.size (Array.getElem?_eq_some_iff.1 B0.out).1).trans B0.out)
   replace X1 := Lib.hid ((hal.block v5.heap.size (Array.getElem?_eq_some_iff.1 X1.out).1).trans X1.out)
   replace X2 := Lib.hid ((hal.block v7.heap.size (Array.getElem?_eq_some_iff.1 X2.out).1).trans X2.out)
   replace P3_0 := Lib.hid (slO_fresh tVersionS_law P3_0.out hal)
   replace P4 := Lib.hid (slO_fresh tUpdate_law P4.out hal)
   replace P5_0 := Lib.hid (slO_fresh tVersionS_law P5_0.out hal)
   replace P7_0 := Lib.hid (slO_fresh tVersionS_law P7_0.out hal)
   replace P9 := Lib.hid (slO_fresh tUpdate_law P9.out hal)
   replace P10_0 := Lib.hid (slO_fresh tVersionS_law P10_0.out hal)
   replace d := Lib.hid (d.out.trans (hal.mono d.out.size))
   clear hal
   have p_X1_0 := (cell_of_row (v10.alloc (.cells #[.slice ya10_0 xr0_0.length yc10_0, .int .i64 ar0_1] 41)) _ 0 _ _ _ X1.out).trans (show _ = some (Value.slice ya5_0 xr0_0.length yc5_0) from rfl)
   have p_X1_1 := (cell_of_row (v10.alloc (.cells #[.slice ya10_0 xr0_0.length yc10_0, .int .i64 ar0_1] 41)) _ 1 _ _ _ X1.out).trans (show _ = some (Value.int .i64 ar0_1) from rfl)
   have p_X3_0 := (cell_of_row (v10.alloc (.cells #[.slice ya10_0 xr0_0.length yc10_0, .int .i64 ar0_1] 41)) _ 0 _ _ _ X3.out).trans (show _ = some (Value.slice ya10_0 xr0_0.length yc10_0) from rfl)
   have p_X3_1 := (cell_of_row (v10.alloc (.cells #[.slice ya10_0 xr0_0.length yc10_0, .int .i64 ar0_1] 41)) _ 1 _ _ _ X3.out).trans (show _ = some (Value.int .i64 ar0_1) from rfl)
   go_wp2_with fail
   clear p_X1_0 p_X1_1 p_X3_0 p_X3_1
   generalize (v10.alloc (.cells #[.slice ya10_0 xr0_0.length yc10_0, .int .i64 ar0_1] 41)) = u11 at *
   refine (eqStore_T ar0_1 (.slice ya10_0 xr0_0.length yc10_0) xr0_0 (.slice ya5_0 xr0_0.length yc5_0) u11 (slO_reads tVersionS_law P10_0.out) (slO_reads tVersionS_law P5_0.out) Z0_0.out).mono ?_
   rintro e v12 ⟨rfl, c12⟩
   replace B0 := Lib.hid ((c12.block w.heap.size (Array.getElem?_eq_some_iff.1 B0.out).1).trans B0.out)
   replace X1 := Lib.hid ((c12.block v5.heap.size (Array.getElem?_eq_some_iff.1 X1.out).1).trans X1.out)
   replace X2 := Lib.hid ((c12.block v7.heap.size (Array.getElem?_eq_some_iff.1 X2.out).1).trans X2.out)
   replace X3 := Lib.hid ((c12.block v10.heap.size (Array.getElem?_eq_some_iff.1 X3.out).1).trans X3.out)
   replace P3_0 := Lib.hid (slO_fresh tVersionS_law P3_0.out c12)
   replace P4 := Lib.hid (slO_fresh tUpdate_law P4.out c12)
   replace P5_0 := Lib.hid (slO_fresh tVersionS_law P5_0.out c12)
   replace P7_0 := Lib.hid (slO_fresh tVersionS_law P7_0.out c12)
   replace P9 := Lib.hid (slO_fresh tUpdate_law P9.out c12)
   replace P10_0 := Lib.hid (slO_fresh tVersionS_law P10_0.out c12)
   replace d := Lib.hid (d.out.trans (c12.mono d.out.size))
   have Z_v12 := Lib.hid (show u11.heap.size ≤ v12.heap.size from c12.size)
   clear c12
   go_wp2
   have p_B0_0 := (cell_of_row v12 _ 0 _ _ _ B0.out).trans (show _ = some (Value.slice c0_0 x0_0.length k0_0) from rfl)
   have p_B0_1 := (cell_of_row v12 _ 1 _ _ _ B0.out).trans (show _ = some (Value.int .i64 a0_1) from rfl)
   have p_X2_0 := (cell_of_row v12 _ 0 _ _ _ X2.out).trans (show _ = some (Value.slice ya7_0 x0_0.length yc7_0) from rfl)
   have p_X2_1 := (cell_of_row v12 _ 1 _ _ _ X2.out).trans (show _ = some (Value.int .i64 a0_1) from rfl)
   refine wp_region_held_drew (S := fun w' => w'.cell? ⟨w.heap.size, 0, none⟩ = some (Value.slice c0_0 x0_0.length k0_0) ∧ w'.cell? ⟨w.heap.size, 1, none⟩ = some (Value.int .i64 a0_1) ∧ w'.cell? ⟨v7.heap.size, 0, none⟩ = some (Value.slice ya7_0 x0_0.length yc7_0) ∧ w'.cell? ⟨v7.heap.size, 1, none⟩ = some (Value.int .i64 a0_1)) (by kernel_rfl) ⟨p_B0_0, p_B0_1, p_X2_0, p_X2_1⟩ (fun hHeld => ?_)
   clear p_B0_0 p_B0_1 p_X2_0 p_X2_1
   have cd13 : Below v12.heap.size v12 v12.drew := below_drew (Below.refl _ _)
   replace B0 := Lib.hid ((cd13.block w.heap.size (Array.getElem?_eq_some_iff.1 B0.out).1).trans B0.out)
   replace X1 := Lib.hid ((cd13.block v5.heap.size (Array.getElem?_eq_some_iff.1 X1.out).1).trans X1.out)
   replace X2 := Lib.hid ((cd13.block v7.heap.size (Array.getElem?_eq_some_iff.1 X2.out).1).trans X2.out)
   replace X3 := Lib.hid ((cd13.block v10.heap.size (Array.getElem?_eq_some_iff.1 X3.out).1).trans X3.out)
   replace P3_0 := Lib.hid (slO_fresh tVersionS_law P3_0.out cd13)
   replace P4 := Lib.hid (slO_fresh tUpdate_law P4.out cd13)
   replace P5_0 := Lib.hid (slO_fresh tVersionS_law P5_0.out cd13)
   replace P7_0 := Lib.hid (slO_fresh tVersionS_law P7_0.out cd13)
   replace P9 := Lib.hid (slO_fresh tUpdate_law P9.out cd13)
   replace P10_0 := Lib.hid (slO_fresh tVersionS_law P10_0.out cd13)
   replace d := Lib.hid (d.out.trans (cd13.mono d.out.size))
   clear cd13
   refine tR (i := 0) (v := ?_) ?_ ?_; rotate_left
   ·
    intro w hSw; (try dsimp only at hSw); go_simp; try (with_reducible rfl)
   try simp only [Act.put, lA, lB, lC]
   refine tR (i := 1) (v := ?_) ?_ ?_; rotate_left
   ·
    intro w hSw; (try dsimp only at hSw); go_simp; try (with_reducible rfl)
   try simp only [Act.put, lA, lB, lC]
   refine wpAnyH_ready (rs := [2]) (by kernel_rfl) (by simp) ?_
   refine AllReadyH.cons (o := _) (by simp only [hA, hB, hC]; rfl) (fun K hK => ?_) AllReadyH.nil
   go_simp
   refine (toStore_T a0_1 (.slice c0_0 x0_0.length k0_0) x0_0 (v12.drew) (slR_below tVersionS_law A0_0.out d.out) S0_0.out).mono ?_
   rintro e v14 ⟨cs, rfl, ow, c14⟩
   replace B0 := Lib.hid ((c14.block w.heap.size (Array.getElem?_eq_some_iff.1 B0.out).1).trans B0.out)
   replace X1 := Lib.hid ((c14.block v5.heap.size (Array.getElem?_eq_some_iff.1 X1.out).1).trans X1.out)
   replace X2 := Lib.hid ((c14.block v7.heap.size (Array.getElem?_eq_some_iff.1 X2.out).1).trans X2.out)
   replace X3 := Lib.hid ((c14.block v10.heap.size (Array.getElem?_eq_some_iff.1 X3.out).1).trans X3.out)
   replace P3_0 := Lib.hid (slO_fresh tVersionS_law P3_0.out c14)
   replace P4 := Lib.hid (slO_fresh tUpdate_law P4.out c14)
   replace P5_0 := Lib.hid (slO_fresh tVersionS_law P5_0.out c14)
   replace P7_0 := Lib.hid (slO_fresh tVersionS_law P7_0.out c14)
   replace P9 := Lib.hid (slO_fresh tUpdate_law P9.out c14)
   replace P10_0 := Lib.hid (slO_fresh tVersionS_law P10_0.out c14)
   replace d := Lib.hid (d.out.trans (c14.mono d.out.size))
   have Z_v14 := Lib.hid (show v12.heap.size ≤ v14.heap.size from c14.size)
   clear c14
   replace ow := tStore_law.lt ow
   obtain ⟨y14_0, K14_0, rfl, p14_0, w14_0⟩ := tStore_O ow
   obtain ⟨ya14_0, yc14_0, rfl⟩ := slO_len p14_0
   have P14_0 := Lib.hid p14_0
   have Q14_0 := Lib.hid (fun b h => (show (v12.drew).heap.size ≤ b ∧ b < v14.heap.size from w14_0 b h))
   clear p14_0 w14_0 ow
   have p_B0_0 := (cell_of_row v14 _ 0 _ _ _ B0.out).trans (show _ = some (Value.slice c0_0 x0_0.length k0_0) from rfl)
   have p_B0_1 := (cell_of_row v14 _ 1 _ _ _ B0.out).trans (show _ = some (Value.int .i64 a0_1) from rfl)
   have p_X2_0 := (cell_of_row v14 _ 0 _ _ _ X2.out).trans (show _ = some (Value.slice ya7_0 x0_0.length yc7_0) from rfl)
   have p_X2_1 := (cell_of_row v14 _ 1 _ _ _ X2.out).trans (show _ = some (Value.int .i64 a0_1) from rfl)
   refine hK.out _ _ ⟨p_B0_0, p_B0_1, p_X2_0, p_X2_1⟩ (fun hHeld => ?_)
   clear p_B0_0 p_B0_1 p_X2_0 p_X2_1
   clear hK K
   try simp only [Act.put, lA, lB, lC]
   refine wpAnyH_ready (rs := [3]) (by kernel_rfl) (by simp) ?_
   refine AllReadyH.cons (o := _) (by simp only [hA, hB, hC]; rfl) (fun K hK => ?_) AllReadyH.nil
   go_simp
   refine (eqStore_T a0_1 (.slice ya7_0 x0_0.length yc7_0) x0_0 (.slice ya14_0 x0_0.length yc14_0) v14 (slO_reads tVersionS_law P7_0.out) (slO_reads tVersionS_law P14_0.out) S0_0.out).mono ?_
   rintro e v15 ⟨rfl, c15⟩
   replace B0 := Lib.hid ((c15.block w.heap.size (Array.getElem?_eq_some_iff.1 B0.out).1).trans B0.out)
   replace X1 := Lib.hid ((c15.block v5.heap.size (Array.getElem?_eq_some_iff.1 X1.out).1).trans X1.out)
   replace X2 := Lib.hid ((c15.block v7.heap.size (Array.getElem?_eq_some_iff.1 X2.out).1).trans X2.out)
   replace X3 := Lib.hid ((c15.block v10.heap.size (Array.getElem?_eq_some_iff.1 X3.out).1).trans X3.out)
   replace P3_0 := Lib.hid (slO_fresh tVersionS_law P3_0.out c15)
   replace P4 := Lib.hid (slO_fresh tUpdate_law P4.out c15)
   replace P5_0 := Lib.hid (slO_fresh tVersionS_law P5_0.out c15)
   replace P7_0 := Lib.hid (slO_fresh tVersionS_law P7_0.out c15)
   replace P9 := Lib.hid (slO_fresh tUpdate_law P9.out c15)
   replace P10_0 := Lib.hid (slO_fresh tVersionS_law P10_0.out c15)
   replace P14_0 := Lib.hid (slO_fresh tVersionS_law P14_0.out c15)
   replace d := Lib.hid (d.out.trans (c15.mono d.out.size))
   have Z_v15 := Lib.hid (show v14.heap.size ≤ v15.heap.size from c15.size)
   clear c15
   clear P14_0
   have p_B0_0 := (cell_of_row v15 _ 0 _ _ _ B0.out).trans (show _ = some (Value.slice c0_0 x0_0.length k0_0) from rfl)
   have p_B0_1 := (cell_of_row v15 _ 1 _ _ _ B0.out).trans (show _ = some (Value.int .i64 a0_1) from rfl)
   have p_X2_0 := (cell_of_row v15 _ 0 _ _ _ X2.out).trans (show _ = some (Value.slice ya7_0 x0_0.length yc7_0) from rfl)
   have p_X2_1 := (cell_of_row v15 _ 1 _ _ _ X2.out).trans (show _ = some (Value.int .i64 a0_1) from rfl)
   refine hK.out _ _ ⟨p_B0_0, p_B0_1, p_X2_0, p_X2_1⟩ (fun hHeld => ?_)
   clear p_B0_0 p_B0_1 p_X2_0 p_X2_1
   clear hK K
   try simp only [Act.put, lA, lB, lC]
   refine tR (i := 4) (v := ?_) ?_ ?_; rotate_left
   ·
    intro w hSw; (try dsimp only at hSw); go_simp; try (with_reducible rfl)
   try simp only [Act.put, lA, lB, lC]
   refine wpAnyH_done (by kernel_rfl) ?_ _
   clear hHeld
   go_wp2_with fail
   refine (toUpdateS_S (.slice c1_0 x1_0.length k1_0) x1_0 v15 (slR_below tUpdate_law A1_0.out d.out) S1_0.out).mono ?_
   rintro e v16 ⟨y, rfl, o, c16⟩
   replace B0 := Lib.hid ((c16.block w.heap.size (Array.getElem?_eq_some_iff.1 B0.out).1).trans B0.out)
   replace X1 := Lib.hid ((c16.block v5.heap.size (Array.getElem?_eq_some_iff.1 X1.out).1).trans X1.out)
   replace X2 := Lib.hid ((c16.block v7.heap.size (Array.getElem?_eq_some_iff.1 X2.out).1).trans X2.out)
   replace X3 := Lib.hid ((c16.block v10.heap.size (Array.getElem?_eq_some_iff.1 X3.out).1).trans X3.out)
   replace P3_0 := Lib.hid (slO_fresh tVersionS_law P3_0.out c16)
   replace P4 := Lib.hid (slO_fresh tUpdate_law P4.out c16)
   replace P5_0 := Lib.hid (slO_fresh tVersionS_law P5_0.out c16)
   replace P7_0 := Lib.hid (slO_fresh tVersionS_law P7_0.out c16)
   replace P9 := Lib.hid (slO_fresh tUpdate_law P9.out c16)
   replace P10_0 := Lib.hid (slO_fresh tVersionS_law P10_0.out c16)
   replace d := Lib.hid (d.out.trans (c16.mono d.out.size))
   have Z_v16 := Lib.hid (show v15.heap.size ≤ v16.heap.size from c16.size)
   clear c16
   obtain ⟨ya16, yc16, rfl⟩ := slO_len o
   have P16 := Lib.hid (slO_lt tUpdate_law o)
   have Q16 := Lib.hid (fun b (h : since v15 b ∧ b < v16.heap.size) => (show v15.heap.size ≤ b ∧ b < v16.heap.size from h))
   clear o
   go_wp2_with fail
   refine (eqUpdateS_S (.slice ya9 x1_0.length yc9) (.slice ya16 x1_0.length yc16) x1_0 v16 (slO_reads tUpdate_law P9.out) (slO_reads tUpdate_law P16.out) S1_0.out).mono ?_
   rintro e v17 ⟨rfl, c17⟩
   replace B0 := Lib.hid ((c17.block w.heap.size (Array.getElem?_eq_some_iff.1 B0.out).1).trans B0.out)
   replace X1 := Lib.hid ((c17.block v5.heap.size (Array.getElem?_eq_some_iff.1 X1.out).1).trans X1.out)
   replace X2 := Lib.hid ((c17.block v7.heap.size (Array.getElem?_eq_some_iff.1 X2.out).1).trans X2.out)
   replace X3 := Lib.hid ((c17.block v10.heap.size (Array.getElem?_eq_some_iff.1 X3.out).1).trans X3.out)
   replace P3_0 := Lib.hid (slO_fresh tVersionS_law P3_0.out c17)
   replace P4 := Lib.hid (slO_fresh tUpdate_law P4.out c17)
   replace P5_0 := Lib.hid (slO_fresh tVersionS_law P5_0.out c17)
   replace P7_0 := Lib.hid (slO_fresh tVersionS_law P7_0.out c17)
   replace P9 := Lib.hid (slO_fresh tUpdate_law P9.out c17)
   replace P10_0 := Lib.hid (slO_fresh tVersionS_law P10_0.out c17)
   replace P16 := Lib.hid (slO_fresh tUpdate_law P16.out c17)
   replace d := Lib.hid (d.out.trans (c17.mono d.out.size))
   have Z_v17 := Lib.hid (show v16.heap.size ≤ v17.heap.size from c17.size)
   clear c17
   clear P16
   have p_X2_0 := (cell_of_row v17 _ 0 _ _ _ X2.out).trans (show _ = some (Value.slice ya7_0 x0_0.length yc7_0) from rfl)
   have p_X2_1 := (cell_of_row v17 _ 1 _ _ _ X2.out).trans (show _ = some (Value.int .i64 a0_1) from rfl)
   go_wp2_with fail
   clear p_X2_0 p_X2_1
   refine (markStore_T a0_1 (.slice ya7_0 x0_0.length yc7_0) x0_0 (fun b => u6.heap.size ≤ b ∧ b < v7.heap.size) _ (1) v17 P7_0.out Q7_0.out  S0_0.out M0.out.1 (by have := M0.out.2; omega)).mono ?_
   rintro e v18 ⟨rfl, m0, c18⟩
   have y0 := Y_W.out
   have y1 := Z_v1.out
   have y2 := Z_v2.out
   have y3 := Z_v3.out
   have y4 := Z_v4.out
   have y5 := Z_v5.out
   have y6 := Y_X1.out
   have y7 := Z_v7.out
   have y8 := Y_X2.out
   have y9 := Z_v9.out
   have y10 := Z_v10.out
   have y11 := Y_X3.out
   have y12 := Z_v12.out
   have y13 := Z_v14.out
   have y14 := Z_v15.out
   have y15 := Z_v16.out
   have y16 := Z_v17.out
   have yd : W.heap.size ≤ v17.heap.size := d.out.size
   replace B0 := Lib.hid ((c18.block w.heap.size (Array.getElem?_eq_some_iff.1 B0.out).1 (fun h => by have r2 := h; omega)).trans B0.out)
   replace X1 := Lib.hid ((c18.block v5.heap.size (Array.getElem?_eq_some_iff.1 X1.out).1 (fun h => by have r2 := h; omega)).trans X1.out)
   replace X2 := Lib.hid ((c18.block v7.heap.size (Array.getElem?_eq_some_iff.1 X2.out).1 (fun h => by have r2 := h; omega)).trans X2.out)
   replace X3 := Lib.hid ((c18.block v10.heap.size (Array.getElem?_eq_some_iff.1 X3.out).1 (fun h => by have r2 := h; omega)).trans X3.out)
   replace P3_0 := Lib.hid (slO_turn tVersionS_law P3_0.out c18 (fun b h1 h2 => by have r1 := Q3_0.out b h1; have r2 := h2; omega))
   replace P4 := Lib.hid (slO_turn tUpdate_law P4.out c18 (fun b h1 h2 => by have r1 := Q4.out b h1; have r2 := h2; omega))
   replace P5_0 := Lib.hid (slO_turn tVersionS_law P5_0.out c18 (fun b h1 h2 => by have r1 := Q5_0.out b h1; have r2 := h2; omega))
   replace P9 := Lib.hid (slO_turn tUpdate_law P9.out c18 (fun b h1 h2 => by have r1 := Q9.out b h1; have r2 := h2; omega))
   replace P10_0 := Lib.hid (slO_turn tVersionS_law P10_0.out c18 (fun b h1 h2 => by have r1 := Q10_0.out b h1; have r2 := h2; omega))
   replace d := Lib.hid (below_turn d.out c18 (fun b h => by have r2 := h; omega) (by omega))
   clear yd y0 y1 y2 y3 y4 y5 y6 y7 y8 y9 y10 y11 y12 y13 y14 y15 y16
   have Z_v18 := Lib.hid (show v17.heap.size ≤ v18.heap.size from c18.size)
   clear P7_0
   clear m0 c18
   go_wp2_with fail
   refine (markUpdateS_S (.slice ya9 x1_0.length yc9) x1_0 _ (1 + (ndL tVersionS x0_0 : Int)) v18 P9.out S1_0.out M1.out.1 (by have := M1.out.2; omega)).mono ?_
   rintro e v19 ⟨rfl, m0, c19⟩
   have y0 := Y_W.out
   have y1 := Z_v1.out
   have y2 := Z_v2.out
   have y3 := Z_v3.out
   have y4 := Z_v4.out
   have y5 := Z_v5.out
   have y6 := Y_X1.out
   have y7 := Z_v7.out
   have y8 := Y_X2.out
   have y9 := Z_v9.out
   have y10 := Z_v10.out
   have y11 := Y_X3.out
   have y12 := Z_v12.out
   have y13 := Z_v14.out
   have y14 := Z_v15.out
   have y15 := Z_v16.out
   have y16 := Z_v17.out
   have y17 := Z_v18.out
   have yd : W.heap.size ≤ v18.heap.size := d.out.size
   replace B0 := Lib.hid ((c19.block w.heap.size (Array.getElem?_eq_some_iff.1 B0.out).1 (fun h => by have r2 := Q9.out w.heap.size h; omega)).trans B0.out)
   replace X1 := Lib.hid ((c19.block v5.heap.size (Array.getElem?_eq_some_iff.1 X1.out).1 (fun h => by have r2 := Q9.out v5.heap.size h; omega)).trans X1.out)
   replace X2 := Lib.hid ((c19.block v7.heap.size (Array.getElem?_eq_some_iff.1 X2.out).1 (fun h => by have r2 := Q9.out v7.heap.size h; omega)).trans X2.out)
   replace X3 := Lib.hid ((c19.block v10.heap.size (Array.getElem?_eq_some_iff.1 X3.out).1 (fun h => by have r2 := Q9.out v10.heap.size h; omega)).trans X3.out)
   replace P3_0 := Lib.hid (slO_turn tVersionS_law P3_0.out c19 (fun b h1 h2 => by have r1 := Q3_0.out b h1; have r2 := Q9.out b h2; omega))
   replace P4 := Lib.hid (slO_turn tUpdate_law P4.out c19 (fun b h1 h2 => by have r1 := Q4.out b h1; have r2 := Q9.out b h2; omega))
   replace P5_0 := Lib.hid (slO_turn tVersionS_law P5_0.out c19 (fun b h1 h2 => by have r1 := Q5_0.out b h1; have r2 := Q9.out b h2; omega))
   replace P10_0 := Lib.hid (slO_turn tVersionS_law P10_0.out c19 (fun b h1 h2 => by have r1 := Q10_0.out b h1; have r2 := Q9.out b h2; omega))
   replace d := Lib.hid (below_turn d.out c19 (fun b h => by have r2 := Q9.out b h; omega) (by omega))
   clear yd y0 y1 y2 y3 y4 y5 y6 y7 y8 y9 y10 y11 y12 y13 y14 y15 y16 y17
   have Z_v19 := Lib.hid (show v18.heap.size ≤ v19.heap.size from c19.size)
   clear P9
   clear m0 c19
   have p_X1_0 := (cell_of_row v19 _ 0 _ _ _ X1.out).trans (show _ = some (Value.slice ya5_0 xr0_0.length yc5_0) from rfl)
   have p_X1_1 := (cell_of_row v19 _ 1 _ _ _ X1.out).trans (show _ = some (Value.int .i64 ar0_1) from rfl)
   have p_X3_0 := (cell_of_row v19 _ 0 _ _ _ X3.out).trans (show _ = some (Value.slice ya10_0 xr0_0.length yc10_0) from rfl)
   have p_X3_1 := (cell_of_row v19 _ 1 _ _ _ X3.out).trans (show _ = some (Value.int .i64 ar0_1) from rfl)
   go_wp2_with fail
   clear p_X1_0 p_X1_1 p_X3_0 p_X3_1
   refine (eqStore_T ar0_1 (.slice ya10_0 xr0_0.length yc10_0) xr0_0 (.slice ya5_0 xr0_0.length yc5_0) v19 (slO_reads tVersionS_law P10_0.out) (slO_reads tVersionS_law P5_0.out) Z0_0.out).mono ?_
   rintro e v20 ⟨rfl, c20⟩
   replace B0 := Lib.hid ((c20.block w.heap.size (Array.getElem?_eq_some_iff.1 B0.out).1).trans B0.out)
   replace X1 := Lib.hid ((c20.block v5.heap.size (Array.getElem?_eq_some_iff.1 X1.out).1).trans X1.out)
   replace X2 := Lib.hid ((c20.block v7.heap.size (Array.getElem?_eq_some_iff.1 X2.out).1).trans X2.out)
   replace X3 := Lib.hid ((c20.block v10.heap.size (Array.getElem?_eq_some_iff.1 X3.out).1).trans X3.out)
   replace P3_0 := Lib.hid (slO_fresh tVersionS_law P3_0.out c20)
   replace P4 := Lib.hid (slO_fresh tUpdate_law P4.out c20)
   replace P5_0 := Lib.hid (slO_fresh tVersionS_law P5_0.out c20)
   replace P10_0 := Lib.hid (slO_fresh tVersionS_law P10_0.out c20)
   replace d := Lib.hid (d.out.trans (c20.mono d.out.size))
   have Z_v20 := Lib.hid (show v19.heap.size ≤ v20.heap.size from c20.size)
   clear c20
   have p_X3_0 := (cell_of_row v20 _ 0 _ _ _ X3.out).trans (show _ = some (Value.slice ya10_0 xr0_0.length yc10_0) from rfl)
   have p_X3_1 := (cell_of_row v20 _ 1 _ _ _ X3.out).trans (show _ = some (Value.int .i64 ar0_1) from rfl)
   go_wp2_with fail
   clear p_X3_0 p_X3_1
   refine (markStore_T ar0_1 (.slice ya10_0 xr0_0.length yc10_0) xr0_0 (fun b => v9.heap.size ≤ b ∧ b < v10.heap.size) _ (1) v20 P10_0.out Q10_0.out  Z0_0.out MR0.out.1 (by have := MR0.out.2; omega)).mono ?_
   rintro e v21 ⟨rfl, m0, c21⟩
   have y0 := Y_W.out
   have y1 := Z_v1.out
   have y2 := Z_v2.out
   have y3 := Z_v3.out
   have y4 := Z_v4.out
   have y5 := Z_v5.out
   have y6 := Y_X1.out
   have y7 := Z_v7.out
   have y8 := Y_X2.out
   have y9 := Z_v9.out
   have y10 := Z_v10.out
   have y11 := Y_X3.out
   have y12 := Z_v12.out
   have y13 := Z_v14.out
   have y14 := Z_v15.out
   have y15 := Z_v16.out
   have y16 := Z_v17.out
   have y17 := Z_v18.out
   have y18 := Z_v19.out
   have y19 := Z_v20.out
   have yd : W.heap.size ≤ v20.heap.size := d.out.size
   replace B0 := Lib.hid ((c21.block w.heap.size (Array.getElem?_eq_some_iff.1 B0.out).1 (fun h => by have r2 := h; omega)).trans B0.out)
   replace X1 := Lib.hid ((c21.block v5.heap.size (Array.getElem?_eq_some_iff.1 X1.out).1 (fun h => by have r2 := h; omega)).trans X1.out)
   replace X2 := Lib.hid ((c21.block v7.heap.size (Array.getElem?_eq_some_iff.1 X2.out).1 (fun h => by have r2 := h; omega)).trans X2.out)
   replace X3 := Lib.hid ((c21.block v10.heap.size (Array.getElem?_eq_some_iff.1 X3.out).1 (fun h => by have r2 := h; omega)).trans X3.out)
   replace P3_0 := Lib.hid (slO_turn tVersionS_law P3_0.out c21 (fun b h1 h2 => by have r1 := Q3_0.out b h1; have r2 := h2; omega))
   replace P4 := Lib.hid (slO_turn tUpdate_law P4.out c21 (fun b h1 h2 => by have r1 := Q4.out b h1; have r2 := h2; omega))
   replace P5_0 := Lib.hid (slO_turn tVersionS_law P5_0.out c21 (fun b h1 h2 => by have r1 := Q5_0.out b h1; have r2 := h2; omega))
   replace d := Lib.hid (below_turn d.out c21 (fun b h => by have r2 := h; omega) (by omega))
   clear yd y0 y1 y2 y3 y4 y5 y6 y7 y8 y9 y10 y11 y12 y13 y14 y15 y16 y17 y18 y19
   have Z_v21 := Lib.hid (show v20.heap.size ≤ v21.heap.size from c21.size)
   replace P10_0 := Lib.hid m0
   clear m0 c21
   have p_X3_0 := (cell_of_row v21 _ 0 _ _ _ X3.out).trans (show _ = some (Value.slice ya10_0 xr0_0.length yc10_0) from rfl)
   have p_X3_1 := (cell_of_row v21 _ 1 _ _ _ X3.out).trans (show _ = some (Value.int .i64 ar0_1) from rfl)
   go_wp2_with fail
   clear p_X3_0 p_X3_1
   refine (heldStore_T ar0_1 (.slice ya10_0 xr0_0.length yc10_0) xr0_0 (1) v21 (slO_reads tVersionS_law P10_0.out) Z0_0.out MR0.out.1 (by have := MR0.out.2; omega)).mono ?_
   rintro e v22 ⟨rfl, c22⟩
   replace B0 := Lib.hid ((c22.block w.heap.size (Array.getElem?_eq_some_iff.1 B0.out).1).trans B0.out)
   replace X1 := Lib.hid ((c22.block v5.heap.size (Array.getElem?_eq_some_iff.1 X1.out).1).trans X1.out)
   replace X2 := Lib.hid ((c22.block v7.heap.size (Array.getElem?_eq_some_iff.1 X2.out).1).trans X2.out)
   replace X3 := Lib.hid ((c22.block v10.heap.size (Array.getElem?_eq_some_iff.1 X3.out).1).trans X3.out)
   replace P3_0 := Lib.hid (slO_fresh tVersionS_law P3_0.out c22)
   replace P4 := Lib.hid (slO_fresh tUpdate_law P4.out c22)
   replace P5_0 := Lib.hid (slO_fresh tVersionS_law P5_0.out c22)
   replace P10_0 := Lib.hid (slO_fresh tVersionS_law P10_0.out c22)
   replace d := Lib.hid (d.out.trans (c22.mono d.out.size))
   have Z_v22 := Lib.hid (show v21.heap.size ≤ v22.heap.size from c22.size)
   clear c22
   have p_B0_0 := (cell_of_row v22 _ 0 _ _ _ B0.out).trans (show _ = some (Value.slice c0_0 x0_0.length k0_0) from rfl)
   have p_B0_1 := (cell_of_row v22 _ 1 _ _ _ B0.out).trans (show _ = some (Value.int .i64 a0_1) from rfl)
   go_wp2_with fail
   clear p_B0_0 p_B0_1
   refine (toStore_T a0_1 (.slice c0_0 x0_0.length k0_0) x0_0 v22 (slR_below tVersionS_law A0_0.out d.out) S0_0.out).mono ?_
   rintro e v23 ⟨cs, rfl, ow, c23⟩
   replace B0 := Lib.hid ((c23.block w.heap.size (Array.getElem?_eq_some_iff.1 B0.out).1).trans B0.out)
   replace X1 := Lib.hid ((c23.block v5.heap.size (Array.getElem?_eq_some_iff.1 X1.out).1).trans X1.out)
   replace X2 := Lib.hid ((c23.block v7.heap.size (Array.getElem?_eq_some_iff.1 X2.out).1).trans X2.out)
   replace X3 := Lib.hid ((c23.block v10.heap.size (Array.getElem?_eq_some_iff.1 X3.out).1).trans X3.out)
   replace P3_0 := Lib.hid (slO_fresh tVersionS_law P3_0.out c23)
   replace P4 := Lib.hid (slO_fresh tUpdate_law P4.out c23)
   replace P5_0 := Lib.hid (slO_fresh tVersionS_law P5_0.out c23)
   replace P10_0 := Lib.hid (slO_fresh tVersionS_law P10_0.out c23)
   replace d := Lib.hid (d.out.trans (c23.mono d.out.size))
   have Z_v23 := Lib.hid (show v22.heap.size ≤ v23.heap.size from c23.size)
   clear c23
   replace ow := tStore_law.lt ow
   obtain ⟨y23_0, K23_0, rfl, p23_0, w23_0⟩ := tStore_O ow
   obtain ⟨ya23_0, yc23_0, rfl⟩ := slO_len p23_0
   have P23_0 := Lib.hid p23_0
   have Q23_0 := Lib.hid (fun b h => (show v22.heap.size ≤ b ∧ b < v23.heap.size from w23_0 b h))
   clear p23_0 w23_0 ow
   go_wp2_with fail
   refine (toUpdateS_S (.slice c1_0 x1_0.length k1_0) x1_0 v23 (slR_below tUpdate_law A1_0.out d.out) S1_0.out).mono ?_
   rintro e v24 ⟨y, rfl, o, c24⟩
   replace B0 := Lib.hid ((c24.block w.heap.size (Array.getElem?_eq_some_iff.1 B0.out).1).trans B0.out)
   replace X1 := Lib.hid ((c24.block v5.heap.size (Array.getElem?_eq_some_iff.1 X1.out).1).trans X1.out)
   replace X2 := Lib.hid ((c24.block v7.heap.size (Array.getElem?_eq_some_iff.1 X2.out).1).trans X2.out)
   replace X3 := Lib.hid ((c24.block v10.heap.size (Array.getElem?_eq_some_iff.1 X3.out).1).trans X3.out)
   replace P3_0 := Lib.hid (slO_fresh tVersionS_law P3_0.out c24)
   replace P4 := Lib.hid (slO_fresh tUpdate_law P4.out c24)
   replace P5_0 := Lib.hid (slO_fresh tVersionS_law P5_0.out c24)
   replace P10_0 := Lib.hid (slO_fresh tVersionS_law P10_0.out c24)
   replace P23_0 := Lib.hid (slO_fresh tVersionS_law P23_0.out c24)
   replace d := Lib.hid (d.out.trans (c24.mono d.out.size))
   have Z_v24 := Lib.hid (show v23.heap.size ≤ v24.heap.size from c24.size)
   clear c24
   obtain ⟨ya24, yc24, rfl⟩ := slO_len o
   have P24 := Lib.hid (slO_lt tUpdate_law o)
   have Q24 := Lib.hid (fun b (h : since v23 b ∧ b < v24.heap.size) => (show v23.heap.size ≤ b ∧ b < v24.heap.size from h))
   clear o
   go_wp2_with fail
   refine (HIM.out (.slice ya23_0 x0_0.length yc23_0) (.slice ya24 x1_0.length yc24) v24 (slO_reads tVersionS_law P23_0.out) (slO_reads tUpdate_law P24.out) HT.out ).mono ?_
   rintro e v25 ⟨g0, G0, rfl, o0, q0, c25⟩
   replace B0 := Lib.hid ((c25.block w.heap.size (Array.getElem?_eq_some_iff.1 B0.out).1).trans B0.out)
   replace X1 := Lib.hid ((c25.block v5.heap.size (Array.getElem?_eq_some_iff.1 X1.out).1).trans X1.out)
   replace X2 := Lib.hid ((c25.block v7.heap.size (Array.getElem?_eq_some_iff.1 X2.out).1).trans X2.out)
   replace X3 := Lib.hid ((c25.block v10.heap.size (Array.getElem?_eq_some_iff.1 X3.out).1).trans X3.out)
   replace P3_0 := Lib.hid (slO_fresh tVersionS_law P3_0.out c25)
   replace P4 := Lib.hid (slO_fresh tUpdate_law P4.out c25)
   replace P5_0 := Lib.hid (slO_fresh tVersionS_law P5_0.out c25)
   replace P10_0 := Lib.hid (slO_fresh tVersionS_law P10_0.out c25)
   replace P23_0 := Lib.hid (slO_fresh tVersionS_law P23_0.out c25)
   replace P24 := Lib.hid (slO_fresh tUpdate_law P24.out c25)
   replace d := Lib.hid (d.out.trans (c25.mono d.out.size))
   have Z_v25 := Lib.hid (show v24.heap.size ≤ v25.heap.size from c25.size)
   clear c25
   replace o0 := tStore_law.lt o0
   obtain ⟨y25_0, K25_0, rfl, p25_0, w25_0⟩ := tStore_O o0
   obtain ⟨ya25_0, yc25_0, rfl⟩ := slO_len p25_0
   have P25_0 := Lib.hid p25_0
   have Q25_0 := Lib.hid (fun b h => (show v24.heap.size ≤ b ∧ b < v25.heap.size from ⟨q0 b (w25_0 b h).1, (w25_0 b h).2⟩))
   clear p25_0 w25_0 o0 q0
   have hal : Below v25.heap.size v25 (v25.alloc (.cells #[.slice ya25_0 xr0_0.length yc25_0, .int .i64 ar0_1] 41)) := (Below.refl _ _).alloc (Nat.le_refl _) _
   have X4 := Lib.hid (heap_alloc_new v25 (.cells #[.slice ya25_0 xr0_0.length yc25_0, .int .i64 ar0_1] 41))
   have Y_X4 := Lib.hid (show v25.heap.size < (v25.alloc (.cells #[.slice ya25_0 xr0_0.length yc25_0, .int .i64 ar0_1] 41)).heap.size by simp [World.size_alloc])
   replace B0 := Lib.hid ((hal.block w.heap.size (Array.getElem?_eq_some_iff.1 B0.out).1).trans B0.out)
   replace X1 := Lib.hid ((hal.block v5.heap.size (Array.getElem?_eq_some_iff.1 X1.out).1).trans X1.out)
   replace X2 := Lib.hid ((hal.block v7.heap.size (Array.getElem?_eq_some_iff.1 X2.out).1).trans X2.out)
   replace X3 := Lib.hid ((hal.block v10.heap.size (Array.getElem?_eq_some_iff.1 X3.out).1).trans X3.out)
   replace P3_0 := Lib.hid (slO_fresh tVersionS_law P3_0.out hal)
   replace P4 := Lib.hid (slO_fresh tUpdate_law P4.out hal)
   replace P5_0 := Lib.hid (slO_fresh tVersionS_law P5_0.out hal)
   replace P10_0 := Lib.hid (slO_fresh tVersionS_law P10_0.out hal)
   replace P23_0 := Lib.hid (slO_fresh tVersionS_law P23_0.out hal)
   replace P24 := Lib.hid (slO_fresh tUpdate_law P24.out hal)
   replace P25_0 := Lib.hid (slO_fresh tVersionS_law P25_0.out hal)
   replace d := Lib.hid (d.out.trans (hal.mono d.out.size))
   clear hal
   have p_X1_0 := (cell_of_row (v25.alloc (.cells #[.slice ya25_0 xr0_0.length yc25_0, .int .i64 ar0_1] 41)) _ 0 _ _ _ X1.out).trans (show _ = some (Value.slice ya5_0 xr0_0.length yc5_0) from rfl)
   have p_X1_1 := (cell_of_row (v25.alloc (.cells #[.slice ya25_0 xr0_0.length yc25_0, .int .i64 ar0_1] 41)) _ 1 _ _ _ X1.out).trans (show _ = some (Value.int .i64 ar0_1) from rfl)
   have p_X4_0 := (cell_of_row (v25.alloc (.cells #[.slice ya25_0 xr0_0.length yc25_0, .int .i64 ar0_1] 41)) _ 0 _ _ _ X4.out).trans (show _ = some (Value.slice ya25_0 xr0_0.length yc25_0) from rfl)
   have p_X4_1 := (cell_of_row (v25.alloc (.cells #[.slice ya25_0 xr0_0.length yc25_0, .int .i64 ar0_1] 41)) _ 1 _ _ _ X4.out).trans (show _ = some (Value.int .i64 ar0_1) from rfl)
   go_wp2_with fail
   clear p_X1_0 p_X1_1 p_X4_0 p_X4_1
   generalize (v25.alloc (.cells #[.slice ya25_0 xr0_0.length yc25_0, .int .i64 ar0_1] 41)) = u26 at *
   refine (eqStore_T ar0_1 (.slice ya25_0 xr0_0.length yc25_0) xr0_0 (.slice ya5_0 xr0_0.length yc5_0) u26 (slO_reads tVersionS_law P25_0.out) (slO_reads tVersionS_law P5_0.out) Z0_0.out).mono ?_
   rintro e v27 ⟨rfl, c27⟩
   replace B0 := Lib.hid ((c27.block w.heap.size (Array.getElem?_eq_some_iff.1 B0.out).1).trans B0.out)
   replace X1 := Lib.hid ((c27.block v5.heap.size (Array.getElem?_eq_some_iff.1 X1.out).1).trans X1.out)
   replace X2 := Lib.hid ((c27.block v7.heap.size (Array.getElem?_eq_some_iff.1 X2.out).1).trans X2.out)
   replace X3 := Lib.hid ((c27.block v10.heap.size (Array.getElem?_eq_some_iff.1 X3.out).1).trans X3.out)
   replace X4 := Lib.hid ((c27.block v25.heap.size (Array.getElem?_eq_some_iff.1 X4.out).1).trans X4.out)
   replace P3_0 := Lib.hid (slO_fresh tVersionS_law P3_0.out c27)
   replace P4 := Lib.hid (slO_fresh tUpdate_law P4.out c27)
   replace P5_0 := Lib.hid (slO_fresh tVersionS_law P5_0.out c27)
   replace P10_0 := Lib.hid (slO_fresh tVersionS_law P10_0.out c27)
   replace P23_0 := Lib.hid (slO_fresh tVersionS_law P23_0.out c27)
   replace P24 := Lib.hid (slO_fresh tUpdate_law P24.out c27)
   replace P25_0 := Lib.hid (slO_fresh tVersionS_law P25_0.out c27)
   replace d := Lib.hid (d.out.trans (c27.mono d.out.size))
   have Z_v27 := Lib.hid (show u26.heap.size ≤ v27.heap.size from c27.size)
   clear c27
   have p_X3_0 := (cell_of_row v27 _ 0 _ _ _ X3.out).trans (show _ = some (Value.slice ya10_0 xr0_0.length yc10_0) from rfl)
   have p_X3_1 := (cell_of_row v27 _ 1 _ _ _ X3.out).trans (show _ = some (Value.int .i64 ar0_1) from rfl)
   go_wp2_with fail
   clear p_X3_0 p_X3_1
   refine (heldStore_T ar0_1 (.slice ya10_0 xr0_0.length yc10_0) xr0_0 (1) v27 (slO_reads tVersionS_law P10_0.out) Z0_0.out MR0.out.1 (by have := MR0.out.2; omega)).mono ?_
   rintro e v28 ⟨rfl, c28⟩
   replace B0 := Lib.hid ((c28.block w.heap.size (Array.getElem?_eq_some_iff.1 B0.out).1).trans B0.out)
   replace X1 := Lib.hid ((c28.block v5.heap.size (Array.getElem?_eq_some_iff.1 X1.out).1).trans X1.out)
   replace X2 := Lib.hid ((c28.block v7.heap.size (Array.getElem?_eq_some_iff.1 X2.out).1).trans X2.out)
   replace X3 := Lib.hid ((c28.block v10.heap.size (Array.getElem?_eq_some_iff.1 X3.out).1).trans X3.out)
   replace X4 := Lib.hid ((c28.block v25.heap.size (Array.getElem?_eq_some_iff.1 X4.out).1).trans X4.out)
   replace P3_0 := Lib.hid (slO_fresh tVersionS_law P3_0.out c28)
   replace P4 := Lib.hid (slO_fresh tUpdate_law P4.out c28)
   replace P5_0 := Lib.hid (slO_fresh tVersionS_law P5_0.out c28)
   replace P10_0 := Lib.hid (slO_fresh tVersionS_law P10_0.out c28)
   replace P23_0 := Lib.hid (slO_fresh tVersionS_law P23_0.out c28)
   replace P24 := Lib.hid (slO_fresh tUpdate_law P24.out c28)
   replace P25_0 := Lib.hid (slO_fresh tVersionS_law P25_0.out c28)
   replace d := Lib.hid (d.out.trans (c28.mono d.out.size))
   have Z_v28 := Lib.hid (show v27.heap.size ≤ v28.heap.size from c28.size)
   clear c28
   go_wp2
   go_ret
   exact ⟨rfl, HB0.out.trans (d.out.mono HB0.out.size)⟩
  ·
   have HZ0 : Hid (((zL tVersionS x0_0 : Nat) : Int) ≤ (1048576 : Int)) := Lib.hid c0
   have HK0 : Hid ((1048576 : Int) ≤ 1048576) := Lib.hid (by omega)
   have hn0 : ¬ (1048576 : Int) - ((zL tVersionS x0_0 : Nat) : Int) < 0 := by omega
   have HZ1 : Hid ((1048576 : Int) - ((zL tVersionS x0_0 : Nat) : Int) < ((zL tUpdate x1_0 : Nat) : Int)) := Lib.hid (by omega)
   have HP1 : Hid (0 ≤ (1048576 : Int) - ((zL tVersionS x0_0 : Nat) : Int)) := Lib.hid (by omega)
   have HK1 : Hid ((1048576 : Int) - ((zL tVersionS x0_0 : Nat) : Int) ≤ 1048576) := Lib.hid (by omega)
   clear c1
   go_enter Try.func5, Try.ntmps5
   go_wp2_with fail
   have Y_W : Hid (w.heap.size + 1 ≤ (w.alloc (.cells #[.slice c0_0 x0_0.length k0_0, .int .i64 a0_1] 37)).heap.size) := Lib.hid (by simp [World.size_alloc])
   generalize (w.alloc (.cells #[.slice c0_0 x0_0.length k0_0, .int .i64 a0_1] 37)) = W at *
   have d := Lib.hid (Below.refl W.heap.size W)
   refine (szStore_Y a0_1 (.slice c0_0 x0_0.length k0_0) x0_0 ((1048576 : Int)) W (slR_below tVersionS_law A0_0.out d.out) HZ0.out HK0.out).mono ?_
   rintro e v1 ⟨rfl, c1⟩
   replace B0 := Lib.hid ((c1.block w.heap.size (Array.getElem?_eq_some_iff.1 B0.out).1).trans B0.out)
   replace d := Lib.hid (d.out.trans (c1.mono d.out.size))
   have Z_v1 := Lib.hid (show W.heap.size ≤ v1.heap.size from c1.size)
   clear c1
   go_wp2_with fail
   refine (szUpdateS_N (.slice c1_0 x1_0.length k1_0) x1_0 ((1048576 : Int) - ((zL tVersionS x0_0 : Nat) : Int)) v1 (slR_below tUpdate_law A1_0.out d.out) HZ1.out HK1.out HP1.out O1_0.out).mono ?_
   rintro e v2 ⟨rfl, c2⟩
   replace B0 := Lib.hid ((c2.block w.heap.size (Array.getElem?_eq_some_iff.1 B0.out).1).trans B0.out)
   replace d := Lib.hid (d.out.trans (c2.mono d.out.size))
   have Z_v2 := Lib.hid (show v1.heap.size ≤ v2.heap.size from c2.size)
   clear c2
   go_wp2
   go_ret
   exact ⟨rfl, HB0.out.trans (d.out.mono HB0.out.size)⟩
 ·
  have HZ0 : Hid ((1048576 : Int) < ((zL tVersionS x0_0 : Nat) : Int)) := Lib.hid (by omega)
  have HP0 : Hid (0 ≤ (1048576 : Int)) := Lib.hid (by omega)
  have HK0 : Hid ((1048576 : Int) ≤ 1048576) := Lib.hid (by omega)
  clear c0
  go_enter Try.func5, Try.ntmps5
  go_wp2_with fail
  have Y_W : Hid (w.heap.size + 1 ≤ (w.alloc (.cells #[.slice c0_0 x0_0.length k0_0, .int .i64 a0_1] 37)).heap.size) := Lib.hid (by simp [World.size_alloc])
  generalize (w.alloc (.cells #[.slice c0_0 x0_0.length k0_0, .int .i64 a0_1] 37)) = W at *
  have d := Lib.hid (Below.refl W.heap.size W)
  refine (szStore_N a0_1 (.slice c0_0 x0_0.length k0_0) x0_0 ((1048576 : Int)) W (slR_below tVersionS_law A0_0.out d.out) HZ0.out HK0.out HP0.out O0_0.out).mono ?_
  rintro e v1 ⟨rfl, c1⟩
  replace B0 := Lib.hid ((c1.block w.heap.size (Array.getElem?_eq_some_iff.1 B0.out).1).trans B0.out)
  replace d := Lib.hid (d.out.trans (c1.mono d.out.size))
  have Z_v1 := Lib.hid (show W.heap.size ≤ v1.heap.size from c1.size)
  clear c1
  go_wp2
  go_ret
  exact ⟨rfl, HB0.out.trans (d.out.mono HB0.out.size)⟩
end Go.Proofs.Ythiiaiholcfhhaa
