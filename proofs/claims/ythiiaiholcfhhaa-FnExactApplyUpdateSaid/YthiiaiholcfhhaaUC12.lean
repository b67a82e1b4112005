/-
 Texts of the proof, merged: LawApplyUpdate.
-/
import Derived.Test.YthiiaiholcfhhaaUC1
import Derived.Test.YthiiaiholcfhhaaUC2
import Derived.Test.YthiiaiholcfhhaaUC3
import Derived.Deep.Cut
namespace Go.Proofs.Ythiiaiholcfhhaa
open Go.RowKit
set_option linter.unusedVariables false
set_option linter.unusedSimpArgs false
set_option maxHeartbeats 32000000 in
set_option maxRecDepth 100000 in
theorem law_fnExactApplyUpdate (a0_1 : Int) (v0_0 : Value) (x0_0 : List (List (Int × List Int × Int × Int))) (a1_0 a1_1 a1_3 a1_4 : Int) (v1_2 : Value) (x1_2 : List Int) (r0 : List (List (Int × List Int × Int × Int)) × Int) (r1 : Bool) (w : World) (h0_0 : SlR tVersionS w v0_0 x0_0) (h1_2 : SlR tInt w v1_2 x1_2) (o0_0 : tVersionSS.ok x0_0) (o1_2 : tIntS.ok x1_2) (z0 : tStore.sz r0 ≤ 1048576)
  (hspec : ∀ (v0_0 v1_2 : Value) (w : World), SlR tVersionS w v0_0 x0_0 → SlR tInt w v1_2 x1_2 → zL tVersionS x0_0 + zL tInt x1_2 ≤ 1048576 → Calls Try.prog 15 #[.agg #[v0_0, .int .i64 a0_1], .agg #[.int .i64 a1_0, .int .i64 a1_1, v1_2, .int .i64 a1_3, .int .i64 a1_4]] w (fun e w' => ∃ (g0 : List Value) (G0 : Nat → Prop), e = .returned (.tuple #[.agg g0.toArray, .bool r1]) ∧ tStore.O w' G0 g0 r0 ∧ (∀ b, G0 b → w.heap.size ≤ b) ∧ Below w.heap.size w w'))
  (himpl : ∀ (v0_0 v1_2 : Value) (w : World), SlR tVersionS w v0_0 x0_0 → SlR tInt w v1_2 x1_2 → zL tVersionS x0_0 + zL tInt x1_2 ≤ 1048576 → Calls Try.prog 17 #[.agg #[v0_0, .int .i64 a0_1], .agg #[.int .i64 a1_0, .int .i64 a1_1, v1_2, .int .i64 a1_3, .int .i64 a1_4]] w (fun e w' => ∃ (g0 : List Value) (G0 : Nat → Prop), e = .returned (.tuple #[.agg g0.toArray, .bool r1]) ∧ tStore.O w' G0 g0 r0 ∧ (∀ b, G0 b → w.heap.size ≤ b) ∧ Below w.heap.size w w')) :
  Calls Try.prog 4 #[.agg #[v0_0, .int .i64 a0_1], .agg #[.int .i64 a1_0, .int .i64 a1_1, v1_2, .int .i64 a1_3, .int .i64 a1_4]] w fun e w' => e = .returned (.bool true) ∧ Below w.heap.size w w' := by
 obtain ⟨c0_0, k0_0, rfl⟩ := slR_len h0_0
 obtain ⟨c1_2, k1_2, rfl⟩ := slR_len h1_2
 have HB0 : Hid (Below w.heap.size w ((w.alloc (.cells #[.slice c0_0 x0_0.length k0_0, .int .i64 a0_1] 37)).alloc (.cells #[.int .i64 a1_0, .int .i64 a1_1, .slice c1_2 x1_2.length k1_2, .int .i64 a1_3, .int .i64 a1_4] 26))) := Lib.hid (((Below.refl _ w).alloc (Nat.le_refl _) _).alloc (by simp) _)
 have B0 : Hid (((w.alloc (.cells #[.slice c0_0 x0_0.length k0_0, .int .i64 a0_1] 37)).alloc (.cells #[.int .i64 a1_0, .int .i64 a1_1, .slice c1_2 x1_2.length k1_2, .int .i64 a1_3, .int .i64 a1_4] 26)).heap[w.heap.size]? = some (.cells #[.slice c0_0 x0_0.length k0_0, .int .i64 a0_1] 37 (0, 0))) := Lib.hid (by rw [Below.heap_alloc _ _ _ (by simp <;> omega)]; have := heap_alloc_new w (.cells #[.slice c0_0 x0_0.length k0_0, .int .i64 a0_1] 37); simpa only [World.size_alloc] using this)
 have B1 : Hid (((w.alloc (.cells #[.slice c0_0 x0_0.length k0_0, .int .i64 a0_1] 37)).alloc (.cells #[.int .i64 a1_0, .int .i64 a1_1, .slice c1_2 x1_2.length k1_2, .int .i64 a1_3, .int .i64 a1_4] 26)).heap[(w.heap.size + 1)]? = some (.cells #[.int .i64 a1_0, .int .i64 a1_1, .slice c1_2 x1_2.length k1_2, .int .i64 a1_3, .int .i64 a1_4] 26 (0, 0))) := Lib.hid (by have := heap_alloc_new (w.alloc (.cells #[.slice c0_0 x0_0.length k0_0, .int .i64 a0_1] 37)) (.cells #[.int .i64 a1_0, .int .i64 a1_1, .slice c1_2 x1_2.length k1_2, .int .i64 a1_3, .int .i64 a1_4] 26); simpa only [World.size_alloc] using this)
 have A0_0 : Hid (SlR tVersionS ((w.alloc (.cells #[.slice c0_0 x0_0.length k0_0, .int .i64 a0_1] 37)).alloc (.cells #[.int .i64 a1_0, .int .i64 a1_1, .slice c1_2 x1_2.length k1_2, .int .i64 a1_3, .int .i64 a1_4] 26)) (.slice c0_0 x0_0.length k0_0) x0_0) := Lib.hid (slR_below tVersionS_law h0_0 HB0.out)
 have A1_2 : Hid (SlR tInt ((w.alloc (.cells #[.slice c0_0 x0_0.length k0_0, .int .i64 a0_1] 37)).alloc (.cells #[.int .i64 a1_0, .int .i64 a1_1, .slice c1_2 x1_2.length k1_2, .int .i64 a1_3, .int .i64 a1_4] 26)) (.slice c1_2 x1_2.length k1_2) x1_2) := Lib.hid (slR_below tInt_law h1_2 HB0.out)
 have O0_0 := Lib.hid o0_0
 have O1_2 := Lib.hid o1_2
 clear h0_0 o0_0 h1_2 o1_2
 have HSP := Lib.hid hspec
 have HIM := Lib.hid himpl
 clear hspec himpl
 have Z0 := Lib.hid z0
 clear z0
 by_cases c0 : ((zL tVersionS x0_0 : Nat) : Int) ≤ (1048576 : Int)
 ·
  by_cases c1 : ((zL tInt x1_2 : Nat) : Int) ≤ (1048576 : Int) - ((zL tVersionS x0_0 : Nat) : Int)
  ·
   have HZ0 : Hid (((zL tVersionS x0_0 : Nat) : Int) ≤ (1048576 : Int)) := Lib.hid c0
   have HK0 : Hid ((1048576 : Int) ≤ 1048576) := Lib.hid (by omega)
   have hn0 : ¬ (1048576 : Int) - ((zL tVersionS x0_0 : Nat) : Int) < 0 := by omega
   have HZ1 : Hid (((zL tInt x1_2 : Nat) : Int) ≤ (1048576 : Int) - ((zL tVersionS x0_0 : Nat) : Int)) := Lib.hid c1
   have HK1 : Hid ((1048576 : Int) - ((zL tVersionS x0_0 : Nat) : Int) ≤ 1048576) := Lib.hid (by omega)
   have hn1 : ¬ (1048576 : Int) - ((zL tVersionS x0_0 : Nat) : Int) - ((zL tInt x1_2 : Nat) : Int) < 0 := by omega
   have HT : Hid (zL tVersionS x0_0 + zL tInt x1_2 ≤ 1048576) := Lib.hid (by omega)
   have S0_0 : Hid (zL tVersionS x0_0 ≤ 1048576) := Lib.hid (by omega)
   have S1_2 : Hid (zL tInt x1_2 ≤ 1048576) := Lib.hid (by omega)
   have N0_0 := ndL_le tVersionS_law (by decide) x0_0
   have N1_2 := ndL_le tInt_law (by decide) x1_2
   have M0 : Hid (0 ≤ (1 : Int) ∧ (1 : Int) ≤ 134217728) := Lib.hid (by have := HT.out; omega)
   have M1 : Hid (0 ≤ (1 + (ndL tVersionS x0_0 : Int) : Int) ∧ (1 + (ndL tVersionS x0_0 : Int) : Int) ≤ 134217728) := Lib.hid (by have := HT.out; omega)
   have hk : ¬ (1 + (ndL tVersionS x0_0 : Int) + (ndL tInt x1_2 : Int) : Int) < 0 := by omega
   clear N0_0 N1_2
   have e1 : (r1 != r1) = false := by simp
   obtain ⟨xr0_0, ar0_1⟩ := r0
   have ZZ0 := Z0.out
   rw [tStore_sz] at ZZ0
   have NR0_0 := ndL_le tVersionS_law (by decide) xr0_0
   have Z0_0 : Hid (zL tVersionS xr0_0 ≤ 1048576) := Lib.hid (by omega)
   have MR0 : Hid (0 ≤ (1 : Int) ∧ (1 : Int) ≤ 134217728) := Lib.hid (by omega)
   have hh0 : ¬ (1 + (ndL tVersionS xr0_0 : Int) : Int) < 0 := by omega
   have hq : ((1 + (ndL tVersionS xr0_0 : Int) : Int) != 1 + (ndL tVersionS xr0_0 : Int)) = false := by simp
   clear ZZ0 NR0_0
   clear c0 c1
   go_enter Try.func4, Try.ntmps4
   go_wp2_with fail
   have Y_W : Hid (w.heap.size + 2 ≤ ((w.alloc (.cells #[.slice c0_0 x0_0.length k0_0, .int .i64 a0_1] 37)).alloc (.cells #[.int .i64 a1_0, .int .i64 a1_1, .slice c1_2 x1_2.length k1_2, .int .i64 a1_3, .int .i64 a1_4] 26)).heap.size) := Lib.hid (by simp [World.size_alloc])
   generalize ((w.alloc (.cells #[.slice c0_0 x0_0.length k0_0, .int .i64 a0_1] 37)).alloc (.cells #[.int .i64 a1_0, .int .i64 a1_1, .slice c1_2 x1_2.length k1_2, .int .i64 a1_3, .int .i64 a1_4] 26)) = W at *
   have d := Lib.hid (Below.refl W.heap.size W)
   refine (szStore_Y a0_1 (.slice c0_0 x0_0.length k0_0) x0_0 ((1048576 : Int)) W (slR_below tVersionS_law A0_0.out d.out) HZ0.out HK0.out).mono ?_
   rintro e v1 ⟨rfl, c1⟩
   replace B0 := Lib.hid ((c1.block w.heap.size (Array.getElem?_eq_some_iff.1 B0.out).1).trans B0.out)
   replace B1 := Lib.hid ((c1.block (w.heap.size + 1) (Array.getElem?_eq_some_iff.1 B1.out).1).trans B1.out)
   replace d := Lib.hid (d.out.trans (c1.mono d.out.size))
   have Z_v1 := Lib.hid (show W.heap.size ≤ v1.heap.size from c1.size)
   clear c1
   have p_B1_0 := (cell_of_row v1 _ 0 _ _ _ B1.out).trans (show _ = some (Value.int .i64 a1_0) from rfl)
   have p_B1_1 := (cell_of_row v1 _ 1 _ _ _ B1.out).trans (show _ = some (Value.int .i64 a1_1) from rfl)
   have p_B1_2 := (cell_of_row v1 _ 2 _ _ _ B1.out).trans (show _ = some (Value.slice c1_2 x1_2.length k1_2) from rfl)
   have p_B1_3 := (cell_of_row v1 _ 3 _ _ _ B1.out).trans (show _ = some (Value.int .i64 a1_3) from rfl)
   have p_B1_4 := (cell_of_row v1 _ 4 _ _ _ B1.out).trans (show _ = some (Value.int .i64 a1_4) from rfl)
   go_wp2_with fail
   clear p_B1_0 p_B1_1 p_B1_2 p_B1_3 p_B1_4
   refine (szUpdate_Y a1_0 a1_1 a1_3 a1_4 (.slice c1_2 x1_2.length k1_2) x1_2 ((1048576 : Int) - ((zL tVersionS x0_0 : Nat) : Int)) v1 (slR_below tInt_law A1_2.out d.out) HZ1.out HK1.out).mono ?_
   rintro e v2 ⟨rfl, c2⟩
   replace B0 := Lib.hid ((c2.block w.heap.size (Array.getElem?_eq_some_iff.1 B0.out).1).trans B0.out)
   replace B1 := Lib.hid ((c2.block (w.heap.size + 1) (Array.getElem?_eq_some_iff.1 B1.out).1).trans B1.out)
   replace d := Lib.hid (d.out.trans (c2.mono d.out.size))
   have Z_v2 := Lib.hid (show v1.heap.size ≤ v2.heap.size from c2.size)
   clear c2
   go_upto_region 8 with fail
   go_cut [6, 7] from 27 (fun s6 s7 wx => ∃ (bC1 : Nat) (yaC1_0 : Option Addr) (ycC1_0 : Nat) (KC1_0 : Nat → Prop), s7 = .bool r1 ∧ s6 = .pointer (some ⟨bC1, 0, none⟩) ∧ wx.heap[bC1]? = some (.cells #[.slice yaC1_0 xr0_0.length ycC1_0, .int .i64 ar0_1] 41 (0, 0)) ∧ bC1 < wx.heap.size ∧ v2.heap.size ≤ bC1 ∧ SlO 89 tVersionS wx KC1_0 (.slice yaC1_0 xr0_0.length ycC1_0) xr0_0 ∧ (∀ q, KC1_0 q → v2.heap.size ≤ q ∧ q < wx.heap.size ∧ q ≠ bC1) ∧ Below v2.heap.size v2 wx)
   case first =>
    have DD := d
    clear d
    replace A0_0 := Lib.hid (slR_below tVersionS_law A0_0.out DD.out)
    replace A1_2 := Lib.hid (slR_below tInt_law A1_2.out DD.out)
    have d := Lib.hid (Below.refl v2.heap.size v2)
    go_wp2
    have p_B0_0 := (cell_of_row v2 _ 0 _ _ _ B0.out).trans (show _ = some (Value.slice c0_0 x0_0.length k0_0) from rfl)
    have p_B0_1 := (cell_of_row v2 _ 1 _ _ _ B0.out).trans (show _ = some (Value.int .i64 a0_1) from rfl)
    have p_B1_0 := (cell_of_row v2 _ 0 _ _ _ B1.out).trans (show _ = some (Value.int .i64 a1_0) from rfl)
    have p_B1_1 := (cell_of_row v2 _ 1 _ _ _ B1.out).trans (show _ = some (Value.int .i64 a1_1) from rfl)
    have p_B1_2 := (cell_of_row v2 _ 2 _ _ _ B1.out).trans (show _ = some (Value.slice c1_2 x1_2.length k1_2) from rfl)
    have p_B1_3 := (cell_of_row v2 _ 3 _ _ _ B1.out).trans (show _ = some (Value.int .i64 a1_3) from rfl)
    have p_B1_4 := (cell_of_row v2 _ 4 _ _ _ B1.out).trans (show _ = some (Value.int .i64 a1_4) from rfl)
    refine wp_region_held_drew (S := fun w' => w'.cell? ⟨w.heap.size, 0, none⟩ = some (Value.slice c0_0 x0_0.length k0_0) ∧ w'.cell? ⟨w.heap.size, 1, none⟩ = some (Value.int .i64 a0_1) ∧ w'.cell? ⟨(w.heap.size + 1), 0, none⟩ = some (Value.int .i64 a1_0) ∧ w'.cell? ⟨(w.heap.size + 1), 1, none⟩ = some (Value.int .i64 a1_1) ∧ w'.cell? ⟨(w.heap.size + 1), 2, none⟩ = some (Value.slice c1_2 x1_2.length k1_2) ∧ w'.cell? ⟨(w.heap.size + 1), 3, none⟩ = some (Value.int .i64 a1_3) ∧ w'.cell? ⟨(w.heap.size + 1), 4, none⟩ = some (Value.int .i64 a1_4)) (by kernel_rfl) ⟨p_B0_0, p_B0_1, p_B1_0, p_B1_1, p_B1_2, p_B1_3, p_B1_4⟩ (fun hHeld => ?_)
    clear p_B0_0 p_B0_1 p_B1_0 p_B1_1 p_B1_2 p_B1_3 p_B1_4
    have cdrC1 : Below v2.heap.size v2 v2.drew := below_drew (Below.refl _ _)
    replace B0 := Lib.hid ((cdrC1.block w.heap.size (Array.getElem?_eq_some_iff.1 B0.out).1).trans B0.out)
    replace B1 := Lib.hid ((cdrC1.block (w.heap.size + 1) (Array.getElem?_eq_some_iff.1 B1.out).1).trans B1.out)
    replace d := Lib.hid (d.out.trans (cdrC1.mono d.out.size))
    clear cdrC1
    have Z_drC1 := Lib.hid (show v2.heap.size ≤ v2.drew.heap.size from Nat.le_refl _)
    generalize v2.drew = WdC1 at *
    refine tR (i := 0) (v := ?_) ?_ ?_; rotate_left
    ·
     intro w hSw; (try dsimp only at hSw); go_simp; try (with_reducible rfl)
    try simp only [Act.put, lA, lB, lC]
    refine tR (i := 2) (v := ?_) ?_ ?_; rotate_left
    ·
     intro w hSw; (try dsimp only at hSw); go_simp; try (with_reducible rfl)
    try simp only [Act.put, lA, lB, lC]
    refine wpAnyH_ready (rs := [1, 8]) (by kernel_rfl) (by simp) ?_
    refine (AllReadyH.cons (o := _) (by simp only [hA, hB, hC]; rfl) (fun K hK => ?_) (AllReadyH.cons (o := _) (by simp only [hA, hB, hC]; rfl) (fun K hK => ?_) AllReadyH.nil))
    ·
     go_simp
     refine (toStore_T a0_1 (.slice c0_0 x0_0.length k0_0) x0_0 WdC1 (slR_below tVersionS_law A0_0.out d.out) S0_0.out).mono ?_
     rintro e v4 ⟨cs, rfl, ow, c4⟩
     replace B0 := Lib.hid ((c4.block w.heap.size (Array.getElem?_eq_some_iff.1 B0.out).1).trans B0.out)
     replace B1 := Lib.hid ((c4.block (w.heap.size + 1) (Array.getElem?_eq_some_iff.1 B1.out).1).trans B1.out)
     replace d := Lib.hid (d.out.trans (c4.mono d.out.size))
     have Z_v4 := Lib.hid (show WdC1.heap.size ≤ v4.heap.size from c4.size)
     clear c4
     replace ow := tStore_law.lt ow
     obtain ⟨y4_0, K4_0, rfl, p4_0, w4_0⟩ := tStore_O ow
     obtain ⟨ya4_0, yc4_0, rfl⟩ := slO_len p4_0
     have P4_0 := Lib.hid p4_0
     have Q4_0 := Lib.hid (fun b h => (show WdC1.heap.size ≤ b ∧ b < v4.heap.size from w4_0 b h))
     clear p4_0 w4_0 ow
     have p_B0_0 := (cell_of_row v4 _ 0 _ _ _ B0.out).trans (show _ = some (Value.slice c0_0 x0_0.length k0_0) from rfl)
     have p_B0_1 := (cell_of_row v4 _ 1 _ _ _ B0.out).trans (show _ = some (Value.int .i64 a0_1) from rfl)
     have p_B1_0 := (cell_of_row v4 _ 0 _ _ _ B1.out).trans (show _ = some (Value.int .i64 a1_0) from rfl)
     have p_B1_1 := (cell_of_row v4 _ 1 _ _ _ B1.out).trans (show _ = some (Value.int .i64 a1_1) from rfl)
     have p_B1_2 := (cell_of_row v4 _ 2 _ _ _ B1.out).trans (show _ = some (Value.slice c1_2 x1_2.length k1_2) from rfl)
     have p_B1_3 := (cell_of_row v4 _ 3 _ _ _ B1.out).trans (show _ = some (Value.int .i64 a1_3) from rfl)
     have p_B1_4 := (cell_of_row v4 _ 4 _ _ _ B1.out).trans (show _ = some (Value.int .i64 a1_4) from rfl)
     refine hK.out _ _ ⟨p_B0_0, p_B0_1, p_B1_0, p_B1_1, p_B1_2, p_B1_3, p_B1_4⟩ (fun hHeld => ?_)
     clear p_B0_0 p_B0_1 p_B1_0 p_B1_1 p_B1_2 p_B1_3 p_B1_4
     clear hK K
     try simp only [Act.put, lA, lB, lC]
     refine wpAnyH_ready (rs := [3, 8]) (by kernel_rfl) (by simp) ?_
     refine (AllReadyH.cons (o := _) (by simp only [hA, hB, hC]; rfl) (fun K hK => ?_) (AllReadyH.cons (o := _) (by simp only [hA, hB, hC]; rfl) (fun K hK => ?_) AllReadyH.nil))
     ·
      go_simp
      refine (toUpdate_T a1_0 a1_1 a1_3 a1_4 (.slice c1_2 x1_2.length k1_2) x1_2 v4 (slR_below tInt_law A1_2.out d.out) S1_2.out).mono ?_
      rintro e v5 ⟨cs, rfl, ow, c5⟩
      replace B0 := Lib.hid ((c5.block w.heap.size (Array.getElem?_eq_some_iff.1 B0.out).1).trans B0.out)
      replace B1 := Lib.hid ((c5.block (w.heap.size + 1) (Array.getElem?_eq_some_iff.1 B1.out).1).trans B1.out)
      replace P4_0 := Lib.hid (slO_fresh tVersionS_law P4_0.out c5)
      replace d := Lib.hid (d.out.trans (c5.mono d.out.size))
      have Z_v5 := Lib.hid (show v4.heap.size ≤ v5.heap.size from c5.size)
      clear c5
      replace ow := tUpdate_law.lt ow
      obtain ⟨y5_2, K5_2, rfl, p5_2, w5_2⟩ := tUpdate_O ow
      obtain ⟨ya5_2, yc5_2, rfl⟩ := slO_len p5_2
      have P5_2 := Lib.hid p5_2
      have Q5_2 := Lib.hid (fun b h => (show v4.heap.size ≤ b ∧ b < v5.heap.size from w5_2 b h))
      clear p5_2 w5_2 ow
      have p_B0_0 := (cell_of_row v5 _ 0 _ _ _ B0.out).trans (show _ = some (Value.slice c0_0 x0_0.length k0_0) from rfl)
      have p_B0_1 := (cell_of_row v5 _ 1 _ _ _ B0.out).trans (show _ = some (Value.int .i64 a0_1) from rfl)
      have p_B1_0 := (cell_of_row v5 _ 0 _ _ _ B1.out).trans (show _ = some (Value.int .i64 a1_0) from rfl)
      have p_B1_1 := (cell_of_row v5 _ 1 _ _ _ B1.out).trans (show _ = some (Value.int .i64 a1_1) from rfl)
      have p_B1_2 := (cell_of_row v5 _ 2 _ _ _ B1.out).trans (show _ = some (Value.slice c1_2 x1_2.length k1_2) from rfl)
      have p_B1_3 := (cell_of_row v5 _ 3 _ _ _ B1.out).trans (show _ = some (Value.int .i64 a1_3) from rfl)
      have p_B1_4 := (cell_of_row v5 _ 4 _ _ _ B1.out).trans (show _ = some (Value.int .i64 a1_4) from rfl)
      refine hK.out _ _ ⟨p_B0_0, p_B0_1, p_B1_0, p_B1_1, p_B1_2, p_B1_3, p_B1_4⟩ (fun hHeld => ?_)
      clear p_B0_0 p_B0_1 p_B1_0 p_B1_1 p_B1_2 p_B1_3 p_B1_4
      clear hK K
      try simp only [Act.put, lA, lB, lC]
      refine wpAnyH_ready (rs := [4, 8]) (by kernel_rfl) (by simp) ?_
      refine (AllReadyH.cons (o := _) (by simp only [hA, hB, hC]; rfl) (fun K hK => ?_) (AllReadyH.cons (o := _) (by simp only [hA, hB, hC]; rfl) (fun K hK => ?_) AllReadyH.nil))
      ·
       go_simp
       refine (HSP.out (.slice ya4_0 x0_0.length yc4_0) (.slice ya5_2 x1_2.length yc5_2) v5 (slO_reads tVersionS_law P4_0.out) (slO_reads tInt_law P5_2.out) HT.out ).mono ?_
       rintro e v6 ⟨g0, G0, rfl, o0, q0, c6⟩
       replace B0 := Lib.hid ((c6.block w.heap.size (Array.getElem?_eq_some_iff.1 B0.out).1).trans B0.out)
       replace B1 := Lib.hid ((c6.block (w.heap.size + 1) (Array.getElem?_eq_some_iff.1 B1.out).1).trans B1.out)
       replace P4_0 := Lib.hid (slO_fresh tVersionS_law P4_0.out c6)
       replace P5_2 := Lib.hid (slO_fresh tInt_law P5_2.out c6)
       replace d := Lib.hid (d.out.trans (c6.mono d.out.size))
       have Z_v6 := Lib.hid (show v5.heap.size ≤ v6.heap.size from c6.size)
       clear c6
       replace o0 := tStore_law.lt o0
       obtain ⟨y6_0, K6_0, rfl, p6_0, w6_0⟩ := tStore_O o0
       obtain ⟨ya6_0, yc6_0, rfl⟩ := slO_len p6_0
       have P6_0 := Lib.hid p6_0
       have Q6_0 := Lib.hid (fun b h => (show v5.heap.size ≤ b ∧ b < v6.heap.size from ⟨q0 b (w6_0 b h).1, (w6_0 b h).2⟩))
       clear p6_0 w6_0 o0 q0
       have p_B0_0 := (cell_of_row v6 _ 0 _ _ _ B0.out).trans (show _ = some (Value.slice c0_0 x0_0.length k0_0) from rfl)
       have p_B0_1 := (cell_of_row v6 _ 1 _ _ _ B0.out).trans (show _ = some (Value.int .i64 a0_1) from rfl)
       have p_B1_0 := (cell_of_row v6 _ 0 _ _ _ B1.out).trans (show _ = some (Value.int .i64 a1_0) from rfl)
       have p_B1_1 := (cell_of_row v6 _ 1 _ _ _ B1.out).trans (show _ = some (Value.int .i64 a1_1) from rfl)
       have p_B1_2 := (cell_of_row v6 _ 2 _ _ _ B1.out).trans (show _ = some (Value.slice c1_2 x1_2.length k1_2) from rfl)
       have p_B1_3 := (cell_of_row v6 _ 3 _ _ _ B1.out).trans (show _ = some (Value.int .i64 a1_3) from rfl)
       have p_B1_4 := (cell_of_row v6 _ 4 _ _ _ B1.out).trans (show _ = some (Value.int .i64 a1_4) from rfl)
       refine hK.out _ _ ⟨p_B0_0, p_B0_1, p_B1_0, p_B1_1, p_B1_2, p_B1_3, p_B1_4⟩ (fun hHeld => ?_)
       clear p_B0_0 p_B0_1 p_B1_0 p_B1_1 p_B1_2 p_B1_3 p_B1_4
       clear hK K
       try simp only [Act.put, lA, lB, lC]
       refine tR (i := 5) (v := ?_) ?_ ?_; rotate_left
       ·
        intro w hSw; (try dsimp only at hSw); go_simp; try (with_reducible rfl)
       try simp only [Act.put, lA, lB, lC]
       refine tR (i := 6) (v := ?_) ?_ ?_; rotate_left
       ·
        intro w hSw; (try dsimp only at hSw); go_simp; try (with_reducible rfl)
       try simp only [Act.put, lA, lB, lC]
       refine tR (i := 7) (v := ?_) ?_ ?_; rotate_left
       ·
        intro w hSw; (try dsimp only at hSw); go_simp; try (with_reducible rfl)
       try simp only [Act.put, lA, lB, lC]
       refine wpAnyH_ready (rs := [8]) (by kernel_rfl) (by simp) ?_
       refine (AllReadyH.cons (o := _) (by simp only [hA, hB, hC]; rfl) (fun K hK => ?_) AllReadyH.nil)
       go_simp
       have hal : Below v6.heap.size v6 (v6.alloc (.cells #[.slice none 0 0, .int .i64 0] 41)) := (Below.refl _ _).alloc (Nat.le_refl _) _
       have XC1 := Lib.hid (heap_alloc_new v6 (.cells #[.slice none 0 0, .int .i64 0] 41))
       have Y_XC1 := Lib.hid (show v6.heap.size < (v6.alloc (.cells #[.slice none 0 0, .int .i64 0] 41)).heap.size by simp [World.size_alloc])
       replace B0 := Lib.hid ((hal.block w.heap.size (Array.getElem?_eq_some_iff.1 B0.out).1).trans B0.out)
       replace B1 := Lib.hid ((hal.block (w.heap.size + 1) (Array.getElem?_eq_some_iff.1 B1.out).1).trans B1.out)
       replace P4_0 := Lib.hid (slO_fresh tVersionS_law P4_0.out hal)
       replace P5_2 := Lib.hid (slO_fresh tInt_law P5_2.out hal)
       replace P6_0 := Lib.hid (slO_fresh tVersionS_law P6_0.out hal)
       replace d := Lib.hid (d.out.trans (hal.mono d.out.size))
       clear hal
       generalize (v6.alloc (.cells #[.slice none 0 0, .int .i64 0] 41)) = v7 at *
       have p_B0_0 := (cell_of_row v7 _ 0 _ _ _ B0.out).trans (show _ = some (Value.slice c0_0 x0_0.length k0_0) from rfl)
       have p_B0_1 := (cell_of_row v7 _ 1 _ _ _ B0.out).trans (show _ = some (Value.int .i64 a0_1) from rfl)
       have p_B1_0 := (cell_of_row v7 _ 0 _ _ _ B1.out).trans (show _ = some (Value.int .i64 a1_0) from rfl)
       have p_B1_1 := (cell_of_row v7 _ 1 _ _ _ B1.out).trans (show _ = some (Value.int .i64 a1_1) from rfl)
       have p_B1_2 := (cell_of_row v7 _ 2 _ _ _ B1.out).trans (show _ = some (Value.slice c1_2 x1_2.length k1_2) from rfl)
       have p_B1_3 := (cell_of_row v7 _ 3 _ _ _ B1.out).trans (show _ = some (Value.int .i64 a1_3) from rfl)
       have p_B1_4 := (cell_of_row v7 _ 4 _ _ _ B1.out).trans (show _ = some (Value.int .i64 a1_4) from rfl)
       refine hK.out _ _ ⟨p_B0_0, p_B0_1, p_B1_0, p_B1_1, p_B1_2, p_B1_3, p_B1_4⟩ (fun hHeld => ?_)
       clear p_B0_0 p_B0_1 p_B1_0 p_B1_1 p_B1_2 p_B1_3 p_B1_4
       clear hK K
       try simp only [Act.put, lA, lB, lC]
       refine wpAnyH_ready (rs := [9]) (by kernel_rfl) (by simp) ?_
       refine (AllReadyH.cons (o := _) (by simp only [hA, hB, hC]; rfl) (fun K hK => ?_) AllReadyH.nil)
       have p_XC1_0 := (cell_of_row v7 _ 0 _ _ _ XC1.out).trans (show _ = some (Value.slice none 0 0) from rfl)
       have p_XC1_1 := (cell_of_row v7 _ 1 _ _ _ XC1.out).trans (show _ = some (Value.int .i64 0) from rfl)
       have f_XC1_0 := frozen_of_row v7 _ 0 _ _ XC1.out
       have f_XC1_1 := frozen_of_row v7 _ 1 _ _ XC1.out
       go_simp
       clear p_XC1_0 p_XC1_1 f_XC1_0 f_XC1_1
       have y0 := Y_W.out
       have y1 := Z_v1.out
       have y2 := Z_v2.out
       have y3 := Z_drC1.out
       have y4 := Z_v4.out
       have y5 := Z_v5.out
       have y6 := Z_v6.out
       have y7 := Y_XC1.out
       have tt : Turn (fun b => b = v6.heap.size) v7 ((v7.setCell ⟨v6.heap.size, 0, none⟩ (.slice ya6_0 xr0_0.length yc6_0)).setCell ⟨v6.heap.size, 1, none⟩ (.int .i64 ar0_1)) := (((Turn.refl (fun b => b = v6.heap.size) v7).trans (turn_set (G := fun b => b = v6.heap.size) (g := v6.heap.size) (j := 0) (u := .slice ya6_0 xr0_0.length yc6_0) rfl)).trans (turn_set (G := fun b => b = v6.heap.size) (g := v6.heap.size) (j := 1) (u := .int .i64 ar0_1) rfl))
       have r := (heap_setCell_same _ (v6.heap.size) 1 _ _ (.int .i64 ar0_1) (heap_setCell_same v7 (v6.heap.size) 0 _ _ (.slice ya6_0 xr0_0.length yc6_0) XC1.out))
       simp at r
       have yd := d.out.size
       replace B0 := Lib.hid ((tt.block w.heap.size (Array.getElem?_eq_some_iff.1 B0.out).1 (fun h => by omega)).trans B0.out)
       replace B1 := Lib.hid ((tt.block (w.heap.size + 1) (Array.getElem?_eq_some_iff.1 B1.out).1 (fun h => by omega)).trans B1.out)
       replace P4_0 := Lib.hid (slO_turn tVersionS_law P4_0.out tt (fun b h1 h2 => by have r1 := Q4_0.out b h1; omega))
       replace P5_2 := Lib.hid (slO_turn tInt_law P5_2.out tt (fun b h1 h2 => by have r1 := Q5_2.out b h1; omega))
       replace P6_0 := Lib.hid (slO_turn tVersionS_law P6_0.out tt (fun b h1 h2 => by have r1 := Q6_0.out b h1; omega))
       replace d := Lib.hid (below_turn d.out tt (fun b h => by omega) yd)
       replace XC1 : Hid (((v7.setCell ⟨v6.heap.size, 0, none⟩ (.slice ya6_0 xr0_0.length yc6_0)).setCell ⟨v6.heap.size, 1, none⟩ (.int .i64 ar0_1)).heap[v6.heap.size]? = some (.cells #[.slice ya6_0 xr0_0.length yc6_0, .int .i64 ar0_1] 41 (0, 0))) := Lib.hid r
       have Z_v8 := Lib.hid (show v7.heap.size ≤ ((v7.setCell ⟨v6.heap.size, 0, none⟩ (.slice ya6_0 xr0_0.length yc6_0)).setCell ⟨v6.heap.size, 1, none⟩ (.int .i64 ar0_1)).heap.size from tt.size)
       clear tt r yd y0 y1 y2 y3 y4 y5 y6 y7
       generalize ((v7.setCell ⟨v6.heap.size, 0, none⟩ (.slice ya6_0 xr0_0.length yc6_0)).setCell ⟨v6.heap.size, 1, none⟩ (.int .i64 ar0_1)) = v8 at *
       have p_B0_0 := (cell_of_row v8 _ 0 _ _ _ B0.out).trans (show _ = some (Value.slice c0_0 x0_0.length k0_0) from rfl)
       have p_B0_1 := (cell_of_row v8 _ 1 _ _ _ B0.out).trans (show _ = some (Value.int .i64 a0_1) from rfl)
       have p_B1_0 := (cell_of_row v8 _ 0 _ _ _ B1.out).trans (show _ = some (Value.int .i64 a1_0) from rfl)
       have p_B1_1 := (cell_of_row v8 _ 1 _ _ _ B1.out).trans (show _ = some (Value.int .i64 a1_1) from rfl)
       have p_B1_2 := (cell_of_row v8 _ 2 _ _ _ B1.out).trans (show _ = some (Value.slice c1_2 x1_2.length k1_2) from rfl)
       have p_B1_3 := (cell_of_row v8 _ 3 _ _ _ B1.out).trans (show _ = some (Value.int .i64 a1_3) from rfl)
       have p_B1_4 := (cell_of_row v8 _ 4 _ _ _ B1.out).trans (show _ = some (Value.int .i64 a1_4) from rfl)
       refine hK.out _ _ ⟨p_B0_0, p_B0_1, p_B1_0, p_B1_1, p_B1_2, p_B1_3, p_B1_4⟩ (fun hHeld => ?_)
       clear p_B0_0 p_B0_1 p_B1_0 p_B1_1 p_B1_2 p_B1_3 p_B1_4
       clear hK K
       try simp only [Act.put, lA, lB, lC]
       refine tR (i := 10) (v := ?_) ?_ ?_; rotate_left
       ·
        intro w hSw; (try dsimp only at hSw); go_simp; try (with_reducible rfl)
       try simp only [Act.put, lA, lB, lC]
       refine wpAnyH_done (by kernel_rfl) ?_ _
       clear hHeld
       go_wp2
       go_meet
       have y0 := Y_W.out
       have y1 := Z_v1.out
       have y2 := Z_v2.out
       have y3 := Z_drC1.out
       have y4 := Z_v4.out
       have y5 := Z_v5.out
       have y6 := Z_v6.out
       have y7 := Y_XC1.out
       have y8 := Z_v8.out
       case rel => exact ⟨_, _, _, _, rfl, rfl, XC1.out, (Array.getElem?_eq_some_iff.1 XC1.out).1, (by omega), P6_0.out, (fun q hq => by have r := Q6_0.out q hq; omega), d.out⟩
      ·
       go_simp
       have hal : Below v5.heap.size v5 (v5.alloc (.cells #[.slice none 0 0, .int .i64 0] 41)) := (Below.refl _ _).alloc (Nat.le_refl _) _
       have XC1 := Lib.hid (heap_alloc_new v5 (.cells #[.slice none 0 0, .int .i64 0] 41))
       have Y_XC1 := Lib.hid (show v5.heap.size < (v5.alloc (.cells #[.slice none 0 0, .int .i64 0] 41)).heap.size by simp [World.size_alloc])
       replace B0 := Lib.hid ((hal.block w.heap.size (Array.getElem?_eq_some_iff.1 B0.out).1).trans B0.out)
       replace B1 := Lib.hid ((hal.block (w.heap.size + 1) (Array.getElem?_eq_some_iff.1 B1.out).1).trans B1.out)
       replace P4_0 := Lib.hid (slO_fresh tVersionS_law P4_0.out hal)
       replace P5_2 := Lib.hid (slO_fresh tInt_law P5_2.out hal)
       replace d := Lib.hid (d.out.trans (hal.mono d.out.size))
       clear hal
       generalize (v5.alloc (.cells #[.slice none 0 0, .int .i64 0] 41)) = v6 at *
       have p_B0_0 := (cell_of_row v6 _ 0 _ _ _ B0.out).trans (show _ = some (Value.slice c0_0 x0_0.length k0_0) from rfl)
       have p_B0_1 := (cell_of_row v6 _ 1 _ _ _ B0.out).trans (show _ = some (Value.int .i64 a0_1) from rfl)
       have p_B1_0 := (cell_of_row v6 _ 0 _ _ _ B1.out).trans (show _ = some (Value.int .i64 a1_0) from rfl)
       have p_B1_1 := (cell_of_row v6 _ 1 _ _ _ B1.out).trans (show _ = some (Value.int .i64 a1_1) from rfl)
       have p_B1_2 := (cell_of_row v6 _ 2 _ _ _ B1.out).trans (show _ = some (Value.slice c1_2 x1_2.length k1_2) from rfl)
       have p_B1_3 := (cell_of_row v6 _ 3 _ _ _ B1.out).trans (show _ = some (Value.int .i64 a1_3) from rfl)
       have p_B1_4 := (cell_of_row v6 _ 4 _ _ _ B1.out).trans (show _ = some (Value.int .i64 a1_4) from rfl)
       refine hK.out _ _ ⟨p_B0_0, p_B0_1, p_B1_0, p_B1_1, p_B1_2, p_B1_3, p_B1_4⟩ (fun hHeld => ?_)
       clear p_B0_0 p_B0_1 p_B1_0 p_B1_1 p_B1_2 p_B1_3 p_B1_4
       clear hK K
       try simp only [Act.put, lA, lB, lC]
       refine wpAnyH_ready (rs := [4]) (by kernel_rfl) (by simp) ?_
       refine (AllReadyH.cons (o := _) (by simp only [hA, hB, hC]; rfl) (fun K hK => ?_) AllReadyH.nil)
       go_simp
       refine (HSP.out (.slice ya4_0 x0_0.length yc4_0) (.slice ya5_2 x1_2.length yc5_2) v6 (slO_reads tVersionS_law P4_0.out) (slO_reads tInt_law P5_2.out) HT.out ).mono ?_
       rintro e v7 ⟨g0, G0, rfl, o0, q0, c7⟩
       replace B0 := Lib.hid ((c7.block w.heap.size (Array.getElem?_eq_some_iff.1 B0.out).1).trans B0.out)
       replace B1 := Lib.hid ((c7.block (w.heap.size + 1) (Array.getElem?_eq_some_iff.1 B1.out).1).trans B1.out)
       replace XC1 := Lib.hid ((c7.block v5.heap.size (Array.getElem?_eq_some_iff.1 XC1.out).1).trans XC1.out)
       replace P4_0 := Lib.hid (slO_fresh tVersionS_law P4_0.out c7)
       replace P5_2 := Lib.hid (slO_fresh tInt_law P5_2.out c7)
       replace d := Lib.hid (d.out.trans (c7.mono d.out.size))
       have Z_v7 := Lib.hid (show v6.heap.size ≤ v7.heap.size from c7.size)
       clear c7
       replace o0 := tStore_law.lt o0
       obtain ⟨y7_0, K7_0, rfl, p7_0, w7_0⟩ := tStore_O o0
       obtain ⟨ya7_0, yc7_0, rfl⟩ := slO_len p7_0
       have P7_0 := Lib.hid p7_0
       have Q7_0 := Lib.hid (fun b h => (show v6.heap.size ≤ b ∧ b < v7.heap.size from ⟨q0 b (w7_0 b h).1, (w7_0 b h).2⟩))
       clear p7_0 w7_0 o0 q0
       have p_B0_0 := (cell_of_row v7 _ 0 _ _ _ B0.out).trans (show _ = some (Value.slice c0_0 x0_0.length k0_0) from rfl)
       have p_B0_1 := (cell_of_row v7 _ 1 _ _ _ B0.out).trans (show _ = some (Value.int .i64 a0_1) from rfl)
       have p_B1_0 := (cell_of_row v7 _ 0 _ _ _ B1.out).trans (show _ = some (Value.int .i64 a1_0) from rfl)
       have p_B1_1 := (cell_of_row v7 _ 1 _ _ _ B1.out).trans (show _ = some (Value.int .i64 a1_1) from rfl)
       have p_B1_2 := (cell_of_row v7 _ 2 _ _ _ B1.out).trans (show _ = some (Value.slice c1_2 x1_2.length k1_2) from rfl)
       have p_B1_3 := (cell_of_row v7 _ 3 _ _ _ B1.out).trans (show _ = some (Value.int .i64 a1_3) from rfl)
       have p_B1_4 := (cell_of_row v7 _ 4 _ _ _ B1.out).trans (show _ = some (Value.int .i64 a1_4) from rfl)
       refine hK.out _ _ ⟨p_B0_0, p_B0_1, p_B1_0, p_B1_1, p_B1_2, p_B1_3, p_B1_4⟩ (fun hHeld => ?_)
       clear p_B0_0 p_B0_1 p_B1_0 p_B1_1 p_B1_2 p_B1_3 p_B1_4
       clear hK K
       try simp only [Act.put, lA, lB, lC]
       refine tR (i := 5) (v := ?_) ?_ ?_; rotate_left
       ·
        intro w hSw; (try dsimp only at hSw); go_simp; try (with_reducible rfl)
       try simp only [Act.put, lA, lB, lC]
       refine tR (i := 6) (v := ?_) ?_ ?_; rotate_left
       ·
        intro w hSw; (try dsimp only at hSw); go_simp; try (with_reducible rfl)
       try simp only [Act.put, lA, lB, lC]
       refine tR (i := 7) (v := ?_) ?_ ?_; rotate_left
       ·
        intro w hSw; (try dsimp only at hSw); go_simp; try (with_reducible rfl)
       try simp only [Act.put, lA, lB, lC]
       refine wpAnyH_ready (rs := [9]) (by kernel_rfl) (by simp) ?_
       refine (AllReadyH.cons (o := _) (by simp only [hA, hB, hC]; rfl) (fun K hK => ?_) AllReadyH.nil)
       have p_XC1_0 := (cell_of_row v7 _ 0 _ _ _ XC1.out).trans (show _ = some (Value.slice none 0 0) from rfl)
       have p_XC1_1 := (cell_of_row v7 _ 1 _ _ _ XC1.out).trans (show _ = some (Value.int .i64 0) from rfl)
       have f_XC1_0 := frozen_of_row v7 _ 0 _ _ XC1.out
       have f_XC1_1 := frozen_of_row v7 _ 1 _ _ XC1.out
       go_simp
       clear p_XC1_0 p_XC1_1 f_XC1_0 f_XC1_1
       have y0 := Y_W.out
       have y1 := Z_v1.out
       have y2 := Z_v2.out
       have y3 := Z_drC1.out
       have y4 := Z_v4.out
       have y5 := Z_v5.out
       have y6 := Y_XC1.out
       have y7 := Z_v7.out
       have tt : Turn (fun b => b = v5.heap.size) v7 ((v7.setCell ⟨v5.heap.size, 0, none⟩ (.slice ya7_0 xr0_0.length yc7_0)).setCell ⟨v5.heap.size, 1, none⟩ (.int .i64 ar0_1)) := (((Turn.refl (fun b => b = v5.heap.size) v7).trans (turn_set (G := fun b => b = v5.heap.size) (g := v5.heap.size) (j := 0) (u := .slice ya7_0 xr0_0.length yc7_0) rfl)).trans (turn_set (G := fun b => b = v5.heap.size) (g := v5.heap.size) (j := 1) (u := .int .i64 ar0_1) rfl))
       have r := (heap_setCell_same _ (v5.heap.size) 1 _ _ (.int .i64 ar0_1) (heap_setCell_same v7 (v5.heap.size) 0 _ _ (.slice ya7_0 xr0_0.length yc7_0) XC1.out))
       simp at r
       have yd := d.out.size
       replace B0 := Lib.hid ((tt.block w.heap.size (Array.getElem?_eq_some_iff.1 B0.out).1 (fun h => by omega)).trans B0.out)
       replace B1 := Lib.hid ((tt.block (w.heap.size + 1) (Array.getElem?_eq_some_iff.1 B1.out).1 (fun h => by omega)).trans B1.out)
       replace P4_0 := Lib.hid (slO_turn tVersionS_law P4_0.out tt (fun b h1 h2 => by have r1 := Q4_0.out b h1; omega))
       replace P5_2 := Lib.hid (slO_turn tInt_law P5_2.out tt (fun b h1 h2 => by have r1 := Q5_2.out b h1; omega))
       replace P7_0 := Lib.hid (slO_turn tVersionS_law P7_0.out tt (fun b h1 h2 => by have r1 := Q7_0.out b h1; omega))
       replace d := Lib.hid (below_turn d.out tt (fun b h => by omega) yd)
       replace XC1 : Hid (((v7.setCell ⟨v5.heap.size, 0, none⟩ (.slice ya7_0 xr0_0.length yc7_0)).setCell ⟨v5.heap.size, 1, none⟩ (.int .i64 ar0_1)).heap[v5.heap.size]? = some (.cells #[.slice ya7_0 xr0_0.length yc7_0, .int .i64 ar0_1] 41 (0, 0))) := Lib.hid r
       have Z_v8 := Lib.hid (show v7.heap.size ≤ ((v7.setCell ⟨v5.heap.size, 0, none⟩ (.slice ya7_0 xr0_0.length yc7_0)).setCell ⟨v5.heap.size, 1, none⟩ (.int .i64 ar0_1)).heap.size from tt.size)
       clear tt r yd y0 y1 y2 y3 y4 y5 y6 y7
       generalize ((v7.setCell ⟨v5.heap.size, 0, none⟩ (.slice ya7_0 xr0_0.length yc7_0)).setCell ⟨v5.heap.size, 1, none⟩ (.int .i64 ar0_1)) = v8 at *
       have p_B0_0 := (cell_of_row v8 _ 0 _ _ _ B0.out).trans (show _ = some (Value.slice c0_0 x0_0.length k0_0) from rfl)
       have p_B0_1 := (cell_of_row v8 _ 1 _ _ _ B0.out).trans (show _ = some (Value.int .i64 a0_1) from rfl)
       have p_B1_0 := (cell_of_row v8 _ 0 _ _ _ B1.out).trans (show _ = some (Value.int .i64 a1_0) from rfl)
       have p_B1_1 := (cell_of_row v8 _ 1 _ _ _ B1.out).trans (show _ = some (Value.int .i64 a1_1) from rfl)
       have p_B1_2 := (cell_of_row v8 _ 2 _ _ _ B1.out).trans (show _ = some (Value.slice c1_2 x1_2.length k1_2) from rfl)
       have p_B1_3 := (cell_of_row v8 _ 3 _ _ _ B1.out).trans (show _ = some (Value.int .i64 a1_3) from rfl)
       have p_B1_4 := (cell_of_row v8 _ 4 _ _ _ B1.out).trans (show _ = some (Value.int .i64 a1_4) from rfl)
       refine hK.out _ _ ⟨p_B0_0, p_B0_1, p_B1_0, p_B1_1, p_B1_2, p_B1_3, p_B1_4⟩ (fun hHeld => ?_)
       clear p_B0_0 p_B0_1 p_B1_0 p_B1_1 p_B1_2 p_B1_3 p_B1_4
       clear hK K
       try simp only [Act.put, lA, lB, lC]
       refine tR (i := 10) (v := ?_) ?_ ?_; rotate_left
       ·
        intro w hSw; (try dsimp only at hSw); go_simp; try (with_reducible rfl)
       try simp only [Act.put, lA, lB, lC]
       refine wpAnyH_done (by kernel_rfl) ?_ _
       clear hHeld
       go_wp2
       go_meet
       have y0 := Y_W.out
       have y1 := Z_v1.out
       have y2 := Z_v2.out
       have y3 := Z_drC1.out
       have y4 := Z_v4.out
       have y5 := Z_v5.out
       have y6 := Y_XC1.out
       have y7 := Z_v7.out
       have y8 := Z_v8.out
       case rel => exact ⟨_, _, _, _, rfl, rfl, XC1.out, (Array.getElem?_eq_some_iff.1 XC1.out).1, (by omega), P7_0.out, (fun q hq => by have r := Q7_0.out q hq; omega), d.out⟩
     ·
      go_simp
      have hal : Below v4.heap.size v4 (v4.alloc (.cells #[.slice none 0 0, .int .i64 0] 41)) := (Below.refl _ _).alloc (Nat.le_refl _) _
      have XC1 := Lib.hid (heap_alloc_new v4 (.cells #[.slice none 0 0, .int .i64 0] 41))
      have Y_XC1 := Lib.hid (show v4.heap.size < (v4.alloc (.cells #[.slice none 0 0, .int .i64 0] 41)).heap.size by simp [World.size_alloc])
      replace B0 := Lib.hid ((hal.block w.heap.size (Array.getElem?_eq_some_iff.1 B0.out).1).trans B0.out)
      replace B1 := Lib.hid ((hal.block (w.heap.size + 1) (Array.getElem?_eq_some_iff.1 B1.out).1).trans B1.out)
      replace P4_0 := Lib.hid (slO_fresh tVersionS_law P4_0.out hal)
      replace d := Lib.hid (d.out.trans (hal.mono d.out.size))
      clear hal
      generalize (v4.alloc (.cells #[.slice none 0 0, .int .i64 0] 41)) = v5 at *
      have p_B0_0 := (cell_of_row v5 _ 0 _ _ _ B0.out).trans (show _ = some (Value.slice c0_0 x0_0.length k0_0) from rfl)
      have p_B0_1 := (cell_of_row v5 _ 1 _ _ _ B0.out).trans (show _ = some (Value.int .i64 a0_1) from rfl)
      have p_B1_0 := (cell_of_row v5 _ 0 _ _ _ B1.out).trans (show _ = some (Value.int .i64 a1_0) from rfl)
      have p_B1_1 := (cell_of_row v5 _ 1 _ _ _ B1.out).trans (show _ = some (Value.int .i64 a1_1) from rfl)
      have p_B1_2 := (cell_of_row v5 _ 2 _ _ _ B1.out).trans (show _ = some (Value.slice c1_2 x1_2.length k1_2) from rfl)
      have p_B1_3 := (cell_of_row v5 _ 3 _ _ _ B1.out).trans (show _ = some (Value.int .i64 a1_3) from rfl)
      have p_B1_4 := (cell_of_row v5 _ 4 _ _ _ B1.out).trans (show _ = some (Value.int .i64 a1_4) from rfl)
      refine hK.out _ _ ⟨p_B0_0, p_B0_1, p_B1_0, p_B1_1, p_B1_2, p_B1_3, p_B1_4⟩ (fun hHeld => ?_)
      clear p_B0_0 p_B0_1 p_B1_0 p_B1_1 p_B1_2 p_B1_3 p_B1_4
      clear hK K
      try simp only [Act.put, lA, lB, lC]
      refine wpAnyH_ready (rs := [3]) (by kernel_rfl) (by simp) ?_
      refine (AllReadyH.cons (o := _) (by simp only [hA, hB, hC]; rfl) (fun K hK => ?_) AllReadyH.nil)
      go_simp
      refine (toUpdate_T a1_0 a1_1 a1_3 a1_4 (.slice c1_2 x1_2.length k1_2) x1_2 v5 (slR_below tInt_law A1_2.out d.out) S1_2.out).mono ?_
      rintro e v6 ⟨cs, rfl, ow, c6⟩
      replace B0 := Lib.hid ((c6.block w.heap.size (Array.getElem?_eq_some_iff.1 B0.out).1).trans B0.out)
      replace B1 := Lib.hid ((c6.block (w.heap.size + 1) (Array.getElem?_eq_some_iff.1 B1.out).1).trans B1.out)
      replace XC1 := Lib.hid ((c6.block v4.heap.size (Array.getElem?_eq_some_iff.1 XC1.out).1).trans XC1.out)
      replace P4_0 := Lib.hid (slO_fresh tVersionS_law P4_0.out c6)
      replace d := Lib.hid (d.out.trans (c6.mono d.out.size))
      have Z_v6 := Lib.hid (show v5.heap.size ≤ v6.heap.size from c6.size)
      clear c6
      replace ow := tUpdate_law.lt ow
      obtain ⟨y6_2, K6_2, rfl, p6_2, w6_2⟩ := tUpdate_O ow
      obtain ⟨ya6_2, yc6_2, rfl⟩ := slO_len p6_2
      have P6_2 := Lib.hid p6_2
      have Q6_2 := Lib.hid (fun b h => (show v5.heap.size ≤ b ∧ b < v6.heap.size from w6_2 b h))
      clear p6_2 w6_2 ow
      have p_B0_0 := (cell_of_row v6 _ 0 _ _ _ B0.out).trans (show _ = some (Value.slice c0_0 x0_0.length k0_0) from rfl)
      have p_B0_1 := (cell_of_row v6 _ 1 _ _ _ B0.out).trans (show _ = some (Value.int .i64 a0_1) from rfl)
      have p_B1_0 := (cell_of_row v6 _ 0 _ _ _ B1.out).trans (show _ = some (Value.int .i64 a1_0) from rfl)
      have p_B1_1 := (cell_of_row v6 _ 1 _ _ _ B1.out).trans (show _ = some (Value.int .i64 a1_1) from rfl)
      have p_B1_2 := (cell_of_row v6 _ 2 _ _ _ B1.out).trans (show _ = some (Value.slice c1_2 x1_2.length k1_2) from rfl)
      have p_B1_3 := (cell_of_row v6 _ 3 _ _ _ B1.out).trans (show _ = some (Value.int .i64 a1_3) from rfl)
      have p_B1_4 := (cell_of_row v6 _ 4 _ _ _ B1.out).trans (show _ = some (Value.int .i64 a1_4) from rfl)
      refine hK.out _ _ ⟨p_B0_0, p_B0_1, p_B1_0, p_B1_1, p_B1_2, p_B1_3, p_B1_4⟩ (fun hHeld => ?_)
      clear p_B0_0 p_B0_1 p_B1_0 p_B1_1 p_B1_2 p_B1_3 p_B1_4
      clear hK K
      try simp only [Act.put, lA, lB, lC]
      refine wpAnyH_ready (rs := [4]) (by kernel_rfl) (by simp) ?_
      refine (AllReadyH.cons (o := _) (by simp only [hA, hB, hC]; rfl) (fun K hK => ?_) AllReadyH.nil)
      go_simp
      refine (HSP.out (.slice ya4_0 x0_0.length yc4_0) (.slice ya6_2 x1_2.length yc6_2) v6 (slO_reads tVersionS_law P4_0.out) (slO_reads tInt_law P6_2.out) HT.out ).mono ?_
      rintro e v7 ⟨g0, G0, rfl, o0, q0, c7⟩
      replace B0 := Lib.hid ((c7.block w.heap.size (Array.getElem?_eq_some_iff.1 B0.out).1).trans B0.out)
      replace B1 := Lib.hid ((c7.block (w.heap.size + 1) (Array.getElem?_eq_some_iff.1 B1.out).1).trans B1.out)
      replace XC1 := Lib.hid ((c7.block v4.heap.size (Array.getElem?_eq_some_iff.1 XC1.out).1).trans XC1.out)
      replace P4_0 := Lib.hid (slO_fresh tVersionS_law P4_0.out c7)
      replace P6_2 := Lib.hid (slO_fresh tInt_law P6_2.out c7)
      replace d := Lib.hid (d.out.trans (c7.mono d.out.size))
      have Z_v7 := Lib.hid (show v6.heap.size ≤ v7.heap.size from c7.size)
      clear c7
      replace o0 := tStore_law.lt o0
      obtain ⟨y7_0, K7_0, rfl, p7_0, w7_0⟩ := tStore_O o0
      obtain ⟨ya7_0, yc7_0, rfl⟩ := slO_len p7_0
      have P7_0 := Lib.hid p7_0
      have Q7_0 := Lib.hid (fun b h => (show v6.heap.size ≤ b ∧ b < v7.heap.size from ⟨q0 b (w7_0 b h).1, (w7_0 b h).2⟩))
      clear p7_0 w7_0 o0 q0
      have p_B0_0 := (cell_of_row v7 _ 0 _ _ _ B0.out).trans (show _ = some (Value.slice c0_0 x0_0.length k0_0) from rfl)
      have p_B0_1 := (cell_of_row v7 _ 1 _ _ _ B0.out).trans (show _ = some (Value.int .i64 a0_1) from rfl)
      have p_B1_0 := (cell_of_row v7 _ 0 _ _ _ B1.out).trans (show _ = some (Value.int .i64 a1_0) from rfl)
      have p_B1_1 := (cell_of_row v7 _ 1 _ _ _ B1.out).trans (show _ = some (Value.int .i64 a1_1) from rfl)
      have p_B1_2 := (cell_of_row v7 _ 2 _ _ _ B1.out).trans (show _ = some (Value.slice c1_2 x1_2.length k1_2) from rfl)
      have p_B1_3 := (cell_of_row v7 _ 3 _ _ _ B1.out).trans (show _ = some (Value.int .i64 a1_3) from rfl)
      have p_B1_4 := (cell_of_row v7 _ 4 _ _ _ B1.out).trans (show _ = some (Value.int .i64 a1_4) from rfl)
      refine hK.out _ _ ⟨p_B0_0, p_B0_1, p_B1_0, p_B1_1, p_B1_2, p_B1_3, p_B1_4⟩ (fun hHeld => ?_)
      clear p_B0_0 p_B0_1 p_B1_0 p_B1_1 p_B1_2 p_B1_3 p_B1_4
      clear hK K
      try simp only [Act.put, lA, lB, lC]
      refine tR (i := 5) (v := ?_) ?_ ?_; rotate_left
      ·
       intro w hSw; (try dsimp only at hSw); go_simp; try (with_reducible rfl)
      try simp only [Act.put, lA, lB, lC]
      refine tR (i := 6) (v := ?_) ?_ ?_; rotate_left
      ·
       intro w hSw; (try dsimp only at hSw); go_simp; try (with_reducible rfl)
      try simp only [Act.put, lA, lB, lC]
      refine tR (i := 7) (v := ?_) ?_ ?_; rotate_left
      ·
       intro w hSw; (try dsimp only at hSw); go_simp; try (with_reducible rfl)
      try simp only [Act.put, lA, lB, lC]
      refine wpAnyH_ready (rs := [9]) (by kernel_rfl) (by simp) ?_
      refine (AllReadyH.cons (o := _) (by simp only [hA, hB, hC]; rfl) (fun K hK => ?_) AllReadyH.nil)
      have p_XC1_0 := (cell_of_row v7 _ 0 _ _ _ XC1.out).trans (show _ = some (Value.slice none 0 0) from rfl)
      have p_XC1_1 := (cell_of_row v7 _ 1 _ _ _ XC1.out).trans (show _ = some (Value.int .i64 0) from rfl)
      have f_XC1_0 := frozen_of_row v7 _ 0 _ _ XC1.out
      have f_XC1_1 := frozen_of_row v7 _ 1 _ _ XC1.out
      go_simp
      clear p_XC1_0 p_XC1_1 f_XC1_0 f_XC1_1
      have y0 := Y_W.out
      have y1 := Z_v1.out
      have y2 := Z_v2.out
      have y3 := Z_drC1.out
      have y4 := Z_v4.out
      have y5 := Y_XC1.out
      have y6 := Z_v6.out
      have y7 := Z_v7.out
      have tt : Turn (fun b => b = v4.heap.size) v7 ((v7.setCell ⟨v4.heap.size, 0, none⟩ (.slice ya7_0 xr0_0.length yc7_0)).setCell ⟨v4.heap.size, 1, none⟩ (.int .i64 ar0_1)) := (((Turn.refl (fun b => b = v4.heap.size) v7).trans (turn_set (G := fun b => b = v4.heap.size) (g := v4.heap.size) (j := 0) (u := .slice ya7_0 xr0_0.length yc7_0) rfl)).trans (turn_set (G := fun b => b = v4.heap.size) (g := v4.heap.size) (j := 1) (u := .int .i64 ar0_1) rfl))
      have r := (heap_setCell_same _ (v4.heap.size) 1 _ _ (.int .i64 ar0_1) (heap_setCell_same v7 (v4.heap.size) 0 _ _ (.slice ya7_0 xr0_0.length yc7_0) XC1.out))
      simp at r
      have yd := d.out.size
      replace B0 := Lib.hid ((tt.block w.heap.size (Array.getElem?_eq_some_iff.1 B0.out).1 (fun h => by omega)).trans B0.out)
      replace B1 := Lib.hid ((tt.block (w.heap.size + 1) (Array.getElem?_eq_some_iff.1 B1.out).1 (fun h => by omega)).trans B1.out)
      replace P4_0 := Lib.hid (slO_turn tVersionS_law P4_0.out tt (fun b h1 h2 => by have r1 := Q4_0.out b h1; omega))
      replace P6_2 := Lib.hid (slO_turn tInt_law P6_2.out tt (fun b h1 h2 => by have r1 := Q6_2.out b h1; omega))
      replace P7_0 := Lib.hid (slO_turn tVersionS_law P7_0.out tt (fun b h1 h2 => by have r1 := Q7_0.out b h1; omega))
      replace d := Lib.hid (below_turn d.out tt (fun b h => by omega) yd)
      replace XC1 : Hid (((v7.setCell ⟨v4.heap.size, 0, none⟩ (.slice ya7_0 xr0_0.length yc7_0)).setCell ⟨v4.heap.size, 1, none⟩ (.int .i64 ar0_1)).heap[v4.heap.size]? = some (.cells #[.slice ya7_0 xr0_0.length yc7_0, .int .i64 ar0_1] 41 (0, 0))) := Lib.hid r
      have Z_v8 := Lib.hid (show v7.heap.size ≤ ((v7.setCell ⟨v4.heap.size, 0, none⟩ (.slice ya7_0 xr0_0.length yc7_0)).setCell ⟨v4.heap.size, 1, none⟩ (.int .i64 ar0_1)).heap.size from tt.size)
      clear tt r yd y0 y1 y2 y3 y4 y5 y6 y7
      generalize ((v7.setCell ⟨v4.heap.size, 0, none⟩ (.slice ya7_0 xr0_0.length yc7_0)).setCell ⟨v4.heap.size, 1, none⟩ (.int .i64 ar0_1)) = v8 at *
      have p_B0_0 := (cell_of_row v8 _ 0 _ _ _ B0.out).trans (show _ = some (Value.slice c0_0 x0_0.length k0_0) from rfl)
      have p_B0_1 := (cell_of_row v8 _ 1 _ _ _ B0.out).trans (show _ = some (Value.int .i64 a0_1) from rfl)
      have p_B1_0 := (cell_of_row v8 _ 0 _ _ _ B1.out).trans (show _ = some (Value.int .i64 a1_0) from rfl)
      have p_B1_1 := (cell_of_row v8 _ 1 _ _ _ B1.out).trans (show _ = some (Value.int .i64 a1_1) from rfl)
      have p_B1_2 := (cell_of_row v8 _ 2 _ _ _ B1.out).trans (show _ = some (Value.slice c1_2 x1_2.length k1_2) from rfl)
      have p_B1_3 := (cell_of_row v8 _ 3 _ _ _ B1.out).trans (show _ = some (Value.int .i64 a1_3) from rfl)
      have p_B1_4 := (cell_of_row v8 _ 4 _ _ _ B1.out).trans (show _ = some (Value.int .i64 a1_4) from rfl)
      refine hK.out _ _ ⟨p_B0_0, p_B0_1, p_B1_0, p_B1_1, p_B1_2, p_B1_3, p_B1_4⟩ (fun hHeld => ?_)
      clear p_B0_0 p_B0_1 p_B1_0 p_B1_1 p_B1_2 p_B1_3 p_B1_4
      clear hK K
      try simp only [Act.put, lA, lB, lC]
      refine tR (i := 10) (v := ?_) ?_ ?_; rotate_left
      ·
       intro w hSw; (try dsimp only at hSw); go_simp; try (with_reducible rfl)
      try simp only [Act.put, lA, lB, lC]
      refine wpAnyH_done (by kernel_rfl) ?_ _
      clear hHeld
      go_wp2
      go_meet
      have y0 := Y_W.out
      have y1 := Z_v1.out
      have y2 := Z_v2.out
      have y3 := Z_drC1.out
      have y4 := Z_v4.out
      have y5 := Y_XC1.out
      have y6 := Z_v6.out
      have y7 := Z_v7.out
      have y8 := Z_v8.out
      case rel => exact ⟨_, _, _, _, rfl, rfl, XC1.out, (Array.getElem?_eq_some_iff.1 XC1.out).1, (by omega), P7_0.out, (fun q hq => by have r := Q7_0.out q hq; omega), d.out⟩
    ·
     go_simp
     have hal : Below WdC1.heap.size WdC1 (WdC1.alloc (.cells #[.slice none 0 0, .int .i64 0] 41)) := (Below.refl _ _).alloc (Nat.le_refl _) _
     have XC1 := Lib.hid (heap_alloc_new WdC1 (.cells #[.slice none 0 0, .int .i64 0] 41))
     have Y_XC1 := Lib.hid (show WdC1.heap.size < (WdC1.alloc (.cells #[.slice none 0 0, .int .i64 0] 41)).heap.size by simp [World.size_alloc])
     replace B0 := Lib.hid ((hal.block w.heap.size (Array.getElem?_eq_some_iff.1 B0.out).1).trans B0.out)
     replace B1 := Lib.hid ((hal.block (w.heap.size + 1) (Array.getElem?_eq_some_iff.1 B1.out).1).trans B1.out)
     replace d := Lib.hid (d.out.trans (hal.mono d.out.size))
     clear hal
     generalize (WdC1.alloc (.cells #[.slice none 0 0, .int .i64 0] 41)) = v4 at *
     have p_B0_0 := (cell_of_row v4 _ 0 _ _ _ B0.out).trans (show _ = some (Value.slice c0_0 x0_0.length k0_0) from rfl)
     have p_B0_1 := (cell_of_row v4 _ 1 _ _ _ B0.out).trans (show _ = some (Value.int .i64 a0_1) from rfl)
     have p_B1_0 := (cell_of_row v4 _ 0 _ _ _ B1.out).trans (show _ = some (Value.int .i64 a1_0) from rfl)
     have p_B1_1 := (cell_of_row v4 _ 1 _ _ _ B1.out).trans (show _ = some (Value.int .i64 a1_1) from rfl)
     have p_B1_2 := (cell_of_row v4 _ 2 _ _ _ B1.out).trans (show _ = some (Value.slice c1_2 x1_2.length k1_2) from rfl)
     have p_B1_3 := (cell_of_row v4 _ 3 _ _ _ B1.out).trans (show _ = some (Value.int .i64 a1_3) from rfl)
     have p_B1_4 := (cell_of_row v4 _ 4 _ _ _ B1.out).trans (show _ = some (Value.int .i64 a1_4) from rfl)
     refine hK.out _ _ ⟨p_B0_0, p_B0_1, p_B1_0, p_B1_1, p_B1_2, p_B1_3, p_B1_4⟩ (fun hHeld => ?_)
     clear p_B0_0 p_B0_1 p_B1_0 p_B1_1 p_B1_2 p_B1_3 p_B1_4
     clear hK K
     try simp only [Act.put, lA, lB, lC]
     refine wpAnyH_ready (rs := [1]) (by kernel_rfl) (by simp) ?_
     refine (AllReadyH.cons (o := _) (by simp only [hA, hB, hC]; rfl) (fun K hK => ?_) AllReadyH.nil)
     go_simp
     refine (toStore_T a0_1 (.slice c0_0 x0_0.length k0_0) x0_0 v4 (slR_below tVersionS_law A0_0.out d.out) S0_0.out).mono ?_
     rintro e v5 ⟨cs, rfl, ow, c5⟩
     replace B0 := Lib.hid ((c5.block w.heap.size (Array.getElem?_eq_some_iff.1 B0.out).1).trans B0.out)
     replace B1 := Lib.hid ((c5.block (w.heap.size + 1) (Array.getElem?_eq_some_iff.1 B1.out).1).trans B1.out)
     replace XC1 := Lib.hid ((c5.block WdC1.heap.size (Array.getElem?_eq_some_iff.1 XC1.out).1).trans XC1.out)
     replace d := Lib.hid (d.out.trans (c5.mono d.out.size))
     have Z_v5 := Lib.hid (show v4.heap.size ≤ v5.heap.size from c5.size)
     clear c5
     replace ow := tStore_law.lt ow
     obtain ⟨y5_0, K5_0, rfl, p5_0, w5_0⟩ := tStore_O ow
     obtain ⟨ya5_0, yc5_0, rfl⟩ := slO_len p5_0
     have P5_0 := Lib.hid p5_0
     have Q5_0 := Lib.hid (fun b h => (show v4.heap.size ≤ b ∧ b < v5.heap.size from w5_0 b h))
     clear p5_0 w5_0 ow
     have p_B0_0 := (cell_of_row v5 _ 0 _ _ _ B0.out).trans (show _ = some (Value.slice c0_0 x0_0.length k0_0) from rfl)
     have p_B0_1 := (cell_of_row v5 _ 1 _ _ _ B0.out).trans (show _ = some (Value.int .i64 a0_1) from rfl)
     have p_B1_0 := (cell_of_row v5 _ 0 _ _ _ B1.out).trans (show _ = some (Value.int .i64 a1_0) from rfl)
     have p_B1_1 := (cell_of_row v5 _ 1 _ _ _ B1.out).trans (show _ = some (Value.int .i64 a1_1) from rfl)
     have p_B1_2 := (cell_of_row v5 _ 2 _ _ _ B1.out).trans (show _ = some (Value.slice c1_2 x1_2.length k1_2) from rfl)
     have p_B1_3 := (cell_of_row v5 _ 3 _ _ _ B1.out).trans (show _ = some (Value.int .i64 a1_3) from rfl)
     have p_B1_4 := (cell_of_row v5 _ 4 _ _ _ B1.out).trans (show _ = some (Value.int .i64 a1_4) from rfl)
     refine hK.out _ _ ⟨p_B0_0, p_B0_1, p_B1_0, p_B1_1, p_B1_2, p_B1_3, p_B1_4⟩ (fun hHeld => ?_)
     clear p_B0_0 p_B0_1 p_B1_0 p_B1_1 p_B1_2 p_B1_3 p_B1_4
     clear hK K
     try simp only [Act.put, lA, lB, lC]
     refine wpAnyH_ready (rs := [3]) (by kernel_rfl) (by simp) ?_
     refine (AllReadyH.cons (o := _) (by simp only [hA, hB, hC]; rfl) (fun K hK => ?_) AllReadyH.nil)
     go_simp
     refine (toUpdate_T a1_0 a1_1 a1_3 a1_4 (.slice c1_2 x1_2.length k1_2) x1_2 v5 (slR_below tInt_law A1_2.out d.out) S1_2.out).mono ?_
     rintro e v6 ⟨cs, rfl, ow, c6⟩
     replace B0 := Lib.hid ((c6.block w.heap.size (Array.getElem?_eq_some_iff.1 B0.out).1).trans B0.out)
     replace B1 := Lib.hid ((c6.block (w.heap.size + 1) (Array.getElem?_eq_some_iff.1 B1.out).1).trans B1.out)
     replace XC1 := Lib.hid ((c6.block WdC1.heap.size (Array.getElem?_eq_some_iff.1 XC1.out).1).trans XC1.out)
     replace P5_0 := Lib.hid (slO_fresh tVersionS_law P5_0.out c6)
     replace d := Lib.hid (d.out.trans (c6.mono d.out.size))
     have Z_v6 := Lib.hid (show v5.heap.size ≤ v6.heap.size from c6.size)
     clear c6
     replace ow := tUpdate_law.lt ow
     obtain ⟨y6_2, K6_2, rfl, p6_2, w6_2⟩ := tUpdate_O ow
     obtain ⟨ya6_2, yc6_2, rfl⟩ := slO_len p6_2
     have P6_2 := Lib.hid p6_2
     have Q6_2 := Lib.hid (fun b h => (show v5.heap.size ≤ b ∧ b < v6.heap.size from w6_2 b h))
     clear p6_2 w6_2 ow
     have p_B0_0 := (cell_of_row v6 _ 0 _ _ _ B0.out).trans (show _ = some (Value.slice c0_0 x0_0.length k0_0) from rfl)
     have p_B0_1 := (cell_of_row v6 _ 1 _ _ _ B0.out).trans (show _ = some (Value.int .i64 a0_1) from rfl)
     have p_B1_0 := (cell_of_row v6 _ 0 _ _ _ B1.out).trans (show _ = some (Value.int .i64 a1_0) from rfl)
     have p_B1_1 := (cell_of_row v6 _ 1 _ _ _ B1.out).trans (show _ = some (Value.int .i64 a1_1) from rfl)
     have p_B1_2 := (cell_of_row v6 _ 2 _ _ _ B1.out).trans (show _ = some (Value.slice c1_2 x1_2.length k1_2) from rfl)
     have p_B1_3 := (cell_of_row v6 _ 3 _ _ _ B1.out).trans (show _ = some (Value.int .i64 a1_3) from rfl)
     have p_B1_4 := (cell_of_row v6 _ 4 _ _ _ B1.out).trans (show _ = some (Value.int .i64 a1_4) from rfl)
     refine hK.out _ _ ⟨p_B0_0, p_B0_1, p_B1_0, p_B1_1, p_B1_2, p_B1_3, p_B1_4⟩ (fun hHeld => ?_)
     clear p_B0_0 p_B0_1 p_B1_0 p_B1_1 p_B1_2 p_B1_3 p_B1_4
     clear hK K
     try simp only [Act.put, lA, lB, lC]
     refine wpAnyH_ready (rs := [4]) (by kernel_rfl) (by simp) ?_
     refine (AllReadyH.cons (o := _) (by simp only [hA, hB, hC]; rfl) (fun K hK => ?_) AllReadyH.nil)
     go_simp
     refine (HSP.out (.slice ya5_0 x0_0.length yc5_0) (.slice ya6_2 x1_2.length yc6_2) v6 (slO_reads tVersionS_law P5_0.out) (slO_reads tInt_law P6_2.out) HT.out ).mono ?_
     rintro e v7 ⟨g0, G0, rfl, o0, q0, c7⟩
     replace B0 := Lib.hid ((c7.block w.heap.size (Array.getElem?_eq_some_iff.1 B0.out).1).trans B0.out)
     replace B1 := Lib.hid ((c7.block (w.heap.size + 1) (Array.getElem?_eq_some_iff.1 B1.out).1).trans B1.out)
     replace XC1 := Lib.hid ((c7.block WdC1.heap.size (Array.getElem?_eq_some_iff.1 XC1.out).1).trans XC1.out)
     replace P5_0 := Lib.hid (slO_fresh tVersionS_law P5_0.out c7)
     replace P6_2 := Lib.hid (slO_fresh tInt_law P6_2.out c7)
     replace d := Lib.hid (d.out.trans (c7.mono d.out.size))
     have Z_v7 := Lib.hid (show v6.heap.size ≤ v7.heap.size from c7.size)
     clear c7
     replace o0 := tStore_law.lt o0
     obtain ⟨y7_0, K7_0, rfl, p7_0, w7_0⟩ := tStore_O o0
     obtain ⟨ya7_0, yc7_0, rfl⟩ := slO_len p7_0
     have P7_0 := Lib.hid p7_0
     have Q7_0 := Lib.hid (fun b h => (show v6.heap.size ≤ b ∧ b < v7.heap.size from ⟨q0 b (w7_0 b h).1, (w7_0 b h).2⟩))
     clear p7_0 w7_0 o0 q0
     have p_B0_0 := (cell_of_row v7 _ 0 _ _ _ B0.out).trans (show _ = some (Value.slice c0_0 x0_0.length k0_0) from rfl)
     have p_B0_1 := (cell_of_row v7 _ 1 _ _ _ B0.out).trans (show _ = some (Value.int .i64 a0_1) from rfl)
     have p_B1_0 := (cell_of_row v7 _ 0 _ _ _ B1.out).trans (show _ = some (Value.int .i64 a1_0) from rfl)
     have p_B1_1 := (cell_of_row v7 _ 1 _ _ _ B1.out).trans (show _ = some (Value.int .i64 a1_1) from rfl)
     have p_B1_2 := (cell_of_row v7 _ 2 _ _ _ B1.out).trans (show _ = some (Value.slice c1_2 x1_2.length k1_2) from rfl)
     have p_B1_3 := (cell_of_row v7 _ 3 _ _ _ B1.out).trans (show _ = some (Value.int .i64 a1_3) from rfl)
     have p_B1_4 := (cell_of_row v7 _ 4 _ _ _ B1.out).trans (show _ = some (Value.int .i64 a1_4) from rfl)
     refine hK.out _ _ ⟨p_B0_0, p_B0_1, p_B1_0, p_B1_1, p_B1_2, p_B1_3, p_B1_4⟩ (fun hHeld => ?_)
     clear p_B0_0 p_B0_1 p_B1_0 p_B1_1 p_B1_2 p_B1_3 p_B1_4
     clear hK K
     try simp only [Act.put, lA, lB, lC]
     refine tR (i := 5) (v := ?_) ?_ ?_; rotate_left
     ·
      intro w hSw; (try dsimp only at hSw); go_simp; try (with_reducible rfl)
     try simp only [Act.put, lA, lB, lC]
     refine tR (i := 6) (v := ?_) ?_ ?_; rotate_left
     ·
      intro w hSw; (try dsimp only at hSw); go_simp; try (with_reducible rfl)
     try simp only [Act.put, lA, lB, lC]
     refine tR (i := 7) (v := ?_) ?_ ?_; rotate_left
     ·
      intro w hSw; (try dsimp only at hSw); go_simp; try (with_reducible rfl)
     try simp only [Act.put, lA, lB, lC]
     refine wpAnyH_ready (rs := [9]) (by kernel_rfl) (by simp) ?_
     refine (AllReadyH.cons (o := _) (by simp only [hA, hB, hC]; rfl) (fun K hK => ?_) AllReadyH.nil)
     have p_XC1_0 := (cell_of_row v7 _ 0 _ _ _ XC1.out).trans (show _ = some (Value.slice none 0 0) from rfl)
     have p_XC1_1 := (cell_of_row v7 _ 1 _ _ _ XC1.out).trans (show _ = some (Value.int .i64 0) from rfl)
     have f_XC1_0 := frozen_of_row v7 _ 0 _ _ XC1.out
     have f_XC1_1 := frozen_of_row v7 _ 1 _ _ XC1.out
     go_simp
     clear p_XC1_0 p_XC1_1 f_XC1_0 f_XC1_1
     have y0 := Y_W.out
     have y1 := Z_v1.out
     have y2 := Z_v2.out
     have y3 := Z_drC1.out
     have y4 := Y_XC1.out
     have y5 := Z_v5.out
     have y6 := Z_v6.out
     have y7 := Z_v7.out
     have tt : Turn (fun b => b = WdC1.heap.size) v7 ((v7.setCell ⟨WdC1.heap.size, 0, none⟩ (.slice ya7_0 xr0_0.length yc7_0)).setCell ⟨WdC1.heap.size, 1, none⟩ (.int .i64 ar0_1)) := (((Turn.refl (fun b => b = WdC1.heap.size) v7).trans (turn_set (G := fun b => b = WdC1.heap.size) (g := WdC1.heap.size) (j := 0) (u := .slice ya7_0 xr0_0.length yc7_0) rfl)).trans (turn_set (G := fun b => b = WdC1.heap.size) (g := WdC1.heap.size) (j := 1) (u := .int .i64 ar0_1) rfl))
     have r := (heap_setCell_same _ (WdC1.heap.size) 1 _ _ (.int .i64 ar0_1) (heap_setCell_same v7 (WdC1.heap.size) 0 _ _ (.slice ya7_0 xr0_0.length yc7_0) XC1.out))
     simp at r
     have yd := d.out.size
     replace B0 := Lib.hid ((tt.block w.heap.size (Array.getElem?_eq_some_iff.1 B0.out).1 (fun h => by omega)).trans B0.out)
     replace B1 := Lib.hid ((tt.block (w.heap.size + 1) (Array.getElem?_eq_some_iff.1 B1.out).1 (fun h => by omega)).trans B1.out)
     replace P5_0 := Lib.hid (slO_turn tVersionS_law P5_0.out tt (fun b h1 h2 => by have r1 := Q5_0.out b h1; omega))
     replace P6_2 := Lib.hid (slO_turn tInt_law P6_2.out tt (fun b h1 h2 => by have r1 := Q6_2.out b h1; omega))
     replace P7_0 := Lib.hid (slO_turn tVersionS_law P7_0.out tt (fun b h1 h2 => by have r1 := Q7_0.out b h1; omega))
     replace d := Lib.hid (below_turn d.out tt (fun b h => by omega) yd)
     replace XC1 : Hid (((v7.setCell ⟨WdC1.heap.size, 0, none⟩ (.slice ya7_0 xr0_0.length yc7_0)).setCell ⟨WdC1.heap.size, 1, none⟩ (.int .i64 ar0_1)).heap[WdC1.heap.size]? = some (.cells #[.slice ya7_0 xr0_0.length yc7_0, .int .i64 ar0_1] 41 (0, 0))) := Lib.hid r
     have Z_v8 := Lib.hid (show v7.heap.size ≤ ((v7.setCell ⟨WdC1.heap.size, 0, none⟩ (.slice ya7_0 xr0_0.length yc7_0)).setCell ⟨WdC1.heap.size, 1, none⟩ (.int .i64 ar0_1)).heap.size from tt.size)
     clear tt r yd y0 y1 y2 y3 y4 y5 y6 y7
     generalize ((v7.setCell ⟨WdC1.heap.size, 0, none⟩ (.slice ya7_0 xr0_0.length yc7_0)).setCell ⟨WdC1.heap.size, 1, none⟩ (.int .i64 ar0_1)) = v8 at *
     have p_B0_0 := (cell_of_row v8 _ 0 _ _ _ B0.out).trans (show _ = some (Value.slice c0_0 x0_0.length k0_0) from rfl)
     have p_B0_1 := (cell_of_row v8 _ 1 _ _ _ B0.out).trans (show _ = some (Value.int .i64 a0_1) from rfl)
     have p_B1_0 := (cell_of_row v8 _ 0 _ _ _ B1.out).trans (show _ = some (Value.int .i64 a1_0) from rfl)
     have p_B1_1 := (cell_of_row v8 _ 1 _ _ _ B1.out).trans (show _ = some (Value.int .i64 a1_1) from rfl)
     have p_B1_2 := (cell_of_row v8 _ 2 _ _ _ B1.out).trans (show _ = some (Value.slice c1_2 x1_2.length k1_2) from rfl)
     have p_B1_3 := (cell_of_row v8 _ 3 _ _ _ B1.out).trans (show _ = some (Value.int .i64 a1_3) from rfl)
     have p_B1_4 := (cell_of_row v8 _ 4 _ _ _ B1.out).trans (show _ = some (Value.int .i64 a1_4) from rfl)
     refine hK.out _ _ ⟨p_B0_0, p_B0_1, p_B1_0, p_B1_1, p_B1_2, p_B1_3, p_B1_4⟩ (fun hHeld => ?_)
     clear p_B0_0 p_B0_1 p_B1_0 p_B1_1 p_B1_2 p_B1_3 p_B1_4
     clear hK K
     try simp only [Act.put, lA, lB, lC]
     refine tR (i := 10) (v := ?_) ?_ ?_; rotate_left
     ·
      intro w hSw; (try dsimp only at hSw); go_simp; try (with_reducible rfl)
     try simp only [Act.put, lA, lB, lC]
     refine wpAnyH_done (by kernel_rfl) ?_ _
     clear hHeld
     go_wp2
     go_meet
     have y0 := Y_W.out
     have y1 := Z_v1.out
     have y2 := Z_v2.out
     have y3 := Z_drC1.out
     have y4 := Y_XC1.out
     have y5 := Z_v5.out
     have y6 := Z_v6.out
     have y7 := Z_v7.out
     have y8 := Z_v8.out
     case rel => exact ⟨_, _, _, _, rfl, rfl, XC1.out, (Array.getElem?_eq_some_iff.1 XC1.out).1, (by omega), P7_0.out, (fun q hq => by have r := Q7_0.out q hq; omega), d.out⟩
   case rest =>
   obtain ⟨bC1, yaC1_0, ycC1_0, KC1_0, rfl, rfl, xC, yC1, yC2, pC_0, qC_0, dC⟩ := hcut
   generalize wc = wC1c at *
   replace B0 := Lib.hid ((dC.block w.heap.size (Array.getElem?_eq_some_iff.1 B0.out).1).trans B0.out)
   replace B1 := Lib.hid ((dC.block (w.heap.size + 1) (Array.getElem?_eq_some_iff.1 B1.out).1).trans B1.out)
   replace d := Lib.hid (d.out.trans (dC.mono d.out.size))
   have Z_wC1c := Lib.hid (show v2.heap.size ≤ wC1c.heap.size from dC.size)
   have XC1 := Lib.hid xC
   have Y_XC1 := Lib.hid yC1
   have Y_XC1d := Lib.hid yC2
   have PC1_0 := Lib.hid pC_0
   have QC1_0 : Hid (∀ q, KC1_0 q → v2.heap.size ≤ q ∧ q < wC1c.heap.size ∧ q ≠ bC1) := Lib.hid qC_0
   clear xC yC1 yC2 dC pC_0 qC_0
   have p_B0_0 := (cell_of_row wC1c _ 0 _ _ _ B0.out).trans (show _ = some (Value.slice c0_0 x0_0.length k0_0) from rfl)
   have p_B0_1 := (cell_of_row wC1c _ 1 _ _ _ B0.out).trans (show _ = some (Value.int .i64 a0_1) from rfl)
   go_wp2_with fail
   clear p_B0_0 p_B0_1
   refine (toStore_T a0_1 (.slice c0_0 x0_0.length k0_0) x0_0 wC1c (slR_below tVersionS_law A0_0.out d.out) S0_0.out).mono ?_
   rintro e v3 ⟨cs, rfl, ow, c3⟩
   replace B0 := Lib.hid ((c3.block w.heap.size (Array.getElem?_eq_some_iff.1 B0.out).1).trans B0.out)
   replace B1 := Lib.hid ((c3.block (w.heap.size + 1) (Array.getElem?_eq_some_iff.1 B1.out).1).trans B1.out)
   replace XC1 := Lib.hid ((c3.block bC1 (Array.getElem?_eq_some_iff.1 XC1.out).1).trans XC1.out)
   replace PC1_0 := Lib.hid (slO_fresh tVersionS_law PC1_0.out c3)
   replace d := Lib.hid (d.out.trans (c3.mono d.out.size))
   have Z_v3 := Lib.hid (show wC1c.heap.size ≤ v3.heap.size from c3.size)
   clear c3
   replace ow := tStore_law.lt ow
   obtain ⟨y3_0, K3_0, rfl, p3_0, w3_0⟩ := tStore_O ow
   obtain ⟨ya3_0, yc3_0, rfl⟩ := slO_len p3_0
   have P3_0 := Lib.hid p3_0
   have Q3_0 := Lib.hid (fun b h => (show wC1c.heap.size ≤ b ∧ b < v3.heap.size from w3_0 b h))
   clear p3_0 w3_0 ow
   have hal : Below v3.heap.size v3 (v3.alloc (.cells #[.slice ya3_0 x0_0.length yc3_0, .int .i64 a0_1] 41)) := (Below.refl _ _).alloc (Nat.le_refl _) _
   have X1 := Lib.hid (heap_alloc_new v3 (.cells #[.slice ya3_0 x0_0.length yc3_0, .int .i64 a0_1] 41))
   have Y_X1 := Lib.hid (show v3.heap.size < (v3.alloc (.cells #[.slice ya3_0 x0_0.length yc3_0, .int .i64 a0_1] 41)).heap.size by simp [World.size_alloc])
   replace B0 := Lib.hid ((hal.block w.heap.size (Array.getElem?_eq_some_iff.1 B0.out).1).trans B0.out)
   replace B1 := Lib.hid ((hal.block (w.heap.size + 1) (Array.getElem?_eq_some_iff.1 B1.out).1).trans B1.out)
   replace XC1 := Lib.hid ((hal.block bC1 (Array.getElem?_eq_some_iff.1 XC1.out).1).trans XC1.out)
   replace PC1_0 := Lib.hid (slO_fresh tVersionS_law PC1_0.out hal)
   replace P3_0 := Lib.hid (slO_fresh tVersionS_law P3_0.out hal)
   replace d := Lib.hid (d.out.trans (hal.mono d.out.size))
   clear hal
   have p_B1_0 := (cell_of_row (v3.alloc (.cells #[.slice ya3_0 x0_0.length yc3_0, .int .i64 a0_1] 41)) _ 0 _ _ _ B1.out).trans (show _ = some (Value.int .i64 a1_0) from rfl)
   have p_B1_1 := (cell_of_row (v3.alloc (.cells #[.slice ya3_0 x0_0.length yc3_0, .int .i64 a0_1] 41)) _ 1 _ _ _ B1.out).trans (show _ = some (Value.int .i64 a1_1) from rfl)
   have p_B1_2 := (cell_of_row (v3.alloc (.cells #[.slice ya3_0 x0_0.length yc3_0, .int .i64 a0_1] 41)) _ 2 _ _ _ B1.out).trans (show _ = some (Value.slice c1_2 x1_2.length k1_2) from rfl)
   have p_B1_3 := (cell_of_row (v3.alloc (.cells #[.slice ya3_0 x0_0.length yc3_0, .int .i64 a0_1] 41)) _ 3 _ _ _ B1.out).trans (show _ = some (Value.int .i64 a1_3) from rfl)
   have p_B1_4 := (cell_of_row (v3.alloc (.cells #[.slice ya3_0 x0_0.length yc3_0, .int .i64 a0_1] 41)) _ 4 _ _ _ B1.out).trans (show _ = some (Value.int .i64 a1_4) from rfl)
   go_wp2_with fail
   clear p_B1_0 p_B1_1 p_B1_2 p_B1_3 p_B1_4
   generalize (v3.alloc (.cells #[.slice ya3_0 x0_0.length yc3_0, .int .i64 a0_1] 41)) = u4 at *
   refine (toUpdate_T a1_0 a1_1 a1_3 a1_4 (.slice c1_2 x1_2.length k1_2) x1_2 u4 (slR_below tInt_law A1_2.out d.out) S1_2.out).mono ?_
   rintro e v5 ⟨cs, rfl, ow, c5⟩
   replace B0 := Lib.hid ((c5.block w.heap.size (Array.getElem?_eq_some_iff.1 B0.out).1).trans B0.out)
   replace B1 := Lib.hid ((c5.block (w.heap.size + 1) (Array.getElem?_eq_some_iff.1 B1.out).1).trans B1.out)
   replace XC1 := Lib.hid ((c5.block bC1 (Array.getElem?_eq_some_iff.1 XC1.out).1).trans XC1.out)
   replace X1 := Lib.hid ((c5.block v3.heap.size (Array.getElem?_eq_some_iff.1 X1.out).1).trans X1.out)
   replace PC1_0 := Lib.hid (slO_fresh tVersionS_law PC1_0.out c5)
   replace P3_0 := Lib.hid (slO_fresh tVersionS_law P3_0.out c5)
   replace d := Lib.hid (d.out.trans (c5.mono d.out.size))
   have Z_v5 := Lib.hid (show u4.heap.size ≤ v5.heap.size from c5.size)
   clear c5
   replace ow := tUpdate_law.lt ow
   obtain ⟨y5_2, K5_2, rfl, p5_2, w5_2⟩ := tUpdate_O ow
   obtain ⟨ya5_2, yc5_2, rfl⟩ := slO_len p5_2
   have P5_2 := Lib.hid p5_2
   have Q5_2 := Lib.hid (fun b h => (show u4.heap.size ≤ b ∧ b < v5.heap.size from w5_2 b h))
   clear p5_2 w5_2 ow
   have hal : Below v5.heap.size v5 (v5.alloc (.cells #[.int .i64 a1_0, .int .i64 a1_1, .slice ya5_2 x1_2.length yc5_2, .int .i64 a1_3, .int .i64 a1_4] 31)) := (Below.refl _ _).alloc (Nat.le_refl _) _
   have X2 := Lib.hid (heap_alloc_new v5 (.cells #[.int .i64 a1_0, .int .i64 a1_1, .slice ya5_2 x1_2.length yc5_2, .int .i64 a1_3, .int .i64 a1_4] 31))
   have Y_X2 := Lib.hid (show v5.heap.size < (v5.alloc (.cells #[.int .i64 a1_0, .int .i64 a1_1, .slice ya5_2 x1_2.length yc5_2, .int .i64 a1_3, .int .i64 a1_4] 31)).heap.size by simp [World.size_alloc])
   replace B0 := Lib.hid ((hal.block w.heap.size (Array.getElem?_eq_some_iff.1 B0.out).1).trans B0.out)
   replace B1 := Lib.hid ((hal.block (w.heap.size + 1) (Array.getElem?_eq_some_iff.1 B1.out).1).trans B1.out)
   replace XC1 := Lib.hid ((hal.block bC1 (Array.getElem?_eq_some_iff.1 XC1.out).1).trans XC1.out)
   replace X1 := Lib.hid ((hal.block v3.heap.size (Array.getElem?_eq_some_iff.1 X1.out).1).trans X1.out)
   replace PC1_0 := Lib.hid (slO_fresh tVersionS_law PC1_0.out hal)
   replace P3_0 := Lib.hid (slO_fresh tVersionS_law P3_0.out hal)
   replace P5_2 := Lib.hid (slO_fresh tInt_law P5_2.out hal)
   replace d := Lib.hid (d.out.trans (hal.mono d.out.size))
   clear hal
   have p_X1_0 := (cell_of_row (v5.alloc (.cells #[.int .i64 a1_0, .int .i64 a1_1, .slice ya5_2 x1_2.length yc5_2, .int .i64 a1_3, .int .i64 a1_4] 31)) _ 0 _ _ _ X1.out).trans (show _ = some (Value.slice ya3_0 x0_0.length yc3_0) from rfl)
   have p_X1_1 := (cell_of_row (v5.alloc (.cells #[.int .i64 a1_0, .int .i64 a1_1, .slice ya5_2 x1_2.length yc5_2, .int .i64 a1_3, .int .i64 a1_4] 31)) _ 1 _ _ _ X1.out).trans (show _ = some (Value.int .i64 a0_1) from rfl)
   have p_X2_0 := (cell_of_row (v5.alloc (.cells #[.int .i64 a1_0, .int .i64 a1_1, .slice ya5_2 x1_2.length yc5_2, .int .i64 a1_3, .int .i64 a1_4] 31)) _ 0 _ _ _ X2.out).trans (show _ = some (Value.int .i64 a1_0) from rfl)
   have p_X2_1 := (cell_of_row (v5.alloc (.cells #[.int .i64 a1_0, .int .i64 a1_1, .slice ya5_2 x1_2.length yc5_2, .int .i64 a1_3, .int .i64 a1_4] 31)) _ 1 _ _ _ X2.out).trans (show _ = some (Value.int .i64 a1_1) from rfl)
   have p_X2_2 := (cell_of_row (v5.alloc (.cells #[.int .i64 a1_0, .int .i64 a1_1, .slice ya5_2 x1_2.length yc5_2, .int .i64 a1_3, .int .i64 a1_4] 31)) _ 2 _ _ _ X2.out).trans (show _ = some (Value.slice ya5_2 x1_2.length yc5_2) from rfl)
   have p_X2_3 := (cell_of_row (v5.alloc (.cells #[.int .i64 a1_0, .int .i64 a1_1, .slice ya5_2 x1_2.length yc5_2, .int .i64 a1_3, .int .i64 a1_4] 31)) _ 3 _ _ _ X2.out).trans (show _ = some (Value.int .i64 a1_3) from rfl)
   have p_X2_4 := (cell_of_row (v5.alloc (.cells #[.int .i64 a1_0, .int .i64 a1_1, .slice ya5_2 x1_2.length yc5_2, .int .i64 a1_3, .int .i64 a1_4] 31)) _ 4 _ _ _ X2.out).trans (show _ = some (Value.int .i64 a1_4) from rfl)
   go_wp2_with fail
   clear p_X1_0 p_X1_1 p_X2_0 p_X2_1 p_X2_2 p_X2_3 p_X2_4
   generalize (v5.alloc (.cells #[.int .i64 a1_0, .int .i64 a1_1, .slice ya5_2 x1_2.length yc5_2, .int .i64 a1_3, .int .i64 a1_4] 31)) = u6 at *
   refine (HIM.out (.slice ya3_0 x0_0.length yc3_0) (.slice ya5_2 x1_2.length yc5_2) u6 (slO_reads tVersionS_law P3_0.out) (slO_reads tInt_law P5_2.out) HT.out ).mono ?_
   rintro e v7 ⟨g0, G0, rfl, o0, q0, c7⟩
   replace B0 := Lib.hid ((c7.block w.heap.size (Array.getElem?_eq_some_iff.1 B0.out).1).trans B0.out)
   replace B1 := Lib.hid ((c7.block (w.heap.size + 1) (Array.getElem?_eq_some_iff.1 B1.out).1).trans B1.out)
   replace XC1 := Lib.hid ((c7.block bC1 (Array.getElem?_eq_some_iff.1 XC1.out).1).trans XC1.out)
   replace X1 := Lib.hid ((c7.block v3.heap.size (Array.getElem?_eq_some_iff.1 X1.out).1).trans X1.out)
   replace X2 := Lib.hid ((c7.block v5.heap.size (Array.getElem?_eq_some_iff.1 X2.out).1).trans X2.out)
   replace PC1_0 := Lib.hid (slO_fresh tVersionS_law PC1_0.out c7)
   replace P3_0 := Lib.hid (slO_fresh tVersionS_law P3_0.out c7)
   replace P5_2 := Lib.hid (slO_fresh tInt_law P5_2.out c7)
   replace d := Lib.hid (d.out.trans (c7.mono d.out.size))
   have Z_v7 := Lib.hid (show u6.heap.size ≤ v7.heap.size from c7.size)
   clear c7
   replace o0 := tStore_law.lt o0
   obtain ⟨y7_0, K7_0, rfl, p7_0, w7_0⟩ := tStore_O o0
   obtain ⟨ya7_0, yc7_0, rfl⟩ := slO_len p7_0
   have P7_0 := Lib.hid p7_0
   have Q7_0 := Lib.hid (fun b h => (show u6.heap.size ≤ b ∧ b < v7.heap.size from ⟨q0 b (w7_0 b h).1, (w7_0 b h).2⟩))
   clear p7_0 w7_0 o0 q0
   have hal : Below v7.heap.size v7 (v7.alloc (.cells #[.slice ya7_0 xr0_0.length yc7_0, .int .i64 ar0_1] 41)) := (Below.refl _ _).alloc (Nat.le_refl _) _
   have X3 := Lib.hid (heap_alloc_new v7 (.cells #[.slice ya7_0 xr0_0.length yc7_0, .int .i64 ar0_1] 41))
   have Y_X3 := Lib.hid (show v7.heap.size < (v7.alloc (.cells #[.slice ya7_0 xr0_0.length yc7_0, .int .i64 ar0_1] 41)).heap.size by simp [World.size_alloc])
   replace B0 := Lib.hid ((hal.block w.heap.size (Array.getElem?_eq_some_iff.1 B0.out).1).trans B0.out)
   replace B1 := Lib.hid ((hal.block (w.heap.size + 1) (Array.getElem?_eq_some_iff.1 B1.out).1).trans B1.out)
   replace XC1 := Lib.hid ((hal.block bC1 (Array.getElem?_eq_some_iff.1 XC1.out).1).trans XC1.out)
   replace X1 := Lib.hid ((hal.block v3.heap.size (Array.getElem?_eq_some_iff.1 X1.out).1).trans X1.out)
   replace X2 := Lib.hid ((hal.block v5.heap.size (Array.getElem?_eq_some_iff.1 X2.out).1).trans X2.out)
   replace PC1_0 := Lib.hid (slO_fresh tVersionS_law PC1_0.out hal)
   replace P3_0 := Lib.hid (slO_fresh tVersionS_law P3_0.out hal)
   replace P5_2 := Lib.hid (slO_fresh tInt_law P5_2.out hal)
   replace P7_0 := Lib.hid (slO_fresh tVersionS_law P7_0.out hal)
   replace d := Lib.hid (d.out.trans (hal.mono d.out.size))
   clear hal
   have p_X3_0 := (cell_of_row (v7.alloc (.cells #[.slice ya7_0 xr0_0.length yc7_0, .int .i64 ar0_1] 41)) _ 0 _ _ _ X3.out).trans (show _ = some (Value.slice ya7_0 xr0_0.length yc7_0) from rfl)
   have p_X3_1 := (cell_of_row (v7.alloc (.cells #[.slice ya7_0 xr0_0.length yc7_0, .int .i64 ar0_1] 41)) _ 1 _ _ _ X3.out).trans (show _ = some (Value.int .i64 ar0_1) from rfl)
   have p_XC1_0 := (cell_of_row (v7.alloc (.cells #[.slice ya7_0 xr0_0.length yc7_0, .int .i64 ar0_1] 41)) _ 0 _ _ _ XC1.out).trans (show _ = some (Value.slice yaC1_0 xr0_0.length ycC1_0) from rfl)
   have p_XC1_1 := (cell_of_row (v7.alloc (.cells #[.slice ya7_0 xr0_0.length yc7_0, .int .i64 ar0_1] 41)) _ 1 _ _ _ XC1.out).trans (show _ = some (Value.int .i64 ar0_1) from rfl)
   go_wp2_with fail
   clear p_X3_0 p_X3_1 p_XC1_0 p_XC1_1
   generalize (v7.alloc (.cells #[.slice ya7_0 xr0_0.length yc7_0, .int .i64 ar0_1] 41)) = u8 at *
   refine (eqStore_T ar0_1 (.slice ya7_0 xr0_0.length yc7_0) xr0_0 (.slice yaC1_0 xr0_0.length ycC1_0) u8 (slO_reads tVersionS_law P7_0.out) (slO_reads tVersionS_law PC1_0.out) Z0_0.out).mono ?_
   rintro e v9 ⟨rfl, c9⟩
   replace B0 := Lib.hid ((c9.block w.heap.size (Array.getElem?_eq_some_iff.1 B0.out).1).trans B0.out)
   replace B1 := Lib.hid ((c9.block (w.heap.size + 1) (Array.getElem?_eq_some_iff.1 B1.out).1).trans B1.out)
   replace XC1 := Lib.hid ((c9.block bC1 (Array.getElem?_eq_some_iff.1 XC1.out).1).trans XC1.out)
   replace X1 := Lib.hid ((c9.block v3.heap.size (Array.getElem?_eq_some_iff.1 X1.out).1).trans X1.out)
   replace X2 := Lib.hid ((c9.block v5.heap.size (Array.getElem?_eq_some_iff.1 X2.out).1).trans X2.out)
   replace X3 := Lib.hid ((c9.block v7.heap.size (Array.getElem?_eq_some_iff.1 X3.out).1).trans X3.out)
   replace PC1_0 := Lib.hid (slO_fresh tVersionS_law PC1_0.out c9)
   replace P3_0 := Lib.hid (slO_fresh tVersionS_law P3_0.out c9)
   replace P5_2 := Lib.hid (slO_fresh tInt_law P5_2.out c9)
   replace P7_0 := Lib.hid (slO_fresh tVersionS_law P7_0.out c9)
   replace d := Lib.hid (d.out.trans (c9.mono d.out.size))
   have Z_v9 := Lib.hid (show u8.heap.size ≤ v9.heap.size from c9.size)
   clear c9
   go_wp2
   have p_B0_0 := (cell_of_row v9 _ 0 _ _ _ B0.out).trans (show _ = some (Value.slice c0_0 x0_0.length k0_0) from rfl)
   have p_B0_1 := (cell_of_row v9 _ 1 _ _ _ B0.out).trans (show _ = some (Value.int .i64 a0_1) from rfl)
   have p_X1_0 := (cell_of_row v9 _ 0 _ _ _ X1.out).trans (show _ = some (Value.slice ya3_0 x0_0.length yc3_0) from rfl)
   have p_X1_1 := (cell_of_row v9 _ 1 _ _ _ X1.out).trans (show _ = some (Value.int .i64 a0_1) from rfl)
   refine wp_region_held_drew (S := fun w' => w'.cell? ⟨w.heap.size, 0, none⟩ = some (Value.slice c0_0 x0_0.length k0_0) ∧ w'.cell? ⟨w.heap.size, 1, none⟩ = some (Value.int .i64 a0_1) ∧ w'.cell? ⟨v3.heap.size, 0, none⟩ = some (Value.slice ya3_0 x0_0.length yc3_0) ∧ w'.cell? ⟨v3.heap.size, 1, none⟩ = some (Value.int .i64 a0_1)) (by kernel_rfl) ⟨p_B0_0, p_B0_1, p_X1_0, p_X1_1⟩ (fun hHeld => ?_)
   clear p_B0_0 p_B0_1 p_X1_0 p_X1_1
   have cd10 : Below v9.heap.size v9 v9.drew := below_drew (Below.refl _ _)
   replace B0 := Lib.hid ((cd10.block w.heap.size (Array.getElem?_eq_some_iff.1 B0.out).1).trans B0.out)
   replace B1 := Lib.hid ((cd10.block (w.heap.size + 1) (Array.getElem?_eq_some_iff.1 B1.out).1).trans B1.out)
   replace XC1 := Lib.hid ((cd10.block bC1 (Array.getElem?_eq_some_iff.1 XC1.out).1).trans XC1.out)
   replace X1 := Lib.hid ((cd10.block v3.heap.size (Array.getElem?_eq_some_iff.1 X1.out).1).trans X1.out)
   replace X2 := Lib.hid ((cd10.block v5.heap.size (Array.getElem?_eq_some_iff.1 X2.out).1).trans X2.out)
   replace X3 := Lib.hid ((cd10.block v7.heap.size (Array.getElem?_eq_some_iff.1 X3.out).1).trans X3.out)
   replace PC1_0 := Lib.hid (slO_fresh tVersionS_law PC1_0.out cd10)
   replace P3_0 := Lib.hid (slO_fresh tVersionS_law P3_0.out cd10)
   replace P5_2 := Lib.hid (slO_fresh tInt_law P5_2.out cd10)
   replace P7_0 := Lib.hid (slO_fresh tVersionS_law P7_0.out cd10)
   replace d := Lib.hid (d.out.trans (cd10.mono d.out.size))
   clear cd10
   refine tR (i := 0) (v := ?_) ?_ ?_; rotate_left
   ·
    intro w hSw; (try dsimp only at hSw); go_simp; try (with_reducible rfl)
   try simp only [Act.put, lA, lB, lC]
   refine tR (i := 1) (v := ?_) ?_ ?_; rotate_left
   ·
    intro w hSw; (try dsimp only at hSw); go_simp; try (with_reducible rfl)
   try simp only [Act.put, lA, lB, lC]
   refine wpAnyH_ready (rs := [2]) (by kernel_rfl) (by simp) ?_
   refine AllReadyH.cons (o := _) (by simp only [hA, hB, hC]; rfl) (fun K hK => ?_) AllReadyH.nil
   go_simp
   refine (toStore_T a0_1 (.slice c0_0 x0_0.length k0_0) x0_0 (v9.drew) (slR_below tVersionS_law A0_0.out d.out) S0_0.out).mono ?_
   rintro e v11 ⟨cs, rfl, ow, c11⟩
   replace B0 := Lib.hid ((c11.block w.heap.size (Array.getElem?_eq_some_iff.1 B0.out).1).trans B0.out)
   replace B1 := Lib.hid ((c11.block (w.heap.size + 1) (Array.getElem?_eq_some_iff.1 B1.out).1).trans B1.out)
   replace XC1 := Lib.hid ((c11.block bC1 (Array.getElem?_eq_some_iff.1 XC1.out).1).trans XC1.out)
   replace X1 := Lib.hid ((c11.block v3.heap.size (Array.getElem?_eq_some_iff.1 X1.out).1).trans X1.out)
   replace X2 := Lib.hid ((c11.block v5.heap.size (Array.getElem?_eq_some_iff.1 X2.out).1).trans X2.out)
   replace X3 := Lib.hid ((c11.block v7.heap.size (Array.getElem?_eq_some_iff.1 X3.out).1).trans X3.out)
   replace PC1_0 := Lib.hid (slO_fresh tVersionS_law PC1_0.out c11)
   replace P3_0 := Lib.hid (slO_fresh tVersionS_law P3_0.out c11)
   replace P5_2 := Lib.hid (slO_fresh tInt_law P5_2.out c11)
   replace P7_0 := Lib.hid (slO_fresh tVersionS_law P7_0.out c11)
   replace d := Lib.hid (d.out.trans (c11.mono d.out.size))
   have Z_v11 := Lib.hid (show v9.heap.size ≤ v11.heap.size from c11.size)
   clear c11
   replace ow := tStore_law.lt ow
   obtain ⟨y11_0, K11_0, rfl, p11_0, w11_0⟩ := tStore_O ow
   obtain ⟨ya11_0, yc11_0, rfl⟩ := slO_len p11_0
   have P11_0 := Lib.hid p11_0
   have Q11_0 := Lib.hid (fun b h => (show (v9.drew).heap.size ≤ b ∧ b < v11.heap.size from w11_0 b h))
   clear p11_0 w11_0 ow
   have p_B0_0 := (cell_of_row v11 _ 0 _ _ _ B0.out).trans (show _ = some (Value.slice c0_0 x0_0.length k0_0) from rfl)
   have p_B0_1 := (cell_of_row v11 _ 1 _ _ _ B0.out).trans (show _ = some (Value.int .i64 a0_1) from rfl)
   have p_X1_0 := (cell_of_row v11 _ 0 _ _ _ X1.out).trans (show _ = some (Value.slice ya3_0 x0_0.length yc3_0) from rfl)
   have p_X1_1 := (cell_of_row v11 _ 1 _ _ _ X1.out).trans (show _ = some (Value.int .i64 a0_1) from rfl)
   refine hK.out _ _ ⟨p_B0_0, p_B0_1, p_X1_0, p_X1_1⟩ (fun hHeld => ?_)
   clear p_B0_0 p_B0_1 p_X1_0 p_X1_1
   clear hK K
   try simp only [Act.put, lA, lB, lC]
   refine wpAnyH_ready (rs := [3]) (by kernel_rfl) (by simp) ?_
   refine AllReadyH.cons (o := _) (by simp only [hA, hB, hC]; rfl) (fun K hK => ?_) AllReadyH.nil
   go_simp
   refine (eqStore_T a0_1 (.slice ya3_0 x0_0.length yc3_0) x0_0 (.slice ya11_0 x0_0.length yc11_0) v11 (slO_reads tVersionS_law P3_0.out) (slO_reads tVersionS_law P11_0.out) S0_0.out).mono ?_
   rintro e v12 ⟨rfl, c12⟩
   replace B0 := Lib.hid ((c12.block w.heap.size (Array.getElem?_eq_some_iff.1 B0.out).1).trans B0.out)
   replace B1 := Lib.hid ((c12.block (w.heap.size + 1) (Array.getElem?_eq_some_iff.1 B1.out).1).trans B1.out)
   replace XC1 := Lib.hid ((c12.block bC1 (Array.getElem?_eq_some_iff.1 XC1.out).1).trans XC1.out)
   replace X1 := Lib.hid ((c12.block v3.heap.size (Array.getElem?_eq_some_iff.1 X1.out).1).trans X1.out)
   replace X2 := Lib.hid ((c12.block v5.heap.size (Array.getElem?_eq_some_iff.1 X2.out).1).trans X2.out)
   replace X3 := Lib.hid ((c12.block v7.heap.size (Array.getElem?_eq_some_iff.1 X3.out).1).trans X3.out)
   replace PC1_0 := Lib.hid (slO_fresh tVersionS_law PC1_0.out c12)
   replace P3_0 := Lib.hid (slO_fresh tVersionS_law P3_0.out c12)
   replace P5_2 := Lib.hid (slO_fresh tInt_law P5_2.out c12)
   replace P7_0 := Lib.hid (slO_fresh tVersionS_law P7_0.out c12)
   replace P11_0 := Lib.hid (slO_fresh tVersionS_law P11_0.out c12)
   replace d := Lib.hid (d.out.trans (c12.mono d.out.size))
   have Z_v12 := Lib.hid (show v11.heap.size ≤ v12.heap.size from c12.size)
   clear c12
   clear P11_0
   have p_B0_0 := (cell_of_row v12 _ 0 _ _ _ B0.out).trans (show _ = some (Value.slice c0_0 x0_0.length k0_0) from rfl)
   have p_B0_1 := (cell_of_row v12 _ 1 _ _ _ B0.out).trans (show _ = some (Value.int .i64 a0_1) from rfl)
   have p_X1_0 := (cell_of_row v12 _ 0 _ _ _ X1.out).trans (show _ = some (Value.slice ya3_0 x0_0.length yc3_0) from rfl)
   have p_X1_1 := (cell_of_row v12 _ 1 _ _ _ X1.out).trans (show _ = some (Value.int .i64 a0_1) from rfl)
   refine hK.out _ _ ⟨p_B0_0, p_B0_1, p_X1_0, p_X1_1⟩ (fun hHeld => ?_)
   clear p_B0_0 p_B0_1 p_X1_0 p_X1_1
   clear hK K
   try simp only [Act.put, lA, lB, lC]
   refine tR (i := 4) (v := ?_) ?_ ?_; rotate_left
   ·
    intro w hSw; (try dsimp only at hSw); go_simp; try (with_reducible rfl)
   try simp only [Act.put, lA, lB, lC]
   refine wpAnyH_done (by kernel_rfl) ?_ _
   clear hHeld
   go_wp2
   have p_B1_0 := (cell_of_row v12 _ 0 _ _ _ B1.out).trans (show _ = some (Value.int .i64 a1_0) from rfl)
   have p_B1_1 := (cell_of_row v12 _ 1 _ _ _ B1.out).trans (show _ = some (Value.int .i64 a1_1) from rfl)
   have p_B1_2 := (cell_of_row v12 _ 2 _ _ _ B1.out).trans (show _ = some (Value.slice c1_2 x1_2.length k1_2) from rfl)
   have p_B1_3 := (cell_of_row v12 _ 3 _ _ _ B1.out).trans (show _ = some (Value.int .i64 a1_3) from rfl)
   have p_B1_4 := (cell_of_row v12 _ 4 _ _ _ B1.out).trans (show _ = some (Value.int .i64 a1_4) from rfl)
   have p_X2_0 := (cell_of_row v12 _ 0 _ _ _ X2.out).trans (show _ = some (Value.int .i64 a1_0) from rfl)
   have p_X2_1 := (cell_of_row v12 _ 1 _ _ _ X2.out).trans (show _ = some (Value.int .i64 a1_1) from rfl)
   have p_X2_2 := (cell_of_row v12 _ 2 _ _ _ X2.out).trans (show _ = some (Value.slice ya5_2 x1_2.length yc5_2) from rfl)
   have p_X2_3 := (cell_of_row v12 _ 3 _ _ _ X2.out).trans (show _ = some (Value.int .i64 a1_3) from rfl)
   have p_X2_4 := (cell_of_row v12 _ 4 _ _ _ X2.out).trans (show _ = some (Value.int .i64 a1_4) from rfl)
   refine wp_region_held_drew (S := fun w' => w'.cell? ⟨(w.heap.size + 1), 0, none⟩ = some (Value.int .i64 a1_0) ∧ w'.cell? ⟨(w.heap.size + 1), 1, none⟩ = some (Value.int .i64 a1_1) ∧ w'.cell? ⟨(w.heap.size + 1), 2, none⟩ = some (Value.slice c1_2 x1_2.length k1_2) ∧ w'.cell? ⟨(w.heap.size + 1), 3, none⟩ = some (Value.int .i64 a1_3) ∧ w'.cell? ⟨(w.heap.size + 1), 4, none⟩ = some (Value.int .i64 a1_4) ∧ w'.cell? ⟨v5.heap.size, 0, none⟩ = some (Value.int .i64 a1_0) ∧ w'.cell? ⟨v5.heap.size, 1, none⟩ = some (Value.int .i64 a1_1) ∧ w'.cell? ⟨v5.heap.size, 2, none⟩ = some (Value.slice ya5_2 x1_2.length yc5_2) ∧ w'.cell? ⟨v5.heap.size, 3, none⟩ = some (Value.int .i64 a1_3) ∧ w'.cell? ⟨v5.heap.size, 4, none⟩ = some (Value.int .i64 a1_4)) (by kernel_rfl) ⟨p_B1_0, p_B1_1, p_B1_2, p_B1_3, p_B1_4, p_X2_0, p_X2_1, p_X2_2, p_X2_3, p_X2_4⟩ (fun hHeld => ?_)
   clear p_B1_0 p_B1_1 p_B1_2 p_B1_3 p_B1_4 p_X2_0 p_X2_1 p_X2_2 p_X2_3 p_X2_4
   have cd13 : Below v12.heap.size v12 v12.drew := below_drew (Below.refl _ _)
   replace B0 := Lib.hid ((cd13.block w.heap.size (Array.getElem?_eq_some_iff.1 B0.out).1).trans B0.out)
   replace B1 := Lib.hid ((cd13.block (w.heap.size + 1) (Array.getElem?_eq_some_iff.1 B1.out).1).trans B1.out)
   replace XC1 := Lib.hid ((cd13.block bC1 (Array.getElem?_eq_some_iff.1 XC1.out).1).trans XC1.out)
   replace X1 := Lib.hid ((cd13.block v3.heap.size (Array.getElem?_eq_some_iff.1 X1.out).1).trans X1.out)
   replace X2 := Lib.hid ((cd13.block v5.heap.size (Array.getElem?_eq_some_iff.1 X2.out).1).trans X2.out)
   replace X3 := Lib.hid ((cd13.block v7.heap.size (Array.getElem?_eq_some_iff.1 X3.out).1).trans X3.out)
   replace PC1_0 := Lib.hid (slO_fresh tVersionS_law PC1_0.out cd13)
   replace P3_0 := Lib.hid (slO_fresh tVersionS_law P3_0.out cd13)
   replace P5_2 := Lib.hid (slO_fresh tInt_law P5_2.out cd13)
   replace P7_0 := Lib.hid (slO_fresh tVersionS_law P7_0.out cd13)
   replace d := Lib.hid (d.out.trans (cd13.mono d.out.size))
   clear cd13
   refine tR (i := 0) (v := ?_) ?_ ?_; rotate_left
   ·
    intro w hSw; (try dsimp only at hSw); go_simp; try (with_reducible rfl)
   try simp only [Act.put, lA, lB, lC]
   refine tR (i := 1) (v := ?_) ?_ ?_; rotate_left
   ·
    intro w hSw; (try dsimp only at hSw); go_simp; try (with_reducible rfl)
   try simp only [Act.put, lA, lB, lC]
   refine wpAnyH_ready (rs := [2]) (by kernel_rfl) (by simp) ?_
   refine AllReadyH.cons (o := _) (by simp only [hA, hB, hC]; rfl) (fun K hK => ?_) AllReadyH.nil
   go_simp
   refine (toUpdate_T a1_0 a1_1 a1_3 a1_4 (.slice c1_2 x1_2.length k1_2) x1_2 (v12.drew) (slR_below tInt_law A1_2.out d.out) S1_2.out).mono ?_
   rintro e v14 ⟨cs, rfl, ow, c14⟩
   replace B0 := Lib.hid ((c14.block w.heap.size (Array.getElem?_eq_some_iff.1 B0.out).1).trans B0.out)
   replace B1 := Lib.hid ((c14.block (w.heap.size + 1) (Array.getElem?_eq_some_iff.1 B1.out).1).trans B1.out)
   replace XC1 := Lib.hid ((c14.block bC1 (Array.getElem?_eq_some_iff.1 XC1.out).1).trans XC1.out)
   replace X1 := Lib.hid ((c14.block v3.heap.size (Array.getElem?_eq_some_iff.1 X1.out).1).trans X1.out)
   replace X2 := Lib.hid ((c14.block v5.heap.size (Array.getElem?_eq_some_iff.1 X2.out).1).trans X2.out)
   replace X3 := Lib.hid ((c14.block v7.heap.size (Array.getElem?_eq_some_iff.1 X3.out).1).trans X3.out)
   replace PC1_0 := Lib.hid (slO_fresh tVersionS_law PC1_0.out c14)
   replace P3_0 := Lib.hid (slO_fresh tVersionS_law P3_0.out c14)
   replace P5_2 := Lib.hid (slO_fresh tInt_law P5_2.out c14)
   replace P7_0 := Lib.hid (slO_fresh tVersionS_law P7_0.out c14)
   replace d := Lib.hid (d.out.trans (c14.mono d.out.size))
   have Z_v14 := Lib.hid (show v12.heap.size ≤ v14.heap.size from c14.size)
   clear c14
   replace ow := tUpdate_law.lt ow
   obtain ⟨y14_2, K14_2, rfl, p14_2, w14_2⟩ := tUpdate_O ow
   obtain ⟨ya14_2, yc14_2, rfl⟩ := slO_len p14_2
   have P14_2 := Lib.hid p14_2
   have Q14_2 := Lib.hid (fun b h => (show (v12.drew).heap.size ≤ b ∧ b < v14.heap.size from w14_2 b h))
   clear p14_2 w14_2 ow
   have p_B1_0 := (cell_of_row v14 _ 0 _ _ _ B1.out).trans (show _ = some (Value.int .i64 a1_0) from rfl)
   have p_B1_1 := (cell_of_row v14 _ 1 _ _ _ B1.out).trans (show _ = some (Value.int .i64 a1_1) from rfl)
   have p_B1_2 := (cell_of_row v14 _ 2 _ _ _ B1.out).trans (show _ = some (Value.slice c1_2 x1_2.length k1_2) from rfl)
   have p_B1_3 := (cell_of_row v14 _ 3 _ _ _ B1.out).trans (show _ = some (Value.int .i64 a1_3) from rfl)
   have p_B1_4 := (cell_of_row v14 _ 4 _ _ _ B1.out).trans (show _ = some (Value.int .i64 a1_4) from rfl)
   have p_X2_0 := (cell_of_row v14 _ 0 _ _ _ X2.out).trans (show _ = some (Value.int .i64 a1_0) from rfl)
   have p_X2_1 := (cell_of_row v14 _ 1 _ _ _ X2.out).trans (show _ = some (Value.int .i64 a1_1) from rfl)
   have p_X2_2 := (cell_of_row v14 _ 2 _ _ _ X2.out).trans (show _ = some (Value.slice ya5_2 x1_2.length yc5_2) from rfl)
   have p_X2_3 := (cell_of_row v14 _ 3 _ _ _ X2.out).trans (show _ = some (Value.int .i64 a1_3) from rfl)
   have p_X2_4 := (cell_of_row v14 _ 4 _ _ _ X2.out).trans (show _ = some (Value.int .i64 a1_4) from rfl)
   refine hK.out _ _ ⟨p_B1_0, p_B1_1, p_B1_2, p_B1_3, p_B1_4, p_X2_0, p_X2_1, p_X2_2, p_X2_3, p_X2_4⟩ (fun hHeld => ?_)
   clear p_B1_0 p_B1_1 p_B1_2 p_B1_3 p_B1_4 p_X2_0 p_X2_1 p_X2_2 p_X2_3 p_X2_4
   clear hK K
   try simp only [Act.put, lA, lB, lC]
   refine wpAnyH_ready (rs := [3]) (by kernel_rfl) (by simp) ?_
   refine AllReadyH.cons (o := _) (by simp only [hA, hB, hC]; rfl) (fun K hK => ?_) AllReadyH.nil
   go_simp
   refine (eqUpdate_T a1_0 a1_1 a1_3 a1_4 (.slice ya5_2 x1_2.length yc5_2) x1_2 (.slice ya14_2 x1_2.length yc14_2) v14 (slO_reads tInt_law P5_2.out) (slO_reads tInt_law P14_2.out) S1_2.out).mono ?_
   rintro e v15 ⟨rfl, c15⟩
   replace B0 := Lib.hid ((c15.block w.heap.size (Array.getElem?_eq_some_iff.1 B0.out).1).trans B0.out)
   replace B1 := Lib.hid ((c15.block (w.heap.size + 1) (Array.getElem?_eq_some_iff.1 B1.out).1).trans B1.out)
   replace XC1 := Lib.hid ((c15.block bC1 (Array.getElem?_eq_some_iff.1 XC1.out).1).trans XC1.out)
   replace X1 := Lib.hid ((c15.block v3.heap.size (Array.getElem?_eq_some_iff.1 X1.out).1).trans X1.out)
   replace X2 := Lib.hid ((c15.block v5.heap.size (Array.getElem?_eq_some_iff.1 X2.out).1).trans X2.out)
   replace X3 := Lib.hid ((c15.block v7.heap.size (Array.getElem?_eq_some_iff.1 X3.out).1).trans X3.out)
   replace PC1_0 := Lib.hid (slO_fresh tVersionS_law PC1_0.out c15)
   replace P3_0 := Lib.hid (slO_fresh tVersionS_law P3_0.out c15)
   replace P5_2 := Lib.hid (slO_fresh tInt_law P5_2.out c15)
   replace P7_0 := Lib.hid (slO_fresh tVersionS_law P7_0.out c15)
   replace P14_2 := Lib.hid (slO_fresh tInt_law P14_2.out c15)
   replace d := Lib.hid (d.out.trans (c15.mono d.out.size))
   have Z_v15 := Lib.hid (show v14.heap.size ≤ v15.heap.size from c15.size)
   clear c15
   clear P14_2
   have p_B1_0 := (cell_of_row v15 _ 0 _ _ _ B1.out).trans (show _ = some (Value.int .i64 a1_0) from rfl)
   have p_B1_1 := (cell_of_row v15 _ 1 _ _ _ B1.out).trans (show _ = some (Value.int .i64 a1_1) from rfl)
   have p_B1_2 := (cell_of_row v15 _ 2 _ _ _ B1.out).trans (show _ = some (Value.slice c1_2 x1_2.length k1_2) from rfl)
   have p_B1_3 := (cell_of_row v15 _ 3 _ _ _ B1.out).trans (show _ = some (Value.int .i64 a1_3) from rfl)
   have p_B1_4 := (cell_of_row v15 _ 4 _ _ _ B1.out).trans (show _ = some (Value.int .i64 a1_4) from rfl)
   have p_X2_0 := (cell_of_row v15 _ 0 _ _ _ X2.out).trans (show _ = some (Value.int .i64 a1_0) from rfl)
   have p_X2_1 := (cell_of_row v15 _ 1 _ _ _ X2.out).trans (show _ = some (Value.int .i64 a1_1) from rfl)
   have p_X2_2 := (cell_of_row v15 _ 2 _ _ _ X2.out).trans (show _ = some (Value.slice ya5_2 x1_2.length yc5_2) from rfl)
   have p_X2_3 := (cell_of_row v15 _ 3 _ _ _ X2.out).trans (show _ = some (Value.int .i64 a1_3) from rfl)
   have p_X2_4 := (cell_of_row v15 _ 4 _ _ _ X2.out).trans (show _ = some (Value.int .i64 a1_4) from rfl)
   refine hK.out _ _ ⟨p_B1_0, p_B1_1, p_B1_2, p_B1_3, p_B1_4, p_X2_0, p_X2_1, p_X2_2, p_X2_3, p_X2_4⟩ (fun hHeld => ?_)
   clear p_B1_0 p_B1_1 p_B1_2 p_B1_3 p_B1_4 p_X2_0 p_X2_1 p_X2_2 p_X2_3 p_X2_4
   clear hK K
   try simp only [Act.put, lA, lB, lC]
   refine tR (i := 4) (v := ?_) ?_ ?_; rotate_left
   ·
    intro w hSw; (try dsimp only at hSw); go_simp; try (with_reducible rfl)
   try simp only [Act.put, lA, lB, lC]
   refine wpAnyH_done (by kernel_rfl) ?_ _
   clear hHeld
   have p_X1_0 := (cell_of_row v15 _ 0 _ _ _ X1.out).trans (show _ = some (Value.slice ya3_0 x0_0.length yc3_0) from rfl)
   have p_X1_1 := (cell_of_row v15 _ 1 _ _ _ X1.out).trans (show _ = some (Value.int .i64 a0_1) from rfl)
   go_wp2_with fail
   clear p_X1_0 p_X1_1
   refine (markStore_T a0_1 (.slice ya3_0 x0_0.length yc3_0) x0_0 (fun b => wC1c.heap.size ≤ b ∧ b < v3.heap.size) _ (1) v15 P3_0.out Q3_0.out  S0_0.out M0.out.1 (by have := M0.out.2; omega)).mono ?_
   rintro e v16 ⟨rfl, m0, c16⟩
   have y0 := Y_W.out
   have y1 := Z_v1.out
   have y2 := Z_v2.out
   have y3 := Z_wC1c.out
   have y4 := Y_XC1.out
   have y5 := Y_XC1d.out
   have y6 := Z_v3.out
   have y7 := Y_X1.out
   have y8 := Z_v5.out
   have y9 := Y_X2.out
   have y10 := Z_v7.out
   have y11 := Y_X3.out
   have y12 := Z_v9.out
   have y13 := Z_v11.out
   have y14 := Z_v12.out
   have y15 := Z_v14.out
   have y16 := Z_v15.out
   have yd : W.heap.size ≤ v15.heap.size := d.out.size
   replace B0 := Lib.hid ((c16.block w.heap.size (Array.getElem?_eq_some_iff.1 B0.out).1 (fun h => by have r2 := h; omega)).trans B0.out)
   replace B1 := Lib.hid ((c16.block (w.heap.size + 1) (Array.getElem?_eq_some_iff.1 B1.out).1 (fun h => by have r2 := h; omega)).trans B1.out)
   replace XC1 := Lib.hid ((c16.block bC1 (Array.getElem?_eq_some_iff.1 XC1.out).1 (fun h => by have r2 := h; omega)).trans XC1.out)
   replace X1 := Lib.hid ((c16.block v3.heap.size (Array.getElem?_eq_some_iff.1 X1.out).1 (fun h => by have r2 := h; omega)).trans X1.out)
   replace X2 := Lib.hid ((c16.block v5.heap.size (Array.getElem?_eq_some_iff.1 X2.out).1 (fun h => by have r2 := h; omega)).trans X2.out)
   replace X3 := Lib.hid ((c16.block v7.heap.size (Array.getElem?_eq_some_iff.1 X3.out).1 (fun h => by have r2 := h; omega)).trans X3.out)
   replace PC1_0 := Lib.hid (slO_turn tVersionS_law PC1_0.out c16 (fun b h1 h2 => by have r1 := QC1_0.out b h1; have r2 := h2; omega))
   replace P5_2 := Lib.hid (slO_turn tInt_law P5_2.out c16 (fun b h1 h2 => by have r1 := Q5_2.out b h1; have r2 := h2; omega))
   replace P7_0 := Lib.hid (slO_turn tVersionS_law P7_0.out c16 (fun b h1 h2 => by have r1 := Q7_0.out b h1; have r2 := h2; omega))
   replace d := Lib.hid (below_turn d.out c16 (fun b h => by have r2 := h; omega) (by omega))
   clear yd y0 y1 y2 y3 y4 y5 y6 y7 y8 y9 y10 y11 y12 y13 y14 y15 y16
   have Z_v16 := Lib.hid (show v15.heap.size ≤ v16.heap.size from c16.size)
   clear P3_0
   clear m0 c16
   have p_X2_0 := (cell_of_row v16 _ 0 _ _ _ X2.out).trans (show _ = some (Value.int .i64 a1_0) from rfl)
   have p_X2_1 := (cell_of_row v16 _ 1 _ _ _ X2.out).trans (show _ = some (Value.int .i64 a1_1) from rfl)
   have p_X2_2 := (cell_of_row v16 _ 2 _ _ _ X2.out).trans (show _ = some (Value.slice ya5_2 x1_2.length yc5_2) from rfl)
   have p_X2_3 := (cell_of_row v16 _ 3 _ _ _ X2.out).trans (show _ = some (Value.int .i64 a1_3) from rfl)
   have p_X2_4 := (cell_of_row v16 _ 4 _ _ _ X2.out).trans (show _ = some (Value.int .i64 a1_4) from rfl)
   go_wp2_with fail
   clear p_X2_0 p_X2_1 p_X2_2 p_X2_3 p_X2_4
   refine (markUpdate_T a1_0 a1_1 a1_3 a1_4 (.slice ya5_2 x1_2.length yc5_2) x1_2 (fun b => u4.heap.size ≤ b ∧ b < v5.heap.size) _ (1 + (ndL tVersionS x0_0 : Int)) v16 P5_2.out Q5_2.out  S1_2.out M1.out.1 (by have := M1.out.2; omega)).mono ?_
   rintro e v17 ⟨rfl, m0, c17⟩
   have y0 := Y_W.out
   have y1 := Z_v1.out
   have y2 := Z_v2.out
   have y3 := Z_wC1c.out
   have y4 := Y_XC1.out
   have y5 := Y_XC1d.out
   have y6 := Z_v3.out
   have y7 := Y_X1.out
   have y8 := Z_v5.out
   have y9 := Y_X2.out
   have y10 := Z_v7.out
   have y11 := Y_X3.out
   have y12 := Z_v9.out
   have y13 := Z_v11.out
   have y14 := Z_v12.out
   have y15 := Z_v14.out
   have y16 := Z_v15.out
   have y17 := Z_v16.out
   have yd : W.heap.size ≤ v16.heap.size := d.out.size
   replace B0 := Lib.hid ((c17.block w.heap.size (Array.getElem?_eq_some_iff.1 B0.out).1 (fun h => by have r2 := h; omega)).trans B0.out)
   replace B1 := Lib.hid ((c17.block (w.heap.size + 1) (Array.getElem?_eq_some_iff.1 B1.out).1 (fun h => by have r2 := h; omega)).trans B1.out)
   replace XC1 := Lib.hid ((c17.block bC1 (Array.getElem?_eq_some_iff.1 XC1.out).1 (fun h => by have r2 := h; omega)).trans XC1.out)
   replace X1 := Lib.hid ((c17.block v3.heap.size (Array.getElem?_eq_some_iff.1 X1.out).1 (fun h => by have r2 := h; omega)).trans X1.out)
   replace X2 := Lib.hid ((c17.block v5.heap.size (Array.getElem?_eq_some_iff.1 X2.out).1 (fun h => by have r2 := h; omega)).trans X2.out)
   replace X3 := Lib.hid ((c17.block v7.heap.size (Array.getElem?_eq_some_iff.1 X3.out).1 (fun h => by have r2 := h; omega)).trans X3.out)
   replace PC1_0 := Lib.hid (slO_turn tVersionS_law PC1_0.out c17 (fun b h1 h2 => by have r1 := QC1_0.out b h1; have r2 := h2; omega))
   replace P7_0 := Lib.hid (slO_turn tVersionS_law P7_0.out c17 (fun b h1 h2 => by have r1 := Q7_0.out b h1; have r2 := h2; omega))
   replace d := Lib.hid (below_turn d.out c17 (fun b h => by have r2 := h; omega) (by omega))
   clear yd y0 y1 y2 y3 y4 y5 y6 y7 y8 y9 y10 y11 y12 y13 y14 y15 y16 y17
   have Z_v17 := Lib.hid (show v16.heap.size ≤ v17.heap.size from c17.size)
   clear P5_2
   clear m0 c17
   have p_X3_0 := (cell_of_row v17 _ 0 _ _ _ X3.out).trans (show _ = some (Value.slice ya7_0 xr0_0.length yc7_0) from rfl)
   have p_X3_1 := (cell_of_row v17 _ 1 _ _ _ X3.out).trans (show _ = some (Value.int .i64 ar0_1) from rfl)
   have p_XC1_0 := (cell_of_row v17 _ 0 _ _ _ XC1.out).trans (show _ = some (Value.slice yaC1_0 xr0_0.length ycC1_0) from rfl)
   have p_XC1_1 := (cell_of_row v17 _ 1 _ _ _ XC1.out).trans (show _ = some (Value.int .i64 ar0_1) from rfl)
   go_wp2_with fail
   clear p_X3_0 p_X3_1 p_XC1_0 p_XC1_1
   refine (eqStore_T ar0_1 (.slice ya7_0 xr0_0.length yc7_0) xr0_0 (.slice yaC1_0 xr0_0.length ycC1_0) v17 (slO_reads tVersionS_law P7_0.out) (slO_reads tVersionS_law PC1_0.out) Z0_0.out).mono ?_
   rintro e v18 ⟨rfl, c18⟩
   replace B0 := Lib.hid ((c18.block w.heap.size (Array.getElem?_eq_some_iff.1 B0.out).1).trans B0.out)
   replace B1 := Lib.hid ((c18.block (w.heap.size + 1) (Array.getElem?_eq_some_iff.1 B1.out).1).trans B1.out)
   replace XC1 := Lib.hid ((c18.block bC1 (Array.getElem?_eq_some_iff.1 XC1.out).1).trans XC1.out)
   replace X1 := Lib.hid ((c18.block v3.heap.size (Array.getElem?_eq_some_iff.1 X1.out).1).trans X1.out)
   replace X2 := Lib.hid ((c18.block v5.heap.size (Array.getElem?_eq_some_iff.1 X2.out).1).trans X2.out)
   replace X3 := Lib.hid ((c18.block v7.heap.size (Array.getElem?_eq_some_iff.1 X3.out).1).trans X3.out)
   replace PC1_0 := Lib.hid (slO_fresh tVersionS_law PC1_0.out c18)
   replace P7_0 := Lib.hid (slO_fresh tVersionS_law P7_0.out c18)
   replace d := Lib.hid (d.out.trans (c18.mono d.out.size))
   have Z_v18 := Lib.hid (show v17.heap.size ≤ v18.heap.size from c18.size)
   clear c18
   have p_X3_0 := (cell_of_row v18 _ 0 _ _ _ X3.out).trans (show _ = some (Value.slice ya7_0 xr0_0.length yc7_0) from rfl)
   have p_X3_1 := (cell_of_row v18 _ 1 _ _ _ X3.out).trans (show _ = some (Value.int .i64 ar0_1) from rfl)
   go_wp2_with fail
   clear p_X3_0 p_X3_1
   refine (markStore_T ar0_1 (.slice ya7_0 xr0_0.length yc7_0) xr0_0 (fun b => u6.heap.size ≤ b ∧ b < v7.heap.size) _ (1) v18 P7_0.out Q7_0.out  Z0_0.out MR0.out.1 (by have := MR0.out.2; omega)).mono ?_
   rintro e v19 ⟨rfl, m0, c19⟩
   have y0 := Y_W.out
   have y1 := Z_v1.out
   have y2 := Z_v2.out
   have y3 := Z_wC1c.out
   have y4 := Y_XC1.out
   have y5 := Y_XC1d.out
   have y6 := Z_v3.out
   have y7 := Y_X1.out
   have y8 := Z_v5.out
   have y9 := Y_X2.out
   have y10 := Z_v7.out
   have y11 := Y_X3.out
   have y12 := Z_v9.out
   have y13 := Z_v11.out
   have y14 := Z_v12.out
   have y15 := Z_v14.out
   have y16 := Z_v15.out
   have y17 := Z_v16.out
   have y18 := Z_v17.out
   have y19 := Z_v18.out
   have yd : W.heap.size ≤ v18.heap.size := d.out.size
   replace B0 := Lib.hid ((c19.block w.heap.size (Array.getElem?_eq_some_iff.1 B0.out).1 (fun h => by have r2 := h; omega)).trans B0.out)
   replace B1 := Lib.hid ((c19.block (w.heap.size + 1) (Array.getElem?_eq_some_iff.1 B1.out).1 (fun h => by have r2 := h; omega)).trans B1.out)
   replace XC1 := Lib.hid ((c19.block bC1 (Array.getElem?_eq_some_iff.1 XC1.out).1 (fun h => by have r2 := h; omega)).trans XC1.out)
   replace X1 := Lib.hid ((c19.block v3.heap.size (Array.getElem?_eq_some_iff.1 X1.out).1 (fun h => by have r2 := h; omega)).trans X1.out)
   replace X2 := Lib.hid ((c19.block v5.heap.size (Array.getElem?_eq_some_iff.1 X2.out).1 (fun h => by have r2 := h; omega)).trans X2.out)
   replace X3 := Lib.hid ((c19.block v7.heap.size (Array.getElem?_eq_some_iff.1 X3.out).1 (fun h => by have r2 := h; omega)).trans X3.out)
   replace PC1_0 := Lib.hid (slO_turn tVersionS_law PC1_0.out c19 (fun b h1 h2 => by have r1 := QC1_0.out b h1; have r2 := h2; omega))
   replace d := Lib.hid (below_turn d.out c19 (fun b h => by have r2 := h; omega) (by omega))
   clear yd y0 y1 y2 y3 y4 y5 y6 y7 y8 y9 y10 y11 y12 y13 y14 y15 y16 y17 y18 y19
   have Z_v19 := Lib.hid (show v18.heap.size ≤ v19.heap.size from c19.size)
   replace P7_0 := Lib.hid m0
   clear m0 c19
   have p_X3_0 := (cell_of_row v19 _ 0 _ _ _ X3.out).trans (show _ = some (Value.slice ya7_0 xr0_0.length yc7_0) from rfl)
   have p_X3_1 := (cell_of_row v19 _ 1 _ _ _ X3.out).trans (show _ = some (Value.int .i64 ar0_1) from rfl)
   go_wp2_with fail
   clear p_X3_0 p_X3_1
   refine (heldStore_T ar0_1 (.slice ya7_0 xr0_0.length yc7_0) xr0_0 (1) v19 (slO_reads tVersionS_law P7_0.out) Z0_0.out MR0.out.1 (by have := MR0.out.2; omega)).mono ?_
   rintro e v20 ⟨rfl, c20⟩
   replace B0 := Lib.hid ((c20.block w.heap.size (Array.getElem?_eq_some_iff.1 B0.out).1).trans B0.out)
   replace B1 := Lib.hid ((c20.block (w.heap.size + 1) (Array.getElem?_eq_some_iff.1 B1.out).1).trans B1.out)
   replace XC1 := Lib.hid ((c20.block bC1 (Array.getElem?_eq_some_iff.1 XC1.out).1).trans XC1.out)
   replace X1 := Lib.hid ((c20.block v3.heap.size (Array.getElem?_eq_some_iff.1 X1.out).1).trans X1.out)
   replace X2 := Lib.hid ((c20.block v5.heap.size (Array.getElem?_eq_some_iff.1 X2.out).1).trans X2.out)
   replace X3 := Lib.hid ((c20.block v7.heap.size (Array.getElem?_eq_some_iff.1 X3.out).1).trans X3.out)
   replace PC1_0 := Lib.hid (slO_fresh tVersionS_law PC1_0.out c20)
   replace P7_0 := Lib.hid (slO_fresh tVersionS_law P7_0.out c20)
   replace d := Lib.hid (d.out.trans (c20.mono d.out.size))
   have Z_v20 := Lib.hid (show v19.heap.size ≤ v20.heap.size from c20.size)
   clear c20
   go_upto_region 31 with fail
   go_cut [15, 16] from 94 (fun s15 s16 wx => ∃ (bC2 : Nat) (yaC2_0 : Option Addr) (ycC2_0 : Nat) (KC2_0 : Nat → Prop), s16 = .bool r1 ∧ s15 = .pointer (some ⟨bC2, 0, none⟩) ∧ wx.heap[bC2]? = some (.cells #[.slice yaC2_0 xr0_0.length ycC2_0, .int .i64 ar0_1] 41 (0, 0)) ∧ bC2 < wx.heap.size ∧ v20.heap.size ≤ bC2 ∧ SlO 89 tVersionS wx KC2_0 (.slice yaC2_0 xr0_0.length ycC2_0) xr0_0 ∧ (∀ q, KC2_0 q → v20.heap.size ≤ q ∧ q < wx.heap.size ∧ q ≠ bC2) ∧ Below v20.heap.size v20 wx)
   case first =>
    have DD := d
    clear d
    replace A0_0 := Lib.hid (slR_below tVersionS_law A0_0.out DD.out)
    replace A1_2 := Lib.hid (slR_below tInt_law A1_2.out DD.out)
    have d := Lib.hid (Below.refl v20.heap.size v20)
    go_wp2
    have p_B0_0 := (cell_of_row v20 _ 0 _ _ _ B0.out).trans (show _ = some (Value.slice c0_0 x0_0.length k0_0) from rfl)
    have p_B0_1 := (cell_of_row v20 _ 1 _ _ _ B0.out).trans (show _ = some (Value.int .i64 a0_1) from rfl)
    have p_B1_0 := (cell_of_row v20 _ 0 _ _ _ B1.out).trans (show _ = some (Value.int .i64 a1_0) from rfl)
    have p_B1_1 := (cell_of_row v20 _ 1 _ _ _ B1.out).trans (show _ = some (Value.int .i64 a1_1) from rfl)
    have p_B1_2 := (cell_of_row v20 _ 2 _ _ _ B1.out).trans (show _ = some (Value.slice c1_2 x1_2.length k1_2) from rfl)
    have p_B1_3 := (cell_of_row v20 _ 3 _ _ _ B1.out).trans (show _ = some (Value.int .i64 a1_3) from rfl)
    have p_B1_4 := (cell_of_row v20 _ 4 _ _ _ B1.out).trans (show _ = some (Value.int .i64 a1_4) from rfl)
    refine wp_region_held_drew (S := fun w' => w'.cell? ⟨w.heap.size, 0, none⟩ = some (Value.slice c0_0 x0_0.length k0_0) ∧ w'.cell? ⟨w.heap.size, 1, none⟩ = some (Value.int .i64 a0_1) ∧ w'.cell? ⟨(w.heap.size + 1), 0, none⟩ = some (Value.int .i64 a1_0) ∧ w'.cell? ⟨(w.heap.size + 1), 1, none⟩ = some (Value.int .i64 a1_1) ∧ w'.cell? ⟨(w.heap.size + 1), 2, none⟩ = some (Value.slice c1_2 x1_2.length k1_2) ∧ w'.cell? ⟨(w.heap.size + 1), 3, none⟩ = some (Value.int .i64 a1_3) ∧ w'.cell? ⟨(w.heap.size + 1), 4, none⟩ = some (Value.int .i64 a1_4)) (by kernel_rfl) ⟨p_B0_0, p_B0_1, p_B1_0, p_B1_1, p_B1_2, p_B1_3, p_B1_4⟩ (fun hHeld => ?_)
    clear p_B0_0 p_B0_1 p_B1_0 p_B1_1 p_B1_2 p_B1_3 p_B1_4
    have cdrC2 : Below v20.heap.size v20 v20.drew := below_drew (Below.refl _ _)
    replace B0 := Lib.hid ((cdrC2.block w.heap.size (Array.getElem?_eq_some_iff.1 B0.out).1).trans B0.out)
    replace B1 := Lib.hid ((cdrC2.block (w.heap.size + 1) (Array.getElem?_eq_some_iff.1 B1.out).1).trans B1.out)
    replace d := Lib.hid (d.out.trans (cdrC2.mono d.out.size))
    clear cdrC2
    have Z_drC2 := Lib.hid (show v20.heap.size ≤ v20.drew.heap.size from Nat.le_refl _)
    generalize v20.drew = WdC2 at *
    refine tR (i := 0) (v := ?_) ?_ ?_; rotate_left
    ·
     intro w hSw; (try dsimp only at hSw); go_simp; try (with_reducible rfl)
    try simp only [Act.put, lA, lB, lC]
    refine tR (i := 2) (v := ?_) ?_ ?_; rotate_left
    ·
     intro w hSw; (try dsimp only at hSw); go_simp; try (with_reducible rfl)
    try simp only [Act.put, lA, lB, lC]
    refine wpAnyH_ready (rs := [1, 8]) (by kernel_rfl) (by simp) ?_
    refine (AllReadyH.cons (o := _) (by simp only [hA, hB, hC]; rfl) (fun K hK => ?_) (AllReadyH.cons (o := _) (by simp only [hA, hB, hC]; rfl) (fun K hK => ?_) AllReadyH.nil))
    ·
     go_simp
     refine (toStore_T a0_1 (.slice c0_0 x0_0.length k0_0) x0_0 WdC2 (slR_below tVersionS_law A0_0.out d.out) S0_0.out).mono ?_
     rintro e v22 ⟨cs, rfl, ow, c22⟩
     replace B0 := Lib.hid ((c22.block w.heap.size (Array.getElem?_eq_some_iff.1 B0.out).1).trans B0.out)
     replace B1 := Lib.hid ((c22.block (w.heap.size + 1) (Array.getElem?_eq_some_iff.1 B1.out).1).trans B1.out)
     replace d := Lib.hid (d.out.trans (c22.mono d.out.size))
     have Z_v22 := Lib.hid (show WdC2.heap.size ≤ v22.heap.size from c22.size)
     clear c22
     replace ow := tStore_law.lt ow
     obtain ⟨y22_0, K22_0, rfl, p22_0, w22_0⟩ := tStore_O ow
     obtain ⟨ya22_0, yc22_0, rfl⟩ := slO_len p22_0
     have P22_0 := Lib.hid p22_0
     have Q22_0 := Lib.hid (fun b h => (show WdC2.heap.size ≤ b ∧ b < v22.heap.size from w22_0 b h))
     clear p22_0 w22_0 ow
     have p_B0_0 := (cell_of_row v22 _ 0 _ _ _ B0.out).trans (show _ = some (Value.slice c0_0 x0_0.length k0_0) from rfl)
     have p_B0_1 := (cell_of_row v22 _ 1 _ _ _ B0.out).trans (show _ = some (Value.int .i64 a0_1) from rfl)
     have p_B1_0 := (cell_of_row v22 _ 0 _ _ _ B1.out).trans (show _ = some (Value.int .i64 a1_0) from rfl)
     have p_B1_1 := (cell_of_row v22 _ 1 _ _ _ B1.out).trans (show _ = some (Value.int .i64 a1_1) from rfl)
     have p_B1_2 := (cell_of_row v22 _ 2 _ _ _ B1.out).trans (show _ = some (Value.slice c1_2 x1_2.length k1_2) from rfl)
     have p_B1_3 := (cell_of_row v22 _ 3 _ _ _ B1.out).trans (show _ = some (Value.int .i64 a1_3) from rfl)
     have p_B1_4 := (cell_of_row v22 _ 4 _ _ _ B1.out).trans (show _ = some (Value.int .i64 a1_4) from rfl)
     refine hK.out _ _ ⟨p_B0_0, p_B0_1, p_B1_0, p_B1_1, p_B1_2, p_B1_3, p_B1_4⟩ (fun hHeld => ?_)
     clear p_B0_0 p_B0_1 p_B1_0 p_B1_1 p_B1_2 p_B1_3 p_B1_4
     clear hK K
     try simp only [Act.put, lA, lB, lC]
     refine wpAnyH_ready (rs := [3, 8]) (by kernel_rfl) (by simp) ?_
     refine (AllReadyH.cons (o := _) (by simp only [hA, hB, hC]; rfl) (fun K hK => ?_) (AllReadyH.cons (o := _) (by simp only [hA, hB, hC]; rfl) (fun K hK => ?_) AllReadyH.nil))
     ·
      go_simp
      refine (toUpdate_T a1_0 a1_1 a1_3 a1_4 (.slice c1_2 x1_2.length k1_2) x1_2 v22 (slR_below tInt_law A1_2.out d.out) S1_2.out).mono ?_
      rintro e v23 ⟨cs, rfl, ow, c23⟩
      replace B0 := Lib.hid ((c23.block w.heap.size (Array.getElem?_eq_some_iff.1 B0.out).1).trans B0.out)
      replace B1 := Lib.hid ((c23.block (w.heap.size + 1) (Array.getElem?_eq_some_iff.1 B1.out).1).trans B1.out)
      replace P22_0 := Lib.hid (slO_fresh tVersionS_law P22_0.out c23)
      replace d := Lib.hid (d.out.trans (c23.mono d.out.size))
      have Z_v23 := Lib.hid (show v22.heap.size ≤ v23.heap.size from c23.size)
      clear c23
      replace ow := tUpdate_law.lt ow
      obtain ⟨y23_2, K23_2, rfl, p23_2, w23_2⟩ := tUpdate_O ow
      obtain ⟨ya23_2, yc23_2, rfl⟩ := slO_len p23_2
      have P23_2 := Lib.hid p23_2
      have Q23_2 := Lib.hid (fun b h => (show v22.heap.size ≤ b ∧ b < v23.heap.size from w23_2 b h))
      clear p23_2 w23_2 ow
      have p_B0_0 := (cell_of_row v23 _ 0 _ _ _ B0.out).trans (show _ = some (Value.slice c0_0 x0_0.length k0_0) from rfl)
      have p_B0_1 := (cell_of_row v23 _ 1 _ _ _ B0.out).trans (show _ = some (Value.int .i64 a0_1) from rfl)
      have p_B1_0 := (cell_of_row v23 _ 0 _ _ _ B1.out).trans (show _ = some (Value.int .i64 a1_0) from rfl)
      have p_B1_1 := (cell_of_row v23 _ 1 _ _ _ B1.out).trans (show _ = some (Value.int .i64 a1_1) from rfl)
      have p_B1_2 := (cell_of_row v23 _ 2 _ _ _ B1.out).trans (show _ = some (Value.slice c1_2 x1_2.length k1_2) from rfl)
      have p_B1_3 := (cell_of_row v23 _ 3 _ _ _ B1.out).trans (show _ = some (Value.int .i64 a1_3) from rfl)
      have p_B1_4 := (cell_of_row v23 _ 4 _ _ _ B1.out).trans (show _ = some (Value.int .i64 a1_4) from rfl)
      refine hK.out _ _ ⟨p_B0_0, p_B0_1, p_B1_0, p_B1_1, p_B1_2, p_B1_3, p_B1_4⟩ (fun hHeld => ?_)
      clear p_B0_0 p_B0_1 p_B1_0 p_B1_1 p_B1_2 p_B1_3 p_B1_4
      clear hK K
      try simp only [Act.put, lA, lB, lC]
      refine wpAnyH_ready (rs := [4, 8]) (by kernel_rfl) (by simp) ?_
      refine (AllReadyH.cons (o := _) (by simp only [hA, hB, hC]; rfl) (fun K hK => ?_) (AllReadyH.cons (o := _) (by simp only [hA, hB, hC]; rfl) (fun K hK => ?_) AllReadyH.nil))
      ·
       go_simp
       refine (HIM.out (.slice ya22_0 x0_0.length yc22_0) (.slice ya23_2 x1_2.length yc23_2) v23 (slO_reads tVersionS_law P22_0.out) (slO_reads tInt_law P23_2.out) HT.out ).mono ?_
       rintro e v24 ⟨g0, G0, rfl, o0, q0, c24⟩
       replace B0 := Lib.hid ((c24.block w.heap.size (Array.getElem?_eq_some_iff.1 B0.out).1).trans B0.out)
       replace B1 := Lib.hid ((c24.block (w.heap.size + 1) (Array.getElem?_eq_some_iff.1 B1.out).1).trans B1.out)
       replace P22_0 := Lib.hid (slO_fresh tVersionS_law P22_0.out c24)
       replace P23_2 := Lib.hid (slO_fresh tInt_law P23_2.out c24)
       replace d := Lib.hid (d.out.trans (c24.mono d.out.size))
       have Z_v24 := Lib.hid (show v23.heap.size ≤ v24.heap.size from c24.size)
       clear c24
       replace o0 := tStore_law.lt o0
       obtain ⟨y24_0, K24_0, rfl, p24_0, w24_0⟩ := tStore_O o0
       obtain ⟨ya24_0, yc24_0, rfl⟩ := slO_len p24_0
       have P24_0 := Lib.hid p24_0
       have Q24_0 := Lib.hid (fun b h => (show v23.heap.size ≤ b ∧ b < v24.heap.size from ⟨q0 b (w24_0 b h).1, (w24_0 b h).2⟩))
       clear p24_0 w24_0 o0 q0
       have p_B0_0 := (cell_of_row v24 _ 0 _ _ _ B0.out).trans (show _ = some (Value.slice c0_0 x0_0.length k0_0) from rfl)
       have p_B0_1 := (cell_of_row v24 _ 1 _ _ _ B0.out).trans (show _ = some (Value.int .i64 a0_1) from rfl)
       have p_B1_0 := (cell_of_row v24 _ 0 _ _ _ B1.out).trans (show _ = some (Value.int .i64 a1_0) from rfl)
       have p_B1_1 := (cell_of_row v24 _ 1 _ _ _ B1.out).trans (show _ = some (Value.int .i64 a1_1) from rfl)
       have p_B1_2 := (cell_of_row v24 _ 2 _ _ _ B1.out).trans (show _ = some (Value.slice c1_2 x1_2.length k1_2) from rfl)
       have p_B1_3 := (cell_of_row v24 _ 3 _ _ _ B1.out).trans (show _ = some (Value.int .i64 a1_3) from rfl)
       have p_B1_4 := (cell_of_row v24 _ 4 _ _ _ B1.out).trans (show _ = some (Value.int .i64 a1_4) from rfl)
       refine hK.out _ _ ⟨p_B0_0, p_B0_1, p_B1_0, p_B1_1, p_B1_2, p_B1_3, p_B1_4⟩ (fun hHeld => ?_)
       clear p_B0_0 p_B0_1 p_B1_0 p_B1_1 p_B1_2 p_B1_3 p_B1_4
       clear hK K
       try simp only [Act.put, lA, lB, lC]
       refine tR (i := 5) (v := ?_) ?_ ?_; rotate_left
       ·
        intro w hSw; (try dsimp only at hSw); go_simp; try (with_reducible rfl)
       try simp only [Act.put, lA, lB, lC]
       refine tR (i := 6) (v := ?_) ?_ ?_; rotate_left
       ·
        intro w hSw; (try dsimp only at hSw); go_simp; try (with_reducible rfl)
       try simp only [Act.put, lA, lB, lC]
       refine tR (i := 7) (v := ?_) ?_ ?_; rotate_left
       ·
        intro w hSw; (try dsimp only at hSw); go_simp; try (with_reducible rfl)
       try simp only [Act.put, lA, lB, lC]
       refine wpAnyH_ready (rs := [8]) (by kernel_rfl) (by simp) ?_
       refine (AllReadyH.cons (o := _) (by simp only [hA, hB, hC]; rfl) (fun K hK => ?_) AllReadyH.nil)
       go_simp
       have hal : Below v24.heap.size v24 (v24.alloc (.cells #[.slice none 0 0, .int .i64 0] 41)) := (Below.refl _ _).alloc (Nat.le_refl _) _
       have XC2 := Lib.hid (heap_alloc_new v24 (.cells #[.slice none 0 0, .int .i64 0] 41))
       have Y_XC2 := Lib.hid (show v24.heap.size < (v24.alloc (.cells #[.slice none 0 0, .int .i64 0] 41)).heap.size by simp [World.size_alloc])
       replace B0 := Lib.hid ((hal.block w.heap.size (Array.getElem?_eq_some_iff.1 B0.out).1).trans B0.out)
       replace B1 := Lib.hid ((hal.block (w.heap.size + 1) (Array.getElem?_eq_some_iff.1 B1.out).1).trans B1.out)
       replace P22_0 := Lib.hid (slO_fresh tVersionS_law P22_0.out hal)
       replace P23_2 := Lib.hid (slO_fresh tInt_law P23_2.out hal)
       replace P24_0 := Lib.hid (slO_fresh tVersionS_law P24_0.out hal)
       replace d := Lib.hid (d.out.trans (hal.mono d.out.size))
       clear hal
       generalize (v24.alloc (.cells #[.slice none 0 0, .int .i64 0] 41)) = v25 at *
       have p_B0_0 := (cell_of_row v25 _ 0 _ _ _ B0.out).trans (show _ = some (Value.slice c0_0 x0_0.length k0_0) from rfl)
       have p_B0_1 := (cell_of_row v25 _ 1 _ _ _ B0.out).trans (show _ = some (Value.int .i64 a0_1) from rfl)
       have p_B1_0 := (cell_of_row v25 _ 0 _ _ _ B1.out).trans (show _ = some (Value.int .i64 a1_0) from rfl)
       have p_B1_1 := (cell_of_row v25 _ 1 _ _ _ B1.out).trans (show _ = some (Value.int .i64 a1_1) from rfl)
       have p_B1_2 := (cell_of_row v25 _ 2 _ _ _ B1.out).trans (show _ = some (Value.slice c1_2 x1_2.length k1_2) from rfl)
       have p_B1_3 := (cell_of_row v25 _ 3 _ _ _ B1.out).trans (show _ = some (Value.int .i64 a1_3) from rfl)
       have p_B1_4 := (cell_of_row v25 _ 4 _ _ _ B1.out).trans (show _ = some (Value.int .i64 a1_4) from rfl)
       refine hK.out _ _ ⟨p_B0_0, p_B0_1, p_B1_0, p_B1_1, p_B1_2, p_B1_3, p_B1_4⟩ (fun hHeld => ?_)
       clear p_B0_0 p_B0_1 p_B1_0 p_B1_1 p_B1_2 p_B1_3 p_B1_4
       clear hK K
       try simp only [Act.put, lA, lB, lC]
       refine wpAnyH_ready (rs := [9]) (by kernel_rfl) (by simp) ?_
       refine (AllReadyH.cons (o := _) (by simp only [hA, hB, hC]; rfl) (fun K hK => ?_) AllReadyH.nil)
       have p_XC2_0 := (cell_of_row v25 _ 0 _ _ _ XC2.out).trans (show _ = some (Value.slice none 0 0) from rfl)
       have p_XC2_1 := (cell_of_row v25 _ 1 _ _ _ XC2.out).trans (show _ = some (Value.int .i64 0) from rfl)
       have f_XC2_0 := frozen_of_row v25 _ 0 _ _ XC2.out
       have f_XC2_1 := frozen_of_row v25 _ 1 _ _ XC2.out
       go_simp
       clear p_XC2_0 p_XC2_1 f_XC2_0 f_XC2_1
       have y0 := Y_W.out
       have y1 := Z_v1.out
       have y2 := Z_v2.out
       have y3 := Z_wC1c.out
       have y4 := Y_XC1.out
       have y5 := Y_XC1d.out
       have y6 := Z_v3.out
       have y7 := Y_X1.out
       have y8 := Z_v5.out
       have y9 := Y_X2.out
       have y10 := Z_v7.out
       have y11 := Y_X3.out
       have y12 := Z_v9.out
       have y13 := Z_v11.out
       have y14 := Z_v12.out
       have y15 := Z_v14.out
       have y16 := Z_v15.out
       have y17 := Z_v16.out
       have y18 := Z_v17.out
       have y19 := Z_v18.out
       have y20 := Z_v19.out
       have y21 := Z_v20.out
       have y22 := Z_drC2.out
       have y23 := Z_v22.out
       have y24 := Z_v23.out
       have y25 := Z_v24.out
       have y26 := Y_XC2.out
       have tt : Turn (fun b => b = v24.heap.size) v25 ((v25.setCell ⟨v24.heap.size, 0, none⟩ (.slice ya24_0 xr0_0.length yc24_0)).setCell ⟨v24.heap.size, 1, none⟩ (.int .i64 ar0_1)) := (((Turn.refl (fun b => b = v24.heap.size) v25).trans (turn_set (G := fun b => b = v24.heap.size) (g := v24.heap.size) (j := 0) (u := .slice ya24_0 xr0_0.length yc24_0) rfl)).trans (turn_set (G := fun b => b = v24.heap.size) (g := v24.heap.size) (j := 1) (u := .int .i64 ar0_1) rfl))
       have r := (heap_setCell_same _ (v24.heap.size) 1 _ _ (.int .i64 ar0_1) (heap_setCell_same v25 (v24.heap.size) 0 _ _ (.slice ya24_0 xr0_0.length yc24_0) XC2.out))
       simp at r
       have yd := d.out.size
       replace B0 := Lib.hid ((tt.block w.heap.size (Array.getElem?_eq_some_iff.1 B0.out).1 (fun h => by omega)).trans B0.out)
       replace B1 := Lib.hid ((tt.block (w.heap.size + 1) (Array.getElem?_eq_some_iff.1 B1.out).1 (fun h => by omega)).trans B1.out)
       replace P22_0 := Lib.hid (slO_turn tVersionS_law P22_0.out tt (fun b h1 h2 => by have r1 := Q22_0.out b h1; omega))
       replace P23_2 := Lib.hid (slO_turn tInt_law P23_2.out tt (fun b h1 h2 => by have r1 := Q23_2.out b h1; omega))
       replace P24_0 := Lib.hid (slO_turn tVersionS_law P24_0.out tt (fun b h1 h2 => by have r1 := Q24_0.out b h1; omega))
       replace d := Lib.hid (below_turn d.out tt (fun b h => by omega) yd)
       replace XC2 : Hid (((v25.setCell ⟨v24.heap.size, 0, none⟩ (.slice ya24_0 xr0_0.length yc24_0)).setCell ⟨v24.heap.size, 1, none⟩ (.int .i64 ar0_1)).heap[v24.heap.size]? = some (.cells #[.slice ya24_0 xr0_0.length yc24_0, .int .i64 ar0_1] 41 (0, 0))) := Lib.hid r
       have Z_v26 := Lib.hid (show v25.heap.size ≤ ((v25.setCell ⟨v24.heap.size, 0, none⟩ (.slice ya24_0 xr0_0.length yc24_0)).setCell ⟨v24.heap.size, 1, none⟩ (.int .i64 ar0_1)).heap.size from tt.size)
       clear tt r yd y0 y1 y2 y3 y4 y5 y6 y7 y8 y9 y10 y11 y12 y13 y14 y15 y16 y17 y18 y19 y20 y21 y22 y23 y24 y25 y26
       generalize ((v25.setCell ⟨v24.heap.size, 0, none⟩ (.slice ya24_0 xr0_0.length yc24_0)).setCell ⟨v24.heap.size, 1, none⟩ (.int .i64 ar0_1)) = v26 at *
       have p_B0_0 := (cell_of_row v26 _ 0 _ _ _ B0.out).trans (show _ = some (Value.slice c0_0 x0_0.length k0_0) from rfl)
       have p_B0_1 := (cell_of_row v26 _ 1 _ _ _ B0.out).trans (show _ = some (Value.int .i64 a0_1) from rfl)
       have p_B1_0 := (cell_of_row v26 _ 0 _ _ _ B1.out).trans (show _ = some (Value.int .i64 a1_0) from rfl)
       have p_B1_1 := (cell_of_row v26 _ 1 _ _ _ B1.out).trans (show _ = some (Value.int .i64 a1_1) from rfl)
       have p_B1_2 := (cell_of_row v26 _ 2 _ _ _ B1.out).trans (show _ = some (Value.slice c1_2 x1_2.length k1_2) from rfl)
       have p_B1_3 := (cell_of_row v26 _ 3 _ _ _ B1.out).trans (show _ = some (Value.int .i64 a1_3) from rfl)
       have p_B1_4 := (cell_of_row v26 _ 4 _ _ _ B1.out).trans (show _ = some (Value.int .i64 a1_4) from rfl)
       refine hK.out _ _ ⟨p_B0_0, p_B0_1, p_B1_0, p_B1_1, p_B1_2, p_B1_3, p_B1_4⟩ (fun hHeld => ?_)
       clear p_B0_0 p_B0_1 p_B1_0 p_B1_1 p_B1_2 p_B1_3 p_B1_4
       clear hK K
       try simp only [Act.put, lA, lB, lC]
       refine tR (i := 10) (v := ?_) ?_ ?_; rotate_left
       ·
        intro w hSw; (try dsimp only at hSw); go_simp; try (with_reducible rfl)
       try simp only [Act.put, lA, lB, lC]
       refine wpAnyH_done (by kernel_rfl) ?_ _
       clear hHeld
       go_wp2
       go_meet
       have y0 := Y_W.out
       have y1 := Z_v1.out
       have y2 := Z_v2.out
       have y3 := Z_wC1c.out
       have y4 := Y_XC1.out
       have y5 := Y_XC1d.out
       have y6 := Z_v3.out
       have y7 := Y_X1.out
       have y8 := Z_v5.out
       have y9 := Y_X2.out
       have y10 := Z_v7.out
       have y11 := Y_X3.out
       have y12 := Z_v9.out
       have y13 := Z_v11.out
       have y14 := Z_v12.out
       have y15 := Z_v14.out
       have y16 := Z_v15.out
       have y17 := Z_v16.out
       have y18 := Z_v17.out
       have y19 := Z_v18.out
       have y20 := Z_v19.out
       have y21 := Z_v20.out
       have y22 := Z_drC2.out
       have y23 := Z_v22.out
       have y24 := Z_v23.out
       have y25 := Z_v24.out
       have y26 := Y_XC2.out
       have y27 := Z_v26.out
       case rel => exact ⟨_, _, _, _, rfl, rfl, XC2.out, (Array.getElem?_eq_some_iff.1 XC2.out).1, (by omega), P24_0.out, (fun q hq => by have r := Q24_0.out q hq; omega), d.out⟩
      ·
       go_simp
       have hal : Below v23.heap.size v23 (v23.alloc (.cells #[.slice none 0 0, .int .i64 0] 41)) := (Below.refl _ _).alloc (Nat.le_refl _) _
       have XC2 := Lib.hid (heap_alloc_new v23 (.cells #[.slice none 0 0, .int .i64 0] 41))
       have Y_XC2 := Lib.hid (show v23.heap.size < (v23.alloc (.cells #[.slice none 0 0, .int .i64 0] 41)).heap.size by simp [World.size_alloc])
       replace B0 := Lib.hid ((hal.block w.heap.size (Array.getElem?_eq_some_iff.1 B0.out).1).trans B0.out)
       replace B1 := Lib.hid ((hal.block (w.heap.size + 1) (Array.getElem?_eq_some_iff.1 B1.out).1).trans B1.out)
       replace P22_0 := Lib.hid (slO_fresh tVersionS_law P22_0.out hal)
       replace P23_2 := Lib.hid (slO_fresh tInt_law P23_2.out hal)
       replace d := Lib.hid (d.out.trans (hal.mono d.out.size))
       clear hal
       generalize (v23.alloc (.cells #[.slice none 0 0, .int .i64 0] 41)) = v24 at *
       have p_B0_0 := (cell_of_row v24 _ 0 _ _ _ B0.out).trans (show _ = some (Value.slice c0_0 x0_0.length k0_0) from rfl)
       have p_B0_1 := (cell_of_row v24 _ 1 _ _ _ B0.out).trans (show _ = some (Value.int .i64 a0_1) from rfl)
       have p_B1_0 := (cell_of_row v24 _ 0 _ _ _ B1.out).trans (show _ = some (Value.int .i64 a1_0) from rfl)
       have p_B1_1 := (cell_of_row v24 _ 1 _ _ _ B1.out).trans (show _ = some (Value.int .i64 a1_1) from rfl)
       have p_B1_2 := (cell_of_row v24 _ 2 _ _ _ B1.out).trans (show _ = some (Value.slice c1_2 x1_2.length k1_2) from rfl)
       have p_B1_3 := (cell_of_row v24 _ 3 _ _ _ B1.out).trans (show _ = some (Value.int .i64 a1_3) from rfl)
       have p_B1_4 := (cell_of_row v24 _ 4 _ _ _ B1.out).trans (show _ = some (Value.int .i64 a1_4) from rfl)
       refine hK.out _ _ ⟨p_B0_0, p_B0_1, p_B1_0, p_B1_1, p_B1_2, p_B1_3, p_B1_4⟩ (fun hHeld => ?_)
       clear p_B0_0 p_B0_1 p_B1_0 p_B1_1 p_B1_2 p_B1_3 p_B1_4
       clear hK K
       try simp only [Act.put, lA, lB, lC]
       refine wpAnyH_ready (rs := [4]) (by kernel_rfl) (by simp) ?_
       refine (AllReadyH.cons (o := _) (by simp only [hA, hB, hC]; rfl) (fun K hK => ?_) AllReadyH.nil)
       go_simp
       refine (HIM.out (.slice ya22_0 x0_0.length yc22_0) (.slice ya23_2 x1_2.length yc23_2) v24 (slO_reads tVersionS_law P22_0.out) (slO_reads tInt_law P23_2.out) HT.out ).mono ?_
       rintro e v25 ⟨g0, G0, rfl, o0, q0, c25⟩
       replace B0 := Lib.hid ((c25.block w.heap.size (Array.getElem?_eq_some_iff.1 B0.out).1).trans B0.out)
       replace B1 := Lib.hid ((c25.block (w.heap.size + 1) (Array.getElem?_eq_some_iff.1 B1.out).1).trans B1.out)
       replace XC2 := Lib.hid ((c25.block v23.heap.size (Array.getElem?_eq_some_iff.1 XC2.out).1).trans XC2.out)
       replace P22_0 := Lib.hid (slO_fresh tVersionS_law P22_0.out c25)
       replace P23_2 := Lib.hid (slO_fresh tInt_law P23_2.out c25)
       replace d := Lib.hid (d.out.trans (c25.mono d.out.size))
       have Z_v25 := Lib.hid (show v24.heap.size ≤ v25.heap.size from c25.size)
       clear c25
       replace o0 := tStore_law.lt o0
       obtain ⟨y25_0, K25_0, rfl, p25_0, w25_0⟩ := tStore_O o0
       obtain ⟨ya25_0, yc25_0, rfl⟩ := slO_len p25_0
       have P25_0 := Lib.hid p25_0
       have Q25_0 := Lib.hid (fun b h => (show v24.heap.size ≤ b ∧ b < v25.heap.size from ⟨q0 b (w25_0 b h).1, (w25_0 b h).2⟩))
       clear p25_0 w25_0 o0 q0
       have p_B0_0 := (cell_of_row v25 _ 0 _ _ _ B0.out).trans (show _ = some (Value.slice c0_0 x0_0.length k0_0) from rfl)
       have p_B0_1 := (cell_of_row v25 _ 1 _ _ _ B0.out).trans (show _ = some (Value.int .i64 a0_1) from rfl)
       have p_B1_0 := (cell_of_row v25 _ 0 _ _ _ B1.out).trans (show _ = some (Value.int .i64 a1_0) from rfl)
       have p_B1_1 := (cell_of_row v25 _ 1 _ _ _ B1.out).trans (show _ = some (Value.int .i64 a1_1) from rfl)
       have p_B1_2 := (cell_of_row v25 _ 2 _ _ _ B1.out).trans (show _ = some (Value.slice c1_2 x1_2.length k1_2) from rfl)
       have p_B1_3 := (cell_of_row v25 _ 3 _ _ _ B1.out).trans (show _ = some (Value.int .i64 a1_3) from rfl)
       have p_B1_4 := (cell_of_row v25 _ 4 _ _ _ B1.out).trans (show _ = some (Value.int .i64 a1_4) from rfl)
       refine hK.out _ _ ⟨p_B0_0, p_B0_1, p_B1_0, p_B1_1, p_B1_2, p_B1_3, p_B1_4⟩ (fun hHeld => ?_)
       clear p_B0_0 p_B0_1 p_B1_0 p_B1_1 p_B1_2 p_B1_3 p_B1_4
       clear hK K
       try simp only [Act.put, lA, lB, lC]
       refine tR (i := 5) (v := ?_) ?_ ?_; rotate_left
       ·
        intro w hSw; (try dsimp only at hSw); go_simp; try (with_reducible rfl)
       try simp only [Act.put, lA, lB, lC]
       refine tR (i := 6) (v := ?_) ?_ ?_; rotate_left
       ·
        intro w hSw; (try dsimp only at hSw); go_simp; try (with_reducible rfl)
       try simp only [Act.put, lA, lB, lC]
       refine tR (i := 7) (v := ?_) ?_ ?_; rotate_left
       ·
        intro w hSw; (try dsimp only at hSw); go_simp; try (with_reducible rfl)
       try simp only [Act.put, lA, lB, lC]
       refine wpAnyH_ready (rs := [9]) (by kernel_rfl) (by simp) ?_
       refine (AllReadyH.cons (o := _) (by simp only [hA, hB, hC]; rfl) (fun K hK => ?_) AllReadyH.nil)
       have p_XC2_0 := (cell_of_row v25 _ 0 _ _ _ XC2.out).trans (show _ = some (Value.slice none 0 0) from rfl)
       have p_XC2_1 := (cell_of_row v25 _ 1 _ _ _ XC2.out).trans (show _ = some (Value.int .i64 0) from rfl)
       have f_XC2_0 := frozen_of_row v25 _ 0 _ _ XC2.out
       have f_XC2_1 := frozen_of_row v25 _ 1 _ _ XC2.out
       go_simp
       clear p_XC2_0 p_XC2_1 f_XC2_0 f_XC2_1
       have y0 := Y_W.out
       have y1 := Z_v1.out
       have y2 := Z_v2.out
       have y3 := Z_wC1c.out
       have y4 := Y_XC1.out
       have y5 := Y_XC1d.out
       have y6 := Z_v3.out
       have y7 := Y_X1.out
       have y8 := Z_v5.out
       have y9 := Y_X2.out
       have y10 := Z_v7.out
       have y11 := Y_X3.out
       have y12 := Z_v9.out
       have y13 := Z_v11.out
       have y14 := Z_v12.out
       have y15 := Z_v14.out
       have y16 := Z_v15.out
       have y17 := Z_v16.out
       have y18 := Z_v17.out
       have y19 := Z_v18.out
       have y20 := Z_v19.out
       have y21 := Z_v20.out
       have y22 := Z_drC2.out
       have y23 := Z_v22.out
       have y24 := Z_v23.out
       have y25 := Y_XC2.out
       have y26 := Z_v25.out
       have tt : Turn (fun b => b = v23.heap.size) v25 ((v25.setCell ⟨v23.heap.size, 0, none⟩ (.slice ya25_0 xr0_0.length yc25_0)).setCell ⟨v23.heap.size, 1, none⟩ (.int .i64 ar0_1)) := (((Turn.refl (fun b => b = v23.heap.size) v25).trans (turn_set (G := fun b => b = v23.heap.size) (g := v23.heap.size) (j := 0) (u := .slice ya25_0 xr0_0.length yc25_0) rfl)).trans (turn_set (G := fun b => b = v23.heap.size) (g := v23.heap.size) (j := 1) (u := .int .i64 ar0_1) rfl))
       have r := (heap_setCell_same _ (v23.heap.size) 1 _ _ (.int .i64 ar0_1) (heap_setCell_same v25 (v23.heap.size) 0 _ _ (.slice ya25_0 xr0_0.length yc25_0) XC2.out))
       simp at r
       have yd := d.out.size
       replace B0 := Lib.hid ((tt.block w.heap.size (Array.getElem?_eq_some_iff.1 B0.out).1 (fun h => by omega)).trans B0.out)
       replace B1 := Lib.hid ((tt.block (w.heap.size + 1) (Array.getElem?_eq_some_iff.1 B1.out).1 (fun h => by omega)).trans B1.out)
       replace P22_0 := Lib.hid (slO_turn tVersionS_law P22_0.out tt (fun b h1 h2 => by have r1 := Q22_0.out b h1; omega))
       replace P23_2 := Lib.hid (slO_turn tInt_law P23_2.out tt (fun b h1 h2 => by have r1 := Q23_2.out b h1; omega))
       replace P25_0 := Lib.hid (slO_turn tVersionS_law P25_0.out tt (fun b h1 h2 => by have r1 := Q25_0.out b h1; omega))
       replace d := Lib.hid (below_turn d.out tt (fun b h => by omega) yd)
       replace XC2 : Hid (((v25.setCell ⟨v23.heap.size, 0, none⟩ (.slice ya25_0 xr0_0.length yc25_0)).setCell ⟨v23.heap.size, 1, none⟩ (.int .i64 ar0_1)).heap[v23.heap.size]? = some (.cells #[.slice ya25_0 xr0_0.length yc25_0, .int .i64 ar0_1] 41 (0, 0))) := Lib.hid r
       have Z_v26 := Lib.hid (show v25.heap.size ≤ ((v25.setCell ⟨v23.heap.size, 0, none⟩ (.slice ya25_0 xr0_0.length yc25_0)).setCell ⟨v23.heap.size, 1, none⟩ (.int .i64 ar0_1)).heap.size from tt.size)
       clear tt r yd y0 y1 y2 y3 y4 y5 y6 y7 y8 y9 y10 y11 y12 y13 y14 y15 y16 y17 y18 y19 y20 y21 y22 y23 y24 y25 y26
       generalize ((v25.setCell ⟨v23.heap.size, 0, none⟩ (.slice ya25_0 xr0_0.length yc25_0)).setCell ⟨v23.heap.size, 1, none⟩ (.int .i64 ar0_1)) = v26 at *
       have p_B0_0 := (cell_of_row v26 _ 0 _ _ _ B0.out).trans (show _ = some (Value.slice c0_0 x0_0.length k0_0) from rfl)
       have p_B0_1 := (cell_of_row v26 _ 1 _ _ _ B0.out).trans (show _ = some (Value.int .i64 a0_1) from rfl)
       have p_B1_0 := (cell_of_row v26 _ 0 _ _ _ B1.out).trans (show _ = some (Value.int .i64 a1_0) from rfl)
       have p_B1_1 := (cell_of_row v26 _ 1 _ _ _ B1.out).trans (show _ = some (Value.int .i64 a1_1) from rfl)
       have p_B1_2 := (cell_of_row v26 _ 2 _ _ _ B1.out).trans (show _ = some (Value.slice c1_2 x1_2.length k1_2) from rfl)
       have p_B1_3 := (cell_of_row v26 _ 3 _ _ _ B1.out).trans (show _ = some (Value.int .i64 a1_3) from rfl)
       have p_B1_4 := (cell_of_row v26 _ 4 _ _ _ B1.out).trans (show _ = some (Value.int .i64 a1_4) from rfl)
       refine hK.out _ _ ⟨p_B0_0, p_B0_1, p_B1_0, p_B1_1, p_B1_2, p_B1_3, p_B1_4⟩ (fun hHeld => ?_)
       clear p_B0_0 p_B0_1 p_B1_0 p_B1_1 p_B1_2 p_B1_3 p_B1_4
       clear hK K
       try simp only [Act.put, lA, lB, lC]
       refine tR (i := 10) (v := ?_) ?_ ?_; rotate_left
       ·
        intro w hSw; (try dsimp only at hSw); go_simp; try (with_reducible rfl)
       try simp only [Act.put, lA, lB, lC]
       refine wpAnyH_done (by kernel_rfl) ?_ _
       clear hHeld
       go_wp2
       go_meet
       have y0 := Y_W.out
       have y1 := Z_v1.out
       have y2 := Z_v2.out
       have y3 := Z_wC1c.out
       have y4 := Y_XC1.out
       have y5 := Y_XC1d.out
       have y6 := Z_v3.out
       have y7 := Y_X1.out
       have y8 := Z_v5.out
       have y9 := Y_X2.out
       have y10 := Z_v7.out
       have y11 := Y_X3.out
       have y12 := Z_v9.out
       have y13 := Z_v11.out
       have y14 := Z_v12.out
       have y15 := Z_v14.out
       have y16 := Z_v15.out
       have y17 := Z_v16.out
       have y18 := Z_v17.out
       have y19 := Z_v18.out
       have y20 := Z_v19.out
       have y21 := Z_v20.out
       have y22 := Z_drC2.out
       have y23 := Z_v22.out
       have y24 := Z_v23.out
       have y25 := Y_XC2.out
       have y26 := Z_v25.out
       have y27 := Z_v26.out
       case rel => exact ⟨_, _, _, _, rfl, rfl, XC2.out, (Array.getElem?_eq_some_iff.1 XC2.out).1, (by omega), P25_0.out, (fun q hq => by have r := Q25_0.out q hq; omega), d.out⟩
     ·
      go_simp
      have hal : Below v22.heap.size v22 (v22.alloc (.cells #[.slice none 0 0, .int .i64 0] 41)) := (Below.refl _ _).alloc (Nat.le_refl _) _
      have XC2 := Lib.hid (heap_alloc_new v22 (.cells #[.slice none 0 0, .int .i64 0] 41))
      have Y_XC2 := Lib.hid (show v22.heap.size < (v22.alloc (.cells #[.slice none 0 0, .int .i64 0] 41)).heap.size by simp [World.size_alloc])
      replace B0 := Lib.hid ((hal.block w.heap.size (Array.getElem?_eq_some_iff.1 B0.out).1).trans B0.out)
      replace B1 := Lib.hid ((hal.block (w.heap.size + 1) (Array.getElem?_eq_some_iff.1 B1.out).1).trans B1.out)
      replace P22_0 := Lib.hid (slO_fresh tVersionS_law P22_0.out hal)
      replace d := Lib.hid (d.out.trans (hal.mono d.out.size))
      clear hal
      generalize (v22.alloc (.cells #[.slice none 0 0, .int .i64 0] 41)) = v23 at *
      have p_B0_0 := (cell_of_row v23 _ 0 _ _ _ B0.out).trans (show _ = some (Value.slice c0_0 x0_0.length k0_0) from rfl)
      have p_B0_1 := (cell_of_row v23 _ 1 _ _ _ B0.out).trans (show _ = some (Value.int .i64 a0_1) from rfl)
      have p_B1_0 := (cell_of_row v23 _ 0 _ _ _ B1.out).trans (show _ = some (Value.int .i64 a1_0) from rfl)
      have p_B1_1 := (cell_of_row v23 _ 1 _ _ _ B1.out).trans (show _ = some (Value.int .i64 a1_1) from rfl)
      have p_B1_2 := (cell_of_row v23 _ 2 _ _ _ B1.out).trans (show _ = some (Value.slice c1_2 x1_2.length k1_2) from rfl)
      have p_B1_3 := (cell_of_row v23 _ 3 _ _ _ B1.out).trans (show _ = some (Value.int .i64 a1_3) from rfl)
      have p_B1_4 := (cell_of_row v23 _ 4 _ _ _ B1.out).trans (show _ = some (Value.int .i64 a1_4) from rfl)
      refine hK.out _ _ ⟨p_B0_0, p_B0_1, p_B1_0, p_B1_1, p_B1_2, p_B1_3, p_B1_4⟩ (fun hHeld => ?_)
      clear p_B0_0 p_B0_1 p_B1_0 p_B1_1 p_B1_2 p_B1_3 p_B1_4
      clear hK K
      try simp only [Act.put, lA, lB, lC]
      refine wpAnyH_ready (rs := [3]) (by kernel_rfl) (by simp) ?_
      refine (AllReadyH.cons (o := _) (by simp only [hA, hB, hC]; rfl) (fun K hK => ?_) AllReadyH.nil)
      go_simp
      refine (toUpdate_T a1_0 a1_1 a1_3 a1_4 (.slice c1_2 x1_2.length k1_2) x1_2 v23 (slR_below tInt_law A1_2.out d.out) S1_2.out).mono ?_
      rintro e v24 ⟨cs, rfl, ow, c24⟩
      replace B0 := Lib.hid ((c24.block w.heap.size (Array.getElem?_eq_some_iff.1 B0.out).1).trans B0.out)
      replace B1 := Lib.hid ((c24.block (w.heap.size + 1) (Array.getElem?_eq_some_iff.1 B1.out).1).trans B1.out)
      replace XC2 := Lib.hid ((c24.block v22.heap.size (Array.getElem?_eq_some_iff.1 XC2.out).1).trans XC2.out)
      replace P22_0 := Lib.hid (slO_fresh tVersionS_law P22_0.out c24)
      replace d := Lib.hid (d.out.trans (c24.mono d.out.size))
      have Z_v24 := Lib.hid (show v23.heap.size ≤ v24.heap.size from c24.size)
      clear c24
      replace ow := tUpdate_law.lt ow
      obtain ⟨y24_2, K24_2, rfl, p24_2, w24_2⟩ := tUpdate_O ow
      obtain ⟨ya24_2, yc24_2, rfl⟩ := slO_len p24_2
      have P24_2 := Lib.hid p24_2
      have Q24_2 := Lib.hid (fun b h => (show v23.heap.size ≤ b ∧ b < v24.heap.size from w24_2 b h))
      clear p24_2 w24_2 ow
      have p_B0_0 := (cell_of_row v24 _ 0 _ _ _ B0.out).trans (show _ = some (Value.slice c0_0 x0_0.length k0_0) from rfl)
      have p_B0_1 := (cell_of_row v24 _ 1 _ _ _ B0.out).trans (show _ = some (Value.int .i64 a0_1) from rfl)
      have p_B1_0 := (cell_of_row v24 _ 0 _ _ _ B1.out).trans (show _ = some (Value.int .i64 a1_0) from rfl)
      have p_B1_1 := (cell_of_row v24 _ 1 _ _ _ B1.out).trans (show _ = some (Value.int .i64 a1_1) from rfl)
      have p_B1_2 := (cell_of_row v24 _ 2 _ _ _ B1.out).trans (show _ = some (Value.slice c1_2 x1_2.length k1_2) from rfl)
      have p_B1_3 := (cell_of_row v24 _ 3 _ _ _ B1.out).trans (show _ = some (Value.int .i64 a1_3) from rfl)
      have p_B1_4 := (cell_of_row v24 _ 4 _ _ _ B1.out).trans (show _ = some (Value.int .i64 a1_4) from rfl)
      refine hK.out _ _ ⟨p_B0_0, p_B0_1, p_B1_0, p_B1_1, p_B1_2, p_B1_3, p_B1_4⟩ (fun hHeld => ?_)
      clear p_B0_0 p_B0_1 p_B1_0 p_B1_1 p_B1_2 p_B1_3 p_B1_4
      clear hK K
      try simp only [Act.put, lA, lB, lC]
      refine wpAnyH_ready (rs := [4]) (by kernel_rfl) (by simp) ?_
      refine (AllReadyH.cons (o := _) (by simp only [hA, hB, hC]; rfl) (fun K hK => ?_) AllReadyH.nil)
      go_simp
      refine (HIM.out (.slice ya22_0 x0_0.length yc22_0) (.slice ya24_2 x1_2.length yc24_2) v24 (slO_reads tVersionS_law P22_0.out) (slO_reads tInt_law P24_2.out) HT.out ).mono ?_
      rintro e v25 ⟨g0, G0, rfl, o0, q0, c25⟩
      replace B0 := Lib.hid ((c25.block w.heap.size (Array.getElem?_eq_some_iff.1 B0.out).1).trans B0.out)
      replace B1 := Lib.hid ((c25.block (w.heap.size + 1) (Array.getElem?_eq_some_iff.1 B1.out).1).trans B1.out)
      replace XC2 := Lib.hid ((c25.block v22.heap.size (Array.getElem?_eq_some_iff.1 XC2.out).1).trans XC2.out)
      replace P22_0 := Lib.hid (slO_fresh tVersionS_law P22_0.out c25)
      replace P24_2 := Lib.hid (slO_fresh tInt_law P24_2.out c25)
      replace d := Lib.hid (d.out.trans (c25.mono d.out.size))
      have Z_v25 := Lib.hid (show v24.heap.size ≤ v25.heap.size from c25.size)
      clear c25
      replace o0 := tStore_law.lt o0
      obtain ⟨y25_0, K25_0, rfl, p25_0, w25_0⟩ := tStore_O o0
      obtain ⟨ya25_0, yc25_0, rfl⟩ := slO_len p25_0
      have P25_0 := Lib.hid p25_0
      have Q25_0 := Lib.hid (fun b h => (show v24.heap.size ≤ b ∧ b < v25.heap.size from ⟨q0 b (w25_0 b h).1, (w25_0 b h).2⟩))
      clear p25_0 w25_0 o0 q0
      have p_B0_0 := (cell_of_row v25 _ 0 _ _ _ B0.out).trans (show _ = some (Value.slice c0_0 x0_0.length k0_0) from rfl)
      have p_B0_1 := (cell_of_row v25 _ 1 _ _ _ B0.out).trans (show _ = some (Value.int .i64 a0_1) from rfl)
      have p_B1_0 := (cell_of_row v25 _ 0 _ _ _ B1.out).trans (show _ = some (Value.int .i64 a1_0) from rfl)
      have p_B1_1 := (cell_of_row v25 _ 1 _ _ _ B1.out).trans (show _ = some (Value.int .i64 a1_1) from rfl)
      have p_B1_2 := (cell_of_row v25 _ 2 _ _ _ B1.out).trans (show _ = some (Value.slice c1_2 x1_2.length k1_2) from rfl)
      have p_B1_3 := (cell_of_row v25 _ 3 _ _ _ B1.out).trans (show _ = some (Value.int .i64 a1_3) from rfl)
      have p_B1_4 := (cell_of_row v25 _ 4 _ _ _ B1.out).trans (show _ = some (Value.int .i64 a1_4) from rfl)
      refine hK.out _ _ ⟨p_B0_0, p_B0_1, p_B1_0, p_B1_1, p_B1_2, p_B1_3, p_B1_4⟩ (fun hHeld => ?_)
      clear p_B0_0 p_B0_1 p_B1_0 p_B1_1 p_B1_2 p_B1_3 p_B1_4
      clear hK K
      try simp only [Act.put, lA, lB, lC]
      refine tR (i := 5) (v := ?_) ?_ ?_; rotate_left
      ·
       intro w hSw; (try dsimp only at hSw); go_simp; try (with_reducible rfl)
      try simp only [Act.put, lA, lB, lC]
      refine tR (i := 6) (v := ?_) ?_ ?_; rotate_left
      ·
       intro w hSw; (try dsimp only at hSw); go_simp; try (with_reducible rfl)
      try simp only [Act.put, lA, lB, lC]
      refine tR (i := 7) (v := ?_) ?_ ?_; rotate_left
      ·
       intro w hSw; (try dsimp only at hSw); go_simp; try (with_reducible rfl)
      try simp only [Act.put, lA, lB, lC]
      refine wpAnyH_ready (rs := [9]) (by kernel_rfl) (by simp) ?_
      refine (AllReadyH.cons (o := _) (by simp only [hA, hB, hC]; rfl) (fun K hK => ?_) AllReadyH.nil)
      have p_XC2_0 := (cell_of_row v25 _ 0 _ _ _ XC2.out).trans (show _ = some (Value.slice none 0 0) from rfl)
      have p_XC2_1 := (cell_of_row v25 _ 1 _ _ _ XC2.out).trans (show _ = some (Value.int .i64 0) from rfl)
      have f_XC2_0 := frozen_of_row v25 _ 0 _ _ XC2.out
      have f_XC2_1 := frozen_of_row v25 _ 1 _ _ XC2.out
      go_simp
      clear p_XC2_0 p_XC2_1 f_XC2_0 f_XC2_1
      have y0 := Y_W.out
      have y1 := Z_v1.out
      have y2 := Z_v2.out
      have y3 := Z_wC1c.out
      have y4 := Y_XC1.out
      have y5 := Y_XC1d.out
      have y6 := Z_v3.out
      have y7 := Y_X1.out
      have y8 := Z_v5.out
      have y9 := Y_X2.out
      have y10 := Z_v7.out
      have y11 := Y_X3.out
      have y12 := Z_v9.out
      have y13 := Z_v11.out
      have y14 := Z_v12.out
      have y15 := Z_v14.out
      have y16 := Z_v15.out
      have y17 := Z_v16.out
      have y18 := Z_v17.out
      have y19 := Z_v18.out
      have y20 := Z_v19.out
      have y21 := Z_v20.out
      have y22 := Z_drC2.out
      have y23 := Z_v22.out
      have y24 := Y_XC2.out
      have y25 := Z_v24.out
      have y26 := Z_v25.out
      have tt : Turn (fun b => b = v22.heap.size) v25 ((v25.setCell ⟨v22.heap.size, 0, none⟩ (.slice ya25_0 xr0_0.length yc25_0)).setCell ⟨v22.heap.size, 1, none⟩ (.int .i64 ar0_1)) := (((Turn.refl (fun b => b = v22.heap.size) v25).trans (turn_set (G := fun b => b = v22.heap.size) (g := v22.heap.size) (j := 0) (u := .slice ya25_0 xr0_0.length yc25_0) rfl)).trans (turn_set (G := fun b => b = v22.heap.size) (g := v22.heap.size) (j := 1) (u := .int .i64 ar0_1) rfl))
      have r := (heap_setCell_same _ (v22.heap.size) 1 _ _ (.int .i64 ar0_1) (heap_setCell_same v25 (v22.heap.size) 0 _ _ (.slice ya25_0 xr0_0.length yc25_0) XC2.out))
      simp at r
      have yd := d.out.size
      replace B0 := Lib.hid ((tt.block w.heap.size (Array.getElem?_eq_some_iff.1 B0.out).1 (fun h => by omega)).trans B0.out)
      replace B1 := Lib.hid ((tt.block (w.heap.size + 1) (Array.getElem?_eq_some_iff.1 B1.out).1 (fun h => by omega)).trans B1.out)
      replace P22_0 := Lib.hid (slO_turn tVersionS_law P22_0.out tt (fun b h1 h2 => by have r1 := Q22_0.out b h1; omega))
      replace P24_2 := Lib.hid (slO_turn tInt_law P24_2.out tt (fun b h1 h2 => by have r1 := Q24_2.out b h1; omega))
      replace P25_0 := Lib.hid (slO_turn tVersionS_law P25_0.out tt (fun b h1 h2 => by have r1 := Q25_0.out b h1; omega))
      replace d := Lib.hid (below_turn d.out tt (fun b h => by omega) yd)
      replace XC2 : Hid (((v25.setCell ⟨v22.heap.size, 0, none⟩ (.slice ya25_0 xr0_0.length yc25_0)).setCell ⟨v22.heap.size, 1, none⟩ (.int .i64 ar0_1)).heap[v22.heap.size]? = some (.cells #[.slice ya25_0 xr0_0.length yc25_0, .int .i64 ar0_1] 41 (0, 0))) := Lib.hid r
      have Z_v26 := Lib.hid (show v25.heap.size ≤ ((v25.setCell ⟨v22.heap.size, 0, none⟩ (.slice ya25_0 xr0_0.length yc25_0)).setCell ⟨v22.heap.size, 1, none⟩ (.int .i64 ar0_1)).heap.size from tt.size)
      clear tt r yd y0 y1 y2 y3 y4 y5 y6 y7 y8 y9 y10 y11 y12 y13 y14 y15 y16 y17 y18 y19 y20 y21 y22 y23 y24 y25 y26
      generalize ((v25.setCell ⟨v22.heap.size, 0, none⟩ (.slice ya25_0 xr0_0.length yc25_0)).setCell ⟨v22.heap.size, 1, none⟩ (.int .i64 ar0_1)) = v26 at *
      have p_B0_0 := (cell_of_row v26 _ 0 _ _ _ B0.out).trans (show _ = some (Value.slice c0_0 x0_0.length k0_0) from rfl)
      have p_B0_1 := (cell_of_row v26 _ 1 _ _ _ B0.out).trans (show _ = some (Value.int .i64 a0_1) from rfl)
      have p_B1_0 := (cell_of_row v26 _ 0 _ _ _ B1.out).trans (show _ = some (Value.int .i64 a1_0) from rfl)
      have p_B1_1 := (cell_of_row v26 _ 1 _ _ _ B1.out).trans (show _ = some (Value.int .i64 a1_1) from rfl)
      have p_B1_2 := (cell_of_row v26 _ 2 _ _ _ B1.out).trans (show _ = some (Value.slice c1_2 x1_2.length k1_2) from rfl)
      have p_B1_3 := (cell_of_row v26 _ 3 _ _ _ B1.out).trans (show _ = some (Value.int .i64 a1_3) from rfl)
      have p_B1_4 := (cell_of_row v26 _ 4 _ _ _ B1.out).trans (show _ = some (Value.int .i64 a1_4) from rfl)
      refine hK.out _ _ ⟨p_B0_0, p_B0_1, p_B1_0, p_B1_1, p_B1_2, p_B1_3, p_B1_4⟩ (fun hHeld => ?_)
      clear p_B0_0 p_B0_1 p_B1_0 p_B1_1 p_B1_2 p_B1_3 p_B1_4
      clear hK K
      try simp only [Act.put, lA, lB, lC]
      refine tR (i := 10) (v := ?_) ?_ ?_; rotate_left
      ·
       intro w hSw; (try dsimp only at hSw); go_simp; try (with_reducible rfl)
      try simp only [Act.put, lA, lB, lC]
      refine wpAnyH_done (by kernel_rfl) ?_ _
      clear hHeld
      go_wp2
      go_meet
      have y0 := Y_W.out
      have y1 := Z_v1.out
      have y2 := Z_v2.out
      have y3 := Z_wC1c.out
      have y4 := Y_XC1.out
      have y5 := Y_XC1d.out
      have y6 := Z_v3.out
      have y7 := Y_X1.out
      have y8 := Z_v5.out
      have y9 := Y_X2.out
      have y10 := Z_v7.out
      have y11 := Y_X3.out
      have y12 := Z_v9.out
      have y13 := Z_v11.out
      have y14 := Z_v12.out
      have y15 := Z_v14.out
      have y16 := Z_v15.out
      have y17 := Z_v16.out
      have y18 := Z_v17.out
      have y19 := Z_v18.out
      have y20 := Z_v19.out
      have y21 := Z_v20.out
      have y22 := Z_drC2.out
      have y23 := Z_v22.out
      have y24 := Y_XC2.out
      have y25 := Z_v24.out
      have y26 := Z_v25.out
      have y27 := Z_v26.out
      case rel => exact ⟨_, _, _, _, rfl, rfl, XC2.out, (Array.getElem?_eq_some_iff.1 XC2.out).1, (by omega), P25_0.out, (fun q hq => by have r := Q25_0.out q hq; omega), d.out⟩
    ·
     go_simp
     have hal : Below WdC2.heap.size WdC2 (WdC2.alloc (.cells #[.slice none 0 0, .int .i64 0] 41)) := (Below.refl _ _).alloc (Nat.le_refl _) _
     have XC2 := Lib.hid (heap_alloc_new WdC2 (.cells #[.slice none 0 0, .int .i64 0] 41))
     have Y_XC2 := Lib.hid (show WdC2.heap.size < (WdC2.alloc (.cells #[.slice none 0 0, .int .i64 0] 41)).heap.size by simp [World.size_alloc])
     replace B0 := Lib.hid ((hal.block w.heap.size (Array.getElem?_eq_some_iff.1 B0.out).1).trans B0.out)
     replace B1 := Lib.hid ((hal.block (w.heap.size + 1) (Array.getElem?_eq_some_iff.1 B1.out).1).trans B1.out)
     replace d := Lib.hid (d.out.trans (hal.mono d.out.size))
     clear hal
     generalize (WdC2.alloc (.cells #[.slice none 0 0, .int .i64 0] 41)) = v22 at *
     have p_B0_0 := (cell_of_row v22 _ 0 _ _ _ B0.out).trans (show _ = some (Value.slice c0_0 x0_0.length k0_0) from rfl)
     have p_B0_1 := (cell_of_row v22 _ 1 _ _ _ B0.out).trans (show _ = some (Value.int .i64 a0_1) from rfl)
     have p_B1_0 := (cell_of_row v22 _ 0 _ _ _ B1.out).trans (show _ = some (Value.int .i64 a1_0) from rfl)
     have p_B1_1 := (cell_of_row v22 _ 1 _ _ _ B1.out).trans (show _ = some (Value.int .i64 a1_1) from rfl)
     have p_B1_2 := (cell_of_row v22 _ 2 _ _ _ B1.out).trans (show _ = some (Value.slice c1_2 x1_2.length k1_2) from rfl)
     have p_B1_3 := (cell_of_row v22 _ 3 _ _ _ B1.out).trans (show _ = some (Value.int .i64 a1_3) from rfl)
     have p_B1_4 := (cell_of_row v22 _ 4 _ _ _ B1.out).trans (show _ = some (Value.int .i64 a1_4) from rfl)
     refine hK.out _ _ ⟨p_B0_0, p_B0_1, p_B1_0, p_B1_1, p_B1_2, p_B1_3, p_B1_4⟩ (fun hHeld => ?_)
     clear p_B0_0 p_B0_1 p_B1_0 p_B1_1 p_B1_2 p_B1_3 p_B1_4
     clear hK K
     try simp only [Act.put, lA, lB, lC]
     refine wpAnyH_ready (rs := [1]) (by kernel_rfl) (by simp) ?_
     refine (AllReadyH.cons (o := _) (by simp only [hA, hB, hC]; rfl) (fun K hK => ?_) AllReadyH.nil)
     go_simp
     refine (toStore_T a0_1 (.slice c0_0 x0_0.length k0_0) x0_0 v22 (slR_below tVersionS_law A0_0.out d.out) S0_0.out).mono ?_
     rintro e v23 ⟨cs, rfl, ow, c23⟩
     replace B0 := Lib.hid ((c23.block w.heap.size (Array.getElem?_eq_some_iff.1 B0.out).1).trans B0.out)
     replace B1 := Lib.hid ((c23.block (w.heap.size + 1) (Array.getElem?_eq_some_iff.1 B1.out).1).trans B1.out)
     replace XC2 := Lib.hid ((c23.block WdC2.heap.size (Array.getElem?_eq_some_iff.1 XC2.out).1).trans XC2.out)
     replace d := Lib.hid (d.out.trans (c23.mono d.out.size))
     have Z_v23 := Lib.hid (show v22.heap.size ≤ v23.heap.size from c23.size)
     clear c23
     replace ow := tStore_law.lt ow
     obtain ⟨y23_0, K23_0, rfl, p23_0, w23_0⟩ := tStore_O ow
     obtain ⟨ya23_0, yc23_0, rfl⟩ := slO_len p23_0
     have P23_0 := Lib.hid p23_0
     have Q23_0 := Lib.hid (fun b h => (show v22.heap.size ≤ b ∧ b < v23.heap.size from w23_0 b h))
     clear p23_0 w23_0 ow
     have p_B0_0 := (cell_of_row v23 _ 0 _ _ _ B0.out).trans (show _ = some (Value.slice c0_0 x0_0.length k0_0) from rfl)
     have p_B0_1 := (cell_of_row v23 _ 1 _ _ _ B0.out).trans (show _ = some (Value.int .i64 a0_1) from rfl)
     have p_B1_0 := (cell_of_row v23 _ 0 _ _ _ B1.out).trans (show _ = some (Value.int .i64 a1_0) from rfl)
     have p_B1_1 := (cell_of_row v23 _ 1 _ _ _ B1.out).trans (show _ = some (Value.int .i64 a1_1) from rfl)
     have p_B1_2 := (cell_of_row v23 _ 2 _ _ _ B1.out).trans (show _ = some (Value.slice c1_2 x1_2.length k1_2) from rfl)
     have p_B1_3 := (cell_of_row v23 _ 3 _ _ _ B1.out).trans (show _ = some (Value.int .i64 a1_3) from rfl)
     have p_B1_4 := (cell_of_row v23 _ 4 _ _ _ B1.out).trans (show _ = some (Value.int .i64 a1_4) from rfl)
     refine hK.out _ _ ⟨p_B0_0, p_B0_1, p_B1_0, p_B1_1, p_B1_2, p_B1_3, p_B1_4⟩ (fun hHeld => ?_)
     clear p_B0_0 p_B0_1 p_B1_0 p_B1_1 p_B1_2 p_B1_3 p_B1_4
     clear hK K
     try simp only [Act.put, lA, lB, lC]
     refine wpAnyH_ready (rs := [3]) (by kernel_rfl) (by simp) ?_
     refine (AllReadyH.cons (o := _) (by simp only [hA, hB, hC]; rfl) (fun K hK => ?_) AllReadyH.nil)
     go_simp
     refine (toUpdate_T a1_0 a1_1 a1_3 a1_4 (.slice c1_2 x1_2.length k1_2) x1_2 v23 (slR_below tInt_law A1_2.out d.out) S1_2.out).mono ?_
     rintro e v24 ⟨cs, rfl, ow, c24⟩
     replace B0 := Lib.hid ((c24.block w.heap.size (Array.getElem?_eq_some_iff.1 B0.out).1).trans B0.out)
     replace B1 := Lib.hid ((c24.block (w.heap.size + 1) (Array.getElem?_eq_some_iff.1 B1.out).1).trans B1.out)
     replace XC2 := Lib.hid ((c24.block WdC2.heap.size (Array.getElem?_eq_some_iff.1 XC2.out).1).trans XC2.out)
     replace P23_0 := Lib.hid (slO_fresh tVersionS_law P23_0.out c24)
     replace d := Lib.hid (d.out.trans (c24.mono d.out.size))
     have Z_v24 := Lib.hid (show v23.heap.size ≤ v24.heap.size from c24.size)
     clear c24
     replace ow := tUpdate_law.lt ow
     obtain ⟨y24_2, K24_2, rfl, p24_2, w24_2⟩ := tUpdate_O ow
     obtain ⟨ya24_2, yc24_2, rfl⟩ := slO_len p24_2
     have P24_2 := Lib.hid p24_2
     have Q24_2 := Lib.hid (fun b h => (show v23.heap.size ≤ b ∧ b < v24.heap.size from w24_2 b h))
     clear p24_2 w24_2 ow
     have p_B0_0 := (cell_of_row v24 _ 0 _ _ _ B0.out).trans (show _ = some (Value.slice c0_0 x0_0.length k0_0) from rfl)
     have p_B0_1 := (cell_of_row v24 _ 1 _ _ _ B0.out).trans (show _ = some (Value.int .i64 a0_1) from rfl)
     have p_B1_0 := (cell_of_row v24 _ 0 _ _ _ B1.out).trans (show _ = some (Value.int .i64 a1_0) from rfl)
     have p_B1_1 := (cell_of_row v24 _ 1 _ _ _ B1.out).trans (show _ = some (Value.int .i64 a1_1) from rfl)
     have p_B1_2 := (cell_of_row v24 _ 2 _ _ _ B1.out).trans (show _ = some (Value.slice c1_2 x1_2.length k1_2) from rfl)
     have p_B1_3 := (cell_of_row v24 _ 3 _ _ _ B1.out).trans (show _ = some (Value.int .i64 a1_3) from rfl)
     have p_B1_4 := (cell_of_row v24 _ 4 _ _ _ B1.out).trans (show _ = some (Value.int .i64 a1_4) from rfl)
     refine hK.out _ _ ⟨p_B0_0, p_B0_1, p_B1_0, p_B1_1, p_B1_2, p_B1_3, p_B1_4⟩ (fun hHeld => ?_)
     clear p_B0_0 p_B0_1 p_B1_0 p_B1_1 p_B1_2 p_B1_3 p_B1_4
     clear hK K
     try simp only [Act.put, lA, lB, lC]
     refine wpAnyH_ready (rs := [4]) (by kernel_rfl) (by simp) ?_
     refine (AllReadyH.cons (o := _) (by simp only [hA, hB, hC]; rfl) (fun K hK => ?_) AllReadyH.nil)
     go_simp
     refine (HIM.out (.slice ya23_0 x0_0.length yc23_0) (.slice ya24_2 x1_2.length yc24_2) v24 (slO_reads tVersionS_law P23_0.out) (slO_reads tInt_law P24_2.out) HT.out ).mono ?_
     rintro e v25 ⟨g0, G0, rfl, o0, q0, c25⟩
     replace B0 := Lib.hid ((c25.block w.heap.size (Array.getElem?_eq_some_iff.1 B0.out).1).trans B0.out)
     replace B1 := Lib.hid ((c25.block (w.heap.size + 1) (Array.getElem?_eq_some_iff.1 B1.out).1).trans B1.out)
     replace XC2 := Lib.hid ((c25.block WdC2.heap.size (Array.getElem?_eq_some_iff.1 XC2.out).1).trans XC2.out)
     replace P23_0 := Lib.hid (slO_fresh tVersionS_law P23_0.out c25)
     replace P24_2 := Lib.hid (slO_fresh tInt_law P24_2.out c25)
     replace d := Lib.hid (d.out.trans (c25.mono d.out.size))
     have Z_v25 := Lib.hid (show v24.heap.size ≤ v25.heap.size from c25.size)
     clear c25
     replace o0 := tStore_law.lt o0
     obtain ⟨y25_0, K25_0, rfl, p25_0, w25_0⟩ := tStore_O o0
     obtain ⟨ya25_0, yc25_0, rfl⟩ := slO_len p25_0
     have P25_0 := Lib.hid p25_0
     have Q25_0 := Lib.hid (fun b h => (show v24.heap.size ≤ b ∧ b < v25.heap.size from ⟨q0 b (w25_0 b h).1, (w25_0 b h).2⟩))
     clear p25_0 w25_0 o0 q0
     have p_B0_0 := (cell_of_row v25 _ 0 _ _ _ B0.out).trans (show _ = some (Value.slice c0_0 x0_0.length k0_0) from rfl)
     have p_B0_1 := (cell_of_row v25 _ 1 _ _ _ B0.out).trans (show _ = some (Value.int .i64 a0_1) from rfl)
     have p_B1_0 := (cell_of_row v25 _ 0 _ _ _ B1.out).trans (show _ = some (Value.int .i64 a1_0) from rfl)
     have p_B1_1 := (cell_of_row v25 _ 1 _ _ _ B1.out).trans (show _ = some (Value.int .i64 a1_1) from rfl)
     have p_B1_2 := (cell_of_row v25 _ 2 _ _ _ B1.out).trans (show _ = some (Value.slice c1_2 x1_2.length k1_2) from rfl)
     have p_B1_3 := (cell_of_row v25 _ 3 _ _ _ B1.out).trans (show _ = some (Value.int .i64 a1_3) from rfl)
     have p_B1_4 := (cell_of_row v25 _ 4 _ _ _ B1.out).trans (show _ = some (Value.int .i64 a1_4) from rfl)
     refine hK.out _ _ ⟨p_B0_0, p_B0_1, p_B1_0, p_B1_1, p_B1_2, p_B1_3, p_B1_4⟩ (fun hHeld => ?_)
     clear p_B0_0 p_B0_1 p_B1_0 p_B1_1 p_B1_2 p_B1_3 p_B1_4
     clear hK K
     try simp only [Act.put, lA, lB, lC]
     refine tR (i := 5) (v := ?_) ?_ ?_; rotate_left
     ·
      intro w hSw; (try dsimp only at hSw); go_simp; try (with_reducible rfl)
     try simp only [Act.put, lA, lB, lC]
     refine tR (i := 6) (v := ?_) ?_ ?_; rotate_left
     ·
      intro w hSw; (try dsimp only at hSw); go_simp; try (with_reducible rfl)
     try simp only [Act.put, lA, lB, lC]
     refine tR (i := 7) (v := ?_) ?_ ?_; rotate_left
     ·
      intro w hSw; (try dsimp only at hSw); go_simp; try (with_reducible rfl)
     try simp only [Act.put, lA, lB, lC]
     refine wpAnyH_ready (rs := [9]) (by kernel_rfl) (by simp) ?_
     refine (AllReadyH.cons (o := _) (by simp only [hA, hB, hC]; rfl) (fun K hK => ?_) AllReadyH.nil)
     have p_XC2_0 := (cell_of_row v25 _ 0 _ _ _ XC2.out).trans (show _ = some (Value.slice none 0 0) from rfl)
     have p_XC2_1 := (cell_of_row v25 _ 1 _ _ _ XC2.out).trans (show _ = some (Value.int .i64 0) from rfl)
     have f_XC2_0 := frozen_of_row v25 _ 0 _ _ XC2.out
     have f_XC2_1 := frozen_of_row v25 _ 1 _ _ XC2.out
     go_simp
     clear p_XC2_0 p_XC2_1 f_XC2_0 f_XC2_1
     have y0 := Y_W.out
     have y1 := Z_v1.out
     have y2 := Z_v2.out
     have y3 := Z_wC1c.out
     have y4 := Y_XC1.out
     have y5 := Y_XC1d.out
     have y6 := Z_v3.out
     have y7 := Y_X1.out
     have y8 := Z_v5.out
     have y9 := Y_X2.out
     have y10 := Z_v7.out
     have y11 := Y_X3.out
     have y12 := Z_v9.out
     have y13 := Z_v11.out
     have y14 := Z_v12.out
     have y15 := Z_v14.out
     have y16 := Z_v15.out
     have y17 := Z_v16.out
     have y18 := Z_v17.out
     have y19 := Z_v18.out
     have y20 := Z_v19.out
     have y21 := Z_v20.out
     have y22 := Z_drC2.out
     have y23 := Y_XC2.out
     have y24 := Z_v23.out
     have y25 := Z_v24.out
     have y26 := Z_v25.out
     have tt : Turn (fun b => b = WdC2.heap.size) v25 ((v25.setCell ⟨WdC2.heap.size, 0, none⟩ (.slice ya25_0 xr0_0.length yc25_0)).setCell ⟨WdC2.heap.size, 1, none⟩ (.int .i64 ar0_1)) := (((Turn.refl (fun b => b = WdC2.heap.size) v25).trans (turn_set (G := fun b => b = WdC2.heap.size) (g := WdC2.heap.size) (j := 0) (u := .slice ya25_0 xr0_0.length yc25_0) rfl)).trans (turn_set (G := fun b => b = WdC2.heap.size) (g := WdC2.heap.size) (j := 1) (u := .int .i64 ar0_1) rfl))
     have r := (heap_setCell_same _ (WdC2.heap.size) 1 _ _ (.int .i64 ar0_1) (heap_setCell_same v25 (WdC2.heap.size) 0 _ _ (.slice ya25_0 xr0_0.length yc25_0) XC2.out))
     simp at r
     have yd := d.out.size
     replace B0 := Lib.hid ((tt.block w.heap.size (Array.getElem?_eq_some_iff.1 B0.out).1 (fun h => by omega)).trans B0.out)
     replace B1 := Lib.hid ((tt.block (w.heap.size + 1) (Array.getElem?_eq_some_iff.1 B1.out).1 (fun h => by omega)).trans B1.out)
     replace P23_0 := Lib.hid (slO_turn tVersionS_law P23_0.out tt (fun b h1 h2 => by have r1 := Q23_0.out b h1; omega))
     replace P24_2 := Lib.hid (slO_turn tInt_law P24_2.out tt (fun b h1 h2 => by have r1 := Q24_2.out b h1; omega))
     replace P25_0 := Lib.hid (slO_turn tVersionS_law P25_0.out tt (fun b h1 h2 => by have r1 := Q25_0.out b h1; omega))
     replace d := Lib.hid (below_turn d.out tt (fun b h => by omega) yd)
     replace XC2 : Hid (((v25.setCell ⟨WdC2.heap.size, 0, none⟩ (.slice ya25_0 xr0_0.length yc25_0)).setCell ⟨WdC2.heap.size, 1, none⟩ (.int .i64 ar0_1)).heap[WdC2.heap.size]? = some (.cells #[.slice ya25_0 xr0_0.length yc25_0, .int .i64 ar0_1] 41 (0, 0))) := Lib.hid r
     have Z_v26 := Lib.hid (show v25.heap.size ≤ ((v25.setCell ⟨WdC2.heap.size, 0, none⟩ (.slice ya25_0 xr0_0.length yc25_0)).setCell ⟨WdC2.heap.size, 1, none⟩ (.int .i64 ar0_1)).heap.size from tt.size)
     clear tt r yd y0 y1 y2 y3 y4 y5 y6 y7 y8 y9 y10 y11 y12 y13 y14 y15 y16 y17 y18 y19 y20 y21 y22 y23 y24 y25 y26
     generalize ((v25.setCell ⟨WdC2.heap.size, 0, none⟩ (.slice ya25_0 xr0_0.length yc25_0)).setCell ⟨WdC2.heap.size, 1, none⟩ (.int .i64 ar0_1)) = v26 at *
     have p_B0_0 := (cell_of_row v26 _ 0 _ _ _ B0.out).trans (show _ = some (Value.slice c0_0 x0_0.length k0_0) from rfl)
     have p_B0_1 := (cell_of_row v26 _ 1 _ _ _ B0.out).trans (show _ = some (Value.int .i64 a0_1) from rfl)
     have p_B1_0 := (cell_of_row v26 _ 0 _ _ _ B1.out).trans (show _ = some (Value.int .i64 a1_0) from rfl)
     have p_B1_1 := (cell_of_row v26 _ 1 _ _ _ B1.out).trans (show _ = some (Value.int .i64 a1_1) from rfl)
     have p_B1_2 := (cell_of_row v26 _ 2 _ _ _ B1.out).trans (show _ = some (Value.slice c1_2 x1_2.length k1_2) from rfl)
     have p_B1_3 := (cell_of_row v26 _ 3 _ _ _ B1.out).trans (show _ = some (Value.int .i64 a1_3) from rfl)
     have p_B1_4 := (cell_of_row v26 _ 4 _ _ _ B1.out).trans (show _ = some (Value.int .i64 a1_4) from rfl)
     refine hK.out _ _ ⟨p_B0_0, p_B0_1, p_B1_0, p_B1_1, p_B1_2, p_B1_3, p_B1_4⟩ (fun hHeld => ?_)
     clear p_B0_0 p_B0_1 p_B1_0 p_B1_1 p_B1_2 p_B1_3 p_B1_4
     clear hK K
     try simp only [Act.put, lA, lB, lC]
     refine tR (i := 10) (v := ?_) ?_ ?_; rotate_left
     ·
      intro w hSw; (try dsimp only at hSw); go_simp; try (with_reducible rfl)
     try simp only [Act.put, lA, lB, lC]
     refine wpAnyH_done (by kernel_rfl) ?_ _
     clear hHeld
     go_wp2
     go_meet
     have y0 := Y_W.out
     have y1 := Z_v1.out
     have y2 := Z_v2.out
     have y3 := Z_wC1c.out
     have y4 := Y_XC1.out
     have y5 := Y_XC1d.out
     have y6 := Z_v3.out
     have y7 := Y_X1.out
     have y8 := Z_v5.out
     have y9 := Y_X2.out
     have y10 := Z_v7.out
     have y11 := Y_X3.out
     have y12 := Z_v9.out
     have y13 := Z_v11.out
     have y14 := Z_v12.out
     have y15 := Z_v14.out
     have y16 := Z_v15.out
     have y17 := Z_v16.out
     have y18 := Z_v17.out
     have y19 := Z_v18.out
     have y20 := Z_v19.out
     have y21 := Z_v20.out
     have y22 := Z_drC2.out
     have y23 := Y_XC2.out
     have y24 := Z_v23.out
     have y25 := Z_v24.out
     have y26 := Z_v25.out
     have y27 := Z_v26.out
     case rel => exact ⟨_, _, _, _, rfl, rfl, XC2.out, (Array.getElem?_eq_some_iff.1 XC2.out).1, (by omega), P25_0.out, (fun q hq => by have r := Q25_0.out q hq; omega), d.out⟩
   case rest =>
   obtain ⟨bC2, yaC2_0, ycC2_0, KC2_0, rfl, rfl, xC, yC1, yC2, pC_0, qC_0, dC⟩ := hcut
   generalize wc = wC2c at *
   replace B0 := Lib.hid ((dC.block w.heap.size (Array.getElem?_eq_some_iff.1 B0.out).1).trans B0.out)
   replace B1 := Lib.hid ((dC.block (w.heap.size + 1) (Array.getElem?_eq_some_iff.1 B1.out).1).trans B1.out)
   replace XC1 := Lib.hid ((dC.block bC1 (Array.getElem?_eq_some_iff.1 XC1.out).1).trans XC1.out)
   replace X1 := Lib.hid ((dC.block v3.heap.size (Array.getElem?_eq_some_iff.1 X1.out).1).trans X1.out)
   replace X2 := Lib.hid ((dC.block v5.heap.size (Array.getElem?_eq_some_iff.1 X2.out).1).trans X2.out)
   replace X3 := Lib.hid ((dC.block v7.heap.size (Array.getElem?_eq_some_iff.1 X3.out).1).trans X3.out)
   replace PC1_0 := Lib.hid (slO_fresh tVersionS_law PC1_0.out dC)
   replace P7_0 := Lib.hid (slO_fresh tVersionS_law P7_0.out dC)
   replace d := Lib.hid (d.out.trans (dC.mono d.out.size))
   have Z_wC2c := Lib.hid (show v20.heap.size ≤ wC2c.heap.size from dC.size)
   have XC2 := Lib.hid xC
   have Y_XC2 := Lib.hid yC1
   have Y_XC2d := Lib.hid yC2
   have PC2_0 := Lib.hid pC_0
   have QC2_0 : Hid (∀ q, KC2_0 q → v20.heap.size ≤ q ∧ q < wC2c.heap.size ∧ q ≠ bC2) := Lib.hid qC_0
   clear xC yC1 yC2 dC pC_0 qC_0
   have p_XC1_0 := (cell_of_row wC2c _ 0 _ _ _ XC1.out).trans (show _ = some (Value.slice yaC1_0 xr0_0.length ycC1_0) from rfl)
   have p_XC1_1 := (cell_of_row wC2c _ 1 _ _ _ XC1.out).trans (show _ = some (Value.int .i64 ar0_1) from rfl)
   have p_XC2_0 := (cell_of_row wC2c _ 0 _ _ _ XC2.out).trans (show _ = some (Value.slice yaC2_0 xr0_0.length ycC2_0) from rfl)
   have p_XC2_1 := (cell_of_row wC2c _ 1 _ _ _ XC2.out).trans (show _ = some (Value.int .i64 ar0_1) from rfl)
   go_wp2_with fail
   clear p_XC1_0 p_XC1_1 p_XC2_0 p_XC2_1
   refine (eqStore_T ar0_1 (.slice yaC2_0 xr0_0.length ycC2_0) xr0_0 (.slice yaC1_0 xr0_0.length ycC1_0) wC2c (slO_reads tVersionS_law PC2_0.out) (slO_reads tVersionS_law PC1_0.out) Z0_0.out).mono ?_
   rintro e v21 ⟨rfl, c21⟩
   replace B0 := Lib.hid ((c21.block w.heap.size (Array.getElem?_eq_some_iff.1 B0.out).1).trans B0.out)
   replace B1 := Lib.hid ((c21.block (w.heap.size + 1) (Array.getElem?_eq_some_iff.1 B1.out).1).trans B1.out)
   replace XC1 := Lib.hid ((c21.block bC1 (Array.getElem?_eq_some_iff.1 XC1.out).1).trans XC1.out)
   replace X1 := Lib.hid ((c21.block v3.heap.size (Array.getElem?_eq_some_iff.1 X1.out).1).trans X1.out)
   replace X2 := Lib.hid ((c21.block v5.heap.size (Array.getElem?_eq_some_iff.1 X2.out).1).trans X2.out)
   replace X3 := Lib.hid ((c21.block v7.heap.size (Array.getElem?_eq_some_iff.1 X3.out).1).trans X3.out)
   replace XC2 := Lib.hid ((c21.block bC2 (Array.getElem?_eq_some_iff.1 XC2.out).1).trans XC2.out)
   replace PC1_0 := Lib.hid (slO_fresh tVersionS_law PC1_0.out c21)
   replace P7_0 := Lib.hid (slO_fresh tVersionS_law P7_0.out c21)
   replace PC2_0 := Lib.hid (slO_fresh tVersionS_law PC2_0.out c21)
   replace d := Lib.hid (d.out.trans (c21.mono d.out.size))
   have Z_v21 := Lib.hid (show wC2c.heap.size ≤ v21.heap.size from c21.size)
   clear c21
   have p_X3_0 := (cell_of_row v21 _ 0 _ _ _ X3.out).trans (show _ = some (Value.slice ya7_0 xr0_0.length yc7_0) from rfl)
   have p_X3_1 := (cell_of_row v21 _ 1 _ _ _ X3.out).trans (show _ = some (Value.int .i64 ar0_1) from rfl)
   go_wp2_with fail
   clear p_X3_0 p_X3_1
   refine (heldStore_T ar0_1 (.slice ya7_0 xr0_0.length yc7_0) xr0_0 (1) v21 (slO_reads tVersionS_law P7_0.out) Z0_0.out MR0.out.1 (by have := MR0.out.2; omega)).mono ?_
   rintro e v22 ⟨rfl, c22⟩
   replace B0 := Lib.hid ((c22.block w.heap.size (Array.getElem?_eq_some_iff.1 B0.out).1).trans B0.out)
   replace B1 := Lib.hid ((c22.block (w.heap.size + 1) (Array.getElem?_eq_some_iff.1 B1.out).1).trans B1.out)
   replace XC1 := Lib.hid ((c22.block bC1 (Array.getElem?_eq_some_iff.1 XC1.out).1).trans XC1.out)
   replace X1 := Lib.hid ((c22.block v3.heap.size (Array.getElem?_eq_some_iff.1 X1.out).1).trans X1.out)
   replace X2 := Lib.hid ((c22.block v5.heap.size (Array.getElem?_eq_some_iff.1 X2.out).1).trans X2.out)
   replace X3 := Lib.hid ((c22.block v7.heap.size (Array.getElem?_eq_some_iff.1 X3.out).1).trans X3.out)
   replace XC2 := Lib.hid ((c22.block bC2 (Array.getElem?_eq_some_iff.1 XC2.out).1).trans XC2.out)
   replace PC1_0 := Lib.hid (slO_fresh tVersionS_law PC1_0.out c22)
   replace P7_0 := Lib.hid (slO_fresh tVersionS_law P7_0.out c22)
   replace PC2_0 := Lib.hid (slO_fresh tVersionS_law PC2_0.out c22)
   replace d := Lib.hid (d.out.trans (c22.mono d.out.size))
   have Z_v22 := Lib.hid (show v21.heap.size ≤ v22.heap.size from c22.size)
   clear c22
   go_wp2
   go_ret
   exact ⟨rfl, HB0.out.trans (d.out.mono HB0.out.size)⟩
  ·
   have HZ0 : Hid (((zL tVersionS x0_0 : Nat) : Int) ≤ (1048576 : Int)) := Lib.hid c0
   have HK0 : Hid ((1048576 : Int) ≤ 1048576) := Lib.hid (by omega)
   have hn0 : ¬ (1048576 : Int) - ((zL tVersionS x0_0 : Nat) : Int) < 0 := by omega
   have HZ1 : Hid ((1048576 : Int) - ((zL tVersionS x0_0 : Nat) : Int) < ((zL tInt x1_2 : Nat) : Int)) := Lib.hid (by omega)
   have HP1 : Hid (0 ≤ (1048576 : Int) - ((zL tVersionS x0_0 : Nat) : Int)) := Lib.hid (by omega)
   have HK1 : Hid ((1048576 : Int) - ((zL tVersionS x0_0 : Nat) : Int) ≤ 1048576) := Lib.hid (by omega)
   clear c1
   go_enter Try.func4, Try.ntmps4
   go_wp2_with fail
   have Y_W : Hid (w.heap.size + 2 ≤ ((w.alloc (.cells #[.slice c0_0 x0_0.length k0_0, .int .i64 a0_1] 37)).alloc (.cells #[.int .i64 a1_0, .int .i64 a1_1, .slice c1_2 x1_2.length k1_2, .int .i64 a1_3, .int .i64 a1_4] 26)).heap.size) := Lib.hid (by simp [World.size_alloc])
   generalize ((w.alloc (.cells #[.slice c0_0 x0_0.length k0_0, .int .i64 a0_1] 37)).alloc (.cells #[.int .i64 a1_0, .int .i64 a1_1, .slice c1_2 x1_2.length k1_2, .int .i64 a1_3, .int .i64 a1_4] 26)) = W at *
   have d := Lib.hid (Below.refl W.heap.size W)
   refine (szStore_Y a0_1 (.slice c0_0 x0_0.length k0_0) x0_0 ((1048576 : Int)) W (slR_below tVersionS_law A0_0.out d.out) HZ0.out HK0.out).mono ?_
   rintro e v1 ⟨rfl, c1⟩
   replace B0 := Lib.hid ((c1.block w.heap.size (Array.getElem?_eq_some_iff.1 B0.out).1).trans B0.out)
   replace B1 := Lib.hid ((c1.block (w.heap.size + 1) (Array.getElem?_eq_some_iff.1 B1.out).1).trans B1.out)
   replace d := Lib.hid (d.out.trans (c1.mono d.out.size))
   have Z_v1 := Lib.hid (show W.heap.size ≤ v1.heap.size from c1.size)
   clear c1
   have p_B1_0 := (cell_of_row v1 _ 0 _ _ _ B1.out).trans (show _ = some (Value.int .i64 a1_0) from rfl)
   have p_B1_1 := (cell_of_row v1 _ 1 _ _ _ B1.out).trans (show _ = some (Value.int .i64 a1_1) from rfl)
   have p_B1_2 := (cell_of_row v1 _ 2 _ _ _ B1.out).trans (show _ = some (Value.slice c1_2 x1_2.length k1_2) from rfl)
   have p_B1_3 := (cell_of_row v1 _ 3 _ _ _ B1.out).trans (show _ = some (Value.int .i64 a1_3) from rfl)
   have p_B1_4 := (cell_of_row v1 _ 4 _ _ _ B1.out).trans (show _ = some (Value.int .i64 a1_4) from rfl)
   go_wp2_with fail
   clear p_B1_0 p_B1_1 p_B1_2 p_B1_3 p_B1_4
   refine (szUpdate_N a1_0 a1_1 a1_3 a1_4 (.slice c1_2 x1_2.length k1_2) x1_2 ((1048576 : Int) - ((zL tVersionS x0_0 : Nat) : Int)) v1 (slR_below tInt_law A1_2.out d.out) HZ1.out HK1.out HP1.out O1_2.out).mono ?_
   rintro e v2 ⟨rfl, c2⟩
   replace B0 := Lib.hid ((c2.block w.heap.size (Array.getElem?_eq_some_iff.1 B0.out).1).trans B0.out)
   replace B1 := Lib.hid ((c2.block (w.heap.size + 1) (Array.getElem?_eq_some_iff.1 B1.out).1).trans B1.out)
   replace d := Lib.hid (d.out.trans (c2.mono d.out.size))
   have Z_v2 := Lib.hid (show v1.heap.size ≤ v2.heap.size from c2.size)
   clear c2
   go_wp2
   go_ret
   exact ⟨rfl, HB0.out.trans (d.out.mono HB0.out.size)⟩
 ·
  have HZ0 : Hid ((1048576 : Int) < ((zL tVersionS x0_0 : Nat) : Int)) := Lib.hid (by omega)
  have HP0 : Hid (0 ≤ (1048576 : Int)) := Lib.hid (by omega)
  have HK0 : Hid ((1048576 : Int) ≤ 1048576) := Lib.hid (by omega)
  clear c0
  go_enter Try.func4, Try.ntmps4
  go_wp2_with fail
  have Y_W : Hid (w.heap.size + 2 ≤ ((w.alloc (.cells #[.slice c0_0 x0_0.length k0_0, .int .i64 a0_1] 37)).alloc (.cells #[.int .i64 a1_0, .int .i64 a1_1, .slice c1_2 x1_2.length k1_2, .int .i64 a1_3, .int .i64 a1_4] 26)).heap.size) := Lib.hid (by simp [World.size_alloc])
  generalize ((w.alloc (.cells #[.slice c0_0 x0_0.length k0_0, .int .i64 a0_1] 37)).alloc (.cells #[.int .i64 a1_0, .int .i64 a1_1, .slice c1_2 x1_2.length k1_2, .int .i64 a1_3, .int .i64 a1_4] 26)) = W at *
  have d := Lib.hid (Below.refl W.heap.size W)
  refine (szStore_N a0_1 (.slice c0_0 x0_0.length k0_0) x0_0 ((1048576 : Int)) W (slR_below tVersionS_law A0_0.out d.out) HZ0.out HK0.out HP0.out O0_0.out).mono ?_
  rintro e v1 ⟨rfl, c1⟩
  replace B0 := Lib.hid ((c1.block w.heap.size (Array.getElem?_eq_some_iff.1 B0.out).1).trans B0.out)
  replace B1 := Lib.hid ((c1.block (w.heap.size + 1) (Array.getElem?_eq_some_iff.1 B1.out).1).trans B1.out)
  replace d := Lib.hid (d.out.trans (c1.mono d.out.size))
  have Z_v1 := Lib.hid (show W.heap.size ≤ v1.heap.size from c1.size)
  clear c1
  go_wp2
  go_ret
  exact ⟨rfl, HB0.out.trans (d.out.mono HB0.out.size)⟩
end Go.Proofs.Ythiiaiholcfhhaa
