/-
  Texts of the proof, merged: LawProbeSet.
-/
import Derived.Test.YtidhmgboknffkaaDoorG9
namespace Go.Proofs.YtidhmgboknffkaaDoor
open Go.RowKit
set_option linter.unusedVariables false
set_option linter.unusedSimpArgs false
set_option maxHeartbeats 32000000 in
set_option maxRecDepth 100000 in
theorem law_fnExactProbeSet (v0_0 v0_1 : Value) (x0_0 : List (Int × Int × List (Int × Int × Int) × List Int)) (x0_1 : List (List (Int × Int × List Int))) (a1_0 : Int) (v1_1 : Value) (x1_1 : List Int) (v2_0 : Value) (x2_0 : List Int) (r0 : List Int) (r1 : Int) (w : World) (h0_0 : SlR tQuery w v0_0 x0_0) (h0_1 : SlR tSpanS w v0_1 x0_1) (h1_1 : SlR tInt w v1_1 x1_1) (h2_0 : SlR tInt w v2_0 x2_0) (o0_0 : tQueryS.ok x0_0) (o0_1 : tSpanSS.ok x0_1) (o1_1 : tIntS.ok x1_1) (o2_0 : tIntS.ok x2_0) (z0 : zL tInt r0 ≤ 1048576)
    (hspec : ∀ (v0_0 v0_1 v1_1 v2_0 : Value) (w : World), SlR tQuery w v0_0 x0_0 → SlR tSpanS w v0_1 x0_1 → SlR tInt w v1_1 x1_1 → SlR tInt w v2_0 x2_0 → zL tQuery x0_0 + zL tSpanS x0_1 + zL tInt x1_1 ≤ 1048576 → x2_0.length ≤ 1048576 → Calls Tryd.prog 11 #[.agg #[v0_0, v0_1], .agg #[.int .i64 a1_0, v1_1], v2_0] w (fun e w' => ∃ (g0 : Value) (G0 : Nat → Prop), e = .returned (.tuple #[g0, .int .i64 r1]) ∧ SlO 3 tInt w' G0 g0 r0 ∧ (∀ b, G0 b → w.heap.size ≤ b) ∧ Below w.heap.size w w'))
    (himpl : ∀ (v0_0 v0_1 v1_1 v2_0 : Value) (u : World), Below w.heap.size w u → SlR tQuery u v0_0 x0_0 → SlR tSpanS u v0_1 x0_1 → SlR tInt u v1_1 x1_1 → SlR tInt u v2_0 x2_0 → zL tQuery x0_0 + zL tSpanS x0_1 + zL tInt x1_1 ≤ 1048576 → x2_0.length ≤ 1048576 → Calls Tryd.prog 10 #[.agg #[v0_0, v0_1], .agg #[.int .i64 a1_0, v1_1], v2_0] u (fun e w' => ∃ (g0 : Value) (G0 : Nat → Prop), e = .returned (.tuple #[g0, .int .i64 r1]) ∧ SlO 3 tInt w' G0 g0 r0 ∧ (∀ b, G0 b → u.heap.size ≤ b) ∧ Below u.heap.size u w')) :
    Calls Tryd.prog 5 #[.agg #[v0_0, v0_1], .agg #[.int .i64 a1_0, v1_1], v2_0] w fun e w' => e = .returned (.bool true) ∧ Below w.heap.size w w' := by
  obtain ⟨c0_0, k0_0, rfl⟩ := slR_len h0_0
  obtain ⟨c0_1, k0_1, rfl⟩ := slR_len h0_1
  obtain ⟨c1_1, k1_1, rfl⟩ := slR_len h1_1
  obtain ⟨c2_0, k2_0, rfl⟩ := slR_len h2_0
  have HB0 : Hid (Below w.heap.size w ((w.alloc (.cells #[.slice c0_0 x0_0.length k0_0, .slice c0_1 x0_1.length k0_1] 56)).alloc (.cells #[.int .i64 a1_0, .slice c1_1 x1_1.length k1_1] 57))) := Lib.hid (((Below.refl _ w).alloc (Nat.le_refl _) _).alloc (by simp) _)
  have B0 : Hid (((w.alloc (.cells #[.slice c0_0 x0_0.length k0_0, .slice c0_1 x0_1.length k0_1] 56)).alloc (.cells #[.int .i64 a1_0, .slice c1_1 x1_1.length k1_1] 57)).heap[w.heap.size]? = some (.cells #[.slice c0_0 x0_0.length k0_0, .slice c0_1 x0_1.length k0_1] 56 (0, 0))) := Lib.hid (by rw [Below.heap_alloc _ _ _ (by simp <;> omega)]; have := heap_alloc_new w (.cells #[.slice c0_0 x0_0.length k0_0, .slice c0_1 x0_1.length k0_1] 56); simpa only [World.size_alloc] using this)
  have B1 : Hid (((w.alloc (.cells #[.slice c0_0 x0_0.length k0_0, .slice c0_1 x0_1.length k0_1] 56)).alloc (.cells #[.int .i64 a1_0, .slice c1_1 x1_1.length k1_1] 57)).heap[(w.heap.size + 1)]? = some (.cells #[.int .i64 a1_0, .slice c1_1 x1_1.length k1_1] 57 (0, 0))) := Lib.hid (by have := heap_alloc_new (w.alloc (.cells #[.slice c0_0 x0_0.length k0_0, .slice c0_1 x0_1.length k0_1] 56)) (.cells #[.int .i64 a1_0, .slice c1_1 x1_1.length k1_1] 57); simpa only [World.size_alloc] using this)
  have A0_0 : Hid (SlR tQuery ((w.alloc (.cells #[.slice c0_0 x0_0.length k0_0, .slice c0_1 x0_1.length k0_1] 56)).alloc (.cells #[.int .i64 a1_0, .slice c1_1 x1_1.length k1_1] 57)) (.slice c0_0 x0_0.length k0_0) x0_0) := Lib.hid (slR_below tQuery_law h0_0 HB0.out)
  have A0_1 : Hid (SlR tSpanS ((w.alloc (.cells #[.slice c0_0 x0_0.length k0_0, .slice c0_1 x0_1.length k0_1] 56)).alloc (.cells #[.int .i64 a1_0, .slice c1_1 x1_1.length k1_1] 57)) (.slice c0_1 x0_1.length k0_1) x0_1) := Lib.hid (slR_below tSpanS_law h0_1 HB0.out)
  have A1_1 : Hid (SlR tInt ((w.alloc (.cells #[.slice c0_0 x0_0.length k0_0, .slice c0_1 x0_1.length k0_1] 56)).alloc (.cells #[.int .i64 a1_0, .slice c1_1 x1_1.length k1_1] 57)) (.slice c1_1 x1_1.length k1_1) x1_1) := Lib.hid (slR_below tInt_law h1_1 HB0.out)
  have A2_0 : Hid (SlR tInt ((w.alloc (.cells #[.slice c0_0 x0_0.length k0_0, .slice c0_1 x0_1.length k0_1] 56)).alloc (.cells #[.int .i64 a1_0, .slice c1_1 x1_1.length k1_1] 57)) (.slice c2_0 x2_0.length k2_0) x2_0) := Lib.hid (slR_below tInt_law h2_0 HB0.out)
  have O0_0 := Lib.hid o0_0
  have O0_1 := Lib.hid o0_1
  have O1_1 := Lib.hid o1_1
  have O2_0 := Lib.hid o2_0
  clear h0_0 o0_0 h0_1 o0_1 h1_1 o1_1 h2_0 o2_0
  have HSP := Lib.hid hspec
  have HIM := Lib.hid himpl
  clear hspec himpl
  have Z0 := Lib.hid z0
  clear z0
  by_cases c0 : x2_0.length ≤ 1048576
  ·
    by_cases c1 : ((zL tQuery x0_0 + zL tSpanS x0_1 : Nat) : Int) ≤ (1048576 : Int)
    ·
      by_cases c2 : ((zL tInt x1_1 : Nat) : Int) ≤ (1048576 : Int) - ((zL tQuery x0_0 + zL tSpanS x0_1 : Nat) : Int)
      ·
        have HZ0 : Hid (((zL tQuery x0_0 + zL tSpanS x0_1 : Nat) : Int) ≤ (1048576 : Int)) := Lib.hid c1
        have HK0 : Hid ((1048576 : Int) ≤ 1048576) := Lib.hid (by omega)
        have hn0 : ¬ (1048576 : Int) - ((zL tQuery x0_0 + zL tSpanS x0_1 : Nat) : Int) < 0 := by omega
        have HZ1 : Hid (((zL tInt x1_1 : Nat) : Int) ≤ (1048576 : Int) - ((zL tQuery x0_0 + zL tSpanS x0_1 : Nat) : Int)) := Lib.hid c2
        have HK1 : Hid ((1048576 : Int) - ((zL tQuery x0_0 + zL tSpanS x0_1 : Nat) : Int) ≤ 1048576) := Lib.hid (by omega)
        have hn1 : ¬ (1048576 : Int) - ((zL tQuery x0_0 + zL tSpanS x0_1 : Nat) : Int) - ((zL tInt x1_1 : Nat) : Int) < 0 := by omega
        have hl2 : ¬ (1048576 : Int) < (x2_0.length : Int) := by omega
        have HL2 := Lib.hid c0
        have HT : Hid (zL tQuery x0_0 + zL tSpanS x0_1 + zL tInt x1_1 ≤ 1048576) := Lib.hid (by omega)
        have S0_0 : Hid (zL tQuery x0_0 ≤ 1048576) := Lib.hid (by omega)
        have S0_1 : Hid (zL tSpanS x0_1 ≤ 1048576) := Lib.hid (by omega)
        have S1_1 : Hid (zL tInt x1_1 ≤ 1048576) := Lib.hid (by omega)
        have S2_0 : Hid (zL tInt x2_0 ≤ 1048576) := Lib.hid (by rw [zL_ints]; exact HL2.out)
        have N0_0 := ndL_le tQuery_law (by decide) x0_0
        have N0_1 := ndL_le tSpanS_law (by decide) x0_1
        have N1_1 := ndL_le tInt_law (by decide) x1_1
        have N2_0 := ndL_le tInt_law (by decide) x2_0
        have M0 : Hid (0 ≤ (1 : Int) ∧ (1 : Int) ≤ 134217728) := Lib.hid (by have := HT.out; have := S2_0.out; omega)
        have M1 : Hid (0 ≤ (1 + (ndL tQuery x0_0 : Int) + (ndL tSpanS x0_1 : Int) : Int) ∧ (1 + (ndL tQuery x0_0 : Int) + (ndL tSpanS x0_1 : Int) : Int) ≤ 134217728) := Lib.hid (by have := HT.out; have := S2_0.out; omega)
        have M2 : Hid (0 ≤ (1 + (ndL tQuery x0_0 : Int) + (ndL tSpanS x0_1 : Int) + (ndL tInt x1_1 : Int) : Int) ∧ (1 + (ndL tQuery x0_0 : Int) + (ndL tSpanS x0_1 : Int) + (ndL tInt x1_1 : Int) : Int) ≤ 134217728) := Lib.hid (by have := HT.out; have := S2_0.out; omega)
        have hk : ¬ (1 + (ndL tQuery x0_0 : Int) + (ndL tSpanS x0_1 : Int) + (ndL tInt x1_1 : Int) + (ndL tInt x2_0 : Int) : Int) < 0 := by omega
        clear N0_0 N0_1 N1_1 N2_0
        have e1 : (r1 != r1) = false := by simp
        have NR0 := ndL_le tInt_law (by decide) r0
        have MR0 : Hid (0 ≤ (1 : Int) ∧ (1 : Int) ≤ 134217728) := Lib.hid (by have := Z0.out; omega)
        have hh0 : ¬ (1 + (ndL tInt r0 : Int) : Int) < 0 := by have := Z0.out; omega
        have hq : ((1 + (ndL tInt r0 : Int) : Int) != 1 + (ndL tInt r0 : Int)) = false := by simp
        clear NR0
        clear c0 c1 c2
        go_enter Tryd.func5, Tryd.ntmps5
        go_wp2_with fail
        have Y_W : Hid (w.heap.size + 2 ≤ ((w.alloc (.cells #[.slice c0_0 x0_0.length k0_0, .slice c0_1 x0_1.length k0_1] 56)).alloc (.cells #[.int .i64 a1_0, .slice c1_1 x1_1.length k1_1] 57)).heap.size) := Lib.hid (by simp [World.size_alloc])
        generalize ((w.alloc (.cells #[.slice c0_0 x0_0.length k0_0, .slice c0_1 x0_1.length k0_1] 56)).alloc (.cells #[.int .i64 a1_0, .slice c1_1 x1_1.length k1_1] 57)) = W at *
        have d := Lib.hid (Below.refl W.heap.size W)
        refine (szIndex_Y (.slice c0_0 x0_0.length k0_0) (.slice c0_1 x0_1.length k0_1) x0_0 x0_1 ((1048576 : Int)) W (slR_below tQuery_law A0_0.out d.out) (slR_below tSpanS_law A0_1.out d.out) HZ0.out HK0.out).mono ?_
        rintro e v1 ⟨rfl, c1⟩
        replace B0 := Lib.hid ((c1.block w.heap.size (Array.getElem?_eq_some_iff.1 B0.out).1).trans B0.out)
        replace B1 := Lib.hid ((c1.block (w.heap.size + 1) (Array.getElem?_eq_some_iff.1 B1.out).1).trans B1.out)
        replace d := Lib.hid (d.out.trans (c1.mono d.out.size))
        have Z_v1 := Lib.hid (show W.heap.size ≤ v1.heap.size from c1.size)
        clear c1
        have p_B1_0 := (cell_of_row v1 _ 0 _ _ _ B1.out).trans (show _ = some (Value.int .i64 a1_0) from rfl)
        have p_B1_1 := (cell_of_row v1 _ 1 _ _ _ B1.out).trans (show _ = some (Value.slice c1_1 x1_1.length k1_1) from rfl)
        go_wp2_with fail
        clear p_B1_0 p_B1_1
        refine (szRow_Y a1_0 (.slice c1_1 x1_1.length k1_1) x1_1 ((1048576 : Int) - ((zL tQuery x0_0 + zL tSpanS x0_1 : Nat) : Int)) v1 (slR_below tInt_law A1_1.out d.out) HZ1.out HK1.out).mono ?_
        rintro e v2 ⟨rfl, c2⟩
        replace B0 := Lib.hid ((c2.block w.heap.size (Array.getElem?_eq_some_iff.1 B0.out).1).trans B0.out)
        replace B1 := Lib.hid ((c2.block (w.heap.size + 1) (Array.getElem?_eq_some_iff.1 B1.out).1).trans B1.out)
        replace d := Lib.hid (d.out.trans (c2.mono d.out.size))
        have Z_v2 := Lib.hid (show v1.heap.size ≤ v2.heap.size from c2.size)
        clear c2
        go_wp2
        have p_B0_0 := (cell_of_row v2 _ 0 _ _ _ B0.out).trans (show _ = some (Value.slice c0_0 x0_0.length k0_0) from rfl)
        have p_B0_1 := (cell_of_row v2 _ 1 _ _ _ B0.out).trans (show _ = some (Value.slice c0_1 x0_1.length k0_1) from rfl)
        have p_B1_0 := (cell_of_row v2 _ 0 _ _ _ B1.out).trans (show _ = some (Value.int .i64 a1_0) from rfl)
        have p_B1_1 := (cell_of_row v2 _ 1 _ _ _ B1.out).trans (show _ = some (Value.slice c1_1 x1_1.length k1_1) from rfl)
        refine wp_region_held_drew (S := fun w' => w'.cell? ⟨w.heap.size, 0, none⟩ = some (Value.slice c0_0 x0_0.length k0_0) ∧ w'.cell? ⟨w.heap.size, 1, none⟩ = some (Value.slice c0_1 x0_1.length k0_1) ∧ w'.cell? ⟨(w.heap.size + 1), 0, none⟩ = some (Value.int .i64 a1_0) ∧ w'.cell? ⟨(w.heap.size + 1), 1, none⟩ = some (Value.slice c1_1 x1_1.length k1_1)) (by kernel_rfl) ⟨p_B0_0, p_B0_1, p_B1_0, p_B1_1⟩ (fun hHeld => ?_)
        clear p_B0_0 p_B0_1 p_B1_0 p_B1_1
        have cd3 : Below v2.heap.size v2 v2.drew := below_drew (Below.refl _ _)
        replace B0 := Lib.hid ((cd3.block w.heap.size (Array.getElem?_eq_some_iff.1 B0.out).1).trans B0.out)
        replace B1 := Lib.hid ((cd3.block (w.heap.size + 1) (Array.getElem?_eq_some_iff.1 B1.out).1).trans B1.out)
        replace d := Lib.hid (d.out.trans (cd3.mono d.out.size))
        clear cd3
        refine take_runs (i := 0) (v := ?_) (by simp only [List.getElem?_toArray, List.getElem?_cons_succ, List.getElem?_cons_zero]; rfl) (by kernel_rfl) (by kernel_rfl) (by kernel_rfl) rfl (by exact fun _ _ _ h => h) (by rfl) ?_ (by assumption) ?_
        rotate_left
        · intro w hSw; (try dsimp only at hSw); go_simp; try (with_reducible rfl)
        try simp only [Act.put, List.setIfInBounds_toArray, List.set_cons_zero, List.set_cons_succ]
        refine take_runs (i := 2) (v := ?_) (by simp only [List.getElem?_toArray, List.getElem?_cons_succ, List.getElem?_cons_zero]; rfl) (by kernel_rfl) (by kernel_rfl) (by kernel_rfl) rfl (by exact fun _ _ _ h => h) (by rfl) ?_ (by assumption) ?_
        rotate_left
        · intro w hSw; (try dsimp only at hSw); go_simp; try (with_reducible rfl)
        try simp only [Act.put, List.setIfInBounds_toArray, List.set_cons_zero, List.set_cons_succ]
        refine take_runs (i := 4) (v := ?_) (by simp only [List.getElem?_toArray, List.getElem?_cons_succ, List.getElem?_cons_zero]; rfl) (by kernel_rfl) (by kernel_rfl) (by kernel_rfl) rfl (by exact fun _ _ _ h => h) (by rfl) ?_ (by assumption) ?_
        rotate_left
        · intro w hSw; (try dsimp only at hSw); go_simp; try (with_reducible rfl)
        try simp only [Act.put, List.setIfInBounds_toArray, List.set_cons_zero, List.set_cons_succ]
        refine wpAnyH_ready (rs := [1]) (by kernel_rfl) (by simp) ?_
        refine AllReadyH.cons (o := _) (by simp only [List.getElem?_toArray, List.getElem?_cons_succ, List.getElem?_cons_zero]; rfl) (fun K hK => ?_) AllReadyH.nil
        go_simp
        refine (toIndex_T (.slice c0_0 x0_0.length k0_0) (.slice c0_1 x0_1.length k0_1) x0_0 x0_1 (v2.drew) (slR_below tQuery_law A0_0.out d.out) (slR_below tSpanS_law A0_1.out d.out) S0_0.out S0_1.out).mono ?_
        rintro e v4 ⟨cs, rfl, ow, c4⟩
        replace B0 := Lib.hid ((c4.block w.heap.size (Array.getElem?_eq_some_iff.1 B0.out).1).trans B0.out)
        replace B1 := Lib.hid ((c4.block (w.heap.size + 1) (Array.getElem?_eq_some_iff.1 B1.out).1).trans B1.out)
        replace d := Lib.hid (d.out.trans (c4.mono d.out.size))
        have Z_v4 := Lib.hid (show v2.heap.size ≤ v4.heap.size from c4.size)
        clear c4
        replace ow := tIndex_law.lt ow
        obtain ⟨y4_0, y4_1, K4_0, K4_1, rfl, p4_0, p4_1, w4_0, w4_1, d4_0_1⟩ := tIndex_O ow
        obtain ⟨ya4_0, yc4_0, rfl⟩ := slO_len p4_0
        have P4_0 := Lib.hid p4_0
        have Q4_0 := Lib.hid (fun b h => (show (v2.drew).heap.size ≤ b ∧ b < v4.heap.size from w4_0 b h))
        obtain ⟨ya4_1, yc4_1, rfl⟩ := slO_len p4_1
        have P4_1 := Lib.hid p4_1
        have Q4_1 := Lib.hid (fun b h => (show (v2.drew).heap.size ≤ b ∧ b < v4.heap.size from w4_1 b h))
        have D4_0_1 := Lib.hid d4_0_1
        clear d4_0_1
        clear p4_0 w4_0 p4_1 w4_1 ow
        have p_B0_0 := (cell_of_row v4 _ 0 _ _ _ B0.out).trans (show _ = some (Value.slice c0_0 x0_0.length k0_0) from rfl)
        have p_B0_1 := (cell_of_row v4 _ 1 _ _ _ B0.out).trans (show _ = some (Value.slice c0_1 x0_1.length k0_1) from rfl)
        have p_B1_0 := (cell_of_row v4 _ 0 _ _ _ B1.out).trans (show _ = some (Value.int .i64 a1_0) from rfl)
        have p_B1_1 := (cell_of_row v4 _ 1 _ _ _ B1.out).trans (show _ = some (Value.slice c1_1 x1_1.length k1_1) from rfl)
        refine hK.out _ _ ⟨p_B0_0, p_B0_1, p_B1_0, p_B1_1⟩ (fun hHeld => ?_)
        clear p_B0_0 p_B0_1 p_B1_0 p_B1_1
        clear hK K
        try simp only [Act.put, List.setIfInBounds_toArray, List.set_cons_zero, List.set_cons_succ]
        refine wpAnyH_ready (rs := [3]) (by kernel_rfl) (by simp) ?_
        refine AllReadyH.cons (o := _) (by simp only [List.getElem?_toArray, List.getElem?_cons_succ, List.getElem?_cons_zero]; rfl) (fun K hK => ?_) AllReadyH.nil
        go_simp
        refine (toRow_T a1_0 (.slice c1_1 x1_1.length k1_1) x1_1 v4 (slR_below tInt_law A1_1.out d.out) S1_1.out).mono ?_
        rintro e v5 ⟨cs, rfl, ow, c5⟩
        replace B0 := Lib.hid ((c5.block w.heap.size (Array.getElem?_eq_some_iff.1 B0.out).1).trans B0.out)
        replace B1 := Lib.hid ((c5.block (w.heap.size + 1) (Array.getElem?_eq_some_iff.1 B1.out).1).trans B1.out)
        replace P4_0 := Lib.hid (slO_fresh tQuery_law P4_0.out c5)
        replace P4_1 := Lib.hid (slO_fresh tSpanS_law P4_1.out c5)
        replace d := Lib.hid (d.out.trans (c5.mono d.out.size))
        have Z_v5 := Lib.hid (show v4.heap.size ≤ v5.heap.size from c5.size)
        clear c5
        replace ow := tRow_law.lt ow
        obtain ⟨y5_1, K5_1, rfl, p5_1, w5_1⟩ := tRow_O ow
        obtain ⟨ya5_1, yc5_1, rfl⟩ := slO_len p5_1
        have P5_1 := Lib.hid p5_1
        have Q5_1 := Lib.hid (fun b h => (show v4.heap.size ≤ b ∧ b < v5.heap.size from w5_1 b h))
        clear p5_1 w5_1 ow
        have p_B0_0 := (cell_of_row v5 _ 0 _ _ _ B0.out).trans (show _ = some (Value.slice c0_0 x0_0.length k0_0) from rfl)
        have p_B0_1 := (cell_of_row v5 _ 1 _ _ _ B0.out).trans (show _ = some (Value.slice c0_1 x0_1.length k0_1) from rfl)
        have p_B1_0 := (cell_of_row v5 _ 0 _ _ _ B1.out).trans (show _ = some (Value.int .i64 a1_0) from rfl)
        have p_B1_1 := (cell_of_row v5 _ 1 _ _ _ B1.out).trans (show _ = some (Value.slice c1_1 x1_1.length k1_1) from rfl)
        refine hK.out _ _ ⟨p_B0_0, p_B0_1, p_B1_0, p_B1_1⟩ (fun hHeld => ?_)
        clear p_B0_0 p_B0_1 p_B1_0 p_B1_1
        clear hK K
        try simp only [Act.put, List.setIfInBounds_toArray, List.set_cons_zero, List.set_cons_succ]
        refine wpAnyH_ready (rs := [5]) (by kernel_rfl) (by simp) ?_
        refine AllReadyH.cons (o := _) (by simp only [List.getElem?_toArray, List.getElem?_cons_succ, List.getElem?_cons_zero]; rfl) (fun K hK => ?_) AllReadyH.nil
        go_simp
        refine (toIntS_S (.slice c2_0 x2_0.length k2_0) x2_0 v5 (slR_below tInt_law A2_0.out d.out) S2_0.out).mono ?_
        rintro e v6 ⟨y, rfl, o, c6⟩
        replace B0 := Lib.hid ((c6.block w.heap.size (Array.getElem?_eq_some_iff.1 B0.out).1).trans B0.out)
        replace B1 := Lib.hid ((c6.block (w.heap.size + 1) (Array.getElem?_eq_some_iff.1 B1.out).1).trans B1.out)
        replace P4_0 := Lib.hid (slO_fresh tQuery_law P4_0.out c6)
        replace P4_1 := Lib.hid (slO_fresh tSpanS_law P4_1.out c6)
        replace P5_1 := Lib.hid (slO_fresh tInt_law P5_1.out c6)
        replace d := Lib.hid (d.out.trans (c6.mono d.out.size))
        have Z_v6 := Lib.hid (show v5.heap.size ≤ v6.heap.size from c6.size)
        clear c6
        obtain ⟨ya6, yc6, rfl⟩ := slO_len o
        have P6 := Lib.hid (slO_lt tInt_law o)
        have Q6 := Lib.hid (fun b (h : since v5 b ∧ b < v6.heap.size) => (show v5.heap.size ≤ b ∧ b < v6.heap.size from h))
        clear o
        have p_B0_0 := (cell_of_row v6 _ 0 _ _ _ B0.out).trans (show _ = some (Value.slice c0_0 x0_0.length k0_0) from rfl)
        have p_B0_1 := (cell_of_row v6 _ 1 _ _ _ B0.out).trans (show _ = some (Value.slice c0_1 x0_1.length k0_1) from rfl)
        have p_B1_0 := (cell_of_row v6 _ 0 _ _ _ B1.out).trans (show _ = some (Value.int .i64 a1_0) from rfl)
        have p_B1_1 := (cell_of_row v6 _ 1 _ _ _ B1.out).trans (show _ = some (Value.slice c1_1 x1_1.length k1_1) from rfl)
        refine hK.out _ _ ⟨p_B0_0, p_B0_1, p_B1_0, p_B1_1⟩ (fun hHeld => ?_)
        clear p_B0_0 p_B0_1 p_B1_0 p_B1_1
        clear hK K
        try simp only [Act.put, List.setIfInBounds_toArray, List.set_cons_zero, List.set_cons_succ]
        refine wpAnyH_ready (rs := [6]) (by kernel_rfl) (by simp) ?_
        refine AllReadyH.cons (o := _) (by simp only [List.getElem?_toArray, List.getElem?_cons_succ, List.getElem?_cons_zero]; rfl) (fun K hK => ?_) AllReadyH.nil
        go_simp
        refine (HSP.out (.slice ya4_0 x0_0.length yc4_0) (.slice ya4_1 x0_1.length yc4_1) (.slice ya5_1 x1_1.length yc5_1) (.slice ya6 x2_0.length yc6) v6 (slO_reads tQuery_law P4_0.out) (slO_reads tSpanS_law P4_1.out) (slO_reads tInt_law P5_1.out) (slO_reads tInt_law P6.out) HT.out HL2.out).mono ?_
        rintro e v7 ⟨g0, G0, rfl, o0, q0, c7⟩
        replace B0 := Lib.hid ((c7.block w.heap.size (Array.getElem?_eq_some_iff.1 B0.out).1).trans B0.out)
        replace B1 := Lib.hid ((c7.block (w.heap.size + 1) (Array.getElem?_eq_some_iff.1 B1.out).1).trans B1.out)
        replace P4_0 := Lib.hid (slO_fresh tQuery_law P4_0.out c7)
        replace P4_1 := Lib.hid (slO_fresh tSpanS_law P4_1.out c7)
        replace P5_1 := Lib.hid (slO_fresh tInt_law P5_1.out c7)
        replace P6 := Lib.hid (slO_fresh tInt_law P6.out c7)
        replace d := Lib.hid (d.out.trans (c7.mono d.out.size))
        have Z_v7 := Lib.hid (show v6.heap.size ≤ v7.heap.size from c7.size)
        clear c7
        obtain ⟨ya7, yc7, rfl⟩ := slO_len o0
        have P7 := Lib.hid (slO_lt tInt_law o0)
        have Q7 := Lib.hid (fun b (h : _ ∧ b < v7.heap.size) => (show v6.heap.size ≤ b ∧ b < v7.heap.size from ⟨q0 b h.1, h.2⟩))
        clear o0 q0
        have p_B0_0 := (cell_of_row v7 _ 0 _ _ _ B0.out).trans (show _ = some (Value.slice c0_0 x0_0.length k0_0) from rfl)
        have p_B0_1 := (cell_of_row v7 _ 1 _ _ _ B0.out).trans (show _ = some (Value.slice c0_1 x0_1.length k0_1) from rfl)
        have p_B1_0 := (cell_of_row v7 _ 0 _ _ _ B1.out).trans (show _ = some (Value.int .i64 a1_0) from rfl)
        have p_B1_1 := (cell_of_row v7 _ 1 _ _ _ B1.out).trans (show _ = some (Value.slice c1_1 x1_1.length k1_1) from rfl)
        refine hK.out _ _ ⟨p_B0_0, p_B0_1, p_B1_0, p_B1_1⟩ (fun hHeld => ?_)
        clear p_B0_0 p_B0_1 p_B1_0 p_B1_1
        clear hK K
        try simp only [Act.put, List.setIfInBounds_toArray, List.set_cons_zero, List.set_cons_succ]
        refine take_runs (i := 7) (v := ?_) (by simp only [List.getElem?_toArray, List.getElem?_cons_succ, List.getElem?_cons_zero]; rfl) (by kernel_rfl) (by kernel_rfl) (by kernel_rfl) rfl (by exact fun _ _ _ h => h) (by rfl) ?_ (by assumption) ?_
        rotate_left
        · intro w hSw; (try dsimp only at hSw); go_simp; try (with_reducible rfl)
        try simp only [Act.put, List.setIfInBounds_toArray, List.set_cons_zero, List.set_cons_succ]
        refine take_runs (i := 8) (v := ?_) (by simp only [List.getElem?_toArray, List.getElem?_cons_succ, List.getElem?_cons_zero]; rfl) (by kernel_rfl) (by kernel_rfl) (by kernel_rfl) rfl (by exact fun _ _ _ h => h) (by rfl) ?_ (by assumption) ?_
        rotate_left
        · intro w hSw; (try dsimp only at hSw); go_simp; try (with_reducible rfl)
        try simp only [Act.put, List.setIfInBounds_toArray, List.set_cons_zero, List.set_cons_succ]
        refine take_runs (i := 9) (v := ?_) (by simp only [List.getElem?_toArray, List.getElem?_cons_succ, List.getElem?_cons_zero]; rfl) (by kernel_rfl) (by kernel_rfl) (by kernel_rfl) rfl (by exact fun _ _ _ h => h) (by rfl) ?_ (by assumption) ?_
        rotate_left
        · intro w hSw; (try dsimp only at hSw); go_simp; try (with_reducible rfl)
        try simp only [Act.put, List.setIfInBounds_toArray, List.set_cons_zero, List.set_cons_succ]
        refine take_runs (i := 10) (v := ?_) (by simp only [List.getElem?_toArray, List.getElem?_cons_succ, List.getElem?_cons_zero]; rfl) (by kernel_rfl) (by kernel_rfl) (by kernel_rfl) rfl (by exact fun _ _ _ h => h) (by rfl) ?_ (by assumption) ?_
        rotate_left
        · intro w hSw; (try dsimp only at hSw); go_simp; try (with_reducible rfl)
        try simp only [Act.put, List.setIfInBounds_toArray, List.set_cons_zero, List.set_cons_succ]
        refine take_runs (i := 11) (v := ?_) (by simp only [List.getElem?_toArray, List.getElem?_cons_succ, List.getElem?_cons_zero]; rfl) (by kernel_rfl) (by kernel_rfl) (by kernel_rfl) rfl (by exact fun _ _ _ h => h) (by rfl) ?_ (by assumption) ?_
        rotate_left
        · intro w hSw; (try dsimp only at hSw); go_simp; try (with_reducible rfl)
        try simp only [Act.put, List.setIfInBounds_toArray, List.set_cons_zero, List.set_cons_succ]
        refine wpAnyH_done (by kernel_rfl) ?_ _
        clear hHeld
        have p_B0_0 := (cell_of_row v7 _ 0 _ _ _ B0.out).trans (show _ = some (Value.slice c0_0 x0_0.length k0_0) from rfl)
        have p_B0_1 := (cell_of_row v7 _ 1 _ _ _ B0.out).trans (show _ = some (Value.slice c0_1 x0_1.length k0_1) from rfl)
        go_wp2_with fail
        clear p_B0_0 p_B0_1
        refine (toIndex_T (.slice c0_0 x0_0.length k0_0) (.slice c0_1 x0_1.length k0_1) x0_0 x0_1 v7 (slR_below tQuery_law A0_0.out d.out) (slR_below tSpanS_law A0_1.out d.out) S0_0.out S0_1.out).mono ?_
        rintro e v8 ⟨cs, rfl, ow, c8⟩
        replace B0 := Lib.hid ((c8.block w.heap.size (Array.getElem?_eq_some_iff.1 B0.out).1).trans B0.out)
        replace B1 := Lib.hid ((c8.block (w.heap.size + 1) (Array.getElem?_eq_some_iff.1 B1.out).1).trans B1.out)
        replace P4_0 := Lib.hid (slO_fresh tQuery_law P4_0.out c8)
        replace P4_1 := Lib.hid (slO_fresh tSpanS_law P4_1.out c8)
        replace P5_1 := Lib.hid (slO_fresh tInt_law P5_1.out c8)
        replace P6 := Lib.hid (slO_fresh tInt_law P6.out c8)
        replace P7 := Lib.hid (slO_fresh tInt_law P7.out c8)
        replace d := Lib.hid (d.out.trans (c8.mono d.out.size))
        have Z_v8 := Lib.hid (show v7.heap.size ≤ v8.heap.size from c8.size)
        clear c8
        replace ow := tIndex_law.lt ow
        obtain ⟨y8_0, y8_1, K8_0, K8_1, rfl, p8_0, p8_1, w8_0, w8_1, d8_0_1⟩ := tIndex_O ow
        obtain ⟨ya8_0, yc8_0, rfl⟩ := slO_len p8_0
        have P8_0 := Lib.hid p8_0
        have Q8_0 := Lib.hid (fun b h => (show v7.heap.size ≤ b ∧ b < v8.heap.size from w8_0 b h))
        obtain ⟨ya8_1, yc8_1, rfl⟩ := slO_len p8_1
        have P8_1 := Lib.hid p8_1
        have Q8_1 := Lib.hid (fun b h => (show v7.heap.size ≤ b ∧ b < v8.heap.size from w8_1 b h))
        have D8_0_1 := Lib.hid d8_0_1
        clear d8_0_1
        clear p8_0 w8_0 p8_1 w8_1 ow
        have hal : Below v8.heap.size v8 (v8.alloc (.cells #[.slice ya8_0 x0_0.length yc8_0, .slice ya8_1 x0_1.length yc8_1] 27)) := (Below.refl _ _).alloc (Nat.le_refl _) _
        have X1 := Lib.hid (heap_alloc_new v8 (.cells #[.slice ya8_0 x0_0.length yc8_0, .slice ya8_1 x0_1.length yc8_1] 27))
        have Y_X1 := Lib.hid (show v8.heap.size < (v8.alloc (.cells #[.slice ya8_0 x0_0.length yc8_0, .slice ya8_1 x0_1.length yc8_1] 27)).heap.size by simp [World.size_alloc])
        replace B0 := Lib.hid ((hal.block w.heap.size (Array.getElem?_eq_some_iff.1 B0.out).1).trans B0.out)
        replace B1 := Lib.hid ((hal.block (w.heap.size + 1) (Array.getElem?_eq_some_iff.1 B1.out).1).trans B1.out)
        replace P4_0 := Lib.hid (slO_fresh tQuery_law P4_0.out hal)
        replace P4_1 := Lib.hid (slO_fresh tSpanS_law P4_1.out hal)
        replace P5_1 := Lib.hid (slO_fresh tInt_law P5_1.out hal)
        replace P6 := Lib.hid (slO_fresh tInt_law P6.out hal)
        replace P7 := Lib.hid (slO_fresh tInt_law P7.out hal)
        replace P8_0 := Lib.hid (slO_fresh tQuery_law P8_0.out hal)
        replace P8_1 := Lib.hid (slO_fresh tSpanS_law P8_1.out hal)
        replace d := Lib.hid (d.out.trans (hal.mono d.out.size))
        clear hal
        have p_B1_0 := (cell_of_row (v8.alloc (.cells #[.slice ya8_0 x0_0.length yc8_0, .slice ya8_1 x0_1.length yc8_1] 27)) _ 0 _ _ _ B1.out).trans (show _ = some (Value.int .i64 a1_0) from rfl)
        have p_B1_1 := (cell_of_row (v8.alloc (.cells #[.slice ya8_0 x0_0.length yc8_0, .slice ya8_1 x0_1.length yc8_1] 27)) _ 1 _ _ _ B1.out).trans (show _ = some (Value.slice c1_1 x1_1.length k1_1) from rfl)
        go_wp2_with fail
        clear p_B1_0 p_B1_1
        generalize (v8.alloc (.cells #[.slice ya8_0 x0_0.length yc8_0, .slice ya8_1 x0_1.length yc8_1] 27)) = u9 at *
        refine (toRow_T a1_0 (.slice c1_1 x1_1.length k1_1) x1_1 u9 (slR_below tInt_law A1_1.out d.out) S1_1.out).mono ?_
        rintro e v10 ⟨cs, rfl, ow, c10⟩
        replace B0 := Lib.hid ((c10.block w.heap.size (Array.getElem?_eq_some_iff.1 B0.out).1).trans B0.out)
        replace B1 := Lib.hid ((c10.block (w.heap.size + 1) (Array.getElem?_eq_some_iff.1 B1.out).1).trans B1.out)
        replace X1 := Lib.hid ((c10.block v8.heap.size (Array.getElem?_eq_some_iff.1 X1.out).1).trans X1.out)
        replace P4_0 := Lib.hid (slO_fresh tQuery_law P4_0.out c10)
        replace P4_1 := Lib.hid (slO_fresh tSpanS_law P4_1.out c10)
        replace P5_1 := Lib.hid (slO_fresh tInt_law P5_1.out c10)
        replace P6 := Lib.hid (slO_fresh tInt_law P6.out c10)
        replace P7 := Lib.hid (slO_fresh tInt_law P7.out c10)
        replace P8_0 := Lib.hid (slO_fresh tQuery_law P8_0.out c10)
        replace P8_1 := Lib.hid (slO_fresh tSpanS_law P8_1.out c10)
        replace d := Lib.hid (d.out.trans (c10.mono d.out.size))
        have Z_v10 := Lib.hid (show u9.heap.size ≤ v10.heap.size from c10.size)
        clear c10
        replace ow := tRow_law.lt ow
        obtain ⟨y10_1, K10_1, rfl, p10_1, w10_1⟩ := tRow_O ow
        obtain ⟨ya10_1, yc10_1, rfl⟩ := slO_len p10_1
        have P10_1 := Lib.hid p10_1
        have Q10_1 := Lib.hid (fun b h => (show u9.heap.size ≤ b ∧ b < v10.heap.size from w10_1 b h))
        clear p10_1 w10_1 ow
        have hal : Below v10.heap.size v10 (v10.alloc (.cells #[.int .i64 a1_0, .slice ya10_1 x1_1.length yc10_1] 30)) := (Below.refl _ _).alloc (Nat.le_refl _) _
        have X2 := Lib.hid (heap_alloc_new v10 (.cells #[.int .i64 a1_0, .slice ya10_1 x1_1.length yc10_1] 30))
        have Y_X2 := Lib.hid (show v10.heap.size < (v10.alloc (.cells #[.int .i64 a1_0, .slice ya10_1 x1_1.length yc10_1] 30)).heap.size by simp [World.size_alloc])
        replace B0 := Lib.hid ((hal.block w.heap.size (Array.getElem?_eq_some_iff.1 B0.out).1).trans B0.out)
        replace B1 := Lib.hid ((hal.block (w.heap.size + 1) (Array.getElem?_eq_some_iff.1 B1.out).1).trans B1.out)
        replace X1 := Lib.hid ((hal.block v8.heap.size (Array.getElem?_eq_some_iff.1 X1.out).1).trans X1.out)
        replace P4_0 := Lib.hid (slO_fresh tQuery_law P4_0.out hal)
        replace P4_1 := Lib.hid (slO_fresh tSpanS_law P4_1.out hal)
        replace P5_1 := Lib.hid (slO_fresh tInt_law P5_1.out hal)
        replace P6 := Lib.hid (slO_fresh tInt_law P6.out hal)
        replace P7 := Lib.hid (slO_fresh tInt_law P7.out hal)
        replace P8_0 := Lib.hid (slO_fresh tQuery_law P8_0.out hal)
        replace P8_1 := Lib.hid (slO_fresh tSpanS_law P8_1.out hal)
        replace P10_1 := Lib.hid (slO_fresh tInt_law P10_1.out hal)
        replace d := Lib.hid (d.out.trans (hal.mono d.out.size))
        clear hal
        go_wp2_with fail
        generalize (v10.alloc (.cells #[.int .i64 a1_0, .slice ya10_1 x1_1.length yc10_1] 30)) = u11 at *
        refine (toIntS_S (.slice c2_0 x2_0.length k2_0) x2_0 u11 (slR_below tInt_law A2_0.out d.out) S2_0.out).mono ?_
        rintro e v12 ⟨y, rfl, o, c12⟩
        replace B0 := Lib.hid ((c12.block w.heap.size (Array.getElem?_eq_some_iff.1 B0.out).1).trans B0.out)
        replace B1 := Lib.hid ((c12.block (w.heap.size + 1) (Array.getElem?_eq_some_iff.1 B1.out).1).trans B1.out)
        replace X1 := Lib.hid ((c12.block v8.heap.size (Array.getElem?_eq_some_iff.1 X1.out).1).trans X1.out)
        replace X2 := Lib.hid ((c12.block v10.heap.size (Array.getElem?_eq_some_iff.1 X2.out).1).trans X2.out)
        replace P4_0 := Lib.hid (slO_fresh tQuery_law P4_0.out c12)
        replace P4_1 := Lib.hid (slO_fresh tSpanS_law P4_1.out c12)
        replace P5_1 := Lib.hid (slO_fresh tInt_law P5_1.out c12)
        replace P6 := Lib.hid (slO_fresh tInt_law P6.out c12)
        replace P7 := Lib.hid (slO_fresh tInt_law P7.out c12)
        replace P8_0 := Lib.hid (slO_fresh tQuery_law P8_0.out c12)
        replace P8_1 := Lib.hid (slO_fresh tSpanS_law P8_1.out c12)
        replace P10_1 := Lib.hid (slO_fresh tInt_law P10_1.out c12)
        replace d := Lib.hid (d.out.trans (c12.mono d.out.size))
        have Z_v12 := Lib.hid (show u11.heap.size ≤ v12.heap.size from c12.size)
        clear c12
        obtain ⟨ya12, yc12, rfl⟩ := slO_len o
        have P12 := Lib.hid (slO_lt tInt_law o)
        have Q12 := Lib.hid (fun b (h : since u11 b ∧ b < v12.heap.size) => (show u11.heap.size ≤ b ∧ b < v12.heap.size from h))
        clear o
        have p_X1_0 := (cell_of_row v12 _ 0 _ _ _ X1.out).trans (show _ = some (Value.slice ya8_0 x0_0.length yc8_0) from rfl)
        have p_X1_1 := (cell_of_row v12 _ 1 _ _ _ X1.out).trans (show _ = some (Value.slice ya8_1 x0_1.length yc8_1) from rfl)
        have p_X2_0 := (cell_of_row v12 _ 0 _ _ _ X2.out).trans (show _ = some (Value.int .i64 a1_0) from rfl)
        have p_X2_1 := (cell_of_row v12 _ 1 _ _ _ X2.out).trans (show _ = some (Value.slice ya10_1 x1_1.length yc10_1) from rfl)
        go_wp2_with fail
        clear p_X1_0 p_X1_1 p_X2_0 p_X2_1
        refine (HIM.out (.slice ya8_0 x0_0.length yc8_0) (.slice ya8_1 x0_1.length yc8_1) (.slice ya10_1 x1_1.length yc10_1) (.slice ya12 x2_0.length yc12) v12 (HB0.out.trans (d.out.mono HB0.out.size)) (slO_reads tQuery_law P8_0.out) (slO_reads tSpanS_law P8_1.out) (slO_reads tInt_law P10_1.out) (slO_reads tInt_law P12.out) HT.out HL2.out).mono ?_
        rintro e v13 ⟨g0, G0, rfl, o0, q0, c13⟩
        replace B0 := Lib.hid ((c13.block w.heap.size (Array.getElem?_eq_some_iff.1 B0.out).1).trans B0.out)
        replace B1 := Lib.hid ((c13.block (w.heap.size + 1) (Array.getElem?_eq_some_iff.1 B1.out).1).trans B1.out)
        replace X1 := Lib.hid ((c13.block v8.heap.size (Array.getElem?_eq_some_iff.1 X1.out).1).trans X1.out)
        replace X2 := Lib.hid ((c13.block v10.heap.size (Array.getElem?_eq_some_iff.1 X2.out).1).trans X2.out)
        replace P4_0 := Lib.hid (slO_fresh tQuery_law P4_0.out c13)
        replace P4_1 := Lib.hid (slO_fresh tSpanS_law P4_1.out c13)
        replace P5_1 := Lib.hid (slO_fresh tInt_law P5_1.out c13)
        replace P6 := Lib.hid (slO_fresh tInt_law P6.out c13)
        replace P7 := Lib.hid (slO_fresh tInt_law P7.out c13)
        replace P8_0 := Lib.hid (slO_fresh tQuery_law P8_0.out c13)
        replace P8_1 := Lib.hid (slO_fresh tSpanS_law P8_1.out c13)
        replace P10_1 := Lib.hid (slO_fresh tInt_law P10_1.out c13)
        replace P12 := Lib.hid (slO_fresh tInt_law P12.out c13)
        replace d := Lib.hid (d.out.trans (c13.mono d.out.size))
        have Z_v13 := Lib.hid (show v12.heap.size ≤ v13.heap.size from c13.size)
        clear c13
        obtain ⟨ya13, yc13, rfl⟩ := slO_len o0
        have P13 := Lib.hid (slO_lt tInt_law o0)
        have Q13 := Lib.hid (fun b (h : _ ∧ b < v13.heap.size) => (show v12.heap.size ≤ b ∧ b < v13.heap.size from ⟨q0 b h.1, h.2⟩))
        clear o0 q0
        go_wp2_with fail
        refine (eqIntS_S (.slice ya13 r0.length yc13) (.slice ya7 r0.length yc7) r0 v13 (slO_reads tInt_law P13.out) (slO_reads tInt_law P7.out) Z0.out).mono ?_
        rintro e v14 ⟨rfl, c14⟩
        replace B0 := Lib.hid ((c14.block w.heap.size (Array.getElem?_eq_some_iff.1 B0.out).1).trans B0.out)
        replace B1 := Lib.hid ((c14.block (w.heap.size + 1) (Array.getElem?_eq_some_iff.1 B1.out).1).trans B1.out)
        replace X1 := Lib.hid ((c14.block v8.heap.size (Array.getElem?_eq_some_iff.1 X1.out).1).trans X1.out)
        replace X2 := Lib.hid ((c14.block v10.heap.size (Array.getElem?_eq_some_iff.1 X2.out).1).trans X2.out)
        replace P4_0 := Lib.hid (slO_fresh tQuery_law P4_0.out c14)
        replace P4_1 := Lib.hid (slO_fresh tSpanS_law P4_1.out c14)
        replace P5_1 := Lib.hid (slO_fresh tInt_law P5_1.out c14)
        replace P6 := Lib.hid (slO_fresh tInt_law P6.out c14)
        replace P7 := Lib.hid (slO_fresh tInt_law P7.out c14)
        replace P8_0 := Lib.hid (slO_fresh tQuery_law P8_0.out c14)
        replace P8_1 := Lib.hid (slO_fresh tSpanS_law P8_1.out c14)
        replace P10_1 := Lib.hid (slO_fresh tInt_law P10_1.out c14)
        replace P12 := Lib.hid (slO_fresh tInt_law P12.out c14)
        replace P13 := Lib.hid (slO_fresh tInt_law P13.out c14)
        replace d := Lib.hid (d.out.trans (c14.mono d.out.size))
        have Z_v14 := Lib.hid (show v13.heap.size ≤ v14.heap.size from c14.size)
        clear c14
        go_wp2
        have p_B0_0 := (cell_of_row v14 _ 0 _ _ _ B0.out).trans (show _ = some (Value.slice c0_0 x0_0.length k0_0) from rfl)
        have p_B0_1 := (cell_of_row v14 _ 1 _ _ _ B0.out).trans (show _ = some (Value.slice c0_1 x0_1.length k0_1) from rfl)
        have p_X1_0 := (cell_of_row v14 _ 0 _ _ _ X1.out).trans (show _ = some (Value.slice ya8_0 x0_0.length yc8_0) from rfl)
        have p_X1_1 := (cell_of_row v14 _ 1 _ _ _ X1.out).trans (show _ = some (Value.slice ya8_1 x0_1.length yc8_1) from rfl)
        refine wp_region_held_drew (S := fun w' => w'.cell? ⟨w.heap.size, 0, none⟩ = some (Value.slice c0_0 x0_0.length k0_0) ∧ w'.cell? ⟨w.heap.size, 1, none⟩ = some (Value.slice c0_1 x0_1.length k0_1) ∧ w'.cell? ⟨v8.heap.size, 0, none⟩ = some (Value.slice ya8_0 x0_0.length yc8_0) ∧ w'.cell? ⟨v8.heap.size, 1, none⟩ = some (Value.slice ya8_1 x0_1.length yc8_1)) (by kernel_rfl) ⟨p_B0_0, p_B0_1, p_X1_0, p_X1_1⟩ (fun hHeld => ?_)
        clear p_B0_0 p_B0_1 p_X1_0 p_X1_1
        have cd15 : Below v14.heap.size v14 v14.drew := below_drew (Below.refl _ _)
        replace B0 := Lib.hid ((cd15.block w.heap.size (Array.getElem?_eq_some_iff.1 B0.out).1).trans B0.out)
        replace B1 := Lib.hid ((cd15.block (w.heap.size + 1) (Array.getElem?_eq_some_iff.1 B1.out).1).trans B1.out)
        replace X1 := Lib.hid ((cd15.block v8.heap.size (Array.getElem?_eq_some_iff.1 X1.out).1).trans X1.out)
        replace X2 := Lib.hid ((cd15.block v10.heap.size (Array.getElem?_eq_some_iff.1 X2.out).1).trans X2.out)
        replace P4_0 := Lib.hid (slO_fresh tQuery_law P4_0.out cd15)
        replace P4_1 := Lib.hid (slO_fresh tSpanS_law P4_1.out cd15)
        replace P5_1 := Lib.hid (slO_fresh tInt_law P5_1.out cd15)
        replace P6 := Lib.hid (slO_fresh tInt_law P6.out cd15)
        replace P7 := Lib.hid (slO_fresh tInt_law P7.out cd15)
        replace P8_0 := Lib.hid (slO_fresh tQuery_law P8_0.out cd15)
        replace P8_1 := Lib.hid (slO_fresh tSpanS_law P8_1.out cd15)
        replace P10_1 := Lib.hid (slO_fresh tInt_law P10_1.out cd15)
        replace P12 := Lib.hid (slO_fresh tInt_law P12.out cd15)
        replace P13 := Lib.hid (slO_fresh tInt_law P13.out cd15)
        replace d := Lib.hid (d.out.trans (cd15.mono d.out.size))
        clear cd15
        refine take_runs (i := 0) (v := ?_) (by simp only [List.getElem?_toArray, List.getElem?_cons_succ, List.getElem?_cons_zero]; rfl) (by kernel_rfl) (by kernel_rfl) (by kernel_rfl) rfl (by exact fun _ _ _ h => h) (by rfl) ?_ (by assumption) ?_
        rotate_left
        · intro w hSw; (try dsimp only at hSw); go_simp; try (with_reducible rfl)
        try simp only [Act.put, List.setIfInBounds_toArray, List.set_cons_zero, List.set_cons_succ]
        refine take_runs (i := 1) (v := ?_) (by simp only [List.getElem?_toArray, List.getElem?_cons_succ, List.getElem?_cons_zero]; rfl) (by kernel_rfl) (by kernel_rfl) (by kernel_rfl) rfl (by exact fun _ _ _ h => h) (by rfl) ?_ (by assumption) ?_
        rotate_left
        · intro w hSw; (try dsimp only at hSw); go_simp; try (with_reducible rfl)
        try simp only [Act.put, List.setIfInBounds_toArray, List.set_cons_zero, List.set_cons_succ]
        refine wpAnyH_ready (rs := [2]) (by kernel_rfl) (by simp) ?_
        refine AllReadyH.cons (o := _) (by simp only [List.getElem?_toArray, List.getElem?_cons_succ, List.getElem?_cons_zero]; rfl) (fun K hK => ?_) AllReadyH.nil
        go_simp
        refine (toIndex_T (.slice c0_0 x0_0.length k0_0) (.slice c0_1 x0_1.length k0_1) x0_0 x0_1 (v14.drew) (slR_below tQuery_law A0_0.out d.out) (slR_below tSpanS_law A0_1.out d.out) S0_0.out S0_1.out).mono ?_
        rintro e v16 ⟨cs, rfl, ow, c16⟩
        replace B0 := Lib.hid ((c16.block w.heap.size (Array.getElem?_eq_some_iff.1 B0.out).1).trans B0.out)
        replace B1 := Lib.hid ((c16.block (w.heap.size + 1) (Array.getElem?_eq_some_iff.1 B1.out).1).trans B1.out)
        replace X1 := Lib.hid ((c16.block v8.heap.size (Array.getElem?_eq_some_iff.1 X1.out).1).trans X1.out)
        replace X2 := Lib.hid ((c16.block v10.heap.size (Array.getElem?_eq_some_iff.1 X2.out).1).trans X2.out)
        replace P4_0 := Lib.hid (slO_fresh tQuery_law P4_0.out c16)
        replace P4_1 := Lib.hid (slO_fresh tSpanS_law P4_1.out c16)
        replace P5_1 := Lib.hid (slO_fresh tInt_law P5_1.out c16)
        replace P6 := Lib.hid (slO_fresh tInt_law P6.out c16)
        replace P7 := Lib.hid (slO_fresh tInt_law P7.out c16)
        replace P8_0 := Lib.hid (slO_fresh tQuery_law P8_0.out c16)
        replace P8_1 := Lib.hid (slO_fresh tSpanS_law P8_1.out c16)
        replace P10_1 := Lib.hid (slO_fresh tInt_law P10_1.out c16)
        replace P12 := Lib.hid (slO_fresh tInt_law P12.out c16)
        replace P13 := Lib.hid (slO_fresh tInt_law P13.out c16)
        replace d := Lib.hid (d.out.trans (c16.mono d.out.size))
        have Z_v16 := Lib.hid (show v14.heap.size ≤ v16.heap.size from c16.size)
        clear c16
        replace ow := tIndex_law.lt ow
        obtain ⟨y16_0, y16_1, K16_0, K16_1, rfl, p16_0, p16_1, w16_0, w16_1, d16_0_1⟩ := tIndex_O ow
        obtain ⟨ya16_0, yc16_0, rfl⟩ := slO_len p16_0
        have P16_0 := Lib.hid p16_0
        have Q16_0 := Lib.hid (fun b h => (show (v14.drew).heap.size ≤ b ∧ b < v16.heap.size from w16_0 b h))
        obtain ⟨ya16_1, yc16_1, rfl⟩ := slO_len p16_1
        have P16_1 := Lib.hid p16_1
        have Q16_1 := Lib.hid (fun b h => (show (v14.drew).heap.size ≤ b ∧ b < v16.heap.size from w16_1 b h))
        have D16_0_1 := Lib.hid d16_0_1
        clear d16_0_1
        clear p16_0 w16_0 p16_1 w16_1 ow
        have p_B0_0 := (cell_of_row v16 _ 0 _ _ _ B0.out).trans (show _ = some (Value.slice c0_0 x0_0.length k0_0) from rfl)
        have p_B0_1 := (cell_of_row v16 _ 1 _ _ _ B0.out).trans (show _ = some (Value.slice c0_1 x0_1.length k0_1) from rfl)
        have p_X1_0 := (cell_of_row v16 _ 0 _ _ _ X1.out).trans (show _ = some (Value.slice ya8_0 x0_0.length yc8_0) from rfl)
        have p_X1_1 := (cell_of_row v16 _ 1 _ _ _ X1.out).trans (show _ = some (Value.slice ya8_1 x0_1.length yc8_1) from rfl)
        refine hK.out _ _ ⟨p_B0_0, p_B0_1, p_X1_0, p_X1_1⟩ (fun hHeld => ?_)
        clear p_B0_0 p_B0_1 p_X1_0 p_X1_1
        clear hK K
        try simp only [Act.put, List.setIfInBounds_toArray, List.set_cons_zero, List.set_cons_succ]
        refine wpAnyH_ready (rs := [3]) (by kernel_rfl) (by simp) ?_
        refine AllReadyH.cons (o := _) (by simp only [List.getElem?_toArray, List.getElem?_cons_succ, List.getElem?_cons_zero]; rfl) (fun K hK => ?_) AllReadyH.nil
        go_simp
        refine (eqIndex_T (.slice ya8_0 x0_0.length yc8_0) (.slice ya8_1 x0_1.length yc8_1) x0_0 x0_1 (.slice ya16_0 x0_0.length yc16_0) (.slice ya16_1 x0_1.length yc16_1) v16 (slO_reads tQuery_law P8_0.out) (slO_reads tSpanS_law P8_1.out) (slO_reads tQuery_law P16_0.out) (slO_reads tSpanS_law P16_1.out) S0_0.out S0_1.out).mono ?_
        rintro e v17 ⟨rfl, c17⟩
        replace B0 := Lib.hid ((c17.block w.heap.size (Array.getElem?_eq_some_iff.1 B0.out).1).trans B0.out)
        replace B1 := Lib.hid ((c17.block (w.heap.size + 1) (Array.getElem?_eq_some_iff.1 B1.out).1).trans B1.out)
        replace X1 := Lib.hid ((c17.block v8.heap.size (Array.getElem?_eq_some_iff.1 X1.out).1).trans X1.out)
        replace X2 := Lib.hid ((c17.block v10.heap.size (Array.getElem?_eq_some_iff.1 X2.out).1).trans X2.out)
        replace P4_0 := Lib.hid (slO_fresh tQuery_law P4_0.out c17)
        replace P4_1 := Lib.hid (slO_fresh tSpanS_law P4_1.out c17)
        replace P5_1 := Lib.hid (slO_fresh tInt_law P5_1.out c17)
        replace P6 := Lib.hid (slO_fresh tInt_law P6.out c17)
        replace P7 := Lib.hid (slO_fresh tInt_law P7.out c17)
        replace P8_0 := Lib.hid (slO_fresh tQuery_law P8_0.out c17)
        replace P8_1 := Lib.hid (slO_fresh tSpanS_law P8_1.out c17)
        replace P10_1 := Lib.hid (slO_fresh tInt_law P10_1.out c17)
        replace P12 := Lib.hid (slO_fresh tInt_law P12.out c17)
        replace P13 := Lib.hid (slO_fresh tInt_law P13.out c17)
        replace P16_0 := Lib.hid (slO_fresh tQuery_law P16_0.out c17)
        replace P16_1 := Lib.hid (slO_fresh tSpanS_law P16_1.out c17)
        replace d := Lib.hid (d.out.trans (c17.mono d.out.size))
        have Z_v17 := Lib.hid (show v16.heap.size ≤ v17.heap.size from c17.size)
        clear c17
        clear P16_0 P16_1
        have p_B0_0 := (cell_of_row v17 _ 0 _ _ _ B0.out).trans (show _ = some (Value.slice c0_0 x0_0.length k0_0) from rfl)
        have p_B0_1 := (cell_of_row v17 _ 1 _ _ _ B0.out).trans (show _ = some (Value.slice c0_1 x0_1.length k0_1) from rfl)
        have p_X1_0 := (cell_of_row v17 _ 0 _ _ _ X1.out).trans (show _ = some (Value.slice ya8_0 x0_0.length yc8_0) from rfl)
        have p_X1_1 := (cell_of_row v17 _ 1 _ _ _ X1.out).trans (show _ = some (Value.slice ya8_1 x0_1.length yc8_1) from rfl)
        refine hK.out _ _ ⟨p_B0_0, p_B0_1, p_X1_0, p_X1_1⟩ (fun hHeld => ?_)
        clear p_B0_0 p_B0_1 p_X1_0 p_X1_1
        clear hK K
        try simp only [Act.put, List.setIfInBounds_toArray, List.set_cons_zero, List.set_cons_succ]
        refine take_runs (i := 4) (v := ?_) (by simp only [List.getElem?_toArray, List.getElem?_cons_succ, List.getElem?_cons_zero]; rfl) (by kernel_rfl) (by kernel_rfl) (by kernel_rfl) rfl (by exact fun _ _ _ h => h) (by rfl) ?_ (by assumption) ?_
        rotate_left
        · intro w hSw; (try dsimp only at hSw); go_simp; try (with_reducible rfl)
        try simp only [Act.put, List.setIfInBounds_toArray, List.set_cons_zero, List.set_cons_succ]
        refine wpAnyH_done (by kernel_rfl) ?_ _
        clear hHeld
        go_wp2
        have p_B1_0 := (cell_of_row v17 _ 0 _ _ _ B1.out).trans (show _ = some (Value.int .i64 a1_0) from rfl)
        have p_B1_1 := (cell_of_row v17 _ 1 _ _ _ B1.out).trans (show _ = some (Value.slice c1_1 x1_1.length k1_1) from rfl)
        have p_X2_0 := (cell_of_row v17 _ 0 _ _ _ X2.out).trans (show _ = some (Value.int .i64 a1_0) from rfl)
        have p_X2_1 := (cell_of_row v17 _ 1 _ _ _ X2.out).trans (show _ = some (Value.slice ya10_1 x1_1.length yc10_1) from rfl)
        refine wp_region_held_drew (S := fun w' => w'.cell? ⟨(w.heap.size + 1), 0, none⟩ = some (Value.int .i64 a1_0) ∧ w'.cell? ⟨(w.heap.size + 1), 1, none⟩ = some (Value.slice c1_1 x1_1.length k1_1) ∧ w'.cell? ⟨v10.heap.size, 0, none⟩ = some (Value.int .i64 a1_0) ∧ w'.cell? ⟨v10.heap.size, 1, none⟩ = some (Value.slice ya10_1 x1_1.length yc10_1)) (by kernel_rfl) ⟨p_B1_0, p_B1_1, p_X2_0, p_X2_1⟩ (fun hHeld => ?_)
        clear p_B1_0 p_B1_1 p_X2_0 p_X2_1
        have cd18 : Below v17.heap.size v17 v17.drew := below_drew (Below.refl _ _)
        replace B0 := Lib.hid ((cd18.block w.heap.size (Array.getElem?_eq_some_iff.1 B0.out).1).trans B0.out)
        replace B1 := Lib.hid ((cd18.block (w.heap.size + 1) (Array.getElem?_eq_some_iff.1 B1.out).1).trans B1.out)
        replace X1 := Lib.hid ((cd18.block v8.heap.size (Array.getElem?_eq_some_iff.1 X1.out).1).trans X1.out)
        replace X2 := Lib.hid ((cd18.block v10.heap.size (Array.getElem?_eq_some_iff.1 X2.out).1).trans X2.out)
        replace P4_0 := Lib.hid (slO_fresh tQuery_law P4_0.out cd18)
        replace P4_1 := Lib.hid (slO_fresh tSpanS_law P4_1.out cd18)
        replace P5_1 := Lib.hid (slO_fresh tInt_law P5_1.out cd18)
        replace P6 := Lib.hid (slO_fresh tInt_law P6.out cd18)
        replace P7 := Lib.hid (slO_fresh tInt_law P7.out cd18)
        replace P8_0 := Lib.hid (slO_fresh tQuery_law P8_0.out cd18)
        replace P8_1 := Lib.hid (slO_fresh tSpanS_law P8_1.out cd18)
        replace P10_1 := Lib.hid (slO_fresh tInt_law P10_1.out cd18)
        replace P12 := Lib.hid (slO_fresh tInt_law P12.out cd18)
        replace P13 := Lib.hid (slO_fresh tInt_law P13.out cd18)
        replace d := Lib.hid (d.out.trans (cd18.mono d.out.size))
        clear cd18
        refine take_runs (i := 0) (v := ?_) (by simp only [List.getElem?_toArray, List.getElem?_cons_succ, List.getElem?_cons_zero]; rfl) (by kernel_rfl) (by kernel_rfl) (by kernel_rfl) rfl (by exact fun _ _ _ h => h) (by rfl) ?_ (by assumption) ?_
        rotate_left
        · intro w hSw; (try dsimp only at hSw); go_simp; try (with_reducible rfl)
        try simp only [Act.put, List.setIfInBounds_toArray, List.set_cons_zero, List.set_cons_succ]
        refine take_runs (i := 1) (v := ?_) (by simp only [List.getElem?_toArray, List.getElem?_cons_succ, List.getElem?_cons_zero]; rfl) (by kernel_rfl) (by kernel_rfl) (by kernel_rfl) rfl (by exact fun _ _ _ h => h) (by rfl) ?_ (by assumption) ?_
        rotate_left
        · intro w hSw; (try dsimp only at hSw); go_simp; try (with_reducible rfl)
        try simp only [Act.put, List.setIfInBounds_toArray, List.set_cons_zero, List.set_cons_succ]
        refine wpAnyH_ready (rs := [2]) (by kernel_rfl) (by simp) ?_
        refine AllReadyH.cons (o := _) (by simp only [List.getElem?_toArray, List.getElem?_cons_succ, List.getElem?_cons_zero]; rfl) (fun K hK => ?_) AllReadyH.nil
        go_simp
        refine (toRow_T a1_0 (.slice c1_1 x1_1.length k1_1) x1_1 (v17.drew) (slR_below tInt_law A1_1.out d.out) S1_1.out).mono ?_
        rintro e v19 ⟨cs, rfl, ow, c19⟩
        replace B0 := Lib.hid ((c19.block w.heap.size (Array.getElem?_eq_some_iff.1 B0.out).1).trans B0.out)
        replace B1 := Lib.hid ((c19.block (w.heap.size + 1) (Array.getElem?_eq_some_iff.1 B1.out).1).trans B1.out)
        replace X1 := Lib.hid ((c19.block v8.heap.size (Array.getElem?_eq_some_iff.1 X1.out).1).trans X1.out)
        replace X2 := Lib.hid ((c19.block v10.heap.size (Array.getElem?_eq_some_iff.1 X2.out).1).trans X2.out)
        replace P4_0 := Lib.hid (slO_fresh tQuery_law P4_0.out c19)
        replace P4_1 := Lib.hid (slO_fresh tSpanS_law P4_1.out c19)
        replace P5_1 := Lib.hid (slO_fresh tInt_law P5_1.out c19)
        replace P6 := Lib.hid (slO_fresh tInt_law P6.out c19)
        replace P7 := Lib.hid (slO_fresh tInt_law P7.out c19)
        replace P8_0 := Lib.hid (slO_fresh tQuery_law P8_0.out c19)
        replace P8_1 := Lib.hid (slO_fresh tSpanS_law P8_1.out c19)
        replace P10_1 := Lib.hid (slO_fresh tInt_law P10_1.out c19)
        replace P12 := Lib.hid (slO_fresh tInt_law P12.out c19)
        replace P13 := Lib.hid (slO_fresh tInt_law P13.out c19)
        replace d := Lib.hid (d.out.trans (c19.mono d.out.size))
        have Z_v19 := Lib.hid (show v17.heap.size ≤ v19.heap.size from c19.size)
        clear c19
        replace ow := tRow_law.lt ow
        obtain ⟨y19_1, K19_1, rfl, p19_1, w19_1⟩ := tRow_O ow
        obtain ⟨ya19_1, yc19_1, rfl⟩ := slO_len p19_1
        have P19_1 := Lib.hid p19_1
        have Q19_1 := Lib.hid (fun b h => (show (v17.drew).heap.size ≤ b ∧ b < v19.heap.size from w19_1 b h))
        clear p19_1 w19_1 ow
        have p_B1_0 := (cell_of_row v19 _ 0 _ _ _ B1.out).trans (show _ = some (Value.int .i64 a1_0) from rfl)
        have p_B1_1 := (cell_of_row v19 _ 1 _ _ _ B1.out).trans (show _ = some (Value.slice c1_1 x1_1.length k1_1) from rfl)
        have p_X2_0 := (cell_of_row v19 _ 0 _ _ _ X2.out).trans (show _ = some (Value.int .i64 a1_0) from rfl)
        have p_X2_1 := (cell_of_row v19 _ 1 _ _ _ X2.out).trans (show _ = some (Value.slice ya10_1 x1_1.length yc10_1) from rfl)
        refine hK.out _ _ ⟨p_B1_0, p_B1_1, p_X2_0, p_X2_1⟩ (fun hHeld => ?_)
        clear p_B1_0 p_B1_1 p_X2_0 p_X2_1
        clear hK K
        try simp only [Act.put, List.setIfInBounds_toArray, List.set_cons_zero, List.set_cons_succ]
        refine wpAnyH_ready (rs := [3]) (by kernel_rfl) (by simp) ?_
        refine AllReadyH.cons (o := _) (by simp only [List.getElem?_toArray, List.getElem?_cons_succ, List.getElem?_cons_zero]; rfl) (fun K hK => ?_) AllReadyH.nil
        go_simp
        refine (eqRow_T a1_0 (.slice ya10_1 x1_1.length yc10_1) x1_1 (.slice ya19_1 x1_1.length yc19_1) v19 (slO_reads tInt_law P10_1.out) (slO_reads tInt_law P19_1.out) S1_1.out).mono ?_
        rintro e v20 ⟨rfl, c20⟩
        replace B0 := Lib.hid ((c20.block w.heap.size (Array.getElem?_eq_some_iff.1 B0.out).1).trans B0.out)
        replace B1 := Lib.hid ((c20.block (w.heap.size + 1) (Array.getElem?_eq_some_iff.1 B1.out).1).trans B1.out)
        replace X1 := Lib.hid ((c20.block v8.heap.size (Array.getElem?_eq_some_iff.1 X1.out).1).trans X1.out)
        replace X2 := Lib.hid ((c20.block v10.heap.size (Array.getElem?_eq_some_iff.1 X2.out).1).trans X2.out)
        replace P4_0 := Lib.hid (slO_fresh tQuery_law P4_0.out c20)
        replace P4_1 := Lib.hid (slO_fresh tSpanS_law P4_1.out c20)
        replace P5_1 := Lib.hid (slO_fresh tInt_law P5_1.out c20)
        replace P6 := Lib.hid (slO_fresh tInt_law P6.out c20)
        replace P7 := Lib.hid (slO_fresh tInt_law P7.out c20)
        replace P8_0 := Lib.hid (slO_fresh tQuery_law P8_0.out c20)
        replace P8_1 := Lib.hid (slO_fresh tSpanS_law P8_1.out c20)
        replace P10_1 := Lib.hid (slO_fresh tInt_law P10_1.out c20)
        replace P12 := Lib.hid (slO_fresh tInt_law P12.out c20)
        replace P13 := Lib.hid (slO_fresh tInt_law P13.out c20)
        replace P19_1 := Lib.hid (slO_fresh tInt_law P19_1.out c20)
        replace d := Lib.hid (d.out.trans (c20.mono d.out.size))
        have Z_v20 := Lib.hid (show v19.heap.size ≤ v20.heap.size from c20.size)
        clear c20
        clear P19_1
        have p_B1_0 := (cell_of_row v20 _ 0 _ _ _ B1.out).trans (show _ = some (Value.int .i64 a1_0) from rfl)
        have p_B1_1 := (cell_of_row v20 _ 1 _ _ _ B1.out).trans (show _ = some (Value.slice c1_1 x1_1.length k1_1) from rfl)
        have p_X2_0 := (cell_of_row v20 _ 0 _ _ _ X2.out).trans (show _ = some (Value.int .i64 a1_0) from rfl)
        have p_X2_1 := (cell_of_row v20 _ 1 _ _ _ X2.out).trans (show _ = some (Value.slice ya10_1 x1_1.length yc10_1) from rfl)
        refine hK.out _ _ ⟨p_B1_0, p_B1_1, p_X2_0, p_X2_1⟩ (fun hHeld => ?_)
        clear p_B1_0 p_B1_1 p_X2_0 p_X2_1
        clear hK K
        try simp only [Act.put, List.setIfInBounds_toArray, List.set_cons_zero, List.set_cons_succ]
        refine take_runs (i := 4) (v := ?_) (by simp only [List.getElem?_toArray, List.getElem?_cons_succ, List.getElem?_cons_zero]; rfl) (by kernel_rfl) (by kernel_rfl) (by kernel_rfl) rfl (by exact fun _ _ _ h => h) (by rfl) ?_ (by assumption) ?_
        rotate_left
        · intro w hSw; (try dsimp only at hSw); go_simp; try (with_reducible rfl)
        try simp only [Act.put, List.setIfInBounds_toArray, List.set_cons_zero, List.set_cons_succ]
        refine wpAnyH_done (by kernel_rfl) ?_ _
        clear hHeld
        go_wp2_with fail
        refine (toIntS_S (.slice c2_0 x2_0.length k2_0) x2_0 v20 (slR_below tInt_law A2_0.out d.out) S2_0.out).mono ?_
        rintro e v21 ⟨y, rfl, o, c21⟩
        replace B0 := Lib.hid ((c21.block w.heap.size (Array.getElem?_eq_some_iff.1 B0.out).1).trans B0.out)
        replace B1 := Lib.hid ((c21.block (w.heap.size + 1) (Array.getElem?_eq_some_iff.1 B1.out).1).trans B1.out)
        replace X1 := Lib.hid ((c21.block v8.heap.size (Array.getElem?_eq_some_iff.1 X1.out).1).trans X1.out)
        replace X2 := Lib.hid ((c21.block v10.heap.size (Array.getElem?_eq_some_iff.1 X2.out).1).trans X2.out)
        replace P4_0 := Lib.hid (slO_fresh tQuery_law P4_0.out c21)
        replace P4_1 := Lib.hid (slO_fresh tSpanS_law P4_1.out c21)
        replace P5_1 := Lib.hid (slO_fresh tInt_law P5_1.out c21)
        replace P6 := Lib.hid (slO_fresh tInt_law P6.out c21)
        replace P7 := Lib.hid (slO_fresh tInt_law P7.out c21)
        replace P8_0 := Lib.hid (slO_fresh tQuery_law P8_0.out c21)
        replace P8_1 := Lib.hid (slO_fresh tSpanS_law P8_1.out c21)
        replace P10_1 := Lib.hid (slO_fresh tInt_law P10_1.out c21)
        replace P12 := Lib.hid (slO_fresh tInt_law P12.out c21)
        replace P13 := Lib.hid (slO_fresh tInt_law P13.out c21)
        replace d := Lib.hid (d.out.trans (c21.mono d.out.size))
        have Z_v21 := Lib.hid (show v20.heap.size ≤ v21.heap.size from c21.size)
        clear c21
        obtain ⟨ya21, yc21, rfl⟩ := slO_len o
        have P21 := Lib.hid (slO_lt tInt_law o)
        have Q21 := Lib.hid (fun b (h : since v20 b ∧ b < v21.heap.size) => (show v20.heap.size ≤ b ∧ b < v21.heap.size from h))
        clear o
        go_wp2_with fail
        refine (eqIntS_S (.slice ya12 x2_0.length yc12) (.slice ya21 x2_0.length yc21) x2_0 v21 (slO_reads tInt_law P12.out) (slO_reads tInt_law P21.out) S2_0.out).mono ?_
        rintro e v22 ⟨rfl, c22⟩
        replace B0 := Lib.hid ((c22.block w.heap.size (Array.getElem?_eq_some_iff.1 B0.out).1).trans B0.out)
        replace B1 := Lib.hid ((c22.block (w.heap.size + 1) (Array.getElem?_eq_some_iff.1 B1.out).1).trans B1.out)
        replace X1 := Lib.hid ((c22.block v8.heap.size (Array.getElem?_eq_some_iff.1 X1.out).1).trans X1.out)
        replace X2 := Lib.hid ((c22.block v10.heap.size (Array.getElem?_eq_some_iff.1 X2.out).1).trans X2.out)
        replace P4_0 := Lib.hid (slO_fresh tQuery_law P4_0.out c22)
        replace P4_1 := Lib.hid (slO_fresh tSpanS_law P4_1.out c22)
        replace P5_1 := Lib.hid (slO_fresh tInt_law P5_1.out c22)
        replace P6 := Lib.hid (slO_fresh tInt_law P6.out c22)
        replace P7 := Lib.hid (slO_fresh tInt_law P7.out c22)
        replace P8_0 := Lib.hid (slO_fresh tQuery_law P8_0.out c22)
        replace P8_1 := Lib.hid (slO_fresh tSpanS_law P8_1.out c22)
        replace P10_1 := Lib.hid (slO_fresh tInt_law P10_1.out c22)
        replace P12 := Lib.hid (slO_fresh tInt_law P12.out c22)
        replace P13 := Lib.hid (slO_fresh tInt_law P13.out c22)
        replace P21 := Lib.hid (slO_fresh tInt_law P21.out c22)
        replace d := Lib.hid (d.out.trans (c22.mono d.out.size))
        have Z_v22 := Lib.hid (show v21.heap.size ≤ v22.heap.size from c22.size)
        clear c22
        clear P21
        have p_X1_0 := (cell_of_row v22 _ 0 _ _ _ X1.out).trans (show _ = some (Value.slice ya8_0 x0_0.length yc8_0) from rfl)
        have p_X1_1 := (cell_of_row v22 _ 1 _ _ _ X1.out).trans (show _ = some (Value.slice ya8_1 x0_1.length yc8_1) from rfl)
        go_wp2_with fail
        clear p_X1_0 p_X1_1
        refine (markIndex_T (.slice ya8_0 x0_0.length yc8_0) (.slice ya8_1 x0_1.length yc8_1) x0_0 x0_1 (fun b => v7.heap.size ≤ b ∧ b < v8.heap.size) _ _ (1) v22 P8_0.out P8_1.out Q8_0.out Q8_1.out D8_0_1.out S0_0.out S0_1.out M0.out.1 (by have := M0.out.2; omega)).mono ?_
        rintro e v23 ⟨rfl, ⟨m0, m1⟩, c23⟩
        have y0 := Y_W.out
        have y1 := Z_v1.out
        have y2 := Z_v2.out
        have y3 := Z_v4.out
        have y4 := Z_v5.out
        have y5 := Z_v6.out
        have y6 := Z_v7.out
        have y7 := Z_v8.out
        have y8 := Y_X1.out
        have y9 := Z_v10.out
        have y10 := Y_X2.out
        have y11 := Z_v12.out
        have y12 := Z_v13.out
        have y13 := Z_v14.out
        have y14 := Z_v16.out
        have y15 := Z_v17.out
        have y16 := Z_v19.out
        have y17 := Z_v20.out
        have y18 := Z_v21.out
        have y19 := Z_v22.out
        have yd : W.heap.size ≤ v22.heap.size := d.out.size
        replace B0 := Lib.hid ((c23.block w.heap.size (Array.getElem?_eq_some_iff.1 B0.out).1 (fun h => by have r2 := h; omega)).trans B0.out)
        replace B1 := Lib.hid ((c23.block (w.heap.size + 1) (Array.getElem?_eq_some_iff.1 B1.out).1 (fun h => by have r2 := h; omega)).trans B1.out)
        replace X1 := Lib.hid ((c23.block v8.heap.size (Array.getElem?_eq_some_iff.1 X1.out).1 (fun h => by have r2 := h; omega)).trans X1.out)
        replace X2 := Lib.hid ((c23.block v10.heap.size (Array.getElem?_eq_some_iff.1 X2.out).1 (fun h => by have r2 := h; omega)).trans X2.out)
        replace P4_0 := Lib.hid (slO_turn tQuery_law P4_0.out c23 (fun b h1 h2 => by have r1 := Q4_0.out b h1; have r2 := h2; omega))
        replace P4_1 := Lib.hid (slO_turn tSpanS_law P4_1.out c23 (fun b h1 h2 => by have r1 := Q4_1.out b h1; have r2 := h2; omega))
        replace P5_1 := Lib.hid (slO_turn tInt_law P5_1.out c23 (fun b h1 h2 => by have r1 := Q5_1.out b h1; have r2 := h2; omega))
        replace P6 := Lib.hid (slO_turn tInt_law P6.out c23 (fun b h1 h2 => by have r1 := Q6.out b h1; have r2 := h2; omega))
        replace P7 := Lib.hid (slO_turn tInt_law P7.out c23 (fun b h1 h2 => by have r1 := Q7.out b h1; have r2 := h2; omega))
        replace P10_1 := Lib.hid (slO_turn tInt_law P10_1.out c23 (fun b h1 h2 => by have r1 := Q10_1.out b h1; have r2 := h2; omega))
        replace P12 := Lib.hid (slO_turn tInt_law P12.out c23 (fun b h1 h2 => by have r1 := Q12.out b h1; have r2 := h2; omega))
        replace P13 := Lib.hid (slO_turn tInt_law P13.out c23 (fun b h1 h2 => by have r1 := Q13.out b h1; have r2 := h2; omega))
        replace d := Lib.hid (below_turn d.out c23 (fun b h => by have r2 := h; omega) (by omega))
        clear yd y0 y1 y2 y3 y4 y5 y6 y7 y8 y9 y10 y11 y12 y13 y14 y15 y16 y17 y18 y19
        have Z_v23 := Lib.hid (show v22.heap.size ≤ v23.heap.size from c23.size)
        clear P8_0 P8_1
        clear m0 m1 c23
        have p_X2_0 := (cell_of_row v23 _ 0 _ _ _ X2.out).trans (show _ = some (Value.int .i64 a1_0) from rfl)
        have p_X2_1 := (cell_of_row v23 _ 1 _ _ _ X2.out).trans (show _ = some (Value.slice ya10_1 x1_1.length yc10_1) from rfl)
        go_wp2_with fail
        clear p_X2_0 p_X2_1
        refine (markRow_T a1_0 (.slice ya10_1 x1_1.length yc10_1) x1_1 (fun b => u9.heap.size ≤ b ∧ b < v10.heap.size) _ (1 + (ndL tQuery x0_0 : Int) + (ndL tSpanS x0_1 : Int)) v23 P10_1.out Q10_1.out  S1_1.out M1.out.1 (by have := M1.out.2; omega)).mono ?_
        rintro e v24 ⟨rfl, m0, c24⟩
        have y0 := Y_W.out
        have y1 := Z_v1.out
        have y2 := Z_v2.out
        have y3 := Z_v4.out
        have y4 := Z_v5.out
        have y5 := Z_v6.out
        have y6 := Z_v7.out
        have y7 := Z_v8.out
        have y8 := Y_X1.out
        have y9 := Z_v10.out
        have y10 := Y_X2.out
        have y11 := Z_v12.out
        have y12 := Z_v13.out
        have y13 := Z_v14.out
        have y14 := Z_v16.out
        have y15 := Z_v17.out
        have y16 := Z_v19.out
        have y17 := Z_v20.out
        have y18 := Z_v21.out
        have y19 := Z_v22.out
        have y20 := Z_v23.out
        have yd : W.heap.size ≤ v23.heap.size := d.out.size
        replace B0 := Lib.hid ((c24.block w.heap.size (Array.getElem?_eq_some_iff.1 B0.out).1 (fun h => by have r2 := h; omega)).trans B0.out)
        replace B1 := Lib.hid ((c24.block (w.heap.size + 1) (Array.getElem?_eq_some_iff.1 B1.out).1 (fun h => by have r2 := h; omega)).trans B1.out)
        replace X1 := Lib.hid ((c24.block v8.heap.size (Array.getElem?_eq_some_iff.1 X1.out).1 (fun h => by have r2 := h; omega)).trans X1.out)
        replace X2 := Lib.hid ((c24.block v10.heap.size (Array.getElem?_eq_some_iff.1 X2.out).1 (fun h => by have r2 := h; omega)).trans X2.out)
        replace P4_0 := Lib.hid (slO_turn tQuery_law P4_0.out c24 (fun b h1 h2 => by have r1 := Q4_0.out b h1; have r2 := h2; omega))
        replace P4_1 := Lib.hid (slO_turn tSpanS_law P4_1.out c24 (fun b h1 h2 => by have r1 := Q4_1.out b h1; have r2 := h2; omega))
        replace P5_1 := Lib.hid (slO_turn tInt_law P5_1.out c24 (fun b h1 h2 => by have r1 := Q5_1.out b h1; have r2 := h2; omega))
        replace P6 := Lib.hid (slO_turn tInt_law P6.out c24 (fun b h1 h2 => by have r1 := Q6.out b h1; have r2 := h2; omega))
        replace P7 := Lib.hid (slO_turn tInt_law P7.out c24 (fun b h1 h2 => by have r1 := Q7.out b h1; have r2 := h2; omega))
        replace P12 := Lib.hid (slO_turn tInt_law P12.out c24 (fun b h1 h2 => by have r1 := Q12.out b h1; have r2 := h2; omega))
        replace P13 := Lib.hid (slO_turn tInt_law P13.out c24 (fun b h1 h2 => by have r1 := Q13.out b h1; have r2 := h2; omega))
        replace d := Lib.hid (below_turn d.out c24 (fun b h => by have r2 := h; omega) (by omega))
        clear yd y0 y1 y2 y3 y4 y5 y6 y7 y8 y9 y10 y11 y12 y13 y14 y15 y16 y17 y18 y19 y20
        have Z_v24 := Lib.hid (show v23.heap.size ≤ v24.heap.size from c24.size)
        clear P10_1
        clear m0 c24
        go_wp2_with fail
        refine (markIntS_S (.slice ya12 x2_0.length yc12) x2_0 _ (1 + (ndL tQuery x0_0 : Int) + (ndL tSpanS x0_1 : Int) + (ndL tInt x1_1 : Int)) v24 P12.out S2_0.out M2.out.1 (by have := M2.out.2; omega)).mono ?_
        rintro e v25 ⟨rfl, m0, c25⟩
        have y0 := Y_W.out
        have y1 := Z_v1.out
        have y2 := Z_v2.out
        have y3 := Z_v4.out
        have y4 := Z_v5.out
        have y5 := Z_v6.out
        have y6 := Z_v7.out
        have y7 := Z_v8.out
        have y8 := Y_X1.out
        have y9 := Z_v10.out
        have y10 := Y_X2.out
        have y11 := Z_v12.out
        have y12 := Z_v13.out
        have y13 := Z_v14.out
        have y14 := Z_v16.out
        have y15 := Z_v17.out
        have y16 := Z_v19.out
        have y17 := Z_v20.out
        have y18 := Z_v21.out
        have y19 := Z_v22.out
        have y20 := Z_v23.out
        have y21 := Z_v24.out
        have yd : W.heap.size ≤ v24.heap.size := d.out.size
        replace B0 := Lib.hid ((c25.block w.heap.size (Array.getElem?_eq_some_iff.1 B0.out).1 (fun h => by have r2 := Q12.out w.heap.size h; omega)).trans B0.out)
        replace B1 := Lib.hid ((c25.block (w.heap.size + 1) (Array.getElem?_eq_some_iff.1 B1.out).1 (fun h => by have r2 := Q12.out (w.heap.size + 1) h; omega)).trans B1.out)
        replace X1 := Lib.hid ((c25.block v8.heap.size (Array.getElem?_eq_some_iff.1 X1.out).1 (fun h => by have r2 := Q12.out v8.heap.size h; omega)).trans X1.out)
        replace X2 := Lib.hid ((c25.block v10.heap.size (Array.getElem?_eq_some_iff.1 X2.out).1 (fun h => by have r2 := Q12.out v10.heap.size h; omega)).trans X2.out)
        replace P4_0 := Lib.hid (slO_turn tQuery_law P4_0.out c25 (fun b h1 h2 => by have r1 := Q4_0.out b h1; have r2 := Q12.out b h2; omega))
        replace P4_1 := Lib.hid (slO_turn tSpanS_law P4_1.out c25 (fun b h1 h2 => by have r1 := Q4_1.out b h1; have r2 := Q12.out b h2; omega))
        replace P5_1 := Lib.hid (slO_turn tInt_law P5_1.out c25 (fun b h1 h2 => by have r1 := Q5_1.out b h1; have r2 := Q12.out b h2; omega))
        replace P6 := Lib.hid (slO_turn tInt_law P6.out c25 (fun b h1 h2 => by have r1 := Q6.out b h1; have r2 := Q12.out b h2; omega))
        replace P7 := Lib.hid (slO_turn tInt_law P7.out c25 (fun b h1 h2 => by have r1 := Q7.out b h1; have r2 := Q12.out b h2; omega))
        replace P13 := Lib.hid (slO_turn tInt_law P13.out c25 (fun b h1 h2 => by have r1 := Q13.out b h1; have r2 := Q12.out b h2; omega))
        replace d := Lib.hid (below_turn d.out c25 (fun b h => by have r2 := Q12.out b h; omega) (by omega))
        clear yd y0 y1 y2 y3 y4 y5 y6 y7 y8 y9 y10 y11 y12 y13 y14 y15 y16 y17 y18 y19 y20 y21
        have Z_v25 := Lib.hid (show v24.heap.size ≤ v25.heap.size from c25.size)
        clear P12
        clear m0 c25
        go_wp2_with fail
        refine (eqIntS_S (.slice ya13 r0.length yc13) (.slice ya7 r0.length yc7) r0 v25 (slO_reads tInt_law P13.out) (slO_reads tInt_law P7.out) Z0.out).mono ?_
        rintro e v26 ⟨rfl, c26⟩
        replace B0 := Lib.hid ((c26.block w.heap.size (Array.getElem?_eq_some_iff.1 B0.out).1).trans B0.out)
        replace B1 := Lib.hid ((c26.block (w.heap.size + 1) (Array.getElem?_eq_some_iff.1 B1.out).1).trans B1.out)
        replace X1 := Lib.hid ((c26.block v8.heap.size (Array.getElem?_eq_some_iff.1 X1.out).1).trans X1.out)
        replace X2 := Lib.hid ((c26.block v10.heap.size (Array.getElem?_eq_some_iff.1 X2.out).1).trans X2.out)
        replace P4_0 := Lib.hid (slO_fresh tQuery_law P4_0.out c26)
        replace P4_1 := Lib.hid (slO_fresh tSpanS_law P4_1.out c26)
        replace P5_1 := Lib.hid (slO_fresh tInt_law P5_1.out c26)
        replace P6 := Lib.hid (slO_fresh tInt_law P6.out c26)
        replace P7 := Lib.hid (slO_fresh tInt_law P7.out c26)
        replace P13 := Lib.hid (slO_fresh tInt_law P13.out c26)
        replace d := Lib.hid (d.out.trans (c26.mono d.out.size))
        have Z_v26 := Lib.hid (show v25.heap.size ≤ v26.heap.size from c26.size)
        clear c26
        go_wp2_with fail
        refine (markIntS_S (.slice ya13 r0.length yc13) r0 _ (1) v26 P13.out Z0.out MR0.out.1 (by have := MR0.out.2; omega)).mono ?_
        rintro e v27 ⟨rfl, m0, c27⟩
        have y0 := Y_W.out
        have y1 := Z_v1.out
        have y2 := Z_v2.out
        have y3 := Z_v4.out
        have y4 := Z_v5.out
        have y5 := Z_v6.out
        have y6 := Z_v7.out
        have y7 := Z_v8.out
        have y8 := Y_X1.out
        have y9 := Z_v10.out
        have y10 := Y_X2.out
        have y11 := Z_v12.out
        have y12 := Z_v13.out
        have y13 := Z_v14.out
        have y14 := Z_v16.out
        have y15 := Z_v17.out
        have y16 := Z_v19.out
        have y17 := Z_v20.out
        have y18 := Z_v21.out
        have y19 := Z_v22.out
        have y20 := Z_v23.out
        have y21 := Z_v24.out
        have y22 := Z_v25.out
        have y23 := Z_v26.out
        have yd : W.heap.size ≤ v26.heap.size := d.out.size
        replace B0 := Lib.hid ((c27.block w.heap.size (Array.getElem?_eq_some_iff.1 B0.out).1 (fun h => by have r2 := Q13.out w.heap.size h; omega)).trans B0.out)
        replace B1 := Lib.hid ((c27.block (w.heap.size + 1) (Array.getElem?_eq_some_iff.1 B1.out).1 (fun h => by have r2 := Q13.out (w.heap.size + 1) h; omega)).trans B1.out)
        replace X1 := Lib.hid ((c27.block v8.heap.size (Array.getElem?_eq_some_iff.1 X1.out).1 (fun h => by have r2 := Q13.out v8.heap.size h; omega)).trans X1.out)
        replace X2 := Lib.hid ((c27.block v10.heap.size (Array.getElem?_eq_some_iff.1 X2.out).1 (fun h => by have r2 := Q13.out v10.heap.size h; omega)).trans X2.out)
        replace P4_0 := Lib.hid (slO_turn tQuery_law P4_0.out c27 (fun b h1 h2 => by have r1 := Q4_0.out b h1; have r2 := Q13.out b h2; omega))
        replace P4_1 := Lib.hid (slO_turn tSpanS_law P4_1.out c27 (fun b h1 h2 => by have r1 := Q4_1.out b h1; have r2 := Q13.out b h2; omega))
        replace P5_1 := Lib.hid (slO_turn tInt_law P5_1.out c27 (fun b h1 h2 => by have r1 := Q5_1.out b h1; have r2 := Q13.out b h2; omega))
        replace P6 := Lib.hid (slO_turn tInt_law P6.out c27 (fun b h1 h2 => by have r1 := Q6.out b h1; have r2 := Q13.out b h2; omega))
        replace P7 := Lib.hid (slO_turn tInt_law P7.out c27 (fun b h1 h2 => by have r1 := Q7.out b h1; have r2 := Q13.out b h2; omega))
        replace d := Lib.hid (below_turn d.out c27 (fun b h => by have r2 := Q13.out b h; omega) (by omega))
        clear yd y0 y1 y2 y3 y4 y5 y6 y7 y8 y9 y10 y11 y12 y13 y14 y15 y16 y17 y18 y19 y20 y21 y22 y23
        have Z_v27 := Lib.hid (show v26.heap.size ≤ v27.heap.size from c27.size)
        replace P13 := Lib.hid m0
        clear m0 c27
        go_wp2_with fail
        refine (heldIntS_S (.slice ya13 r0.length yc13) r0 (1) v27 (slO_reads tInt_law P13.out) Z0.out MR0.out.1 (by have := MR0.out.2; omega)).mono ?_
        rintro e v28 ⟨rfl, rfl⟩
        go_wp2
        have p_B0_0 := (cell_of_row v27 _ 0 _ _ _ B0.out).trans (show _ = some (Value.slice c0_0 x0_0.length k0_0) from rfl)
        have p_B0_1 := (cell_of_row v27 _ 1 _ _ _ B0.out).trans (show _ = some (Value.slice c0_1 x0_1.length k0_1) from rfl)
        have p_B1_0 := (cell_of_row v27 _ 0 _ _ _ B1.out).trans (show _ = some (Value.int .i64 a1_0) from rfl)
        have p_B1_1 := (cell_of_row v27 _ 1 _ _ _ B1.out).trans (show _ = some (Value.slice c1_1 x1_1.length k1_1) from rfl)
        refine wp_region_held_drew (S := fun w' => w'.cell? ⟨w.heap.size, 0, none⟩ = some (Value.slice c0_0 x0_0.length k0_0) ∧ w'.cell? ⟨w.heap.size, 1, none⟩ = some (Value.slice c0_1 x0_1.length k0_1) ∧ w'.cell? ⟨(w.heap.size + 1), 0, none⟩ = some (Value.int .i64 a1_0) ∧ w'.cell? ⟨(w.heap.size + 1), 1, none⟩ = some (Value.slice c1_1 x1_1.length k1_1)) (by kernel_rfl) ⟨p_B0_0, p_B0_1, p_B1_0, p_B1_1⟩ (fun hHeld => ?_)
        clear p_B0_0 p_B0_1 p_B1_0 p_B1_1
        have cd29 : Below v27.heap.size v27 v27.drew := below_drew (Below.refl _ _)
        replace B0 := Lib.hid ((cd29.block w.heap.size (Array.getElem?_eq_some_iff.1 B0.out).1).trans B0.out)
        replace B1 := Lib.hid ((cd29.block (w.heap.size + 1) (Array.getElem?_eq_some_iff.1 B1.out).1).trans B1.out)
        replace X1 := Lib.hid ((cd29.block v8.heap.size (Array.getElem?_eq_some_iff.1 X1.out).1).trans X1.out)
        replace X2 := Lib.hid ((cd29.block v10.heap.size (Array.getElem?_eq_some_iff.1 X2.out).1).trans X2.out)
        replace P4_0 := Lib.hid (slO_fresh tQuery_law P4_0.out cd29)
        replace P4_1 := Lib.hid (slO_fresh tSpanS_law P4_1.out cd29)
        replace P5_1 := Lib.hid (slO_fresh tInt_law P5_1.out cd29)
        replace P6 := Lib.hid (slO_fresh tInt_law P6.out cd29)
        replace P7 := Lib.hid (slO_fresh tInt_law P7.out cd29)
        replace P13 := Lib.hid (slO_fresh tInt_law P13.out cd29)
        replace d := Lib.hid (d.out.trans (cd29.mono d.out.size))
        clear cd29
        refine take_runs (i := 0) (v := ?_) (by simp only [List.getElem?_toArray, List.getElem?_cons_succ, List.getElem?_cons_zero]; rfl) (by kernel_rfl) (by kernel_rfl) (by kernel_rfl) rfl (by exact fun _ _ _ h => h) (by rfl) ?_ (by assumption) ?_
        rotate_left
        · intro w hSw; (try dsimp only at hSw); go_simp; try (with_reducible rfl)
        try simp only [Act.put, List.setIfInBounds_toArray, List.set_cons_zero, List.set_cons_succ]
        refine take_runs (i := 2) (v := ?_) (by simp only [List.getElem?_toArray, List.getElem?_cons_succ, List.getElem?_cons_zero]; rfl) (by kernel_rfl) (by kernel_rfl) (by kernel_rfl) rfl (by exact fun _ _ _ h => h) (by rfl) ?_ (by assumption) ?_
        rotate_left
        · intro w hSw; (try dsimp only at hSw); go_simp; try (with_reducible rfl)
        try simp only [Act.put, List.setIfInBounds_toArray, List.set_cons_zero, List.set_cons_succ]
        refine take_runs (i := 4) (v := ?_) (by simp only [List.getElem?_toArray, List.getElem?_cons_succ, List.getElem?_cons_zero]; rfl) (by kernel_rfl) (by kernel_rfl) (by kernel_rfl) rfl (by exact fun _ _ _ h => h) (by rfl) ?_ (by assumption) ?_
        rotate_left
        · intro w hSw; (try dsimp only at hSw); go_simp; try (with_reducible rfl)
        try simp only [Act.put, List.setIfInBounds_toArray, List.set_cons_zero, List.set_cons_succ]
        refine wpAnyH_ready (rs := [1]) (by kernel_rfl) (by simp) ?_
        refine AllReadyH.cons (o := _) (by simp only [List.getElem?_toArray, List.getElem?_cons_succ, List.getElem?_cons_zero]; rfl) (fun K hK => ?_) AllReadyH.nil
        go_simp
        refine (toIndex_T (.slice c0_0 x0_0.length k0_0) (.slice c0_1 x0_1.length k0_1) x0_0 x0_1 (v27.drew) (slR_below tQuery_law A0_0.out d.out) (slR_below tSpanS_law A0_1.out d.out) S0_0.out S0_1.out).mono ?_
        rintro e v30 ⟨cs, rfl, ow, c30⟩
        replace B0 := Lib.hid ((c30.block w.heap.size (Array.getElem?_eq_some_iff.1 B0.out).1).trans B0.out)
        replace B1 := Lib.hid ((c30.block (w.heap.size + 1) (Array.getElem?_eq_some_iff.1 B1.out).1).trans B1.out)
        replace X1 := Lib.hid ((c30.block v8.heap.size (Array.getElem?_eq_some_iff.1 X1.out).1).trans X1.out)
        replace X2 := Lib.hid ((c30.block v10.heap.size (Array.getElem?_eq_some_iff.1 X2.out).1).trans X2.out)
        replace P4_0 := Lib.hid (slO_fresh tQuery_law P4_0.out c30)
        replace P4_1 := Lib.hid (slO_fresh tSpanS_law P4_1.out c30)
        replace P5_1 := Lib.hid (slO_fresh tInt_law P5_1.out c30)
        replace P6 := Lib.hid (slO_fresh tInt_law P6.out c30)
        replace P7 := Lib.hid (slO_fresh tInt_law P7.out c30)
        replace P13 := Lib.hid (slO_fresh tInt_law P13.out c30)
        replace d := Lib.hid (d.out.trans (c30.mono d.out.size))
        have Z_v30 := Lib.hid (show v27.heap.size ≤ v30.heap.size from c30.size)
        clear c30
        replace ow := tIndex_law.lt ow
        obtain ⟨y30_0, y30_1, K30_0, K30_1, rfl, p30_0, p30_1, w30_0, w30_1, d30_0_1⟩ := tIndex_O ow
        obtain ⟨ya30_0, yc30_0, rfl⟩ := slO_len p30_0
        have P30_0 := Lib.hid p30_0
        have Q30_0 := Lib.hid (fun b h => (show (v27.drew).heap.size ≤ b ∧ b < v30.heap.size from w30_0 b h))
        obtain ⟨ya30_1, yc30_1, rfl⟩ := slO_len p30_1
        have P30_1 := Lib.hid p30_1
        have Q30_1 := Lib.hid (fun b h => (show (v27.drew).heap.size ≤ b ∧ b < v30.heap.size from w30_1 b h))
        have D30_0_1 := Lib.hid d30_0_1
        clear d30_0_1
        clear p30_0 w30_0 p30_1 w30_1 ow
        have p_B0_0 := (cell_of_row v30 _ 0 _ _ _ B0.out).trans (show _ = some (Value.slice c0_0 x0_0.length k0_0) from rfl)
        have p_B0_1 := (cell_of_row v30 _ 1 _ _ _ B0.out).trans (show _ = some (Value.slice c0_1 x0_1.length k0_1) from rfl)
        have p_B1_0 := (cell_of_row v30 _ 0 _ _ _ B1.out).trans (show _ = some (Value.int .i64 a1_0) from rfl)
        have p_B1_1 := (cell_of_row v30 _ 1 _ _ _ B1.out).trans (show _ = some (Value.slice c1_1 x1_1.length k1_1) from rfl)
        refine hK.out _ _ ⟨p_B0_0, p_B0_1, p_B1_0, p_B1_1⟩ (fun hHeld => ?_)
        clear p_B0_0 p_B0_1 p_B1_0 p_B1_1
        clear hK K
        try simp only [Act.put, List.setIfInBounds_toArray, List.set_cons_zero, List.set_cons_succ]
        refine wpAnyH_ready (rs := [3]) (by kernel_rfl) (by simp) ?_
        refine AllReadyH.cons (o := _) (by simp only [List.getElem?_toArray, List.getElem?_cons_succ, List.getElem?_cons_zero]; rfl) (fun K hK => ?_) AllReadyH.nil
        go_simp
        refine (toRow_T a1_0 (.slice c1_1 x1_1.length k1_1) x1_1 v30 (slR_below tInt_law A1_1.out d.out) S1_1.out).mono ?_
        rintro e v31 ⟨cs, rfl, ow, c31⟩
        replace B0 := Lib.hid ((c31.block w.heap.size (Array.getElem?_eq_some_iff.1 B0.out).1).trans B0.out)
        replace B1 := Lib.hid ((c31.block (w.heap.size + 1) (Array.getElem?_eq_some_iff.1 B1.out).1).trans B1.out)
        replace X1 := Lib.hid ((c31.block v8.heap.size (Array.getElem?_eq_some_iff.1 X1.out).1).trans X1.out)
        replace X2 := Lib.hid ((c31.block v10.heap.size (Array.getElem?_eq_some_iff.1 X2.out).1).trans X2.out)
        replace P4_0 := Lib.hid (slO_fresh tQuery_law P4_0.out c31)
        replace P4_1 := Lib.hid (slO_fresh tSpanS_law P4_1.out c31)
        replace P5_1 := Lib.hid (slO_fresh tInt_law P5_1.out c31)
        replace P6 := Lib.hid (slO_fresh tInt_law P6.out c31)
        replace P7 := Lib.hid (slO_fresh tInt_law P7.out c31)
        replace P13 := Lib.hid (slO_fresh tInt_law P13.out c31)
        replace P30_0 := Lib.hid (slO_fresh tQuery_law P30_0.out c31)
        replace P30_1 := Lib.hid (slO_fresh tSpanS_law P30_1.out c31)
        replace d := Lib.hid (d.out.trans (c31.mono d.out.size))
        have Z_v31 := Lib.hid (show v30.heap.size ≤ v31.heap.size from c31.size)
        clear c31
        replace ow := tRow_law.lt ow
        obtain ⟨y31_1, K31_1, rfl, p31_1, w31_1⟩ := tRow_O ow
        obtain ⟨ya31_1, yc31_1, rfl⟩ := slO_len p31_1
        have P31_1 := Lib.hid p31_1
        have Q31_1 := Lib.hid (fun b h => (show v30.heap.size ≤ b ∧ b < v31.heap.size from w31_1 b h))
        clear p31_1 w31_1 ow
        have p_B0_0 := (cell_of_row v31 _ 0 _ _ _ B0.out).trans (show _ = some (Value.slice c0_0 x0_0.length k0_0) from rfl)
        have p_B0_1 := (cell_of_row v31 _ 1 _ _ _ B0.out).trans (show _ = some (Value.slice c0_1 x0_1.length k0_1) from rfl)
        have p_B1_0 := (cell_of_row v31 _ 0 _ _ _ B1.out).trans (show _ = some (Value.int .i64 a1_0) from rfl)
        have p_B1_1 := (cell_of_row v31 _ 1 _ _ _ B1.out).trans (show _ = some (Value.slice c1_1 x1_1.length k1_1) from rfl)
        refine hK.out _ _ ⟨p_B0_0, p_B0_1, p_B1_0, p_B1_1⟩ (fun hHeld => ?_)
        clear p_B0_0 p_B0_1 p_B1_0 p_B1_1
        clear hK K
        try simp only [Act.put, List.setIfInBounds_toArray, List.set_cons_zero, List.set_cons_succ]
        refine wpAnyH_ready (rs := [5]) (by kernel_rfl) (by simp) ?_
        refine AllReadyH.cons (o := _) (by simp only [List.getElem?_toArray, List.getElem?_cons_succ, List.getElem?_cons_zero]; rfl) (fun K hK => ?_) AllReadyH.nil
        go_simp
        refine (toIntS_S (.slice c2_0 x2_0.length k2_0) x2_0 v31 (slR_below tInt_law A2_0.out d.out) S2_0.out).mono ?_
        rintro e v32 ⟨y, rfl, o, c32⟩
        replace B0 := Lib.hid ((c32.block w.heap.size (Array.getElem?_eq_some_iff.1 B0.out).1).trans B0.out)
        replace B1 := Lib.hid ((c32.block (w.heap.size + 1) (Array.getElem?_eq_some_iff.1 B1.out).1).trans B1.out)
        replace X1 := Lib.hid ((c32.block v8.heap.size (Array.getElem?_eq_some_iff.1 X1.out).1).trans X1.out)
        replace X2 := Lib.hid ((c32.block v10.heap.size (Array.getElem?_eq_some_iff.1 X2.out).1).trans X2.out)
        replace P4_0 := Lib.hid (slO_fresh tQuery_law P4_0.out c32)
        replace P4_1 := Lib.hid (slO_fresh tSpanS_law P4_1.out c32)
        replace P5_1 := Lib.hid (slO_fresh tInt_law P5_1.out c32)
        replace P6 := Lib.hid (slO_fresh tInt_law P6.out c32)
        replace P7 := Lib.hid (slO_fresh tInt_law P7.out c32)
        replace P13 := Lib.hid (slO_fresh tInt_law P13.out c32)
        replace P30_0 := Lib.hid (slO_fresh tQuery_law P30_0.out c32)
        replace P30_1 := Lib.hid (slO_fresh tSpanS_law P30_1.out c32)
        replace P31_1 := Lib.hid (slO_fresh tInt_law P31_1.out c32)
        replace d := Lib.hid (d.out.trans (c32.mono d.out.size))
        have Z_v32 := Lib.hid (show v31.heap.size ≤ v32.heap.size from c32.size)
        clear c32
        obtain ⟨ya32, yc32, rfl⟩ := slO_len o
        have P32 := Lib.hid (slO_lt tInt_law o)
        have Q32 := Lib.hid (fun b (h : since v31 b ∧ b < v32.heap.size) => (show v31.heap.size ≤ b ∧ b < v32.heap.size from h))
        clear o
        have p_B0_0 := (cell_of_row v32 _ 0 _ _ _ B0.out).trans (show _ = some (Value.slice c0_0 x0_0.length k0_0) from rfl)
        have p_B0_1 := (cell_of_row v32 _ 1 _ _ _ B0.out).trans (show _ = some (Value.slice c0_1 x0_1.length k0_1) from rfl)
        have p_B1_0 := (cell_of_row v32 _ 0 _ _ _ B1.out).trans (show _ = some (Value.int .i64 a1_0) from rfl)
        have p_B1_1 := (cell_of_row v32 _ 1 _ _ _ B1.out).trans (show _ = some (Value.slice c1_1 x1_1.length k1_1) from rfl)
        refine hK.out _ _ ⟨p_B0_0, p_B0_1, p_B1_0, p_B1_1⟩ (fun hHeld => ?_)
        clear p_B0_0 p_B0_1 p_B1_0 p_B1_1
        clear hK K
        try simp only [Act.put, List.setIfInBounds_toArray, List.set_cons_zero, List.set_cons_succ]
        refine wpAnyH_ready (rs := [6]) (by kernel_rfl) (by simp) ?_
        refine AllReadyH.cons (o := _) (by simp only [List.getElem?_toArray, List.getElem?_cons_succ, List.getElem?_cons_zero]; rfl) (fun K hK => ?_) AllReadyH.nil
        go_simp
        refine (HIM.out (.slice ya30_0 x0_0.length yc30_0) (.slice ya30_1 x0_1.length yc30_1) (.slice ya31_1 x1_1.length yc31_1) (.slice ya32 x2_0.length yc32) v32 (HB0.out.trans (d.out.mono HB0.out.size)) (slO_reads tQuery_law P30_0.out) (slO_reads tSpanS_law P30_1.out) (slO_reads tInt_law P31_1.out) (slO_reads tInt_law P32.out) HT.out HL2.out).mono ?_
        rintro e v33 ⟨g0, G0, rfl, o0, q0, c33⟩
        replace B0 := Lib.hid ((c33.block w.heap.size (Array.getElem?_eq_some_iff.1 B0.out).1).trans B0.out)
        replace B1 := Lib.hid ((c33.block (w.heap.size + 1) (Array.getElem?_eq_some_iff.1 B1.out).1).trans B1.out)
        replace X1 := Lib.hid ((c33.block v8.heap.size (Array.getElem?_eq_some_iff.1 X1.out).1).trans X1.out)
        replace X2 := Lib.hid ((c33.block v10.heap.size (Array.getElem?_eq_some_iff.1 X2.out).1).trans X2.out)
        replace P4_0 := Lib.hid (slO_fresh tQuery_law P4_0.out c33)
        replace P4_1 := Lib.hid (slO_fresh tSpanS_law P4_1.out c33)
        replace P5_1 := Lib.hid (slO_fresh tInt_law P5_1.out c33)
        replace P6 := Lib.hid (slO_fresh tInt_law P6.out c33)
        replace P7 := Lib.hid (slO_fresh tInt_law P7.out c33)
        replace P13 := Lib.hid (slO_fresh tInt_law P13.out c33)
        replace P30_0 := Lib.hid (slO_fresh tQuery_law P30_0.out c33)
        replace P30_1 := Lib.hid (slO_fresh tSpanS_law P30_1.out c33)
        replace P31_1 := Lib.hid (slO_fresh tInt_law P31_1.out c33)
        replace P32 := Lib.hid (slO_fresh tInt_law P32.out c33)
        replace d := Lib.hid (d.out.trans (c33.mono d.out.size))
        have Z_v33 := Lib.hid (show v32.heap.size ≤ v33.heap.size from c33.size)
        clear c33
        obtain ⟨ya33, yc33, rfl⟩ := slO_len o0
        have P33 := Lib.hid (slO_lt tInt_law o0)
        have Q33 := Lib.hid (fun b (h : _ ∧ b < v33.heap.size) => (show v32.heap.size ≤ b ∧ b < v33.heap.size from ⟨q0 b h.1, h.2⟩))
        clear o0 q0
        have p_B0_0 := (cell_of_row v33 _ 0 _ _ _ B0.out).trans (show _ = some (Value.slice c0_0 x0_0.length k0_0) from rfl)
        have p_B0_1 := (cell_of_row v33 _ 1 _ _ _ B0.out).trans (show _ = some (Value.slice c0_1 x0_1.length k0_1) from rfl)
        have p_B1_0 := (cell_of_row v33 _ 0 _ _ _ B1.out).trans (show _ = some (Value.int .i64 a1_0) from rfl)
        have p_B1_1 := (cell_of_row v33 _ 1 _ _ _ B1.out).trans (show _ = some (Value.slice c1_1 x1_1.length k1_1) from rfl)
        refine hK.out _ _ ⟨p_B0_0, p_B0_1, p_B1_0, p_B1_1⟩ (fun hHeld => ?_)
        clear p_B0_0 p_B0_1 p_B1_0 p_B1_1
        clear hK K
        try simp only [Act.put, List.setIfInBounds_toArray, List.set_cons_zero, List.set_cons_succ]
        refine take_runs (i := 7) (v := ?_) (by simp only [List.getElem?_toArray, List.getElem?_cons_succ, List.getElem?_cons_zero]; rfl) (by kernel_rfl) (by kernel_rfl) (by kernel_rfl) rfl (by exact fun _ _ _ h => h) (by rfl) ?_ (by assumption) ?_
        rotate_left
        · intro w hSw; (try dsimp only at hSw); go_simp; try (with_reducible rfl)
        try simp only [Act.put, List.setIfInBounds_toArray, List.set_cons_zero, List.set_cons_succ]
        refine take_runs (i := 8) (v := ?_) (by simp only [List.getElem?_toArray, List.getElem?_cons_succ, List.getElem?_cons_zero]; rfl) (by kernel_rfl) (by kernel_rfl) (by kernel_rfl) rfl (by exact fun _ _ _ h => h) (by rfl) ?_ (by assumption) ?_
        rotate_left
        · intro w hSw; (try dsimp only at hSw); go_simp; try (with_reducible rfl)
        try simp only [Act.put, List.setIfInBounds_toArray, List.set_cons_zero, List.set_cons_succ]
        refine take_runs (i := 9) (v := ?_) (by simp only [List.getElem?_toArray, List.getElem?_cons_succ, List.getElem?_cons_zero]; rfl) (by kernel_rfl) (by kernel_rfl) (by kernel_rfl) rfl (by exact fun _ _ _ h => h) (by rfl) ?_ (by assumption) ?_
        rotate_left
        · intro w hSw; (try dsimp only at hSw); go_simp; try (with_reducible rfl)
        try simp only [Act.put, List.setIfInBounds_toArray, List.set_cons_zero, List.set_cons_succ]
        refine take_runs (i := 10) (v := ?_) (by simp only [List.getElem?_toArray, List.getElem?_cons_succ, List.getElem?_cons_zero]; rfl) (by kernel_rfl) (by kernel_rfl) (by kernel_rfl) rfl (by exact fun _ _ _ h => h) (by rfl) ?_ (by assumption) ?_
        rotate_left
        · intro w hSw; (try dsimp only at hSw); go_simp; try (with_reducible rfl)
        try simp only [Act.put, List.setIfInBounds_toArray, List.set_cons_zero, List.set_cons_succ]
        refine take_runs (i := 11) (v := ?_) (by simp only [List.getElem?_toArray, List.getElem?_cons_succ, List.getElem?_cons_zero]; rfl) (by kernel_rfl) (by kernel_rfl) (by kernel_rfl) rfl (by exact fun _ _ _ h => h) (by rfl) ?_ (by assumption) ?_
        rotate_left
        · intro w hSw; (try dsimp only at hSw); go_simp; try (with_reducible rfl)
        try simp only [Act.put, List.setIfInBounds_toArray, List.set_cons_zero, List.set_cons_succ]
        refine wpAnyH_done (by kernel_rfl) ?_ _
        clear hHeld
        go_wp2_with fail
        refine (eqIntS_S (.slice ya33 r0.length yc33) (.slice ya7 r0.length yc7) r0 v33 (slO_reads tInt_law P33.out) (slO_reads tInt_law P7.out) Z0.out).mono ?_
        rintro e v34 ⟨rfl, c34⟩
        replace B0 := Lib.hid ((c34.block w.heap.size (Array.getElem?_eq_some_iff.1 B0.out).1).trans B0.out)
        replace B1 := Lib.hid ((c34.block (w.heap.size + 1) (Array.getElem?_eq_some_iff.1 B1.out).1).trans B1.out)
        replace X1 := Lib.hid ((c34.block v8.heap.size (Array.getElem?_eq_some_iff.1 X1.out).1).trans X1.out)
        replace X2 := Lib.hid ((c34.block v10.heap.size (Array.getElem?_eq_some_iff.1 X2.out).1).trans X2.out)
        replace P4_0 := Lib.hid (slO_fresh tQuery_law P4_0.out c34)
        replace P4_1 := Lib.hid (slO_fresh tSpanS_law P4_1.out c34)
        replace P5_1 := Lib.hid (slO_fresh tInt_law P5_1.out c34)
        replace P6 := Lib.hid (slO_fresh tInt_law P6.out c34)
        replace P7 := Lib.hid (slO_fresh tInt_law P7.out c34)
        replace P13 := Lib.hid (slO_fresh tInt_law P13.out c34)
        replace P30_0 := Lib.hid (slO_fresh tQuery_law P30_0.out c34)
        replace P30_1 := Lib.hid (slO_fresh tSpanS_law P30_1.out c34)
        replace P31_1 := Lib.hid (slO_fresh tInt_law P31_1.out c34)
        replace P32 := Lib.hid (slO_fresh tInt_law P32.out c34)
        replace P33 := Lib.hid (slO_fresh tInt_law P33.out c34)
        replace d := Lib.hid (d.out.trans (c34.mono d.out.size))
        have Z_v34 := Lib.hid (show v33.heap.size ≤ v34.heap.size from c34.size)
        clear c34
        go_wp2_with fail
        refine (heldIntS_S (.slice ya13 r0.length yc13) r0 (1) v34 (slO_reads tInt_law P13.out) Z0.out MR0.out.1 (by have := MR0.out.2; omega)).mono ?_
        rintro e v35 ⟨rfl, rfl⟩
        go_wp2
        go_ret
        exact ⟨rfl, HB0.out.trans (d.out.mono HB0.out.size)⟩
      ·
        have HZ0 : Hid (((zL tQuery x0_0 + zL tSpanS x0_1 : Nat) : Int) ≤ (1048576 : Int)) := Lib.hid c1
        have HK0 : Hid ((1048576 : Int) ≤ 1048576) := Lib.hid (by omega)
        have hn0 : ¬ (1048576 : Int) - ((zL tQuery x0_0 + zL tSpanS x0_1 : Nat) : Int) < 0 := by omega
        have hl2 : ¬ (1048576 : Int) < (x2_0.length : Int) := by omega
        have HL2 := Lib.hid c0
        have HZ1 : Hid ((1048576 : Int) - ((zL tQuery x0_0 + zL tSpanS x0_1 : Nat) : Int) < ((zL tInt x1_1 : Nat) : Int)) := Lib.hid (by omega)
        have HP1 : Hid (0 ≤ (1048576 : Int) - ((zL tQuery x0_0 + zL tSpanS x0_1 : Nat) : Int)) := Lib.hid (by omega)
        have HK1 : Hid ((1048576 : Int) - ((zL tQuery x0_0 + zL tSpanS x0_1 : Nat) : Int) ≤ 1048576) := Lib.hid (by omega)
        clear c2
        go_enter Tryd.func5, Tryd.ntmps5
        go_wp2_with fail
        have Y_W : Hid (w.heap.size + 2 ≤ ((w.alloc (.cells #[.slice c0_0 x0_0.length k0_0, .slice c0_1 x0_1.length k0_1] 56)).alloc (.cells #[.int .i64 a1_0, .slice c1_1 x1_1.length k1_1] 57)).heap.size) := Lib.hid (by simp [World.size_alloc])
        generalize ((w.alloc (.cells #[.slice c0_0 x0_0.length k0_0, .slice c0_1 x0_1.length k0_1] 56)).alloc (.cells #[.int .i64 a1_0, .slice c1_1 x1_1.length k1_1] 57)) = W at *
        have d := Lib.hid (Below.refl W.heap.size W)
        refine (szIndex_Y (.slice c0_0 x0_0.length k0_0) (.slice c0_1 x0_1.length k0_1) x0_0 x0_1 ((1048576 : Int)) W (slR_below tQuery_law A0_0.out d.out) (slR_below tSpanS_law A0_1.out d.out) HZ0.out HK0.out).mono ?_
        rintro e v1 ⟨rfl, c1⟩
        replace B0 := Lib.hid ((c1.block w.heap.size (Array.getElem?_eq_some_iff.1 B0.out).1).trans B0.out)
        replace B1 := Lib.hid ((c1.block (w.heap.size + 1) (Array.getElem?_eq_some_iff.1 B1.out).1).trans B1.out)
        replace d := Lib.hid (d.out.trans (c1.mono d.out.size))
        have Z_v1 := Lib.hid (show W.heap.size ≤ v1.heap.size from c1.size)
        clear c1
        have p_B1_0 := (cell_of_row v1 _ 0 _ _ _ B1.out).trans (show _ = some (Value.int .i64 a1_0) from rfl)
        have p_B1_1 := (cell_of_row v1 _ 1 _ _ _ B1.out).trans (show _ = some (Value.slice c1_1 x1_1.length k1_1) from rfl)
        go_wp2_with fail
        clear p_B1_0 p_B1_1
        refine (szRow_N a1_0 (.slice c1_1 x1_1.length k1_1) x1_1 ((1048576 : Int) - ((zL tQuery x0_0 + zL tSpanS x0_1 : Nat) : Int)) v1 (slR_below tInt_law A1_1.out d.out) HZ1.out HK1.out HP1.out O1_1.out).mono ?_
        rintro e v2 ⟨rfl, c2⟩
        replace B0 := Lib.hid ((c2.block w.heap.size (Array.getElem?_eq_some_iff.1 B0.out).1).trans B0.out)
        replace B1 := Lib.hid ((c2.block (w.heap.size + 1) (Array.getElem?_eq_some_iff.1 B1.out).1).trans B1.out)
        replace d := Lib.hid (d.out.trans (c2.mono d.out.size))
        have Z_v2 := Lib.hid (show v1.heap.size ≤ v2.heap.size from c2.size)
        clear c2
        go_wp2
        go_ret
        exact ⟨rfl, HB0.out.trans (d.out.mono HB0.out.size)⟩
    ·
      have hl2 : ¬ (1048576 : Int) < (x2_0.length : Int) := by omega
      have HL2 := Lib.hid c0
      have HZ0 : Hid ((1048576 : Int) < ((zL tQuery x0_0 + zL tSpanS x0_1 : Nat) : Int)) := Lib.hid (by omega)
      have HP0 : Hid (0 ≤ (1048576 : Int)) := Lib.hid (by omega)
      have HK0 : Hid ((1048576 : Int) ≤ 1048576) := Lib.hid (by omega)
      clear c1
      go_enter Tryd.func5, Tryd.ntmps5
      go_wp2_with fail
      have Y_W : Hid (w.heap.size + 2 ≤ ((w.alloc (.cells #[.slice c0_0 x0_0.length k0_0, .slice c0_1 x0_1.length k0_1] 56)).alloc (.cells #[.int .i64 a1_0, .slice c1_1 x1_1.length k1_1] 57)).heap.size) := Lib.hid (by simp [World.size_alloc])
      generalize ((w.alloc (.cells #[.slice c0_0 x0_0.length k0_0, .slice c0_1 x0_1.length k0_1] 56)).alloc (.cells #[.int .i64 a1_0, .slice c1_1 x1_1.length k1_1] 57)) = W at *
      have d := Lib.hid (Below.refl W.heap.size W)
      refine (szIndex_N (.slice c0_0 x0_0.length k0_0) (.slice c0_1 x0_1.length k0_1) x0_0 x0_1 ((1048576 : Int)) W (slR_below tQuery_law A0_0.out d.out) (slR_below tSpanS_law A0_1.out d.out) HZ0.out HK0.out HP0.out O0_0.out O0_1.out).mono ?_
      rintro e v1 ⟨rfl, c1⟩
      replace B0 := Lib.hid ((c1.block w.heap.size (Array.getElem?_eq_some_iff.1 B0.out).1).trans B0.out)
      replace B1 := Lib.hid ((c1.block (w.heap.size + 1) (Array.getElem?_eq_some_iff.1 B1.out).1).trans B1.out)
      replace d := Lib.hid (d.out.trans (c1.mono d.out.size))
      have Z_v1 := Lib.hid (show W.heap.size ≤ v1.heap.size from c1.size)
      clear c1
      go_wp2
      go_ret
      exact ⟨rfl, HB0.out.trans (d.out.mono HB0.out.size)⟩
  ·
    have hl2 : (1048576 : Int) < (x2_0.length : Int) := by omega
    have hm2 : (x2_0.length : Int) ≤ 9223372036854775807 := O2_0.out.1
    clear c0
    go_enter Tryd.func5, Tryd.ntmps5
    go_wp2
    go_ret
    exact ⟨rfl, HB0.out⟩
end Go.Proofs.YtidhmgboknffkaaDoor
