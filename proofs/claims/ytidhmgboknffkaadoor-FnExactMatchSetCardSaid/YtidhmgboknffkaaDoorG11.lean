/-
  Texts of the proof, merged: LawMatchSet, LawWorkOf, OpenInts, OpnT, OCond, OCondS, OQuery, OQueryS, OSpan, OSpanS, OSpanSS, OIndex, ORow, ORowS.
-/
import Derived.Test.YtidhmgboknffkaaDoorG10
import Derived.ProofKit
import Derived.OpenShut
import Derived.Carry
import Derived.Lib.SmallJoins
import Derived.Deep.Slices
namespace Go.Proofs.YtidhmgboknffkaaDoor
open Go.RowKit
set_option linter.unusedVariables false
set_option linter.unusedSimpArgs false
set_option maxHeartbeats 32000000 in
set_option maxRecDepth 100000 in
theorem law_fnExactMatchSet (v0_0 v0_1 : Value) (x0_0 : List (Int × Int × List (Int × Int × Int) × List Int)) (x0_1 : List (List (Int × Int × List Int))) (a1_0 : Int) (v1_1 : Value) (x1_1 : List Int) (r0 : List Int) (w : World) (h0_0 : SlR tQuery w v0_0 x0_0) (h0_1 : SlR tSpanS w v0_1 x0_1) (h1_1 : SlR tInt w v1_1 x1_1) (o0_0 : tQueryS.ok x0_0) (o0_1 : tSpanSS.ok x0_1) (o1_1 : tIntS.ok x1_1) (z0 : zL tInt r0 ≤ 1048576)
    (hspec : ∀ (v0_0 v0_1 v1_1 : Value) (w : World), SlR tQuery w v0_0 x0_0 → SlR tSpanS w v0_1 x0_1 → SlR tInt w v1_1 x1_1 → zL tQuery x0_0 + zL tSpanS x0_1 + zL tInt x1_1 ≤ 1048576 → Calls Tryd.prog 28 #[.agg #[v0_0, v0_1], .agg #[.int .i64 a1_0, v1_1]] w (fun e w' => ∃ (g0 : Value) (G0 : Nat → Prop), e = .returned (g0) ∧ SlO 3 tInt w' G0 g0 r0 ∧ (∀ b, G0 b → w.heap.size ≤ b) ∧ Below w.heap.size w w'))
    (himpl : ∀ (v0_0 v0_1 v1_1 : Value) (u : World), Below w.heap.size w u → SlR tQuery u v0_0 x0_0 → SlR tSpanS u v0_1 x0_1 → SlR tInt u v1_1 x1_1 → zL tQuery x0_0 + zL tSpanS x0_1 + zL tInt x1_1 ≤ 1048576 → Calls Tryd.prog 15 #[.agg #[v0_0, v0_1], .agg #[.int .i64 a1_0, v1_1]] u (fun e w' => ∃ (g0 : Value) (G0 : Nat → Prop), e = .returned (g0) ∧ SlO 3 tInt w' G0 g0 r0 ∧ (∀ b, G0 b → u.heap.size ≤ b) ∧ Below u.heap.size u w')) :
    Calls Tryd.prog 4 #[.agg #[v0_0, v0_1], .agg #[.int .i64 a1_0, v1_1]] w fun e w' => e = .returned (.bool true) ∧ Below w.heap.size w w' := by
  obtain ⟨c0_0, k0_0, rfl⟩ := slR_len h0_0
  obtain ⟨c0_1, k0_1, rfl⟩ := slR_len h0_1
  obtain ⟨c1_1, k1_1, rfl⟩ := slR_len h1_1
  have HB0 : Hid (Below w.heap.size w ((w.alloc (.cells #[.slice c0_0 x0_0.length k0_0, .slice c0_1 x0_1.length k0_1] 56)).alloc (.cells #[.int .i64 a1_0, .slice c1_1 x1_1.length k1_1] 57))) := Lib.hid (((Below.refl _ w).alloc (Nat.le_refl _) _).alloc (by simp) _)
  have B0 : Hid (((w.alloc (.cells #[.slice c0_0 x0_0.length k0_0, .slice c0_1 x0_1.length k0_1] 56)).alloc (.cells #[.int .i64 a1_0, .slice c1_1 x1_1.length k1_1] 57)).heap[w.heap.size]? = some (.cells #[.slice c0_0 x0_0.length k0_0, .slice c0_1 x0_1.length k0_1] 56 (0, 0))) := Lib.hid (by rw [Below.heap_alloc _ _ _ (by simp <;> omega)]; have := heap_alloc_new w (.cells #[.slice c0_0 x0_0.length k0_0, .slice c0_1 x0_1.length k0_1] 56); simpa only [World.size_alloc] using this)
  have B1 : Hid (((w.alloc (.cells #[.slice c0_0 x0_0.length k0_0, .slice c0_1 x0_1.length k0_1] 56)).alloc (.cells #[.int .i64 a1_0, .slice c1_1 x1_1.length k1_1] 57)).heap[(w.heap.size + 1)]? = some (.cells #[.int .i64 a1_0, .slice c1_1 x1_1.length k1_1] 57 (0, 0))) := Lib.hid (by have := heap_alloc_new (w.alloc (.cells #[.slice c0_0 x0_0.length k0_0, .slice c0_1 x0_1.length k0_1] 56)) (.cells #[.int .i64 a1_0, .slice c1_1 x1_1.length k1_1] 57); simpa only [World.size_alloc] using this)
  have A0_0 : Hid (SlR tQuery ((w.alloc (.cells #[.slice c0_0 x0_0.length k0_0, .slice c0_1 x0_1.length k0_1] 56)).alloc (.cells #[.int .i64 a1_0, .slice c1_1 x1_1.length k1_1] 57)) (.slice c0_0 x0_0.length k0_0) x0_0) := Lib.hid (slR_below tQuery_law h0_0 HB0.out)
  have A0_1 : Hid (SlR tSpanS ((w.alloc (.cells #[.slice c0_0 x0_0.length k0_0, .slice c0_1 x0_1.length k0_1] 56)).alloc (.cells #[.int .i64 a1_0, .slice c1_1 x1_1.length k1_1] 57)) (.slice c0_1 x0_1.length k0_1) x0_1) := Lib.hid (slR_below tSpanS_law h0_1 HB0.out)
  have A1_1 : Hid (SlR tInt ((w.alloc (.cells #[.slice c0_0 x0_0.length k0_0, .slice c0_1 x0_1.length k0_1] 56)).alloc (.cells #[.int .i64 a1_0, .slice c1_1 x1_1.length k1_1] 57)) (.slice c1_1 x1_1.length k1_1) x1_1) := Lib.hid (slR_below tInt_law h1_1 HB0.out)
  have O0_0 := Lib.hid o0_0
  have O0_1 := Lib.hid o0_1
  have O1_1 := Lib.hid o1_1
  clear h0_0 o0_0 h0_1 o0_1 h1_1 o1_1
  have HSP := Lib.hid hspec
  have HIM := Lib.hid himpl
  clear hspec himpl
  have Z0 := Lib.hid z0
  clear z0
  by_cases c0 : ((zL tQuery x0_0 + zL tSpanS x0_1 : Nat) : Int) ≤ (1048576 : Int)
  ·
    by_cases c1 : ((zL tInt x1_1 : Nat) : Int) ≤ (1048576 : Int) - ((zL tQuery x0_0 + zL tSpanS x0_1 : Nat) : Int)
    ·
      have HZ0 : Hid (((zL tQuery x0_0 + zL tSpanS x0_1 : Nat) : Int) ≤ (1048576 : Int)) := Lib.hid c0
      have HK0 : Hid ((1048576 : Int) ≤ 1048576) := Lib.hid (by omega)
      have hn0 : ¬ (1048576 : Int) - ((zL tQuery x0_0 + zL tSpanS x0_1 : Nat) : Int) < 0 := by omega
      have HZ1 : Hid (((zL tInt x1_1 : Nat) : Int) ≤ (1048576 : Int) - ((zL tQuery x0_0 + zL tSpanS x0_1 : Nat) : Int)) := Lib.hid c1
      have HK1 : Hid ((1048576 : Int) - ((zL tQuery x0_0 + zL tSpanS x0_1 : Nat) : Int) ≤ 1048576) := Lib.hid (by omega)
      have hn1 : ¬ (1048576 : Int) - ((zL tQuery x0_0 + zL tSpanS x0_1 : Nat) : Int) - ((zL tInt x1_1 : Nat) : Int) < 0 := by omega
      have HT : Hid (zL tQuery x0_0 + zL tSpanS x0_1 + zL tInt x1_1 ≤ 1048576) := Lib.hid (by omega)
      have S0_0 : Hid (zL tQuery x0_0 ≤ 1048576) := Lib.hid (by omega)
      have S0_1 : Hid (zL tSpanS x0_1 ≤ 1048576) := Lib.hid (by omega)
      have S1_1 : Hid (zL tInt x1_1 ≤ 1048576) := Lib.hid (by omega)
      have N0_0 := ndL_le tQuery_law (by decide) x0_0
      have N0_1 := ndL_le tSpanS_law (by decide) x0_1
      have N1_1 := ndL_le tInt_law (by decide) x1_1
      have M0 : Hid (0 ≤ (1 : Int) ∧ (1 : Int) ≤ 134217728) := Lib.hid (by have := HT.out; omega)
      have M1 : Hid (0 ≤ (1 + (ndL tQuery x0_0 : Int) + (ndL tSpanS x0_1 : Int) : Int) ∧ (1 + (ndL tQuery x0_0 : Int) + (ndL tSpanS x0_1 : Int) : Int) ≤ 134217728) := Lib.hid (by have := HT.out; omega)
      have hk : ¬ (1 + (ndL tQuery x0_0 : Int) + (ndL tSpanS x0_1 : Int) + (ndL tInt x1_1 : Int) : Int) < 0 := by omega
      clear N0_0 N0_1 N1_1
      have NR0 := ndL_le tInt_law (by decide) r0
      have MR0 : Hid (0 ≤ (1 : Int) ∧ (1 : Int) ≤ 134217728) := Lib.hid (by have := Z0.out; omega)
      have hh0 : ¬ (1 + (ndL tInt r0 : Int) : Int) < 0 := by have := Z0.out; omega
      have hq : ((1 + (ndL tInt r0 : Int) : Int) != 1 + (ndL tInt r0 : Int)) = false := by simp
      clear NR0
      clear c0 c1
      go_enter Tryd.func4, Tryd.ntmps4
      go_wp2_with fail
      have Y_W : Hid (w.heap.size + 2 ≤ ((w.alloc (.cells #[.slice c0_0 x0_0.length k0_0, .slice c0_1 x0_1.length k0_1] 56)).alloc (.cells #[.int .i64 a1_0, .slice c1_1 x1_1.length k1_1] 57)).heap.size) := Lib.hid (by simp [World.size_alloc])
      generalize ((w.alloc (.cells #[.slice c0_0 x0_0.length k0_0, .slice c0_1 x0_1.length k0_1] 56)).alloc (.cells #[.int .i64 a1_0, .slice c1_1 x1_1.length k1_1] 57)) = W at *
      have d := Lib.hid (Below.refl W.heap.size W)
      refine (szIndex_Y (.slice c0_0 x0_0.length k0_0) (.slice c0_1 x0_1.length k0_1) x0_0 x0_1 ((1048576 : Int)) W (slR_below tQuery_law A0_0.out d.out) (slR_below tSpanS_law A0_1.out d.out) HZ0.out HK0.out).mono ?_
      rintro e v1 ⟨rfl, c1⟩
      replace B0 := Lib.hid ((c1.block w.heap.size (Array.getElem?_eq_some_iff.1 B0.out).1).trans B0.out)
      replace B1 := Lib.hid ((c1.block (w.heap.size + 1) (Array.getElem?_eq_some_iff.1 B1.out).1).trans B1.out)
      replace d := Lib.hid (d.out.trans (c1.mono d.out.size))
      have Z_v1 := Lib.hid (show W.heap.size ≤ v1.heap.size from c1.size)
      clear c1
      have p_B1_0 := (cell_of_row v1 _ 0 _ _ _ B1.out).trans (show _ = some (Value.int .i64 a1_0) from rfl)
      have p_B1_1 := (cell_of_row v1 _ 1 _ _ _ B1.out).trans (show _ = some (Value.slice c1_1 x1_1.length k1_1) from rfl)
      go_wp2_with fail
      clear p_B1_0 p_B1_1
      refine (szRow_Y a1_0 (.slice c1_1 x1_1.length k1_1) x1_1 ((1048576 : Int) - ((zL tQuery x0_0 + zL tSpanS x0_1 : Nat) : Int)) v1 (slR_below tInt_law A1_1.out d.out) HZ1.out HK1.out).mono ?_
      rintro e v2 ⟨rfl, c2⟩
      replace B0 := Lib.hid ((c2.block w.heap.size (Array.getElem?_eq_some_iff.1 B0.out).1).trans B0.out)
      replace B1 := Lib.hid ((c2.block (w.heap.size + 1) (Array.getElem?_eq_some_iff.1 B1.out).1).trans B1.out)
      replace d := Lib.hid (d.out.trans (c2.mono d.out.size))
      have Z_v2 := Lib.hid (show v1.heap.size ≤ v2.heap.size from c2.size)
      clear c2
      go_wp2
      have p_B0_0 := (cell_of_row v2 _ 0 _ _ _ B0.out).trans (show _ = some (Value.slice c0_0 x0_0.length k0_0) from rfl)
      have p_B0_1 := (cell_of_row v2 _ 1 _ _ _ B0.out).trans (show _ = some (Value.slice c0_1 x0_1.length k0_1) from rfl)
      have p_B1_0 := (cell_of_row v2 _ 0 _ _ _ B1.out).trans (show _ = some (Value.int .i64 a1_0) from rfl)
      have p_B1_1 := (cell_of_row v2 _ 1 _ _ _ B1.out).trans (show _ = some (Value.slice c1_1 x1_1.length k1_1) from rfl)
      refine wp_region_held_drew (S := fun w' => w'.cell? ⟨w.heap.size, 0, none⟩ = some (Value.slice c0_0 x0_0.length k0_0) ∧ w'.cell? ⟨w.heap.size, 1, none⟩ = some (Value.slice c0_1 x0_1.length k0_1) ∧ w'.cell? ⟨(w.heap.size + 1), 0, none⟩ = some (Value.int .i64 a1_0) ∧ w'.cell? ⟨(w.heap.size + 1), 1, none⟩ = some (Value.slice c1_1 x1_1.length k1_1)) (by kernel_rfl) ⟨p_B0_0, p_B0_1, p_B1_0, p_B1_1⟩ (fun hHeld => ?_)
      clear p_B0_0 p_B0_1 p_B1_0 p_B1_1
      have cd3 : Below v2.heap.size v2 v2.drew := below_drew (Below.refl _ _)
      replace B0 := Lib.hid ((cd3.block w.heap.size (Array.getElem?_eq_some_iff.1 B0.out).1).trans B0.out)
      replace B1 := Lib.hid ((cd3.block (w.heap.size + 1) (Array.getElem?_eq_some_iff.1 B1.out).1).trans B1.out)
      replace d := Lib.hid (d.out.trans (cd3.mono d.out.size))
      clear cd3
      refine take_runs (i := 0) (v := ?_) (by simp only [List.getElem?_toArray, List.getElem?_cons_succ, List.getElem?_cons_zero]; rfl) (by kernel_rfl) (by kernel_rfl) (by kernel_rfl) rfl (by exact fun _ _ _ h => h) (by rfl) ?_ (by assumption) ?_
      rotate_left
      · intro w hSw; (try dsimp only at hSw); go_simp; try (with_reducible rfl)
      try simp only [Act.put, List.setIfInBounds_toArray, List.set_cons_zero, List.set_cons_succ]
      refine take_runs (i := 2) (v := ?_) (by simp only [List.getElem?_toArray, List.getElem?_cons_succ, List.getElem?_cons_zero]; rfl) (by kernel_rfl) (by kernel_rfl) (by kernel_rfl) rfl (by exact fun _ _ _ h => h) (by rfl) ?_ (by assumption) ?_
      rotate_left
      · intro w hSw; (try dsimp only at hSw); go_simp; try (with_reducible rfl)
      try simp only [Act.put, List.setIfInBounds_toArray, List.set_cons_zero, List.set_cons_succ]
      refine wpAnyH_ready (rs := [1]) (by kernel_rfl) (by simp) ?_
      refine AllReadyH.cons (o := _) (by simp only [List.getElem?_toArray, List.getElem?_cons_succ, List.getElem?_cons_zero]; rfl) (fun K hK => ?_) AllReadyH.nil
      go_simp
      refine (toIndex_T (.slice c0_0 x0_0.length k0_0) (.slice c0_1 x0_1.length k0_1) x0_0 x0_1 (v2.drew) (slR_below tQuery_law A0_0.out d.out) (slR_below tSpanS_law A0_1.out d.out) S0_0.out S0_1.out).mono ?_
      rintro e v4 ⟨cs, rfl, ow, c4⟩
      replace B0 := Lib.hid ((c4.block w.heap.size (Array.getElem?_eq_some_iff.1 B0.out).1).trans B0.out)
      replace B1 := Lib.hid ((c4.block (w.heap.size + 1) (Array.getElem?_eq_some_iff.1 B1.out).1).trans B1.out)
      replace d := Lib.hid (d.out.trans (c4.mono d.out.size))
      have Z_v4 := Lib.hid (show v2.heap.size ≤ v4.heap.size from c4.size)
      clear c4
      replace ow := tIndex_law.lt ow
      obtain ⟨y4_0, y4_1, K4_0, K4_1, rfl, p4_0, p4_1, w4_0, w4_1, d4_0_1⟩ := tIndex_O ow
      obtain ⟨ya4_0, yc4_0, rfl⟩ := slO_len p4_0
      have P4_0 := Lib.hid p4_0
      have Q4_0 := Lib.hid (fun b h => (show (v2.drew).heap.size ≤ b ∧ b < v4.heap.size from w4_0 b h))
      obtain ⟨ya4_1, yc4_1, rfl⟩ := slO_len p4_1
      have P4_1 := Lib.hid p4_1
      have Q4_1 := Lib.hid (fun b h => (show (v2.drew).heap.size ≤ b ∧ b < v4.heap.size from w4_1 b h))
      have D4_0_1 := Lib.hid d4_0_1
      clear d4_0_1
      clear p4_0 w4_0 p4_1 w4_1 ow
      have p_B0_0 := (cell_of_row v4 _ 0 _ _ _ B0.out).trans (show _ = some (Value.slice c0_0 x0_0.length k0_0) from rfl)
      have p_B0_1 := (cell_of_row v4 _ 1 _ _ _ B0.out).trans (show _ = some (Value.slice c0_1 x0_1.length k0_1) from rfl)
      have p_B1_0 := (cell_of_row v4 _ 0 _ _ _ B1.out).trans (show _ = some (Value.int .i64 a1_0) from rfl)
      have p_B1_1 := (cell_of_row v4 _ 1 _ _ _ B1.out).trans (show _ = some (Value.slice c1_1 x1_1.length k1_1) from rfl)
      refine hK.out _ _ ⟨p_B0_0, p_B0_1, p_B1_0, p_B1_1⟩ (fun hHeld => ?_)
      clear p_B0_0 p_B0_1 p_B1_0 p_B1_1
      clear hK K
      try simp only [Act.put, List.setIfInBounds_toArray, List.set_cons_zero, List.set_cons_succ]
      refine wpAnyH_ready (rs := [3]) (by kernel_rfl) (by simp) ?_
      refine AllReadyH.cons (o := _) (by simp only [List.getElem?_toArray, List.getElem?_cons_succ, List.getElem?_cons_zero]; rfl) (fun K hK => ?_) AllReadyH.nil
      go_simp
      refine (toRow_T a1_0 (.slice c1_1 x1_1.length k1_1) x1_1 v4 (slR_below tInt_law A1_1.out d.out) S1_1.out).mono ?_
      rintro e v5 ⟨cs, rfl, ow, c5⟩
      replace B0 := Lib.hid ((c5.block w.heap.size (Array.getElem?_eq_some_iff.1 B0.out).1).trans B0.out)
      replace B1 := Lib.hid ((c5.block (w.heap.size + 1) (Array.getElem?_eq_some_iff.1 B1.out).1).trans B1.out)
      replace P4_0 := Lib.hid (slO_fresh tQuery_law P4_0.out c5)
      replace P4_1 := Lib.hid (slO_fresh tSpanS_law P4_1.out c5)
      replace d := Lib.hid (d.out.trans (c5.mono d.out.size))
      have Z_v5 := Lib.hid (show v4.heap.size ≤ v5.heap.size from c5.size)
      clear c5
      replace ow := tRow_law.lt ow
      obtain ⟨y5_1, K5_1, rfl, p5_1, w5_1⟩ := tRow_O ow
      obtain ⟨ya5_1, yc5_1, rfl⟩ := slO_len p5_1
      have P5_1 := Lib.hid p5_1
      have Q5_1 := Lib.hid (fun b h => (show v4.heap.size ≤ b ∧ b < v5.heap.size from w5_1 b h))
      clear p5_1 w5_1 ow
      have p_B0_0 := (cell_of_row v5 _ 0 _ _ _ B0.out).trans (show _ = some (Value.slice c0_0 x0_0.length k0_0) from rfl)
      have p_B0_1 := (cell_of_row v5 _ 1 _ _ _ B0.out).trans (show _ = some (Value.slice c0_1 x0_1.length k0_1) from rfl)
      have p_B1_0 := (cell_of_row v5 _ 0 _ _ _ B1.out).trans (show _ = some (Value.int .i64 a1_0) from rfl)
      have p_B1_1 := (cell_of_row v5 _ 1 _ _ _ B1.out).trans (show _ = some (Value.slice c1_1 x1_1.length k1_1) from rfl)
      refine hK.out _ _ ⟨p_B0_0, p_B0_1, p_B1_0, p_B1_1⟩ (fun hHeld => ?_)
      clear p_B0_0 p_B0_1 p_B1_0 p_B1_1
      clear hK K
      try simp only [Act.put, List.setIfInBounds_toArray, List.set_cons_zero, List.set_cons_succ]
      refine wpAnyH_ready (rs := [4]) (by kernel_rfl) (by simp) ?_
      refine AllReadyH.cons (o := _) (by simp only [List.getElem?_toArray, List.getElem?_cons_succ, List.getElem?_cons_zero]; rfl) (fun K hK => ?_) AllReadyH.nil
      go_simp
      refine (HSP.out (.slice ya4_0 x0_0.length yc4_0) (.slice ya4_1 x0_1.length yc4_1) (.slice ya5_1 x1_1.length yc5_1) v5 (slO_reads tQuery_law P4_0.out) (slO_reads tSpanS_law P4_1.out) (slO_reads tInt_law P5_1.out) HT.out ).mono ?_
      rintro e v6 ⟨g0, G0, rfl, o0, q0, c6⟩
      replace B0 := Lib.hid ((c6.block w.heap.size (Array.getElem?_eq_some_iff.1 B0.out).1).trans B0.out)
      replace B1 := Lib.hid ((c6.block (w.heap.size + 1) (Array.getElem?_eq_some_iff.1 B1.out).1).trans B1.out)
      replace P4_0 := Lib.hid (slO_fresh tQuery_law P4_0.out c6)
      replace P4_1 := Lib.hid (slO_fresh tSpanS_law P4_1.out c6)
      replace P5_1 := Lib.hid (slO_fresh tInt_law P5_1.out c6)
      replace d := Lib.hid (d.out.trans (c6.mono d.out.size))
      have Z_v6 := Lib.hid (show v5.heap.size ≤ v6.heap.size from c6.size)
      clear c6
      obtain ⟨ya6, yc6, rfl⟩ := slO_len o0
      have P6 := Lib.hid (slO_lt tInt_law o0)
      have Q6 := Lib.hid (fun b (h : _ ∧ b < v6.heap.size) => (show v5.heap.size ≤ b ∧ b < v6.heap.size from ⟨q0 b h.1, h.2⟩))
      clear o0 q0
      have p_B0_0 := (cell_of_row v6 _ 0 _ _ _ B0.out).trans (show _ = some (Value.slice c0_0 x0_0.length k0_0) from rfl)
      have p_B0_1 := (cell_of_row v6 _ 1 _ _ _ B0.out).trans (show _ = some (Value.slice c0_1 x0_1.length k0_1) from rfl)
      have p_B1_0 := (cell_of_row v6 _ 0 _ _ _ B1.out).trans (show _ = some (Value.int .i64 a1_0) from rfl)
      have p_B1_1 := (cell_of_row v6 _ 1 _ _ _ B1.out).trans (show _ = some (Value.slice c1_1 x1_1.length k1_1) from rfl)
      refine hK.out _ _ ⟨p_B0_0, p_B0_1, p_B1_0, p_B1_1⟩ (fun hHeld => ?_)
      clear p_B0_0 p_B0_1 p_B1_0 p_B1_1
      clear hK K
      try simp only [Act.put, List.setIfInBounds_toArray, List.set_cons_zero, List.set_cons_succ]
      refine take_runs (i := 5) (v := ?_) (by simp only [List.getElem?_toArray, List.getElem?_cons_succ, List.getElem?_cons_zero]; rfl) (by kernel_rfl) (by kernel_rfl) (by kernel_rfl) rfl (by exact fun _ _ _ h => h) (by rfl) ?_ (by assumption) ?_
      rotate_left
      · intro w hSw; (try dsimp only at hSw); go_simp; try (with_reducible rfl)
      try simp only [Act.put, List.setIfInBounds_toArray, List.set_cons_zero, List.set_cons_succ]
      refine wpAnyH_done (by kernel_rfl) ?_ _
      clear hHeld
      have p_B0_0 := (cell_of_row v6 _ 0 _ _ _ B0.out).trans (show _ = some (Value.slice c0_0 x0_0.length k0_0) from rfl)
      have p_B0_1 := (cell_of_row v6 _ 1 _ _ _ B0.out).trans (show _ = some (Value.slice c0_1 x0_1.length k0_1) from rfl)
      go_wp2_with fail
      clear p_B0_0 p_B0_1
      refine (toIndex_T (.slice c0_0 x0_0.length k0_0) (.slice c0_1 x0_1.length k0_1) x0_0 x0_1 v6 (slR_below tQuery_law A0_0.out d.out) (slR_below tSpanS_law A0_1.out d.out) S0_0.out S0_1.out).mono ?_
      rintro e v7 ⟨cs, rfl, ow, c7⟩
      replace B0 := Lib.hid ((c7.block w.heap.size (Array.getElem?_eq_some_iff.1 B0.out).1).trans B0.out)
      replace B1 := Lib.hid ((c7.block (w.heap.size + 1) (Array.getElem?_eq_some_iff.1 B1.out).1).trans B1.out)
      replace P4_0 := Lib.hid (slO_fresh tQuery_law P4_0.out c7)
      replace P4_1 := Lib.hid (slO_fresh tSpanS_law P4_1.out c7)
      replace P5_1 := Lib.hid (slO_fresh tInt_law P5_1.out c7)
      replace P6 := Lib.hid (slO_fresh tInt_law P6.out c7)
      replace d := Lib.hid (d.out.trans (c7.mono d.out.size))
      have Z_v7 := Lib.hid (show v6.heap.size ≤ v7.heap.size from c7.size)
      clear c7
      replace ow := tIndex_law.lt ow
      obtain ⟨y7_0, y7_1, K7_0, K7_1, rfl, p7_0, p7_1, w7_0, w7_1, d7_0_1⟩ := tIndex_O ow
      obtain ⟨ya7_0, yc7_0, rfl⟩ := slO_len p7_0
      have P7_0 := Lib.hid p7_0
      have Q7_0 := Lib.hid (fun b h => (show v6.heap.size ≤ b ∧ b < v7.heap.size from w7_0 b h))
      obtain ⟨ya7_1, yc7_1, rfl⟩ := slO_len p7_1
      have P7_1 := Lib.hid p7_1
      have Q7_1 := Lib.hid (fun b h => (show v6.heap.size ≤ b ∧ b < v7.heap.size from w7_1 b h))
      have D7_0_1 := Lib.hid d7_0_1
      clear d7_0_1
      clear p7_0 w7_0 p7_1 w7_1 ow
      have hal : Below v7.heap.size v7 (v7.alloc (.cells #[.slice ya7_0 x0_0.length yc7_0, .slice ya7_1 x0_1.length yc7_1] 27)) := (Below.refl _ _).alloc (Nat.le_refl _) _
      have X1 := Lib.hid (heap_alloc_new v7 (.cells #[.slice ya7_0 x0_0.length yc7_0, .slice ya7_1 x0_1.length yc7_1] 27))
      have Y_X1 := Lib.hid (show v7.heap.size < (v7.alloc (.cells #[.slice ya7_0 x0_0.length yc7_0, .slice ya7_1 x0_1.length yc7_1] 27)).heap.size by simp [World.size_alloc])
      replace B0 := Lib.hid ((hal.block w.heap.size (Array.getElem?_eq_some_iff.1 B0.out).1).trans B0.out)
      replace B1 := Lib.hid ((hal.block (w.heap.size + 1) (Array.getElem?_eq_some_iff.1 B1.out).1).trans B1.out)
      replace P4_0 := Lib.hid (slO_fresh tQuery_law P4_0.out hal)
      replace P4_1 := Lib.hid (slO_fresh tSpanS_law P4_1.out hal)
      replace P5_1 := Lib.hid (slO_fresh tInt_law P5_1.out hal)
      replace P6 := Lib.hid (slO_fresh tInt_law P6.out hal)
      replace P7_0 := Lib.hid (slO_fresh tQuery_law P7_0.out hal)
      replace P7_1 := Lib.hid (slO_fresh tSpanS_law P7_1.out hal)
      replace d := Lib.hid (d.out.trans (hal.mono d.out.size))
      clear hal
      have p_B1_0 := (cell_of_row (v7.alloc (.cells #[.slice ya7_0 x0_0.length yc7_0, .slice ya7_1 x0_1.length yc7_1] 27)) _ 0 _ _ _ B1.out).trans (show _ = some (Value.int .i64 a1_0) from rfl)
      have p_B1_1 := (cell_of_row (v7.alloc (.cells #[.slice ya7_0 x0_0.length yc7_0, .slice ya7_1 x0_1.length yc7_1] 27)) _ 1 _ _ _ B1.out).trans (show _ = some (Value.slice c1_1 x1_1.length k1_1) from rfl)
      go_wp2_with fail
      clear p_B1_0 p_B1_1
      generalize (v7.alloc (.cells #[.slice ya7_0 x0_0.length yc7_0, .slice ya7_1 x0_1.length yc7_1] 27)) = u8 at *
      refine (toRow_T a1_0 (.slice c1_1 x1_1.length k1_1) x1_1 u8 (slR_below tInt_law A1_1.out d.out) S1_1.out).mono ?_
      rintro e v9 ⟨cs, rfl, ow, c9⟩
      replace B0 := Lib.hid ((c9.block w.heap.size (Array.getElem?_eq_some_iff.1 B0.out).1).trans B0.out)
      replace B1 := Lib.hid ((c9.block (w.heap.size + 1) (Array.getElem?_eq_some_iff.1 B1.out).1).trans B1.out)
      replace X1 := Lib.hid ((c9.block v7.heap.size (Array.getElem?_eq_some_iff.1 X1.out).1).trans X1.out)
      replace P4_0 := Lib.hid (slO_fresh tQuery_law P4_0.out c9)
      replace P4_1 := Lib.hid (slO_fresh tSpanS_law P4_1.out c9)
      replace P5_1 := Lib.hid (slO_fresh tInt_law P5_1.out c9)
      replace P6 := Lib.hid (slO_fresh tInt_law P6.out c9)
      replace P7_0 := Lib.hid (slO_fresh tQuery_law P7_0.out c9)
      replace P7_1 := Lib.hid (slO_fresh tSpanS_law P7_1.out c9)
      replace d := Lib.hid (d.out.trans (c9.mono d.out.size))
      have Z_v9 := Lib.hid (show u8.heap.size ≤ v9.heap.size from c9.size)
      clear c9
      replace ow := tRow_law.lt ow
      obtain ⟨y9_1, K9_1, rfl, p9_1, w9_1⟩ := tRow_O ow
      obtain ⟨ya9_1, yc9_1, rfl⟩ := slO_len p9_1
      have P9_1 := Lib.hid p9_1
      have Q9_1 := Lib.hid (fun b h => (show u8.heap.size ≤ b ∧ b < v9.heap.size from w9_1 b h))
      clear p9_1 w9_1 ow
      have hal : Below v9.heap.size v9 (v9.alloc (.cells #[.int .i64 a1_0, .slice ya9_1 x1_1.length yc9_1] 30)) := (Below.refl _ _).alloc (Nat.le_refl _) _
      have X2 := Lib.hid (heap_alloc_new v9 (.cells #[.int .i64 a1_0, .slice ya9_1 x1_1.length yc9_1] 30))
      have Y_X2 := Lib.hid (show v9.heap.size < (v9.alloc (.cells #[.int .i64 a1_0, .slice ya9_1 x1_1.length yc9_1] 30)).heap.size by simp [World.size_alloc])
      replace B0 := Lib.hid ((hal.block w.heap.size (Array.getElem?_eq_some_iff.1 B0.out).1).trans B0.out)
      replace B1 := Lib.hid ((hal.block (w.heap.size + 1) (Array.getElem?_eq_some_iff.1 B1.out).1).trans B1.out)
      replace X1 := Lib.hid ((hal.block v7.heap.size (Array.getElem?_eq_some_iff.1 X1.out).1).trans X1.out)
      replace P4_0 := Lib.hid (slO_fresh tQuery_law P4_0.out hal)
      replace P4_1 := Lib.hid (slO_fresh tSpanS_law P4_1.out hal)
      replace P5_1 := Lib.hid (slO_fresh tInt_law P5_1.out hal)
      replace P6 := Lib.hid (slO_fresh tInt_law P6.out hal)
      replace P7_0 := Lib.hid (slO_fresh tQuery_law P7_0.out hal)
      replace P7_1 := Lib.hid (slO_fresh tSpanS_law P7_1.out hal)
      replace P9_1 := Lib.hid (slO_fresh tInt_law P9_1.out hal)
      replace d := Lib.hid (d.out.trans (hal.mono d.out.size))
      clear hal
      have p_X1_0 := (cell_of_row (v9.alloc (.cells #[.int .i64 a1_0, .slice ya9_1 x1_1.length yc9_1] 30)) _ 0 _ _ _ X1.out).trans (show _ = some (Value.slice ya7_0 x0_0.length yc7_0) from rfl)
      have p_X1_1 := (cell_of_row (v9.alloc (.cells #[.int .i64 a1_0, .slice ya9_1 x1_1.length yc9_1] 30)) _ 1 _ _ _ X1.out).trans (show _ = some (Value.slice ya7_1 x0_1.length yc7_1) from rfl)
      have p_X2_0 := (cell_of_row (v9.alloc (.cells #[.int .i64 a1_0, .slice ya9_1 x1_1.length yc9_1] 30)) _ 0 _ _ _ X2.out).trans (show _ = some (Value.int .i64 a1_0) from rfl)
      have p_X2_1 := (cell_of_row (v9.alloc (.cells #[.int .i64 a1_0, .slice ya9_1 x1_1.length yc9_1] 30)) _ 1 _ _ _ X2.out).trans (show _ = some (Value.slice ya9_1 x1_1.length yc9_1) from rfl)
      go_wp2_with fail
      clear p_X1_0 p_X1_1 p_X2_0 p_X2_1
      generalize (v9.alloc (.cells #[.int .i64 a1_0, .slice ya9_1 x1_1.length yc9_1] 30)) = u10 at *
      refine (HIM.out (.slice ya7_0 x0_0.length yc7_0) (.slice ya7_1 x0_1.length yc7_1) (.slice ya9_1 x1_1.length yc9_1) u10 (HB0.out.trans (d.out.mono HB0.out.size)) (slO_reads tQuery_law P7_0.out) (slO_reads tSpanS_law P7_1.out) (slO_reads tInt_law P9_1.out) HT.out ).mono ?_
      rintro e v11 ⟨g0, G0, rfl, o0, q0, c11⟩
      replace B0 := Lib.hid ((c11.block w.heap.size (Array.getElem?_eq_some_iff.1 B0.out).1).trans B0.out)
      replace B1 := Lib.hid ((c11.block (w.heap.size + 1) (Array.getElem?_eq_some_iff.1 B1.out).1).trans B1.out)
      replace X1 := Lib.hid ((c11.block v7.heap.size (Array.getElem?_eq_some_iff.1 X1.out).1).trans X1.out)
      replace X2 := Lib.hid ((c11.block v9.heap.size (Array.getElem?_eq_some_iff.1 X2.out).1).trans X2.out)
      replace P4_0 := Lib.hid (slO_fresh tQuery_law P4_0.out c11)
      replace P4_1 := Lib.hid (slO_fresh tSpanS_law P4_1.out c11)
      replace P5_1 := Lib.hid (slO_fresh tInt_law P5_1.out c11)
      replace P6 := Lib.hid (slO_fresh tInt_law P6.out c11)
      replace P7_0 := Lib.hid (slO_fresh tQuery_law P7_0.out c11)
      replace P7_1 := Lib.hid (slO_fresh tSpanS_law P7_1.out c11)
      replace P9_1 := Lib.hid (slO_fresh tInt_law P9_1.out c11)
      replace d := Lib.hid (d.out.trans (c11.mono d.out.size))
      have Z_v11 := Lib.hid (show u10.heap.size ≤ v11.heap.size from c11.size)
      clear c11
      obtain ⟨ya11, yc11, rfl⟩ := slO_len o0
      have P11 := Lib.hid (slO_lt tInt_law o0)
      have Q11 := Lib.hid (fun b (h : _ ∧ b < v11.heap.size) => (show u10.heap.size ≤ b ∧ b < v11.heap.size from ⟨q0 b h.1, h.2⟩))
      clear o0 q0
      go_wp2_with fail
      refine (eqIntS_S (.slice ya11 r0.length yc11) (.slice ya6 r0.length yc6) r0 v11 (slO_reads tInt_law P11.out) (slO_reads tInt_law P6.out) Z0.out).mono ?_
      rintro e v12 ⟨rfl, c12⟩
      replace B0 := Lib.hid ((c12.block w.heap.size (Array.getElem?_eq_some_iff.1 B0.out).1).trans B0.out)
      replace B1 := Lib.hid ((c12.block (w.heap.size + 1) (Array.getElem?_eq_some_iff.1 B1.out).1).trans B1.out)
      replace X1 := Lib.hid ((c12.block v7.heap.size (Array.getElem?_eq_some_iff.1 X1.out).1).trans X1.out)
      replace X2 := Lib.hid ((c12.block v9.heap.size (Array.getElem?_eq_some_iff.1 X2.out).1).trans X2.out)
      replace P4_0 := Lib.hid (slO_fresh tQuery_law P4_0.out c12)
      replace P4_1 := Lib.hid (slO_fresh tSpanS_law P4_1.out c12)
      replace P5_1 := Lib.hid (slO_fresh tInt_law P5_1.out c12)
      replace P6 := Lib.hid (slO_fresh tInt_law P6.out c12)
      replace P7_0 := Lib.hid (slO_fresh tQuery_law P7_0.out c12)
      replace P7_1 := Lib.hid (slO_fresh tSpanS_law P7_1.out c12)
      replace P9_1 := Lib.hid (slO_fresh tInt_law P9_1.out c12)
      replace P11 := Lib.hid (slO_fresh tInt_law P11.out c12)
      replace d := Lib.hid (d.out.trans (c12.mono d.out.size))
      have Z_v12 := Lib.hid (show v11.heap.size ≤ v12.heap.size from c12.size)
      clear c12
      go_wp2
      have p_B0_0 := (cell_of_row v12 _ 0 _ _ _ B0.out).trans (show _ = some (Value.slice c0_0 x0_0.length k0_0) from rfl)
      have p_B0_1 := (cell_of_row v12 _ 1 _ _ _ B0.out).trans (show _ = some (Value.slice c0_1 x0_1.length k0_1) from rfl)
      have p_X1_0 := (cell_of_row v12 _ 0 _ _ _ X1.out).trans (show _ = some (Value.slice ya7_0 x0_0.length yc7_0) from rfl)
      have p_X1_1 := (cell_of_row v12 _ 1 _ _ _ X1.out).trans (show _ = some (Value.slice ya7_1 x0_1.length yc7_1) from rfl)
      refine wp_region_held_drew (S := fun w' => w'.cell? ⟨w.heap.size, 0, none⟩ = some (Value.slice c0_0 x0_0.length k0_0) ∧ w'.cell? ⟨w.heap.size, 1, none⟩ = some (Value.slice c0_1 x0_1.length k0_1) ∧ w'.cell? ⟨v7.heap.size, 0, none⟩ = some (Value.slice ya7_0 x0_0.length yc7_0) ∧ w'.cell? ⟨v7.heap.size, 1, none⟩ = some (Value.slice ya7_1 x0_1.length yc7_1)) (by kernel_rfl) ⟨p_B0_0, p_B0_1, p_X1_0, p_X1_1⟩ (fun hHeld => ?_)
      clear p_B0_0 p_B0_1 p_X1_0 p_X1_1
      have cd13 : Below v12.heap.size v12 v12.drew := below_drew (Below.refl _ _)
      replace B0 := Lib.hid ((cd13.block w.heap.size (Array.getElem?_eq_some_iff.1 B0.out).1).trans B0.out)
      replace B1 := Lib.hid ((cd13.block (w.heap.size + 1) (Array.getElem?_eq_some_iff.1 B1.out).1).trans B1.out)
      replace X1 := Lib.hid ((cd13.block v7.heap.size (Array.getElem?_eq_some_iff.1 X1.out).1).trans X1.out)
      replace X2 := Lib.hid ((cd13.block v9.heap.size (Array.getElem?_eq_some_iff.1 X2.out).1).trans X2.out)
      replace P4_0 := Lib.hid (slO_fresh tQuery_law P4_0.out cd13)
      replace P4_1 := Lib.hid (slO_fresh tSpanS_law P4_1.out cd13)
      replace P5_1 := Lib.hid (slO_fresh tInt_law P5_1.out cd13)
      replace P6 := Lib.hid (slO_fresh tInt_law P6.out cd13)
      replace P7_0 := Lib.hid (slO_fresh tQuery_law P7_0.out cd13)
      replace P7_1 := Lib.hid (slO_fresh tSpanS_law P7_1.out cd13)
      replace P9_1 := Lib.hid (slO_fresh tInt_law P9_1.out cd13)
      replace P11 := Lib.hid (slO_fresh tInt_law P11.out cd13)
      replace d := Lib.hid (d.out.trans (cd13.mono d.out.size))
      clear cd13
      refine take_runs (i := 0) (v := ?_) (by simp only [List.getElem?_toArray, List.getElem?_cons_succ, List.getElem?_cons_zero]; rfl) (by kernel_rfl) (by kernel_rfl) (by kernel_rfl) rfl (by exact fun _ _ _ h => h) (by rfl) ?_ (by assumption) ?_
      rotate_left
      · intro w hSw; (try dsimp only at hSw); go_simp; try (with_reducible rfl)
      try simp only [Act.put, List.setIfInBounds_toArray, List.set_cons_zero, List.set_cons_succ]
      refine take_runs (i := 1) (v := ?_) (by simp only [List.getElem?_toArray, List.getElem?_cons_succ, List.getElem?_cons_zero]; rfl) (by kernel_rfl) (by kernel_rfl) (by kernel_rfl) rfl (by exact fun _ _ _ h => h) (by rfl) ?_ (by assumption) ?_
      rotate_left
      · intro w hSw; (try dsimp only at hSw); go_simp; try (with_reducible rfl)
      try simp only [Act.put, List.setIfInBounds_toArray, List.set_cons_zero, List.set_cons_succ]
      refine wpAnyH_ready (rs := [2]) (by kernel_rfl) (by simp) ?_
      refine AllReadyH.cons (o := _) (by simp only [List.getElem?_toArray, List.getElem?_cons_succ, List.getElem?_cons_zero]; rfl) (fun K hK => ?_) AllReadyH.nil
      go_simp
      refine (toIndex_T (.slice c0_0 x0_0.length k0_0) (.slice c0_1 x0_1.length k0_1) x0_0 x0_1 (v12.drew) (slR_below tQuery_law A0_0.out d.out) (slR_below tSpanS_law A0_1.out d.out) S0_0.out S0_1.out).mono ?_
      rintro e v14 ⟨cs, rfl, ow, c14⟩
      replace B0 := Lib.hid ((c14.block w.heap.size (Array.getElem?_eq_some_iff.1 B0.out).1).trans B0.out)
      replace B1 := Lib.hid ((c14.block (w.heap.size + 1) (Array.getElem?_eq_some_iff.1 B1.out).1).trans B1.out)
      replace X1 := Lib.hid ((c14.block v7.heap.size (Array.getElem?_eq_some_iff.1 X1.out).1).trans X1.out)
      replace X2 := Lib.hid ((c14.block v9.heap.size (Array.getElem?_eq_some_iff.1 X2.out).1).trans X2.out)
      replace P4_0 := Lib.hid (slO_fresh tQuery_law P4_0.out c14)
      replace P4_1 := Lib.hid (slO_fresh tSpanS_law P4_1.out c14)
      replace P5_1 := Lib.hid (slO_fresh tInt_law P5_1.out c14)
      replace P6 := Lib.hid (slO_fresh tInt_law P6.out c14)
      replace P7_0 := Lib.hid (slO_fresh tQuery_law P7_0.out c14)
      replace P7_1 := Lib.hid (slO_fresh tSpanS_law P7_1.out c14)
      replace P9_1 := Lib.hid (slO_fresh tInt_law P9_1.out c14)
      replace P11 := Lib.hid (slO_fresh tInt_law P11.out c14)
      replace d := Lib.hid (d.out.trans (c14.mono d.out.size))
      have Z_v14 := Lib.hid (show v12.heap.size ≤ v14.heap.size from c14.size)
      clear c14
      replace ow := tIndex_law.lt ow
      obtain ⟨y14_0, y14_1, K14_0, K14_1, rfl, p14_0, p14_1, w14_0, w14_1, d14_0_1⟩ := tIndex_O ow
      obtain ⟨ya14_0, yc14_0, rfl⟩ := slO_len p14_0
      have P14_0 := Lib.hid p14_0
      have Q14_0 := Lib.hid (fun b h => (show (v12.drew).heap.size ≤ b ∧ b < v14.heap.size from w14_0 b h))
      obtain ⟨ya14_1, yc14_1, rfl⟩ := slO_len p14_1
      have P14_1 := Lib.hid p14_1
      have Q14_1 := Lib.hid (fun b h => (show (v12.drew).heap.size ≤ b ∧ b < v14.heap.size from w14_1 b h))
      have D14_0_1 := Lib.hid d14_0_1
      clear d14_0_1
      clear p14_0 w14_0 p14_1 w14_1 ow
      have p_B0_0 := (cell_of_row v14 _ 0 _ _ _ B0.out).trans (show _ = some (Value.slice c0_0 x0_0.length k0_0) from rfl)
      have p_B0_1 := (cell_of_row v14 _ 1 _ _ _ B0.out).trans (show _ = some (Value.slice c0_1 x0_1.length k0_1) from rfl)
      have p_X1_0 := (cell_of_row v14 _ 0 _ _ _ X1.out).trans (show _ = some (Value.slice ya7_0 x0_0.length yc7_0) from rfl)
      have p_X1_1 := (cell_of_row v14 _ 1 _ _ _ X1.out).trans (show _ = some (Value.slice ya7_1 x0_1.length yc7_1) from rfl)
      refine hK.out _ _ ⟨p_B0_0, p_B0_1, p_X1_0, p_X1_1⟩ (fun hHeld => ?_)
      clear p_B0_0 p_B0_1 p_X1_0 p_X1_1
      clear hK K
      try simp only [Act.put, List.setIfInBounds_toArray, List.set_cons_zero, List.set_cons_succ]
      refine wpAnyH_ready (rs := [3]) (by kernel_rfl) (by simp) ?_
      refine AllReadyH.cons (o := _) (by simp only [List.getElem?_toArray, List.getElem?_cons_succ, List.getElem?_cons_zero]; rfl) (fun K hK => ?_) AllReadyH.nil
      go_simp
      refine (eqIndex_T (.slice ya7_0 x0_0.length yc7_0) (.slice ya7_1 x0_1.length yc7_1) x0_0 x0_1 (.slice ya14_0 x0_0.length yc14_0) (.slice ya14_1 x0_1.length yc14_1) v14 (slO_reads tQuery_law P7_0.out) (slO_reads tSpanS_law P7_1.out) (slO_reads tQuery_law P14_0.out) (slO_reads tSpanS_law P14_1.out) S0_0.out S0_1.out).mono ?_
      rintro e v15 ⟨rfl, c15⟩
      replace B0 := Lib.hid ((c15.block w.heap.size (Array.getElem?_eq_some_iff.1 B0.out).1).trans B0.out)
      replace B1 := Lib.hid ((c15.block (w.heap.size + 1) (Array.getElem?_eq_some_iff.1 B1.out).1).trans B1.out)
      replace X1 := Lib.hid ((c15.block v7.heap.size (Array.getElem?_eq_some_iff.1 X1.out).1).trans X1.out)
      replace X2 := Lib.hid ((c15.block v9.heap.size (Array.getElem?_eq_some_iff.1 X2.out).1).trans X2.out)
      replace P4_0 := Lib.hid (slO_fresh tQuery_law P4_0.out c15)
      replace P4_1 := Lib.hid (slO_fresh tSpanS_law P4_1.out c15)
      replace P5_1 := Lib.hid (slO_fresh tInt_law P5_1.out c15)
      replace P6 := Lib.hid (slO_fresh tInt_law P6.out c15)
      replace P7_0 := Lib.hid (slO_fresh tQuery_law P7_0.out c15)
      replace P7_1 := Lib.hid (slO_fresh tSpanS_law P7_1.out c15)
      replace P9_1 := Lib.hid (slO_fresh tInt_law P9_1.out c15)
      replace P11 := Lib.hid (slO_fresh tInt_law P11.out c15)
      replace P14_0 := Lib.hid (slO_fresh tQuery_law P14_0.out c15)
      replace P14_1 := Lib.hid (slO_fresh tSpanS_law P14_1.out c15)
      replace d := Lib.hid (d.out.trans (c15.mono d.out.size))
      have Z_v15 := Lib.hid (show v14.heap.size ≤ v15.heap.size from c15.size)
      clear c15
      clear P14_0 P14_1
      have p_B0_0 := (cell_of_row v15 _ 0 _ _ _ B0.out).trans (show _ = some (Value.slice c0_0 x0_0.length k0_0) from rfl)
      have p_B0_1 := (cell_of_row v15 _ 1 _ _ _ B0.out).trans (show _ = some (Value.slice c0_1 x0_1.length k0_1) from rfl)
      have p_X1_0 := (cell_of_row v15 _ 0 _ _ _ X1.out).trans (show _ = some (Value.slice ya7_0 x0_0.length yc7_0) from rfl)
      have p_X1_1 := (cell_of_row v15 _ 1 _ _ _ X1.out).trans (show _ = some (Value.slice ya7_1 x0_1.length yc7_1) from rfl)
      refine hK.out _ _ ⟨p_B0_0, p_B0_1, p_X1_0, p_X1_1⟩ (fun hHeld => ?_)
      clear p_B0_0 p_B0_1 p_X1_0 p_X1_1
      clear hK K
      try simp only [Act.put, List.setIfInBounds_toArray, List.set_cons_zero, List.set_cons_succ]
      refine take_runs (i := 4) (v := ?_) (by simp only [List.getElem?_toArray, List.getElem?_cons_succ, List.getElem?_cons_zero]; rfl) (by kernel_rfl) (by kernel_rfl) (by kernel_rfl) rfl (by exact fun _ _ _ h => h) (by rfl) ?_ (by assumption) ?_
      rotate_left
      · intro w hSw; (try dsimp only at hSw); go_simp; try (with_reducible rfl)
      try simp only [Act.put, List.setIfInBounds_toArray, List.set_cons_zero, List.set_cons_succ]
      refine wpAnyH_done (by kernel_rfl) ?_ _
      clear hHeld
      go_wp2
      have p_B1_0 := (cell_of_row v15 _ 0 _ _ _ B1.out).trans (show _ = some (Value.int .i64 a1_0) from rfl)
      have p_B1_1 := (cell_of_row v15 _ 1 _ _ _ B1.out).trans (show _ = some (Value.slice c1_1 x1_1.length k1_1) from rfl)
      have p_X2_0 := (cell_of_row v15 _ 0 _ _ _ X2.out).trans (show _ = some (Value.int .i64 a1_0) from rfl)
      have p_X2_1 := (cell_of_row v15 _ 1 _ _ _ X2.out).trans (show _ = some (Value.slice ya9_1 x1_1.length yc9_1) from rfl)
      refine wp_region_held_drew (S := fun w' => w'.cell? ⟨(w.heap.size + 1), 0, none⟩ = some (Value.int .i64 a1_0) ∧ w'.cell? ⟨(w.heap.size + 1), 1, none⟩ = some (Value.slice c1_1 x1_1.length k1_1) ∧ w'.cell? ⟨v9.heap.size, 0, none⟩ = some (Value.int .i64 a1_0) ∧ w'.cell? ⟨v9.heap.size, 1, none⟩ = some (Value.slice ya9_1 x1_1.length yc9_1)) (by kernel_rfl) ⟨p_B1_0, p_B1_1, p_X2_0, p_X2_1⟩ (fun hHeld => ?_)
      clear p_B1_0 p_B1_1 p_X2_0 p_X2_1
      have cd16 : Below v15.heap.size v15 v15.drew := below_drew (Below.refl _ _)
      replace B0 := Lib.hid ((cd16.block w.heap.size (Array.getElem?_eq_some_iff.1 B0.out).1).trans B0.out)
      replace B1 := Lib.hid ((cd16.block (w.heap.size + 1) (Array.getElem?_eq_some_iff.1 B1.out).1).trans B1.out)
      replace X1 := Lib.hid ((cd16.block v7.heap.size (Array.getElem?_eq_some_iff.1 X1.out).1).trans X1.out)
      replace X2 := Lib.hid ((cd16.block v9.heap.size (Array.getElem?_eq_some_iff.1 X2.out).1).trans X2.out)
      replace P4_0 := Lib.hid (slO_fresh tQuery_law P4_0.out cd16)
      replace P4_1 := Lib.hid (slO_fresh tSpanS_law P4_1.out cd16)
      replace P5_1 := Lib.hid (slO_fresh tInt_law P5_1.out cd16)
      replace P6 := Lib.hid (slO_fresh tInt_law P6.out cd16)
      replace P7_0 := Lib.hid (slO_fresh tQuery_law P7_0.out cd16)
      replace P7_1 := Lib.hid (slO_fresh tSpanS_law P7_1.out cd16)
      replace P9_1 := Lib.hid (slO_fresh tInt_law P9_1.out cd16)
      replace P11 := Lib.hid (slO_fresh tInt_law P11.out cd16)
      replace d := Lib.hid (d.out.trans (cd16.mono d.out.size))
      clear cd16
      refine take_runs (i := 0) (v := ?_) (by simp only [List.getElem?_toArray, List.getElem?_cons_succ, List.getElem?_cons_zero]; rfl) (by kernel_rfl) (by kernel_rfl) (by kernel_rfl) rfl (by exact fun _ _ _ h => h) (by rfl) ?_ (by assumption) ?_
      rotate_left
      · intro w hSw; (try dsimp only at hSw); go_simp; try (with_reducible rfl)
      try simp only [Act.put, List.setIfInBounds_toArray, List.set_cons_zero, List.set_cons_succ]
      refine take_runs (i := 1) (v := ?_) (by simp only [List.getElem?_toArray, List.getElem?_cons_succ, List.getElem?_cons_zero]; rfl) (by kernel_rfl) (by kernel_rfl) (by kernel_rfl) rfl (by exact fun _ _ _ h => h) (by rfl) ?_ (by assumption) ?_
      rotate_left
      · intro w hSw; (try dsimp only at hSw); go_simp; try (with_reducible rfl)
      try simp only [Act.put, List.setIfInBounds_toArray, List.set_cons_zero, List.set_cons_succ]
      refine wpAnyH_ready (rs := [2]) (by kernel_rfl) (by simp) ?_
      refine AllReadyH.cons (o := _) (by simp only [List.getElem?_toArray, List.getElem?_cons_succ, List.getElem?_cons_zero]; rfl) (fun K hK => ?_) AllReadyH.nil
      go_simp
      refine (toRow_T a1_0 (.slice c1_1 x1_1.length k1_1) x1_1 (v15.drew) (slR_below tInt_law A1_1.out d.out) S1_1.out).mono ?_
      rintro e v17 ⟨cs, rfl, ow, c17⟩
      replace B0 := Lib.hid ((c17.block w.heap.size (Array.getElem?_eq_some_iff.1 B0.out).1).trans B0.out)
      replace B1 := Lib.hid ((c17.block (w.heap.size + 1) (Array.getElem?_eq_some_iff.1 B1.out).1).trans B1.out)
      replace X1 := Lib.hid ((c17.block v7.heap.size (Array.getElem?_eq_some_iff.1 X1.out).1).trans X1.out)
      replace X2 := Lib.hid ((c17.block v9.heap.size (Array.getElem?_eq_some_iff.1 X2.out).1).trans X2.out)
      replace P4_0 := Lib.hid (slO_fresh tQuery_law P4_0.out c17)
      replace P4_1 := Lib.hid (slO_fresh tSpanS_law P4_1.out c17)
      replace P5_1 := Lib.hid (slO_fresh tInt_law P5_1.out c17)
      replace P6 := Lib.hid (slO_fresh tInt_law P6.out c17)
      replace P7_0 := Lib.hid (slO_fresh tQuery_law P7_0.out c17)
      replace P7_1 := Lib.hid (slO_fresh tSpanS_law P7_1.out c17)
      replace P9_1 := Lib.hid (slO_fresh tInt_law P9_1.out c17)
      replace P11 := Lib.hid (slO_fresh tInt_law P11.out c17)
      replace d := Lib.hid (d.out.trans (c17.mono d.out.size))
      have Z_v17 := Lib.hid (show v15.heap.size ≤ v17.heap.size from c17.size)
      clear c17
      replace ow := tRow_law.lt ow
      obtain ⟨y17_1, K17_1, rfl, p17_1, w17_1⟩ := tRow_O ow
      obtain ⟨ya17_1, yc17_1, rfl⟩ := slO_len p17_1
      have P17_1 := Lib.hid p17_1
      have Q17_1 := Lib.hid (fun b h => (show (v15.drew).heap.size ≤ b ∧ b < v17.heap.size from w17_1 b h))
      clear p17_1 w17_1 ow
      have p_B1_0 := (cell_of_row v17 _ 0 _ _ _ B1.out).trans (show _ = some (Value.int .i64 a1_0) from rfl)
      have p_B1_1 := (cell_of_row v17 _ 1 _ _ _ B1.out).trans (show _ = some (Value.slice c1_1 x1_1.length k1_1) from rfl)
      have p_X2_0 := (cell_of_row v17 _ 0 _ _ _ X2.out).trans (show _ = some (Value.int .i64 a1_0) from rfl)
      have p_X2_1 := (cell_of_row v17 _ 1 _ _ _ X2.out).trans (show _ = some (Value.slice ya9_1 x1_1.length yc9_1) from rfl)
      refine hK.out _ _ ⟨p_B1_0, p_B1_1, p_X2_0, p_X2_1⟩ (fun hHeld => ?_)
      clear p_B1_0 p_B1_1 p_X2_0 p_X2_1
      clear hK K
      try simp only [Act.put, List.setIfInBounds_toArray, List.set_cons_zero, List.set_cons_succ]
      refine wpAnyH_ready (rs := [3]) (by kernel_rfl) (by simp) ?_
      refine AllReadyH.cons (o := _) (by simp only [List.getElem?_toArray, List.getElem?_cons_succ, List.getElem?_cons_zero]; rfl) (fun K hK => ?_) AllReadyH.nil
      go_simp
      refine (eqRow_T a1_0 (.slice ya9_1 x1_1.length yc9_1) x1_1 (.slice ya17_1 x1_1.length yc17_1) v17 (slO_reads tInt_law P9_1.out) (slO_reads tInt_law P17_1.out) S1_1.out).mono ?_
      rintro e v18 ⟨rfl, c18⟩
      replace B0 := Lib.hid ((c18.block w.heap.size (Array.getElem?_eq_some_iff.1 B0.out).1).trans B0.out)
      replace B1 := Lib.hid ((c18.block (w.heap.size + 1) (Array.getElem?_eq_some_iff.1 B1.out).1).trans B1.out)
      replace X1 := Lib.hid ((c18.block v7.heap.size (Array.getElem?_eq_some_iff.1 X1.out).1).trans X1.out)
      replace X2 := Lib.hid ((c18.block v9.heap.size (Array.getElem?_eq_some_iff.1 X2.out).1).trans X2.out)
      replace P4_0 := Lib.hid (slO_fresh tQuery_law P4_0.out c18)
      replace P4_1 := Lib.hid (slO_fresh tSpanS_law P4_1.out c18)
      replace P5_1 := Lib.hid (slO_fresh tInt_law P5_1.out c18)
      replace P6 := Lib.hid (slO_fresh tInt_law P6.out c18)
      replace P7_0 := Lib.hid (slO_fresh tQuery_law P7_0.out c18)
      replace P7_1 := Lib.hid (slO_fresh tSpanS_law P7_1.out c18)
      replace P9_1 := Lib.hid (slO_fresh tInt_law P9_1.out c18)
      replace P11 := Lib.hid (slO_fresh tInt_law P11.out c18)
      replace P17_1 := Lib.hid (slO_fresh tInt_law P17_1.out c18)
      replace d := Lib.hid (d.out.trans (c18.mono d.out.size))
      have Z_v18 := Lib.hid (show v17.heap.size ≤ v18.heap.size from c18.size)
      clear c18
      clear P17_1
      have p_B1_0 := (cell_of_row v18 _ 0 _ _ _ B1.out).trans (show _ = some (Value.int .i64 a1_0) from rfl)
      have p_B1_1 := (cell_of_row v18 _ 1 _ _ _ B1.out).trans (show _ = some (Value.slice c1_1 x1_1.length k1_1) from rfl)
      have p_X2_0 := (cell_of_row v18 _ 0 _ _ _ X2.out).trans (show _ = some (Value.int .i64 a1_0) from rfl)
      have p_X2_1 := (cell_of_row v18 _ 1 _ _ _ X2.out).trans (show _ = some (Value.slice ya9_1 x1_1.length yc9_1) from rfl)
      refine hK.out _ _ ⟨p_B1_0, p_B1_1, p_X2_0, p_X2_1⟩ (fun hHeld => ?_)
      clear p_B1_0 p_B1_1 p_X2_0 p_X2_1
      clear hK K
      try simp only [Act.put, List.setIfInBounds_toArray, List.set_cons_zero, List.set_cons_succ]
      refine take_runs (i := 4) (v := ?_) (by simp only [List.getElem?_toArray, List.getElem?_cons_succ, List.getElem?_cons_zero]; rfl) (by kernel_rfl) (by kernel_rfl) (by kernel_rfl) rfl (by exact fun _ _ _ h => h) (by rfl) ?_ (by assumption) ?_
      rotate_left
      · intro w hSw; (try dsimp only at hSw); go_simp; try (with_reducible rfl)
      try simp only [Act.put, List.setIfInBounds_toArray, List.set_cons_zero, List.set_cons_succ]
      refine wpAnyH_done (by kernel_rfl) ?_ _
      clear hHeld
      have p_X1_0 := (cell_of_row v18 _ 0 _ _ _ X1.out).trans (show _ = some (Value.slice ya7_0 x0_0.length yc7_0) from rfl)
      have p_X1_1 := (cell_of_row v18 _ 1 _ _ _ X1.out).trans (show _ = some (Value.slice ya7_1 x0_1.length yc7_1) from rfl)
      go_wp2_with fail
      clear p_X1_0 p_X1_1
      refine (markIndex_T (.slice ya7_0 x0_0.length yc7_0) (.slice ya7_1 x0_1.length yc7_1) x0_0 x0_1 (fun b => v6.heap.size ≤ b ∧ b < v7.heap.size) _ _ (1) v18 P7_0.out P7_1.out Q7_0.out Q7_1.out D7_0_1.out S0_0.out S0_1.out M0.out.1 (by have := M0.out.2; omega)).mono ?_
      rintro e v19 ⟨rfl, ⟨m0, m1⟩, c19⟩
      have y0 := Y_W.out
      have y1 := Z_v1.out
      have y2 := Z_v2.out
      have y3 := Z_v4.out
      have y4 := Z_v5.out
      have y5 := Z_v6.out
      have y6 := Z_v7.out
      have y7 := Y_X1.out
      have y8 := Z_v9.out
      have y9 := Y_X2.out
      have y10 := Z_v11.out
      have y11 := Z_v12.out
      have y12 := Z_v14.out
      have y13 := Z_v15.out
      have y14 := Z_v17.out
      have y15 := Z_v18.out
      have yd : W.heap.size ≤ v18.heap.size := d.out.size
      replace B0 := Lib.hid ((c19.block w.heap.size (Array.getElem?_eq_some_iff.1 B0.out).1 (fun h => by have r2 := h; omega)).trans B0.out)
      replace B1 := Lib.hid ((c19.block (w.heap.size + 1) (Array.getElem?_eq_some_iff.1 B1.out).1 (fun h => by have r2 := h; omega)).trans B1.out)
      replace X1 := Lib.hid ((c19.block v7.heap.size (Array.getElem?_eq_some_iff.1 X1.out).1 (fun h => by have r2 := h; omega)).trans X1.out)
      replace X2 := Lib.hid ((c19.block v9.heap.size (Array.getElem?_eq_some_iff.1 X2.out).1 (fun h => by have r2 := h; omega)).trans X2.out)
      replace P4_0 := Lib.hid (slO_turn tQuery_law P4_0.out c19 (fun b h1 h2 => by have r1 := Q4_0.out b h1; have r2 := h2; omega))
      replace P4_1 := Lib.hid (slO_turn tSpanS_law P4_1.out c19 (fun b h1 h2 => by have r1 := Q4_1.out b h1; have r2 := h2; omega))
      replace P5_1 := Lib.hid (slO_turn tInt_law P5_1.out c19 (fun b h1 h2 => by have r1 := Q5_1.out b h1; have r2 := h2; omega))
      replace P6 := Lib.hid (slO_turn tInt_law P6.out c19 (fun b h1 h2 => by have r1 := Q6.out b h1; have r2 := h2; omega))
      replace P9_1 := Lib.hid (slO_turn tInt_law P9_1.out c19 (fun b h1 h2 => by have r1 := Q9_1.out b h1; have r2 := h2; omega))
      replace P11 := Lib.hid (slO_turn tInt_law P11.out c19 (fun b h1 h2 => by have r1 := Q11.out b h1; have r2 := h2; omega))
      replace d := Lib.hid (below_turn d.out c19 (fun b h => by have r2 := h; omega) (by omega))
      clear yd y0 y1 y2 y3 y4 y5 y6 y7 y8 y9 y10 y11 y12 y13 y14 y15
      have Z_v19 := Lib.hid (show v18.heap.size ≤ v19.heap.size from c19.size)
      clear P7_0 P7_1
      clear m0 m1 c19
      have p_X2_0 := (cell_of_row v19 _ 0 _ _ _ X2.out).trans (show _ = some (Value.int .i64 a1_0) from rfl)
      have p_X2_1 := (cell_of_row v19 _ 1 _ _ _ X2.out).trans (show _ = some (Value.slice ya9_1 x1_1.length yc9_1) from rfl)
      go_wp2_with fail
      clear p_X2_0 p_X2_1
      refine (markRow_T a1_0 (.slice ya9_1 x1_1.length yc9_1) x1_1 (fun b => u8.heap.size ≤ b ∧ b < v9.heap.size) _ (1 + (ndL tQuery x0_0 : Int) + (ndL tSpanS x0_1 : Int)) v19 P9_1.out Q9_1.out  S1_1.out M1.out.1 (by have := M1.out.2; omega)).mono ?_
      rintro e v20 ⟨rfl, m0, c20⟩
      have y0 := Y_W.out
      have y1 := Z_v1.out
      have y2 := Z_v2.out
      have y3 := Z_v4.out
      have y4 := Z_v5.out
      have y5 := Z_v6.out
      have y6 := Z_v7.out
      have y7 := Y_X1.out
      have y8 := Z_v9.out
      have y9 := Y_X2.out
      have y10 := Z_v11.out
      have y11 := Z_v12.out
      have y12 := Z_v14.out
      have y13 := Z_v15.out
      have y14 := Z_v17.out
      have y15 := Z_v18.out
      have y16 := Z_v19.out
      have yd : W.heap.size ≤ v19.heap.size := d.out.size
      replace B0 := Lib.hid ((c20.block w.heap.size (Array.getElem?_eq_some_iff.1 B0.out).1 (fun h => by have r2 := h; omega)).trans B0.out)
      replace B1 := Lib.hid ((c20.block (w.heap.size + 1) (Array.getElem?_eq_some_iff.1 B1.out).1 (fun h => by have r2 := h; omega)).trans B1.out)
      replace X1 := Lib.hid ((c20.block v7.heap.size (Array.getElem?_eq_some_iff.1 X1.out).1 (fun h => by have r2 := h; omega)).trans X1.out)
      replace X2 := Lib.hid ((c20.block v9.heap.size (Array.getElem?_eq_some_iff.1 X2.out).1 (fun h => by have r2 := h; omega)).trans X2.out)
      replace P4_0 := Lib.hid (slO_turn tQuery_law P4_0.out c20 (fun b h1 h2 => by have r1 := Q4_0.out b h1; have r2 := h2; omega))
      replace P4_1 := Lib.hid (slO_turn tSpanS_law P4_1.out c20 (fun b h1 h2 => by have r1 := Q4_1.out b h1; have r2 := h2; omega))
      replace P5_1 := Lib.hid (slO_turn tInt_law P5_1.out c20 (fun b h1 h2 => by have r1 := Q5_1.out b h1; have r2 := h2; omega))
      replace P6 := Lib.hid (slO_turn tInt_law P6.out c20 (fun b h1 h2 => by have r1 := Q6.out b h1; have r2 := h2; omega))
      replace P11 := Lib.hid (slO_turn tInt_law P11.out c20 (fun b h1 h2 => by have r1 := Q11.out b h1; have r2 := h2; omega))
      replace d := Lib.hid (below_turn d.out c20 (fun b h => by have r2 := h; omega) (by omega))
      clear yd y0 y1 y2 y3 y4 y5 y6 y7 y8 y9 y10 y11 y12 y13 y14 y15 y16
      have Z_v20 := Lib.hid (show v19.heap.size ≤ v20.heap.size from c20.size)
      clear P9_1
      clear m0 c20
      go_wp2_with fail
      refine (eqIntS_S (.slice ya11 r0.length yc11) (.slice ya6 r0.length yc6) r0 v20 (slO_reads tInt_law P11.out) (slO_reads tInt_law P6.out) Z0.out).mono ?_
      rintro e v21 ⟨rfl, c21⟩
      replace B0 := Lib.hid ((c21.block w.heap.size (Array.getElem?_eq_some_iff.1 B0.out).1).trans B0.out)
      replace B1 := Lib.hid ((c21.block (w.heap.size + 1) (Array.getElem?_eq_some_iff.1 B1.out).1).trans B1.out)
      replace X1 := Lib.hid ((c21.block v7.heap.size (Array.getElem?_eq_some_iff.1 X1.out).1).trans X1.out)
      replace X2 := Lib.hid ((c21.block v9.heap.size (Array.getElem?_eq_some_iff.1 X2.out).1).trans X2.out)
      replace P4_0 := Lib.hid (slO_fresh tQuery_law P4_0.out c21)
      replace P4_1 := Lib.hid (slO_fresh tSpanS_law P4_1.out c21)
      replace P5_1 := Lib.hid (slO_fresh tInt_law P5_1.out c21)
      replace P6 := Lib.hid (slO_fresh tInt_law P6.out c21)
      replace P11 := Lib.hid (slO_fresh tInt_law P11.out c21)
      replace d := Lib.hid (d.out.trans (c21.mono d.out.size))
      have Z_v21 := Lib.hid (show v20.heap.size ≤ v21.heap.size from c21.size)
      clear c21
      go_wp2_with fail
      refine (markIntS_S (.slice ya11 r0.length yc11) r0 _ (1) v21 P11.out Z0.out MR0.out.1 (by have := MR0.out.2; omega)).mono ?_
      rintro e v22 ⟨rfl, m0, c22⟩
      have y0 := Y_W.out
      have y1 := Z_v1.out
      have y2 := Z_v2.out
      have y3 := Z_v4.out
      have y4 := Z_v5.out
      have y5 := Z_v6.out
      have y6 := Z_v7.out
      have y7 := Y_X1.out
      have y8 := Z_v9.out
      have y9 := Y_X2.out
      have y10 := Z_v11.out
      have y11 := Z_v12.out
      have y12 := Z_v14.out
      have y13 := Z_v15.out
      have y14 := Z_v17.out
      have y15 := Z_v18.out
      have y16 := Z_v19.out
      have y17 := Z_v20.out
      have y18 := Z_v21.out
      have yd : W.heap.size ≤ v21.heap.size := d.out.size
      replace B0 := Lib.hid ((c22.block w.heap.size (Array.getElem?_eq_some_iff.1 B0.out).1 (fun h => by have r2 := Q11.out w.heap.size h; omega)).trans B0.out)
      replace B1 := Lib.hid ((c22.block (w.heap.size + 1) (Array.getElem?_eq_some_iff.1 B1.out).1 (fun h => by have r2 := Q11.out (w.heap.size + 1) h; omega)).trans B1.out)
      replace X1 := Lib.hid ((c22.block v7.heap.size (Array.getElem?_eq_some_iff.1 X1.out).1 (fun h => by have r2 := Q11.out v7.heap.size h; omega)).trans X1.out)
      replace X2 := Lib.hid ((c22.block v9.heap.size (Array.getElem?_eq_some_iff.1 X2.out).1 (fun h => by have r2 := Q11.out v9.heap.size h; omega)).trans X2.out)
      replace P4_0 := Lib.hid (slO_turn tQuery_law P4_0.out c22 (fun b h1 h2 => by have r1 := Q4_0.out b h1; have r2 := Q11.out b h2; omega))
      replace P4_1 := Lib.hid (slO_turn tSpanS_law P4_1.out c22 (fun b h1 h2 => by have r1 := Q4_1.out b h1; have r2 := Q11.out b h2; omega))
      replace P5_1 := Lib.hid (slO_turn tInt_law P5_1.out c22 (fun b h1 h2 => by have r1 := Q5_1.out b h1; have r2 := Q11.out b h2; omega))
      replace P6 := Lib.hid (slO_turn tInt_law P6.out c22 (fun b h1 h2 => by have r1 := Q6.out b h1; have r2 := Q11.out b h2; omega))
      replace d := Lib.hid (below_turn d.out c22 (fun b h => by have r2 := Q11.out b h; omega) (by omega))
      clear yd y0 y1 y2 y3 y4 y5 y6 y7 y8 y9 y10 y11 y12 y13 y14 y15 y16 y17 y18
      have Z_v22 := Lib.hid (show v21.heap.size ≤ v22.heap.size from c22.size)
      replace P11 := Lib.hid m0
      clear m0 c22
      go_wp2_with fail
      refine (heldIntS_S (.slice ya11 r0.length yc11) r0 (1) v22 (slO_reads tInt_law P11.out) Z0.out MR0.out.1 (by have := MR0.out.2; omega)).mono ?_
      rintro e v23 ⟨rfl, rfl⟩
      go_wp2
      have p_B0_0 := (cell_of_row v22 _ 0 _ _ _ B0.out).trans (show _ = some (Value.slice c0_0 x0_0.length k0_0) from rfl)
      have p_B0_1 := (cell_of_row v22 _ 1 _ _ _ B0.out).trans (show _ = some (Value.slice c0_1 x0_1.length k0_1) from rfl)
      have p_B1_0 := (cell_of_row v22 _ 0 _ _ _ B1.out).trans (show _ = some (Value.int .i64 a1_0) from rfl)
      have p_B1_1 := (cell_of_row v22 _ 1 _ _ _ B1.out).trans (show _ = some (Value.slice c1_1 x1_1.length k1_1) from rfl)
      refine wp_region_held_drew (S := fun w' => w'.cell? ⟨w.heap.size, 0, none⟩ = some (Value.slice c0_0 x0_0.length k0_0) ∧ w'.cell? ⟨w.heap.size, 1, none⟩ = some (Value.slice c0_1 x0_1.length k0_1) ∧ w'.cell? ⟨(w.heap.size + 1), 0, none⟩ = some (Value.int .i64 a1_0) ∧ w'.cell? ⟨(w.heap.size + 1), 1, none⟩ = some (Value.slice c1_1 x1_1.length k1_1)) (by kernel_rfl) ⟨p_B0_0, p_B0_1, p_B1_0, p_B1_1⟩ (fun hHeld => ?_)
      clear p_B0_0 p_B0_1 p_B1_0 p_B1_1
      have cd24 : Below v22.heap.size v22 v22.drew := below_drew (Below.refl _ _)
      replace B0 := Lib.hid ((cd24.block w.heap.size (Array.getElem?_eq_some_iff.1 B0.out).1).trans B0.out)
      replace B1 := Lib.hid ((cd24.block (w.heap.size + 1) (Array.getElem?_eq_some_iff.1 B1.out).1).trans B1.out)
      replace X1 := Lib.hid ((cd24.block v7.heap.size (Array.getElem?_eq_some_iff.1 X1.out).1).trans X1.out)
      replace X2 := Lib.hid ((cd24.block v9.heap.size (Array.getElem?_eq_some_iff.1 X2.out).1).trans X2.out)
      replace P4_0 := Lib.hid (slO_fresh tQuery_law P4_0.out cd24)
      replace P4_1 := Lib.hid (slO_fresh tSpanS_law P4_1.out cd24)
      replace P5_1 := Lib.hid (slO_fresh tInt_law P5_1.out cd24)
      replace P6 := Lib.hid (slO_fresh tInt_law P6.out cd24)
      replace P11 := Lib.hid (slO_fresh tInt_law P11.out cd24)
      replace d := Lib.hid (d.out.trans (cd24.mono d.out.size))
      clear cd24
      refine take_runs (i := 0) (v := ?_) (by simp only [List.getElem?_toArray, List.getElem?_cons_succ, List.getElem?_cons_zero]; rfl) (by kernel_rfl) (by kernel_rfl) (by kernel_rfl) rfl (by exact fun _ _ _ h => h) (by rfl) ?_ (by assumption) ?_
      rotate_left
      · intro w hSw; (try dsimp only at hSw); go_simp; try (with_reducible rfl)
      try simp only [Act.put, List.setIfInBounds_toArray, List.set_cons_zero, List.set_cons_succ]
      refine take_runs (i := 2) (v := ?_) (by simp only [List.getElem?_toArray, List.getElem?_cons_succ, List.getElem?_cons_zero]; rfl) (by kernel_rfl) (by kernel_rfl) (by kernel_rfl) rfl (by exact fun _ _ _ h => h) (by rfl) ?_ (by assumption) ?_
      rotate_left
      · intro w hSw; (try dsimp only at hSw); go_simp; try (with_reducible rfl)
      try simp only [Act.put, List.setIfInBounds_toArray, List.set_cons_zero, List.set_cons_succ]
      refine wpAnyH_ready (rs := [1]) (by kernel_rfl) (by simp) ?_
      refine AllReadyH.cons (o := _) (by simp only [List.getElem?_toArray, List.getElem?_cons_succ, List.getElem?_cons_zero]; rfl) (fun K hK => ?_) AllReadyH.nil
      go_simp
      refine (toIndex_T (.slice c0_0 x0_0.length k0_0) (.slice c0_1 x0_1.length k0_1) x0_0 x0_1 (v22.drew) (slR_below tQuery_law A0_0.out d.out) (slR_below tSpanS_law A0_1.out d.out) S0_0.out S0_1.out).mono ?_
      rintro e v25 ⟨cs, rfl, ow, c25⟩
      replace B0 := Lib.hid ((c25.block w.heap.size (Array.getElem?_eq_some_iff.1 B0.out).1).trans B0.out)
      replace B1 := Lib.hid ((c25.block (w.heap.size + 1) (Array.getElem?_eq_some_iff.1 B1.out).1).trans B1.out)
      replace X1 := Lib.hid ((c25.block v7.heap.size (Array.getElem?_eq_some_iff.1 X1.out).1).trans X1.out)
      replace X2 := Lib.hid ((c25.block v9.heap.size (Array.getElem?_eq_some_iff.1 X2.out).1).trans X2.out)
      replace P4_0 := Lib.hid (slO_fresh tQuery_law P4_0.out c25)
      replace P4_1 := Lib.hid (slO_fresh tSpanS_law P4_1.out c25)
      replace P5_1 := Lib.hid (slO_fresh tInt_law P5_1.out c25)
      replace P6 := Lib.hid (slO_fresh tInt_law P6.out c25)
      replace P11 := Lib.hid (slO_fresh tInt_law P11.out c25)
      replace d := Lib.hid (d.out.trans (c25.mono d.out.size))
      have Z_v25 := Lib.hid (show v22.heap.size ≤ v25.heap.size from c25.size)
      clear c25
      replace ow := tIndex_law.lt ow
      obtain ⟨y25_0, y25_1, K25_0, K25_1, rfl, p25_0, p25_1, w25_0, w25_1, d25_0_1⟩ := tIndex_O ow
      obtain ⟨ya25_0, yc25_0, rfl⟩ := slO_len p25_0
      have P25_0 := Lib.hid p25_0
      have Q25_0 := Lib.hid (fun b h => (show (v22.drew).heap.size ≤ b ∧ b < v25.heap.size from w25_0 b h))
      obtain ⟨ya25_1, yc25_1, rfl⟩ := slO_len p25_1
      have P25_1 := Lib.hid p25_1
      have Q25_1 := Lib.hid (fun b h => (show (v22.drew).heap.size ≤ b ∧ b < v25.heap.size from w25_1 b h))
      have D25_0_1 := Lib.hid d25_0_1
      clear d25_0_1
      clear p25_0 w25_0 p25_1 w25_1 ow
      have p_B0_0 := (cell_of_row v25 _ 0 _ _ _ B0.out).trans (show _ = some (Value.slice c0_0 x0_0.length k0_0) from rfl)
      have p_B0_1 := (cell_of_row v25 _ 1 _ _ _ B0.out).trans (show _ = some (Value.slice c0_1 x0_1.length k0_1) from rfl)
      have p_B1_0 := (cell_of_row v25 _ 0 _ _ _ B1.out).trans (show _ = some (Value.int .i64 a1_0) from rfl)
      have p_B1_1 := (cell_of_row v25 _ 1 _ _ _ B1.out).trans (show _ = some (Value.slice c1_1 x1_1.length k1_1) from rfl)
      refine hK.out _ _ ⟨p_B0_0, p_B0_1, p_B1_0, p_B1_1⟩ (fun hHeld => ?_)
      clear p_B0_0 p_B0_1 p_B1_0 p_B1_1
      clear hK K
      try simp only [Act.put, List.setIfInBounds_toArray, List.set_cons_zero, List.set_cons_succ]
      refine wpAnyH_ready (rs := [3]) (by kernel_rfl) (by simp) ?_
      refine AllReadyH.cons (o := _) (by simp only [List.getElem?_toArray, List.getElem?_cons_succ, List.getElem?_cons_zero]; rfl) (fun K hK => ?_) AllReadyH.nil
      go_simp
      refine (toRow_T a1_0 (.slice c1_1 x1_1.length k1_1) x1_1 v25 (slR_below tInt_law A1_1.out d.out) S1_1.out).mono ?_
      rintro e v26 ⟨cs, rfl, ow, c26⟩
      replace B0 := Lib.hid ((c26.block w.heap.size (Array.getElem?_eq_some_iff.1 B0.out).1).trans B0.out)
      replace B1 := Lib.hid ((c26.block (w.heap.size + 1) (Array.getElem?_eq_some_iff.1 B1.out).1).trans B1.out)
      replace X1 := Lib.hid ((c26.block v7.heap.size (Array.getElem?_eq_some_iff.1 X1.out).1).trans X1.out)
      replace X2 := Lib.hid ((c26.block v9.heap.size (Array.getElem?_eq_some_iff.1 X2.out).1).trans X2.out)
      replace P4_0 := Lib.hid (slO_fresh tQuery_law P4_0.out c26)
      replace P4_1 := Lib.hid (slO_fresh tSpanS_law P4_1.out c26)
      replace P5_1 := Lib.hid (slO_fresh tInt_law P5_1.out c26)
      replace P6 := Lib.hid (slO_fresh tInt_law P6.out c26)
      replace P11 := Lib.hid (slO_fresh tInt_law P11.out c26)
      replace P25_0 := Lib.hid (slO_fresh tQuery_law P25_0.out c26)
      replace P25_1 := Lib.hid (slO_fresh tSpanS_law P25_1.out c26)
      replace d := Lib.hid (d.out.trans (c26.mono d.out.size))
      have Z_v26 := Lib.hid (show v25.heap.size ≤ v26.heap.size from c26.size)
      clear c26
      replace ow := tRow_law.lt ow
      obtain ⟨y26_1, K26_1, rfl, p26_1, w26_1⟩ := tRow_O ow
      obtain ⟨ya26_1, yc26_1, rfl⟩ := slO_len p26_1
      have P26_1 := Lib.hid p26_1
      have Q26_1 := Lib.hid (fun b h => (show v25.heap.size ≤ b ∧ b < v26.heap.size from w26_1 b h))
      clear p26_1 w26_1 ow
      have p_B0_0 := (cell_of_row v26 _ 0 _ _ _ B0.out).trans (show _ = some (Value.slice c0_0 x0_0.length k0_0) from rfl)
      have p_B0_1 := (cell_of_row v26 _ 1 _ _ _ B0.out).trans (show _ = some (Value.slice c0_1 x0_1.length k0_1) from rfl)
      have p_B1_0 := (cell_of_row v26 _ 0 _ _ _ B1.out).trans (show _ = some (Value.int .i64 a1_0) from rfl)
      have p_B1_1 := (cell_of_row v26 _ 1 _ _ _ B1.out).trans (show _ = some (Value.slice c1_1 x1_1.length k1_1) from rfl)
      refine hK.out _ _ ⟨p_B0_0, p_B0_1, p_B1_0, p_B1_1⟩ (fun hHeld => ?_)
      clear p_B0_0 p_B0_1 p_B1_0 p_B1_1
      clear hK K
      try simp only [Act.put, List.setIfInBounds_toArray, List.set_cons_zero, List.set_cons_succ]
      refine wpAnyH_ready (rs := [4]) (by kernel_rfl) (by simp) ?_
      refine AllReadyH.cons (o := _) (by simp only [List.getElem?_toArray, List.getElem?_cons_succ, List.getElem?_cons_zero]; rfl) (fun K hK => ?_) AllReadyH.nil
      go_simp
      refine (HIM.out (.slice ya25_0 x0_0.length yc25_0) (.slice ya25_1 x0_1.length yc25_1) (.slice ya26_1 x1_1.length yc26_1) v26 (HB0.out.trans (d.out.mono HB0.out.size)) (slO_reads tQuery_law P25_0.out) (slO_reads tSpanS_law P25_1.out) (slO_reads tInt_law P26_1.out) HT.out ).mono ?_
      rintro e v27 ⟨g0, G0, rfl, o0, q0, c27⟩
      replace B0 := Lib.hid ((c27.block w.heap.size (Array.getElem?_eq_some_iff.1 B0.out).1).trans B0.out)
      replace B1 := Lib.hid ((c27.block (w.heap.size + 1) (Array.getElem?_eq_some_iff.1 B1.out).1).trans B1.out)
      replace X1 := Lib.hid ((c27.block v7.heap.size (Array.getElem?_eq_some_iff.1 X1.out).1).trans X1.out)
      replace X2 := Lib.hid ((c27.block v9.heap.size (Array.getElem?_eq_some_iff.1 X2.out).1).trans X2.out)
      replace P4_0 := Lib.hid (slO_fresh tQuery_law P4_0.out c27)
      replace P4_1 := Lib.hid (slO_fresh tSpanS_law P4_1.out c27)
      replace P5_1 := Lib.hid (slO_fresh tInt_law P5_1.out c27)
      replace P6 := Lib.hid (slO_fresh tInt_law P6.out c27)
      replace P11 := Lib.hid (slO_fresh tInt_law P11.out c27)
      replace P25_0 := Lib.hid (slO_fresh tQuery_law P25_0.out c27)
      replace P25_1 := Lib.hid (slO_fresh tSpanS_law P25_1.out c27)
      replace P26_1 := Lib.hid (slO_fresh tInt_law P26_1.out c27)
      replace d := Lib.hid (d.out.trans (c27.mono d.out.size))
      have Z_v27 := Lib.hid (show v26.heap.size ≤ v27.heap.size from c27.size)
      clear c27
      obtain ⟨ya27, yc27, rfl⟩ := slO_len o0
      have P27 := Lib.hid (slO_lt tInt_law o0)
      have Q27 := Lib.hid (fun b (h : _ ∧ b < v27.heap.size) => (show v26.heap.size ≤ b ∧ b < v27.heap.size from ⟨q0 b h.1, h.2⟩))
      clear o0 q0
      have p_B0_0 := (cell_of_row v27 _ 0 _ _ _ B0.out).trans (show _ = some (Value.slice c0_0 x0_0.length k0_0) from rfl)
      have p_B0_1 := (cell_of_row v27 _ 1 _ _ _ B0.out).trans (show _ = some (Value.slice c0_1 x0_1.length k0_1) from rfl)
      have p_B1_0 := (cell_of_row v27 _ 0 _ _ _ B1.out).trans (show _ = some (Value.int .i64 a1_0) from rfl)
      have p_B1_1 := (cell_of_row v27 _ 1 _ _ _ B1.out).trans (show _ = some (Value.slice c1_1 x1_1.length k1_1) from rfl)
      refine hK.out _ _ ⟨p_B0_0, p_B0_1, p_B1_0, p_B1_1⟩ (fun hHeld => ?_)
      clear p_B0_0 p_B0_1 p_B1_0 p_B1_1
      clear hK K
      try simp only [Act.put, List.setIfInBounds_toArray, List.set_cons_zero, List.set_cons_succ]
      refine take_runs (i := 5) (v := ?_) (by simp only [List.getElem?_toArray, List.getElem?_cons_succ, List.getElem?_cons_zero]; rfl) (by kernel_rfl) (by kernel_rfl) (by kernel_rfl) rfl (by exact fun _ _ _ h => h) (by rfl) ?_ (by assumption) ?_
      rotate_left
      · intro w hSw; (try dsimp only at hSw); go_simp; try (with_reducible rfl)
      try simp only [Act.put, List.setIfInBounds_toArray, List.set_cons_zero, List.set_cons_succ]
      refine wpAnyH_done (by kernel_rfl) ?_ _
      clear hHeld
      go_wp2_with fail
      refine (eqIntS_S (.slice ya27 r0.length yc27) (.slice ya6 r0.length yc6) r0 v27 (slO_reads tInt_law P27.out) (slO_reads tInt_law P6.out) Z0.out).mono ?_
      rintro e v28 ⟨rfl, c28⟩
      replace B0 := Lib.hid ((c28.block w.heap.size (Array.getElem?_eq_some_iff.1 B0.out).1).trans B0.out)
      replace B1 := Lib.hid ((c28.block (w.heap.size + 1) (Array.getElem?_eq_some_iff.1 B1.out).1).trans B1.out)
      replace X1 := Lib.hid ((c28.block v7.heap.size (Array.getElem?_eq_some_iff.1 X1.out).1).trans X1.out)
      replace X2 := Lib.hid ((c28.block v9.heap.size (Array.getElem?_eq_some_iff.1 X2.out).1).trans X2.out)
      replace P4_0 := Lib.hid (slO_fresh tQuery_law P4_0.out c28)
      replace P4_1 := Lib.hid (slO_fresh tSpanS_law P4_1.out c28)
      replace P5_1 := Lib.hid (slO_fresh tInt_law P5_1.out c28)
      replace P6 := Lib.hid (slO_fresh tInt_law P6.out c28)
      replace P11 := Lib.hid (slO_fresh tInt_law P11.out c28)
      replace P25_0 := Lib.hid (slO_fresh tQuery_law P25_0.out c28)
      replace P25_1 := Lib.hid (slO_fresh tSpanS_law P25_1.out c28)
      replace P26_1 := Lib.hid (slO_fresh tInt_law P26_1.out c28)
      replace P27 := Lib.hid (slO_fresh tInt_law P27.out c28)
      replace d := Lib.hid (d.out.trans (c28.mono d.out.size))
      have Z_v28 := Lib.hid (show v27.heap.size ≤ v28.heap.size from c28.size)
      clear c28
      go_wp2_with fail
      refine (heldIntS_S (.slice ya11 r0.length yc11) r0 (1) v28 (slO_reads tInt_law P11.out) Z0.out MR0.out.1 (by have := MR0.out.2; omega)).mono ?_
      rintro e v29 ⟨rfl, rfl⟩
      go_wp2
      go_ret
      exact ⟨rfl, HB0.out.trans (d.out.mono HB0.out.size)⟩
    ·
      have HZ0 : Hid (((zL tQuery x0_0 + zL tSpanS x0_1 : Nat) : Int) ≤ (1048576 : Int)) := Lib.hid c0
      have HK0 : Hid ((1048576 : Int) ≤ 1048576) := Lib.hid (by omega)
      have hn0 : ¬ (1048576 : Int) - ((zL tQuery x0_0 + zL tSpanS x0_1 : Nat) : Int) < 0 := by omega
      have HZ1 : Hid ((1048576 : Int) - ((zL tQuery x0_0 + zL tSpanS x0_1 : Nat) : Int) < ((zL tInt x1_1 : Nat) : Int)) := Lib.hid (by omega)
      have HP1 : Hid (0 ≤ (1048576 : Int) - ((zL tQuery x0_0 + zL tSpanS x0_1 : Nat) : Int)) := Lib.hid (by omega)
      have HK1 : Hid ((1048576 : Int) - ((zL tQuery x0_0 + zL tSpanS x0_1 : Nat) : Int) ≤ 1048576) := Lib.hid (by omega)
      clear c1
      go_enter Tryd.func4, Tryd.ntmps4
      go_wp2_with fail
      have Y_W : Hid (w.heap.size + 2 ≤ ((w.alloc (.cells #[.slice c0_0 x0_0.length k0_0, .slice c0_1 x0_1.length k0_1] 56)).alloc (.cells #[.int .i64 a1_0, .slice c1_1 x1_1.length k1_1] 57)).heap.size) := Lib.hid (by simp [World.size_alloc])
      generalize ((w.alloc (.cells #[.slice c0_0 x0_0.length k0_0, .slice c0_1 x0_1.length k0_1] 56)).alloc (.cells #[.int .i64 a1_0, .slice c1_1 x1_1.length k1_1] 57)) = W at *
      have d := Lib.hid (Below.refl W.heap.size W)
      refine (szIndex_Y (.slice c0_0 x0_0.length k0_0) (.slice c0_1 x0_1.length k0_1) x0_0 x0_1 ((1048576 : Int)) W (slR_below tQuery_law A0_0.out d.out) (slR_below tSpanS_law A0_1.out d.out) HZ0.out HK0.out).mono ?_
      rintro e v1 ⟨rfl, c1⟩
      replace B0 := Lib.hid ((c1.block w.heap.size (Array.getElem?_eq_some_iff.1 B0.out).1).trans B0.out)
      replace B1 := Lib.hid ((c1.block (w.heap.size + 1) (Array.getElem?_eq_some_iff.1 B1.out).1).trans B1.out)
      replace d := Lib.hid (d.out.trans (c1.mono d.out.size))
      have Z_v1 := Lib.hid (show W.heap.size ≤ v1.heap.size from c1.size)
      clear c1
      have p_B1_0 := (cell_of_row v1 _ 0 _ _ _ B1.out).trans (show _ = some (Value.int .i64 a1_0) from rfl)
      have p_B1_1 := (cell_of_row v1 _ 1 _ _ _ B1.out).trans (show _ = some (Value.slice c1_1 x1_1.length k1_1) from rfl)
      go_wp2_with fail
      clear p_B1_0 p_B1_1
      refine (szRow_N a1_0 (.slice c1_1 x1_1.length k1_1) x1_1 ((1048576 : Int) - ((zL tQuery x0_0 + zL tSpanS x0_1 : Nat) : Int)) v1 (slR_below tInt_law A1_1.out d.out) HZ1.out HK1.out HP1.out O1_1.out).mono ?_
      rintro e v2 ⟨rfl, c2⟩
      replace B0 := Lib.hid ((c2.block w.heap.size (Array.getElem?_eq_some_iff.1 B0.out).1).trans B0.out)
      replace B1 := Lib.hid ((c2.block (w.heap.size + 1) (Array.getElem?_eq_some_iff.1 B1.out).1).trans B1.out)
      replace d := Lib.hid (d.out.trans (c2.mono d.out.size))
      have Z_v2 := Lib.hid (show v1.heap.size ≤ v2.heap.size from c2.size)
      clear c2
      go_wp2
      go_ret
      exact ⟨rfl, HB0.out.trans (d.out.mono HB0.out.size)⟩
  ·
    have HZ0 : Hid ((1048576 : Int) < ((zL tQuery x0_0 + zL tSpanS x0_1 : Nat) : Int)) := Lib.hid (by omega)
    have HP0 : Hid (0 ≤ (1048576 : Int)) := Lib.hid (by omega)
    have HK0 : Hid ((1048576 : Int) ≤ 1048576) := Lib.hid (by omega)
    clear c0
    go_enter Tryd.func4, Tryd.ntmps4
    go_wp2_with fail
    have Y_W : Hid (w.heap.size + 2 ≤ ((w.alloc (.cells #[.slice c0_0 x0_0.length k0_0, .slice c0_1 x0_1.length k0_1] 56)).alloc (.cells #[.int .i64 a1_0, .slice c1_1 x1_1.length k1_1] 57)).heap.size) := Lib.hid (by simp [World.size_alloc])
    generalize ((w.alloc (.cells #[.slice c0_0 x0_0.length k0_0, .slice c0_1 x0_1.length k0_1] 56)).alloc (.cells #[.int .i64 a1_0, .slice c1_1 x1_1.length k1_1] 57)) = W at *
    have d := Lib.hid (Below.refl W.heap.size W)
    refine (szIndex_N (.slice c0_0 x0_0.length k0_0) (.slice c0_1 x0_1.length k0_1) x0_0 x0_1 ((1048576 : Int)) W (slR_below tQuery_law A0_0.out d.out) (slR_below tSpanS_law A0_1.out d.out) HZ0.out HK0.out HP0.out O0_0.out O0_1.out).mono ?_
    rintro e v1 ⟨rfl, c1⟩
    replace B0 := Lib.hid ((c1.block w.heap.size (Array.getElem?_eq_some_iff.1 B0.out).1).trans B0.out)
    replace B1 := Lib.hid ((c1.block (w.heap.size + 1) (Array.getElem?_eq_some_iff.1 B1.out).1).trans B1.out)
    replace d := Lib.hid (d.out.trans (c1.mono d.out.size))
    have Z_v1 := Lib.hid (show W.heap.size ≤ v1.heap.size from c1.size)
    clear c1
    go_wp2
    go_ret
    exact ⟨rfl, HB0.out.trans (d.out.mono HB0.out.size)⟩
end Go.Proofs.YtidhmgboknffkaaDoor
namespace Go.Proofs.YtidhmgboknffkaaDoor
open Go.RowKit
set_option linter.unusedVariables false
set_option linter.unusedSimpArgs false
set_option maxHeartbeats 32000000 in
set_option maxRecDepth 100000 in
theorem law_fnExactWorkOf (v0_0 v0_1 : Value) (x0_0 : List (Int × Int × List (Int × Int × Int) × List Int)) (x0_1 : List (List (Int × Int × List Int))) (v1_0 : Value) (x1_0 : List (Int × List Int)) (v2_0 : Value) (x2_0 : List Int) (r0 : Int) (w : World) (h0_0 : SlR tQuery w v0_0 x0_0) (h0_1 : SlR tSpanS w v0_1 x0_1) (h1_0 : SlR tRow w v1_0 x1_0) (h2_0 : SlR tInt w v2_0 x2_0) (o0_0 : tQueryS.ok x0_0) (o0_1 : tSpanSS.ok x0_1) (o1_0 : tRowS.ok x1_0) (o2_0 : tIntS.ok x2_0) 
    (hspec : ∀ (v0_0 v0_1 v1_0 v2_0 : Value) (w : World), SlR tQuery w v0_0 x0_0 → SlR tSpanS w v0_1 x0_1 → SlR tRow w v1_0 x1_0 → SlR tInt w v2_0 x2_0 → zL tQuery x0_0 + zL tSpanS x0_1 + zL tRow x1_0 ≤ 1048576 → x2_0.length ≤ 1048576 → Calls Tryd.prog 25 #[.agg #[v0_0, v0_1], v1_0, v2_0] w (fun e w' => e = .returned (.int .i64 r0) ∧ Below w.heap.size w w'))
    (himpl : ∀ (v0_0 v0_1 v1_0 v2_0 : Value) (u : World), Below w.heap.size w u → SlR tQuery u v0_0 x0_0 → SlR tSpanS u v0_1 x0_1 → SlR tRow u v1_0 x1_0 → SlR tInt u v2_0 x2_0 → zL tQuery x0_0 + zL tSpanS x0_1 + zL tRow x1_0 ≤ 1048576 → x2_0.length ≤ 1048576 → Calls Tryd.prog 24 #[.agg #[v0_0, v0_1], v1_0, v2_0] u (fun e w' => e = .returned (.int .i64 r0) ∧ Below u.heap.size u w')) :
    Calls Tryd.prog 6 #[.agg #[v0_0, v0_1], v1_0, v2_0] w fun e w' => e = .returned (.bool true) ∧ Below w.heap.size w w' := by
  obtain ⟨c0_0, k0_0, rfl⟩ := slR_len h0_0
  obtain ⟨c0_1, k0_1, rfl⟩ := slR_len h0_1
  obtain ⟨c1_0, k1_0, rfl⟩ := slR_len h1_0
  obtain ⟨c2_0, k2_0, rfl⟩ := slR_len h2_0
  have HB0 : Hid (Below w.heap.size w (w.alloc (.cells #[.slice c0_0 x0_0.length k0_0, .slice c0_1 x0_1.length k0_1] 56))) := Lib.hid ((Below.refl _ w).alloc (Nat.le_refl _) _)
  have B0 : Hid ((w.alloc (.cells #[.slice c0_0 x0_0.length k0_0, .slice c0_1 x0_1.length k0_1] 56)).heap[w.heap.size]? = some (.cells #[.slice c0_0 x0_0.length k0_0, .slice c0_1 x0_1.length k0_1] 56 (0, 0))) := Lib.hid (by have := heap_alloc_new w (.cells #[.slice c0_0 x0_0.length k0_0, .slice c0_1 x0_1.length k0_1] 56); simpa only [World.size_alloc] using this)
  have A0_0 : Hid (SlR tQuery (w.alloc (.cells #[.slice c0_0 x0_0.length k0_0, .slice c0_1 x0_1.length k0_1] 56)) (.slice c0_0 x0_0.length k0_0) x0_0) := Lib.hid (slR_below tQuery_law h0_0 HB0.out)
  have A0_1 : Hid (SlR tSpanS (w.alloc (.cells #[.slice c0_0 x0_0.length k0_0, .slice c0_1 x0_1.length k0_1] 56)) (.slice c0_1 x0_1.length k0_1) x0_1) := Lib.hid (slR_below tSpanS_law h0_1 HB0.out)
  have A1_0 : Hid (SlR tRow (w.alloc (.cells #[.slice c0_0 x0_0.length k0_0, .slice c0_1 x0_1.length k0_1] 56)) (.slice c1_0 x1_0.length k1_0) x1_0) := Lib.hid (slR_below tRow_law h1_0 HB0.out)
  have A2_0 : Hid (SlR tInt (w.alloc (.cells #[.slice c0_0 x0_0.length k0_0, .slice c0_1 x0_1.length k0_1] 56)) (.slice c2_0 x2_0.length k2_0) x2_0) := Lib.hid (slR_below tInt_law h2_0 HB0.out)
  have O0_0 := Lib.hid o0_0
  have O0_1 := Lib.hid o0_1
  have O1_0 := Lib.hid o1_0
  have O2_0 := Lib.hid o2_0
  clear h0_0 o0_0 h0_1 o0_1 h1_0 o1_0 h2_0 o2_0
  have HSP := Lib.hid hspec
  have HIM := Lib.hid himpl
  clear hspec himpl
  by_cases c0 : x2_0.length ≤ 1048576
  ·
    by_cases c1 : ((zL tQuery x0_0 + zL tSpanS x0_1 : Nat) : Int) ≤ (1048576 : Int)
    ·
      by_cases c2 : ((zL tRow x1_0 : Nat) : Int) ≤ (1048576 : Int) - ((zL tQuery x0_0 + zL tSpanS x0_1 : Nat) : Int)
      ·
        have HZ0 : Hid (((zL tQuery x0_0 + zL tSpanS x0_1 : Nat) : Int) ≤ (1048576 : Int)) := Lib.hid c1
        have HK0 : Hid ((1048576 : Int) ≤ 1048576) := Lib.hid (by omega)
        have hn0 : ¬ (1048576 : Int) - ((zL tQuery x0_0 + zL tSpanS x0_1 : Nat) : Int) < 0 := by omega
        have HZ1 : Hid (((zL tRow x1_0 : Nat) : Int) ≤ (1048576 : Int) - ((zL tQuery x0_0 + zL tSpanS x0_1 : Nat) : Int)) := Lib.hid c2
        have HK1 : Hid ((1048576 : Int) - ((zL tQuery x0_0 + zL tSpanS x0_1 : Nat) : Int) ≤ 1048576) := Lib.hid (by omega)
        have hn1 : ¬ (1048576 : Int) - ((zL tQuery x0_0 + zL tSpanS x0_1 : Nat) : Int) - ((zL tRow x1_0 : Nat) : Int) < 0 := by omega
        have hl2 : ¬ (1048576 : Int) < (x2_0.length : Int) := by omega
        have HL2 := Lib.hid c0
        have HT : Hid (zL tQuery x0_0 + zL tSpanS x0_1 + zL tRow x1_0 ≤ 1048576) := Lib.hid (by omega)
        have S0_0 : Hid (zL tQuery x0_0 ≤ 1048576) := Lib.hid (by omega)
        have S0_1 : Hid (zL tSpanS x0_1 ≤ 1048576) := Lib.hid (by omega)
        have S1_0 : Hid (zL tRow x1_0 ≤ 1048576) := Lib.hid (by omega)
        have S2_0 : Hid (zL tInt x2_0 ≤ 1048576) := Lib.hid (by rw [zL_ints]; exact HL2.out)
        have N0_0 := ndL_le tQuery_law (by decide) x0_0
        have N0_1 := ndL_le tSpanS_law (by decide) x0_1
        have N1_0 := ndL_le tRow_law (by decide) x1_0
        have N2_0 := ndL_le tInt_law (by decide) x2_0
        clear N0_0 N0_1 N1_0 N2_0
        have e0 : (r0 != r0) = false := by simp
        clear c0 c1 c2
        go_enter Tryd.func6, Tryd.ntmps6
        go_wp2_with fail
        have Y_W : Hid (w.heap.size + 1 ≤ (w.alloc (.cells #[.slice c0_0 x0_0.length k0_0, .slice c0_1 x0_1.length k0_1] 56)).heap.size) := Lib.hid (by simp [World.size_alloc])
        generalize (w.alloc (.cells #[.slice c0_0 x0_0.length k0_0, .slice c0_1 x0_1.length k0_1] 56)) = W at *
        have d := Lib.hid (Below.refl W.heap.size W)
        refine (szIndex_Y (.slice c0_0 x0_0.length k0_0) (.slice c0_1 x0_1.length k0_1) x0_0 x0_1 ((1048576 : Int)) W (slR_below tQuery_law A0_0.out d.out) (slR_below tSpanS_law A0_1.out d.out) HZ0.out HK0.out).mono ?_
        rintro e v1 ⟨rfl, c1⟩
        replace B0 := Lib.hid ((c1.block w.heap.size (Array.getElem?_eq_some_iff.1 B0.out).1).trans B0.out)
        replace d := Lib.hid (d.out.trans (c1.mono d.out.size))
        have Z_v1 := Lib.hid (show W.heap.size ≤ v1.heap.size from c1.size)
        clear c1
        go_wp2_with fail
        refine (szRowS_Y (.slice c1_0 x1_0.length k1_0) x1_0 ((1048576 : Int) - ((zL tQuery x0_0 + zL tSpanS x0_1 : Nat) : Int)) v1 (slR_below tRow_law A1_0.out d.out) HZ1.out HK1.out).mono ?_
        rintro e v2 ⟨rfl, c2⟩
        replace B0 := Lib.hid ((c2.block w.heap.size (Array.getElem?_eq_some_iff.1 B0.out).1).trans B0.out)
        replace d := Lib.hid (d.out.trans (c2.mono d.out.size))
        have Z_v2 := Lib.hid (show v1.heap.size ≤ v2.heap.size from c2.size)
        clear c2
        have p_B0_0 := (cell_of_row v2 _ 0 _ _ _ B0.out).trans (show _ = some (Value.slice c0_0 x0_0.length k0_0) from rfl)
        have p_B0_1 := (cell_of_row v2 _ 1 _ _ _ B0.out).trans (show _ = some (Value.slice c0_1 x0_1.length k0_1) from rfl)
        go_wp2_with fail
        clear p_B0_0 p_B0_1
        refine (toIndex_T (.slice c0_0 x0_0.length k0_0) (.slice c0_1 x0_1.length k0_1) x0_0 x0_1 v2 (slR_below tQuery_law A0_0.out d.out) (slR_below tSpanS_law A0_1.out d.out) S0_0.out S0_1.out).mono ?_
        rintro e v3 ⟨cs, rfl, ow, c3⟩
        replace B0 := Lib.hid ((c3.block w.heap.size (Array.getElem?_eq_some_iff.1 B0.out).1).trans B0.out)
        replace d := Lib.hid (d.out.trans (c3.mono d.out.size))
        have Z_v3 := Lib.hid (show v2.heap.size ≤ v3.heap.size from c3.size)
        clear c3
        replace ow := tIndex_law.lt ow
        obtain ⟨y3_0, y3_1, K3_0, K3_1, rfl, p3_0, p3_1, w3_0, w3_1, d3_0_1⟩ := tIndex_O ow
        obtain ⟨ya3_0, yc3_0, rfl⟩ := slO_len p3_0
        have P3_0 := Lib.hid p3_0
        have Q3_0 := Lib.hid (fun b h => (show v2.heap.size ≤ b ∧ b < v3.heap.size from w3_0 b h))
        obtain ⟨ya3_1, yc3_1, rfl⟩ := slO_len p3_1
        have P3_1 := Lib.hid p3_1
        have Q3_1 := Lib.hid (fun b h => (show v2.heap.size ≤ b ∧ b < v3.heap.size from w3_1 b h))
        have D3_0_1 := Lib.hid d3_0_1
        clear d3_0_1
        clear p3_0 w3_0 p3_1 w3_1 ow
        go_wp2_with fail
        refine (toRowS_S (.slice c1_0 x1_0.length k1_0) x1_0 v3 (slR_below tRow_law A1_0.out d.out) S1_0.out).mono ?_
        rintro e v4 ⟨y, rfl, o, c4⟩
        replace B0 := Lib.hid ((c4.block w.heap.size (Array.getElem?_eq_some_iff.1 B0.out).1).trans B0.out)
        replace P3_0 := Lib.hid (slO_fresh tQuery_law P3_0.out c4)
        replace P3_1 := Lib.hid (slO_fresh tSpanS_law P3_1.out c4)
        replace d := Lib.hid (d.out.trans (c4.mono d.out.size))
        have Z_v4 := Lib.hid (show v3.heap.size ≤ v4.heap.size from c4.size)
        clear c4
        obtain ⟨ya4, yc4, rfl⟩ := slO_len o
        have P4 := Lib.hid (slO_lt tRow_law o)
        have Q4 := Lib.hid (fun b (h : since v3 b ∧ b < v4.heap.size) => (show v3.heap.size ≤ b ∧ b < v4.heap.size from h))
        clear o
        go_wp2_with fail
        refine (toIntS_S (.slice c2_0 x2_0.length k2_0) x2_0 v4 (slR_below tInt_law A2_0.out d.out) S2_0.out).mono ?_
        rintro e v5 ⟨y, rfl, o, c5⟩
        replace B0 := Lib.hid ((c5.block w.heap.size (Array.getElem?_eq_some_iff.1 B0.out).1).trans B0.out)
        replace P3_0 := Lib.hid (slO_fresh tQuery_law P3_0.out c5)
        replace P3_1 := Lib.hid (slO_fresh tSpanS_law P3_1.out c5)
        replace P4 := Lib.hid (slO_fresh tRow_law P4.out c5)
        replace d := Lib.hid (d.out.trans (c5.mono d.out.size))
        have Z_v5 := Lib.hid (show v4.heap.size ≤ v5.heap.size from c5.size)
        clear c5
        obtain ⟨ya5, yc5, rfl⟩ := slO_len o
        have P5 := Lib.hid (slO_lt tInt_law o)
        have Q5 := Lib.hid (fun b (h : since v4 b ∧ b < v5.heap.size) => (show v4.heap.size ≤ b ∧ b < v5.heap.size from h))
        clear o
        go_wp2_with fail
        refine (HSP.out (.slice ya3_0 x0_0.length yc3_0) (.slice ya3_1 x0_1.length yc3_1) (.slice ya4 x1_0.length yc4) (.slice ya5 x2_0.length yc5) v5 (slO_reads tQuery_law P3_0.out) (slO_reads tSpanS_law P3_1.out) (slO_reads tRow_law P4.out) (slO_reads tInt_law P5.out) HT.out HL2.out).mono ?_
        rintro e v6 ⟨rfl, c6⟩
        replace B0 := Lib.hid ((c6.block w.heap.size (Array.getElem?_eq_some_iff.1 B0.out).1).trans B0.out)
        replace P3_0 := Lib.hid (slO_fresh tQuery_law P3_0.out c6)
        replace P3_1 := Lib.hid (slO_fresh tSpanS_law P3_1.out c6)
        replace P4 := Lib.hid (slO_fresh tRow_law P4.out c6)
        replace P5 := Lib.hid (slO_fresh tInt_law P5.out c6)
        replace d := Lib.hid (d.out.trans (c6.mono d.out.size))
        have Z_v6 := Lib.hid (show v5.heap.size ≤ v6.heap.size from c6.size)
        clear c6
        have p_B0_0 := (cell_of_row v6 _ 0 _ _ _ B0.out).trans (show _ = some (Value.slice c0_0 x0_0.length k0_0) from rfl)
        have p_B0_1 := (cell_of_row v6 _ 1 _ _ _ B0.out).trans (show _ = some (Value.slice c0_1 x0_1.length k0_1) from rfl)
        go_wp2_with fail
        clear p_B0_0 p_B0_1
        refine (toIndex_T (.slice c0_0 x0_0.length k0_0) (.slice c0_1 x0_1.length k0_1) x0_0 x0_1 v6 (slR_below tQuery_law A0_0.out d.out) (slR_below tSpanS_law A0_1.out d.out) S0_0.out S0_1.out).mono ?_
        rintro e v7 ⟨cs, rfl, ow, c7⟩
        replace B0 := Lib.hid ((c7.block w.heap.size (Array.getElem?_eq_some_iff.1 B0.out).1).trans B0.out)
        replace P3_0 := Lib.hid (slO_fresh tQuery_law P3_0.out c7)
        replace P3_1 := Lib.hid (slO_fresh tSpanS_law P3_1.out c7)
        replace P4 := Lib.hid (slO_fresh tRow_law P4.out c7)
        replace P5 := Lib.hid (slO_fresh tInt_law P5.out c7)
        replace d := Lib.hid (d.out.trans (c7.mono d.out.size))
        have Z_v7 := Lib.hid (show v6.heap.size ≤ v7.heap.size from c7.size)
        clear c7
        replace ow := tIndex_law.lt ow
        obtain ⟨y7_0, y7_1, K7_0, K7_1, rfl, p7_0, p7_1, w7_0, w7_1, d7_0_1⟩ := tIndex_O ow
        obtain ⟨ya7_0, yc7_0, rfl⟩ := slO_len p7_0
        have P7_0 := Lib.hid p7_0
        have Q7_0 := Lib.hid (fun b h => (show v6.heap.size ≤ b ∧ b < v7.heap.size from w7_0 b h))
        obtain ⟨ya7_1, yc7_1, rfl⟩ := slO_len p7_1
        have P7_1 := Lib.hid p7_1
        have Q7_1 := Lib.hid (fun b h => (show v6.heap.size ≤ b ∧ b < v7.heap.size from w7_1 b h))
        have D7_0_1 := Lib.hid d7_0_1
        clear d7_0_1
        clear p7_0 w7_0 p7_1 w7_1 ow
        have hal : Below v7.heap.size v7 (v7.alloc (.cells #[.slice ya7_0 x0_0.length yc7_0, .slice ya7_1 x0_1.length yc7_1] 27)) := (Below.refl _ _).alloc (Nat.le_refl _) _
        have X1 := Lib.hid (heap_alloc_new v7 (.cells #[.slice ya7_0 x0_0.length yc7_0, .slice ya7_1 x0_1.length yc7_1] 27))
        have Y_X1 := Lib.hid (show v7.heap.size < (v7.alloc (.cells #[.slice ya7_0 x0_0.length yc7_0, .slice ya7_1 x0_1.length yc7_1] 27)).heap.size by simp [World.size_alloc])
        replace B0 := Lib.hid ((hal.block w.heap.size (Array.getElem?_eq_some_iff.1 B0.out).1).trans B0.out)
        replace P3_0 := Lib.hid (slO_fresh tQuery_law P3_0.out hal)
        replace P3_1 := Lib.hid (slO_fresh tSpanS_law P3_1.out hal)
        replace P4 := Lib.hid (slO_fresh tRow_law P4.out hal)
        replace P5 := Lib.hid (slO_fresh tInt_law P5.out hal)
        replace P7_0 := Lib.hid (slO_fresh tQuery_law P7_0.out hal)
        replace P7_1 := Lib.hid (slO_fresh tSpanS_law P7_1.out hal)
        replace d := Lib.hid (d.out.trans (hal.mono d.out.size))
        clear hal
        go_wp2_with fail
        generalize (v7.alloc (.cells #[.slice ya7_0 x0_0.length yc7_0, .slice ya7_1 x0_1.length yc7_1] 27)) = u8 at *
        refine (toRowS_S (.slice c1_0 x1_0.length k1_0) x1_0 u8 (slR_below tRow_law A1_0.out d.out) S1_0.out).mono ?_
        rintro e v9 ⟨y, rfl, o, c9⟩
        replace B0 := Lib.hid ((c9.block w.heap.size (Array.getElem?_eq_some_iff.1 B0.out).1).trans B0.out)
        replace X1 := Lib.hid ((c9.block v7.heap.size (Array.getElem?_eq_some_iff.1 X1.out).1).trans X1.out)
        replace P3_0 := Lib.hid (slO_fresh tQuery_law P3_0.out c9)
        replace P3_1 := Lib.hid (slO_fresh tSpanS_law P3_1.out c9)
        replace P4 := Lib.hid (slO_fresh tRow_law P4.out c9)
        replace P5 := Lib.hid (slO_fresh tInt_law P5.out c9)
        replace P7_0 := Lib.hid (slO_fresh tQuery_law P7_0.out c9)
        replace P7_1 := Lib.hid (slO_fresh tSpanS_law P7_1.out c9)
        replace d := Lib.hid (d.out.trans (c9.mono d.out.size))
        have Z_v9 := Lib.hid (show u8.heap.size ≤ v9.heap.size from c9.size)
        clear c9
        obtain ⟨ya9, yc9, rfl⟩ := slO_len o
        have P9 := Lib.hid (slO_lt tRow_law o)
        have Q9 := Lib.hid (fun b (h : since u8 b ∧ b < v9.heap.size) => (show u8.heap.size ≤ b ∧ b < v9.heap.size from h))
        clear o
        go_wp2_with fail
        refine (toIntS_S (.slice c2_0 x2_0.length k2_0) x2_0 v9 (slR_below tInt_law A2_0.out d.out) S2_0.out).mono ?_
        rintro e v10 ⟨y, rfl, o, c10⟩
        replace B0 := Lib.hid ((c10.block w.heap.size (Array.getElem?_eq_some_iff.1 B0.out).1).trans B0.out)
        replace X1 := Lib.hid ((c10.block v7.heap.size (Array.getElem?_eq_some_iff.1 X1.out).1).trans X1.out)
        replace P3_0 := Lib.hid (slO_fresh tQuery_law P3_0.out c10)
        replace P3_1 := Lib.hid (slO_fresh tSpanS_law P3_1.out c10)
        replace P4 := Lib.hid (slO_fresh tRow_law P4.out c10)
        replace P5 := Lib.hid (slO_fresh tInt_law P5.out c10)
        replace P7_0 := Lib.hid (slO_fresh tQuery_law P7_0.out c10)
        replace P7_1 := Lib.hid (slO_fresh tSpanS_law P7_1.out c10)
        replace P9 := Lib.hid (slO_fresh tRow_law P9.out c10)
        replace d := Lib.hid (d.out.trans (c10.mono d.out.size))
        have Z_v10 := Lib.hid (show v9.heap.size ≤ v10.heap.size from c10.size)
        clear c10
        obtain ⟨ya10, yc10, rfl⟩ := slO_len o
        have P10 := Lib.hid (slO_lt tInt_law o)
        have Q10 := Lib.hid (fun b (h : since v9 b ∧ b < v10.heap.size) => (show v9.heap.size ≤ b ∧ b < v10.heap.size from h))
        clear o
        have p_X1_0 := (cell_of_row v10 _ 0 _ _ _ X1.out).trans (show _ = some (Value.slice ya7_0 x0_0.length yc7_0) from rfl)
        have p_X1_1 := (cell_of_row v10 _ 1 _ _ _ X1.out).trans (show _ = some (Value.slice ya7_1 x0_1.length yc7_1) from rfl)
        go_wp2_with fail
        clear p_X1_0 p_X1_1
        refine (HIM.out (.slice ya7_0 x0_0.length yc7_0) (.slice ya7_1 x0_1.length yc7_1) (.slice ya9 x1_0.length yc9) (.slice ya10 x2_0.length yc10) v10 (HB0.out.trans (d.out.mono HB0.out.size)) (slO_reads tQuery_law P7_0.out) (slO_reads tSpanS_law P7_1.out) (slO_reads tRow_law P9.out) (slO_reads tInt_law P10.out) HT.out HL2.out).mono ?_
        rintro e v11 ⟨rfl, c11⟩
        replace B0 := Lib.hid ((c11.block w.heap.size (Array.getElem?_eq_some_iff.1 B0.out).1).trans B0.out)
        replace X1 := Lib.hid ((c11.block v7.heap.size (Array.getElem?_eq_some_iff.1 X1.out).1).trans X1.out)
        replace P3_0 := Lib.hid (slO_fresh tQuery_law P3_0.out c11)
        replace P3_1 := Lib.hid (slO_fresh tSpanS_law P3_1.out c11)
        replace P4 := Lib.hid (slO_fresh tRow_law P4.out c11)
        replace P5 := Lib.hid (slO_fresh tInt_law P5.out c11)
        replace P7_0 := Lib.hid (slO_fresh tQuery_law P7_0.out c11)
        replace P7_1 := Lib.hid (slO_fresh tSpanS_law P7_1.out c11)
        replace P9 := Lib.hid (slO_fresh tRow_law P9.out c11)
        replace P10 := Lib.hid (slO_fresh tInt_law P10.out c11)
        replace d := Lib.hid (d.out.trans (c11.mono d.out.size))
        have Z_v11 := Lib.hid (show v10.heap.size ≤ v11.heap.size from c11.size)
        clear c11
        go_wp2
        have p_B0_0 := (cell_of_row v11 _ 0 _ _ _ B0.out).trans (show _ = some (Value.slice c0_0 x0_0.length k0_0) from rfl)
        have p_B0_1 := (cell_of_row v11 _ 1 _ _ _ B0.out).trans (show _ = some (Value.slice c0_1 x0_1.length k0_1) from rfl)
        have p_X1_0 := (cell_of_row v11 _ 0 _ _ _ X1.out).trans (show _ = some (Value.slice ya7_0 x0_0.length yc7_0) from rfl)
        have p_X1_1 := (cell_of_row v11 _ 1 _ _ _ X1.out).trans (show _ = some (Value.slice ya7_1 x0_1.length yc7_1) from rfl)
        refine wp_region_held_drew (S := fun w' => w'.cell? ⟨w.heap.size, 0, none⟩ = some (Value.slice c0_0 x0_0.length k0_0) ∧ w'.cell? ⟨w.heap.size, 1, none⟩ = some (Value.slice c0_1 x0_1.length k0_1) ∧ w'.cell? ⟨v7.heap.size, 0, none⟩ = some (Value.slice ya7_0 x0_0.length yc7_0) ∧ w'.cell? ⟨v7.heap.size, 1, none⟩ = some (Value.slice ya7_1 x0_1.length yc7_1)) (by kernel_rfl) ⟨p_B0_0, p_B0_1, p_X1_0, p_X1_1⟩ (fun hHeld => ?_)
        clear p_B0_0 p_B0_1 p_X1_0 p_X1_1
        have cd12 : Below v11.heap.size v11 v11.drew := below_drew (Below.refl _ _)
        replace B0 := Lib.hid ((cd12.block w.heap.size (Array.getElem?_eq_some_iff.1 B0.out).1).trans B0.out)
        replace X1 := Lib.hid ((cd12.block v7.heap.size (Array.getElem?_eq_some_iff.1 X1.out).1).trans X1.out)
        replace P3_0 := Lib.hid (slO_fresh tQuery_law P3_0.out cd12)
        replace P3_1 := Lib.hid (slO_fresh tSpanS_law P3_1.out cd12)
        replace P4 := Lib.hid (slO_fresh tRow_law P4.out cd12)
        replace P5 := Lib.hid (slO_fresh tInt_law P5.out cd12)
        replace P7_0 := Lib.hid (slO_fresh tQuery_law P7_0.out cd12)
        replace P7_1 := Lib.hid (slO_fresh tSpanS_law P7_1.out cd12)
        replace P9 := Lib.hid (slO_fresh tRow_law P9.out cd12)
        replace P10 := Lib.hid (slO_fresh tInt_law P10.out cd12)
        replace d := Lib.hid (d.out.trans (cd12.mono d.out.size))
        clear cd12
        refine take_runs (i := 0) (v := ?_) (by simp only [List.getElem?_toArray, List.getElem?_cons_succ, List.getElem?_cons_zero]; rfl) (by kernel_rfl) (by kernel_rfl) (by kernel_rfl) rfl (by exact fun _ _ _ h => h) (by rfl) ?_ (by assumption) ?_
        rotate_left
        · intro w hSw; (try dsimp only at hSw); go_simp; try (with_reducible rfl)
        try simp only [Act.put, List.setIfInBounds_toArray, List.set_cons_zero, List.set_cons_succ]
        refine take_runs (i := 1) (v := ?_) (by simp only [List.getElem?_toArray, List.getElem?_cons_succ, List.getElem?_cons_zero]; rfl) (by kernel_rfl) (by kernel_rfl) (by kernel_rfl) rfl (by exact fun _ _ _ h => h) (by rfl) ?_ (by assumption) ?_
        rotate_left
        · intro w hSw; (try dsimp only at hSw); go_simp; try (with_reducible rfl)
        try simp only [Act.put, List.setIfInBounds_toArray, List.set_cons_zero, List.set_cons_succ]
        refine wpAnyH_ready (rs := [2]) (by kernel_rfl) (by simp) ?_
        refine AllReadyH.cons (o := _) (by simp only [List.getElem?_toArray, List.getElem?_cons_succ, List.getElem?_cons_zero]; rfl) (fun K hK => ?_) AllReadyH.nil
        go_simp
        refine (toIndex_T (.slice c0_0 x0_0.length k0_0) (.slice c0_1 x0_1.length k0_1) x0_0 x0_1 (v11.drew) (slR_below tQuery_law A0_0.out d.out) (slR_below tSpanS_law A0_1.out d.out) S0_0.out S0_1.out).mono ?_
        rintro e v13 ⟨cs, rfl, ow, c13⟩
        replace B0 := Lib.hid ((c13.block w.heap.size (Array.getElem?_eq_some_iff.1 B0.out).1).trans B0.out)
        replace X1 := Lib.hid ((c13.block v7.heap.size (Array.getElem?_eq_some_iff.1 X1.out).1).trans X1.out)
        replace P3_0 := Lib.hid (slO_fresh tQuery_law P3_0.out c13)
        replace P3_1 := Lib.hid (slO_fresh tSpanS_law P3_1.out c13)
        replace P4 := Lib.hid (slO_fresh tRow_law P4.out c13)
        replace P5 := Lib.hid (slO_fresh tInt_law P5.out c13)
        replace P7_0 := Lib.hid (slO_fresh tQuery_law P7_0.out c13)
        replace P7_1 := Lib.hid (slO_fresh tSpanS_law P7_1.out c13)
        replace P9 := Lib.hid (slO_fresh tRow_law P9.out c13)
        replace P10 := Lib.hid (slO_fresh tInt_law P10.out c13)
        replace d := Lib.hid (d.out.trans (c13.mono d.out.size))
        have Z_v13 := Lib.hid (show v11.heap.size ≤ v13.heap.size from c13.size)
        clear c13
        replace ow := tIndex_law.lt ow
        obtain ⟨y13_0, y13_1, K13_0, K13_1, rfl, p13_0, p13_1, w13_0, w13_1, d13_0_1⟩ := tIndex_O ow
        obtain ⟨ya13_0, yc13_0, rfl⟩ := slO_len p13_0
        have P13_0 := Lib.hid p13_0
        have Q13_0 := Lib.hid (fun b h => (show (v11.drew).heap.size ≤ b ∧ b < v13.heap.size from w13_0 b h))
        obtain ⟨ya13_1, yc13_1, rfl⟩ := slO_len p13_1
        have P13_1 := Lib.hid p13_1
        have Q13_1 := Lib.hid (fun b h => (show (v11.drew).heap.size ≤ b ∧ b < v13.heap.size from w13_1 b h))
        have D13_0_1 := Lib.hid d13_0_1
        clear d13_0_1
        clear p13_0 w13_0 p13_1 w13_1 ow
        have p_B0_0 := (cell_of_row v13 _ 0 _ _ _ B0.out).trans (show _ = some (Value.slice c0_0 x0_0.length k0_0) from rfl)
        have p_B0_1 := (cell_of_row v13 _ 1 _ _ _ B0.out).trans (show _ = some (Value.slice c0_1 x0_1.length k0_1) from rfl)
        have p_X1_0 := (cell_of_row v13 _ 0 _ _ _ X1.out).trans (show _ = some (Value.slice ya7_0 x0_0.length yc7_0) from rfl)
        have p_X1_1 := (cell_of_row v13 _ 1 _ _ _ X1.out).trans (show _ = some (Value.slice ya7_1 x0_1.length yc7_1) from rfl)
        refine hK.out _ _ ⟨p_B0_0, p_B0_1, p_X1_0, p_X1_1⟩ (fun hHeld => ?_)
        clear p_B0_0 p_B0_1 p_X1_0 p_X1_1
        clear hK K
        try simp only [Act.put, List.setIfInBounds_toArray, List.set_cons_zero, List.set_cons_succ]
        refine wpAnyH_ready (rs := [3]) (by kernel_rfl) (by simp) ?_
        refine AllReadyH.cons (o := _) (by simp only [List.getElem?_toArray, List.getElem?_cons_succ, List.getElem?_cons_zero]; rfl) (fun K hK => ?_) AllReadyH.nil
        go_simp
        refine (eqIndex_T (.slice ya7_0 x0_0.length yc7_0) (.slice ya7_1 x0_1.length yc7_1) x0_0 x0_1 (.slice ya13_0 x0_0.length yc13_0) (.slice ya13_1 x0_1.length yc13_1) v13 (slO_reads tQuery_law P7_0.out) (slO_reads tSpanS_law P7_1.out) (slO_reads tQuery_law P13_0.out) (slO_reads tSpanS_law P13_1.out) S0_0.out S0_1.out).mono ?_
        rintro e v14 ⟨rfl, c14⟩
        replace B0 := Lib.hid ((c14.block w.heap.size (Array.getElem?_eq_some_iff.1 B0.out).1).trans B0.out)
        replace X1 := Lib.hid ((c14.block v7.heap.size (Array.getElem?_eq_some_iff.1 X1.out).1).trans X1.out)
        replace P3_0 := Lib.hid (slO_fresh tQuery_law P3_0.out c14)
        replace P3_1 := Lib.hid (slO_fresh tSpanS_law P3_1.out c14)
        replace P4 := Lib.hid (slO_fresh tRow_law P4.out c14)
        replace P5 := Lib.hid (slO_fresh tInt_law P5.out c14)
        replace P7_0 := Lib.hid (slO_fresh tQuery_law P7_0.out c14)
        replace P7_1 := Lib.hid (slO_fresh tSpanS_law P7_1.out c14)
        replace P9 := Lib.hid (slO_fresh tRow_law P9.out c14)
        replace P10 := Lib.hid (slO_fresh tInt_law P10.out c14)
        replace P13_0 := Lib.hid (slO_fresh tQuery_law P13_0.out c14)
        replace P13_1 := Lib.hid (slO_fresh tSpanS_law P13_1.out c14)
        replace d := Lib.hid (d.out.trans (c14.mono d.out.size))
        have Z_v14 := Lib.hid (show v13.heap.size ≤ v14.heap.size from c14.size)
        clear c14
        clear P13_0 P13_1
        have p_B0_0 := (cell_of_row v14 _ 0 _ _ _ B0.out).trans (show _ = some (Value.slice c0_0 x0_0.length k0_0) from rfl)
        have p_B0_1 := (cell_of_row v14 _ 1 _ _ _ B0.out).trans (show _ = some (Value.slice c0_1 x0_1.length k0_1) from rfl)
        have p_X1_0 := (cell_of_row v14 _ 0 _ _ _ X1.out).trans (show _ = some (Value.slice ya7_0 x0_0.length yc7_0) from rfl)
        have p_X1_1 := (cell_of_row v14 _ 1 _ _ _ X1.out).trans (show _ = some (Value.slice ya7_1 x0_1.length yc7_1) from rfl)
        refine hK.out _ _ ⟨p_B0_0, p_B0_1, p_X1_0, p_X1_1⟩ (fun hHeld => ?_)
        clear p_B0_0 p_B0_1 p_X1_0 p_X1_1
        clear hK K
        try simp only [Act.put, List.setIfInBounds_toArray, List.set_cons_zero, List.set_cons_succ]
        refine take_runs (i := 4) (v := ?_) (by simp only [List.getElem?_toArray, List.getElem?_cons_succ, List.getElem?_cons_zero]; rfl) (by kernel_rfl) (by kernel_rfl) (by kernel_rfl) rfl (by exact fun _ _ _ h => h) (by rfl) ?_ (by assumption) ?_
        rotate_left
        · intro w hSw; (try dsimp only at hSw); go_simp; try (with_reducible rfl)
        try simp only [Act.put, List.setIfInBounds_toArray, List.set_cons_zero, List.set_cons_succ]
        refine wpAnyH_done (by kernel_rfl) ?_ _
        clear hHeld
        go_wp2_with fail
        refine (toRowS_S (.slice c1_0 x1_0.length k1_0) x1_0 v14 (slR_below tRow_law A1_0.out d.out) S1_0.out).mono ?_
        rintro e v15 ⟨y, rfl, o, c15⟩
        replace B0 := Lib.hid ((c15.block w.heap.size (Array.getElem?_eq_some_iff.1 B0.out).1).trans B0.out)
        replace X1 := Lib.hid ((c15.block v7.heap.size (Array.getElem?_eq_some_iff.1 X1.out).1).trans X1.out)
        replace P3_0 := Lib.hid (slO_fresh tQuery_law P3_0.out c15)
        replace P3_1 := Lib.hid (slO_fresh tSpanS_law P3_1.out c15)
        replace P4 := Lib.hid (slO_fresh tRow_law P4.out c15)
        replace P5 := Lib.hid (slO_fresh tInt_law P5.out c15)
        replace P7_0 := Lib.hid (slO_fresh tQuery_law P7_0.out c15)
        replace P7_1 := Lib.hid (slO_fresh tSpanS_law P7_1.out c15)
        replace P9 := Lib.hid (slO_fresh tRow_law P9.out c15)
        replace P10 := Lib.hid (slO_fresh tInt_law P10.out c15)
        replace d := Lib.hid (d.out.trans (c15.mono d.out.size))
        have Z_v15 := Lib.hid (show v14.heap.size ≤ v15.heap.size from c15.size)
        clear c15
        obtain ⟨ya15, yc15, rfl⟩ := slO_len o
        have P15 := Lib.hid (slO_lt tRow_law o)
        have Q15 := Lib.hid (fun b (h : since v14 b ∧ b < v15.heap.size) => (show v14.heap.size ≤ b ∧ b < v15.heap.size from h))
        clear o
        go_wp2_with fail
        refine (eqRowS_S (.slice ya9 x1_0.length yc9) (.slice ya15 x1_0.length yc15) x1_0 v15 (slO_reads tRow_law P9.out) (slO_reads tRow_law P15.out) S1_0.out).mono ?_
        rintro e v16 ⟨rfl, c16⟩
        replace B0 := Lib.hid ((c16.block w.heap.size (Array.getElem?_eq_some_iff.1 B0.out).1).trans B0.out)
        replace X1 := Lib.hid ((c16.block v7.heap.size (Array.getElem?_eq_some_iff.1 X1.out).1).trans X1.out)
        replace P3_0 := Lib.hid (slO_fresh tQuery_law P3_0.out c16)
        replace P3_1 := Lib.hid (slO_fresh tSpanS_law P3_1.out c16)
        replace P4 := Lib.hid (slO_fresh tRow_law P4.out c16)
        replace P5 := Lib.hid (slO_fresh tInt_law P5.out c16)
        replace P7_0 := Lib.hid (slO_fresh tQuery_law P7_0.out c16)
        replace P7_1 := Lib.hid (slO_fresh tSpanS_law P7_1.out c16)
        replace P9 := Lib.hid (slO_fresh tRow_law P9.out c16)
        replace P10 := Lib.hid (slO_fresh tInt_law P10.out c16)
        replace P15 := Lib.hid (slO_fresh tRow_law P15.out c16)
        replace d := Lib.hid (d.out.trans (c16.mono d.out.size))
        have Z_v16 := Lib.hid (show v15.heap.size ≤ v16.heap.size from c16.size)
        clear c16
        clear P15
        go_wp2_with fail
        refine (toIntS_S (.slice c2_0 x2_0.length k2_0) x2_0 v16 (slR_below tInt_law A2_0.out d.out) S2_0.out).mono ?_
        rintro e v17 ⟨y, rfl, o, c17⟩
        replace B0 := Lib.hid ((c17.block w.heap.size (Array.getElem?_eq_some_iff.1 B0.out).1).trans B0.out)
        replace X1 := Lib.hid ((c17.block v7.heap.size (Array.getElem?_eq_some_iff.1 X1.out).1).trans X1.out)
        replace P3_0 := Lib.hid (slO_fresh tQuery_law P3_0.out c17)
        replace P3_1 := Lib.hid (slO_fresh tSpanS_law P3_1.out c17)
        replace P4 := Lib.hid (slO_fresh tRow_law P4.out c17)
        replace P5 := Lib.hid (slO_fresh tInt_law P5.out c17)
        replace P7_0 := Lib.hid (slO_fresh tQuery_law P7_0.out c17)
        replace P7_1 := Lib.hid (slO_fresh tSpanS_law P7_1.out c17)
        replace P9 := Lib.hid (slO_fresh tRow_law P9.out c17)
        replace P10 := Lib.hid (slO_fresh tInt_law P10.out c17)
        replace d := Lib.hid (d.out.trans (c17.mono d.out.size))
        have Z_v17 := Lib.hid (show v16.heap.size ≤ v17.heap.size from c17.size)
        clear c17
        obtain ⟨ya17, yc17, rfl⟩ := slO_len o
        have P17 := Lib.hid (slO_lt tInt_law o)
        have Q17 := Lib.hid (fun b (h : since v16 b ∧ b < v17.heap.size) => (show v16.heap.size ≤ b ∧ b < v17.heap.size from h))
        clear o
        go_wp2_with fail
        refine (eqIntS_S (.slice ya10 x2_0.length yc10) (.slice ya17 x2_0.length yc17) x2_0 v17 (slO_reads tInt_law P10.out) (slO_reads tInt_law P17.out) S2_0.out).mono ?_
        rintro e v18 ⟨rfl, c18⟩
        replace B0 := Lib.hid ((c18.block w.heap.size (Array.getElem?_eq_some_iff.1 B0.out).1).trans B0.out)
        replace X1 := Lib.hid ((c18.block v7.heap.size (Array.getElem?_eq_some_iff.1 X1.out).1).trans X1.out)
        replace P3_0 := Lib.hid (slO_fresh tQuery_law P3_0.out c18)
        replace P3_1 := Lib.hid (slO_fresh tSpanS_law P3_1.out c18)
        replace P4 := Lib.hid (slO_fresh tRow_law P4.out c18)
        replace P5 := Lib.hid (slO_fresh tInt_law P5.out c18)
        replace P7_0 := Lib.hid (slO_fresh tQuery_law P7_0.out c18)
        replace P7_1 := Lib.hid (slO_fresh tSpanS_law P7_1.out c18)
        replace P9 := Lib.hid (slO_fresh tRow_law P9.out c18)
        replace P10 := Lib.hid (slO_fresh tInt_law P10.out c18)
        replace P17 := Lib.hid (slO_fresh tInt_law P17.out c18)
        replace d := Lib.hid (d.out.trans (c18.mono d.out.size))
        have Z_v18 := Lib.hid (show v17.heap.size ≤ v18.heap.size from c18.size)
        clear c18
        clear P17
        go_wp2
        go_ret
        exact ⟨rfl, HB0.out.trans (d.out.mono HB0.out.size)⟩
      ·
        have HZ0 : Hid (((zL tQuery x0_0 + zL tSpanS x0_1 : Nat) : Int) ≤ (1048576 : Int)) := Lib.hid c1
        have HK0 : Hid ((1048576 : Int) ≤ 1048576) := Lib.hid (by omega)
        have hn0 : ¬ (1048576 : Int) - ((zL tQuery x0_0 + zL tSpanS x0_1 : Nat) : Int) < 0 := by omega
        have hl2 : ¬ (1048576 : Int) < (x2_0.length : Int) := by omega
        have HL2 := Lib.hid c0
        have HZ1 : Hid ((1048576 : Int) - ((zL tQuery x0_0 + zL tSpanS x0_1 : Nat) : Int) < ((zL tRow x1_0 : Nat) : Int)) := Lib.hid (by omega)
        have HP1 : Hid (0 ≤ (1048576 : Int) - ((zL tQuery x0_0 + zL tSpanS x0_1 : Nat) : Int)) := Lib.hid (by omega)
        have HK1 : Hid ((1048576 : Int) - ((zL tQuery x0_0 + zL tSpanS x0_1 : Nat) : Int) ≤ 1048576) := Lib.hid (by omega)
        clear c2
        go_enter Tryd.func6, Tryd.ntmps6
        go_wp2_with fail
        have Y_W : Hid (w.heap.size + 1 ≤ (w.alloc (.cells #[.slice c0_0 x0_0.length k0_0, .slice c0_1 x0_1.length k0_1] 56)).heap.size) := Lib.hid (by simp [World.size_alloc])
        generalize (w.alloc (.cells #[.slice c0_0 x0_0.length k0_0, .slice c0_1 x0_1.length k0_1] 56)) = W at *
        have d := Lib.hid (Below.refl W.heap.size W)
        refine (szIndex_Y (.slice c0_0 x0_0.length k0_0) (.slice c0_1 x0_1.length k0_1) x0_0 x0_1 ((1048576 : Int)) W (slR_below tQuery_law A0_0.out d.out) (slR_below tSpanS_law A0_1.out d.out) HZ0.out HK0.out).mono ?_
        rintro e v1 ⟨rfl, c1⟩
        replace B0 := Lib.hid ((c1.block w.heap.size (Array.getElem?_eq_some_iff.1 B0.out).1).trans B0.out)
        replace d := Lib.hid (d.out.trans (c1.mono d.out.size))
        have Z_v1 := Lib.hid (show W.heap.size ≤ v1.heap.size from c1.size)
        clear c1
        go_wp2_with fail
        refine (szRowS_N (.slice c1_0 x1_0.length k1_0) x1_0 ((1048576 : Int) - ((zL tQuery x0_0 + zL tSpanS x0_1 : Nat) : Int)) v1 (slR_below tRow_law A1_0.out d.out) HZ1.out HK1.out HP1.out O1_0.out).mono ?_
        rintro e v2 ⟨rfl, c2⟩
        replace B0 := Lib.hid ((c2.block w.heap.size (Array.getElem?_eq_some_iff.1 B0.out).1).trans B0.out)
        replace d := Lib.hid (d.out.trans (c2.mono d.out.size))
        have Z_v2 := Lib.hid (show v1.heap.size ≤ v2.heap.size from c2.size)
        clear c2
        go_wp2
        go_ret
        exact ⟨rfl, HB0.out.trans (d.out.mono HB0.out.size)⟩
    ·
      have hl2 : ¬ (1048576 : Int) < (x2_0.length : Int) := by omega
      have HL2 := Lib.hid c0
      have HZ0 : Hid ((1048576 : Int) < ((zL tQuery x0_0 + zL tSpanS x0_1 : Nat) : Int)) := Lib.hid (by omega)
      have HP0 : Hid (0 ≤ (1048576 : Int)) := Lib.hid (by omega)
      have HK0 : Hid ((1048576 : Int) ≤ 1048576) := Lib.hid (by omega)
      clear c1
      go_enter Tryd.func6, Tryd.ntmps6
      go_wp2_with fail
      have Y_W : Hid (w.heap.size + 1 ≤ (w.alloc (.cells #[.slice c0_0 x0_0.length k0_0, .slice c0_1 x0_1.length k0_1] 56)).heap.size) := Lib.hid (by simp [World.size_alloc])
      generalize (w.alloc (.cells #[.slice c0_0 x0_0.length k0_0, .slice c0_1 x0_1.length k0_1] 56)) = W at *
      have d := Lib.hid (Below.refl W.heap.size W)
      refine (szIndex_N (.slice c0_0 x0_0.length k0_0) (.slice c0_1 x0_1.length k0_1) x0_0 x0_1 ((1048576 : Int)) W (slR_below tQuery_law A0_0.out d.out) (slR_below tSpanS_law A0_1.out d.out) HZ0.out HK0.out HP0.out O0_0.out O0_1.out).mono ?_
      rintro e v1 ⟨rfl, c1⟩
      replace B0 := Lib.hid ((c1.block w.heap.size (Array.getElem?_eq_some_iff.1 B0.out).1).trans B0.out)
      replace d := Lib.hid (d.out.trans (c1.mono d.out.size))
      have Z_v1 := Lib.hid (show W.heap.size ≤ v1.heap.size from c1.size)
      clear c1
      go_wp2
      go_ret
      exact ⟨rfl, HB0.out.trans (d.out.mono HB0.out.size)⟩
  ·
    have hl2 : (1048576 : Int) < (x2_0.length : Int) := by omega
    have hm2 : (x2_0.length : Int) ≤ 9223372036854775807 := O2_0.out.1
    clear c0
    go_enter Tryd.func6, Tryd.ntmps6
    go_wp2
    go_ret
    exact ⟨rfl, HB0.out⟩
end Go.Proofs.YtidhmgboknffkaaDoor
namespace Go.Proofs.YtidhmgboknffkaaDoor
open Go.ChangeShapes Go.WideShapes Go.ChangeAt Go.WideMaps Go.WideElems Go.RowKit
set_option linter.unusedVariables false
theorem laidOutP : laidOutB Tryd.prog = true := by kernel_rfl
theorem recInts : Tryd.prog.readableRec 28 = true := by kernel_rfl
theorem rowInts : 28 < Tryd.prog.types.size := of_decide_eq_true (by kernel_rfl)
set_option maxRecDepth 100000 in
theorem ints_shut {H : Type} {enc : TypeId × Value → H} {W W' : World} {v : Value} {d : DataW H} {ps : List MemPlace} (h : DataW.Trod enc Tryd.prog W 0 (fun _ => true) true 28 v d ps) (hb : Below W.heap.size W W') (hlt : ∀ x ∈ ps, x.block < W.heap.size) :
    DataW.Trod enc Tryd.prog W' 0 (fun b => decide (b < W.heap.size)) true 28 v d ps := Below.trod laidOutP recInts rowInts h hb hlt
end Go.Proofs.YtidhmgboknffkaaDoor
namespace Go.Proofs.YtidhmgboknffkaaDoor
open Go.ChangeShapes Go.WideShapes Go.ChangeAt Go.WideMaps Go.WideElems Go.RowKit
set_option linter.unusedVariables false
/-- Cells that the statement reads as a value of the type t are a datum of the kind T. -/
def Opn {α : Type} (T : Ty α) (t : TypeId) : Prop := ∀ {H : Type} {enc : TypeId × Value → H} {W : World} {held : Bool} {fuel : Nat} {cs : List Value} {x : DataW H × List MemPlace}, DataW.trod enc Tryd.prog W 0 (fun _ => true) held fuel t cs = some x → ∃ d, T.R W cs d ∧ T.ok d
theorem opn_int : Opn tInt 3 := by
  intro H enc W held fuel cs x h
  obtain ⟨a, e, _, _⟩ := DataW.trod_int Tryd.underlying3 h
  exact ⟨a, e, trivial⟩
theorem opn_cast {α : Type} {T : Ty α} {t : TypeId} (O : Opn T t) {H : Type} {enc : TypeId × Value → H} {W : World} {held : Bool} {fuel : Nat} {cs : List Value} {o k : Nat} {x : Option (DataW H × List MemPlace)} (hx : x.isSome) (h : DataW.trod enc Tryd.prog W 0 (fun _ => true) held fuel t ((cs.drop o).take k) = x) :
    ∃ d, T.R W ((cs.drop o).take k) d ∧ T.ok d := by
  cases x with
  | none => cases hx
  | some y => exact O h
set_option maxRecDepth 100000 in
theorem opn_slice {α : Type} {T : Ty α} (A : T.Law) {e t : TypeId} (e' : TypeId) (O : Opn T e) (hu : Tryd.prog.underlying t = some (.slice e)) (hC : Tryd.prog.cellsOf e = T.n) : Opn (tSl e' T) t := by
  intro H enc W held fuel cs x hf
  rcases Go.Deep.open_slice hu hf with ⟨rfl, _⟩ | ⟨a', len', cap', m, n, D, Pl, rfl, _, hl, hm, hmm, _, hx⟩
  · exact ⟨[], ⟨_, rfl, Or.inl ⟨rfl, none, 0, rfl⟩⟩, by simp, fun j hj => by simp at hj⟩
  · rw [if_pos rfl] at hmm
    subst hmm
    unfold maxLen at hm
    rw [hC] at hx
    have hpos := A.pos
    haveI : Inhabited α := ⟨T.d⟩
    obtain ⟨f, hf'⟩ := Go.Deep.choose_lt (α := α × List Value) (n := len') (p := fun i q => (∀ j, j < T.n → W.cell? ((a'.add (i * T.n)).add j) = q.2[j]?) ∧ T.R W q.2 q.1 ∧ T.ok q.1) (fun i hi => by
      obtain ⟨cs', h1, h2⟩ := hx i (by omega)
      obtain ⟨_, hlen, hc⟩ := World.cells?_some h1
      obtain ⟨d, hd, ho⟩ := O h2
      exact ⟨(d, cs'), hc, hd, ho⟩)
    have hat : ∀ j, j < len' → ((List.range len').map fun i => (f i).1).getD j T.d = (f j).1 := fun j hj => by simp [List.getD, hj]
    have hlen : ((List.range len').map fun i => (f i).1).length = len' := by simp
    refine ⟨(List.range len').map fun i => (f i).1, ⟨_, rfl, ?_⟩, by rw [hlen]; omega, fun j hj => by rw [hlen] at hj; rw [hat j hj]; exact (hf' j hj).2.2⟩
    by_cases h0 : len' = 0
    · subst h0
      exact Or.inl ⟨rfl, some a', _, rfl⟩
    · have h1 := (hf' 0 (by omega)).1 0 hpos
      have hcl : 0 < (f 0).2.length := by rw [A.len (hf' 0 (by omega)).2.1]; exact hpos
      rw [List.getElem?_eq_getElem hcl] at h1
      obtain ⟨b, off, spot⟩ := a'
      have hspot : spot = none := by simpa [Addr.add] using World.cell?_spot h1
      subst hspot
      refine Or.inr ⟨b, off, _, fun i => (f i).2, by rw [hlen], by rw [hlen]; exact hl, ?_, ?_⟩
      · have := World.block_lt_of_cell? W _ h1
        simpa [Addr.add] using this
      · intro j hj
        rw [hlen] at hj
        obtain ⟨g1, g2, _⟩ := hf' j hj
        rw [hat j hj]
        refine ⟨fun i hi => ?_, g2⟩
        have := g1 i hi
        rw [Go.WideShapes.add_plain, Go.WideShapes.add_plain] at this
        exact this
theorem opn_ints (e' : TypeId) : Opn (tSl e' tInt) 28 := opn_slice tInt_law e' opn_int Tryd.underlying28 (by kernel_rfl)
set_option maxRecDepth 100000 in
/-- A slice as an argument. -/
theorem slA_open {α : Type} {T : Ty α} {e e' t : TypeId} (O : Opn (tSl e' T) t) (hu : Tryd.prog.underlying t = some (.slice e)) {H : Type} {enc : TypeId × Value → H} {W : World} {r : Reach} {b0 : Nat} {v : Value} {d : DataW H} {p : List MemPlace}
    (hval : Value.okWide Tryd.prog W r b0 t v) (h : DataW.Trod enc Tryd.prog W 0 (fun _ => true) true t v d p) : ∃ xs, SlR T W v xs ∧ (tSl e' T).ok xs := by
  obtain ⟨a, len, cap, rfl⟩ := okWide_slice hu hval
  obtain ⟨fuel, hf⟩ := h
  obtain ⟨xs, ⟨v, e, h⟩, ho⟩ := O hf
  simp [Value.cells] at e
  subst e
  exact ⟨xs, h, ho⟩
set_option maxRecDepth 100000 in
/-- A struct as an argument. -/
theorem stA_open {α : Type} {T : Ty α} {t : TypeId} {fs : Array Field} (O : Opn T t) (hu : Tryd.prog.underlying t = some (.struct fs)) {H : Type} {enc : TypeId × Value → H} {W : World} {r : Reach} {b0 : Nat} {v : Value} {d : DataW H} {p : List MemPlace}
    (hval : Value.okWide Tryd.prog W r b0 t v) (h : DataW.Trod enc Tryd.prog W 0 (fun _ => true) true t v d p) : ∃ cs x, v = .agg cs.toArray ∧ T.R W cs x ∧ T.ok x := by
  obtain ⟨⟨cs⟩, rfl, hsz⟩ := okWide_struct hu hval
  obtain ⟨fuel, hf⟩ := h
  obtain ⟨x, h, ho⟩ := O hf
  exact ⟨cs, x, rfl, h, ho⟩
end Go.Proofs.YtidhmgboknffkaaDoor
namespace Go.Proofs.YtidhmgboknffkaaDoor
open Go.ChangeShapes Go.WideShapes Go.ChangeAt Go.WideMaps Go.WideElems Go.RowKit
set_option linter.unusedVariables false
set_option maxRecDepth 100000 in
theorem opn_Cond : Opn tCond 215 := by
  intro H enc W held fuel cs x h
  obtain ⟨xs, n, _, _, hl, hlen, hf⟩ := DataW.trod_struct Tryd.underlying215 h
  have hl2 : cs.length = 3 := hl.trans (by kernel_rfl)
  have hn : xs.length = 3 := hlen
  have f0 : DataW.trod enc Tryd.prog W 0 (fun _ => true) held n 3 ((cs.drop 0).take (Tryd.prog.cellsOf 3)) = xs[0]? := hf 0 _ rfl
  rw [show Tryd.prog.cellsOf 3 = 1 from by kernel_rfl] at f0
  obtain ⟨d0, r0, o0⟩ := opn_cast (opn_int) (by rw [List.getElem?_eq_getElem (by omega)]; rfl) f0
  have f1 : DataW.trod enc Tryd.prog W 0 (fun _ => true) held n 3 ((cs.drop 1).take (Tryd.prog.cellsOf 3)) = xs[1]? := hf 1 _ rfl
  rw [show Tryd.prog.cellsOf 3 = 1 from by kernel_rfl] at f1
  obtain ⟨d1, r1, o1⟩ := opn_cast (opn_int) (by rw [List.getElem?_eq_getElem (by omega)]; rfl) f1
  have f2 : DataW.trod enc Tryd.prog W 0 (fun _ => true) held n 3 ((cs.drop 2).take (Tryd.prog.cellsOf 3)) = xs[2]? := hf 2 _ rfl
  rw [show Tryd.prog.cellsOf 3 = 1 from by kernel_rfl] at f2
  obtain ⟨d2, r2, o2⟩ := opn_cast (opn_int) (by rw [List.getElem?_eq_getElem (by omega)]; rfl) f2
  exact ⟨(d0, d1, d2), ⟨(cs.drop 0).take 1, cs.drop 1, (List.take_append_drop 1 cs).symm, r0, ⟨(cs.drop 1).take 1, cs.drop 2, (List.take_append_drop 1 (cs.drop 1)).symm.trans (by simp), r1, (by have e := List.take_of_length_le (l := cs.drop 2) (i := 1) (by rw [List.length_drop]; omega); rw [e] at r2; exact r2)⟩⟩, ⟨o0, ⟨o1, o2⟩⟩⟩
end Go.Proofs.YtidhmgboknffkaaDoor
namespace Go.Proofs.YtidhmgboknffkaaDoor
open Go.ChangeShapes Go.WideShapes Go.ChangeAt Go.WideMaps Go.WideElems Go.RowKit
set_option linter.unusedVariables false
theorem opn_CondS : Opn tCondS 172 := opn_slice tCond_law _ opn_Cond Tryd.underlying172 (by kernel_rfl)
end Go.Proofs.YtidhmgboknffkaaDoor
namespace Go.Proofs.YtidhmgboknffkaaDoor
open Go.ChangeShapes Go.WideShapes Go.ChangeAt Go.WideMaps Go.WideElems Go.RowKit
set_option linter.unusedVariables false
set_option maxRecDepth 100000 in
theorem opn_Query : Opn tQuery 174 := by
  intro H enc W held fuel cs x h
  obtain ⟨xs, n, _, _, hl, hlen, hf⟩ := DataW.trod_struct Tryd.underlying174 h
  have hl2 : cs.length = 4 := hl.trans (by kernel_rfl)
  have hn : xs.length = 4 := hlen
  have f0 : DataW.trod enc Tryd.prog W 0 (fun _ => true) held n 3 ((cs.drop 0).take (Tryd.prog.cellsOf 3)) = xs[0]? := hf 0 _ rfl
  rw [show Tryd.prog.cellsOf 3 = 1 from by kernel_rfl] at f0
  obtain ⟨d0, r0, o0⟩ := opn_cast (opn_int) (by rw [List.getElem?_eq_getElem (by omega)]; rfl) f0
  have f1 : DataW.trod enc Tryd.prog W 0 (fun _ => true) held n 3 ((cs.drop 1).take (Tryd.prog.cellsOf 3)) = xs[1]? := hf 1 _ rfl
  rw [show Tryd.prog.cellsOf 3 = 1 from by kernel_rfl] at f1
  obtain ⟨d1, r1, o1⟩ := opn_cast (opn_int) (by rw [List.getElem?_eq_getElem (by omega)]; rfl) f1
  have f2 : DataW.trod enc Tryd.prog W 0 (fun _ => true) held n 172 ((cs.drop 2).take (Tryd.prog.cellsOf 172)) = xs[2]? := hf 2 _ rfl
  rw [show Tryd.prog.cellsOf 172 = 1 from by kernel_rfl] at f2
  obtain ⟨d2, r2, o2⟩ := opn_cast (opn_CondS) (by rw [List.getElem?_eq_getElem (by omega)]; rfl) f2
  have f3 : DataW.trod enc Tryd.prog W 0 (fun _ => true) held n 28 ((cs.drop 3).take (Tryd.prog.cellsOf 28)) = xs[3]? := hf 3 _ rfl
  rw [show Tryd.prog.cellsOf 28 = 1 from by kernel_rfl] at f3
  obtain ⟨d3, r3, o3⟩ := opn_cast (opn_ints 3) (by rw [List.getElem?_eq_getElem (by omega)]; rfl) f3
  exact ⟨(d0, d1, d2, d3), ⟨(cs.drop 0).take 1, cs.drop 1, (List.take_append_drop 1 cs).symm, r0, ⟨(cs.drop 1).take 1, cs.drop 2, (List.take_append_drop 1 (cs.drop 1)).symm.trans (by simp), r1, ⟨(cs.drop 2).take 1, cs.drop 3, (List.take_append_drop 1 (cs.drop 2)).symm.trans (by simp), r2, (by have e := List.take_of_length_le (l := cs.drop 3) (i := 1) (by rw [List.length_drop]; omega); rw [e] at r3; exact r3)⟩⟩⟩, ⟨o0, ⟨o1, ⟨o2, o3⟩⟩⟩⟩
end Go.Proofs.YtidhmgboknffkaaDoor
namespace Go.Proofs.YtidhmgboknffkaaDoor
open Go.ChangeShapes Go.WideShapes Go.ChangeAt Go.WideMaps Go.WideElems Go.RowKit
set_option linter.unusedVariables false
theorem opn_QueryS : Opn tQueryS 53 := opn_slice tQuery_law _ opn_Query Tryd.underlying53 (by kernel_rfl)
end Go.Proofs.YtidhmgboknffkaaDoor
namespace Go.Proofs.YtidhmgboknffkaaDoor
open Go.ChangeShapes Go.WideShapes Go.ChangeAt Go.WideMaps Go.WideElems Go.RowKit
set_option linter.unusedVariables false
set_option maxRecDepth 100000 in
theorem opn_Span : Opn tSpan 205 := by
  intro H enc W held fuel cs x h
  obtain ⟨xs, n, _, _, hl, hlen, hf⟩ := DataW.trod_struct Tryd.underlying205 h
  have hl2 : cs.length = 3 := hl.trans (by kernel_rfl)
  have hn : xs.length = 3 := hlen
  have f0 : DataW.trod enc Tryd.prog W 0 (fun _ => true) held n 3 ((cs.drop 0).take (Tryd.prog.cellsOf 3)) = xs[0]? := hf 0 _ rfl
  rw [show Tryd.prog.cellsOf 3 = 1 from by kernel_rfl] at f0
  obtain ⟨d0, r0, o0⟩ := opn_cast (opn_int) (by rw [List.getElem?_eq_getElem (by omega)]; rfl) f0
  have f1 : DataW.trod enc Tryd.prog W 0 (fun _ => true) held n 3 ((cs.drop 1).take (Tryd.prog.cellsOf 3)) = xs[1]? := hf 1 _ rfl
  rw [show Tryd.prog.cellsOf 3 = 1 from by kernel_rfl] at f1
  obtain ⟨d1, r1, o1⟩ := opn_cast (opn_int) (by rw [List.getElem?_eq_getElem (by omega)]; rfl) f1
  have f2 : DataW.trod enc Tryd.prog W 0 (fun _ => true) held n 28 ((cs.drop 2).take (Tryd.prog.cellsOf 28)) = xs[2]? := hf 2 _ rfl
  rw [show Tryd.prog.cellsOf 28 = 1 from by kernel_rfl] at f2
  obtain ⟨d2, r2, o2⟩ := opn_cast (opn_ints 3) (by rw [List.getElem?_eq_getElem (by omega)]; rfl) f2
  exact ⟨(d0, d1, d2), ⟨(cs.drop 0).take 1, cs.drop 1, (List.take_append_drop 1 cs).symm, r0, ⟨(cs.drop 1).take 1, cs.drop 2, (List.take_append_drop 1 (cs.drop 1)).symm.trans (by simp), r1, (by have e := List.take_of_length_le (l := cs.drop 2) (i := 1) (by rw [List.length_drop]; omega); rw [e] at r2; exact r2)⟩⟩, ⟨o0, ⟨o1, o2⟩⟩⟩
end Go.Proofs.YtidhmgboknffkaaDoor
namespace Go.Proofs.YtidhmgboknffkaaDoor
open Go.ChangeShapes Go.WideShapes Go.ChangeAt Go.WideMaps Go.WideElems Go.RowKit
set_option linter.unusedVariables false
theorem opn_SpanS : Opn tSpanS 176 := opn_slice tSpan_law _ opn_Span Tryd.underlying176 (by kernel_rfl)
end Go.Proofs.YtidhmgboknffkaaDoor
namespace Go.Proofs.YtidhmgboknffkaaDoor
open Go.ChangeShapes Go.WideShapes Go.ChangeAt Go.WideMaps Go.WideElems Go.RowKit
set_option linter.unusedVariables false
theorem opn_SpanSS : Opn tSpanSS 54 := opn_slice tSpanS_law _ opn_SpanS Tryd.underlying54 (by kernel_rfl)
end Go.Proofs.YtidhmgboknffkaaDoor
namespace Go.Proofs.YtidhmgboknffkaaDoor
open Go.ChangeShapes Go.WideShapes Go.ChangeAt Go.WideMaps Go.WideElems Go.RowKit
set_option linter.unusedVariables false
theorem recT_Index : Tryd.prog.readableRec 56 = true := by kernel_rfl
theorem rowT_Index : 56 < Tryd.prog.types.size := of_decide_eq_true (by kernel_rfl)
set_option maxRecDepth 100000 in
theorem opn_Index : Opn tIndex 56 := by
  intro H enc W held fuel cs x h
  obtain ⟨xs, n, _, _, hl, hlen, hf⟩ := DataW.trod_struct Tryd.underlying56 h
  have hl2 : cs.length = 2 := hl.trans (by kernel_rfl)
  have hn : xs.length = 2 := hlen
  have f0 : DataW.trod enc Tryd.prog W 0 (fun _ => true) held n 53 ((cs.drop 0).take (Tryd.prog.cellsOf 53)) = xs[0]? := hf 0 _ rfl
  rw [show Tryd.prog.cellsOf 53 = 1 from by kernel_rfl] at f0
  obtain ⟨d0, r0, o0⟩ := opn_cast (opn_QueryS) (by rw [List.getElem?_eq_getElem (by omega)]; rfl) f0
  have f1 : DataW.trod enc Tryd.prog W 0 (fun _ => true) held n 54 ((cs.drop 1).take (Tryd.prog.cellsOf 54)) = xs[1]? := hf 1 _ rfl
  rw [show Tryd.prog.cellsOf 54 = 1 from by kernel_rfl] at f1
  obtain ⟨d1, r1, o1⟩ := opn_cast (opn_SpanSS) (by rw [List.getElem?_eq_getElem (by omega)]; rfl) f1
  exact ⟨(d0, d1), ⟨(cs.drop 0).take 1, cs.drop 1, (List.take_append_drop 1 cs).symm, r0, (by have e := List.take_of_length_le (l := cs.drop 1) (i := 1) (by rw [List.length_drop]; omega); rw [e] at r1; exact r1)⟩, ⟨o0, o1⟩⟩
set_option maxRecDepth 100000 in
theorem shut_Index {H : Type} {enc : TypeId × Value → H} {W W' : World} {v : Value} {d : DataW H} {ps : List MemPlace} (h : DataW.Trod enc Tryd.prog W 0 (fun _ => true) true 56 v d ps) (hb : Below W.heap.size W W') (hlt : ∀ x ∈ ps, x.block < W.heap.size) :
    DataW.Trod enc Tryd.prog W' 0 (fun b => decide (b < W.heap.size)) true 56 v d ps := Below.trod laidOutP recT_Index rowT_Index h hb hlt
end Go.Proofs.YtidhmgboknffkaaDoor
namespace Go.Proofs.YtidhmgboknffkaaDoor
open Go.ChangeShapes Go.WideShapes Go.ChangeAt Go.WideMaps Go.WideElems Go.RowKit
set_option linter.unusedVariables false
theorem recT_Row : Tryd.prog.readableRec 57 = true := by kernel_rfl
theorem rowT_Row : 57 < Tryd.prog.types.size := of_decide_eq_true (by kernel_rfl)
set_option maxRecDepth 100000 in
theorem opn_Row : Opn tRow 57 := by
  intro H enc W held fuel cs x h
  obtain ⟨xs, n, _, _, hl, hlen, hf⟩ := DataW.trod_struct Tryd.underlying57 h
  have hl2 : cs.length = 2 := hl.trans (by kernel_rfl)
  have hn : xs.length = 2 := hlen
  have f0 : DataW.trod enc Tryd.prog W 0 (fun _ => true) held n 3 ((cs.drop 0).take (Tryd.prog.cellsOf 3)) = xs[0]? := hf 0 _ rfl
  rw [show Tryd.prog.cellsOf 3 = 1 from by kernel_rfl] at f0
  obtain ⟨d0, r0, o0⟩ := opn_cast (opn_int) (by rw [List.getElem?_eq_getElem (by omega)]; rfl) f0
  have f1 : DataW.trod enc Tryd.prog W 0 (fun _ => true) held n 28 ((cs.drop 1).take (Tryd.prog.cellsOf 28)) = xs[1]? := hf 1 _ rfl
  rw [show Tryd.prog.cellsOf 28 = 1 from by kernel_rfl] at f1
  obtain ⟨d1, r1, o1⟩ := opn_cast (opn_ints 3) (by rw [List.getElem?_eq_getElem (by omega)]; rfl) f1
  exact ⟨(d0, d1), ⟨(cs.drop 0).take 1, cs.drop 1, (List.take_append_drop 1 cs).symm, r0, (by have e := List.take_of_length_le (l := cs.drop 1) (i := 1) (by rw [List.length_drop]; omega); rw [e] at r1; exact r1)⟩, ⟨o0, o1⟩⟩
set_option maxRecDepth 100000 in
theorem shut_Row {H : Type} {enc : TypeId × Value → H} {W W' : World} {v : Value} {d : DataW H} {ps : List MemPlace} (h : DataW.Trod enc Tryd.prog W 0 (fun _ => true) true 57 v d ps) (hb : Below W.heap.size W W') (hlt : ∀ x ∈ ps, x.block < W.heap.size) :
    DataW.Trod enc Tryd.prog W' 0 (fun b => decide (b < W.heap.size)) true 57 v d ps := Below.trod laidOutP recT_Row rowT_Row h hb hlt
end Go.Proofs.YtidhmgboknffkaaDoor
namespace Go.Proofs.YtidhmgboknffkaaDoor
open Go.ChangeShapes Go.WideShapes Go.ChangeAt Go.WideMaps Go.WideElems Go.RowKit
set_option linter.unusedVariables false
theorem recT_RowS : Tryd.prog.readableRec 70 = true := by kernel_rfl
theorem rowT_RowS : 70 < Tryd.prog.types.size := of_decide_eq_true (by kernel_rfl)
theorem opn_RowS : Opn tRowS 70 := opn_slice tRow_law _ opn_Row Tryd.underlying70 (by kernel_rfl)
set_option maxRecDepth 100000 in
theorem shut_RowS {H : Type} {enc : TypeId × Value → H} {W W' : World} {v : Value} {d : DataW H} {ps : List MemPlace} (h : DataW.Trod enc Tryd.prog W 0 (fun _ => true) true 70 v d ps) (hb : Below W.heap.size W W') (hlt : ∀ x ∈ ps, x.block < W.heap.size) :
    DataW.Trod enc Tryd.prog W' 0 (fun b => decide (b < W.heap.size)) true 70 v d ps := Below.trod laidOutP recT_RowS rowT_RowS h hb hlt
end Go.Proofs.YtidhmgboknffkaaDoor
