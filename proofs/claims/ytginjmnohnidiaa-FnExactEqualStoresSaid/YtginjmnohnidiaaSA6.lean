/-
  Texts of the proof, merged: LawEqualStores, LawIsStore.
-/
import Derived.Test.YtginjmnohnidiaaSA5
namespace Go.Proofs.Ytginjmnohnidiaa
open Go.RowKit
set_option linter.unusedVariables false
set_option linter.unusedSimpArgs false
set_option maxHeartbeats 32000000 in
set_option maxRecDepth 100000 in
theorem law_fnExactEqualStores (a0_1 : Int) (v0_0 : Value) (x0_0 : List (List (Int × List Int × Int × Int))) (a1_1 : Int) (v1_0 : Value) (x1_0 : List (List (Int × List Int × Int × Int))) (r0 : Bool) (w : World) (h0_0 : SlR tVersionS w v0_0 x0_0) (h1_0 : SlR tVersionS w v1_0 x1_0) (o0_0 : tVersionSS.ok x0_0) (o1_0 : tVersionSS.ok x1_0) 
    (hspec : ∀ (v0_0 v1_0 : Value) (w : World), SlR tVersionS w v0_0 x0_0 → SlR tVersionS w v1_0 x1_0 → zL tVersionS x0_0 + zL tVersionS x1_0 ≤ 1048576 → Calls Try.prog 45 #[.agg #[v0_0, .int .i64 a0_1], .agg #[v1_0, .int .i64 a1_1]] w (fun e w' => e = .returned (.bool r0) ∧ Below w.heap.size w w'))
    (himpl : ∀ (v0_0 v1_0 : Value) (w : World), SlR tVersionS w v0_0 x0_0 → SlR tVersionS w v1_0 x1_0 → zL tVersionS x0_0 + zL tVersionS x1_0 ≤ 1048576 → Calls Try.prog 46 #[.agg #[v0_0, .int .i64 a0_1], .agg #[v1_0, .int .i64 a1_1]] w (fun e w' => e = .returned (.bool r0) ∧ Below w.heap.size w w')) :
    Calls Try.prog 11 #[.agg #[v0_0, .int .i64 a0_1], .agg #[v1_0, .int .i64 a1_1]] w fun e w' => e = .returned (.bool true) ∧ Below w.heap.size w w' := by
  obtain ⟨c0_0, k0_0, rfl⟩ := slR_len h0_0
  obtain ⟨c1_0, k1_0, rfl⟩ := slR_len h1_0
  have HB0 : Hid (Below w.heap.size w ((w.alloc (.cells #[.slice c0_0 x0_0.length k0_0, .int .i64 a0_1] 53)).alloc (.cells #[.slice c1_0 x1_0.length k1_0, .int .i64 a1_1] 53))) := Lib.hid (((Below.refl _ w).alloc (Nat.le_refl _) _).alloc (by simp) _)
  have B0 : Hid (((w.alloc (.cells #[.slice c0_0 x0_0.length k0_0, .int .i64 a0_1] 53)).alloc (.cells #[.slice c1_0 x1_0.length k1_0, .int .i64 a1_1] 53)).heap[w.heap.size]? = some (.cells #[.slice c0_0 x0_0.length k0_0, .int .i64 a0_1] 53 (0, 0))) := Lib.hid (by rw [Below.heap_alloc _ _ _ (by simp <;> omega)]; have := heap_alloc_new w (.cells #[.slice c0_0 x0_0.length k0_0, .int .i64 a0_1] 53); simpa only [World.size_alloc] using this)
  have B1 : Hid (((w.alloc (.cells #[.slice c0_0 x0_0.length k0_0, .int .i64 a0_1] 53)).alloc (.cells #[.slice c1_0 x1_0.length k1_0, .int .i64 a1_1] 53)).heap[(w.heap.size + 1)]? = some (.cells #[.slice c1_0 x1_0.length k1_0, .int .i64 a1_1] 53 (0, 0))) := Lib.hid (by have := heap_alloc_new (w.alloc (.cells #[.slice c0_0 x0_0.length k0_0, .int .i64 a0_1] 53)) (.cells #[.slice c1_0 x1_0.length k1_0, .int .i64 a1_1] 53); simpa only [World.size_alloc] using this)
  have A0_0 : Hid (SlR tVersionS ((w.alloc (.cells #[.slice c0_0 x0_0.length k0_0, .int .i64 a0_1] 53)).alloc (.cells #[.slice c1_0 x1_0.length k1_0, .int .i64 a1_1] 53)) (.slice c0_0 x0_0.length k0_0) x0_0) := Lib.hid (slR_below tVersionS_law h0_0 HB0.out)
  have A1_0 : Hid (SlR tVersionS ((w.alloc (.cells #[.slice c0_0 x0_0.length k0_0, .int .i64 a0_1] 53)).alloc (.cells #[.slice c1_0 x1_0.length k1_0, .int .i64 a1_1] 53)) (.slice c1_0 x1_0.length k1_0) x1_0) := Lib.hid (slR_below tVersionS_law h1_0 HB0.out)
  have O0_0 := Lib.hid o0_0
  have O1_0 := Lib.hid o1_0
  clear h0_0 o0_0 h1_0 o1_0
  have HSP := Lib.hid hspec
  have HIM := Lib.hid himpl
  clear hspec himpl
  by_cases c0 : ((zL tVersionS x0_0 : Nat) : Int) ≤ (1048576 : Int)
  ·
    by_cases c1 : ((zL tVersionS x1_0 : Nat) : Int) ≤ (1048576 : Int) - ((zL tVersionS x0_0 : Nat) : Int)
    ·
      have HZ0 : Hid (((zL tVersionS x0_0 : Nat) : Int) ≤ (1048576 : Int)) := Lib.hid c0
      have HK0 : Hid ((1048576 : Int) ≤ 1048576) := Lib.hid (by omega)
      have hn0 : ¬ (1048576 : Int) - ((zL tVersionS x0_0 : Nat) : Int) < 0 := by omega
      have HZ1 : Hid (((zL tVersionS x1_0 : Nat) : Int) ≤ (1048576 : Int) - ((zL tVersionS x0_0 : Nat) : Int)) := Lib.hid c1
      have HK1 : Hid ((1048576 : Int) - ((zL tVersionS x0_0 : Nat) : Int) ≤ 1048576) := Lib.hid (by omega)
      have hn1 : ¬ (1048576 : Int) - ((zL tVersionS x0_0 : Nat) : Int) - ((zL tVersionS x1_0 : Nat) : Int) < 0 := by omega
      have HT : Hid (zL tVersionS x0_0 + zL tVersionS x1_0 ≤ 1048576) := Lib.hid (by omega)
      have S0_0 : Hid (zL tVersionS x0_0 ≤ 1048576) := Lib.hid (by omega)
      have S1_0 : Hid (zL tVersionS x1_0 ≤ 1048576) := Lib.hid (by omega)
      have N0_0 := ndL_le tVersionS_law (by decide) x0_0
      have N1_0 := ndL_le tVersionS_law (by decide) x1_0
      clear N0_0 N1_0
      have e0 : (r0 != r0) = false := by simp
      clear c0 c1
      go_enter Try.func11, Try.ntmps11
      go_wp2_with fail
      have Y_W : Hid (w.heap.size + 2 ≤ ((w.alloc (.cells #[.slice c0_0 x0_0.length k0_0, .int .i64 a0_1] 53)).alloc (.cells #[.slice c1_0 x1_0.length k1_0, .int .i64 a1_1] 53)).heap.size) := Lib.hid (by simp [World.size_alloc])
      generalize ((w.alloc (.cells #[.slice c0_0 x0_0.length k0_0, .int .i64 a0_1] 53)).alloc (.cells #[.slice c1_0 x1_0.length k1_0, .int .i64 a1_1] 53)) = W at *
      have d := Lib.hid (Below.refl W.heap.size W)
      refine (szStore_Y a0_1 (.slice c0_0 x0_0.length k0_0) x0_0 ((1048576 : Int)) W (slR_below tVersionS_law A0_0.out d.out) HZ0.out HK0.out).mono ?_
      rintro e v1 ⟨rfl, c1⟩
      replace B0 := Lib.hid ((c1.block w.heap.size (Array.getElem?_eq_some_iff.1 B0.out).1).trans B0.out)
      replace B1 := Lib.hid ((c1.block (w.heap.size + 1) (Array.getElem?_eq_some_iff.1 B1.out).1).trans B1.out)
      replace d := Lib.hid (d.out.trans (c1.mono d.out.size))
      have Z_v1 := Lib.hid (show W.heap.size ≤ v1.heap.size from c1.size)
      clear c1
      have p_B1_0 := (cell_of_row v1 _ 0 _ _ _ B1.out).trans (show _ = some (Value.slice c1_0 x1_0.length k1_0) from rfl)
      have p_B1_1 := (cell_of_row v1 _ 1 _ _ _ B1.out).trans (show _ = some (Value.int .i64 a1_1) from rfl)
      go_wp2_with fail
      clear p_B1_0 p_B1_1
      refine (szStore_Y a1_1 (.slice c1_0 x1_0.length k1_0) x1_0 ((1048576 : Int) - ((zL tVersionS x0_0 : Nat) : Int)) v1 (slR_below tVersionS_law A1_0.out d.out) HZ1.out HK1.out).mono ?_
      rintro e v2 ⟨rfl, c2⟩
      replace B0 := Lib.hid ((c2.block w.heap.size (Array.getElem?_eq_some_iff.1 B0.out).1).trans B0.out)
      replace B1 := Lib.hid ((c2.block (w.heap.size + 1) (Array.getElem?_eq_some_iff.1 B1.out).1).trans B1.out)
      replace d := Lib.hid (d.out.trans (c2.mono d.out.size))
      have Z_v2 := Lib.hid (show v1.heap.size ≤ v2.heap.size from c2.size)
      clear c2
      go_wp2
      have p_B0_0 := (cell_of_row v2 _ 0 _ _ _ B0.out).trans (show _ = some (Value.slice c0_0 x0_0.length k0_0) from rfl)
      have p_B0_1 := (cell_of_row v2 _ 1 _ _ _ B0.out).trans (show _ = some (Value.int .i64 a0_1) from rfl)
      have p_B1_0 := (cell_of_row v2 _ 0 _ _ _ B1.out).trans (show _ = some (Value.slice c1_0 x1_0.length k1_0) from rfl)
      have p_B1_1 := (cell_of_row v2 _ 1 _ _ _ B1.out).trans (show _ = some (Value.int .i64 a1_1) from rfl)
      refine wp_region_held_drew (S := fun w' => w'.cell? ⟨w.heap.size, 0, none⟩ = some (Value.slice c0_0 x0_0.length k0_0) ∧ w'.cell? ⟨w.heap.size, 1, none⟩ = some (Value.int .i64 a0_1) ∧ w'.cell? ⟨(w.heap.size + 1), 0, none⟩ = some (Value.slice c1_0 x1_0.length k1_0) ∧ w'.cell? ⟨(w.heap.size + 1), 1, none⟩ = some (Value.int .i64 a1_1)) (by kernel_rfl) ⟨p_B0_0, p_B0_1, p_B1_0, p_B1_1⟩ (fun hHeld => ?_)
      clear p_B0_0 p_B0_1 p_B1_0 p_B1_1
      have cd3 : Below v2.heap.size v2 v2.drew := below_drew (Below.refl _ _)
      replace B0 := Lib.hid ((cd3.block w.heap.size (Array.getElem?_eq_some_iff.1 B0.out).1).trans B0.out)
      replace B1 := Lib.hid ((cd3.block (w.heap.size + 1) (Array.getElem?_eq_some_iff.1 B1.out).1).trans B1.out)
      replace d := Lib.hid (d.out.trans (cd3.mono d.out.size))
      clear cd3
      refine take_runs (i := 0) (v := ?_) (by simp only [List.getElem?_toArray, List.getElem?_cons_succ, List.getElem?_cons_zero]; rfl) (by kernel_rfl) (by kernel_rfl) (by kernel_rfl) rfl (by exact fun _ _ _ h => h) (by rfl) ?_ (by assumption) ?_
      rotate_left
      · intro w hSw; (try dsimp only at hSw); go_simp; try (with_reducible rfl)
      try simp only [Act.put, List.setIfInBounds_toArray, List.set_cons_zero, List.set_cons_succ]
      refine take_runs (i := 2) (v := ?_) (by simp only [List.getElem?_toArray, List.getElem?_cons_succ, List.getElem?_cons_zero]; rfl) (by kernel_rfl) (by kernel_rfl) (by kernel_rfl) rfl (by exact fun _ _ _ h => h) (by rfl) ?_ (by assumption) ?_
      rotate_left
      · intro w hSw; (try dsimp only at hSw); go_simp; try (with_reducible rfl)
      try simp only [Act.put, List.setIfInBounds_toArray, List.set_cons_zero, List.set_cons_succ]
      refine wpAnyH_ready (rs := [1]) (by kernel_rfl) (by simp) ?_
      refine AllReadyH.cons (o := _) (by simp only [List.getElem?_toArray, List.getElem?_cons_succ, List.getElem?_cons_zero]; rfl) (fun K hK => ?_) AllReadyH.nil
      go_simp
      refine (toStore_T a0_1 (.slice c0_0 x0_0.length k0_0) x0_0 (v2.drew) (slR_below tVersionS_law A0_0.out d.out) S0_0.out).mono ?_
      rintro e v4 ⟨cs, rfl, ow, c4⟩
      replace B0 := Lib.hid ((c4.block w.heap.size (Array.getElem?_eq_some_iff.1 B0.out).1).trans B0.out)
      replace B1 := Lib.hid ((c4.block (w.heap.size + 1) (Array.getElem?_eq_some_iff.1 B1.out).1).trans B1.out)
      replace d := Lib.hid (d.out.trans (c4.mono d.out.size))
      have Z_v4 := Lib.hid (show v2.heap.size ≤ v4.heap.size from c4.size)
      clear c4
      replace ow := tStore_law.lt ow
      obtain ⟨y4_0, K4_0, rfl, p4_0, w4_0⟩ := tStore_O ow
      obtain ⟨ya4_0, yc4_0, rfl⟩ := slO_len p4_0
      have P4_0 := Lib.hid p4_0
      have Q4_0 := Lib.hid (fun b h => (show (v2.drew).heap.size ≤ b ∧ b < v4.heap.size from w4_0 b h))
      clear p4_0 w4_0 ow
      have p_B0_0 := (cell_of_row v4 _ 0 _ _ _ B0.out).trans (show _ = some (Value.slice c0_0 x0_0.length k0_0) from rfl)
      have p_B0_1 := (cell_of_row v4 _ 1 _ _ _ B0.out).trans (show _ = some (Value.int .i64 a0_1) from rfl)
      have p_B1_0 := (cell_of_row v4 _ 0 _ _ _ B1.out).trans (show _ = some (Value.slice c1_0 x1_0.length k1_0) from rfl)
      have p_B1_1 := (cell_of_row v4 _ 1 _ _ _ B1.out).trans (show _ = some (Value.int .i64 a1_1) from rfl)
      refine hK.out _ _ ⟨p_B0_0, p_B0_1, p_B1_0, p_B1_1⟩ (fun hHeld => ?_)
      clear p_B0_0 p_B0_1 p_B1_0 p_B1_1
      clear hK K
      try simp only [Act.put, List.setIfInBounds_toArray, List.set_cons_zero, List.set_cons_succ]
      refine wpAnyH_ready (rs := [3]) (by kernel_rfl) (by simp) ?_
      refine AllReadyH.cons (o := _) (by simp only [List.getElem?_toArray, List.getElem?_cons_succ, List.getElem?_cons_zero]; rfl) (fun K hK => ?_) AllReadyH.nil
      go_simp
      refine (toStore_T a1_1 (.slice c1_0 x1_0.length k1_0) x1_0 v4 (slR_below tVersionS_law A1_0.out d.out) S1_0.out).mono ?_
      rintro e v5 ⟨cs, rfl, ow, c5⟩
      replace B0 := Lib.hid ((c5.block w.heap.size (Array.getElem?_eq_some_iff.1 B0.out).1).trans B0.out)
      replace B1 := Lib.hid ((c5.block (w.heap.size + 1) (Array.getElem?_eq_some_iff.1 B1.out).1).trans B1.out)
      replace P4_0 := Lib.hid (slO_fresh tVersionS_law P4_0.out c5)
      replace d := Lib.hid (d.out.trans (c5.mono d.out.size))
      have Z_v5 := Lib.hid (show v4.heap.size ≤ v5.heap.size from c5.size)
      clear c5
      replace ow := tStore_law.lt ow
      obtain ⟨y5_0, K5_0, rfl, p5_0, w5_0⟩ := tStore_O ow
      obtain ⟨ya5_0, yc5_0, rfl⟩ := slO_len p5_0
      have P5_0 := Lib.hid p5_0
      have Q5_0 := Lib.hid (fun b h => (show v4.heap.size ≤ b ∧ b < v5.heap.size from w5_0 b h))
      clear p5_0 w5_0 ow
      have p_B0_0 := (cell_of_row v5 _ 0 _ _ _ B0.out).trans (show _ = some (Value.slice c0_0 x0_0.length k0_0) from rfl)
      have p_B0_1 := (cell_of_row v5 _ 1 _ _ _ B0.out).trans (show _ = some (Value.int .i64 a0_1) from rfl)
      have p_B1_0 := (cell_of_row v5 _ 0 _ _ _ B1.out).trans (show _ = some (Value.slice c1_0 x1_0.length k1_0) from rfl)
      have p_B1_1 := (cell_of_row v5 _ 1 _ _ _ B1.out).trans (show _ = some (Value.int .i64 a1_1) from rfl)
      refine hK.out _ _ ⟨p_B0_0, p_B0_1, p_B1_0, p_B1_1⟩ (fun hHeld => ?_)
      clear p_B0_0 p_B0_1 p_B1_0 p_B1_1
      clear hK K
      try simp only [Act.put, List.setIfInBounds_toArray, List.set_cons_zero, List.set_cons_succ]
      refine wpAnyH_ready (rs := [4]) (by kernel_rfl) (by simp) ?_
      refine AllReadyH.cons (o := _) (by simp only [List.getElem?_toArray, List.getElem?_cons_succ, List.getElem?_cons_zero]; rfl) (fun K hK => ?_) AllReadyH.nil
      go_simp
      refine (HSP.out (.slice ya4_0 x0_0.length yc4_0) (.slice ya5_0 x1_0.length yc5_0) v5 (slO_reads tVersionS_law P4_0.out) (slO_reads tVersionS_law P5_0.out) HT.out ).mono ?_
      rintro e v6 ⟨rfl, c6⟩
      replace B0 := Lib.hid ((c6.block w.heap.size (Array.getElem?_eq_some_iff.1 B0.out).1).trans B0.out)
      replace B1 := Lib.hid ((c6.block (w.heap.size + 1) (Array.getElem?_eq_some_iff.1 B1.out).1).trans B1.out)
      replace P4_0 := Lib.hid (slO_fresh tVersionS_law P4_0.out c6)
      replace P5_0 := Lib.hid (slO_fresh tVersionS_law P5_0.out c6)
      replace d := Lib.hid (d.out.trans (c6.mono d.out.size))
      have Z_v6 := Lib.hid (show v5.heap.size ≤ v6.heap.size from c6.size)
      clear c6
      have p_B0_0 := (cell_of_row v6 _ 0 _ _ _ B0.out).trans (show _ = some (Value.slice c0_0 x0_0.length k0_0) from rfl)
      have p_B0_1 := (cell_of_row v6 _ 1 _ _ _ B0.out).trans (show _ = some (Value.int .i64 a0_1) from rfl)
      have p_B1_0 := (cell_of_row v6 _ 0 _ _ _ B1.out).trans (show _ = some (Value.slice c1_0 x1_0.length k1_0) from rfl)
      have p_B1_1 := (cell_of_row v6 _ 1 _ _ _ B1.out).trans (show _ = some (Value.int .i64 a1_1) from rfl)
      refine hK.out _ _ ⟨p_B0_0, p_B0_1, p_B1_0, p_B1_1⟩ (fun hHeld => ?_)
      clear p_B0_0 p_B0_1 p_B1_0 p_B1_1
      clear hK K
      try simp only [Act.put, List.setIfInBounds_toArray, List.set_cons_zero, List.set_cons_succ]
      refine take_runs (i := 5) (v := ?_) (by simp only [List.getElem?_toArray, List.getElem?_cons_succ, List.getElem?_cons_zero]; rfl) (by kernel_rfl) (by kernel_rfl) (by kernel_rfl) rfl (by exact fun _ _ _ h => h) (by rfl) ?_ (by assumption) ?_
      rotate_left
      · intro w hSw; (try dsimp only at hSw); go_simp; try (with_reducible rfl)
      try simp only [Act.put, List.setIfInBounds_toArray, List.set_cons_zero, List.set_cons_succ]
      refine wpAnyH_done (by kernel_rfl) ?_ _
      clear hHeld
      have p_B0_0 := (cell_of_row v6 _ 0 _ _ _ B0.out).trans (show _ = some (Value.slice c0_0 x0_0.length k0_0) from rfl)
      have p_B0_1 := (cell_of_row v6 _ 1 _ _ _ B0.out).trans (show _ = some (Value.int .i64 a0_1) from rfl)
      go_wp2_with fail
      clear p_B0_0 p_B0_1
      refine (toStore_T a0_1 (.slice c0_0 x0_0.length k0_0) x0_0 v6 (slR_below tVersionS_law A0_0.out d.out) S0_0.out).mono ?_
      rintro e v7 ⟨cs, rfl, ow, c7⟩
      replace B0 := Lib.hid ((c7.block w.heap.size (Array.getElem?_eq_some_iff.1 B0.out).1).trans B0.out)
      replace B1 := Lib.hid ((c7.block (w.heap.size + 1) (Array.getElem?_eq_some_iff.1 B1.out).1).trans B1.out)
      replace P4_0 := Lib.hid (slO_fresh tVersionS_law P4_0.out c7)
      replace P5_0 := Lib.hid (slO_fresh tVersionS_law P5_0.out c7)
      replace d := Lib.hid (d.out.trans (c7.mono d.out.size))
      have Z_v7 := Lib.hid (show v6.heap.size ≤ v7.heap.size from c7.size)
      clear c7
      replace ow := tStore_law.lt ow
      obtain ⟨y7_0, K7_0, rfl, p7_0, w7_0⟩ := tStore_O ow
      obtain ⟨ya7_0, yc7_0, rfl⟩ := slO_len p7_0
      have P7_0 := Lib.hid p7_0
      have Q7_0 := Lib.hid (fun b h => (show v6.heap.size ≤ b ∧ b < v7.heap.size from w7_0 b h))
      clear p7_0 w7_0 ow
      have hal : Below v7.heap.size v7 (v7.alloc (.cells #[.slice ya7_0 x0_0.length yc7_0, .int .i64 a0_1] 45)) := (Below.refl _ _).alloc (Nat.le_refl _) _
      have X1 := Lib.hid (heap_alloc_new v7 (.cells #[.slice ya7_0 x0_0.length yc7_0, .int .i64 a0_1] 45))
      have Y_X1 := Lib.hid (show v7.heap.size < (v7.alloc (.cells #[.slice ya7_0 x0_0.length yc7_0, .int .i64 a0_1] 45)).heap.size by simp [World.size_alloc])
      replace B0 := Lib.hid ((hal.block w.heap.size (Array.getElem?_eq_some_iff.1 B0.out).1).trans B0.out)
      replace B1 := Lib.hid ((hal.block (w.heap.size + 1) (Array.getElem?_eq_some_iff.1 B1.out).1).trans B1.out)
      replace P4_0 := Lib.hid (slO_fresh tVersionS_law P4_0.out hal)
      replace P5_0 := Lib.hid (slO_fresh tVersionS_law P5_0.out hal)
      replace P7_0 := Lib.hid (slO_fresh tVersionS_law P7_0.out hal)
      replace d := Lib.hid (d.out.trans (hal.mono d.out.size))
      clear hal
      have p_B1_0 := (cell_of_row (v7.alloc (.cells #[.slice ya7_0 x0_0.length yc7_0, .int .i64 a0_1] 45)) _ 0 _ _ _ B1.out).trans (show _ = some (Value.slice c1_0 x1_0.length k1_0) from rfl)
      have p_B1_1 := (cell_of_row (v7.alloc (.cells #[.slice ya7_0 x0_0.length yc7_0, .int .i64 a0_1] 45)) _ 1 _ _ _ B1.out).trans (show _ = some (Value.int .i64 a1_1) from rfl)
      go_wp2_with fail
      clear p_B1_0 p_B1_1
      generalize (v7.alloc (.cells #[.slice ya7_0 x0_0.length yc7_0, .int .i64 a0_1] 45)) = u8 at *
      refine (toStore_T a1_1 (.slice c1_0 x1_0.length k1_0) x1_0 u8 (slR_below tVersionS_law A1_0.out d.out) S1_0.out).mono ?_
      rintro e v9 ⟨cs, rfl, ow, c9⟩
      replace B0 := Lib.hid ((c9.block w.heap.size (Array.getElem?_eq_some_iff.1 B0.out).1).trans B0.out)
      replace B1 := Lib.hid ((c9.block (w.heap.size + 1) (Array.getElem?_eq_some_iff.1 B1.out).1).trans B1.out)
      replace X1 := Lib.hid ((c9.block v7.heap.size (Array.getElem?_eq_some_iff.1 X1.out).1).trans X1.out)
      replace P4_0 := Lib.hid (slO_fresh tVersionS_law P4_0.out c9)
      replace P5_0 := Lib.hid (slO_fresh tVersionS_law P5_0.out c9)
      replace P7_0 := Lib.hid (slO_fresh tVersionS_law P7_0.out c9)
      replace d := Lib.hid (d.out.trans (c9.mono d.out.size))
      have Z_v9 := Lib.hid (show u8.heap.size ≤ v9.heap.size from c9.size)
      clear c9
      replace ow := tStore_law.lt ow
      obtain ⟨y9_0, K9_0, rfl, p9_0, w9_0⟩ := tStore_O ow
      obtain ⟨ya9_0, yc9_0, rfl⟩ := slO_len p9_0
      have P9_0 := Lib.hid p9_0
      have Q9_0 := Lib.hid (fun b h => (show u8.heap.size ≤ b ∧ b < v9.heap.size from w9_0 b h))
      clear p9_0 w9_0 ow
      have hal : Below v9.heap.size v9 (v9.alloc (.cells #[.slice ya9_0 x1_0.length yc9_0, .int .i64 a1_1] 45)) := (Below.refl _ _).alloc (Nat.le_refl _) _
      have X2 := Lib.hid (heap_alloc_new v9 (.cells #[.slice ya9_0 x1_0.length yc9_0, .int .i64 a1_1] 45))
      have Y_X2 := Lib.hid (show v9.heap.size < (v9.alloc (.cells #[.slice ya9_0 x1_0.length yc9_0, .int .i64 a1_1] 45)).heap.size by simp [World.size_alloc])
      replace B0 := Lib.hid ((hal.block w.heap.size (Array.getElem?_eq_some_iff.1 B0.out).1).trans B0.out)
      replace B1 := Lib.hid ((hal.block (w.heap.size + 1) (Array.getElem?_eq_some_iff.1 B1.out).1).trans B1.out)
      replace X1 := Lib.hid ((hal.block v7.heap.size (Array.getElem?_eq_some_iff.1 X1.out).1).trans X1.out)
      replace P4_0 := Lib.hid (slO_fresh tVersionS_law P4_0.out hal)
      replace P5_0 := Lib.hid (slO_fresh tVersionS_law P5_0.out hal)
      replace P7_0 := Lib.hid (slO_fresh tVersionS_law P7_0.out hal)
      replace P9_0 := Lib.hid (slO_fresh tVersionS_law P9_0.out hal)
      replace d := Lib.hid (d.out.trans (hal.mono d.out.size))
      clear hal
      have p_X1_0 := (cell_of_row (v9.alloc (.cells #[.slice ya9_0 x1_0.length yc9_0, .int .i64 a1_1] 45)) _ 0 _ _ _ X1.out).trans (show _ = some (Value.slice ya7_0 x0_0.length yc7_0) from rfl)
      have p_X1_1 := (cell_of_row (v9.alloc (.cells #[.slice ya9_0 x1_0.length yc9_0, .int .i64 a1_1] 45)) _ 1 _ _ _ X1.out).trans (show _ = some (Value.int .i64 a0_1) from rfl)
      have p_X2_0 := (cell_of_row (v9.alloc (.cells #[.slice ya9_0 x1_0.length yc9_0, .int .i64 a1_1] 45)) _ 0 _ _ _ X2.out).trans (show _ = some (Value.slice ya9_0 x1_0.length yc9_0) from rfl)
      have p_X2_1 := (cell_of_row (v9.alloc (.cells #[.slice ya9_0 x1_0.length yc9_0, .int .i64 a1_1] 45)) _ 1 _ _ _ X2.out).trans (show _ = some (Value.int .i64 a1_1) from rfl)
      go_wp2_with fail
      clear p_X1_0 p_X1_1 p_X2_0 p_X2_1
      generalize (v9.alloc (.cells #[.slice ya9_0 x1_0.length yc9_0, .int .i64 a1_1] 45)) = u10 at *
      refine (HIM.out (.slice ya7_0 x0_0.length yc7_0) (.slice ya9_0 x1_0.length yc9_0) u10 (slO_reads tVersionS_law P7_0.out) (slO_reads tVersionS_law P9_0.out) HT.out ).mono ?_
      rintro e v11 ⟨rfl, c11⟩
      replace B0 := Lib.hid ((c11.block w.heap.size (Array.getElem?_eq_some_iff.1 B0.out).1).trans B0.out)
      replace B1 := Lib.hid ((c11.block (w.heap.size + 1) (Array.getElem?_eq_some_iff.1 B1.out).1).trans B1.out)
      replace X1 := Lib.hid ((c11.block v7.heap.size (Array.getElem?_eq_some_iff.1 X1.out).1).trans X1.out)
      replace X2 := Lib.hid ((c11.block v9.heap.size (Array.getElem?_eq_some_iff.1 X2.out).1).trans X2.out)
      replace P4_0 := Lib.hid (slO_fresh tVersionS_law P4_0.out c11)
      replace P5_0 := Lib.hid (slO_fresh tVersionS_law P5_0.out c11)
      replace P7_0 := Lib.hid (slO_fresh tVersionS_law P7_0.out c11)
      replace P9_0 := Lib.hid (slO_fresh tVersionS_law P9_0.out c11)
      replace d := Lib.hid (d.out.trans (c11.mono d.out.size))
      have Z_v11 := Lib.hid (show u10.heap.size ≤ v11.heap.size from c11.size)
      clear c11
      go_wp2
      have p_B0_0 := (cell_of_row v11 _ 0 _ _ _ B0.out).trans (show _ = some (Value.slice c0_0 x0_0.length k0_0) from rfl)
      have p_B0_1 := (cell_of_row v11 _ 1 _ _ _ B0.out).trans (show _ = some (Value.int .i64 a0_1) from rfl)
      have p_X1_0 := (cell_of_row v11 _ 0 _ _ _ X1.out).trans (show _ = some (Value.slice ya7_0 x0_0.length yc7_0) from rfl)
      have p_X1_1 := (cell_of_row v11 _ 1 _ _ _ X1.out).trans (show _ = some (Value.int .i64 a0_1) from rfl)
      refine wp_region_held_drew (S := fun w' => w'.cell? ⟨w.heap.size, 0, none⟩ = some (Value.slice c0_0 x0_0.length k0_0) ∧ w'.cell? ⟨w.heap.size, 1, none⟩ = some (Value.int .i64 a0_1) ∧ w'.cell? ⟨v7.heap.size, 0, none⟩ = some (Value.slice ya7_0 x0_0.length yc7_0) ∧ w'.cell? ⟨v7.heap.size, 1, none⟩ = some (Value.int .i64 a0_1)) (by kernel_rfl) ⟨p_B0_0, p_B0_1, p_X1_0, p_X1_1⟩ (fun hHeld => ?_)
      clear p_B0_0 p_B0_1 p_X1_0 p_X1_1
      have cd12 : Below v11.heap.size v11 v11.drew := below_drew (Below.refl _ _)
      replace B0 := Lib.hid ((cd12.block w.heap.size (Array.getElem?_eq_some_iff.1 B0.out).1).trans B0.out)
      replace B1 := Lib.hid ((cd12.block (w.heap.size + 1) (Array.getElem?_eq_some_iff.1 B1.out).1).trans B1.out)
      replace X1 := Lib.hid ((cd12.block v7.heap.size (Array.getElem?_eq_some_iff.1 X1.out).1).trans X1.out)
      replace X2 := Lib.hid ((cd12.block v9.heap.size (Array.getElem?_eq_some_iff.1 X2.out).1).trans X2.out)
      replace P4_0 := Lib.hid (slO_fresh tVersionS_law P4_0.out cd12)
      replace P5_0 := Lib.hid (slO_fresh tVersionS_law P5_0.out cd12)
      replace P7_0 := Lib.hid (slO_fresh tVersionS_law P7_0.out cd12)
      replace P9_0 := Lib.hid (slO_fresh tVersionS_law P9_0.out cd12)
      replace d := Lib.hid (d.out.trans (cd12.mono d.out.size))
      clear cd12
      refine take_runs (i := 0) (v := ?_) (by simp only [List.getElem?_toArray, List.getElem?_cons_succ, List.getElem?_cons_zero]; rfl) (by kernel_rfl) (by kernel_rfl) (by kernel_rfl) rfl (by exact fun _ _ _ h => h) (by rfl) ?_ (by assumption) ?_
      rotate_left
      · intro w hSw; (try dsimp only at hSw); go_simp; try (with_reducible rfl)
      try simp only [Act.put, List.setIfInBounds_toArray, List.set_cons_zero, List.set_cons_succ]
      refine take_runs (i := 1) (v := ?_) (by simp only [List.getElem?_toArray, List.getElem?_cons_succ, List.getElem?_cons_zero]; rfl) (by kernel_rfl) (by kernel_rfl) (by kernel_rfl) rfl (by exact fun _ _ _ h => h) (by rfl) ?_ (by assumption) ?_
      rotate_left
      · intro w hSw; (try dsimp only at hSw); go_simp; try (with_reducible rfl)
      try simp only [Act.put, List.setIfInBounds_toArray, List.set_cons_zero, List.set_cons_succ]
      refine wpAnyH_ready (rs := [2]) (by kernel_rfl) (by simp) ?_
      refine AllReadyH.cons (o := _) (by simp only [List.getElem?_toArray, List.getElem?_cons_succ, List.getElem?_cons_zero]; rfl) (fun K hK => ?_) AllReadyH.nil
      go_simp
      refine (toStore_T a0_1 (.slice c0_0 x0_0.length k0_0) x0_0 (v11.drew) (slR_below tVersionS_law A0_0.out d.out) S0_0.out).mono ?_
      rintro e v13 ⟨cs, rfl, ow, c13⟩
      replace B0 := Lib.hid ((c13.block w.heap.size (Array.getElem?_eq_some_iff.1 B0.out).1).trans B0.out)
      replace B1 := Lib.hid ((c13.block (w.heap.size + 1) (Array.getElem?_eq_some_iff.1 B1.out).1).trans B1.out)
      replace X1 := Lib.hid ((c13.block v7.heap.size (Array.getElem?_eq_some_iff.1 X1.out).1).trans X1.out)
      replace X2 := Lib.hid ((c13.block v9.heap.size (Array.getElem?_eq_some_iff.1 X2.out).1).trans X2.out)
      replace P4_0 := Lib.hid (slO_fresh tVersionS_law P4_0.out c13)
      replace P5_0 := Lib.hid (slO_fresh tVersionS_law P5_0.out c13)
      replace P7_0 := Lib.hid (slO_fresh tVersionS_law P7_0.out c13)
      replace P9_0 := Lib.hid (slO_fresh tVersionS_law P9_0.out c13)
      replace d := Lib.hid (d.out.trans (c13.mono d.out.size))
      have Z_v13 := Lib.hid (show v11.heap.size ≤ v13.heap.size from c13.size)
      clear c13
      replace ow := tStore_law.lt ow
      obtain ⟨y13_0, K13_0, rfl, p13_0, w13_0⟩ := tStore_O ow
      obtain ⟨ya13_0, yc13_0, rfl⟩ := slO_len p13_0
      have P13_0 := Lib.hid p13_0
      have Q13_0 := Lib.hid (fun b h => (show (v11.drew).heap.size ≤ b ∧ b < v13.heap.size from w13_0 b h))
      clear p13_0 w13_0 ow
      have p_B0_0 := (cell_of_row v13 _ 0 _ _ _ B0.out).trans (show _ = some (Value.slice c0_0 x0_0.length k0_0) from rfl)
      have p_B0_1 := (cell_of_row v13 _ 1 _ _ _ B0.out).trans (show _ = some (Value.int .i64 a0_1) from rfl)
      have p_X1_0 := (cell_of_row v13 _ 0 _ _ _ X1.out).trans (show _ = some (Value.slice ya7_0 x0_0.length yc7_0) from rfl)
      have p_X1_1 := (cell_of_row v13 _ 1 _ _ _ X1.out).trans (show _ = some (Value.int .i64 a0_1) from rfl)
      refine hK.out _ _ ⟨p_B0_0, p_B0_1, p_X1_0, p_X1_1⟩ (fun hHeld => ?_)
      clear p_B0_0 p_B0_1 p_X1_0 p_X1_1
      clear hK K
      try simp only [Act.put, List.setIfInBounds_toArray, List.set_cons_zero, List.set_cons_succ]
      refine wpAnyH_ready (rs := [3]) (by kernel_rfl) (by simp) ?_
      refine AllReadyH.cons (o := _) (by simp only [List.getElem?_toArray, List.getElem?_cons_succ, List.getElem?_cons_zero]; rfl) (fun K hK => ?_) AllReadyH.nil
      go_simp
      refine (eqStore_T a0_1 (.slice ya7_0 x0_0.length yc7_0) x0_0 (.slice ya13_0 x0_0.length yc13_0) v13 (slO_reads tVersionS_law P7_0.out) (slO_reads tVersionS_law P13_0.out) S0_0.out).mono ?_
      rintro e v14 ⟨rfl, c14⟩
      replace B0 := Lib.hid ((c14.block w.heap.size (Array.getElem?_eq_some_iff.1 B0.out).1).trans B0.out)
      replace B1 := Lib.hid ((c14.block (w.heap.size + 1) (Array.getElem?_eq_some_iff.1 B1.out).1).trans B1.out)
      replace X1 := Lib.hid ((c14.block v7.heap.size (Array.getElem?_eq_some_iff.1 X1.out).1).trans X1.out)
      replace X2 := Lib.hid ((c14.block v9.heap.size (Array.getElem?_eq_some_iff.1 X2.out).1).trans X2.out)
      replace P4_0 := Lib.hid (slO_fresh tVersionS_law P4_0.out c14)
      replace P5_0 := Lib.hid (slO_fresh tVersionS_law P5_0.out c14)
      replace P7_0 := Lib.hid (slO_fresh tVersionS_law P7_0.out c14)
      replace P9_0 := Lib.hid (slO_fresh tVersionS_law P9_0.out c14)
      replace P13_0 := Lib.hid (slO_fresh tVersionS_law P13_0.out c14)
      replace d := Lib.hid (d.out.trans (c14.mono d.out.size))
      have Z_v14 := Lib.hid (show v13.heap.size ≤ v14.heap.size from c14.size)
      clear c14
      clear P13_0
      have p_B0_0 := (cell_of_row v14 _ 0 _ _ _ B0.out).trans (show _ = some (Value.slice c0_0 x0_0.length k0_0) from rfl)
      have p_B0_1 := (cell_of_row v14 _ 1 _ _ _ B0.out).trans (show _ = some (Value.int .i64 a0_1) from rfl)
      have p_X1_0 := (cell_of_row v14 _ 0 _ _ _ X1.out).trans (show _ = some (Value.slice ya7_0 x0_0.length yc7_0) from rfl)
      have p_X1_1 := (cell_of_row v14 _ 1 _ _ _ X1.out).trans (show _ = some (Value.int .i64 a0_1) from rfl)
      refine hK.out _ _ ⟨p_B0_0, p_B0_1, p_X1_0, p_X1_1⟩ (fun hHeld => ?_)
      clear p_B0_0 p_B0_1 p_X1_0 p_X1_1
      clear hK K
      try simp only [Act.put, List.setIfInBounds_toArray, List.set_cons_zero, List.set_cons_succ]
      refine take_runs (i := 4) (v := ?_) (by simp only [List.getElem?_toArray, List.getElem?_cons_succ, List.getElem?_cons_zero]; rfl) (by kernel_rfl) (by kernel_rfl) (by kernel_rfl) rfl (by exact fun _ _ _ h => h) (by rfl) ?_ (by assumption) ?_
      rotate_left
      · intro w hSw; (try dsimp only at hSw); go_simp; try (with_reducible rfl)
      try simp only [Act.put, List.setIfInBounds_toArray, List.set_cons_zero, List.set_cons_succ]
      refine wpAnyH_done (by kernel_rfl) ?_ _
      clear hHeld
      go_wp2
      have p_B1_0 := (cell_of_row v14 _ 0 _ _ _ B1.out).trans (show _ = some (Value.slice c1_0 x1_0.length k1_0) from rfl)
      have p_B1_1 := (cell_of_row v14 _ 1 _ _ _ B1.out).trans (show _ = some (Value.int .i64 a1_1) from rfl)
      have p_X2_0 := (cell_of_row v14 _ 0 _ _ _ X2.out).trans (show _ = some (Value.slice ya9_0 x1_0.length yc9_0) from rfl)
      have p_X2_1 := (cell_of_row v14 _ 1 _ _ _ X2.out).trans (show _ = some (Value.int .i64 a1_1) from rfl)
      refine wp_region_held_drew (S := fun w' => w'.cell? ⟨(w.heap.size + 1), 0, none⟩ = some (Value.slice c1_0 x1_0.length k1_0) ∧ w'.cell? ⟨(w.heap.size + 1), 1, none⟩ = some (Value.int .i64 a1_1) ∧ w'.cell? ⟨v9.heap.size, 0, none⟩ = some (Value.slice ya9_0 x1_0.length yc9_0) ∧ w'.cell? ⟨v9.heap.size, 1, none⟩ = some (Value.int .i64 a1_1)) (by kernel_rfl) ⟨p_B1_0, p_B1_1, p_X2_0, p_X2_1⟩ (fun hHeld => ?_)
      clear p_B1_0 p_B1_1 p_X2_0 p_X2_1
      have cd15 : Below v14.heap.size v14 v14.drew := below_drew (Below.refl _ _)
      replace B0 := Lib.hid ((cd15.block w.heap.size (Array.getElem?_eq_some_iff.1 B0.out).1).trans B0.out)
      replace B1 := Lib.hid ((cd15.block (w.heap.size + 1) (Array.getElem?_eq_some_iff.1 B1.out).1).trans B1.out)
      replace X1 := Lib.hid ((cd15.block v7.heap.size (Array.getElem?_eq_some_iff.1 X1.out).1).trans X1.out)
      replace X2 := Lib.hid ((cd15.block v9.heap.size (Array.getElem?_eq_some_iff.1 X2.out).1).trans X2.out)
      replace P4_0 := Lib.hid (slO_fresh tVersionS_law P4_0.out cd15)
      replace P5_0 := Lib.hid (slO_fresh tVersionS_law P5_0.out cd15)
      replace P7_0 := Lib.hid (slO_fresh tVersionS_law P7_0.out cd15)
      replace P9_0 := Lib.hid (slO_fresh tVersionS_law P9_0.out cd15)
      replace d := Lib.hid (d.out.trans (cd15.mono d.out.size))
      clear cd15
      refine take_runs (i := 0) (v := ?_) (by simp only [List.getElem?_toArray, List.getElem?_cons_succ, List.getElem?_cons_zero]; rfl) (by kernel_rfl) (by kernel_rfl) (by kernel_rfl) rfl (by exact fun _ _ _ h => h) (by rfl) ?_ (by assumption) ?_
      rotate_left
      · intro w hSw; (try dsimp only at hSw); go_simp; try (with_reducible rfl)
      try simp only [Act.put, List.setIfInBounds_toArray, List.set_cons_zero, List.set_cons_succ]
      refine take_runs (i := 1) (v := ?_) (by simp only [List.getElem?_toArray, List.getElem?_cons_succ, List.getElem?_cons_zero]; rfl) (by kernel_rfl) (by kernel_rfl) (by kernel_rfl) rfl (by exact fun _ _ _ h => h) (by rfl) ?_ (by assumption) ?_
      rotate_left
      · intro w hSw; (try dsimp only at hSw); go_simp; try (with_reducible rfl)
      try simp only [Act.put, List.setIfInBounds_toArray, List.set_cons_zero, List.set_cons_succ]
      refine wpAnyH_ready (rs := [2]) (by kernel_rfl) (by simp) ?_
      refine AllReadyH.cons (o := _) (by simp only [List.getElem?_toArray, List.getElem?_cons_succ, List.getElem?_cons_zero]; rfl) (fun K hK => ?_) AllReadyH.nil
      go_simp
      refine (toStore_T a1_1 (.slice c1_0 x1_0.length k1_0) x1_0 (v14.drew) (slR_below tVersionS_law A1_0.out d.out) S1_0.out).mono ?_
      rintro e v16 ⟨cs, rfl, ow, c16⟩
      replace B0 := Lib.hid ((c16.block w.heap.size (Array.getElem?_eq_some_iff.1 B0.out).1).trans B0.out)
      replace B1 := Lib.hid ((c16.block (w.heap.size + 1) (Array.getElem?_eq_some_iff.1 B1.out).1).trans B1.out)
      replace X1 := Lib.hid ((c16.block v7.heap.size (Array.getElem?_eq_some_iff.1 X1.out).1).trans X1.out)
      replace X2 := Lib.hid ((c16.block v9.heap.size (Array.getElem?_eq_some_iff.1 X2.out).1).trans X2.out)
      replace P4_0 := Lib.hid (slO_fresh tVersionS_law P4_0.out c16)
      replace P5_0 := Lib.hid (slO_fresh tVersionS_law P5_0.out c16)
      replace P7_0 := Lib.hid (slO_fresh tVersionS_law P7_0.out c16)
      replace P9_0 := Lib.hid (slO_fresh tVersionS_law P9_0.out c16)
      replace d := Lib.hid (d.out.trans (c16.mono d.out.size))
      have Z_v16 := Lib.hid (show v14.heap.size ≤ v16.heap.size from c16.size)
      clear c16
      replace ow := tStore_law.lt ow
      obtain ⟨y16_0, K16_0, rfl, p16_0, w16_0⟩ := tStore_O ow
      obtain ⟨ya16_0, yc16_0, rfl⟩ := slO_len p16_0
      have P16_0 := Lib.hid p16_0
      have Q16_0 := Lib.hid (fun b h => (show (v14.drew).heap.size ≤ b ∧ b < v16.heap.size from w16_0 b h))
      clear p16_0 w16_0 ow
      have p_B1_0 := (cell_of_row v16 _ 0 _ _ _ B1.out).trans (show _ = some (Value.slice c1_0 x1_0.length k1_0) from rfl)
      have p_B1_1 := (cell_of_row v16 _ 1 _ _ _ B1.out).trans (show _ = some (Value.int .i64 a1_1) from rfl)
      have p_X2_0 := (cell_of_row v16 _ 0 _ _ _ X2.out).trans (show _ = some (Value.slice ya9_0 x1_0.length yc9_0) from rfl)
      have p_X2_1 := (cell_of_row v16 _ 1 _ _ _ X2.out).trans (show _ = some (Value.int .i64 a1_1) from rfl)
      refine hK.out _ _ ⟨p_B1_0, p_B1_1, p_X2_0, p_X2_1⟩ (fun hHeld => ?_)
      clear p_B1_0 p_B1_1 p_X2_0 p_X2_1
      clear hK K
      try simp only [Act.put, List.setIfInBounds_toArray, List.set_cons_zero, List.set_cons_succ]
      refine wpAnyH_ready (rs := [3]) (by kernel_rfl) (by simp) ?_
      refine AllReadyH.cons (o := _) (by simp only [List.getElem?_toArray, List.getElem?_cons_succ, List.getElem?_cons_zero]; rfl) (fun K hK => ?_) AllReadyH.nil
      go_simp
      refine (eqStore_T a1_1 (.slice ya9_0 x1_0.length yc9_0) x1_0 (.slice ya16_0 x1_0.length yc16_0) v16 (slO_reads tVersionS_law P9_0.out) (slO_reads tVersionS_law P16_0.out) S1_0.out).mono ?_
      rintro e v17 ⟨rfl, c17⟩
      replace B0 := Lib.hid ((c17.block w.heap.size (Array.getElem?_eq_some_iff.1 B0.out).1).trans B0.out)
      replace B1 := Lib.hid ((c17.block (w.heap.size + 1) (Array.getElem?_eq_some_iff.1 B1.out).1).trans B1.out)
      replace X1 := Lib.hid ((c17.block v7.heap.size (Array.getElem?_eq_some_iff.1 X1.out).1).trans X1.out)
      replace X2 := Lib.hid ((c17.block v9.heap.size (Array.getElem?_eq_some_iff.1 X2.out).1).trans X2.out)
      replace P4_0 := Lib.hid (slO_fresh tVersionS_law P4_0.out c17)
      replace P5_0 := Lib.hid (slO_fresh tVersionS_law P5_0.out c17)
      replace P7_0 := Lib.hid (slO_fresh tVersionS_law P7_0.out c17)
      replace P9_0 := Lib.hid (slO_fresh tVersionS_law P9_0.out c17)
      replace P16_0 := Lib.hid (slO_fresh tVersionS_law P16_0.out c17)
      replace d := Lib.hid (d.out.trans (c17.mono d.out.size))
      have Z_v17 := Lib.hid (show v16.heap.size ≤ v17.heap.size from c17.size)
      clear c17
      clear P16_0
      have p_B1_0 := (cell_of_row v17 _ 0 _ _ _ B1.out).trans (show _ = some (Value.slice c1_0 x1_0.length k1_0) from rfl)
      have p_B1_1 := (cell_of_row v17 _ 1 _ _ _ B1.out).trans (show _ = some (Value.int .i64 a1_1) from rfl)
      have p_X2_0 := (cell_of_row v17 _ 0 _ _ _ X2.out).trans (show _ = some (Value.slice ya9_0 x1_0.length yc9_0) from rfl)
      have p_X2_1 := (cell_of_row v17 _ 1 _ _ _ X2.out).trans (show _ = some (Value.int .i64 a1_1) from rfl)
      refine hK.out _ _ ⟨p_B1_0, p_B1_1, p_X2_0, p_X2_1⟩ (fun hHeld => ?_)
      clear p_B1_0 p_B1_1 p_X2_0 p_X2_1
      clear hK K
      try simp only [Act.put, List.setIfInBounds_toArray, List.set_cons_zero, List.set_cons_succ]
      refine take_runs (i := 4) (v := ?_) (by simp only [List.getElem?_toArray, List.getElem?_cons_succ, List.getElem?_cons_zero]; rfl) (by kernel_rfl) (by kernel_rfl) (by kernel_rfl) rfl (by exact fun _ _ _ h => h) (by rfl) ?_ (by assumption) ?_
      rotate_left
      · intro w hSw; (try dsimp only at hSw); go_simp; try (with_reducible rfl)
      try simp only [Act.put, List.setIfInBounds_toArray, List.set_cons_zero, List.set_cons_succ]
      refine wpAnyH_done (by kernel_rfl) ?_ _
      clear hHeld
      go_wp2
      go_ret
      exact ⟨rfl, HB0.out.trans (d.out.mono HB0.out.size)⟩
    ·
      have HZ0 : Hid (((zL tVersionS x0_0 : Nat) : Int) ≤ (1048576 : Int)) := Lib.hid c0
      have HK0 : Hid ((1048576 : Int) ≤ 1048576) := Lib.hid (by omega)
      have hn0 : ¬ (1048576 : Int) - ((zL tVersionS x0_0 : Nat) : Int) < 0 := by omega
      have HZ1 : Hid ((1048576 : Int) - ((zL tVersionS x0_0 : Nat) : Int) < ((zL tVersionS x1_0 : Nat) : Int)) := Lib.hid (by omega)
      have HP1 : Hid (0 ≤ (1048576 : Int) - ((zL tVersionS x0_0 : Nat) : Int)) := Lib.hid (by omega)
      have HK1 : Hid ((1048576 : Int) - ((zL tVersionS x0_0 : Nat) : Int) ≤ 1048576) := Lib.hid (by omega)
      clear c1
      go_enter Try.func11, Try.ntmps11
      go_wp2_with fail
      have Y_W : Hid (w.heap.size + 2 ≤ ((w.alloc (.cells #[.slice c0_0 x0_0.length k0_0, .int .i64 a0_1] 53)).alloc (.cells #[.slice c1_0 x1_0.length k1_0, .int .i64 a1_1] 53)).heap.size) := Lib.hid (by simp [World.size_alloc])
      generalize ((w.alloc (.cells #[.slice c0_0 x0_0.length k0_0, .int .i64 a0_1] 53)).alloc (.cells #[.slice c1_0 x1_0.length k1_0, .int .i64 a1_1] 53)) = W at *
      have d := Lib.hid (Below.refl W.heap.size W)
      refine (szStore_Y a0_1 (.slice c0_0 x0_0.length k0_0) x0_0 ((1048576 : Int)) W (slR_below tVersionS_law A0_0.out d.out) HZ0.out HK0.out).mono ?_
      rintro e v1 ⟨rfl, c1⟩
      replace B0 := Lib.hid ((c1.block w.heap.size (Array.getElem?_eq_some_iff.1 B0.out).1).trans B0.out)
      replace B1 := Lib.hid ((c1.block (w.heap.size + 1) (Array.getElem?_eq_some_iff.1 B1.out).1).trans B1.out)
      replace d := Lib.hid (d.out.trans (c1.mono d.out.size))
      have Z_v1 := Lib.hid (show W.heap.size ≤ v1.heap.size from c1.size)
      clear c1
      have p_B1_0 := (cell_of_row v1 _ 0 _ _ _ B1.out).trans (show _ = some (Value.slice c1_0 x1_0.length k1_0) from rfl)
      have p_B1_1 := (cell_of_row v1 _ 1 _ _ _ B1.out).trans (show _ = some (Value.int .i64 a1_1) from rfl)
      go_wp2_with fail
      clear p_B1_0 p_B1_1
      refine (szStore_N a1_1 (.slice c1_0 x1_0.length k1_0) x1_0 ((1048576 : Int) - ((zL tVersionS x0_0 : Nat) : Int)) v1 (slR_below tVersionS_law A1_0.out d.out) HZ1.out HK1.out HP1.out O1_0.out).mono ?_
      rintro e v2 ⟨rfl, c2⟩
      replace B0 := Lib.hid ((c2.block w.heap.size (Array.getElem?_eq_some_iff.1 B0.out).1).trans B0.out)
      replace B1 := Lib.hid ((c2.block (w.heap.size + 1) (Array.getElem?_eq_some_iff.1 B1.out).1).trans B1.out)
      replace d := Lib.hid (d.out.trans (c2.mono d.out.size))
      have Z_v2 := Lib.hid (show v1.heap.size ≤ v2.heap.size from c2.size)
      clear c2
      go_wp2
      go_ret
      exact ⟨rfl, HB0.out.trans (d.out.mono HB0.out.size)⟩
  ·
    have HZ0 : Hid ((1048576 : Int) < ((zL tVersionS x0_0 : Nat) : Int)) := Lib.hid (by omega)
    have HP0 : Hid (0 ≤ (1048576 : Int)) := Lib.hid (by omega)
    have HK0 : Hid ((1048576 : Int) ≤ 1048576) := Lib.hid (by omega)
    clear c0
    go_enter Try.func11, Try.ntmps11
    go_wp2_with fail
    have Y_W : Hid (w.heap.size + 2 ≤ ((w.alloc (.cells #[.slice c0_0 x0_0.length k0_0, .int .i64 a0_1] 53)).alloc (.cells #[.slice c1_0 x1_0.length k1_0, .int .i64 a1_1] 53)).heap.size) := Lib.hid (by simp [World.size_alloc])
    generalize ((w.alloc (.cells #[.slice c0_0 x0_0.length k0_0, .int .i64 a0_1] 53)).alloc (.cells #[.slice c1_0 x1_0.length k1_0, .int .i64 a1_1] 53)) = W at *
    have d := Lib.hid (Below.refl W.heap.size W)
    refine (szStore_N a0_1 (.slice c0_0 x0_0.length k0_0) x0_0 ((1048576 : Int)) W (slR_below tVersionS_law A0_0.out d.out) HZ0.out HK0.out HP0.out O0_0.out).mono ?_
    rintro e v1 ⟨rfl, c1⟩
    replace B0 := Lib.hid ((c1.block w.heap.size (Array.getElem?_eq_some_iff.1 B0.out).1).trans B0.out)
    replace B1 := Lib.hid ((c1.block (w.heap.size + 1) (Array.getElem?_eq_some_iff.1 B1.out).1).trans B1.out)
    replace d := Lib.hid (d.out.trans (c1.mono d.out.size))
    have Z_v1 := Lib.hid (show W.heap.size ≤ v1.heap.size from c1.size)
    clear c1
    go_wp2
    go_ret
    exact ⟨rfl, HB0.out.trans (d.out.mono HB0.out.size)⟩
end Go.Proofs.Ytginjmnohnidiaa
namespace Go.Proofs.Ytginjmnohnidiaa
open Go.RowKit
set_option linter.unusedVariables false
set_option linter.unusedSimpArgs false
set_option maxHeartbeats 32000000 in
set_option maxRecDepth 100000 in
theorem law_fnExactIsStore (a0_1 : Int) (v0_0 : Value) (x0_0 : List (List (Int × List Int × Int × Int))) (r0 : Bool) (w : World) (h0_0 : SlR tVersionS w v0_0 x0_0) (o0_0 : tVersionSS.ok x0_0) 
    (hspec : ∀ (v0_0 : Value) (w : World), SlR tVersionS w v0_0 x0_0 → zL tVersionS x0_0 ≤ 1048576 → Calls Try.prog 31 #[.agg #[v0_0, .int .i64 a0_1]] w (fun e w' => e = .returned (.bool r0) ∧ Below w.heap.size w w'))
    (himpl : ∀ (v0_0 : Value) (w : World), SlR tVersionS w v0_0 x0_0 → zL tVersionS x0_0 ≤ 1048576 → Calls Try.prog 33 #[.agg #[v0_0, .int .i64 a0_1]] w (fun e w' => e = .returned (.bool r0) ∧ Below w.heap.size w w')) :
    Calls Try.prog 6 #[.agg #[v0_0, .int .i64 a0_1]] w fun e w' => e = .returned (.bool true) ∧ Below w.heap.size w w' := by
  obtain ⟨c0_0, k0_0, rfl⟩ := slR_len h0_0
  have HB0 : Hid (Below w.heap.size w (w.alloc (.cells #[.slice c0_0 x0_0.length k0_0, .int .i64 a0_1] 53))) := Lib.hid ((Below.refl _ w).alloc (Nat.le_refl _) _)
  have B0 : Hid ((w.alloc (.cells #[.slice c0_0 x0_0.length k0_0, .int .i64 a0_1] 53)).heap[w.heap.size]? = some (.cells #[.slice c0_0 x0_0.length k0_0, .int .i64 a0_1] 53 (0, 0))) := Lib.hid (by have := heap_alloc_new w (.cells #[.slice c0_0 x0_0.length k0_0, .int .i64 a0_1] 53); simpa only [World.size_alloc] using this)
  have A0_0 : Hid (SlR tVersionS (w.alloc (.cells #[.slice c0_0 x0_0.length k0_0, .int .i64 a0_1] 53)) (.slice c0_0 x0_0.length k0_0) x0_0) := Lib.hid (slR_below tVersionS_law h0_0 HB0.out)
  have O0_0 := Lib.hid o0_0
  clear h0_0 o0_0
  have HSP := Lib.hid hspec
  have HIM := Lib.hid himpl
  clear hspec himpl
  by_cases c0 : ((zL tVersionS x0_0 : Nat) : Int) ≤ (1048576 : Int)
  ·
    have HZ0 : Hid (((zL tVersionS x0_0 : Nat) : Int) ≤ (1048576 : Int)) := Lib.hid c0
    have HK0 : Hid ((1048576 : Int) ≤ 1048576) := Lib.hid (by omega)
    have hn0 : ¬ (1048576 : Int) - ((zL tVersionS x0_0 : Nat) : Int) < 0 := by omega
    have HT : Hid (zL tVersionS x0_0 ≤ 1048576) := Lib.hid (by omega)
    have S0_0 : Hid (zL tVersionS x0_0 ≤ 1048576) := Lib.hid (by omega)
    have N0_0 := ndL_le tVersionS_law (by decide) x0_0
    clear N0_0
    have e0 : (r0 != r0) = false := by simp
    clear c0
    go_enter Try.func6, Try.ntmps6
    go_wp2_with fail
    have Y_W : Hid (w.heap.size + 1 ≤ (w.alloc (.cells #[.slice c0_0 x0_0.length k0_0, .int .i64 a0_1] 53)).heap.size) := Lib.hid (by simp [World.size_alloc])
    generalize (w.alloc (.cells #[.slice c0_0 x0_0.length k0_0, .int .i64 a0_1] 53)) = W at *
    have d := Lib.hid (Below.refl W.heap.size W)
    refine (szStore_Y a0_1 (.slice c0_0 x0_0.length k0_0) x0_0 ((1048576 : Int)) W (slR_below tVersionS_law A0_0.out d.out) HZ0.out HK0.out).mono ?_
    rintro e v1 ⟨rfl, c1⟩
    replace B0 := Lib.hid ((c1.block w.heap.size (Array.getElem?_eq_some_iff.1 B0.out).1).trans B0.out)
    replace d := Lib.hid (d.out.trans (c1.mono d.out.size))
    have Z_v1 := Lib.hid (show W.heap.size ≤ v1.heap.size from c1.size)
    clear c1
    have p_B0_0 := (cell_of_row v1 _ 0 _ _ _ B0.out).trans (show _ = some (Value.slice c0_0 x0_0.length k0_0) from rfl)
    have p_B0_1 := (cell_of_row v1 _ 1 _ _ _ B0.out).trans (show _ = some (Value.int .i64 a0_1) from rfl)
    go_wp2_with fail
    clear p_B0_0 p_B0_1
    refine (toStore_T a0_1 (.slice c0_0 x0_0.length k0_0) x0_0 v1 (slR_below tVersionS_law A0_0.out d.out) S0_0.out).mono ?_
    rintro e v2 ⟨cs, rfl, ow, c2⟩
    replace B0 := Lib.hid ((c2.block w.heap.size (Array.getElem?_eq_some_iff.1 B0.out).1).trans B0.out)
    replace d := Lib.hid (d.out.trans (c2.mono d.out.size))
    have Z_v2 := Lib.hid (show v1.heap.size ≤ v2.heap.size from c2.size)
    clear c2
    replace ow := tStore_law.lt ow
    obtain ⟨y2_0, K2_0, rfl, p2_0, w2_0⟩ := tStore_O ow
    obtain ⟨ya2_0, yc2_0, rfl⟩ := slO_len p2_0
    have P2_0 := Lib.hid p2_0
    have Q2_0 := Lib.hid (fun b h => (show v1.heap.size ≤ b ∧ b < v2.heap.size from w2_0 b h))
    clear p2_0 w2_0 ow
    go_wp2_with fail
    refine (HSP.out (.slice ya2_0 x0_0.length yc2_0) v2 (slO_reads tVersionS_law P2_0.out) HT.out ).mono ?_
    rintro e v3 ⟨rfl, c3⟩
    replace B0 := Lib.hid ((c3.block w.heap.size (Array.getElem?_eq_some_iff.1 B0.out).1).trans B0.out)
    replace P2_0 := Lib.hid (slO_fresh tVersionS_law P2_0.out c3)
    replace d := Lib.hid (d.out.trans (c3.mono d.out.size))
    have Z_v3 := Lib.hid (show v2.heap.size ≤ v3.heap.size from c3.size)
    clear c3
    have p_B0_0 := (cell_of_row v3 _ 0 _ _ _ B0.out).trans (show _ = some (Value.slice c0_0 x0_0.length k0_0) from rfl)
    have p_B0_1 := (cell_of_row v3 _ 1 _ _ _ B0.out).trans (show _ = some (Value.int .i64 a0_1) from rfl)
    go_wp2_with fail
    clear p_B0_0 p_B0_1
    refine (toStore_T a0_1 (.slice c0_0 x0_0.length k0_0) x0_0 v3 (slR_below tVersionS_law A0_0.out d.out) S0_0.out).mono ?_
    rintro e v4 ⟨cs, rfl, ow, c4⟩
    replace B0 := Lib.hid ((c4.block w.heap.size (Array.getElem?_eq_some_iff.1 B0.out).1).trans B0.out)
    replace P2_0 := Lib.hid (slO_fresh tVersionS_law P2_0.out c4)
    replace d := Lib.hid (d.out.trans (c4.mono d.out.size))
    have Z_v4 := Lib.hid (show v3.heap.size ≤ v4.heap.size from c4.size)
    clear c4
    replace ow := tStore_law.lt ow
    obtain ⟨y4_0, K4_0, rfl, p4_0, w4_0⟩ := tStore_O ow
    obtain ⟨ya4_0, yc4_0, rfl⟩ := slO_len p4_0
    have P4_0 := Lib.hid p4_0
    have Q4_0 := Lib.hid (fun b h => (show v3.heap.size ≤ b ∧ b < v4.heap.size from w4_0 b h))
    clear p4_0 w4_0 ow
    have hal : Below v4.heap.size v4 (v4.alloc (.cells #[.slice ya4_0 x0_0.length yc4_0, .int .i64 a0_1] 45)) := (Below.refl _ _).alloc (Nat.le_refl _) _
    have X1 := Lib.hid (heap_alloc_new v4 (.cells #[.slice ya4_0 x0_0.length yc4_0, .int .i64 a0_1] 45))
    have Y_X1 := Lib.hid (show v4.heap.size < (v4.alloc (.cells #[.slice ya4_0 x0_0.length yc4_0, .int .i64 a0_1] 45)).heap.size by simp [World.size_alloc])
    replace B0 := Lib.hid ((hal.block w.heap.size (Array.getElem?_eq_some_iff.1 B0.out).1).trans B0.out)
    replace P2_0 := Lib.hid (slO_fresh tVersionS_law P2_0.out hal)
    replace P4_0 := Lib.hid (slO_fresh tVersionS_law P4_0.out hal)
    replace d := Lib.hid (d.out.trans (hal.mono d.out.size))
    clear hal
    have p_X1_0 := (cell_of_row (v4.alloc (.cells #[.slice ya4_0 x0_0.length yc4_0, .int .i64 a0_1] 45)) _ 0 _ _ _ X1.out).trans (show _ = some (Value.slice ya4_0 x0_0.length yc4_0) from rfl)
    have p_X1_1 := (cell_of_row (v4.alloc (.cells #[.slice ya4_0 x0_0.length yc4_0, .int .i64 a0_1] 45)) _ 1 _ _ _ X1.out).trans (show _ = some (Value.int .i64 a0_1) from rfl)
    go_wp2_with fail
    clear p_X1_0 p_X1_1
    generalize (v4.alloc (.cells #[.slice ya4_0 x0_0.length yc4_0, .int .i64 a0_1] 45)) = u5 at *
    refine (HIM.out (.slice ya4_0 x0_0.length yc4_0) u5 (slO_reads tVersionS_law P4_0.out) HT.out ).mono ?_
    rintro e v6 ⟨rfl, c6⟩
    replace B0 := Lib.hid ((c6.block w.heap.size (Array.getElem?_eq_some_iff.1 B0.out).1).trans B0.out)
    replace X1 := Lib.hid ((c6.block v4.heap.size (Array.getElem?_eq_some_iff.1 X1.out).1).trans X1.out)
    replace P2_0 := Lib.hid (slO_fresh tVersionS_law P2_0.out c6)
    replace P4_0 := Lib.hid (slO_fresh tVersionS_law P4_0.out c6)
    replace d := Lib.hid (d.out.trans (c6.mono d.out.size))
    have Z_v6 := Lib.hid (show u5.heap.size ≤ v6.heap.size from c6.size)
    clear c6
    go_wp2
    have p_B0_0 := (cell_of_row v6 _ 0 _ _ _ B0.out).trans (show _ = some (Value.slice c0_0 x0_0.length k0_0) from rfl)
    have p_B0_1 := (cell_of_row v6 _ 1 _ _ _ B0.out).trans (show _ = some (Value.int .i64 a0_1) from rfl)
    have p_X1_0 := (cell_of_row v6 _ 0 _ _ _ X1.out).trans (show _ = some (Value.slice ya4_0 x0_0.length yc4_0) from rfl)
    have p_X1_1 := (cell_of_row v6 _ 1 _ _ _ X1.out).trans (show _ = some (Value.int .i64 a0_1) from rfl)
    refine wp_region_held_drew (S := fun w' => w'.cell? ⟨w.heap.size, 0, none⟩ = some (Value.slice c0_0 x0_0.length k0_0) ∧ w'.cell? ⟨w.heap.size, 1, none⟩ = some (Value.int .i64 a0_1) ∧ w'.cell? ⟨v4.heap.size, 0, none⟩ = some (Value.slice ya4_0 x0_0.length yc4_0) ∧ w'.cell? ⟨v4.heap.size, 1, none⟩ = some (Value.int .i64 a0_1)) (by kernel_rfl) ⟨p_B0_0, p_B0_1, p_X1_0, p_X1_1⟩ (fun hHeld => ?_)
    clear p_B0_0 p_B0_1 p_X1_0 p_X1_1
    have cd7 : Below v6.heap.size v6 v6.drew := below_drew (Below.refl _ _)
    replace B0 := Lib.hid ((cd7.block w.heap.size (Array.getElem?_eq_some_iff.1 B0.out).1).trans B0.out)
    replace X1 := Lib.hid ((cd7.block v4.heap.size (Array.getElem?_eq_some_iff.1 X1.out).1).trans X1.out)
    replace P2_0 := Lib.hid (slO_fresh tVersionS_law P2_0.out cd7)
    replace P4_0 := Lib.hid (slO_fresh tVersionS_law P4_0.out cd7)
    replace d := Lib.hid (d.out.trans (cd7.mono d.out.size))
    clear cd7
    refine take_runs (i := 0) (v := ?_) (by simp only [List.getElem?_toArray, List.getElem?_cons_succ, List.getElem?_cons_zero]; rfl) (by kernel_rfl) (by kernel_rfl) (by kernel_rfl) rfl (by exact fun _ _ _ h => h) (by rfl) ?_ (by assumption) ?_
    rotate_left
    · intro w hSw; (try dsimp only at hSw); go_simp; try (with_reducible rfl)
    try simp only [Act.put, List.setIfInBounds_toArray, List.set_cons_zero, List.set_cons_succ]
    refine take_runs (i := 1) (v := ?_) (by simp only [List.getElem?_toArray, List.getElem?_cons_succ, List.getElem?_cons_zero]; rfl) (by kernel_rfl) (by kernel_rfl) (by kernel_rfl) rfl (by exact fun _ _ _ h => h) (by rfl) ?_ (by assumption) ?_
    rotate_left
    · intro w hSw; (try dsimp only at hSw); go_simp; try (with_reducible rfl)
    try simp only [Act.put, List.setIfInBounds_toArray, List.set_cons_zero, List.set_cons_succ]
    refine wpAnyH_ready (rs := [2]) (by kernel_rfl) (by simp) ?_
    refine AllReadyH.cons (o := _) (by simp only [List.getElem?_toArray, List.getElem?_cons_succ, List.getElem?_cons_zero]; rfl) (fun K hK => ?_) AllReadyH.nil
    go_simp
    refine (toStore_T a0_1 (.slice c0_0 x0_0.length k0_0) x0_0 (v6.drew) (slR_below tVersionS_law A0_0.out d.out) S0_0.out).mono ?_
    rintro e v8 ⟨cs, rfl, ow, c8⟩
    replace B0 := Lib.hid ((c8.block w.heap.size (Array.getElem?_eq_some_iff.1 B0.out).1).trans B0.out)
    replace X1 := Lib.hid ((c8.block v4.heap.size (Array.getElem?_eq_some_iff.1 X1.out).1).trans X1.out)
    replace P2_0 := Lib.hid (slO_fresh tVersionS_law P2_0.out c8)
    replace P4_0 := Lib.hid (slO_fresh tVersionS_law P4_0.out c8)
    replace d := Lib.hid (d.out.trans (c8.mono d.out.size))
    have Z_v8 := Lib.hid (show v6.heap.size ≤ v8.heap.size from c8.size)
    clear c8
    replace ow := tStore_law.lt ow
    obtain ⟨y8_0, K8_0, rfl, p8_0, w8_0⟩ := tStore_O ow
    obtain ⟨ya8_0, yc8_0, rfl⟩ := slO_len p8_0
    have P8_0 := Lib.hid p8_0
    have Q8_0 := Lib.hid (fun b h => (show (v6.drew).heap.size ≤ b ∧ b < v8.heap.size from w8_0 b h))
    clear p8_0 w8_0 ow
    have p_B0_0 := (cell_of_row v8 _ 0 _ _ _ B0.out).trans (show _ = some (Value.slice c0_0 x0_0.length k0_0) from rfl)
    have p_B0_1 := (cell_of_row v8 _ 1 _ _ _ B0.out).trans (show _ = some (Value.int .i64 a0_1) from rfl)
    have p_X1_0 := (cell_of_row v8 _ 0 _ _ _ X1.out).trans (show _ = some (Value.slice ya4_0 x0_0.length yc4_0) from rfl)
    have p_X1_1 := (cell_of_row v8 _ 1 _ _ _ X1.out).trans (show _ = some (Value.int .i64 a0_1) from rfl)
    refine hK.out _ _ ⟨p_B0_0, p_B0_1, p_X1_0, p_X1_1⟩ (fun hHeld => ?_)
    clear p_B0_0 p_B0_1 p_X1_0 p_X1_1
    clear hK K
    try simp only [Act.put, List.setIfInBounds_toArray, List.set_cons_zero, List.set_cons_succ]
    refine wpAnyH_ready (rs := [3]) (by kernel_rfl) (by simp) ?_
    refine AllReadyH.cons (o := _) (by simp only [List.getElem?_toArray, List.getElem?_cons_succ, List.getElem?_cons_zero]; rfl) (fun K hK => ?_) AllReadyH.nil
    go_simp
    refine (eqStore_T a0_1 (.slice ya4_0 x0_0.length yc4_0) x0_0 (.slice ya8_0 x0_0.length yc8_0) v8 (slO_reads tVersionS_law P4_0.out) (slO_reads tVersionS_law P8_0.out) S0_0.out).mono ?_
    rintro e v9 ⟨rfl, c9⟩
    replace B0 := Lib.hid ((c9.block w.heap.size (Array.getElem?_eq_some_iff.1 B0.out).1).trans B0.out)
    replace X1 := Lib.hid ((c9.block v4.heap.size (Array.getElem?_eq_some_iff.1 X1.out).1).trans X1.out)
    replace P2_0 := Lib.hid (slO_fresh tVersionS_law P2_0.out c9)
    replace P4_0 := Lib.hid (slO_fresh tVersionS_law P4_0.out c9)
    replace P8_0 := Lib.hid (slO_fresh tVersionS_law P8_0.out c9)
    replace d := Lib.hid (d.out.trans (c9.mono d.out.size))
    have Z_v9 := Lib.hid (show v8.heap.size ≤ v9.heap.size from c9.size)
    clear c9
    clear P8_0
    have p_B0_0 := (cell_of_row v9 _ 0 _ _ _ B0.out).trans (show _ = some (Value.slice c0_0 x0_0.length k0_0) from rfl)
    have p_B0_1 := (cell_of_row v9 _ 1 _ _ _ B0.out).trans (show _ = some (Value.int .i64 a0_1) from rfl)
    have p_X1_0 := (cell_of_row v9 _ 0 _ _ _ X1.out).trans (show _ = some (Value.slice ya4_0 x0_0.length yc4_0) from rfl)
    have p_X1_1 := (cell_of_row v9 _ 1 _ _ _ X1.out).trans (show _ = some (Value.int .i64 a0_1) from rfl)
    refine hK.out _ _ ⟨p_B0_0, p_B0_1, p_X1_0, p_X1_1⟩ (fun hHeld => ?_)
    clear p_B0_0 p_B0_1 p_X1_0 p_X1_1
    clear hK K
    try simp only [Act.put, List.setIfInBounds_toArray, List.set_cons_zero, List.set_cons_succ]
    refine take_runs (i := 4) (v := ?_) (by simp only [List.getElem?_toArray, List.getElem?_cons_succ, List.getElem?_cons_zero]; rfl) (by kernel_rfl) (by kernel_rfl) (by kernel_rfl) rfl (by exact fun _ _ _ h => h) (by rfl) ?_ (by assumption) ?_
    rotate_left
    · intro w hSw; (try dsimp only at hSw); go_simp; try (with_reducible rfl)
    try simp only [Act.put, List.setIfInBounds_toArray, List.set_cons_zero, List.set_cons_succ]
    refine wpAnyH_done (by kernel_rfl) ?_ _
    clear hHeld
    go_wp2
    go_ret
    exact ⟨rfl, HB0.out.trans (d.out.mono HB0.out.size)⟩
  ·
    have HZ0 : Hid ((1048576 : Int) < ((zL tVersionS x0_0 : Nat) : Int)) := Lib.hid (by omega)
    have HP0 : Hid (0 ≤ (1048576 : Int)) := Lib.hid (by omega)
    have HK0 : Hid ((1048576 : Int) ≤ 1048576) := Lib.hid (by omega)
    clear c0
    go_enter Try.func6, Try.ntmps6
    go_wp2_with fail
    have Y_W : Hid (w.heap.size + 1 ≤ (w.alloc (.cells #[.slice c0_0 x0_0.length k0_0, .int .i64 a0_1] 53)).heap.size) := Lib.hid (by simp [World.size_alloc])
    generalize (w.alloc (.cells #[.slice c0_0 x0_0.length k0_0, .int .i64 a0_1] 53)) = W at *
    have d := Lib.hid (Below.refl W.heap.size W)
    refine (szStore_N a0_1 (.slice c0_0 x0_0.length k0_0) x0_0 ((1048576 : Int)) W (slR_below tVersionS_law A0_0.out d.out) HZ0.out HK0.out HP0.out O0_0.out).mono ?_
    rintro e v1 ⟨rfl, c1⟩
    replace B0 := Lib.hid ((c1.block w.heap.size (Array.getElem?_eq_some_iff.1 B0.out).1).trans B0.out)
    replace d := Lib.hid (d.out.trans (c1.mono d.out.size))
    have Z_v1 := Lib.hid (show W.heap.size ≤ v1.heap.size from c1.size)
    clear c1
    go_wp2
    go_ret
    exact ⟨rfl, HB0.out.trans (d.out.mono HB0.out.size)⟩
end Go.Proofs.Ytginjmnohnidiaa
