/-
  Texts of the proof, merged: LawIsUpdate, OpenInts, OpnT, ORow, OUpdate.
-/
import Derived.Test.YthiiaiholcfhhaaUA2
import Derived.ProofKit
import Derived.OpenShut
import Derived.Carry
import Derived.Lib.SmallJoins
import Derived.Deep.Slices
namespace Go.Proofs.Ythiiaiholcfhhaa
open Go.RowKit
set_option linter.unusedVariables false
set_option linter.unusedSimpArgs false
set_option maxHeartbeats 32000000 in
set_option maxRecDepth 100000 in
theorem law_fnExactIsUpdate (a0_0 a0_1 a0_3 a0_4 : Int) (v0_2 : Value) (x0_2 : List Int) (r0 : Bool) (w : World) (h0_2 : SlR tInt w v0_2 x0_2) (o0_2 : tIntS.ok x0_2) 
    (hspec : ∀ (v0_2 : Value) (w : World), SlR tInt w v0_2 x0_2 → zL tInt x0_2 ≤ 1048576 → Calls Try.prog 10 #[.agg #[.int .i64 a0_0, .int .i64 a0_1, v0_2, .int .i64 a0_3, .int .i64 a0_4]] w (fun e w' => e = .returned (.bool r0) ∧ Below w.heap.size w w'))
    (himpl : ∀ (v0_2 : Value) (w : World), SlR tInt w v0_2 x0_2 → zL tInt x0_2 ≤ 1048576 → Calls Try.prog 12 #[.agg #[.int .i64 a0_0, .int .i64 a0_1, v0_2, .int .i64 a0_3, .int .i64 a0_4]] w (fun e w' => e = .returned (.bool r0) ∧ Below w.heap.size w w')) :
    Calls Try.prog 3 #[.agg #[.int .i64 a0_0, .int .i64 a0_1, v0_2, .int .i64 a0_3, .int .i64 a0_4]] w fun e w' => e = .returned (.bool true) ∧ Below w.heap.size w w' := by
  obtain ⟨c0_2, k0_2, rfl⟩ := slR_len h0_2
  have HB0 : Hid (Below w.heap.size w (w.alloc (.cells #[.int .i64 a0_0, .int .i64 a0_1, .slice c0_2 x0_2.length k0_2, .int .i64 a0_3, .int .i64 a0_4] 26))) := Lib.hid ((Below.refl _ w).alloc (Nat.le_refl _) _)
  have B0 : Hid ((w.alloc (.cells #[.int .i64 a0_0, .int .i64 a0_1, .slice c0_2 x0_2.length k0_2, .int .i64 a0_3, .int .i64 a0_4] 26)).heap[w.heap.size]? = some (.cells #[.int .i64 a0_0, .int .i64 a0_1, .slice c0_2 x0_2.length k0_2, .int .i64 a0_3, .int .i64 a0_4] 26 (0, 0))) := Lib.hid (by have := heap_alloc_new w (.cells #[.int .i64 a0_0, .int .i64 a0_1, .slice c0_2 x0_2.length k0_2, .int .i64 a0_3, .int .i64 a0_4] 26); simpa only [World.size_alloc] using this)
  have A0_2 : Hid (SlR tInt (w.alloc (.cells #[.int .i64 a0_0, .int .i64 a0_1, .slice c0_2 x0_2.length k0_2, .int .i64 a0_3, .int .i64 a0_4] 26)) (.slice c0_2 x0_2.length k0_2) x0_2) := Lib.hid (slR_below tInt_law h0_2 HB0.out)
  have O0_2 := Lib.hid o0_2
  clear h0_2 o0_2
  have HSP := Lib.hid hspec
  have HIM := Lib.hid himpl
  clear hspec himpl
  by_cases c0 : ((zL tInt x0_2 : Nat) : Int) ≤ (1048576 : Int)
  ·
    have HZ0 : Hid (((zL tInt x0_2 : Nat) : Int) ≤ (1048576 : Int)) := Lib.hid c0
    have HK0 : Hid ((1048576 : Int) ≤ 1048576) := Lib.hid (by omega)
    have hn0 : ¬ (1048576 : Int) - ((zL tInt x0_2 : Nat) : Int) < 0 := by omega
    have HT : Hid (zL tInt x0_2 ≤ 1048576) := Lib.hid (by omega)
    have S0_2 : Hid (zL tInt x0_2 ≤ 1048576) := Lib.hid (by omega)
    have N0_2 := ndL_le tInt_law (by decide) x0_2
    clear N0_2
    have e0 : (r0 != r0) = false := by simp
    clear c0
    go_enter Try.func3, Try.ntmps3
    go_wp2_with fail
    have Y_W : Hid (w.heap.size + 1 ≤ (w.alloc (.cells #[.int .i64 a0_0, .int .i64 a0_1, .slice c0_2 x0_2.length k0_2, .int .i64 a0_3, .int .i64 a0_4] 26)).heap.size) := Lib.hid (by simp [World.size_alloc])
    generalize (w.alloc (.cells #[.int .i64 a0_0, .int .i64 a0_1, .slice c0_2 x0_2.length k0_2, .int .i64 a0_3, .int .i64 a0_4] 26)) = W at *
    have d := Lib.hid (Below.refl W.heap.size W)
    refine (szUpdate_Y a0_0 a0_1 a0_3 a0_4 (.slice c0_2 x0_2.length k0_2) x0_2 ((1048576 : Int)) W (slR_below tInt_law A0_2.out d.out) HZ0.out HK0.out).mono ?_
    rintro e v1 ⟨rfl, c1⟩
    replace B0 := Lib.hid ((c1.block w.heap.size (Array.getElem?_eq_some_iff.1 B0.out).1).trans B0.out)
    replace d := Lib.hid (d.out.trans (c1.mono d.out.size))
    have Z_v1 := Lib.hid (show W.heap.size ≤ v1.heap.size from c1.size)
    clear c1
    have p_B0_0 := (cell_of_row v1 _ 0 _ _ _ B0.out).trans (show _ = some (Value.int .i64 a0_0) from rfl)
    have p_B0_1 := (cell_of_row v1 _ 1 _ _ _ B0.out).trans (show _ = some (Value.int .i64 a0_1) from rfl)
    have p_B0_2 := (cell_of_row v1 _ 2 _ _ _ B0.out).trans (show _ = some (Value.slice c0_2 x0_2.length k0_2) from rfl)
    have p_B0_3 := (cell_of_row v1 _ 3 _ _ _ B0.out).trans (show _ = some (Value.int .i64 a0_3) from rfl)
    have p_B0_4 := (cell_of_row v1 _ 4 _ _ _ B0.out).trans (show _ = some (Value.int .i64 a0_4) from rfl)
    go_wp2_with fail
    clear p_B0_0 p_B0_1 p_B0_2 p_B0_3 p_B0_4
    refine (toUpdate_T a0_0 a0_1 a0_3 a0_4 (.slice c0_2 x0_2.length k0_2) x0_2 v1 (slR_below tInt_law A0_2.out d.out) S0_2.out).mono ?_
    rintro e v2 ⟨cs, rfl, ow, c2⟩
    replace B0 := Lib.hid ((c2.block w.heap.size (Array.getElem?_eq_some_iff.1 B0.out).1).trans B0.out)
    replace d := Lib.hid (d.out.trans (c2.mono d.out.size))
    have Z_v2 := Lib.hid (show v1.heap.size ≤ v2.heap.size from c2.size)
    clear c2
    replace ow := tUpdate_law.lt ow
    obtain ⟨y2_2, K2_2, rfl, p2_2, w2_2⟩ := tUpdate_O ow
    obtain ⟨ya2_2, yc2_2, rfl⟩ := slO_len p2_2
    have P2_2 := Lib.hid p2_2
    have Q2_2 := Lib.hid (fun b h => (show v1.heap.size ≤ b ∧ b < v2.heap.size from w2_2 b h))
    clear p2_2 w2_2 ow
    go_wp2_with fail
    refine (HSP.out (.slice ya2_2 x0_2.length yc2_2) v2 (slO_reads tInt_law P2_2.out) HT.out ).mono ?_
    rintro e v3 ⟨rfl, c3⟩
    replace B0 := Lib.hid ((c3.block w.heap.size (Array.getElem?_eq_some_iff.1 B0.out).1).trans B0.out)
    replace P2_2 := Lib.hid (slO_fresh tInt_law P2_2.out c3)
    replace d := Lib.hid (d.out.trans (c3.mono d.out.size))
    have Z_v3 := Lib.hid (show v2.heap.size ≤ v3.heap.size from c3.size)
    clear c3
    have p_B0_0 := (cell_of_row v3 _ 0 _ _ _ B0.out).trans (show _ = some (Value.int .i64 a0_0) from rfl)
    have p_B0_1 := (cell_of_row v3 _ 1 _ _ _ B0.out).trans (show _ = some (Value.int .i64 a0_1) from rfl)
    have p_B0_2 := (cell_of_row v3 _ 2 _ _ _ B0.out).trans (show _ = some (Value.slice c0_2 x0_2.length k0_2) from rfl)
    have p_B0_3 := (cell_of_row v3 _ 3 _ _ _ B0.out).trans (show _ = some (Value.int .i64 a0_3) from rfl)
    have p_B0_4 := (cell_of_row v3 _ 4 _ _ _ B0.out).trans (show _ = some (Value.int .i64 a0_4) from rfl)
    go_wp2_with fail
    clear p_B0_0 p_B0_1 p_B0_2 p_B0_3 p_B0_4
    refine (toUpdate_T a0_0 a0_1 a0_3 a0_4 (.slice c0_2 x0_2.length k0_2) x0_2 v3 (slR_below tInt_law A0_2.out d.out) S0_2.out).mono ?_
    rintro e v4 ⟨cs, rfl, ow, c4⟩
    replace B0 := Lib.hid ((c4.block w.heap.size (Array.getElem?_eq_some_iff.1 B0.out).1).trans B0.out)
    replace P2_2 := Lib.hid (slO_fresh tInt_law P2_2.out c4)
    replace d := Lib.hid (d.out.trans (c4.mono d.out.size))
    have Z_v4 := Lib.hid (show v3.heap.size ≤ v4.heap.size from c4.size)
    clear c4
    replace ow := tUpdate_law.lt ow
    obtain ⟨y4_2, K4_2, rfl, p4_2, w4_2⟩ := tUpdate_O ow
    obtain ⟨ya4_2, yc4_2, rfl⟩ := slO_len p4_2
    have P4_2 := Lib.hid p4_2
    have Q4_2 := Lib.hid (fun b h => (show v3.heap.size ≤ b ∧ b < v4.heap.size from w4_2 b h))
    clear p4_2 w4_2 ow
    have hal : Below v4.heap.size v4 (v4.alloc (.cells #[.int .i64 a0_0, .int .i64 a0_1, .slice ya4_2 x0_2.length yc4_2, .int .i64 a0_3, .int .i64 a0_4] 31)) := (Below.refl _ _).alloc (Nat.le_refl _) _
    have X1 := Lib.hid (heap_alloc_new v4 (.cells #[.int .i64 a0_0, .int .i64 a0_1, .slice ya4_2 x0_2.length yc4_2, .int .i64 a0_3, .int .i64 a0_4] 31))
    have Y_X1 := Lib.hid (show v4.heap.size < (v4.alloc (.cells #[.int .i64 a0_0, .int .i64 a0_1, .slice ya4_2 x0_2.length yc4_2, .int .i64 a0_3, .int .i64 a0_4] 31)).heap.size by simp [World.size_alloc])
    replace B0 := Lib.hid ((hal.block w.heap.size (Array.getElem?_eq_some_iff.1 B0.out).1).trans B0.out)
    replace P2_2 := Lib.hid (slO_fresh tInt_law P2_2.out hal)
    replace P4_2 := Lib.hid (slO_fresh tInt_law P4_2.out hal)
    replace d := Lib.hid (d.out.trans (hal.mono d.out.size))
    clear hal
    have p_X1_0 := (cell_of_row (v4.alloc (.cells #[.int .i64 a0_0, .int .i64 a0_1, .slice ya4_2 x0_2.length yc4_2, .int .i64 a0_3, .int .i64 a0_4] 31)) _ 0 _ _ _ X1.out).trans (show _ = some (Value.int .i64 a0_0) from rfl)
    have p_X1_1 := (cell_of_row (v4.alloc (.cells #[.int .i64 a0_0, .int .i64 a0_1, .slice ya4_2 x0_2.length yc4_2, .int .i64 a0_3, .int .i64 a0_4] 31)) _ 1 _ _ _ X1.out).trans (show _ = some (Value.int .i64 a0_1) from rfl)
    have p_X1_2 := (cell_of_row (v4.alloc (.cells #[.int .i64 a0_0, .int .i64 a0_1, .slice ya4_2 x0_2.length yc4_2, .int .i64 a0_3, .int .i64 a0_4] 31)) _ 2 _ _ _ X1.out).trans (show _ = some (Value.slice ya4_2 x0_2.length yc4_2) from rfl)
    have p_X1_3 := (cell_of_row (v4.alloc (.cells #[.int .i64 a0_0, .int .i64 a0_1, .slice ya4_2 x0_2.length yc4_2, .int .i64 a0_3, .int .i64 a0_4] 31)) _ 3 _ _ _ X1.out).trans (show _ = some (Value.int .i64 a0_3) from rfl)
    have p_X1_4 := (cell_of_row (v4.alloc (.cells #[.int .i64 a0_0, .int .i64 a0_1, .slice ya4_2 x0_2.length yc4_2, .int .i64 a0_3, .int .i64 a0_4] 31)) _ 4 _ _ _ X1.out).trans (show _ = some (Value.int .i64 a0_4) from rfl)
    go_wp2_with fail
    clear p_X1_0 p_X1_1 p_X1_2 p_X1_3 p_X1_4
    generalize (v4.alloc (.cells #[.int .i64 a0_0, .int .i64 a0_1, .slice ya4_2 x0_2.length yc4_2, .int .i64 a0_3, .int .i64 a0_4] 31)) = u5 at *
    refine (HIM.out (.slice ya4_2 x0_2.length yc4_2) u5 (slO_reads tInt_law P4_2.out) HT.out ).mono ?_
    rintro e v6 ⟨rfl, c6⟩
    replace B0 := Lib.hid ((c6.block w.heap.size (Array.getElem?_eq_some_iff.1 B0.out).1).trans B0.out)
    replace X1 := Lib.hid ((c6.block v4.heap.size (Array.getElem?_eq_some_iff.1 X1.out).1).trans X1.out)
    replace P2_2 := Lib.hid (slO_fresh tInt_law P2_2.out c6)
    replace P4_2 := Lib.hid (slO_fresh tInt_law P4_2.out c6)
    replace d := Lib.hid (d.out.trans (c6.mono d.out.size))
    have Z_v6 := Lib.hid (show u5.heap.size ≤ v6.heap.size from c6.size)
    clear c6
    go_wp2
    have p_B0_0 := (cell_of_row v6 _ 0 _ _ _ B0.out).trans (show _ = some (Value.int .i64 a0_0) from rfl)
    have p_B0_1 := (cell_of_row v6 _ 1 _ _ _ B0.out).trans (show _ = some (Value.int .i64 a0_1) from rfl)
    have p_B0_2 := (cell_of_row v6 _ 2 _ _ _ B0.out).trans (show _ = some (Value.slice c0_2 x0_2.length k0_2) from rfl)
    have p_B0_3 := (cell_of_row v6 _ 3 _ _ _ B0.out).trans (show _ = some (Value.int .i64 a0_3) from rfl)
    have p_B0_4 := (cell_of_row v6 _ 4 _ _ _ B0.out).trans (show _ = some (Value.int .i64 a0_4) from rfl)
    have p_X1_0 := (cell_of_row v6 _ 0 _ _ _ X1.out).trans (show _ = some (Value.int .i64 a0_0) from rfl)
    have p_X1_1 := (cell_of_row v6 _ 1 _ _ _ X1.out).trans (show _ = some (Value.int .i64 a0_1) from rfl)
    have p_X1_2 := (cell_of_row v6 _ 2 _ _ _ X1.out).trans (show _ = some (Value.slice ya4_2 x0_2.length yc4_2) from rfl)
    have p_X1_3 := (cell_of_row v6 _ 3 _ _ _ X1.out).trans (show _ = some (Value.int .i64 a0_3) from rfl)
    have p_X1_4 := (cell_of_row v6 _ 4 _ _ _ X1.out).trans (show _ = some (Value.int .i64 a0_4) from rfl)
    refine wp_region_held_drew (S := fun w' => w'.cell? ⟨w.heap.size, 0, none⟩ = some (Value.int .i64 a0_0) ∧ w'.cell? ⟨w.heap.size, 1, none⟩ = some (Value.int .i64 a0_1) ∧ w'.cell? ⟨w.heap.size, 2, none⟩ = some (Value.slice c0_2 x0_2.length k0_2) ∧ w'.cell? ⟨w.heap.size, 3, none⟩ = some (Value.int .i64 a0_3) ∧ w'.cell? ⟨w.heap.size, 4, none⟩ = some (Value.int .i64 a0_4) ∧ w'.cell? ⟨v4.heap.size, 0, none⟩ = some (Value.int .i64 a0_0) ∧ w'.cell? ⟨v4.heap.size, 1, none⟩ = some (Value.int .i64 a0_1) ∧ w'.cell? ⟨v4.heap.size, 2, none⟩ = some (Value.slice ya4_2 x0_2.length yc4_2) ∧ w'.cell? ⟨v4.heap.size, 3, none⟩ = some (Value.int .i64 a0_3) ∧ w'.cell? ⟨v4.heap.size, 4, none⟩ = some (Value.int .i64 a0_4)) (by kernel_rfl) ⟨p_B0_0, p_B0_1, p_B0_2, p_B0_3, p_B0_4, p_X1_0, p_X1_1, p_X1_2, p_X1_3, p_X1_4⟩ (fun hHeld => ?_)
    clear p_B0_0 p_B0_1 p_B0_2 p_B0_3 p_B0_4 p_X1_0 p_X1_1 p_X1_2 p_X1_3 p_X1_4
    have cd7 : Below v6.heap.size v6 v6.drew := below_drew (Below.refl _ _)
    replace B0 := Lib.hid ((cd7.block w.heap.size (Array.getElem?_eq_some_iff.1 B0.out).1).trans B0.out)
    replace X1 := Lib.hid ((cd7.block v4.heap.size (Array.getElem?_eq_some_iff.1 X1.out).1).trans X1.out)
    replace P2_2 := Lib.hid (slO_fresh tInt_law P2_2.out cd7)
    replace P4_2 := Lib.hid (slO_fresh tInt_law P4_2.out cd7)
    replace d := Lib.hid (d.out.trans (cd7.mono d.out.size))
    clear cd7
    refine take_runs (i := 0) (v := ?_) (by simp only [List.getElem?_toArray, List.getElem?_cons_succ, List.getElem?_cons_zero]; rfl) (by kernel_rfl) (by kernel_rfl) (by kernel_rfl) rfl (by exact fun _ _ _ h => h) (by rfl) ?_ (by assumption) ?_
    rotate_left
    · intro w hSw; (try dsimp only at hSw); go_simp; try (with_reducible rfl)
    try simp only [Act.put, List.setIfInBounds_toArray, List.set_cons_zero, List.set_cons_succ]
    refine take_runs (i := 1) (v := ?_) (by simp only [List.getElem?_toArray, List.getElem?_cons_succ, List.getElem?_cons_zero]; rfl) (by kernel_rfl) (by kernel_rfl) (by kernel_rfl) rfl (by exact fun _ _ _ h => h) (by rfl) ?_ (by assumption) ?_
    rotate_left
    · intro w hSw; (try dsimp only at hSw); go_simp; try (with_reducible rfl)
    try simp only [Act.put, List.setIfInBounds_toArray, List.set_cons_zero, List.set_cons_succ]
    refine wpAnyH_ready (rs := [2]) (by kernel_rfl) (by simp) ?_
    refine AllReadyH.cons (o := _) (by simp only [List.getElem?_toArray, List.getElem?_cons_succ, List.getElem?_cons_zero]; rfl) (fun K hK => ?_) AllReadyH.nil
    go_simp
    refine (toUpdate_T a0_0 a0_1 a0_3 a0_4 (.slice c0_2 x0_2.length k0_2) x0_2 (v6.drew) (slR_below tInt_law A0_2.out d.out) S0_2.out).mono ?_
    rintro e v8 ⟨cs, rfl, ow, c8⟩
    replace B0 := Lib.hid ((c8.block w.heap.size (Array.getElem?_eq_some_iff.1 B0.out).1).trans B0.out)
    replace X1 := Lib.hid ((c8.block v4.heap.size (Array.getElem?_eq_some_iff.1 X1.out).1).trans X1.out)
    replace P2_2 := Lib.hid (slO_fresh tInt_law P2_2.out c8)
    replace P4_2 := Lib.hid (slO_fresh tInt_law P4_2.out c8)
    replace d := Lib.hid (d.out.trans (c8.mono d.out.size))
    have Z_v8 := Lib.hid (show v6.heap.size ≤ v8.heap.size from c8.size)
    clear c8
    replace ow := tUpdate_law.lt ow
    obtain ⟨y8_2, K8_2, rfl, p8_2, w8_2⟩ := tUpdate_O ow
    obtain ⟨ya8_2, yc8_2, rfl⟩ := slO_len p8_2
    have P8_2 := Lib.hid p8_2
    have Q8_2 := Lib.hid (fun b h => (show (v6.drew).heap.size ≤ b ∧ b < v8.heap.size from w8_2 b h))
    clear p8_2 w8_2 ow
    have p_B0_0 := (cell_of_row v8 _ 0 _ _ _ B0.out).trans (show _ = some (Value.int .i64 a0_0) from rfl)
    have p_B0_1 := (cell_of_row v8 _ 1 _ _ _ B0.out).trans (show _ = some (Value.int .i64 a0_1) from rfl)
    have p_B0_2 := (cell_of_row v8 _ 2 _ _ _ B0.out).trans (show _ = some (Value.slice c0_2 x0_2.length k0_2) from rfl)
    have p_B0_3 := (cell_of_row v8 _ 3 _ _ _ B0.out).trans (show _ = some (Value.int .i64 a0_3) from rfl)
    have p_B0_4 := (cell_of_row v8 _ 4 _ _ _ B0.out).trans (show _ = some (Value.int .i64 a0_4) from rfl)
    have p_X1_0 := (cell_of_row v8 _ 0 _ _ _ X1.out).trans (show _ = some (Value.int .i64 a0_0) from rfl)
    have p_X1_1 := (cell_of_row v8 _ 1 _ _ _ X1.out).trans (show _ = some (Value.int .i64 a0_1) from rfl)
    have p_X1_2 := (cell_of_row v8 _ 2 _ _ _ X1.out).trans (show _ = some (Value.slice ya4_2 x0_2.length yc4_2) from rfl)
    have p_X1_3 := (cell_of_row v8 _ 3 _ _ _ X1.out).trans (show _ = some (Value.int .i64 a0_3) from rfl)
    have p_X1_4 := (cell_of_row v8 _ 4 _ _ _ X1.out).trans (show _ = some (Value.int .i64 a0_4) from rfl)
    refine hK.out _ _ ⟨p_B0_0, p_B0_1, p_B0_2, p_B0_3, p_B0_4, p_X1_0, p_X1_1, p_X1_2, p_X1_3, p_X1_4⟩ (fun hHeld => ?_)
    clear p_B0_0 p_B0_1 p_B0_2 p_B0_3 p_B0_4 p_X1_0 p_X1_1 p_X1_2 p_X1_3 p_X1_4
    clear hK K
    try simp only [Act.put, List.setIfInBounds_toArray, List.set_cons_zero, List.set_cons_succ]
    refine wpAnyH_ready (rs := [3]) (by kernel_rfl) (by simp) ?_
    refine AllReadyH.cons (o := _) (by simp only [List.getElem?_toArray, List.getElem?_cons_succ, List.getElem?_cons_zero]; rfl) (fun K hK => ?_) AllReadyH.nil
    go_simp
    refine (eqUpdate_T a0_0 a0_1 a0_3 a0_4 (.slice ya4_2 x0_2.length yc4_2) x0_2 (.slice ya8_2 x0_2.length yc8_2) v8 (slO_reads tInt_law P4_2.out) (slO_reads tInt_law P8_2.out) S0_2.out).mono ?_
    rintro e v9 ⟨rfl, c9⟩
    replace B0 := Lib.hid ((c9.block w.heap.size (Array.getElem?_eq_some_iff.1 B0.out).1).trans B0.out)
    replace X1 := Lib.hid ((c9.block v4.heap.size (Array.getElem?_eq_some_iff.1 X1.out).1).trans X1.out)
    replace P2_2 := Lib.hid (slO_fresh tInt_law P2_2.out c9)
    replace P4_2 := Lib.hid (slO_fresh tInt_law P4_2.out c9)
    replace P8_2 := Lib.hid (slO_fresh tInt_law P8_2.out c9)
    replace d := Lib.hid (d.out.trans (c9.mono d.out.size))
    have Z_v9 := Lib.hid (show v8.heap.size ≤ v9.heap.size from c9.size)
    clear c9
    clear P8_2
    have p_B0_0 := (cell_of_row v9 _ 0 _ _ _ B0.out).trans (show _ = some (Value.int .i64 a0_0) from rfl)
    have p_B0_1 := (cell_of_row v9 _ 1 _ _ _ B0.out).trans (show _ = some (Value.int .i64 a0_1) from rfl)
    have p_B0_2 := (cell_of_row v9 _ 2 _ _ _ B0.out).trans (show _ = some (Value.slice c0_2 x0_2.length k0_2) from rfl)
    have p_B0_3 := (cell_of_row v9 _ 3 _ _ _ B0.out).trans (show _ = some (Value.int .i64 a0_3) from rfl)
    have p_B0_4 := (cell_of_row v9 _ 4 _ _ _ B0.out).trans (show _ = some (Value.int .i64 a0_4) from rfl)
    have p_X1_0 := (cell_of_row v9 _ 0 _ _ _ X1.out).trans (show _ = some (Value.int .i64 a0_0) from rfl)
    have p_X1_1 := (cell_of_row v9 _ 1 _ _ _ X1.out).trans (show _ = some (Value.int .i64 a0_1) from rfl)
    have p_X1_2 := (cell_of_row v9 _ 2 _ _ _ X1.out).trans (show _ = some (Value.slice ya4_2 x0_2.length yc4_2) from rfl)
    have p_X1_3 := (cell_of_row v9 _ 3 _ _ _ X1.out).trans (show _ = some (Value.int .i64 a0_3) from rfl)
    have p_X1_4 := (cell_of_row v9 _ 4 _ _ _ X1.out).trans (show _ = some (Value.int .i64 a0_4) from rfl)
    refine hK.out _ _ ⟨p_B0_0, p_B0_1, p_B0_2, p_B0_3, p_B0_4, p_X1_0, p_X1_1, p_X1_2, p_X1_3, p_X1_4⟩ (fun hHeld => ?_)
    clear p_B0_0 p_B0_1 p_B0_2 p_B0_3 p_B0_4 p_X1_0 p_X1_1 p_X1_2 p_X1_3 p_X1_4
    clear hK K
    try simp only [Act.put, List.setIfInBounds_toArray, List.set_cons_zero, List.set_cons_succ]
    refine take_runs (i := 4) (v := ?_) (by simp only [List.getElem?_toArray, List.getElem?_cons_succ, List.getElem?_cons_zero]; rfl) (by kernel_rfl) (by kernel_rfl) (by kernel_rfl) rfl (by exact fun _ _ _ h => h) (by rfl) ?_ (by assumption) ?_
    rotate_left
    · intro w hSw; (try dsimp only at hSw); go_simp; try (with_reducible rfl)
    try simp only [Act.put, List.setIfInBounds_toArray, List.set_cons_zero, List.set_cons_succ]
    refine wpAnyH_done (by kernel_rfl) ?_ _
    clear hHeld
    go_wp2
    go_ret
    exact ⟨rfl, HB0.out.trans (d.out.mono HB0.out.size)⟩
  ·
    have HZ0 : Hid ((1048576 : Int) < ((zL tInt x0_2 : Nat) : Int)) := Lib.hid (by omega)
    have HP0 : Hid (0 ≤ (1048576 : Int)) := Lib.hid (by omega)
    have HK0 : Hid ((1048576 : Int) ≤ 1048576) := Lib.hid (by omega)
    clear c0
    go_enter Try.func3, Try.ntmps3
    go_wp2_with fail
    have Y_W : Hid (w.heap.size + 1 ≤ (w.alloc (.cells #[.int .i64 a0_0, .int .i64 a0_1, .slice c0_2 x0_2.length k0_2, .int .i64 a0_3, .int .i64 a0_4] 26)).heap.size) := Lib.hid (by simp [World.size_alloc])
    generalize (w.alloc (.cells #[.int .i64 a0_0, .int .i64 a0_1, .slice c0_2 x0_2.length k0_2, .int .i64 a0_3, .int .i64 a0_4] 26)) = W at *
    have d := Lib.hid (Below.refl W.heap.size W)
    refine (szUpdate_N a0_0 a0_1 a0_3 a0_4 (.slice c0_2 x0_2.length k0_2) x0_2 ((1048576 : Int)) W (slR_below tInt_law A0_2.out d.out) HZ0.out HK0.out HP0.out O0_2.out).mono ?_
    rintro e v1 ⟨rfl, c1⟩
    replace B0 := Lib.hid ((c1.block w.heap.size (Array.getElem?_eq_some_iff.1 B0.out).1).trans B0.out)
    replace d := Lib.hid (d.out.trans (c1.mono d.out.size))
    have Z_v1 := Lib.hid (show W.heap.size ≤ v1.heap.size from c1.size)
    clear c1
    go_wp2
    go_ret
    exact ⟨rfl, HB0.out.trans (d.out.mono HB0.out.size)⟩
end Go.Proofs.Ythiiaiholcfhhaa
namespace Go.Proofs.Ythiiaiholcfhhaa
open Go.ChangeShapes Go.WideShapes Go.ChangeAt Go.WideMaps Go.WideElems Go.RowKit
set_option linter.unusedVariables false
theorem laidOutP : laidOutB Try.prog = true := by kernel_rfl
end Go.Proofs.Ythiiaiholcfhhaa
namespace Go.Proofs.Ythiiaiholcfhhaa
open Go.ChangeShapes Go.WideShapes Go.ChangeAt Go.WideMaps Go.WideElems Go.RowKit
set_option linter.unusedVariables false
/-- Cells that the statement reads as a value of the type t are a datum of the kind T. -/
def Opn {α : Type} (T : Ty α) (t : TypeId) : Prop := ∀ {H : Type} {enc : TypeId × Value → H} {W : World} {held : Bool} {fuel : Nat} {cs : List Value} {x : DataW H × List MemPlace}, DataW.trod enc Try.prog W 0 (fun _ => true) held fuel t cs = some x → ∃ d, T.R W cs d ∧ T.ok d
theorem opn_int : Opn tInt 3 := by
  intro H enc W held fuel cs x h
  obtain ⟨a, e, _, _⟩ := DataW.trod_int Try.underlying3 h
  exact ⟨a, e, trivial⟩
theorem opn_cast {α : Type} {T : Ty α} {t : TypeId} (O : Opn T t) {H : Type} {enc : TypeId × Value → H} {W : World} {held : Bool} {fuel : Nat} {cs : List Value} {o k : Nat} {x : Option (DataW H × List MemPlace)} (hx : x.isSome) (h : DataW.trod enc Try.prog W 0 (fun _ => true) held fuel t ((cs.drop o).take k) = x) :
    ∃ d, T.R W ((cs.drop o).take k) d ∧ T.ok d := by
  cases x with
  | none => cases hx
  | some y => exact O h
set_option maxRecDepth 100000 in
theorem opn_slice {α : Type} {T : Ty α} (A : T.Law) {e t : TypeId} (e' : TypeId) (O : Opn T e) (hu : Try.prog.underlying t = some (.slice e)) (hC : Try.prog.cellsOf e = T.n) : Opn (tSl e' T) t := by
  intro H enc W held fuel cs x hf
  rcases Go.Deep.open_slice hu hf with ⟨rfl, _⟩ | ⟨a', len', cap', m, n, D, Pl, rfl, _, hl, hm, hmm, _, hx⟩
  · exact ⟨[], ⟨_, rfl, Or.inl ⟨rfl, none, 0, rfl⟩⟩, by simp, fun j hj => by simp at hj⟩
  · rw [if_pos rfl] at hmm
    subst hmm
    unfold maxLen at hm
    rw [hC] at hx
    have hpos := A.pos
    haveI : Inhabited α := ⟨T.d⟩
    obtain ⟨f, hf'⟩ := Go.Deep.choose_lt (α := α × List Value) (n := len') (p := fun i q => (∀ j, j < T.n → W.cell? ((a'.add (i * T.n)).add j) = q.2[j]?) ∧ T.R W q.2 q.1 ∧ T.ok q.1) (fun i hi => by
      obtain ⟨cs', h1, h2⟩ := hx i (by omega)
      obtain ⟨_, hlen, hc⟩ := World.cells?_some h1
      obtain ⟨d, hd, ho⟩ := O h2
      exact ⟨(d, cs'), hc, hd, ho⟩)
    have hat : ∀ j, j < len' → ((List.range len').map fun i => (f i).1).getD j T.d = (f j).1 := fun j hj => by simp [List.getD, hj]
    have hlen : ((List.range len').map fun i => (f i).1).length = len' := by simp
    refine ⟨(List.range len').map fun i => (f i).1, ⟨_, rfl, ?_⟩, by rw [hlen]; omega, fun j hj => by rw [hlen] at hj; rw [hat j hj]; exact (hf' j hj).2.2⟩
    by_cases h0 : len' = 0
    · subst h0
      exact Or.inl ⟨rfl, some a', _, rfl⟩
    · have h1 := (hf' 0 (by omega)).1 0 hpos
      have hcl : 0 < (f 0).2.length := by rw [A.len (hf' 0 (by omega)).2.1]; exact hpos
      rw [List.getElem?_eq_getElem hcl] at h1
      obtain ⟨b, off, spot⟩ := a'
      have hspot : spot = none := by simpa [Addr.add] using World.cell?_spot h1
      subst hspot
      refine Or.inr ⟨b, off, _, fun i => (f i).2, by rw [hlen], by rw [hlen]; exact hl, ?_, ?_⟩
      · have := World.block_lt_of_cell? W _ h1
        simpa [Addr.add] using this
      · intro j hj
        rw [hlen] at hj
        obtain ⟨g1, g2, _⟩ := hf' j hj
        rw [hat j hj]
        refine ⟨fun i hi => ?_, g2⟩
        have := g1 i hi
        rw [Go.WideShapes.add_plain, Go.WideShapes.add_plain] at this
        exact this
theorem opn_ints (e' : TypeId) : Opn (tSl e' tInt) 22 := opn_slice tInt_law e' opn_int Try.underlying22 (by kernel_rfl)
set_option maxRecDepth 100000 in
/-- A struct as an argument. -/
theorem stA_open {α : Type} {T : Ty α} {t : TypeId} {fs : Array Field} (O : Opn T t) (hu : Try.prog.underlying t = some (.struct fs)) {H : Type} {enc : TypeId × Value → H} {W : World} {r : Reach} {b0 : Nat} {v : Value} {d : DataW H} {p : List MemPlace}
    (hval : Value.okWide Try.prog W r b0 t v) (h : DataW.Trod enc Try.prog W 0 (fun _ => true) true t v d p) : ∃ cs x, v = .agg cs.toArray ∧ T.R W cs x ∧ T.ok x := by
  obtain ⟨⟨cs⟩, rfl, hsz⟩ := okWide_struct hu hval
  obtain ⟨fuel, hf⟩ := h
  obtain ⟨x, h, ho⟩ := O hf
  exact ⟨cs, x, rfl, h, ho⟩
end Go.Proofs.Ythiiaiholcfhhaa
namespace Go.Proofs.Ythiiaiholcfhhaa
open Go.ChangeShapes Go.WideShapes Go.ChangeAt Go.WideMaps Go.WideElems Go.RowKit
set_option linter.unusedVariables false
set_option maxRecDepth 100000 in
theorem opn_Row : Opn tRow 24 := by
  intro H enc W held fuel cs x h
  obtain ⟨xs, n, _, _, hl, hlen, hf⟩ := DataW.trod_struct Try.underlying24 h
  have hl2 : cs.length = 2 := hl.trans (by kernel_rfl)
  have hn : xs.length = 2 := hlen
  have f0 : DataW.trod enc Try.prog W 0 (fun _ => true) held n 3 ((cs.drop 0).take (Try.prog.cellsOf 3)) = xs[0]? := hf 0 _ rfl
  rw [show Try.prog.cellsOf 3 = 1 from by kernel_rfl] at f0
  obtain ⟨d0, r0, o0⟩ := opn_cast (opn_int) (by rw [List.getElem?_eq_getElem (by omega)]; rfl) f0
  have f1 : DataW.trod enc Try.prog W 0 (fun _ => true) held n 22 ((cs.drop 1).take (Try.prog.cellsOf 22)) = xs[1]? := hf 1 _ rfl
  rw [show Try.prog.cellsOf 22 = 1 from by kernel_rfl] at f1
  obtain ⟨d1, r1, o1⟩ := opn_cast (opn_ints 3) (by rw [List.getElem?_eq_getElem (by omega)]; rfl) f1
  exact ⟨(d0, d1), ⟨(cs.drop 0).take 1, cs.drop 1, (List.take_append_drop 1 cs).symm, r0, (by have e := List.take_of_length_le (l := cs.drop 1) (i := 1) (by rw [List.length_drop]; omega); rw [e] at r1; exact r1)⟩, ⟨o0, o1⟩⟩
end Go.Proofs.Ythiiaiholcfhhaa
namespace Go.Proofs.Ythiiaiholcfhhaa
open Go.ChangeShapes Go.WideShapes Go.ChangeAt Go.WideMaps Go.WideElems Go.RowKit
set_option linter.unusedVariables false
theorem recT_Update : Try.prog.readableRec 26 = true := by kernel_rfl
theorem rowT_Update : 26 < Try.prog.types.size := of_decide_eq_true (by kernel_rfl)
set_option maxRecDepth 100000 in
theorem opn_Update : Opn tUpdate 26 := by
  intro H enc W held fuel cs x h
  obtain ⟨xs, n, _, _, hl, hlen, hf⟩ := DataW.trod_struct Try.underlying26 h
  have hl2 : cs.length = 5 := hl.trans (by kernel_rfl)
  have hn : xs.length = 4 := hlen
  have f0 : DataW.trod enc Try.prog W 0 (fun _ => true) held n 3 ((cs.drop 0).take (Try.prog.cellsOf 3)) = xs[0]? := hf 0 _ rfl
  rw [show Try.prog.cellsOf 3 = 1 from by kernel_rfl] at f0
  obtain ⟨d0, r0, o0⟩ := opn_cast (opn_int) (by rw [List.getElem?_eq_getElem (by omega)]; rfl) f0
  have f1 : DataW.trod enc Try.prog W 0 (fun _ => true) held n 24 ((cs.drop 1).take (Try.prog.cellsOf 24)) = xs[1]? := hf 1 _ rfl
  rw [show Try.prog.cellsOf 24 = 2 from by kernel_rfl] at f1
  obtain ⟨d1, r1, o1⟩ := opn_cast (opn_Row) (by rw [List.getElem?_eq_getElem (by omega)]; rfl) f1
  have f2 : DataW.trod enc Try.prog W 0 (fun _ => true) held n 3 ((cs.drop 3).take (Try.prog.cellsOf 3)) = xs[2]? := hf 2 _ rfl
  rw [show Try.prog.cellsOf 3 = 1 from by kernel_rfl] at f2
  obtain ⟨d2, r2, o2⟩ := opn_cast (opn_int) (by rw [List.getElem?_eq_getElem (by omega)]; rfl) f2
  have f3 : DataW.trod enc Try.prog W 0 (fun _ => true) held n 3 ((cs.drop 4).take (Try.prog.cellsOf 3)) = xs[3]? := hf 3 _ rfl
  rw [show Try.prog.cellsOf 3 = 1 from by kernel_rfl] at f3
  obtain ⟨d3, r3, o3⟩ := opn_cast (opn_int) (by rw [List.getElem?_eq_getElem (by omega)]; rfl) f3
  exact ⟨(d0, d1, d2, d3), ⟨(cs.drop 0).take 1, cs.drop 1, (List.take_append_drop 1 cs).symm, r0, ⟨(cs.drop 1).take 2, cs.drop 3, (List.take_append_drop 2 (cs.drop 1)).symm.trans (by simp), r1, ⟨(cs.drop 3).take 1, cs.drop 4, (List.take_append_drop 1 (cs.drop 3)).symm.trans (by simp), r2, (by have e := List.take_of_length_le (l := cs.drop 4) (i := 1) (by rw [List.length_drop]; omega); rw [e] at r3; exact r3)⟩⟩⟩, ⟨o0, ⟨o1, ⟨o2, o3⟩⟩⟩⟩
set_option maxRecDepth 100000 in
theorem shut_Update {H : Type} {enc : TypeId × Value → H} {W W' : World} {v : Value} {d : DataW H} {ps : List MemPlace} (h : DataW.Trod enc Try.prog W 0 (fun _ => true) true 26 v d ps) (hb : Below W.heap.size W W') (hlt : ∀ x ∈ ps, x.block < W.heap.size) :
    DataW.Trod enc Try.prog W' 0 (fun b => decide (b < W.heap.size)) true 26 v d ps := Below.trod laidOutP recT_Update rowT_Update h hb hlt
end Go.Proofs.Ythiiaiholcfhhaa
