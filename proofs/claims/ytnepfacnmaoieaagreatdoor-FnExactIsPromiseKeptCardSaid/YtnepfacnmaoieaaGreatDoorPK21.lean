/-
 Texts of the proof, merged: LawIsPromiseKept.
-/
import Derived.Test.YtnepfacnmaoieaaGreatDoorPK1
import Derived.Test.YtnepfacnmaoieaaGreatDoorPK3
import Derived.Test.YtnepfacnmaoieaaGreatDoorPK12
import Derived.Test.YtnepfacnmaoieaaGreatDoorPK16
import Derived.Test.YtnepfacnmaoieaaGreatDoorPK17
import Derived.BigQuiet
import Derived.Deep.QuietTactic
import Derived.Deep.RegionHeld3
import Derived.Deep.Cut
namespace Go.Proofs.YtnepfacnmaoieaaGreatDoor
open Go.RowKit
set_option linter.unusedVariables false
set_option linter.unusedSimpArgs false
set_option maxHeartbeats 32000000 in
set_option maxRecDepth 100000 in
theorem law_fnExactIsPromiseKept (c0 : List Value) (x0 : _) (r0 : Bool) (w : World) (h0 : tEngine.R w c0 x0) (o0 : tEngine.ok x0) 
  (hspec : ∀ (c0 : List Value) (w : World), tEngine.R w c0 x0 → tEngine.sz x0 ≤ 1048576 → Calls Tryz.prog 18 #[.agg c0.toArray] w (fun e w' => e = .returned (.bool r0) ∧ Below w.heap.size w w'))
  (himpl : ∀ (c0 : List Value) (u : World), Below w.heap.size w u → tEngine.R u c0 x0 → tEngine.sz x0 ≤ 1048576 → Calls Tryz.prog 19 #[.agg c0.toArray] u (fun e w' => e = .returned (.bool r0) ∧ Below u.heap.size u w')) :
  Calls Tryz.prog 4 #[.agg c0.toArray] w fun e w' => e = .returned (.bool true) ∧ Below w.heap.size w w' := by
 obtain ⟨q0_0, q0_1, q0_2, q0_3, q0_4, q0_5, q0_6, q0_7, rfl⟩ := len8 (tEngine_law.len h0)
 have A0 := zh h0
 have O0 := zh o0
 have HSP := zh hspec
 have HIM := zh himpl
 clear hspec himpl h0 o0 
 by_cases c0 : ((tEngine.sz x0 : Nat) : Int) ≤ (1048576 : Int)
 ·
  have HZ0 : Hid (((tEngine.sz x0 : Nat) : Int) ≤ (1048576 : Int)) := zh c0
  have HK0 : Hid ((1048576 : Int) ≤ 1048576) := zh (by omega)
  have hn0 : ¬ (1048576 : Int) - ((tEngine.sz x0 : Nat) : Int) < 0 := by omega
  have HT : Hid (tEngine.sz x0 ≤ 1048576) := zh (by omega)
  have S0 : Hid (tEngine.sz x0 ≤ 1048576) := zh (by omega)
  have e0 : (r0 != r0) = false := by simp
  clear c0
  have SP : Hid (St w [iB w.heap.size [q0_0, q0_1, q0_2, q0_3, q0_4, q0_5, q0_6, q0_7] 30] (w.alloc (.cells #[q0_0, q0_1, q0_2, q0_3, q0_4, q0_5, q0_6, q0_7] 30))) := zh (by have := (St.init w).box [q0_0, q0_1, q0_2, q0_3, q0_4, q0_5, q0_6, q0_7] 30; simpa only [World.size_alloc] using this)
  go_enter Tryz.func4, Tryz.ntmps4
  have ld_B0 := cell8 (SP.out.gB 0 rfl)
  go_wp2_with fail
  clear ld_B0
  generalize (w.alloc (.cells #[q0_0, q0_1, q0_2, q0_3, q0_4, q0_5, q0_6, q0_7] 30)) = u1 at *
  refine (szK_Engine (k0 := (1048576 : Int)) (tEngine_law.below A0.out SP.out.d) HK0.out (by have := HZ0.out; omega) O0.out).mono ?_
  rintro e v2 ⟨rfl, c⟩
  rw [szR_y (by have := HZ0.out; omega)]
  replace SP := zh (SP.out.below c)
  clear c
  have ld_B0 := cell8 (SP.out.gB 0 rfl)
  go_wp2_with fail
  clear ld_B0
  refine (toK_Engine (tEngine_law.below A0.out SP.out.d) S0.out).mono ?_
  rintro e v3 ⟨g, rfl, o, c⟩
  obtain ⟨g3_0, g3_1, g3_2, g3_3, g3_4, g3_5, g3_6, g3_7, rfl⟩ := len8 (tEngine_law.len (tEngine_law.reads o))
  obtain ⟨F3, sp⟩ := SP.out.pushE tEngine_law c o (fun b h => h)
  replace SP := zh sp
  clear o c sp
  go_wp2_with fail
  refine (HSP.out [g3_0, g3_1, g3_2, g3_3, g3_4, g3_5, g3_6, g3_7] v3 (SP.out.rT 0 rfl) HT.out ).mono ?_
  rintro e v4 ⟨rfl, c⟩
  replace SP := zh (SP.out.below c)
  clear c
  have ld_B0 := cell8 (SP.out.gB 1 rfl)
  go_wp2_with fail
  clear ld_B0
  refine (toK_Engine (tEngine_law.below A0.out SP.out.d) S0.out).mono ?_
  rintro e v5 ⟨g, rfl, o, c⟩
  obtain ⟨g5_0, g5_1, g5_2, g5_3, g5_4, g5_5, g5_6, g5_7, rfl⟩ := len8 (tEngine_law.len (tEngine_law.reads o))
  obtain ⟨F5, sp⟩ := SP.out.pushE tEngine_law c o (fun b h => h)
  replace SP := zh sp
  clear o c sp
  have oo := tEngine_one (SP.out.rT 0 rfl)
  replace SP := zh (SP.out.box [.slice none 0 0, .int .i64 0, .int .i64 0, .slice none 0 0, .slice none 0 0, .slice none 0 0, .slice none 0 0, .int .i64 0] 40)
  have st_X1 := rst8 (P := Tryz.prog) (SP.out.gB 0 rfl) oo
  clear oo
  replace SP := zh (SP.out.store 0 rfl [g5_0, g5_1, g5_2, g5_3, g5_4, g5_5, g5_6, g5_7])
  have ld_X1 := cell8 (SP.out.gB 0 rfl)
  go_wp2_with fail
  clear ld_X1 st_X1
  generalize ((v5.alloc (.cells #[.slice none 0 0, .int .i64 0, .int .i64 0, .slice none 0 0, .slice none 0 0, .slice none 0 0, .slice none 0 0, .int .i64 0] 40)).setRow v5.heap.size #[g5_0, g5_1, g5_2, g5_3, g5_4, g5_5, g5_6, g5_7]) = u6 at *
  refine (HIM.out [g5_0, g5_1, g5_2, g5_3, g5_4, g5_5, g5_6, g5_7] u6 SP.out.d (SP.out.rT 1 rfl) HT.out ).mono ?_
  rintro e v7 ⟨rfl, c⟩
  replace SP := zh (SP.out.below c)
  clear c
  go_wp2
  refine wp_region_held_drew (S := fun w' => (w'.heap[w.heap.size]? = some (.cells #[q0_0, q0_1, q0_2, q0_3, q0_4, q0_5, q0_6, q0_7] 30 (0, 0))) ∧ (w'.heap[v5.heap.size]? = some (.cells #[g5_0, g5_1, g5_2, g5_3, g5_4, g5_5, g5_6, g5_7] 40 (0, 0)))) (by kernel_rfl) ⟨SP.out.gB 3 rfl, SP.out.gB 0 rfl⟩ (fun hHeld => ?_)
  replace SP := zh SP.out.drew
  generalize v7.drew = u8 at *
  refine tR (i := 0) (v := ?_) ?_ ?_; rotate_left
  ·
   intro w hSw; (try dsimp only at hSw); obtain ⟨k_B0, k_X1⟩ := hSw; have ld_B0 := cell8 k_B0; clear k_B0; have ld_X1 := cell8 k_X1; clear k_X1; go_simp; try (with_reducible rfl)
  try simp only [Act.put, lA, lB, lC]
  refine tR (i := 1) (v := ?_) ?_ ?_; rotate_left
  ·
   intro w hSw; (try dsimp only at hSw); obtain ⟨k_B0, k_X1⟩ := hSw; have ld_B0 := cell8 k_B0; clear k_B0; have ld_X1 := cell8 k_X1; clear k_X1; go_simp; try (with_reducible rfl)
  try simp only [Act.put, lA, lB, lC]
  refine rA 2 (fun K hK => ?_)
  go_simp
  refine (toK_Engine (tEngine_law.below A0.out SP.out.d) S0.out).mono ?_
  rintro e v9 ⟨g, rfl, o, c⟩
  obtain ⟨g9_0, g9_1, g9_2, g9_3, g9_4, g9_5, g9_6, g9_7, rfl⟩ := len8 (tEngine_law.len (tEngine_law.reads o))
  obtain ⟨F9, sp⟩ := SP.out.pushE tEngine_law c o (fun b h => h)
  replace SP := zh sp
  clear o c sp
  refine hK.out _ _ ⟨SP.out.gB 4 rfl, SP.out.gB 1 rfl⟩ (fun hHeld => ?_)
  clear hK K
  try simp only [Act.put, lA, lB, lC]
  refine rA 3 (fun K hK => ?_)
  go_simp
  refine (eqK_Engine (SP.out.rT 2 rfl) (SP.out.rT 0 rfl) (leEngine_of S0.out)).mono ?_
  rintro e v10 ⟨rfl, c⟩
  replace SP := zh (SP.out.below c)
  clear c
  refine hK.out _ _ ⟨SP.out.gB 4 rfl, SP.out.gB 1 rfl⟩ (fun hHeld => ?_)
  clear hK K
  try simp only [Act.put, lA, lB, lC]
  refine tR (i := 4) (v := ?_) ?_ ?_; rotate_left
  ·
   intro w hSw; (try dsimp only at hSw); obtain ⟨k_B0, k_X1⟩ := hSw; have ld_B0 := cell8 k_B0; clear k_B0; have ld_X1 := cell8 k_X1; clear k_X1; go_simp; try (with_reducible rfl)
  try simp only [Act.put, lA, lB, lC]
  refine wpAnyH_done (by kernel_rfl) ?_ _
  clear hHeld
  go_wp2
  go_ret
  exact ⟨rfl, SP.out.d⟩
 ·
  have HZ0 : Hid ((1048576 : Int) < ((tEngine.sz x0 : Nat) : Int)) := zh (by omega)
  have HP0 : Hid (0 ≤ (1048576 : Int)) := zh (by omega)
  have HK0 : Hid ((1048576 : Int) ≤ 1048576) := zh (by omega)
  clear c0
  have SP : Hid (St w [iB w.heap.size [q0_0, q0_1, q0_2, q0_3, q0_4, q0_5, q0_6, q0_7] 30] (w.alloc (.cells #[q0_0, q0_1, q0_2, q0_3, q0_4, q0_5, q0_6, q0_7] 30))) := zh (by have := (St.init w).box [q0_0, q0_1, q0_2, q0_3, q0_4, q0_5, q0_6, q0_7] 30; simpa only [World.size_alloc] using this)
  go_enter Tryz.func4, Tryz.ntmps4
  have ld_B0 := cell8 (SP.out.gB 0 rfl)
  go_wp2_with fail
  clear ld_B0
  generalize (w.alloc (.cells #[q0_0, q0_1, q0_2, q0_3, q0_4, q0_5, q0_6, q0_7] 30)) = u1 at *
  refine (szK_Engine (k0 := (1048576 : Int)) (tEngine_law.below A0.out SP.out.d) HK0.out (by have := HZ0.out; have := HP0.out; omega) O0.out).mono ?_
  rintro e v2 ⟨rfl, c⟩
  rw [szR_n (by have := HZ0.out; omega)]
  replace SP := zh (SP.out.below c)
  clear c
  go_wp2
  go_ret
  exact ⟨rfl, SP.out.d⟩
end Go.Proofs.YtnepfacnmaoieaaGreatDoor
