/-
 Texts of the proof, merged: LawParticipants.
-/
import Derived.Test.YtogbgeekmdnhlaaGreatDoorAW1
import Derived.Test.YtogbgeekmdnhlaaGreatDoorAW3
import Derived.Test.YtogbgeekmdnhlaaGreatDoorAW13
import Derived.Test.YtogbgeekmdnhlaaGreatDoorAW18
import Derived.BigQuiet
import Derived.Deep.QuietTactic
import Derived.Deep.RegionHeld3
import Derived.Deep.Cut
namespace Go.Proofs.YtogbgeekmdnhlaaGreatDoor
open Go.RowKit
set_option linter.unusedVariables false
set_option linter.unusedSimpArgs false
set_option maxHeartbeats 32000000 in
set_option maxRecDepth 100000 in
theorem law_fnExactParticipants (c0 : List Value) (x0 : _) (r0 : _) (w : World) (h0 : tEngine.R w c0 x0) (o0 : tEngine.ok x0) (z0 : zL tInt r0 ≤ 1048576)
  (hspec : ∀ (c0 : List Value) (w : World), tEngine.R w c0 x0 → tEngine.sz x0 ≤ 1048576 → Calls Tryz.prog 17 #[.agg c0.toArray] w (fun e w' => ∃ (g0 : Value) (G0 : Nat → Prop), e = .returned (g0) ∧ SlO 3 tInt w' G0 g0 r0 ∧ (∀ b, G0 b → w.heap.size ≤ b) ∧ Below w.heap.size w w'))
  (himpl : ∀ (c0 : List Value) (u : World), Below w.heap.size w u → tEngine.R u c0 x0 → tEngine.sz x0 ≤ 1048576 → Calls Tryz.prog 18 #[.agg c0.toArray] u (fun e w' => ∃ (g0 : Value) (G0 : Nat → Prop), e = .returned (g0) ∧ SlO 3 tInt w' G0 g0 r0 ∧ (∀ b, G0 b → u.heap.size ≤ b) ∧ Below u.heap.size u w')) :
  Calls Tryz.prog 4 #[.agg c0.toArray] w fun e w' => e = .returned (.bool true) ∧ Below w.heap.size w w' := by
 obtain ⟨q0_0, q0_1, q0_2, q0_3, q0_4, q0_5, q0_6, q0_7, rfl⟩ := len8 (tEngine_law.len h0)
 have A0 := hd h0
 have O0 := hd o0
 have HSP := hd hspec
 have HIM := hd himpl
 have Z0 := hd z0
 clear hspec himpl h0 o0 z0
 by_cases c0 : ((tEngine.sz x0 : Nat) : Int) ≤ (1048576 : Int)
 ·
  have HZ0 : Hid (((tEngine.sz x0 : Nat) : Int) ≤ (1048576 : Int)) := hd c0
  have HK0 : Hid ((1048576 : Int) ≤ 1048576) := hd (by omega)
  have hn0 : ¬ (1048576 : Int) - ((tEngine.sz x0 : Nat) : Int) < 0 := by omega
  have HT : Hid (tEngine.sz x0 ≤ 1048576) := hd (by omega)
  have S0 : Hid (tEngine.sz x0 ≤ 1048576) := hd (by omega)
  have N0 := tEngine_law.nv_le x0
  have M0 : Hid (0 ≤ (1 : Int) ∧ (1 : Int) ≤ 134217728) := hd (by have := HT.out; omega)
  have hk : ¬ (1 + (tEngine.nv x0 : Int) : Int) < 0 := by omega
  clear N0
  have NR0 := ndL_le tInt_law (by decide) r0
  have zz0 := Z0.out
  have MR0 : Hid (0 ≤ (1 : Int) ∧ (1 : Int) ≤ 134217728) := hd (by omega)
  have hh0 : ¬ (1 + (ndL tInt r0 : Int) : Int) < 0 := by omega
  have hq : ((1 + (ndL tInt r0 : Int) : Int) != 1 + (ndL tInt r0 : Int)) = false := by simp
  clear NR0 zz0
  clear c0
  have SP : Hid (St w [iB w.heap.size [q0_0, q0_1, q0_2, q0_3, q0_4, q0_5, q0_6, q0_7] 30] (w.alloc (.cells #[q0_0, q0_1, q0_2, q0_3, q0_4, q0_5, q0_6, q0_7] 30))) := hd (by have := (St.init w).box [q0_0, q0_1, q0_2, q0_3, q0_4, q0_5, q0_6, q0_7] 30; simpa only [World.size_alloc] using this)
  go_enter Tryz.func4, Tryz.ntmps4
  have ld_B0 := cell8 (SP.out.gB 0 rfl)
  go_wp2_with fail
  clear ld_B0
  generalize (w.alloc (.cells #[q0_0, q0_1, q0_2, q0_3, q0_4, q0_5, q0_6, q0_7] 30)) = u1 at *
  refine (szK_Engine_Y (tEngine_law.below A0.out SP.out.d) HZ0.out HK0.out).mono ?_
  rintro e v2 ⟨rfl, c⟩
  replace SP := hd (SP.out.below c)
  clear c
  have ld_B0 := cell8 (SP.out.gB 0 rfl)
  go_wp2_with fail
  clear ld_B0
  refine (toK_Engine (tEngine_law.below A0.out SP.out.d) S0.out).mono ?_
  rintro e v3 ⟨g, rfl, o, c⟩
  obtain ⟨g3_0, g3_1, g3_2, g3_3, g3_4, g3_5, g3_6, g3_7, rfl⟩ := len8 (tEngine_law.len (tEngine_law.reads o))
  obtain ⟨F3, sp⟩ := SP.out.pushE tEngine_law c o (fun b h => h)
  replace SP := hd sp
  clear o c sp
  go_wp2_with fail
  refine (HSP.out [g3_0, g3_1, g3_2, g3_3, g3_4, g3_5, g3_6, g3_7] v3 (SP.out.rT 0 rfl) HT.out ).mono ?_
  rintro e v4 ⟨g4_0, G4_0, rfl, o0, q0, c⟩
  obtain ⟨a4, b4, rfl⟩ := slO_len o0
  obtain ⟨F4, sp⟩ := SP.out.pushSE tInt_law c o0 q0
  replace SP := hd sp
  clear o0 q0 c sp
  have ld_B0 := cell8 (SP.out.gB 2 rfl)
  go_wp2_with fail
  clear ld_B0
  refine (toK_Engine (tEngine_law.below A0.out SP.out.d) S0.out).mono ?_
  rintro e v5 ⟨g, rfl, o, c⟩
  obtain ⟨g5_0, g5_1, g5_2, g5_3, g5_4, g5_5, g5_6, g5_7, rfl⟩ := len8 (tEngine_law.len (tEngine_law.reads o))
  obtain ⟨F5, sp⟩ := SP.out.pushE tEngine_law c o (fun b h => h)
  replace SP := hd sp
  clear o c sp
  have oo := tEngine_one (SP.out.rT 0 rfl)
  replace SP := hd (SP.out.box [.slice none 0 0, .int .i64 0, .int .i64 0, .slice none 0 0, .slice none 0 0, .slice none 0 0, .slice none 0 0, .int .i64 0] 40)
  have st_X1 := rst8 (P := Tryz.prog) (SP.out.gB 0 rfl) oo
  clear oo
  replace SP := hd (SP.out.store 0 rfl [g5_0, g5_1, g5_2, g5_3, g5_4, g5_5, g5_6, g5_7])
  have ld_X1 := cell8 (SP.out.gB 0 rfl)
  go_wp2_with fail
  clear ld_X1 st_X1
  generalize ((v5.alloc (.cells #[.slice none 0 0, .int .i64 0, .int .i64 0, .slice none 0 0, .slice none 0 0, .slice none 0 0, .slice none 0 0, .int .i64 0] 40)).setRow v5.heap.size #[g5_0, g5_1, g5_2, g5_3, g5_4, g5_5, g5_6, g5_7]) = u6 at *
  refine (HIM.out [g5_0, g5_1, g5_2, g5_3, g5_4, g5_5, g5_6, g5_7] u6 SP.out.d (SP.out.rT 1 rfl) HT.out ).mono ?_
  rintro e v7 ⟨g7_0, G7_0, rfl, o0, q0, c⟩
  obtain ⟨a7, b7, rfl⟩ := slO_len o0
  obtain ⟨F7, sp⟩ := SP.out.pushSE tInt_law c o0 q0
  replace SP := hd sp
  clear o0 q0 c sp
  go_wp2_with fail
  refine (eqIntS_S (.slice a7 r0.length b7) (.slice a4 r0.length b4) r0 v7 (SP.out.rS 0 rfl) (SP.out.rS 3 rfl) Z0.out).mono ?_
  rintro e v8 ⟨rfl, c⟩
  replace SP := hd (SP.out.below c)
  clear c
  go_wp2
  refine wp_region_held_drew (S := fun w' => (w'.heap[w.heap.size]? = some (.cells #[q0_0, q0_1, q0_2, q0_3, q0_4, q0_5, q0_6, q0_7] 30 (0, 0))) ∧ (w'.heap[v5.heap.size]? = some (.cells #[g5_0, g5_1, g5_2, g5_3, g5_4, g5_5, g5_6, g5_7] 40 (0, 0)))) (by kernel_rfl) ⟨SP.out.gB 5 rfl, SP.out.gB 1 rfl⟩ (fun hHeld => ?_)
  replace SP := hd SP.out.drew
  generalize v8.drew = u9 at *
  refine tR (i := 0) (v := ?_) ?_ ?_; rotate_left
  ·
   intro w hSw; (try dsimp only at hSw); obtain ⟨k_B0, k_X1⟩ := hSw; have ld_B0 := cell8 k_B0; clear k_B0; have ld_X1 := cell8 k_X1; clear k_X1; go_simp; try (with_reducible rfl)
  try simp only [Act.put, lA, lB, lC]
  refine tR (i := 1) (v := ?_) ?_ ?_; rotate_left
  ·
   intro w hSw; (try dsimp only at hSw); obtain ⟨k_B0, k_X1⟩ := hSw; have ld_B0 := cell8 k_B0; clear k_B0; have ld_X1 := cell8 k_X1; clear k_X1; go_simp; try (with_reducible rfl)
  try simp only [Act.put, lA, lB, lC]
  refine rA 2 (fun K hK => ?_)
  go_simp
  refine (toK_Engine (tEngine_law.below A0.out SP.out.d) S0.out).mono ?_
  rintro e v10 ⟨g, rfl, o, c⟩
  obtain ⟨g10_0, g10_1, g10_2, g10_3, g10_4, g10_5, g10_6, g10_7, rfl⟩ := len8 (tEngine_law.len (tEngine_law.reads o))
  obtain ⟨F10, sp⟩ := SP.out.pushE tEngine_law c o (fun b h => h)
  replace SP := hd sp
  clear o c sp
  refine hK.out _ _ ⟨SP.out.gB 6 rfl, SP.out.gB 2 rfl⟩ (fun hHeld => ?_)
  clear hK K
  try simp only [Act.put, lA, lB, lC]
  refine rA 3 (fun K hK => ?_)
  go_simp
  refine (eqK_Engine (SP.out.rT 3 rfl) (SP.out.rT 0 rfl) S0.out).mono ?_
  rintro e v11 ⟨rfl, c⟩
  replace SP := hd (SP.out.below c)
  clear c
  refine hK.out _ _ ⟨SP.out.gB 6 rfl, SP.out.gB 2 rfl⟩ (fun hHeld => ?_)
  clear hK K
  try simp only [Act.put, lA, lB, lC]
  refine tR (i := 4) (v := ?_) ?_ ?_; rotate_left
  ·
   intro w hSw; (try dsimp only at hSw); obtain ⟨k_B0, k_X1⟩ := hSw; have ld_B0 := cell8 k_B0; clear k_B0; have ld_X1 := cell8 k_X1; clear k_X1; go_simp; try (with_reducible rfl)
  try simp only [Act.put, lA, lB, lC]
  refine wpAnyH_done (by kernel_rfl) ?_ _
  clear hHeld
  have ld_X1 := cell8 (SP.out.gB 2 rfl)
  go_wp2_with fail
  clear ld_X1
  refine (markK_Engine (1) (SP.out.gT 3 rfl) S0.out M0.out.1 (by have := M0.out.2; omega)).mono ?_
  rintro e v12 ⟨rfl, m, c⟩
  replace SP := hd (SP.out.set 3 rfl (iT tEngine_law F5 [g5_0, g5_1, g5_2, g5_3, g5_4, g5_5, g5_6, g5_7] (tEngine.mv x0 (1))) (fun _ h => h) c m)
  clear m c
  go_wp2_with fail
  refine (eqIntS_S (.slice a7 r0.length b7) (.slice a4 r0.length b4) r0 v12 (SP.out.rS 1 rfl) (SP.out.rS 4 rfl) Z0.out).mono ?_
  rintro e v13 ⟨rfl, c⟩
  replace SP := hd (SP.out.below c)
  clear c
  go_wp2_with fail
  refine (markIntS_S (.slice a7 r0.length b7) r0 _ (1) v13 (SP.out.gS 1 rfl) Z0.out MR0.out.1 (by have := MR0.out.2; omega)).mono ?_
  rintro e v14 ⟨rfl, m, c⟩
  replace SP := hd (SP.out.set 1 rfl (iS 3 tInt_law F7 (.slice a7 r0.length b7) (mAll tInt r0 (1))) (fun _ h => h) c m)
  clear m c
  go_wp2_with fail
  refine (heldIntS_S (.slice a7 r0.length b7) r0 (1) v14 (SP.out.rS 1 rfl) Z0.out MR0.out.1 (by have := MR0.out.2; omega)).mono ?_
  rintro e v15 ⟨rfl, rfl⟩
  have ld_B0 := cell8 (SP.out.gB 6 rfl)
  go_wp2_with fail
  clear ld_B0
  refine (toK_Engine (tEngine_law.below A0.out SP.out.d) S0.out).mono ?_
  rintro e v16 ⟨g, rfl, o, c⟩
  obtain ⟨g16_0, g16_1, g16_2, g16_3, g16_4, g16_5, g16_6, g16_7, rfl⟩ := len8 (tEngine_law.len (tEngine_law.reads o))
  obtain ⟨F16, sp⟩ := SP.out.pushE tEngine_law c o (fun b h => h)
  replace SP := hd sp
  clear o c sp
  go_wp2_with fail
  refine (HIM.out [g16_0, g16_1, g16_2, g16_3, g16_4, g16_5, g16_6, g16_7] v16 SP.out.d (SP.out.rT 0 rfl) HT.out ).mono ?_
  rintro e v17 ⟨g17_0, G17_0, rfl, o0, q0, c⟩
  obtain ⟨a17, b17, rfl⟩ := slO_len o0
  obtain ⟨F17, sp⟩ := SP.out.pushSE tInt_law c o0 q0
  replace SP := hd sp
  clear o0 q0 c sp
  go_wp2_with fail
  refine (eqIntS_S (.slice a17 r0.length b17) (.slice a4 r0.length b4) r0 v17 (SP.out.rS 0 rfl) (SP.out.rS 6 rfl) Z0.out).mono ?_
  rintro e v18 ⟨rfl, c⟩
  replace SP := hd (SP.out.below c)
  clear c
  go_wp2_with fail
  refine (heldIntS_S (.slice a7 r0.length b7) r0 (1) v18 (SP.out.rS 3 rfl) Z0.out MR0.out.1 (by have := MR0.out.2; omega)).mono ?_
  rintro e v19 ⟨rfl, rfl⟩
  go_wp2
  go_ret
  exact ⟨rfl, SP.out.d⟩
 ·
  have HZ0 : Hid ((1048576 : Int) < ((tEngine.sz x0 : Nat) : Int)) := hd (by omega)
  have HP0 : Hid (0 ≤ (1048576 : Int)) := hd (by omega)
  have HK0 : Hid ((1048576 : Int) ≤ 1048576) := hd (by omega)
  clear c0
  have SP : Hid (St w [iB w.heap.size [q0_0, q0_1, q0_2, q0_3, q0_4, q0_5, q0_6, q0_7] 30] (w.alloc (.cells #[q0_0, q0_1, q0_2, q0_3, q0_4, q0_5, q0_6, q0_7] 30))) := hd (by have := (St.init w).box [q0_0, q0_1, q0_2, q0_3, q0_4, q0_5, q0_6, q0_7] 30; simpa only [World.size_alloc] using this)
  go_enter Tryz.func4, Tryz.ntmps4
  have ld_B0 := cell8 (SP.out.gB 0 rfl)
  go_wp2_with fail
  clear ld_B0
  generalize (w.alloc (.cells #[q0_0, q0_1, q0_2, q0_3, q0_4, q0_5, q0_6, q0_7] 30)) = u1 at *
  refine (szK_Engine_N (tEngine_law.below A0.out SP.out.d) HZ0.out HK0.out HP0.out O0.out).mono ?_
  rintro e v2 ⟨rfl, c⟩
  replace SP := hd (SP.out.below c)
  clear c
  go_wp2
  go_ret
  exact ⟨rfl, SP.out.d⟩
end Go.Proofs.YtogbgeekmdnhlaaGreatDoor
