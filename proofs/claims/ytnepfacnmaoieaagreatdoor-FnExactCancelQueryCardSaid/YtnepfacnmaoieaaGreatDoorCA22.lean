/-
 Texts of the proof, merged: LawCancelQuery.
-/
import Derived.Test.YtnepfacnmaoieaaGreatDoorCA1
import Derived.Test.YtnepfacnmaoieaaGreatDoorCA2
import Derived.Test.YtnepfacnmaoieaaGreatDoorCA3
import Derived.Test.YtnepfacnmaoieaaGreatDoorCA15
import Derived.Test.YtnepfacnmaoieaaGreatDoorCA20
import Derived.BigQuiet
import Derived.Deep.QuietTactic
import Derived.Deep.RegionHeld3
import Derived.Deep.Cut
namespace Go.Proofs.YtnepfacnmaoieaaGreatDoor
open Go.RowKit
open Go.World renaming size_alloc → Ie
open ZD0
set_option linter.unusedVariables false
set_option linter.unusedSimpArgs false
set_option maxHeartbeats 32000000 in
set_option maxRecDepth 100000 in
theorem law_fnExactCancelQuery (c0 : List Value) (x0 : _) (n1 : Int) (w1 : (Lit.int .i64 n1).wf = true) (r0 : _) (r1 : Bool) (w : World) (h0 : Kf.R w c0 x0) (o0 : Kf.ok x0) (z0 : Ev r0)
  (hspec : ∀ (c0 : List Value) (w : World), Kf.R w c0 x0 → Kf.sz x0 ≤ 1048576 → Calls Tryz.prog 35 #[.agg c0.toArray, .int .i64 n1] w (fun e w' => ∃ (g0 : List Value) (G0 : Nat → Prop), e = .returned (.tuple #[.agg g0.toArray, .bool r1]) ∧ Kf.O w' G0 g0 r0 ∧ (∀ b, G0 b → w.heap.size ≤ b) ∧ Below w w w'))
  (himpl : ∀ (c0 : List Value) (u : World), Below w w u → Kf.R u c0 x0 → Kf.sz x0 ≤ 1048576 → Calls Tryz.prog 36 #[.agg c0.toArray, .int .i64 n1] u (fun e w' => ∃ (g0 : List Value) (G0 : Nat → Prop), e = .returned (.tuple #[.agg g0.toArray, .bool r1]) ∧ Kf.O w' G0 g0 r0 ∧ (∀ b, G0 b → u.heap.size ≤ b) ∧ Below u u w')) :
  Calls Tryz.prog 8 #[.agg c0.toArray, .int .i64 n1] w fun e w' => e = .returned (.bool true) ∧ Below w w w' := by
 obtain ⟨q0_0, q0_1, q0_2, q0_3, q0_4, q0_5, q0_6, q0_7, rfl⟩ := len8 (Kg.len h0)
 have A0 := zh h0
 have O0 := zh o0
 have HSP := zh hspec
 have HIM := zh himpl
 have Z0 := zh z0
 clear hspec himpl h0 o0 z0
 by_cases c0 : ((Kf.sz x0 : Nat) : Int) ≤ (1048576 : Int)
 ·
  have HZ0 : Hid (((Kf.sz x0 : Nat) : Int) ≤ (1048576 : Int)) := zh c0
  have HK0 : Hid ((1048576 : Int) ≤ 1048576) := zh (by omega)
  have hn0 : ¬ (1048576 : Int) - ((Kf.sz x0 : Nat) : Int) < 0 := by omega
  have HT : Hid (Kf.sz x0 ≤ 1048576) := zh (by omega)
  have S0 : Hid (Kf.sz x0 ≤ 1048576) := zh (by omega)
  have e1 : (r1 != r1) = false := by simp
  have N0 := Kg.nv_le x0
  have M0 : Hid (0 ≤ (1 : Int) ∧ (1 : Int) ≤ 134217728) := zh (by have := HT.out; omega)
  have hk : ¬ (1 + (Kf.nv x0 : Int) : Int) < 0 := by omega
  clear N0
  have NR0 := nvEngine_le Z0.out
  have zz0 := Z0.out
  have MR0 : Hid (0 ≤ (1 : Int) ∧ (1 : Int) ≤ 134217728) := zh (by omega)
  have hh0 : ¬ (1 + (Kf.nv r0 : Int) : Int) < 0 := by omega
  have hq : ((1 + (Kf.nv r0 : Int) : Int) != 1 + (Kf.nv r0 : Int)) = false := by simp
  clear NR0 zz0
  clear c0
  have SP : Hid (St w [iB w.heap.size [q0_0, q0_1, q0_2, q0_3, q0_4, q0_5, q0_6, q0_7] 30] (w.alloc (.cells #[q0_0, q0_1, q0_2, q0_3, q0_4, q0_5, q0_6, q0_7] 30))) := zh (by have := (St.init w).box [q0_0, q0_1, q0_2, q0_3, q0_4, q0_5, q0_6, q0_7] 30; simpa only [Ie] using this)
  go_enter Tryz.func8, Tryz.ntmps8
  have ld_B0 := Kh (SP.out.gB 0 rfl)
  go_wp2_with fail
  clear ld_B0
  generalize (w.alloc (.cells #[q0_0, q0_1, q0_2, q0_3, q0_4, q0_5, q0_6, q0_7] 30)) = u1 at *
  refine (szK_Engine (k0 := (1048576 : Int)) (Kg.below A0.out SP.out.d) HK0.out (by have := HZ0.out; omega) O0.out).mono ?_
  rintro e v2 ⟨rfl, c⟩
  rw [Yc (by have := HZ0.out; omega)]
  replace SP := zh (SP.out.below c)
  clear c
  have ld_B0 := Kh (SP.out.gB 0 rfl)
  go_wp2_with fail
  clear ld_B0
  refine (toK_Engine (Kg.below A0.out SP.out.d) S0.out).mono ?_
  rintro e v3 ⟨g, rfl, o, c⟩
  obtain ⟨g3_0, g3_1, g3_2, g3_3, g3_4, g3_5, g3_6, g3_7, rfl⟩ := len8 (Kg.len (Kg.reads o))
  obtain ⟨F3, sp⟩ := SP.out.pushE Kg c o (fun b h => h)
  replace SP := zh sp
  clear o c sp
  go_wp2_with fail
  refine (HSP.out [g3_0, g3_1, g3_2, g3_3, g3_4, g3_5, g3_6, g3_7] v3 (SP.out.rT 0 rfl) HT.out ).mono ?_
  rintro e v4 ⟨g4_0, G4_0, rfl, o0, q0, c⟩
  obtain ⟨g4_0_0, g4_0_1, g4_0_2, g4_0_3, g4_0_4, g4_0_5, g4_0_6, g4_0_7, rfl⟩ := len8 (Kg.len (Kg.reads o0))
  obtain ⟨F4, sp⟩ := SP.out.pushE Kg c o0 q0
  replace SP := zh sp
  clear o0 q0 c sp
  have oo := tEngine_one (SP.out.rT 0 rfl)
  replace SP := zh (SP.out.box [(), Ja, Ja, (), (), (), (), Ja] 40)
  have st_X1 := rst8 (P := Tryz.prog) (SP.out.gB 0 rfl) oo
  clear oo
  replace SP := zh (SP.out.store 0 rfl [g4_0_0, g4_0_1, g4_0_2, g4_0_3, g4_0_4, g4_0_5, g4_0_6, g4_0_7])
  have ld_B0 := Kh (SP.out.gB 3 rfl)
  go_wp2_with fail
  clear ld_B0 st_X1
  generalize ((v4.alloc (.cells #[(), Ja, Ja, (), (), (), (), Ja] 40)).setRow v4.heap.size #[g4_0_0, g4_0_1, g4_0_2, g4_0_3, g4_0_4, g4_0_5, g4_0_6, g4_0_7]) = u5 at *
  refine (toK_Engine (Kg.below A0.out SP.out.d) S0.out).mono ?_
  rintro e v6 ⟨g, rfl, o, c⟩
  obtain ⟨g6_0, g6_1, g6_2, g6_3, g6_4, g6_5, g6_6, g6_7, rfl⟩ := len8 (Kg.len (Kg.reads o))
  obtain ⟨F6, sp⟩ := SP.out.pushE Kg c o (fun b h => h)
  replace SP := zh sp
  clear o c sp
  have oo := tEngine_one (SP.out.rT 0 rfl)
  replace SP := zh (SP.out.box [(), Ja, Ja, (), (), (), (), Ja] 40)
  have st_X2 := rst8 (P := Tryz.prog) (SP.out.gB 0 rfl) oo
  clear oo
  replace SP := zh (SP.out.store 0 rfl [g6_0, g6_1, g6_2, g6_3, g6_4, g6_5, g6_6, g6_7])
  have ld_X2 := Kh (SP.out.gB 0 rfl)
  go_wp2_with fail
  clear ld_X2 st_X2
  generalize ((v6.alloc (.cells #[(), Ja, Ja, (), (), (), (), Ja] 40)).setRow v6.heap.size #[g6_0, g6_1, g6_2, g6_3, g6_4, g6_5, g6_6, g6_7]) = u7 at *
  refine (HIM.out [g6_0, g6_1, g6_2, g6_3, g6_4, g6_5, g6_6, g6_7] u7 SP.out.d (SP.out.rT 1 rfl) HT.out ).mono ?_
  rintro e v8 ⟨g8_0, G8_0, rfl, o0, q0, c⟩
  obtain ⟨g8_0_0, g8_0_1, g8_0_2, g8_0_3, g8_0_4, g8_0_5, g8_0_6, g8_0_7, rfl⟩ := len8 (Kg.len (Kg.reads o0))
  obtain ⟨F8, sp⟩ := SP.out.pushE Kg c o0 q0
  replace SP := zh sp
  clear o0 q0 c sp
  have oo := tEngine_one (SP.out.rT 0 rfl)
  replace SP := zh (SP.out.box [(), Ja, Ja, (), (), (), (), Ja] 40)
  have st_X3 := rst8 (P := Tryz.prog) (SP.out.gB 0 rfl) oo
  clear oo
  replace SP := zh (SP.out.store 0 rfl [g8_0_0, g8_0_1, g8_0_2, g8_0_3, g8_0_4, g8_0_5, g8_0_6, g8_0_7])
  have ld_X1 := Kh (SP.out.gB 4 rfl)
  have ld_X3 := Kh (SP.out.gB 0 rfl)
  go_wp2_with fail
  clear ld_X1 ld_X3 st_X3
  generalize ((v8.alloc (.cells #[(), Ja, Ja, (), (), (), (), Ja] 40)).setRow v8.heap.size #[g8_0_0, g8_0_1, g8_0_2, g8_0_3, g8_0_4, g8_0_5, g8_0_6, g8_0_7]) = u9 at *
  refine (eqK_Engine (SP.out.rT 1 rfl) (SP.out.rT 5 rfl) Z0.out).mono ?_
  rintro e v10 ⟨rfl, c⟩
  replace SP := zh (SP.out.below c)
  clear c
  go_wp2
  refine wp_region_held_drew (S := fun w' => (w'.heap[w.heap.size]? = some (.cells #[q0_0, q0_1, q0_2, q0_3, q0_4, q0_5, q0_6, q0_7] 30 (0, 0))) ∧ (w'.heap[v6.heap.size]? = some (.cells #[g6_0, g6_1, g6_2, g6_3, g6_4, g6_5, g6_6, g6_7] 40 (0, 0)))) (by kernel_rfl) ⟨SP.out.gB 7 rfl, SP.out.gB 2 rfl⟩ (fun hHeld => ?_)
  replace SP := zh SP.out.drew
  generalize v10.drew = u11 at *
  refine tR (i := 0) (v := ?_) ?_ ?_; rotate_left
  ·
   intro w hSw; (try dsimp only at hSw); obtain ⟨k_B0, k_X2⟩ := hSw; have ld_B0 := Kh k_B0; clear k_B0; have ld_X2 := Kh k_X2; clear k_X2; go_simp; try (with_reducible rfl)
  try simp only [Act.put, lA, lB, lC]
  refine tR (i := 1) (v := ?_) ?_ ?_; rotate_left
  ·
   intro w hSw; (try dsimp only at hSw); obtain ⟨k_B0, k_X2⟩ := hSw; have ld_B0 := Kh k_B0; clear k_B0; have ld_X2 := Kh k_X2; clear k_X2; go_simp; try (with_reducible rfl)
  try simp only [Act.put, lA, lB, lC]
  refine rA 2 (fun K hK => ?_)
  go_simp
  refine (toK_Engine (Kg.below A0.out SP.out.d) S0.out).mono ?_
  rintro e v12 ⟨g, rfl, o, c⟩
  obtain ⟨g12_0, g12_1, g12_2, g12_3, g12_4, g12_5, g12_6, g12_7, rfl⟩ := len8 (Kg.len (Kg.reads o))
  obtain ⟨F12, sp⟩ := SP.out.pushE Kg c o (fun b h => h)
  replace SP := zh sp
  clear o c sp
  refine hK.out _ _ ⟨SP.out.gB 8 rfl, SP.out.gB 3 rfl⟩ (fun hHeld => ?_)
  clear hK K
  try simp only [Act.put, lA, lB, lC]
  refine rA 3 (fun K hK => ?_)
  go_simp
  refine (eqK_Engine (SP.out.rT 4 rfl) (SP.out.rT 0 rfl) (leEngine_of S0.out)).mono ?_
  rintro e v13 ⟨rfl, c⟩
  replace SP := zh (SP.out.below c)
  clear c
  refine hK.out _ _ ⟨SP.out.gB 8 rfl, SP.out.gB 3 rfl⟩ (fun hHeld => ?_)
  clear hK K
  try simp only [Act.put, lA, lB, lC]
  refine tR (i := 4) (v := ?_) ?_ ?_; rotate_left
  ·
   intro w hSw; (try dsimp only at hSw); obtain ⟨k_B0, k_X2⟩ := hSw; have ld_B0 := Kh k_B0; clear k_B0; have ld_X2 := Kh k_X2; clear k_X2; go_simp; try (with_reducible rfl)
  try simp only [Act.put, lA, lB, lC]
  refine wpAnyH_done (by kernel_rfl) ?_ _
  clear hHeld
  have ld_X2 := Kh (SP.out.gB 3 rfl)
  go_wp2_with fail
  clear ld_X2
  refine (markK_Engine (1) (SP.out.gT 4 rfl) (leEngine_of S0.out) M0.out.1 (by have := M0.out.2; omega)).mono ?_
  rintro e v14 ⟨rfl, m, c⟩
  replace SP := zh (SP.out.set 4 rfl (iT Kg F6 [g6_0, g6_1, g6_2, g6_3, g6_4, g6_5, g6_6, g6_7] (Kf.mv x0 (1))) (fun _ h => h) c m)
  clear m c
  have ld_X1 := Kh (SP.out.gB 5 rfl)
  have ld_X3 := Kh (SP.out.gB 1 rfl)
  go_wp2_with fail
  clear ld_X1 ld_X3
  refine (eqK_Engine (SP.out.rT 2 rfl) (SP.out.rT 6 rfl) Z0.out).mono ?_
  rintro e v15 ⟨rfl, c⟩
  replace SP := zh (SP.out.below c)
  clear c
  have ld_X3 := Kh (SP.out.gB 1 rfl)
  go_wp2_with fail
  clear ld_X3
  refine (markK_Engine (1) (SP.out.gT 2 rfl) Z0.out MR0.out.1 (by have := MR0.out.2; omega)).mono ?_
  rintro e v16 ⟨rfl, m, c⟩
  replace SP := zh (SP.out.set 2 rfl (iT Kg F8 [g8_0_0, g8_0_1, g8_0_2, g8_0_3, g8_0_4, g8_0_5, g8_0_6, g8_0_7] (Kf.mv r0 (1))) (fun _ h => h) c m)
  clear m c
  have ld_X3 := Kh (SP.out.gB 1 rfl)
  go_wp2_with fail
  clear ld_X3
  refine (heldK_Engine (1) (SP.out.rT 2 rfl) Z0.out MR0.out.1 (by have := MR0.out.2; omega)).mono ?_
  rintro e v17 ⟨rfl, c⟩
  replace SP := zh (SP.out.below c)
  clear c
  have ld_B0 := Kh (SP.out.gB 8 rfl)
  go_wp2_with fail
  clear ld_B0
  refine (toK_Engine (Kg.below A0.out SP.out.d) S0.out).mono ?_
  rintro e v18 ⟨g, rfl, o, c⟩
  obtain ⟨g18_0, g18_1, g18_2, g18_3, g18_4, g18_5, g18_6, g18_7, rfl⟩ := len8 (Kg.len (Kg.reads o))
  obtain ⟨F18, sp⟩ := SP.out.pushE Kg c o (fun b h => h)
  replace SP := zh sp
  clear o c sp
  go_wp2_with fail
  refine (HIM.out [g18_0, g18_1, g18_2, g18_3, g18_4, g18_5, g18_6, g18_7] v18 SP.out.d (SP.out.rT 0 rfl) HT.out ).mono ?_
  rintro e v19 ⟨g19_0, G19_0, rfl, o0, q0, c⟩
  obtain ⟨g19_0_0, g19_0_1, g19_0_2, g19_0_3, g19_0_4, g19_0_5, g19_0_6, g19_0_7, rfl⟩ := len8 (Kg.len (Kg.reads o0))
  obtain ⟨F19, sp⟩ := SP.out.pushE Kg c o0 q0
  replace SP := zh sp
  clear o0 q0 c sp
  have oo := tEngine_one (SP.out.rT 0 rfl)
  replace SP := zh (SP.out.box [(), Ja, Ja, (), (), (), (), Ja] 40)
  have st_X4 := rst8 (P := Tryz.prog) (SP.out.gB 0 rfl) oo
  clear oo
  replace SP := zh (SP.out.store 0 rfl [g19_0_0, g19_0_1, g19_0_2, g19_0_3, g19_0_4, g19_0_5, g19_0_6, g19_0_7])
  have ld_X1 := Kh (SP.out.gB 8 rfl)
  have ld_X4 := Kh (SP.out.gB 0 rfl)
  go_wp2_with fail
  clear ld_X1 ld_X4 st_X4
  generalize ((v19.alloc (.cells #[(), Ja, Ja, (), (), (), (), Ja] 40)).setRow v19.heap.size #[g19_0_0, g19_0_1, g19_0_2, g19_0_3, g19_0_4, g19_0_5, g19_0_6, g19_0_7]) = u20 at *
  refine (eqK_Engine (SP.out.rT 1 rfl) (SP.out.rT 9 rfl) Z0.out).mono ?_
  rintro e v21 ⟨rfl, c⟩
  replace SP := zh (SP.out.below c)
  clear c
  have ld_X3 := Kh (SP.out.gB 4 rfl)
  go_wp2_with fail
  clear ld_X3
  refine (heldK_Engine (1) (SP.out.rT 5 rfl) Z0.out MR0.out.1 (by have := MR0.out.2; omega)).mono ?_
  rintro e v22 ⟨rfl, c⟩
  replace SP := zh (SP.out.below c)
  clear c
  go_wp2
  go_ret
  exact ⟨rfl, SP.out.d⟩
 ·
  have HZ0 : Hid ((1048576 : Int) < ((Kf.sz x0 : Nat) : Int)) := zh (by omega)
  have HP0 : Hid (0 ≤ (1048576 : Int)) := zh (by omega)
  have HK0 : Hid ((1048576 : Int) ≤ 1048576) := zh (by omega)
  clear c0
  have SP : Hid (St w [iB w.heap.size [q0_0, q0_1, q0_2, q0_3, q0_4, q0_5, q0_6, q0_7] 30] (w.alloc (.cells #[q0_0, q0_1, q0_2, q0_3, q0_4, q0_5, q0_6, q0_7] 30))) := zh (by have := (St.init w).box [q0_0, q0_1, q0_2, q0_3, q0_4, q0_5, q0_6, q0_7] 30; simpa only [Ie] using this)
  go_enter Tryz.func8, Tryz.ntmps8
  have ld_B0 := Kh (SP.out.gB 0 rfl)
  go_wp2_with fail
  clear ld_B0
  generalize (w.alloc (.cells #[q0_0, q0_1, q0_2, q0_3, q0_4, q0_5, q0_6, q0_7] 30)) = u1 at *
  refine (szK_Engine (k0 := (1048576 : Int)) (Kg.below A0.out SP.out.d) HK0.out (by have := HZ0.out; have := HP0.out; omega) O0.out).mono ?_
  rintro e v2 ⟨rfl, c⟩
  rw [Vg (by have := HZ0.out; omega)]
  replace SP := zh (SP.out.below c)
  clear c
  go_wp2
  go_ret
  exact ⟨rfl, SP.out.d⟩
end Go.Proofs.YtnepfacnmaoieaaGreatDoor
