/-
 Texts of the proof, merged: JEngine, KEngine.
-/
import Derived.Test.YtnepfacnmaoieaaGreatDoorPK1
import Derived.Test.YtnepfacnmaoieaaGreatDoorPK16
import Derived.BigQuiet
import Derived.Deep.QuietTactic
import Derived.Deep.RegionHeld3
import Derived.Deep.Cut
namespace Go.Proofs.YtnepfacnmaoieaaGreatDoor
open Go.RowKit
set_option maxRecDepth 100000
set_option linter.unusedVariables false
set_option linter.unusedSimpArgs false
theorem tEngine_one : tEngine.One := (tPair_one tStore_one (tPair_one tInt_one (tPair_one tIntES_one (tPair_one (tSl_one _ _) (tPair_one (tSl_one _ _) (tPair_one (tSl_one _ _) tInt_one))))))
theorem tEngine_P {w : World} {cs : List Value} {x0 : _} {x1 : _} {x2 : _} {x3 : _} {x4 : _} {x5 : _} {x6 : _} (h : tEngine.R w cs (x0, x1, x2, x3, x4, x5, x6)) : ∃ p0_0 p0_1 v2 v3 v4 v5, cs = [p0_0, p0_1, .int .i64 x1, v2, v3, v4, v5, .int .i64 x6] ∧ tStore.R w [p0_0, p0_1] x0 ∧ SlR tInt w v2 x2 ∧ SlR tActive w v3 x3 ∧ SlR tFinished w v4 x4 ∧ SlR tCharge w v5 x5 := by
 obtain ⟨c0, _, rfl, h0, ⟨_, _, rfl, rfl, ⟨_, _, rfl, ⟨v2, rfl, h2⟩, ⟨_, _, rfl, ⟨v3, rfl, h3⟩, ⟨_, _, rfl, ⟨v4, rfl, h4⟩, ⟨_, _, rfl, ⟨v5, rfl, h5⟩, rfl⟩⟩⟩⟩⟩⟩ := h
 obtain ⟨p0_0, p0_1, rfl⟩ := len2 (tStore_law.len h0)
 exact ⟨p0_0, p0_1, v2, v3, v4, v5, rfl, h0, h2, h3, h4, h5⟩
theorem szEngine_eq {x0 : _} {x1 : _} {x2 : _} {x3 : _} {x4 : _} {x5 : _} {x6 : _} : tEngine.sz (x0, x1, x2, x3, x4, x5, x6) = tStore.sz x0 + zL tInt x2 + zL tActive x3 + zL tFinished x4 + zL tCharge x5 := by
 simp only [tEngine, tPair_sz, tInt_sz, tSl_sz, tIntES_sz]; try omega
def leEngine (x : (List (List (Int × List Int × Int × Int)) × Int) × Int × List Int × List ((Int × Int × List (Int × Int × Int) × List Int) × Int × List Int × Int × Int × Int × List (Int × List Int)) × List ((Int × Int × List (Int × Int × Int) × List Int) × Int × Int × List (Int × List Int)) × List (Int × Int × List Int × List Int × List Int) × Int) : Prop := leStore x.1 ∧ zL tInt x.2.2.1 ≤ 1048576 ∧ zL tActive x.2.2.2.1 ≤ 1048576 ∧ zL tFinished x.2.2.2.2.1 ≤ 1048576 ∧ zL tCharge x.2.2.2.2.2.1 ≤ 1048576
theorem leEngine_of {x : (List (List (Int × List Int × Int × Int)) × Int) × Int × List Int × List ((Int × Int × List (Int × Int × Int) × List Int) × Int × List Int × Int × Int × Int × List (Int × List Int)) × List ((Int × Int × List (Int × Int × Int) × List Int) × Int × Int × List (Int × List Int)) × List (Int × Int × List Int × List Int × List Int) × Int} (h : tEngine.sz x ≤ 1048576) : leEngine x := by
 obtain ⟨x0, x1, x2, x3, x4, x5, x6⟩ := x
 rw [szEngine_eq] at h
 exact ⟨leStore_of (show tStore.sz x0 ≤ _ by omega), by show zL tInt x2 ≤ _; omega, by show zL tActive x3 ≤ _; omega, by show zL tFinished x4 ≤ _; omega, by show zL tCharge x5 ≤ _; omega⟩
set_option maxHeartbeats 8000000 in
theorem szK_Engine {cs : List Value} {x : _} {k0 : Int} {w : World} (h : tEngine.R w cs x) (hk : k0 ≤ 1048576) (hp : 0 ≤ k0) (ho : tEngine.ok x) :
  Calls Tryz.prog 13 #[.agg cs.toArray, .int .i64 k0] w fun e w' => e = .returned (.int .i64 (szR k0 (tEngine.sz x))) ∧ Below w.heap.size w w' := by
 obtain ⟨x0, x1, x2, x3, x4, x5, x6⟩ := x
 obtain ⟨p0_0, p0_1, v2, v3, v4, v5, rfl, h0, h2, h3, h4, h5⟩ := tEngine_P h
 rw [szEngine_eq]
 obtain ⟨o0, o1, o2, o3, o4, o5, o6⟩ := ho
 have H0 := zh h0
 have O0 := zh o0
 have H2 := zh h2
 have O2 := zh o2
 have H3 := zh h3
 have O3 := zh o3
 have H4 := zh h4
 have O4 := zh o4
 have H5 := zh h5
 have O5 := zh o5
 clear h0 h2 h3 h4 h5
 clear o0 o1 o2 o3 o4 o5 o6
 have SP := zh ((St.init w).box [p0_0, p0_1, .int .i64 x1, v2, v3, v4, v5, .int .i64 x6] 30)
 go_enter Tryz.func13, Tryz.ntmps13
 have ld := cell8 (SP.out.gB 0 rfl)
 go_wp2_with fail
 clear ld
 generalize (w.alloc (.cells #[p0_0, p0_1, .int .i64 x1, v2, v3, v4, v5, .int .i64 x6] 30)) = W0 at *
 refine (szK_Store (tStore_law.below H0.out SP.out.d) (k0 := k0) (by omega) (by omega) O0.out).mono ?_
 rintro e W1 ⟨rfl, c⟩
 replace SP := zh (SP.out.below c)
 clear c
 by_cases z0 : ((tStore.sz x0 : Nat) : Int) ≤ k0
 rotate_left
 ·
  rw [szR_n z0]
  have HE := zh (szR_n (k := k0) (z := tStore.sz x0 + zL tInt x2 + zL tActive x3 + zL tFinished x4 + zL tCharge x5) (by omega))
  clear z0
  go_wp2
  go_ret
  exact ⟨ty_ret HE.out.symm, SP.out.d⟩
 rw [szR_y z0]
 have n0 : ¬ k0 - ((tStore.sz x0 : Nat) : Int) < 0 := by omega
 have ld := cell8 (SP.out.gB 0 rfl)
 go_wp2_with fail
 clear ld
 refine (szKS_IntS (slR_below tInt_law H2.out SP.out.d) (k0 := k0 - ((tStore.sz x0 : Nat) : Int)) (by omega) (by omega) O2.out).mono ?_
 rintro e W2 ⟨rfl, c⟩
 replace SP := zh (SP.out.below c)
 clear c
 by_cases z1 : ((zL tInt x2 : Nat) : Int) ≤ k0 - ((tStore.sz x0 : Nat) : Int)
 rotate_left
 ·
  rw [szR_n z1]
  have HE := zh (szR_n (k := k0) (z := tStore.sz x0 + zL tInt x2 + zL tActive x3 + zL tFinished x4 + zL tCharge x5) (by omega))
  clear z0 z1
  go_wp2
  go_ret
  exact ⟨ty_ret HE.out.symm, SP.out.d⟩
 rw [szR_y z1]
 have n1 : ¬ k0 - ((tStore.sz x0 : Nat) : Int) - ((zL tInt x2 : Nat) : Int) < 0 := by omega
 have ld := cell8 (SP.out.gB 0 rfl)
 go_wp2_with fail
 clear ld
 refine (szKS_ActiveS (slR_below tActive_law H3.out SP.out.d) (k0 := k0 - ((tStore.sz x0 : Nat) : Int) - ((zL tInt x2 : Nat) : Int)) (by omega) (by omega) O3.out).mono ?_
 rintro e W3 ⟨rfl, c⟩
 replace SP := zh (SP.out.below c)
 clear c
 by_cases z2 : ((zL tActive x3 : Nat) : Int) ≤ k0 - ((tStore.sz x0 : Nat) : Int) - ((zL tInt x2 : Nat) : Int)
 rotate_left
 ·
  rw [szR_n z2]
  have HE := zh (szR_n (k := k0) (z := tStore.sz x0 + zL tInt x2 + zL tActive x3 + zL tFinished x4 + zL tCharge x5) (by omega))
  clear z0 z1 z2
  go_wp2
  go_ret
  exact ⟨ty_ret HE.out.symm, SP.out.d⟩
 rw [szR_y z2]
 have n2 : ¬ k0 - ((tStore.sz x0 : Nat) : Int) - ((zL tInt x2 : Nat) : Int) - ((zL tActive x3 : Nat) : Int) < 0 := by omega
 have ld := cell8 (SP.out.gB 0 rfl)
 go_wp2_with fail
 clear ld
 refine (szKS_FinishedS (slR_below tFinished_law H4.out SP.out.d) (k0 := k0 - ((tStore.sz x0 : Nat) : Int) - ((zL tInt x2 : Nat) : Int) - ((zL tActive x3 : Nat) : Int)) (by omega) (by omega) O4.out).mono ?_
 rintro e W4 ⟨rfl, c⟩
 replace SP := zh (SP.out.below c)
 clear c
 by_cases z3 : ((zL tFinished x4 : Nat) : Int) ≤ k0 - ((tStore.sz x0 : Nat) : Int) - ((zL tInt x2 : Nat) : Int) - ((zL tActive x3 : Nat) : Int)
 rotate_left
 ·
  rw [szR_n z3]
  have HE := zh (szR_n (k := k0) (z := tStore.sz x0 + zL tInt x2 + zL tActive x3 + zL tFinished x4 + zL tCharge x5) (by omega))
  clear z0 z1 z2 z3
  go_wp2
  go_ret
  exact ⟨ty_ret HE.out.symm, SP.out.d⟩
 rw [szR_y z3]
 have n3 : ¬ k0 - ((tStore.sz x0 : Nat) : Int) - ((zL tInt x2 : Nat) : Int) - ((zL tActive x3 : Nat) : Int) - ((zL tFinished x4 : Nat) : Int) < 0 := by omega
 have ld := cell8 (SP.out.gB 0 rfl)
 go_wp2_with fail
 clear ld
 refine (szKS_ChargeS (slR_below tCharge_law H5.out SP.out.d) (k0 := k0 - ((tStore.sz x0 : Nat) : Int) - ((zL tInt x2 : Nat) : Int) - ((zL tActive x3 : Nat) : Int) - ((zL tFinished x4 : Nat) : Int)) (by omega) (by omega) O5.out).mono ?_
 rintro e W5 ⟨rfl, c⟩
 replace SP := zh (SP.out.below c)
 clear c
 by_cases z4 : ((zL tCharge x5 : Nat) : Int) ≤ k0 - ((tStore.sz x0 : Nat) : Int) - ((zL tInt x2 : Nat) : Int) - ((zL tActive x3 : Nat) : Int) - ((zL tFinished x4 : Nat) : Int)
 rotate_left
 ·
  rw [szR_n z4]
  have HE := zh (szR_n (k := k0) (z := tStore.sz x0 + zL tInt x2 + zL tActive x3 + zL tFinished x4 + zL tCharge x5) (by omega))
  clear z0 z1 z2 z3 z4
  go_wp2
  go_ret
  exact ⟨ty_ret HE.out.symm, SP.out.d⟩
 rw [szR_y z4]
 have n4 : ¬ k0 - ((tStore.sz x0 : Nat) : Int) - ((zL tInt x2 : Nat) : Int) - ((zL tActive x3 : Nat) : Int) - ((zL tFinished x4 : Nat) : Int) - ((zL tCharge x5 : Nat) : Int) < 0 := by omega
 have HE : Hid (szR k0 (tStore.sz x0 + zL tInt x2 + zL tActive x3 + zL tFinished x4 + zL tCharge x5) = k0 - ((tStore.sz x0 : Nat) : Int) - ((zL tInt x2 : Nat) : Int) - ((zL tActive x3 : Nat) : Int) - ((zL tFinished x4 : Nat) : Int) - ((zL tCharge x5 : Nat) : Int)) := zh (by rw [szR_y (by omega)]; try omega)
 go_wp2
 go_ret
 exact ⟨ty_ret HE.out.symm, SP.out.d⟩
set_option maxHeartbeats 8000000 in
theorem eqK_Engine {cs ds : List Value} {x : _} {w : World} (h : tEngine.R w cs x) (g : tEngine.R w ds x) (hs : leEngine x) :
  Calls Tryz.prog 17 #[.agg cs.toArray, .agg ds.toArray] w fun e w' => e = .returned (.bool true) ∧ Below w.heap.size w w' := by
 obtain ⟨x0, x1, x2, x3, x4, x5, x6⟩ := x
 obtain ⟨p0_0, p0_1, v2, v3, v4, v5, rfl, h0, h2, h3, h4, h5⟩ := tEngine_P h
 obtain ⟨p0_0', p0_1', v2', v3', v4', v5', rfl, h0', h2', h3', h4', h5'⟩ := tEngine_P g
 obtain ⟨l0, l2, l3, l4, l5⟩ := hs
 have H0 := zh h0; have G0 := zh h0'; have S0 := zh l0
 have H2 := zh h2; have G2 := zh h2'; have S2 := zh l2
 have H3 := zh h3; have G3 := zh h3'; have S3 := zh l3
 have H4 := zh h4; have G4 := zh h4'; have S4 := zh l4
 have H5 := zh h5; have G5 := zh h5'; have S5 := zh l5
 clear h0 h0' h2 h2' h3 h3' h4 h4' h5 h5'
 clear l0 l2 l3 l4 l5
 have e1 : (x1 != x1) = false := by simp
 have e6 : (x6 != x6) = false := by simp
 have SP : Hid (St w [iB (w.heap.size + 1) [p0_0', p0_1', .int .i64 x1, v2', v3', v4', v5', .int .i64 x6] 40, iB w.heap.size [p0_0, p0_1, .int .i64 x1, v2, v3, v4, v5, .int .i64 x6] 40] ((w.alloc (.cells #[p0_0, p0_1, .int .i64 x1, v2, v3, v4, v5, .int .i64 x6] 40)).alloc (.cells #[p0_0', p0_1', .int .i64 x1, v2', v3', v4', v5', .int .i64 x6] 40))) := zh (by have := ((St.init w).box [p0_0, p0_1, .int .i64 x1, v2, v3, v4, v5, .int .i64 x6] 40).box [p0_0', p0_1', .int .i64 x1, v2', v3', v4', v5', .int .i64 x6] 40; simpa only [World.size_alloc] using this)
 go_enter Tryz.func17, Tryz.ntmps17
 have ld := cell8 (SP.out.gB 1 rfl)
 have lc := cell8 (SP.out.gB 0 rfl)
 go_wp2_with fail
 clear ld lc
 generalize ((w.alloc (.cells #[p0_0, p0_1, .int .i64 x1, v2, v3, v4, v5, .int .i64 x6] 40)).alloc (.cells #[p0_0', p0_1', .int .i64 x1, v2', v3', v4', v5', .int .i64 x6] 40)) = W0 at *
 refine (eqK_Store (tStore_law.below H0.out SP.out.d) (tStore_law.below G0.out SP.out.d) S0.out).mono ?_
 rintro e W1 ⟨rfl, c⟩
 replace SP := zh (SP.out.below c)
 clear c
 have ld := cell8 (SP.out.gB 1 rfl)
 have lc := cell8 (SP.out.gB 0 rfl)
 go_wp2_with fail
 clear ld lc
 refine (eqKS_IntS (slR_below tInt_law H2.out SP.out.d) (slR_below tInt_law G2.out SP.out.d) S2.out).mono ?_
 rintro e W2 ⟨rfl, c⟩
 replace SP := zh (SP.out.below c)
 clear c
 have ld := cell8 (SP.out.gB 1 rfl)
 have lc := cell8 (SP.out.gB 0 rfl)
 go_wp2_with fail
 clear ld lc
 refine (eqKS_ActiveS (slR_below tActive_law H3.out SP.out.d) (slR_below tActive_law G3.out SP.out.d) S3.out).mono ?_
 rintro e W3 ⟨rfl, c⟩
 replace SP := zh (SP.out.below c)
 clear c
 have ld := cell8 (SP.out.gB 1 rfl)
 have lc := cell8 (SP.out.gB 0 rfl)
 go_wp2_with fail
 clear ld lc
 refine (eqKS_FinishedS (slR_below tFinished_law H4.out SP.out.d) (slR_below tFinished_law G4.out SP.out.d) S4.out).mono ?_
 rintro e W4 ⟨rfl, c⟩
 replace SP := zh (SP.out.below c)
 clear c
 have ld := cell8 (SP.out.gB 1 rfl)
 have lc := cell8 (SP.out.gB 0 rfl)
 go_wp2_with fail
 clear ld lc
 refine (eqKS_ChargeS (slR_below tCharge_law H5.out SP.out.d) (slR_below tCharge_law G5.out SP.out.d) S5.out).mono ?_
 rintro e W5 ⟨rfl, c⟩
 replace SP := zh (SP.out.below c)
 clear c
 have ld := cell8 (SP.out.gB 1 rfl)
 have lc := cell8 (SP.out.gB 0 rfl)
 go_wp2
 go_ret
 exact ⟨rfl, SP.out.d⟩
set_option maxHeartbeats 8000000 in
theorem toK_Engine {cs : List Value} {x : _} {w : World} (h : tEngine.R w cs x) (hs : tEngine.sz x ≤ 1048576) :
  Calls Tryz.prog 15 #[.agg cs.toArray] w (FreshT tEngine (fun cs => .agg cs.toArray) w x) := by
 obtain ⟨x0, x1, x2, x3, x4, x5, x6⟩ := x
 obtain ⟨p0_0, p0_1, v2, v3, v4, v5, rfl, h0, h2, h3, h4, h5⟩ := tEngine_P h
 rw [szEngine_eq] at hs
 have H0 := zh h0; have S0 := zh (show tStore.sz x0 ≤ 1048576 by omega)
 have H2 := zh h2; have S2 := zh (show zL tInt x2 ≤ 1048576 by omega)
 have H3 := zh h3; have S3 := zh (show zL tActive x3 ≤ 1048576 by omega)
 have H4 := zh h4; have S4 := zh (show zL tFinished x4 ≤ 1048576 by omega)
 have H5 := zh h5; have S5 := zh (show zL tCharge x5 ≤ 1048576 by omega)
 clear hs h0 h2 h3 h4 h5
 have SP : Hid (St w [iB (w.heap.size + 1 + 1) [.slice none 0 0, .int .i64 0, .int .i64 0, .slice none 0 0, .slice none 0 0, .slice none 0 0, .slice none 0 0, .int .i64 0] 40, iB (w.heap.size + 1) [.slice none 0 0, .int .i64 0, .int .i64 0, .slice none 0 0, .slice none 0 0, .slice none 0 0, .slice none 0 0, .int .i64 0] 40, iB w.heap.size [p0_0, p0_1, .int .i64 x1, v2, v3, v4, v5, .int .i64 x6] 30] (((w.alloc (.cells #[p0_0, p0_1, .int .i64 x1, v2, v3, v4, v5, .int .i64 x6] 30)).alloc (.cells #[.slice none 0 0, .int .i64 0, .int .i64 0, .slice none 0 0, .slice none 0 0, .slice none 0 0, .slice none 0 0, .int .i64 0] 40)).alloc (.cells #[.slice none 0 0, .int .i64 0, .int .i64 0, .slice none 0 0, .slice none 0 0, .slice none 0 0, .slice none 0 0, .int .i64 0] 40))) := zh (by have := (((St.init w).box [p0_0, p0_1, .int .i64 x1, v2, v3, v4, v5, .int .i64 x6] 30).box [.slice none 0 0, .int .i64 0, .int .i64 0, .slice none 0 0, .slice none 0 0, .slice none 0 0, .slice none 0 0, .int .i64 0] 40).box [.slice none 0 0, .int .i64 0, .int .i64 0, .slice none 0 0, .slice none 0 0, .slice none 0 0, .slice none 0 0, .int .i64 0] 40; simpa only [World.size_alloc] using this)
 go_enter Tryz.func15, Tryz.ntmps15
 go_upto_region 2 with fail
 generalize (((w.alloc (.cells #[p0_0, p0_1, .int .i64 x1, v2, v3, v4, v5, .int .i64 x6] 30)).alloc (.cells #[.slice none 0 0, .int .i64 0, .int .i64 0, .slice none 0 0, .slice none 0 0, .slice none 0 0, .slice none 0 0, .int .i64 0] 40)).alloc (.cells #[.slice none 0 0, .int .i64 0, .int .i64 0, .slice none 0 0, .slice none 0 0, .slice none 0 0, .slice none 0 0, .int .i64 0] 40)) = W0 at *
 have ld := cell8 (SP.out.gB 2 rfl)
 go_wp2_with fail
 clear ld
 refine (toK_Store (tStore_law.below H0.out SP.out.d) S0.out).mono ?_
 rintro e V0 ⟨gs, rfl, o, c⟩
 obtain ⟨g0_0, g0_1, rfl⟩ := len2 (tStore_law.len (tStore_law.reads o))
 obtain ⟨F0, sp⟩ := SP.out.pushE tStore_law c o (fun b h => h)
 replace SP := zh sp
 clear sp o c
 have st0 := store_at (P := Tryz.prog) (j := 0) (SP.out.gB 1 rfl) (by simp) (v := g0_0) (tStore_one (SP.out.rT 0 rfl) _ (by simp))
 have st1 := store_at (P := Tryz.prog) (j := 1) (setRow_heap V0 (w.heap.size + 1 + 1) _ #[g0_0, .int .i64 0, .int .i64 0, .slice none 0 0, .slice none 0 0, .slice none 0 0, .slice none 0 0, .int .i64 0] 40 (0, 0) (SP.out.gB 1 rfl)) (by simp) (v := g0_1) (tStore_one (SP.out.rT 0 rfl) _ (by simp))
 rw [setRow_setRow] at st1
 simp only [List.setIfInBounds_toArray, List.set_cons_succ, List.set_cons_zero] at st0 st1
 go_upto_region 3 with fail
 clear st0 st1
 replace SP := zh (SP.out.store 1 rfl [g0_0, g0_1, .int .i64 0, .slice none 0 0, .slice none 0 0, .slice none 0 0, .slice none 0 0, .int .i64 0])
 generalize V0.setRow (w.heap.size + 1 + 1) #[g0_0, g0_1, .int .i64 0, .slice none 0 0, .slice none 0 0, .slice none 0 0, .slice none 0 0, .int .i64 0] = Y0 at *
 have ld := cell8 (SP.out.gB 3 rfl)
 have le := cell8 (SP.out.gB 1 rfl)
 have fz := froz8 (SP.out.gB 1 rfl)
 go_upto_region 4 with fail
 clear ld le fz
 have e := setCell_box (SP.out.gB 1 rfl) 2 (.int .i64 x1)
 simp only [List.setIfInBounds_toArray, List.set_cons_succ, List.set_cons_zero] at e
 rw [e]
 clear e
 replace SP := zh (SP.out.store 1 rfl [g0_0, g0_1, .int .i64 x1, .slice none 0 0, .slice none 0 0, .slice none 0 0, .slice none 0 0, .int .i64 0])
 generalize Y0.setRow (w.heap.size + 1 + 1) #[g0_0, g0_1, .int .i64 x1, .slice none 0 0, .slice none 0 0, .slice none 0 0, .slice none 0 0, .int .i64 0] = Y1 at *
 have ld := cell8 (SP.out.gB 3 rfl)
 go_wp2_with fail
 clear ld
 refine (toKS_IntS (slR_below tInt_law H2.out SP.out.d) S2.out).mono ?_
 rintro e V2 ⟨g2, rfl, o, c⟩
 obtain ⟨ga2, gc2, rfl⟩ := slO_len o
 obtain ⟨F2, sp⟩ := SP.out.pushE tIntES_law c ⟨_, _, rfl, o⟩ (fun b h => h)
 replace SP := zh sp
 clear sp o c
 have le := cell8 (SP.out.gB 2 rfl)
 have fz := froz8 (SP.out.gB 2 rfl)
 go_upto_region 5 with fail
 clear le fz
 have e := setCell_box (SP.out.gB 2 rfl) 3 (.slice ga2 x2.length gc2)
 simp only [List.setIfInBounds_toArray, List.set_cons_succ, List.set_cons_zero] at e
 rw [e]
 clear e
 replace SP := zh (SP.out.store 2 rfl [g0_0, g0_1, .int .i64 x1, .slice ga2 x2.length gc2, .slice none 0 0, .slice none 0 0, .slice none 0 0, .int .i64 0])
 generalize V2.setRow (w.heap.size + 1 + 1) #[g0_0, g0_1, .int .i64 x1, .slice ga2 x2.length gc2, .slice none 0 0, .slice none 0 0, .slice none 0 0, .int .i64 0] = Y2 at *
 have ld := cell8 (SP.out.gB 4 rfl)
 go_wp2_with fail
 clear ld
 refine (toKS_ActiveS (slR_below tActive_law H3.out SP.out.d) S3.out).mono ?_
 rintro e V3 ⟨g3, rfl, o, c⟩
 obtain ⟨ga3, gc3, rfl⟩ := slO_len o
 obtain ⟨F3, sp⟩ := SP.out.pushTE tActive_law tActiveS_law c o (fun b h => h)
 replace SP := zh sp
 clear sp o c
 have le := cell8 (SP.out.gB 3 rfl)
 have fz := froz8 (SP.out.gB 3 rfl)
 go_upto_region 6 with fail
 clear le fz
 have e := setCell_box (SP.out.gB 3 rfl) 4 (.slice ga3 x3.length gc3)
 simp only [List.setIfInBounds_toArray, List.set_cons_succ, List.set_cons_zero] at e
 rw [e]
 clear e
 replace SP := zh (SP.out.store 3 rfl [g0_0, g0_1, .int .i64 x1, .slice ga2 x2.length gc2, .slice ga3 x3.length gc3, .slice none 0 0, .slice none 0 0, .int .i64 0])
 generalize V3.setRow (w.heap.size + 1 + 1) #[g0_0, g0_1, .int .i64 x1, .slice ga2 x2.length gc2, .slice ga3 x3.length gc3, .slice none 0 0, .slice none 0 0, .int .i64 0] = Y3 at *
 have ld := cell8 (SP.out.gB 5 rfl)
 go_wp2_with fail
 clear ld
 refine (toKS_FinishedS (slR_below tFinished_law H4.out SP.out.d) S4.out).mono ?_
 rintro e V4 ⟨g4, rfl, o, c⟩
 obtain ⟨ga4, gc4, rfl⟩ := slO_len o
 obtain ⟨F4, sp⟩ := SP.out.pushTE tFinished_law tFinishedS_law c o (fun b h => h)
 replace SP := zh sp
 clear sp o c
 have le := cell8 (SP.out.gB 4 rfl)
 have fz := froz8 (SP.out.gB 4 rfl)
 go_upto_region 7 with fail
 clear le fz
 have e := setCell_box (SP.out.gB 4 rfl) 5 (.slice ga4 x4.length gc4)
 simp only [List.setIfInBounds_toArray, List.set_cons_succ, List.set_cons_zero] at e
 rw [e]
 clear e
 replace SP := zh (SP.out.store 4 rfl [g0_0, g0_1, .int .i64 x1, .slice ga2 x2.length gc2, .slice ga3 x3.length gc3, .slice ga4 x4.length gc4, .slice none 0 0, .int .i64 0])
 generalize V4.setRow (w.heap.size + 1 + 1) #[g0_0, g0_1, .int .i64 x1, .slice ga2 x2.length gc2, .slice ga3 x3.length gc3, .slice ga4 x4.length gc4, .slice none 0 0, .int .i64 0] = Y4 at *
 have ld := cell8 (SP.out.gB 6 rfl)
 go_wp2_with fail
 clear ld
 refine (toKS_ChargeS (slR_below tCharge_law H5.out SP.out.d) S5.out).mono ?_
 rintro e V5 ⟨g5, rfl, o, c⟩
 obtain ⟨ga5, gc5, rfl⟩ := slO_len o
 obtain ⟨F5, sp⟩ := SP.out.pushTE tCharge_law tChargeS_law c o (fun b h => h)
 replace SP := zh sp
 clear sp o c
 have le := cell8 (SP.out.gB 5 rfl)
 have fz := froz8 (SP.out.gB 5 rfl)
 go_upto_region 8 with fail
 clear le fz
 have e := setCell_box (SP.out.gB 5 rfl) 6 (.slice ga5 x5.length gc5)
 simp only [List.setIfInBounds_toArray, List.set_cons_succ, List.set_cons_zero] at e
 rw [e]
 clear e
 replace SP := zh (SP.out.store 5 rfl [g0_0, g0_1, .int .i64 x1, .slice ga2 x2.length gc2, .slice ga3 x3.length gc3, .slice ga4 x4.length gc4, .slice ga5 x5.length gc5, .int .i64 0])
 generalize V5.setRow (w.heap.size + 1 + 1) #[g0_0, g0_1, .int .i64 x1, .slice ga2 x2.length gc2, .slice ga3 x3.length gc3, .slice ga4 x4.length gc4, .slice ga5 x5.length gc5, .int .i64 0] = Y5 at *
 have ld := cell8 (SP.out.gB 7 rfl)
 have le := cell8 (SP.out.gB 5 rfl)
 have fz := froz8 (SP.out.gB 5 rfl)
 go_upto_region 9 with fail
 clear ld le fz
 have e := setCell_box (SP.out.gB 5 rfl) 7 (.int .i64 x6)
 simp only [List.setIfInBounds_toArray, List.set_cons_succ, List.set_cons_zero] at e
 rw [e]
 clear e
 replace SP := zh (SP.out.store 5 rfl [g0_0, g0_1, .int .i64 x1, .slice ga2 x2.length gc2, .slice ga3 x3.length gc3, .slice ga4 x4.length gc4, .slice ga5 x5.length gc5, .int .i64 x6])
 generalize Y5.setRow (w.heap.size + 1 + 1) #[g0_0, g0_1, .int .i64 x1, .slice ga2 x2.length gc2, .slice ga3 x3.length gc3, .slice ga4 x4.length gc4, .slice ga5 x5.length gc5, .int .i64 x6] = Y6 at *
 generalize hu2 : Value.int .i64 x1 = u2 at SP
 have on2 : ∀ v ∈ [u2], v.oneCell' = true := by rw [← hu2]; simp [Value.oneCell']
 have HU2 := zh hu2
 clear hu2
 generalize hu3 : Value.slice ga2 x2.length gc2 = u3 at SP
 have on3 : ∀ v ∈ [u3], v.oneCell' = true := by rw [← hu3]; simp [Value.oneCell']
 have HU3 := zh hu3
 clear hu3
 generalize hu4 : Value.slice ga3 x3.length gc3 = u4 at SP
 have on4 : ∀ v ∈ [u4], v.oneCell' = true := by rw [← hu4]; simp [Value.oneCell']
 have HU4 := zh hu4
 clear hu4
 generalize hu5 : Value.slice ga4 x4.length gc4 = u5 at SP
 have on5 : ∀ v ∈ [u5], v.oneCell' = true := by rw [← hu5]; simp [Value.oneCell']
 have HU5 := zh hu5
 clear hu5
 generalize hu6 : Value.slice ga5 x5.length gc5 = u6 at SP
 have on6 : ∀ v ∈ [u6], v.oneCell' = true := by rw [← hu6]; simp [Value.oneCell']
 have HU6 := zh hu6
 clear hu6
 generalize hu7 : Value.int .i64 x6 = u7 at SP
 have on7 : ∀ v ∈ [u7], v.oneCell' = true := by rw [← hu7]; simp [Value.oneCell']
 have HU7 := zh hu7
 clear hu7
 have hone := (one_app (tStore_one (SP.out.rT 4 rfl)) (one_app on2 (one_app on3 (one_app on4 (one_app on5 (one_app on6 on7))))))
 clear on2 on3 on4 on5 on6 on7
 have ld := cell8 (SP.out.gB 5 rfl)
 have st := rst8 (P := Tryz.prog) (SP.out.gB 6 rfl) hone
 go_wp2
 clear ld st hone
 replace SP := zh (SP.out.store 6 rfl [g0_0, g0_1, u2, u3, u4, u5, u6, u7])
 generalize Y6.setRow (w.heap.size + 1) #[g0_0, g0_1, u2, u3, u4, u5, u6, u7] = YY at *
 have ld := cell8 (SP.out.gB 6 rfl)
 have J := SP.out.sub [0, 1, 2, 3, 4] (by decide)
 refine bodyPost_ret (v := .agg #[g0_0, g0_1, u2, u3, u4, u5, u6, u7]) (by simp [results, Tryz.f15, go_sem, ld]) rfl ?_
 replace J := J.pval tInt_law (o_int x6)
 obtain ⟨_, J⟩ := J.cat
 obtain ⟨_, J⟩ := J.cat
 obtain ⟨_, J⟩ := J.cat
 replace J := J.intp x1
 obtain ⟨_, J⟩ := J.cat
 obtain rfl := HU2.out
 obtain rfl := HU3.out
 obtain rfl := HU4.out
 obtain rfl := HU5.out
 obtain rfl := HU6.out
 obtain rfl := HU7.out
 exact ⟨_, rfl, J.outC, SP.out.d⟩
end Go.Proofs.YtnepfacnmaoieaaGreatDoor
