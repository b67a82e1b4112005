/-
 Texts of the proof, merged: TActive, TActiveS, TFinished, TFinishedS.
-/
import Derived.Test.YtcolddalajoheaaGreatDoorSO1
import Derived.BigQuiet
import Derived.Deep.QuietTactic
import Derived.Deep.RegionHeld3
namespace Go.Proofs.YtcolddalajoheaaGreatDoor
open Go.RowKit
open Go renaming frozen_of_row → Ut, cell_of_row → Uu, heap_setCell_same → Uv, heap_alloc_new → Uw
open Go.World renaming size_alloc → Ux
open Go.World.ownsRow renaming frozenAt → Uy, stored → Uz
open List renaming getElem?_set_ne → Ea, getElem?_set_self → Eb, getElem?_eq_getElem → Ec
open Nat renaming le_refl → Ed, lt_of_lt_of_le → Ee, zero_le → Ef
open Go.Value.slice renaming injEq → Eg
open Go.RowKit.Below renaming refl → Eh
open ZD0
set_option maxRecDepth 100000
set_option linter.unusedVariables false
set_option linter.unusedSimpArgs false
def Jm : Ty ((Int × Int × List (Int × Int × Int) × List Int) × Int × List Int × Int × Int × Int × List (Int × List Int)) := Vu Ue (Vu Jf (Vu Un (Vu Jf (Vu Jf (Vu Jf tRowS)))))
theorem Ji : Jm.Law := Kp Ym (Kp Jb (Kp tIntS_law (Kp Jb (Kp Jb (Kp Jb tRowS_law)))))
theorem Uh {w : World} {cs : List Value} {a0 : Int} {a1 : Int} {x2 : List (Int × Int × Int)} {x3 : List Int} {a4 : Int} {x5 : List Int} {a6 : Int} {a7 : Int} {a8 : Int} {x9 : List (Int × List Int)} (h : Jm.R w cs ((a0, a1, x2, x3), a4, x5, a6, a7, a8, x9)) : ∃ v2 v3 v5 v9, cs = [.int .i64 a0, .int .i64 a1, v2, v3, .int .i64 a4, v5, .int .i64 a6, .int .i64 a7, .int .i64 a8, v9] ∧ Kc Jl w v2 x2 ∧ Kc Jf w v3 x3 ∧ Kc Jf w v5 x5 ∧ Kc Kb w v9 x9 := by
 obtain ⟨_, _, rfl, ⟨_, _, rfl, rfl, ⟨_, _, rfl, rfl, ⟨_, _, rfl, ⟨v2, rfl, h2⟩, ⟨v3, rfl, h3⟩⟩⟩⟩, ⟨_, _, rfl, rfl, ⟨_, _, rfl, ⟨v5, rfl, h5⟩, ⟨_, _, rfl, rfl, ⟨_, _, rfl, rfl, ⟨_, _, rfl, rfl, ⟨v9, rfl, h9⟩⟩⟩⟩⟩⟩⟩ := h
 exact ⟨_, _, _, _, rfl, h2, h3, h5, h9⟩
theorem Yo {a0 : Int} {a1 : Int} {x2 : List (Int × Int × Int)} {x3 : List Int} {a4 : Int} {x5 : List Int} {a6 : Int} {a7 : Int} {a8 : Int} {x9 : List (Int × List Int)} : Jm.sz ((a0, a1, x2, x3), a4, x5, a6, a7, a8, x9) = zL Jl x2 + zL Jf x3 + zL Jf x5 + zL Kb x9 := by
 simp only [Jm, Xi, Vo, Vn, Ub, Ye, Yd, tSl_sz, Xn, Xm, Ue]
 try omega
theorem tActive_nd {a0 : Int} {a1 : Int} {x2 : List (Int × Int × Int)} {x3 : List Int} {a4 : Int} {x5 : List Int} {a6 : Int} {a7 : Int} {a8 : Int} {x9 : List (Int × List Int)} : Jm.nd ((a0, a1, x2, x3), a4, x5, a6, a7, a8, x9) = 6 + Jt Jl x2 + Jt Jf x3 + Jt Jf x5 + Jt Kb x9 := by
 simp only [Jm, Xi, Vo, Vn, Ub, Ye, Yd, tSl_sz, Xn, Xm, Ue]
 try omega
theorem tActive_md {a0 : Int} {a1 : Int} {x2 : List (Int × Int × Int)} {x3 : List Int} {a4 : Int} {x5 : List Int} {a6 : Int} {a7 : Int} {a8 : Int} {x9 : List (Int × List Int)} {k : Int} : Jm.md ((a0, a1, x2, x3), a4, x5, a6, a7, a8, x9) k = (((k), (k + 1), Vf Jl x2 (k + 1 + 1), Vf Jf x3 (k + 1 + 1 + (Jt Jl x2 : Int))), (k + 1 + 1 + (Jt Jl x2 : Int) + (Jt Jf x3 : Int)), Vf Jf x5 (k + 1 + 1 + (Jt Jl x2 : Int) + (Jt Jf x3 : Int) + 1), (k + 1 + 1 + (Jt Jl x2 : Int) + (Jt Jf x3 : Int) + 1 + (Jt Jf x5 : Int)), (k + 1 + 1 + (Jt Jl x2 : Int) + (Jt Jf x3 : Int) + 1 + (Jt Jf x5 : Int) + 1), (k + 1 + 1 + (Jt Jl x2 : Int) + (Jt Jf x3 : Int) + 1 + (Jt Jf x5 : Int) + 1 + 1), Vf Kb x9 (k + 1 + 1 + (Jt Jl x2 : Int) + (Jt Jf x3 : Int) + 1 + (Jt Jf x5 : Int) + 1 + 1 + 1)) := by
 simp only [Jm, tPair_md, tPair_mv, Vo, Vn, tInt_md, tInt_mv, Ye, Yd, tSl_md, tSl_mv, Xn, Xm, Ue, Int.natCast_add, Int.natCast_zero, Int.natCast_one, Int.add_zero, Int.zero_add, Int.add_assoc]
theorem tActive_O {w : World} {F : Nat → Prop} {cs : List Value} {a0 : Int} {a1 : Int} {x2 : List (Int × Int × Int)} {x3 : List Int} {a4 : Int} {x5 : List Int} {a6 : Int} {a7 : Int} {a8 : Int} {x9 : List (Int × List Int)} (h : Jm.O w F cs ((a0, a1, x2, x3), a4, x5, a6, a7, a8, x9)) : ∃ v2 v3 v5 v9, ∃ F2 F3 F5 F9 : Nat → Prop, cs = [.int .i64 a0, .int .i64 a1, v2, v3, .int .i64 a4, v5, .int .i64 a6, .int .i64 a7, .int .i64 a8, v9] ∧ Kt 145 Jl w F2 v2 x2 ∧ Kt 3 Jf w F3 v3 x3 ∧ Kt 3 Jf w F5 v5 x5 ∧ Kt 64 Kb w F9 v9 x9 ∧ (∀ b, F2 b → F b) ∧ (∀ b, F3 b → F b) ∧ (∀ b, F5 b → F b) ∧ (∀ b, F9 b → F b) ∧ (∀ b, F2 b → ¬ F3 b) ∧ (∀ b, F2 b → ¬ F5 b) ∧ (∀ b, F2 b → ¬ F9 b) ∧ (∀ b, F3 b → ¬ F5 b) ∧ (∀ b, F3 b → ¬ F9 b) ∧ (∀ b, F5 b → ¬ F9 b) := by
 obtain ⟨_, _, F0_1, F0_2, rfl, ⟨_, _, F1_1, F1_2, rfl, rfl, ⟨_, _, F2_1, F2_2, rfl, rfl, ⟨_, _, F3_1, F3_2, rfl, ⟨v2, rfl, h2⟩, ⟨v3, rfl, h3⟩, s3_1, s3_2, d3⟩, s2_1, s2_2, d2⟩, s1_1, s1_2, d1⟩, ⟨_, _, F4_1, F4_2, rfl, rfl, ⟨_, _, F5_1, F5_2, rfl, ⟨v5, rfl, h5⟩, ⟨_, _, F6_1, F6_2, rfl, rfl, ⟨_, _, F7_1, F7_2, rfl, rfl, ⟨_, _, F8_1, F8_2, rfl, rfl, ⟨v9, rfl, h9⟩, s8_1, s8_2, d8⟩, s7_1, s7_2, d7⟩, s6_1, s6_2, d6⟩, s5_1, s5_2, d5⟩, s4_1, s4_2, d4⟩, s0_1, s0_2, d0⟩ := h
 exact ⟨v2, v3, v5, v9, F3_1, F3_2, F5_1, F8_2, rfl, h2, h3, h5, h9, fun b h => (s0_1 b (s1_2 b (s2_2 b (s3_1 b h)))), fun b h => (s0_1 b (s1_2 b (s2_2 b (s3_2 b h)))), fun b h => (s0_2 b (s4_2 b (s5_1 b h))), fun b h => (s0_2 b (s4_2 b (s5_2 b (s6_2 b (s7_2 b (s8_2 b h)))))), fun b h h2 => d3 b h h2, fun b h h2 => d0 b (s1_2 b (s2_2 b (s3_1 b h))) (s4_2 b (s5_1 b h2)), fun b h h2 => d0 b (s1_2 b (s2_2 b (s3_1 b h))) (s4_2 b (s5_2 b (s6_2 b (s7_2 b (s8_2 b h2))))), fun b h h2 => d0 b (s1_2 b (s2_2 b (s3_2 b h))) (s4_2 b (s5_1 b h2)), fun b h h2 => d0 b (s1_2 b (s2_2 b (s3_2 b h))) (s4_2 b (s5_2 b (s6_2 b (s7_2 b (s8_2 b h2))))), fun b h h2 => d5 b h (s6_2 b (s7_2 b (s8_2 b h2)))⟩
theorem tActive_mkO {w : World} {F : Nat → Prop} {a0 : Int} {a1 : Int} {x2 : List (Int × Int × Int)} {x3 : List Int} {a4 : Int} {x5 : List Int} {a6 : Int} {a7 : Int} {a8 : Int} {x9 : List (Int × List Int)} {v2 v3 v5 v9 : Value} {F2 F3 F5 F9 : Nat → Prop} (h2 : Kt 145 Jl w F2 v2 x2) (h3 : Kt 3 Jf w F3 v3 x3) (h5 : Kt 3 Jf w F5 v5 x5) (h9 : Kt 64 Kb w F9 v9 x9) (s2 : ∀ b, F2 b → F b) (s3 : ∀ b, F3 b → F b) (s5 : ∀ b, F5 b → F b) (s9 : ∀ b, F9 b → F b) (d2_3 : ∀ b, F2 b → ¬ F3 b) (d2_5 : ∀ b, F2 b → ¬ F5 b) (d2_9 : ∀ b, F2 b → ¬ F9 b) (d3_5 : ∀ b, F3 b → ¬ F5 b) (d3_9 : ∀ b, F3 b → ¬ F9 b) (d5_9 : ∀ b, F5 b → ¬ F9 b) : Jm.O w F [a0, a1, v2, v3, a4, v5, a6, a7, a8, v9] ((a0, a1, x2, x3), a4, x5, a6, a7, a8, x9) := ⟨[a0, a1, v2, v3], [a4, v5, a6, a7, a8, v9], fun b => F2 b ∨ (F3 b), fun b => F5 b ∨ (F9 b), rfl, ⟨[a0], [a1, v2, v3], fun _ => False, fun b => F2 b ∨ (F3 b), rfl, rfl, ⟨[a1], [v2, v3], fun _ => False, fun b => F2 b ∨ (F3 b), rfl, rfl, ⟨[v2], [v3], F2, F3, rfl, ⟨_, rfl, h2⟩, ⟨_, rfl, h3⟩, (fun b h => (Or.inl h)), (fun b h => (Or.inr h)), (fun b h g => d2_3 b h g)⟩, (fun b h => (False.elim h)), (fun b h => (h.elim (fun q0 => (Or.inl q0)) (fun q0 => (Or.inr q0)))), (fun b h g => (False.elim h))⟩, (fun b h => (False.elim h)), (fun b h => (h.elim (fun q0 => (Or.inl q0)) (fun q0 => (Or.inr q0)))), (fun b h g => (False.elim h))⟩, ⟨[a4], [v5, a6, a7, a8, v9], fun _ => False, fun b => F5 b ∨ (F9 b), rfl, rfl, ⟨[v5], [a6, a7, a8, v9], F5, F9, rfl, ⟨_, rfl, h5⟩, ⟨[a6], [a7, a8, v9], fun _ => False, F9, rfl, rfl, ⟨[a7], [a8, v9], fun _ => False, F9, rfl, rfl, ⟨[a8], [v9], fun _ => False, F9, rfl, rfl, ⟨_, rfl, h9⟩, (fun b h => (False.elim h)), (fun b h => h), (fun b h g => (False.elim h))⟩, (fun b h => (False.elim h)), (fun b h => h), (fun b h g => (False.elim h))⟩, (fun b h => (False.elim h)), (fun b h => h), (fun b h g => (False.elim h))⟩, (fun b h => (Or.inl h)), (fun b h => (Or.inr h)), (fun b h g => d5_9 b h g)⟩, (fun b h => (False.elim h)), (fun b h => (h.elim (fun q0 => (Or.inl q0)) (fun q0 => (Or.inr q0)))), (fun b h g => (False.elim h))⟩, (fun b h => (h.elim (fun q0 => s2 b q0) (fun q0 => s3 b q0))), (fun b h => (h.elim (fun q0 => s5 b q0) (fun q0 => s9 b q0))), (fun b h g => (h.elim (fun q0 => (g.elim (fun q10 => d2_5 b q0 q10) (fun q10 => d2_9 b q0 q10))) (fun q0 => (g.elim (fun q10 => d3_5 b q0 q10) (fun q10 => d3_9 b q0 q10)))))⟩
set_option maxHeartbeats 8000000 in
theorem szActive_Y (a0 a1 a4 a6 a7 a8 : Int) (v2 v3 v5 v9 : Value) (x2 : List (Int × Int × Int)) (x3 : List Int) (x5 : List Int) (x9 : List (Int × List Int)) (k0 : Int) (w : World) (h2 : Kc Jl w v2 x2) (h3 : Kc Jf w v3 x3) (h5 : Kc Jf w v5 x5) (h9 : Kc Kb w v9 x9) (hs : ((zL Jl x2 + zL Jf x3 + zL Jf x5 + zL Kb x9 : Nat) : Int) ≤ k0) (hk : k0 ≤ 1048576) :
  Calls Tryz.prog 83 #[.agg #[a0, a1, v2, v3, a4, v5, a6, a7, a8, v9], .int .i64 k0] w fun e w' => e = .returned (.int .i64 (k0 - ((zL Jl x2 + zL Jf x3 + zL Jf x5 + zL Kb x9 : Nat) : Int))) ∧ Below w w w' := by
 have H2 := hd h2
 have H3 := hd h3
 have H5 := hd h5
 have H9 := hd h9
 clear h2 h3 h5 h9
 have HZ0 : Hid (((zL Jl x2 + zL Jf x3 : Nat) : Int) ≤ k0) := hd (by omega)
 have HK0 : Hid (k0 ≤ 1048576) := hd (by omega)
 have hn0 : ¬ k0 - ((zL Jl x2 + zL Jf x3 : Nat) : Int) < 0 := by omega
 have HZ5 : Hid (((zL Jf x5 : Nat) : Int) ≤ k0 - ((zL Jl x2 + zL Jf x3 : Nat) : Int)) := hd (by omega)
 have HK5 : Hid (k0 - ((zL Jl x2 + zL Jf x3 : Nat) : Int) ≤ 1048576) := hd (by omega)
 have hn5 : ¬ k0 - ((zL Jl x2 + zL Jf x3 : Nat) : Int) - ((zL Jf x5 : Nat) : Int) < 0 := by omega
 have HZ9 : Hid (((zL Kb x9 : Nat) : Int) ≤ k0 - ((zL Jl x2 + zL Jf x3 : Nat) : Int) - ((zL Jf x5 : Nat) : Int)) := hd (by omega)
 have HK9 : Hid (k0 - ((zL Jl x2 + zL Jf x3 : Nat) : Int) - ((zL Jf x5 : Nat) : Int) ≤ 1048576) := hd (by omega)
 have hn9 : ¬ k0 - ((zL Jl x2 + zL Jf x3 : Nat) : Int) - ((zL Jf x5 : Nat) : Int) - ((zL Kb x9 : Nat) : Int) < 0 := by omega
 have HE : Hid (k0 - ((zL Jl x2 + zL Jf x3 : Nat) : Int) - ((zL Jf x5 : Nat) : Int) - ((zL Kb x9 : Nat) : Int) = k0 - ((zL Jl x2 + zL Jf x3 + zL Jf x5 + zL Kb x9 : Nat) : Int)) := hd (by omega)
 clear hs hk
 have hb : Below w w (w.alloc (.cells #[a0, a1, v2, v3, a4, v5, a6, a7, a8, v9] 126)) := (Eh _ w).alloc (Ed _) _
 have g0 : (w.alloc (.cells #[a0, a1, v2, v3, a4, v5, a6, a7, a8, v9] 126)).heap[w.heap.size]? = some (.cells #[a0, a1, v2, v3, a4, v5, a6, a7, a8, v9] 126 (0, 0)) := Uw w _
 have hz0 : w.heap.size < (w.alloc (.cells #[a0, a1, v2, v3, a4, v5, a6, a7, a8, v9] 126)).heap.size := by simp
 go_enter Tryz.func83, Tryz.ntmps83
 go_wp2_with fail
 generalize (w.alloc (.cells #[a0, a1, v2, v3, a4, v5, a6, a7, a8, v9] 126)) = W at *
 refine (szQuery_Y a0 a1 v2 v3 x2 x3 (k0) W (Jc Jq H2.out hb) (Jc Jb H3.out hb) HZ0.out HK0.out).mono ?_
 rintro e W1 ⟨rfl, b1⟩
 replace g0 := (b1.block w.heap.size hz0).trans g0
 replace hz0 := Ee hz0 b1.size
 replace hb := hb.trans (b1.mono hb.size)
 clear b1
 have p5 := cr 5 (v5) g0
 go_wp2_with fail
 clear p5
 refine (Yb v5 x5 (k0 - ((zL Jl x2 + zL Jf x3 : Nat) : Int)) W1 (Jc Jb H5.out hb) HZ5.out HK5.out).mono ?_
 rintro e W2 ⟨rfl, b1⟩
 replace g0 := (b1.block w.heap.size hz0).trans g0
 replace hz0 := Ee hz0 b1.size
 replace hb := hb.trans (b1.mono hb.size)
 clear b1
 have p9 := cr 9 (v9) g0
 go_wp2_with fail
 clear p9
 refine (szRowS_Y v9 x9 (k0 - ((zL Jl x2 + zL Jf x3 : Nat) : Int) - ((zL Jf x5 : Nat) : Int)) W2 (Jc Jv H9.out hb) HZ9.out HK9.out).mono ?_
 rintro e W3 ⟨rfl, b1⟩
 replace g0 := (b1.block w.heap.size hz0).trans g0
 replace hz0 := Ee hz0 b1.size
 replace hb := hb.trans (b1.mono hb.size)
 clear b1
 go_wp2
 go_ret
 exact ⟨ty_ret HE.out, hb⟩
set_option maxHeartbeats 8000000 in
theorem szActive_N (a0 a1 a4 a6 a7 a8 : Int) (v2 v3 v5 v9 : Value) (x2 : List (Int × Int × Int)) (x3 : List Int) (x5 : List Int) (x9 : List (Int × List Int)) (k0 : Int) (w : World) (h2 : Kc Jl w v2 x2) (h3 : Kc Jf w v3 x3) (h5 : Kc Jf w v5 x5) (h9 : Kc Kb w v9 x9) (hs : k0 < ((zL Jl x2 + zL Jf x3 + zL Jf x5 + zL Kb x9 : Nat) : Int)) (hk : k0 ≤ 1048576) (hp : 0 ≤ k0) (o2 : tCondS.ok x2) (o3 : Un.ok x3) (o5 : Un.ok x5) (o9 : tRowS.ok x9) :
  Calls Tryz.prog 83 #[.agg #[a0, a1, v2, v3, a4, v5, a6, a7, a8, v9], .int .i64 k0] w fun e w' => e = .returned (.int .i64 (-1)) ∧ Below w w w' := by
 have H2 := hd h2
 have H3 := hd h3
 have H5 := hd h5
 have H9 := hd h9
 clear h2 h3 h5 h9
 have HO2 := hd o2
 have HO3 := hd o3
 have HO5 := hd o5
 have HO9 := hd o9
 clear o2 o3 o5 o9
 by_cases c0 : k0 < ((zL Jl x2 + zL Jf x3 : Nat) : Int)
 ·
  have HZ0 : Hid (k0 < ((zL Jl x2 + zL Jf x3 : Nat) : Int)) := hd (by omega)
  have HP0 : Hid (0 ≤ k0) := hd (by omega)
  have HK0 : Hid (k0 ≤ 1048576) := hd (by omega)
  clear hs hk
  clear c0 hp
  have hb : Below w w (w.alloc (.cells #[a0, a1, v2, v3, a4, v5, a6, a7, a8, v9] 126)) := (Eh _ w).alloc (Ed _) _
  have g0 : (w.alloc (.cells #[a0, a1, v2, v3, a4, v5, a6, a7, a8, v9] 126)).heap[w.heap.size]? = some (.cells #[a0, a1, v2, v3, a4, v5, a6, a7, a8, v9] 126 (0, 0)) := Uw w _
  have hz0 : w.heap.size < (w.alloc (.cells #[a0, a1, v2, v3, a4, v5, a6, a7, a8, v9] 126)).heap.size := by simp
  go_enter Tryz.func83, Tryz.ntmps83
  go_wp2_with fail
  generalize (w.alloc (.cells #[a0, a1, v2, v3, a4, v5, a6, a7, a8, v9] 126)) = W at *
  refine (szQuery_N a0 a1 v2 v3 x2 x3 (k0) W (Jc Jq H2.out hb) (Jc Jb H3.out hb) HZ0.out HK0.out HP0.out HO2.out HO3.out).mono ?_
  rintro e W1 ⟨rfl, b1⟩
  replace g0 := (b1.block w.heap.size hz0).trans g0
  replace hz0 := Ee hz0 b1.size
  replace hb := hb.trans (b1.mono hb.size)
  clear b1
  go_wp2
  go_ret
  exact ⟨rfl, hb⟩
 ·
  by_cases c1 : k0 - ((zL Jl x2 + zL Jf x3 : Nat) : Int) < ((zL Jf x5 : Nat) : Int)
  ·
   have HZ0 : Hid (((zL Jl x2 + zL Jf x3 : Nat) : Int) ≤ k0) := hd (by omega)
   have hn0 : ¬ k0 - ((zL Jl x2 + zL Jf x3 : Nat) : Int) < 0 := by omega
   have HK0 : Hid (k0 ≤ 1048576) := hd (by omega)
   have HZ5 : Hid (k0 - ((zL Jl x2 + zL Jf x3 : Nat) : Int) < ((zL Jf x5 : Nat) : Int)) := hd (by omega)
   have HP5 : Hid (0 ≤ k0 - ((zL Jl x2 + zL Jf x3 : Nat) : Int)) := hd (by omega)
   have HK5 : Hid (k0 - ((zL Jl x2 + zL Jf x3 : Nat) : Int) ≤ 1048576) := hd (by omega)
   clear hs hk
   clear c1 hp c0
   have hb : Below w w (w.alloc (.cells #[a0, a1, v2, v3, a4, v5, a6, a7, a8, v9] 126)) := (Eh _ w).alloc (Ed _) _
   have g0 : (w.alloc (.cells #[a0, a1, v2, v3, a4, v5, a6, a7, a8, v9] 126)).heap[w.heap.size]? = some (.cells #[a0, a1, v2, v3, a4, v5, a6, a7, a8, v9] 126 (0, 0)) := Uw w _
   have hz0 : w.heap.size < (w.alloc (.cells #[a0, a1, v2, v3, a4, v5, a6, a7, a8, v9] 126)).heap.size := by simp
   go_enter Tryz.func83, Tryz.ntmps83
   go_wp2_with fail
   generalize (w.alloc (.cells #[a0, a1, v2, v3, a4, v5, a6, a7, a8, v9] 126)) = W at *
   refine (szQuery_Y a0 a1 v2 v3 x2 x3 (k0) W (Jc Jq H2.out hb) (Jc Jb H3.out hb) HZ0.out HK0.out).mono ?_
   rintro e W1 ⟨rfl, b1⟩
   replace g0 := (b1.block w.heap.size hz0).trans g0
   replace hz0 := Ee hz0 b1.size
   replace hb := hb.trans (b1.mono hb.size)
   clear b1
   have p5 := cr 5 (v5) g0
   go_wp2_with fail
   clear p5
   refine (szIntS_N v5 x5 (k0 - ((zL Jl x2 + zL Jf x3 : Nat) : Int)) W1 (Jc Jb H5.out hb) HZ5.out HK5.out HP5.out HO5.out).mono ?_
   rintro e W2 ⟨rfl, b1⟩
   replace g0 := (b1.block w.heap.size hz0).trans g0
   replace hz0 := Ee hz0 b1.size
   replace hb := hb.trans (b1.mono hb.size)
   clear b1
   go_wp2
   go_ret
   exact ⟨rfl, hb⟩
  ·
   have HZ0 : Hid (((zL Jl x2 + zL Jf x3 : Nat) : Int) ≤ k0) := hd (by omega)
   have hn0 : ¬ k0 - ((zL Jl x2 + zL Jf x3 : Nat) : Int) < 0 := by omega
   have HK0 : Hid (k0 ≤ 1048576) := hd (by omega)
   have HZ5 : Hid (((zL Jf x5 : Nat) : Int) ≤ k0 - ((zL Jl x2 + zL Jf x3 : Nat) : Int)) := hd (by omega)
   have hn5 : ¬ k0 - ((zL Jl x2 + zL Jf x3 : Nat) : Int) - ((zL Jf x5 : Nat) : Int) < 0 := by omega
   have HK5 : Hid (k0 - ((zL Jl x2 + zL Jf x3 : Nat) : Int) ≤ 1048576) := hd (by omega)
   have HZ9 : Hid (k0 - ((zL Jl x2 + zL Jf x3 : Nat) : Int) - ((zL Jf x5 : Nat) : Int) < ((zL Kb x9 : Nat) : Int)) := hd (by omega)
   have HP9 : Hid (0 ≤ k0 - ((zL Jl x2 + zL Jf x3 : Nat) : Int) - ((zL Jf x5 : Nat) : Int)) := hd (by omega)
   have HK9 : Hid (k0 - ((zL Jl x2 + zL Jf x3 : Nat) : Int) - ((zL Jf x5 : Nat) : Int) ≤ 1048576) := hd (by omega)
   clear hs hk
   clear hp c0 c1
   have hb : Below w w (w.alloc (.cells #[a0, a1, v2, v3, a4, v5, a6, a7, a8, v9] 126)) := (Eh _ w).alloc (Ed _) _
   have g0 : (w.alloc (.cells #[a0, a1, v2, v3, a4, v5, a6, a7, a8, v9] 126)).heap[w.heap.size]? = some (.cells #[a0, a1, v2, v3, a4, v5, a6, a7, a8, v9] 126 (0, 0)) := Uw w _
   have hz0 : w.heap.size < (w.alloc (.cells #[a0, a1, v2, v3, a4, v5, a6, a7, a8, v9] 126)).heap.size := by simp
   go_enter Tryz.func83, Tryz.ntmps83
   go_wp2_with fail
   generalize (w.alloc (.cells #[a0, a1, v2, v3, a4, v5, a6, a7, a8, v9] 126)) = W at *
   refine (szQuery_Y a0 a1 v2 v3 x2 x3 (k0) W (Jc Jq H2.out hb) (Jc Jb H3.out hb) HZ0.out HK0.out).mono ?_
   rintro e W1 ⟨rfl, b1⟩
   replace g0 := (b1.block w.heap.size hz0).trans g0
   replace hz0 := Ee hz0 b1.size
   replace hb := hb.trans (b1.mono hb.size)
   clear b1
   have p5 := cr 5 (v5) g0
   go_wp2_with fail
   clear p5
   refine (Yb v5 x5 (k0 - ((zL Jl x2 + zL Jf x3 : Nat) : Int)) W1 (Jc Jb H5.out hb) HZ5.out HK5.out).mono ?_
   rintro e W2 ⟨rfl, b1⟩
   replace g0 := (b1.block w.heap.size hz0).trans g0
   replace hz0 := Ee hz0 b1.size
   replace hb := hb.trans (b1.mono hb.size)
   clear b1
   have p9 := cr 9 (v9) g0
   go_wp2_with fail
   clear p9
   refine (szRowS_N v9 x9 (k0 - ((zL Jl x2 + zL Jf x3 : Nat) : Int) - ((zL Jf x5 : Nat) : Int)) W2 (Jc Jv H9.out hb) HZ9.out HK9.out HP9.out HO9.out).mono ?_
   rintro e W3 ⟨rfl, b1⟩
   replace g0 := (b1.block w.heap.size hz0).trans g0
   replace hz0 := Ee hz0 b1.size
   replace hb := hb.trans (b1.mono hb.size)
   clear b1
   go_wp2
   go_ret
   exact ⟨rfl, hb⟩
set_option maxHeartbeats 8000000 in
theorem toActive_T (a0 a1 a4 a6 a7 a8 : Int) (v2 v3 v5 v9 : Value) (x2 : List (Int × Int × Int)) (x3 : List Int) (x5 : List Int) (x9 : List (Int × List Int)) (w : World) (h2 : Kc Jl w v2 x2) (h3 : Kc Jf w v3 x3) (h5 : Kc Jf w v5 x5) (h9 : Kc Kb w v9 x9) (s2 : zL Jl x2 ≤ 1048576) (s3 : zL Jf x3 ≤ 1048576) (s5 : zL Jf x5 ≤ 1048576) (s9 : zL Kb x9 ≤ 1048576) :
  Calls Tryz.prog 96 #[.agg #[a0, a1, v2, v3, a4, v5, a6, a7, a8, v9]] w (Yc Jm (fun cs => .agg cs.toArray) w ((a0, a1, x2, x3), a4, x5, a6, a7, a8, x9)) := by
 have H2 := hd h2
 have H3 := hd h3
 have H5 := hd h5
 have H9 := hd h9
 clear h2 h3 h5 h9
 have S2 := hd s2
 have S3 := hd s3
 have S5 := hd s5
 have S9 := hd s9
 clear s2 s3 s5 s9
 go_enter Tryz.func96, Tryz.ntmps96
 go_wp2_with fail
 have hb : Below w w (((w.alloc (.cells #[a0, a1, v2, v3, a4, v5, a6, a7, a8, v9] 126)).alloc (.cells #[Ja, Ja, (), (), Ja, (), Ja, Ja, Ja, ()] 88)).alloc (.cells #[Ja, Ja, (), (), Ja, (), Ja, Ja, Ja, ()] 88)) := (((Eh _ w).alloc (Ed _) _).alloc (by simp) _).alloc (by simp; omega) _
 have g2 : (((w.alloc (.cells #[a0, a1, v2, v3, a4, v5, a6, a7, a8, v9] 126)).alloc (.cells #[Ja, Ja, (), (), Ja, (), Ja, Ja, Ja, ()] 88)).alloc (.cells #[Ja, Ja, (), (), Ja, (), Ja, Ja, Ja, ()] 88)).heap[w.heap.size + 1 + 1]? = some (.cells #[Ja, Ja, (), (), Ja, (), Ja, Ja, Ja, ()] 88 (0, 0)) := by
  have := Uw ((w.alloc (.cells #[a0, a1, v2, v3, a4, v5, a6, a7, a8, v9] 126)).alloc (.cells #[Ja, Ja, (), (), Ja, (), Ja, Ja, Ja, ()] 88)) (.cells #[Ja, Ja, (), (), Ja, (), Ja, Ja, Ja, ()] 88)
  simpa only [Ux] using this
 have g1 : (((w.alloc (.cells #[a0, a1, v2, v3, a4, v5, a6, a7, a8, v9] 126)).alloc (.cells #[Ja, Ja, (), (), Ja, (), Ja, Ja, Ja, ()] 88)).alloc (.cells #[Ja, Ja, (), (), Ja, (), Ja, Ja, Ja, ()] 88)).heap[w.heap.size + 1]? = some (.cells #[Ja, Ja, (), (), Ja, (), Ja, Ja, Ja, ()] 88 (0, 0)) := by
  have := Uw (w.alloc (.cells #[a0, a1, v2, v3, a4, v5, a6, a7, a8, v9] 126)) (.cells #[Ja, Ja, (), (), Ja, (), Ja, Ja, Ja, ()] 88)
  rw [Below.heap_alloc _ _ _ (by simp)]
  simpa only [Ux] using this
 have g0 : (((w.alloc (.cells #[a0, a1, v2, v3, a4, v5, a6, a7, a8, v9] 126)).alloc (.cells #[Ja, Ja, (), (), Ja, (), Ja, Ja, Ja, ()] 88)).alloc (.cells #[Ja, Ja, (), (), Ja, (), Ja, Ja, Ja, ()] 88)).heap[w.heap.size]? = some (.cells #[a0, a1, v2, v3, a4, v5, a6, a7, a8, v9] 126 (0, 0)) := by
  rw [Below.heap_alloc _ _ _ (by simp; omega), Below.heap_alloc _ _ _ (by simp)]
  exact Uw w _
 have hz : w.heap.size + 2 < (((w.alloc (.cells #[a0, a1, v2, v3, a4, v5, a6, a7, a8, v9] 126)).alloc (.cells #[Ja, Ja, (), (), Ja, (), Ja, Ja, Ja, ()] 88)).alloc (.cells #[Ja, Ja, (), (), Ja, (), Ja, Ja, Ja, ()] 88)).heap.size := by simp [Ux]
 generalize (((w.alloc (.cells #[a0, a1, v2, v3, a4, v5, a6, a7, a8, v9] 126)).alloc (.cells #[Ja, Ja, (), (), Ja, (), Ja, Ja, Ja, ()] 88)).alloc (.cells #[Ja, Ja, (), (), Ja, (), Ja, Ja, Ja, ()] 88)) = W at *
 refine (toQuery_T a0 a1 v2 v3 x2 x3 W (Jc Jq H2.out hb) (Jc Jb H3.out hb) S2.out S3.out).mono ?_
 rintro e w1 ⟨cs, rfl, ow, b1⟩
 replace ow := Ym.mono (Ym.lt ow) (F' := fun b => W.heap.size ≤ b ∧ b < w1.heap.size) (fun b h => h)
 obtain ⟨u2, u3, F2, F3, rfl, o2, o3, q2, q3, d2_3⟩ := tQuery_O ow
 obtain ⟨ua2, uc2, rfl⟩ := Js o2
 obtain ⟨ua3, uc3, rfl⟩ := Js o3
 replace g0 := (b1.block _ (by omega)).trans g0
 replace g1 := (b1.block _ (by omega)).trans g1
 replace g2 := (b1.block _ (by omega)).trans g2
 have zz1 := b1.size
 replace hb := hb.trans (b1.mono (by omega))
 clear b1
 have c2_0 := cr 0 Ja g2
 have f2_0 := Ut w1 _ 0 _ _ g2
 have c2_1 := cr 1 Ja g2
 have f2_1 := Ut w1 _ 1 _ _ g2
 have c2_2 := cr 2 () g2
 have f2_2 := Ut w1 _ 2 _ _ g2
 have c2_3 := cr 3 () g2
 have f2_3 := Ut w1 _ 3 _ _ g2
 have c2_4 := cr 4 Ja g2
 have f2_4 := Ut w1 _ 4 _ _ g2
 have ne1 : ¬ w.heap.size = w.heap.size + 1 + 1 := by omega
 have ne2 : ¬ w.heap.size + 1 = w.heap.size + 1 + 1 := by omega
 have ne3 : ¬ w.heap.size + 1 + 1 = w.heap.size + 1 := by omega
 have c0_4 := cr 4 a4 g0
 have c0_5 := cr 5 (v5) g0
 have l0_4 : ((((w1.setCell ⟨w.heap.size + 1 + 1, 0, none⟩ a0).setCell ⟨w.heap.size + 1 + 1, 1, none⟩ a1).setCell ⟨w.heap.size + 1 + 1, 2, none⟩ (.slice ua2 x2.length uc2)).setCell ⟨w.heap.size + 1 + 1, 3, none⟩ (.slice ua3 x3.length uc3)).cell? ⟨w, 4, none⟩ = some (Value.int .i64 a4) := by
  have m : ((((w1.setCell ⟨w.heap.size + 1 + 1, 0, none⟩ a0).setCell ⟨w.heap.size + 1 + 1, 1, none⟩ a1).setCell ⟨w.heap.size + 1 + 1, 2, none⟩ (.slice ua2 x2.length uc2)).setCell ⟨w.heap.size + 1 + 1, 3, none⟩ (.slice ua3 x3.length uc3)).heap[w.heap.size]? = some (.cells #[a0, a1, v2, v3, a4, v5, a6, a7, a8, v9] 126 (0, 0)) := by
   repeat rw [heap_setCell_other _ _ _ _ (by simp <;> omega)]
   exact g0
  exact (Uu _ _ 4 _ _ _ m).trans rfl
 have l0_5 : (((((w1.setCell ⟨w.heap.size + 1 + 1, 0, none⟩ a0).setCell ⟨w.heap.size + 1 + 1, 1, none⟩ a1).setCell ⟨w.heap.size + 1 + 1, 2, none⟩ (.slice ua2 x2.length uc2)).setCell ⟨w.heap.size + 1 + 1, 3, none⟩ (.slice ua3 x3.length uc3)).setCell ⟨w.heap.size + 1 + 1, 4, none⟩ a4).cell? ⟨w, 5, none⟩ = some (v5) := by
  have m : (((((w1.setCell ⟨w.heap.size + 1 + 1, 0, none⟩ a0).setCell ⟨w.heap.size + 1 + 1, 1, none⟩ a1).setCell ⟨w.heap.size + 1 + 1, 2, none⟩ (.slice ua2 x2.length uc2)).setCell ⟨w.heap.size + 1 + 1, 3, none⟩ (.slice ua3 x3.length uc3)).setCell ⟨w.heap.size + 1 + 1, 4, none⟩ a4).heap[w.heap.size]? = some (.cells #[a0, a1, v2, v3, a4, v5, a6, a7, a8, v9] 126 (0, 0)) := by
   repeat rw [heap_setCell_other _ _ _ _ (by simp <;> omega)]
   exact g0
  exact (Uu _ _ 5 _ _ _ m).trans rfl
 go_wp2_with fail
 clear c2_0 f2_0 c2_1 f2_1 c2_2 f2_2 c2_3 f2_3 c2_4 f2_4 ne1 ne2 ne3 c0_4 c0_5 l0_4 l0_5
 have hw := ts5 w1 (w.heap.size + 1 + 1) a0 a1 (.slice ua2 x2.length uc2) (.slice ua3 x3.length uc3) a4
 replace g0 := (hw.block _ (by omega) (by omega)).trans g0
 replace g1 := (hw.block _ (by omega) (by omega)).trans g1
 have g2n := (Uv _ (w.heap.size + 1 + 1) 4 _ _ a4 (Uv _ (w.heap.size + 1 + 1) 3 _ _ (.slice ua3 x3.length uc3) (Uv _ (w.heap.size + 1 + 1) 2 _ _ (.slice ua2 x2.length uc2) (Uv _ (w.heap.size + 1 + 1) 1 _ _ a1 (Uv _ (w.heap.size + 1 + 1) 0 _ _ a0 g2)))))
 replace g2 : (((((w1.setCell ⟨w.heap.size + 1 + 1, 0, none⟩ a0).setCell ⟨w.heap.size + 1 + 1, 1, none⟩ a1).setCell ⟨w.heap.size + 1 + 1, 2, none⟩ (.slice ua2 x2.length uc2)).setCell ⟨w.heap.size + 1 + 1, 3, none⟩ (.slice ua3 x3.length uc3)).setCell ⟨w.heap.size + 1 + 1, 4, none⟩ a4).heap[w.heap.size + 1 + 1]? = some (.cells #[a0, a1, .slice ua2 x2.length uc2, .slice ua3 x3.length uc3, a4, (), Ja, Ja, Ja, ()] 88 (0, 0)) := by simpa using g2n
 clear g2n
 replace o2 := Ju Jq o2 hw (fun b h1 h2 => by first | (have := h1.1; omega) | (have := q2 b h1; omega))
 replace o3 := Ju Jb o3 hw (fun b h1 h2 => by first | (have := h1.1; omega) | (have := q3 b h1; omega))
 replace hb := Jr hb hw (fun b h => by omega) (by omega)
 have hz0 := hw.size
 clear hw
 generalize (((((w1.setCell ⟨w.heap.size + 1 + 1, 0, none⟩ a0).setCell ⟨w.heap.size + 1 + 1, 1, none⟩ a1).setCell ⟨w.heap.size + 1 + 1, 2, none⟩ (.slice ua2 x2.length uc2)).setCell ⟨w.heap.size + 1 + 1, 3, none⟩ (.slice ua3 x3.length uc3)).setCell ⟨w.heap.size + 1 + 1, 4, none⟩ a4) = W1 at *
 refine (Xh v5 x5 W1 (Jc Jb H5.out hb) S5.out).mono ?_
 rintro e w2 ⟨u5, rfl, o5, b1⟩
 obtain ⟨ua5, uc5, rfl⟩ := Js o5
 replace o5 := Kk (Ki Jb o5) (F' := fun b => W1.heap.size ≤ b ∧ b < w2.heap.size) (fun b h => h)
 replace g0 := (b1.block _ (by omega)).trans g0
 replace g1 := (b1.block _ (by omega)).trans g1
 replace g2 := (b1.block _ (by omega)).trans g2
 replace o2 := Kq Jq o2 b1
 replace o3 := Kq Jb o3 b1
 have zz2 := b1.size
 replace hb := hb.trans (b1.mono (by omega))
 clear b1
 have c2_0 := cr 0 a0 g2
 have f2_0 := Ut w2 _ 0 _ _ g2
 have c2_1 := cr 1 a1 g2
 have f2_1 := Ut w2 _ 1 _ _ g2
 have c2_2 := cr 2 (Value.slice ua2 x2.length uc2) g2
 have f2_2 := Ut w2 _ 2 _ _ g2
 have c2_3 := cr 3 (Value.slice ua3 x3.length uc3) g2
 have f2_3 := Ut w2 _ 3 _ _ g2
 have c2_4 := cr 4 a4 g2
 have f2_4 := Ut w2 _ 4 _ _ g2
 have c2_5 := cr 5 () g2
 have f2_5 := Ut w2 _ 5 _ _ g2
 have c2_6 := cr 6 Ja g2
 have f2_6 := Ut w2 _ 6 _ _ g2
 have c2_7 := cr 7 Ja g2
 have f2_7 := Ut w2 _ 7 _ _ g2
 have c2_8 := cr 8 Ja g2
 have f2_8 := Ut w2 _ 8 _ _ g2
 have ne1 : ¬ w.heap.size = w.heap.size + 1 + 1 := by omega
 have ne2 : ¬ w.heap.size + 1 = w.heap.size + 1 + 1 := by omega
 have ne3 : ¬ w.heap.size + 1 + 1 = w.heap.size + 1 := by omega
 have c0_6 := cr 6 a6 g0
 have c0_7 := cr 7 a7 g0
 have c0_8 := cr 8 a8 g0
 have c0_9 := cr 9 (v9) g0
 have l0_6 : (w2.setCell ⟨w.heap.size + 1 + 1, 5, none⟩ (.slice ua5 x5.length uc5)).cell? ⟨w, 6, none⟩ = some (Value.int .i64 a6) := by
  have m : (w2.setCell ⟨w.heap.size + 1 + 1, 5, none⟩ (.slice ua5 x5.length uc5)).heap[w.heap.size]? = some (.cells #[a0, a1, v2, v3, a4, v5, a6, a7, a8, v9] 126 (0, 0)) := by
   repeat rw [heap_setCell_other _ _ _ _ (by simp <;> omega)]
   exact g0
  exact (Uu _ _ 6 _ _ _ m).trans rfl
 have l0_7 : ((w2.setCell ⟨w.heap.size + 1 + 1, 5, none⟩ (.slice ua5 x5.length uc5)).setCell ⟨w.heap.size + 1 + 1, 6, none⟩ a6).cell? ⟨w, 7, none⟩ = some (Value.int .i64 a7) := by
  have m : ((w2.setCell ⟨w.heap.size + 1 + 1, 5, none⟩ (.slice ua5 x5.length uc5)).setCell ⟨w.heap.size + 1 + 1, 6, none⟩ a6).heap[w.heap.size]? = some (.cells #[a0, a1, v2, v3, a4, v5, a6, a7, a8, v9] 126 (0, 0)) := by
   repeat rw [heap_setCell_other _ _ _ _ (by simp <;> omega)]
   exact g0
  exact (Uu _ _ 7 _ _ _ m).trans rfl
 have l0_8 : (((w2.setCell ⟨w.heap.size + 1 + 1, 5, none⟩ (.slice ua5 x5.length uc5)).setCell ⟨w.heap.size + 1 + 1, 6, none⟩ a6).setCell ⟨w.heap.size + 1 + 1, 7, none⟩ a7).cell? ⟨w, 8, none⟩ = some (Value.int .i64 a8) := by
  have m : (((w2.setCell ⟨w.heap.size + 1 + 1, 5, none⟩ (.slice ua5 x5.length uc5)).setCell ⟨w.heap.size + 1 + 1, 6, none⟩ a6).setCell ⟨w.heap.size + 1 + 1, 7, none⟩ a7).heap[w.heap.size]? = some (.cells #[a0, a1, v2, v3, a4, v5, a6, a7, a8, v9] 126 (0, 0)) := by
   repeat rw [heap_setCell_other _ _ _ _ (by simp <;> omega)]
   exact g0
  exact (Uu _ _ 8 _ _ _ m).trans rfl
 have l0_9 : ((((w2.setCell ⟨w.heap.size + 1 + 1, 5, none⟩ (.slice ua5 x5.length uc5)).setCell ⟨w.heap.size + 1 + 1, 6, none⟩ a6).setCell ⟨w.heap.size + 1 + 1, 7, none⟩ a7).setCell ⟨w.heap.size + 1 + 1, 8, none⟩ a8).cell? ⟨w, 9, none⟩ = some (v9) := by
  have m : ((((w2.setCell ⟨w.heap.size + 1 + 1, 5, none⟩ (.slice ua5 x5.length uc5)).setCell ⟨w.heap.size + 1 + 1, 6, none⟩ a6).setCell ⟨w.heap.size + 1 + 1, 7, none⟩ a7).setCell ⟨w.heap.size + 1 + 1, 8, none⟩ a8).heap[w.heap.size]? = some (.cells #[a0, a1, v2, v3, a4, v5, a6, a7, a8, v9] 126 (0, 0)) := by
   repeat rw [heap_setCell_other _ _ _ _ (by simp <;> omega)]
   exact g0
  exact (Uu _ _ 9 _ _ _ m).trans rfl
 go_wp2_with fail
 clear c2_0 f2_0 c2_1 f2_1 c2_2 f2_2 c2_3 f2_3 c2_4 f2_4 c2_5 f2_5 c2_6 f2_6 c2_7 f2_7 c2_8 f2_8 ne1 ne2 ne3 c0_6 c0_7 c0_8 c0_9 l0_6 l0_7 l0_8 l0_9
 have hw : Jy (fun b => b = w.heap.size + 1 + 1) w2 ((((w2.setCell ⟨w.heap.size + 1 + 1, 5, none⟩ (.slice ua5 x5.length uc5)).setCell ⟨w.heap.size + 1 + 1, 6, none⟩ a6).setCell ⟨w.heap.size + 1 + 1, 7, none⟩ a7).setCell ⟨w.heap.size + 1 + 1, 8, none⟩ a8) := by
  first | exact (((((Jy.refl (fun b => b = w.heap.size + 1 + 1) _).trans (Jh (G := fun b => b = w.heap.size + 1 + 1) (g := w.heap.size + 1 + 1) (j := 5) (u := .slice ua5 x5.length uc5) rfl)).trans (Jh (G := fun b => b = w.heap.size + 1 + 1) (g := w.heap.size + 1 + 1) (j := 6) (u := .int .i64 a6) rfl)).trans (Jh (G := fun b => b = w.heap.size + 1 + 1) (g := w.heap.size + 1 + 1) (j := 7) (u := .int .i64 a7) rfl)).trans (Jh (G := fun b => b = w.heap.size + 1 + 1) (g := w.heap.size + 1 + 1) (j := 8) (u := .int .i64 a8) rfl)) | skip
 replace g0 := (hw.block _ (by omega) (by omega)).trans g0
 replace g1 := (hw.block _ (by omega) (by omega)).trans g1
 have g2n := (Uv _ (w.heap.size + 1 + 1) 8 _ _ a8 (Uv _ (w.heap.size + 1 + 1) 7 _ _ a7 (Uv _ (w.heap.size + 1 + 1) 6 _ _ a6 (Uv _ (w.heap.size + 1 + 1) 5 _ _ (.slice ua5 x5.length uc5) g2))))
 replace g2 : ((((w2.setCell ⟨w.heap.size + 1 + 1, 5, none⟩ (.slice ua5 x5.length uc5)).setCell ⟨w.heap.size + 1 + 1, 6, none⟩ a6).setCell ⟨w.heap.size + 1 + 1, 7, none⟩ a7).setCell ⟨w.heap.size + 1 + 1, 8, none⟩ a8).heap[w.heap.size + 1 + 1]? = some (.cells #[a0, a1, .slice ua2 x2.length uc2, .slice ua3 x3.length uc3, a4, .slice ua5 x5.length uc5, a6, a7, a8, ()] 88 (0, 0)) := by simpa using g2n
 clear g2n
 replace o2 := Ju Jq o2 hw (fun b h1 h2 => by first | (have := h1.1; omega) | (have := q2 b h1; omega))
 replace o3 := Ju Jb o3 hw (fun b h1 h2 => by first | (have := h1.1; omega) | (have := q3 b h1; omega))
 replace o5 := Ju Jb o5 hw (fun b h1 h2 => by first | (have := h1.1; omega) | (have := q5 b h1; omega))
 replace hb := Jr hb hw (fun b h => by omega) (by omega)
 have hz1 := hw.size
 clear hw
 generalize ((((w2.setCell ⟨w.heap.size + 1 + 1, 5, none⟩ (.slice ua5 x5.length uc5)).setCell ⟨w.heap.size + 1 + 1, 6, none⟩ a6).setCell ⟨w.heap.size + 1 + 1, 7, none⟩ a7).setCell ⟨w.heap.size + 1 + 1, 8, none⟩ a8) = W2 at *
 refine (toRowS_S v9 x9 W2 (Jc Jv H9.out hb) S9.out).mono ?_
 rintro e w3 ⟨u9, rfl, o9, b1⟩
 obtain ⟨ua9, uc9, rfl⟩ := Js o9
 replace o9 := Kk (Ki Jv o9) (F' := fun b => W2.heap.size ≤ b ∧ b < w3.heap.size) (fun b h => h)
 replace g0 := (b1.block _ (by omega)).trans g0
 replace g1 := (b1.block _ (by omega)).trans g1
 replace g2 := (b1.block _ (by omega)).trans g2
 replace o2 := Kq Jq o2 b1
 replace o3 := Kq Jb o3 b1
 replace o5 := Kq Jb o5 b1
 have zz3 := b1.size
 replace hb := hb.trans (b1.mono (by omega))
 clear b1
 have c2_0 := cr 0 a0 g2
 have f2_0 := Ut w3 _ 0 _ _ g2
 have c2_1 := cr 1 a1 g2
 have f2_1 := Ut w3 _ 1 _ _ g2
 have c2_2 := cr 2 (Value.slice ua2 x2.length uc2) g2
 have f2_2 := Ut w3 _ 2 _ _ g2
 have c2_3 := cr 3 (Value.slice ua3 x3.length uc3) g2
 have f2_3 := Ut w3 _ 3 _ _ g2
 have c2_4 := cr 4 a4 g2
 have f2_4 := Ut w3 _ 4 _ _ g2
 have c2_5 := cr 5 (Value.slice ua5 x5.length uc5) g2
 have f2_5 := Ut w3 _ 5 _ _ g2
 have c2_6 := cr 6 a6 g2
 have f2_6 := Ut w3 _ 6 _ _ g2
 have c2_7 := cr 7 a7 g2
 have f2_7 := Ut w3 _ 7 _ _ g2
 have c2_8 := cr 8 a8 g2
 have f2_8 := Ut w3 _ 8 _ _ g2
 have c2_9 := cr 9 () g2
 have f2_9 := Ut w3 _ 9 _ _ g2
 have ne1 : ¬ w.heap.size = w.heap.size + 1 + 1 := by omega
 have ne2 : ¬ w.heap.size + 1 = w.heap.size + 1 + 1 := by omega
 have ne3 : ¬ w.heap.size + 1 + 1 = w.heap.size + 1 := by omega
 have c1_0 := cr 0 Ja g1
 have f1_0 := Ut w3 _ 0 _ _ g1
 have c1_1 := cr 1 Ja g1
 have f1_1 := Ut w3 _ 1 _ _ g1
 have c1_2 := cr 2 () g1
 have f1_2 := Ut w3 _ 2 _ _ g1
 have c1_3 := cr 3 () g1
 have f1_3 := Ut w3 _ 3 _ _ g1
 have c1_4 := cr 4 Ja g1
 have f1_4 := Ut w3 _ 4 _ _ g1
 have c1_5 := cr 5 () g1
 have f1_5 := Ut w3 _ 5 _ _ g1
 have c1_6 := cr 6 Ja g1
 have f1_6 := Ut w3 _ 6 _ _ g1
 have c1_7 := cr 7 Ja g1
 have f1_7 := Ut w3 _ 7 _ _ g1
 have c1_8 := cr 8 Ja g1
 have f1_8 := Ut w3 _ 8 _ _ g1
 have c1_9 := cr 9 () g1
 have f1_9 := Ut w3 _ 9 _ _ g1
 go_wp2
 clear c2_0 f2_0 c2_1 f2_1 c2_2 f2_2 c2_3 f2_3 c2_4 f2_4 c2_5 f2_5 c2_6 f2_6 c2_7 f2_7 c2_8 f2_8 c2_9 f2_9 ne1 ne2 ne3 c1_0 f1_0 c1_1 f1_1 c1_2 f1_2 c1_3 f1_3 c1_4 f1_4 c1_5 f1_5 c1_6 f1_6 c1_7 f1_7 c1_8 f1_8 c1_9 f1_9
 have hw : Jy (fun b => b = w.heap.size + 1 ∨ b = w.heap.size + 1 + 1) w3 (((((((((((w3.setCell ⟨w.heap.size + 1 + 1, 9, none⟩ (.slice ua9 x9.length uc9)).setCell ⟨w.heap.size + 1, 0, none⟩ a0).setCell ⟨w.heap.size + 1, 1, none⟩ a1).setCell ⟨w.heap.size + 1, 2, none⟩ (.slice ua2 x2.length uc2)).setCell ⟨w.heap.size + 1, 3, none⟩ (.slice ua3 x3.length uc3)).setCell ⟨w.heap.size + 1, 4, none⟩ a4).setCell ⟨w.heap.size + 1, 5, none⟩ (.slice ua5 x5.length uc5)).setCell ⟨w.heap.size + 1, 6, none⟩ a6).setCell ⟨w.heap.size + 1, 7, none⟩ a7).setCell ⟨w.heap.size + 1, 8, none⟩ a8).setCell ⟨w.heap.size + 1, 9, none⟩ (.slice ua9 x9.length uc9)) := by
  first | exact ((((((((((((Jy.refl _ _).trans (Jh (g := w.heap.size + 1 + 1) (j := 9) (u := .slice ua9 x9.length uc9) (Or.inr rfl))).trans (Jh (g := w.heap.size + 1) (j := 0) (u := .int .i64 a0) (Or.inl rfl))).trans (Jh (g := w.heap.size + 1) (j := 1) (u := .int .i64 a1) (Or.inl rfl))).trans (Jh (g := w.heap.size + 1) (j := 2) (u := .slice ua2 x2.length uc2) (Or.inl rfl))).trans (Jh (g := w.heap.size + 1) (j := 3) (u := .slice ua3 x3.length uc3) (Or.inl rfl))).trans (Jh (g := w.heap.size + 1) (j := 4) (u := .int .i64 a4) (Or.inl rfl))).trans (Jh (g := w.heap.size + 1) (j := 5) (u := .slice ua5 x5.length uc5) (Or.inl rfl))).trans (Jh (g := w.heap.size + 1) (j := 6) (u := .int .i64 a6) (Or.inl rfl))).trans (Jh (g := w.heap.size + 1) (j := 7) (u := .int .i64 a7) (Or.inl rfl))).trans (Jh (g := w.heap.size + 1) (j := 8) (u := .int .i64 a8) (Or.inl rfl))).trans (Jh (g := w.heap.size + 1) (j := 9) (u := .slice ua9 x9.length uc9) (Or.inl rfl))) | skip
 have r := (Uv _ (w.heap.size + 1) 9 _ _ (.slice ua9 x9.length uc9) (Uv _ (w.heap.size + 1) 8 _ _ a8 (Uv _ (w.heap.size + 1) 7 _ _ a7 (Uv _ (w.heap.size + 1) 6 _ _ a6 (Uv _ (w.heap.size + 1) 5 _ _ (.slice ua5 x5.length uc5) (Uv _ (w.heap.size + 1) 4 _ _ a4 (Uv _ (w.heap.size + 1) 3 _ _ (.slice ua3 x3.length uc3) (Uv _ (w.heap.size + 1) 2 _ _ (.slice ua2 x2.length uc2) (Uv _ (w.heap.size + 1) 1 _ _ a1 (Uv _ (w.heap.size + 1) 0 _ _ a0 ((heap_setCell_other _ ⟨w.heap.size + 1 + 1, 9, none⟩ (w.heap.size + 1) (.slice ua9 x9.length uc9) (by simp)).trans g1)))))))))))
 have e0 := Uu _ _ 0 _ _ _ r
 have e1 := Uu _ _ 1 _ _ _ r
 have e2 := Uu _ _ 2 _ _ _ r
 have e3 := Uu _ _ 3 _ _ _ r
 have e4 := Uu _ _ 4 _ _ _ r
 have e5 := Uu _ _ 5 _ _ _ r
 have e6 := Uu _ _ 6 _ _ _ r
 have e7 := Uu _ _ 7 _ _ _ r
 have e8 := Uu _ _ 8 _ _ _ r
 have e9 := Uu _ _ 9 _ _ _ r
 simp at e0 e1 e2 e3 e4 e5 e6 e7 e8 e9
 replace o2 := Ju Jq o2 hw (fun b h1 h2 => by first | (have := h1.1; omega) | (have := q2 b h1; omega))
 replace o3 := Ju Jb o3 hw (fun b h1 h2 => by first | (have := h1.1; omega) | (have := q3 b h1; omega))
 replace o5 := Ju Jb o5 hw (fun b h1 h2 => by first | (have := h1.1; omega) | (have := q5 b h1; omega))
 replace o9 := Ju Jv o9 hw (fun b h1 h2 => by first | (have := h1.1; omega) | (have := q9 b h1; omega))
 replace hb := Jr hb hw (fun b h => by omega) (by omega)
 refine bodyPost_ret (v := .agg #[a0, a1, .slice ua2 x2.length uc2, .slice ua3 x3.length uc3, a4, .slice ua5 x5.length uc5, a6, a7, a8, .slice ua9 x9.length uc9]) ?_ rfl ?_
 ·
  simp [results, Tryz.f96, go_sem, e0, e1, e2, e3, e4, e5, e6, e7, e8, e9]
 ·
  exact ⟨[a0, a1, .slice ua2 x2.length uc2, .slice ua3 x3.length uc3, a4, .slice ua5 x5.length uc5, a6, a7, a8, .slice ua9 x9.length uc9], rfl, tActive_mkO o2 o3 o5 o9 (fun b h => by show w.heap.size ≤ b; first | (have := h.1; omega) | (have := q2 b h; omega)) (fun b h => by show w.heap.size ≤ b; first | (have := h.1; omega) | (have := q3 b h; omega)) (fun b h => by show w.heap.size ≤ b; first | (have := h.1; omega) | (have := q5 b h; omega)) (fun b h => by show w.heap.size ≤ b; first | (have := h.1; omega) | (have := q9 b h; omega)) (fun b h1 h2 => by first | exact d2_3 b h1 h2 | (have := h1.1; have := h1.2; have := h2.1; have := h2.2; omega) | (have := q2 b h1; have := h2.1; have := h2.2; omega) | (have := h1.1; have := h1.2; have := q3 b h2; omega) | (have := q2 b h1; have := q3 b h2; omega)) (fun b h1 h2 => by first | exact d2_5 b h1 h2 | (have := h1.1; have := h1.2; have := h2.1; have := h2.2; omega) | (have := q2 b h1; have := h2.1; have := h2.2; omega) | (have := h1.1; have := h1.2; have := q5 b h2; omega) | (have := q2 b h1; have := q5 b h2; omega)) (fun b h1 h2 => by first | exact d2_9 b h1 h2 | (have := h1.1; have := h1.2; have := h2.1; have := h2.2; omega) | (have := q2 b h1; have := h2.1; have := h2.2; omega) | (have := h1.1; have := h1.2; have := q9 b h2; omega) | (have := q2 b h1; have := q9 b h2; omega)) (fun b h1 h2 => by first | exact d3_5 b h1 h2 | (have := h1.1; have := h1.2; have := h2.1; have := h2.2; omega) | (have := q3 b h1; have := h2.1; have := h2.2; omega) | (have := h1.1; have := h1.2; have := q5 b h2; omega) | (have := q3 b h1; have := q5 b h2; omega)) (fun b h1 h2 => by first | exact d3_9 b h1 h2 | (have := h1.1; have := h1.2; have := h2.1; have := h2.2; omega) | (have := q3 b h1; have := h2.1; have := h2.2; omega) | (have := h1.1; have := h1.2; have := q9 b h2; omega) | (have := q3 b h1; have := q9 b h2; omega)) (fun b h1 h2 => by first | exact d5_9 b h1 h2 | (have := h1.1; have := h1.2; have := h2.1; have := h2.2; omega) | (have := q5 b h1; have := h2.1; have := h2.2; omega) | (have := h1.1; have := h1.2; have := q9 b h2; omega) | (have := q5 b h1; have := q9 b h2; omega)), hb⟩
set_option maxHeartbeats 8000000 in
theorem eqActive_T (a0 a1 a4 a6 a7 a8 : Int) (v2 v3 v5 v9 : Value) (x2 : List (Int × Int × Int)) (x3 : List Int) (x5 : List Int) (x9 : List (Int × List Int)) (u2 u3 u5 u9 : Value) (w : World) (h2 : Kc Jl w v2 x2) (h3 : Kc Jf w v3 x3) (h5 : Kc Jf w v5 x5) (h9 : Kc Kb w v9 x9) (g2 : Kc Jl w u2 x2) (g3 : Kc Jf w u3 x3) (g5 : Kc Jf w u5 x5) (g9 : Kc Kb w u9 x9) (s2 : zL Jl x2 ≤ 1048576) (s3 : zL Jf x3 ≤ 1048576) (s5 : zL Jf x5 ≤ 1048576) (s9 : zL Kb x9 ≤ 1048576) :
  Calls Tryz.prog 122 #[.agg #[a0, a1, v2, v3, a4, v5, a6, a7, a8, v9], .agg #[a0, a1, u2, u3, a4, u5, a6, a7, a8, u9]] w fun e w' => e = .returned (.bool true) ∧ Below w w w' := by
 have H2 := hd h2; have G2 := hd g2; have S2 := hd s2
 have H3 := hd h3; have G3 := hd g3; have S3 := hd s3
 have H5 := hd h5; have G5 := hd g5; have S5 := hd s5
 have H9 := hd h9; have G9 := hd g9; have S9 := hd s9
 clear h2 g2 s2 h3 g3 s3 h5 g5 s5 h9 g9 s9
 have e0 : (a0 != a0) = false := by simp
 have e1 : (a1 != a1) = false := by simp
 have e4 : (a4 != a4) = false := by simp
 have e6 : (a6 != a6) = false := by simp
 have e7 : (a7 != a7) = false := by simp
 have e8 : (a8 != a8) = false := by simp
 go_enter Tryz.func122, Tryz.ntmps122
 go_wp2_with fail
 have hb : Below w w ((w.alloc (.cells #[a0, a1, v2, v3, a4, v5, a6, a7, a8, v9] 88)).alloc (.cells #[a0, a1, u2, u3, a4, u5, a6, a7, a8, u9] 88)) := ((Eh _ w).alloc (Ed _) _).alloc (by simp) _
 have g1 : ((w.alloc (.cells #[a0, a1, v2, v3, a4, v5, a6, a7, a8, v9] 88)).alloc (.cells #[a0, a1, u2, u3, a4, u5, a6, a7, a8, u9] 88)).heap[w.heap.size + 1]? = some (.cells #[a0, a1, u2, u3, a4, u5, a6, a7, a8, u9] 88 (0, 0)) := by
  have := Uw (w.alloc (.cells #[a0, a1, v2, v3, a4, v5, a6, a7, a8, v9] 88)) (.cells #[a0, a1, u2, u3, a4, u5, a6, a7, a8, u9] 88)
  simpa only [Ux] using this
 have g0 : ((w.alloc (.cells #[a0, a1, v2, v3, a4, v5, a6, a7, a8, v9] 88)).alloc (.cells #[a0, a1, u2, u3, a4, u5, a6, a7, a8, u9] 88)).heap[w.heap.size]? = some (.cells #[a0, a1, v2, v3, a4, v5, a6, a7, a8, v9] 88 (0, 0)) := by
  rw [Below.heap_alloc _ _ _ (by simp)]
  exact Uw w _
 have hz : w.heap.size + 1 < ((w.alloc (.cells #[a0, a1, v2, v3, a4, v5, a6, a7, a8, v9] 88)).alloc (.cells #[a0, a1, u2, u3, a4, u5, a6, a7, a8, u9] 88)).heap.size := by simp [Ux]
 generalize ((w.alloc (.cells #[a0, a1, v2, v3, a4, v5, a6, a7, a8, v9] 88)).alloc (.cells #[a0, a1, u2, u3, a4, u5, a6, a7, a8, u9] 88)) = W at *
 refine (eqQuery_T a0 a1 v2 v3 x2 x3 u2 u3 W (Jc Jq H2.out hb) (Jc Jb H3.out hb) (Jc Jq G2.out hb) (Jc Jb G3.out hb) S2.out S3.out).mono ?_
 rintro e w1 ⟨rfl, b1⟩
 replace g0 := (b1.block _ (by omega)).trans g0
 replace g1 := (b1.block _ (by omega)).trans g1
 have zz0 := b1.size
 replace hb := hb.trans (b1.mono (by omega))
 clear b1
 have p0_4 := cr 4 a4 g0
 have p1_4 := cr 4 a4 g1
 have p0_5 := cr 5 (v5) g0
 have p1_5 := cr 5 (u5) g1
 go_wp2_with fail
 clear p0_4 p1_4 p0_5 p1_5
 refine (Ur v5 u5 x5 w1 (Jc Jb H5.out hb) (Jc Jb G5.out hb) S5.out).mono ?_
 rintro e w2 ⟨rfl, b1⟩
 replace g0 := (b1.block _ (by omega)).trans g0
 replace g1 := (b1.block _ (by omega)).trans g1
 have zz1 := b1.size
 replace hb := hb.trans (b1.mono (by omega))
 clear b1
 have p0_6 := cr 6 a6 g0
 have p1_6 := cr 6 a6 g1
 have p0_7 := cr 7 a7 g0
 have p1_7 := cr 7 a7 g1
 have p0_8 := cr 8 a8 g0
 have p1_8 := cr 8 a8 g1
 have p0_9 := cr 9 (v9) g0
 have p1_9 := cr 9 (u9) g1
 go_wp2_with fail
 clear p0_6 p1_6 p0_7 p1_7 p0_8 p1_8 p0_9 p1_9
 refine (eqRowS_S v9 u9 x9 w2 (Jc Jv H9.out hb) (Jc Jv G9.out hb) S9.out).mono ?_
 rintro e w3 ⟨rfl, b1⟩
 replace g0 := (b1.block _ (by omega)).trans g0
 replace g1 := (b1.block _ (by omega)).trans g1
 have zz2 := b1.size
 replace hb := hb.trans (b1.mono (by omega))
 clear b1
 go_wp2
 go_ret
 exact ⟨rfl, hb⟩
abbrev tActiveS : Ty (List ((Int × Int × List (Int × Int × Int) × List Int) × Int × List Int × Int × Int × Int × List (Int × List Int))) := tSl 88 Jm
theorem tActiveS_law : tActiveS.Law := tSl_law Ji (by decide)
set_option maxHeartbeats 8000000 in
theorem szActiveS_Y (v : Value) (xs : List ((Int × Int × List (Int × Int × Int) × List Int) × Int × List Int × Int × Int × Int × List (Int × List Int))) (k0 : Int) (w : World) (h : Kc Jm w v xs) (hs : ((zL Jm xs : Nat) : Int) ≤ k0) (hk : k0 ≤ 1048576) :
  Calls Tryz.prog 33 #[v, .int .i64 k0] w fun e w' => e = .returned (.int .i64 (k0 - ((zL Jm xs : Nat) : Int))) ∧ Below w w w' := by
 have H := hd h
 obtain ⟨a, cap, rfl⟩ := Jo h
 clear h
 have h00 := Ul (T := Jm) (xs := xs) (Ef _)
 rw [Ky] at h00
 have HS := hd hs
 go_enter Tryz.func33, Tryz.ntmps33
 have hneg : ¬ k0 - (xs.length : Int) < 0 := by omega
 go_wp2
 clear hneg
 go_loopw [1, 5] (fun l i wr => ∃ k : Nat, k ≤ xs.length ∧ i = .int .i64 k ∧ l = .int .i64 (k0 - (Vm Jm xs k : Int)) ∧ Below w w wr) (fun _ i _ => xs.length - (intOf i).toNat)
 case atStart => exact ⟨0, Ef _, rfl, by rw [Ky], Eh _ _⟩
 case round =>
  obtain ⟨k, hk', rfl, rfl, hbel⟩ := hrel
  by_cases hlt : k < xs.length
  ·
   have HST := hd (Ys (T := Jm) hlt)
   have HLE := hd (Ul (T := Jm) (xs := xs) (k := k + 1) (by omega))
   have i1 : (0 : Int) ≤ (k : Int) := by omega
   have i2 : (k : Int) < (xs.length : Int) := by omega
   obtain ⟨b, off, cap', cs, hv, hbl, hcs, hR⟩ := Km (Jc Ji H.out hbel) hlt
   simp only [Eg] at hv
   obtain ⟨rfl, _, rfl⟩ := hv
   generalize xs.getD k Jm.d = x at *
   obtain ⟨⟨a0, a1, x2, x3⟩, a4, x5, a6, a7, a8, x9⟩ := x
   obtain ⟨v2, v3, v5, v9, hR'⟩ := Uh hR
   obtain ⟨rfl, h2, h3, h5, h9⟩ := hR'
   have p0 : wr.cell? ⟨b, off + k * 10, none⟩ = some (Value.int .i64 a0) := hcs 0 (by decide)
   have p1 : wr.cell? ⟨b, off + k * 10 + 1, none⟩ = some (Value.int .i64 a1) := hcs 1 (by decide)
   have p2 : wr.cell? ⟨b, off + k * 10 + 2, none⟩ = some (v2) := hcs 2 (by decide)
   have p3 : wr.cell? ⟨b, off + k * 10 + 3, none⟩ = some (v3) := hcs 3 (by decide)
   have p4 : wr.cell? ⟨b, off + k * 10 + 4, none⟩ = some (Value.int .i64 a4) := hcs 4 (by decide)
   have p5 : wr.cell? ⟨b, off + k * 10 + 5, none⟩ = some (v5) := hcs 5 (by decide)
   have p6 : wr.cell? ⟨b, off + k * 10 + 6, none⟩ = some (Value.int .i64 a6) := hcs 6 (by decide)
   have p7 : wr.cell? ⟨b, off + k * 10 + 7, none⟩ = some (Value.int .i64 a7) := hcs 7 (by decide)
   have p8 : wr.cell? ⟨b, off + k * 10 + 8, none⟩ = some (Value.int .i64 a8) := hcs 8 (by decide)
   have p9 : wr.cell? ⟨b, off + k * 10 + 9, none⟩ = some (v9) := hcs 9 (by decide)
   clear hcs
   have HQ : Hid (Jm.sz ((a0, a1, x2, x3), a4, x5, a6, a7, a8, x9) = zL Jl x2 + zL Jf x3 + zL Jf x5 + zL Kb x9) := hd Yo
   have hx1 : ((zL Jl x2 + zL Jf x3 + zL Jf x5 + zL Kb x9 : Nat) : Int) ≤ k0 - (Vm Jm xs k : Int) := by have := HST.out; have := HLE.out; have := HQ.out; omega
   have hx2 : k0 - (Vm Jm xs k : Int) ≤ 1048576 := by omega
   have hneg : ¬ k0 - (Vm Jm xs k : Int) - ((zL Jl x2 + zL Jf x3 + zL Jf x5 + zL Kb x9 : Nat) : Int) < 0 := by omega
   have HC := hd (fun W b => szActive_Y a0 a1 a4 a6 a7 a8 v2 v3 v5 v9 x2 x3 x5 x9 (k0 - (Vm Jm xs k : Int)) W (Jc Jq h2 b) (Jc Jb h3 b) (Jc Jb h5 b) (Jc Jv h9 b) hx1 hx2)
   go_wp2_with fail
   refine (HC.out _ (Eh _ _)).mono ?_
   rintro e w1 ⟨rfl, b1⟩
   have b2 := hbel.trans (b1.mono hbel.size)
   go_wp2
   go_roundw
   case rel => exact ⟨k + 1, by omega, by go_num, by rw [HST.out, HQ.out]; go_num, b2⟩
   case measure => simp [intOf]; omega
  ·
   obtain rfl : k = xs.length := by omega
   go_wp2
   go_ret
   exact ⟨rfl, hbel⟩
set_option maxHeartbeats 8000000 in
theorem szActiveS_N (v : Value) (xs : List ((Int × Int × List (Int × Int × Int) × List Int) × Int × List Int × Int × Int × Int × List (Int × List Int))) (k0 : Int) (w : World) (h : Kc Jm w v xs) (hs : k0 < ((zL Jm xs : Nat) : Int)) (hk : k0 ≤ 1048576) (hp : 0 ≤ k0) (ho : tActiveS.ok xs) :
  Calls Tryz.prog 33 #[v, .int .i64 k0] w fun e w' => e = .returned (.int .i64 (-1)) ∧ Below w w w' := by
 have H := hd h
 have HX := hd ho.2
 have hn := ho.1
 have HS := hd hs
 obtain ⟨a, cap, rfl⟩ := Jo h
 clear h ho hs
 by_cases h1 : k0 < (xs.length : Int)
 ·
  have hneg : k0 - (xs.length : Int) < 0 := by omega
  go_enter Tryz.func33, Tryz.ntmps33
  go_wp2
  go_ret
  exact ⟨rfl, Eh _ _⟩
 ·
  go_enter Tryz.func33, Tryz.ntmps33
  have hneg : ¬ k0 - (xs.length : Int) < 0 := by omega
  go_wp2
  clear hneg
  go_loopw [1, 5] (fun l i wr => ∃ k : Nat, k ≤ xs.length ∧ i = .int .i64 k ∧ l = .int .i64 (k0 - (Vm Jm xs k : Int)) ∧ (Vm Jm xs k : Int) ≤ k0 ∧ Below w w wr) (fun _ i _ => xs.length - (intOf i).toNat)
  case atStart => exact ⟨0, Ef _, rfl, by rw [Ky], by rw [Ky]; omega, Eh _ _⟩
  case round =>
   obtain ⟨k, hk', rfl, rfl, hle, hbel⟩ := hrel
   by_cases hlt : k < xs.length
   ·
    have HST := hd (Ys (T := Jm) hlt)
    have hx := HX.out k hlt
    have i1 : (0 : Int) ≤ (k : Int) := by omega
    have i2 : (k : Int) < (xs.length : Int) := by omega
    obtain ⟨b, off, cap', cs, hv, hbl, hcs, hR⟩ := Km (Jc Ji H.out hbel) hlt
    simp only [Eg] at hv
    obtain ⟨rfl, _, rfl⟩ := hv
    generalize xs.getD k Jm.d = x at *
    obtain ⟨⟨a0, a1, x2, x3⟩, a4, x5, a6, a7, a8, x9⟩ := x
    obtain ⟨v2, v3, v5, v9, hR'⟩ := Uh hR
    obtain ⟨rfl, h2, h3, h5, h9⟩ := hR'
    have p0 : wr.cell? ⟨b, off + k * 10, none⟩ = some (Value.int .i64 a0) := hcs 0 (by decide)
    have p1 : wr.cell? ⟨b, off + k * 10 + 1, none⟩ = some (Value.int .i64 a1) := hcs 1 (by decide)
    have p2 : wr.cell? ⟨b, off + k * 10 + 2, none⟩ = some (v2) := hcs 2 (by decide)
    have p3 : wr.cell? ⟨b, off + k * 10 + 3, none⟩ = some (v3) := hcs 3 (by decide)
    have p4 : wr.cell? ⟨b, off + k * 10 + 4, none⟩ = some (Value.int .i64 a4) := hcs 4 (by decide)
    have p5 : wr.cell? ⟨b, off + k * 10 + 5, none⟩ = some (v5) := hcs 5 (by decide)
    have p6 : wr.cell? ⟨b, off + k * 10 + 6, none⟩ = some (Value.int .i64 a6) := hcs 6 (by decide)
    have p7 : wr.cell? ⟨b, off + k * 10 + 7, none⟩ = some (Value.int .i64 a7) := hcs 7 (by decide)
    have p8 : wr.cell? ⟨b, off + k * 10 + 8, none⟩ = some (Value.int .i64 a8) := hcs 8 (by decide)
    have p9 : wr.cell? ⟨b, off + k * 10 + 9, none⟩ = some (v9) := hcs 9 (by decide)
    clear hcs
    have HQ : Hid (Jm.sz ((a0, a1, x2, x3), a4, x5, a6, a7, a8, x9) = zL Jl x2 + zL Jf x3 + zL Jf x5 + zL Kb x9) := hd Yo
    obtain ⟨⟨_, ⟨_, ⟨o2, o3⟩⟩⟩, ⟨_, ⟨o5, ⟨_, ⟨_, ⟨_, o9⟩⟩⟩⟩⟩⟩ := hx
    have hz0 : (0 : Int) ≤ (Vm Jm xs k : Int) := by omega
    by_cases hg : ((zL Jl x2 + zL Jf x3 + zL Jf x5 + zL Kb x9 : Nat) : Int) ≤ k0 - (Vm Jm xs k : Int)
    ·
     have hx2 : k0 - (Vm Jm xs k : Int) ≤ 1048576 := by omega
     have hneg : ¬ k0 - (Vm Jm xs k : Int) - ((zL Jl x2 + zL Jf x3 + zL Jf x5 + zL Kb x9 : Nat) : Int) < 0 := by omega
     have HC := hd (fun W b => szActive_Y a0 a1 a4 a6 a7 a8 v2 v3 v5 v9 x2 x3 x5 x9 (k0 - (Vm Jm xs k : Int)) W (Jc Jq h2 b) (Jc Jb h3 b) (Jc Jb h5 b) (Jc Jv h9 b) hg hx2)
     go_wp2_with fail
     refine (HC.out _ (Eh _ _)).mono ?_
     rintro e w1 ⟨rfl, b1⟩
     have b2 := hbel.trans (b1.mono hbel.size)
     go_wp2
     go_roundw
     case rel => exact ⟨k + 1, by omega, by go_num, by rw [HST.out, HQ.out]; go_num, by rw [HST.out, HQ.out]; omega, b2⟩
     case measure => simp [intOf]; omega
    ·
     have hx1 : k0 - (Vm Jm xs k : Int) < ((zL Jl x2 + zL Jf x3 + zL Jf x5 + zL Kb x9 : Nat) : Int) := by omega
     have hx0 : 0 ≤ k0 - (Vm Jm xs k : Int) := by omega
     have hx2 : k0 - (Vm Jm xs k : Int) ≤ 1048576 := by omega
     have HC := hd (fun W b => szActive_N a0 a1 a4 a6 a7 a8 v2 v3 v5 v9 x2 x3 x5 x9 (k0 - (Vm Jm xs k : Int)) W (Jc Jq h2 b) (Jc Jb h3 b) (Jc Jb h5 b) (Jc Jv h9 b) hx1 hx2 hx0 o2 o3 o5 o9)
     clear hg
     go_wp2_with fail
     refine (HC.out _ (Eh _ _)).mono ?_
     rintro e w1 ⟨rfl, b1⟩
     have b2 := hbel.trans (b1.mono hbel.size)
     go_wp2
     go_ret
     exact ⟨rfl, b2⟩
   ·
    obtain rfl : k = xs.length := by omega
    exact absurd HS.out (by show ¬ k0 < ((Vm Jm xs xs.length : Nat) : Int); omega)
theorem Tryz.info_Active : (Tryz.prog.info? 88).map (fun i => (i.zero, i.size)) = some (some (.agg #[Ja, Ja, (), (), Ja, (), Ja, Ja, Ja, ()]), 10) := by kernel_rfl
theorem Tryz.bytes_Active : ((Tryz.prog.info? 88).map (fun i => decide (i.bytes ≤ 512))) = some true := by kernel_rfl
theorem tActive_zero (w : World) : Jm.O w (fun _ => False) #[.int .i64 0, .int .i64 0, .slice none 0 0, .slice none 0 0, .int .i64 0, .slice none 0 0, .int .i64 0, .int .i64 0, .int .i64 0, .slice none 0 0].toList Jm.d := tActive_mkO (Vl _ _ _ (fun _ => False)) (Vl _ _ _ (fun _ => False)) (Vl _ _ _ (fun _ => False)) (Vl _ _ _ (fun _ => False)) (fun b h => h) (fun b h => h) (fun b h => h) (fun b h => h) (fun b h _ => h) (fun b h _ => h) (fun b h _ => h) (fun b h _ => h) (fun b h _ => h) (fun b h _ => h)
set_option maxHeartbeats 8000000 in
theorem toActiveS_S (v : Value) (xs : List ((Int × Int × List (Int × Int × Int) × List Int) × Int × List Int × Int × Int × Int × List (Int × List Int))) (w : World) (h : Kc Jm w v xs) (hs : zL Jm xs ≤ 1048576) :
  Calls Tryz.prog 44 #[v] w (Yi 88 Jm w xs) := by
 obtain ⟨i0, hi, hz0, hz1⟩ : ∃ i0, Tryz.prog.info? 88 = some i0 ∧ i0.zero = some (.agg #[Ja, Ja, (), (), Ja, (), Ja, Ja, Ja, ()]) ∧ i0.size = 10 := by
  have h0 := Tryz.info_Active
  cases q : Tryz.prog.info? 88 with
  | none => rw [q] at h0; simp at h0
  | some i => rw [q] at h0; simp only [Option.map_some, Option.some.injEq, Prod.mk.injEq] at h0; exact ⟨i, rfl, h0.1, h0.2⟩
 have hz2 : i0.bytes ≤ 512 := by
  have h0 := Tryz.bytes_Active
  rw [hi] at h0
  simpa using h0
 have HI := hd hi; have HZ0 := hd hz0; have HZ1 := hd hz1; have HZ2 := hd hz2
 clear hi hz0 hz1 hz2
 have H := hd h
 have hlen := Jz hs
 have HS := hd hs
 obtain ⟨a, cap, rfl⟩ := Jo h
 clear h hs
 go_enter Tryz.func44, Tryz.ntmps44
 go_wp2_with (at_make; refine wpList_make_full _ rfl (.tmp 6) (.tmp 6) 39 rfl w.heap.size 88 i0 (.agg #[Ja, Ja, (), (), Ja, (), Ja, Ja, Ja, ()]) 10 Tryz.underlying39 HI.out HZ0.out HZ1.out _ _ _ _ xs.length rfl rfl rfl rfl (by have h9 := Nat.mul_le_mul HZ2.out hlen; have h8 := Nat.mul_le_mul hlen HZ2.out; omega) (by unfold maxLen; omega) (Ed _) ?_)
 intro w1 hown0 hg0
 have hown1 : Kt 88 Jm w1 (Kg w) (.slice (some ⟨w, 0, none⟩) xs.length xs.length) (List.replicate xs.length Jm.d) := Yu (z := #[.int .i64 0, .int .i64 0, .slice none 0 0, .slice none 0 0, .int .i64 0, .slice none 0 0, .int .i64 0, .int .i64 0, .int .i64 0, .slice none 0 0]) Ji rfl (tActive_zero w1) (Ed _) hown0
 have hbel1 := (Eh w.heap.size w).grown hg0 (Ed _) (fun k hk => by cases hk)
 clear hown0 hg0
 go_wp2
 go_loopw [4] (fun i wr => ∃ k : Nat, k ≤ xs.length ∧ i = .int .i64 k ∧ Kt 88 Jm wr (Kg w) (.slice (some ⟨w, 0, none⟩) xs.length xs.length) (xs.take k ++ List.replicate (xs.length - k) Jm.d) ∧ Below w w wr) (fun i _ => xs.length - (intOf i).toNat)
 case atStart => exact ⟨0, Ef _, rfl, by simpa using hown1, hbel1⟩
 case round =>
  obtain ⟨k, hk, rfl, hown, hbel⟩ := hrel
  by_cases hlt : k < xs.length
  ·
   have HSET := hd (Yx (d := Jm.d) hlt)
   have HKL : Hid (k < (xs.take k ++ List.replicate (xs.length - k) Jm.d).length) := hd (by rw [Vc hk]; exact hlt)
   have HLL := hd (Vc (d := Jm.d) hk)
   have i1 : (0 : Int) ≤ (k : Int) := by omega
   have i2 : (k : Int) < (xs.length : Int) := by omega
   have hzx := Kz HS.out hlt
   obtain ⟨b, off, cap', cs, hv, hbl, hcs, hR⟩ := Km (Jc Ji H.out hbel) hlt
   simp only [Eg] at hv
   obtain ⟨rfl, _, rfl⟩ := hv
   obtain ⟨hme, hFg, hgl, cj, Fj, Lc, hrow, hLc, hO, hFj, hput⟩ := Vh Ji hown HKL.out
   clear hme
   clear hown1 hbel1
   generalize xs.getD k Jm.d = x at *
   generalize xs.take k ++ List.replicate (xs.length - k) Jm.d = ys at *
   obtain ⟨⟨a0, a1, x2, x3⟩, a4, x5, a6, a7, a8, x9⟩ := x
   obtain ⟨v2, v3, v5, v9, hR'⟩ := Uh hR
   obtain ⟨rfl, h2, h3, h5, h9⟩ := hR'
   have p0 : wr.cell? ⟨b, off + k * 10, none⟩ = some (Value.int .i64 a0) := hcs 0 (by decide)
   have p1 : wr.cell? ⟨b, off + k * 10 + 1, none⟩ = some (Value.int .i64 a1) := hcs 1 (by decide)
   have p2 : wr.cell? ⟨b, off + k * 10 + 2, none⟩ = some (v2) := hcs 2 (by decide)
   have p3 : wr.cell? ⟨b, off + k * 10 + 3, none⟩ = some (v3) := hcs 3 (by decide)
   have p4 : wr.cell? ⟨b, off + k * 10 + 4, none⟩ = some (Value.int .i64 a4) := hcs 4 (by decide)
   have p5 : wr.cell? ⟨b, off + k * 10 + 5, none⟩ = some (v5) := hcs 5 (by decide)
   have p6 : wr.cell? ⟨b, off + k * 10 + 6, none⟩ = some (Value.int .i64 a6) := hcs 6 (by decide)
   have p7 : wr.cell? ⟨b, off + k * 10 + 7, none⟩ = some (Value.int .i64 a7) := hcs 7 (by decide)
   have p8 : wr.cell? ⟨b, off + k * 10 + 8, none⟩ = some (Value.int .i64 a8) := hcs 8 (by decide)
   have p9 : wr.cell? ⟨b, off + k * 10 + 9, none⟩ = some (v9) := hcs 9 (by decide)
   rw [Yo] at hzx
   have S2 := hd (show zL Jl x2 ≤ 1048576 by omega)
   have S3 := hd (show zL Jf x3 ≤ 1048576 by omega)
   have S5 := hd (show zL Jf x5 ≤ 1048576 by omega)
   have S9 := hd (show zL Kb x9 ≤ 1048576 by omega)
   have HC := hd (fun w g2 g3 g5 g9 => toActive_T a0 a1 a4 a6 a7 a8 v2 v3 v5 v9 x2 x3 x5 x9 w g2 g3 g5 g9 S2.out S3.out S5.out S9.out)
   have G2 := hd h2
   have G3 := hd h3
   have G5 := hd h5
   have G9 := hd h9
   clear hcs hzx h2 h3 h5 h9
   go_wp2_with fail
   refine (HC.out _ G2.out G3.out G5.out G9.out).mono ?_
   rintro e w2 ⟨cv, rfl, ow, b2⟩
   replace ow := Ji.lt ow
   have ow2 := ow
   obtain ⟨u2, u3, u5, u9, K2, K3, K5, K9, rfl, o2, o3, o5, o9, _, _, _, _, _, _, _, _, _, _⟩ := tActive_O ow2
   obtain ⟨ua2, uc2, rfl⟩ := Js o2
   obtain ⟨ua3, uc3, rfl⟩ := Js o3
   obtain ⟨ua5, uc5, rfl⟩ := Js o5
   obtain ⟨ua9, uc9, rfl⟩ := Js o9
   clear o2 o3 o5 o9
   have r0 := Kv (G := fun _ => False) hrow (Kj b2) (fun _ _ => not_false)
   rw [HLL.out] at r0
   have q0 : ∃ x, w2.cell? ⟨w, k * 10, none⟩ = some x := zq r0 (k * 10) (by have := HKL.out; rw [HLL.out] at this; show _ < xs.length * 10; omega)
   obtain ⟨y0, q0⟩ := q0
   have f0 := Uy r0 (k * 10)
   have q1 : ∃ x, w2.cell? ⟨w, k * 10 + 1, none⟩ = some x := zq r0 (k * 10 + 1) (by have := HKL.out; rw [HLL.out] at this; show _ < xs.length * 10; omega)
   obtain ⟨y1, q1⟩ := q1
   have f1 := Uy r0 (k * 10 + 1)
   have q2 : ∃ x, w2.cell? ⟨w, k * 10 + 2, none⟩ = some x := zq r0 (k * 10 + 2) (by have := HKL.out; rw [HLL.out] at this; show _ < xs.length * 10; omega)
   obtain ⟨y2, q2⟩ := q2
   have f2 := Uy r0 (k * 10 + 2)
   have q3 : ∃ x, w2.cell? ⟨w, k * 10 + 3, none⟩ = some x := zq r0 (k * 10 + 3) (by have := HKL.out; rw [HLL.out] at this; show _ < xs.length * 10; omega)
   obtain ⟨y3, q3⟩ := q3
   have f3 := Uy r0 (k * 10 + 3)
   have q4 : ∃ x, w2.cell? ⟨w, k * 10 + 4, none⟩ = some x := zq r0 (k * 10 + 4) (by have := HKL.out; rw [HLL.out] at this; show _ < xs.length * 10; omega)
   obtain ⟨y4, q4⟩ := q4
   have f4 := Uy r0 (k * 10 + 4)
   have q5 : ∃ x, w2.cell? ⟨w, k * 10 + 5, none⟩ = some x := zq r0 (k * 10 + 5) (by have := HKL.out; rw [HLL.out] at this; show _ < xs.length * 10; omega)
   obtain ⟨y5, q5⟩ := q5
   have f5 := Uy r0 (k * 10 + 5)
   have q6 : ∃ x, w2.cell? ⟨w, k * 10 + 6, none⟩ = some x := zq r0 (k * 10 + 6) (by have := HKL.out; rw [HLL.out] at this; show _ < xs.length * 10; omega)
   obtain ⟨y6, q6⟩ := q6
   have f6 := Uy r0 (k * 10 + 6)
   have q7 : ∃ x, w2.cell? ⟨w, k * 10 + 7, none⟩ = some x := zq r0 (k * 10 + 7) (by have := HKL.out; rw [HLL.out] at this; show _ < xs.length * 10; omega)
   obtain ⟨y7, q7⟩ := q7
   have f7 := Uy r0 (k * 10 + 7)
   have q8 : ∃ x, w2.cell? ⟨w, k * 10 + 8, none⟩ = some x := zq r0 (k * 10 + 8) (by have := HKL.out; rw [HLL.out] at this; show _ < xs.length * 10; omega)
   obtain ⟨y8, q8⟩ := q8
   have f8 := Uy r0 (k * 10 + 8)
   have q9 : ∃ x, w2.cell? ⟨w, k * 10 + 9, none⟩ = some x := zq r0 (k * 10 + 9) (by have := HKL.out; rw [HLL.out] at this; show _ < xs.length * 10; omega)
   obtain ⟨y9, q9⟩ := q9
   have f9 := Uy r0 (k * 10 + 9)
   have b3 := hbel.trans (b2.mono hbel.size)
   have B3 := hd ((((((((((b3.setCell (p := ⟨w, k * 10, none⟩) (Ed _) a0).setCell (p := ⟨w, k * 10 + 1, none⟩) (Ed _) a1).setCell (p := ⟨w, k * 10 + 2, none⟩) (Ed _) (.slice ua2 x2.length uc2)).setCell (p := ⟨w, k * 10 + 3, none⟩) (Ed _) (.slice ua3 x3.length uc3)).setCell (p := ⟨w, k * 10 + 4, none⟩) (Ed _) a4).setCell (p := ⟨w, k * 10 + 5, none⟩) (Ed _) (.slice ua5 x5.length uc5)).setCell (p := ⟨w, k * 10 + 6, none⟩) (Ed _) a6).setCell (p := ⟨w, k * 10 + 7, none⟩) (Ed _) a7).setCell (p := ⟨w, k * 10 + 8, none⟩) (Ed _) a8).setCell (p := ⟨w, k * 10 + 9, none⟩) (Ed _) (.slice ua9 x9.length uc9))
   have hT : Jy (fun b => b = w.heap.size ∨ Fj b ∨ wr.heap.size ≤ b) wr ((((((((((w2.setCell ⟨w, k * 10, none⟩ a0).setCell ⟨w, k * 10 + 1, none⟩ a1).setCell ⟨w, k * 10 + 2, none⟩ (.slice ua2 x2.length uc2)).setCell ⟨w, k * 10 + 3, none⟩ (.slice ua3 x3.length uc3)).setCell ⟨w, k * 10 + 4, none⟩ a4).setCell ⟨w, k * 10 + 5, none⟩ (.slice ua5 x5.length uc5)).setCell ⟨w, k * 10 + 6, none⟩ a6).setCell ⟨w, k * 10 + 7, none⟩ a7).setCell ⟨w, k * 10 + 8, none⟩ a8).setCell ⟨w, k * 10 + 9, none⟩ (.slice ua9 x9.length uc9)) := (((((((((((Kj b2).trans (Jh (j := k * 10) (u := .int .i64 a0) (Or.inl rfl))).trans (Jh (j := k * 10 + 1) (u := .int .i64 a1) (Or.inl rfl))).trans (Jh (j := k * 10 + 2) (u := .slice ua2 x2.length uc2) (Or.inl rfl))).trans (Jh (j := k * 10 + 3) (u := .slice ua3 x3.length uc3) (Or.inl rfl))).trans (Jh (j := k * 10 + 4) (u := .int .i64 a4) (Or.inl rfl))).trans (Jh (j := k * 10 + 5) (u := .slice ua5 x5.length uc5) (Or.inl rfl))).trans (Jh (j := k * 10 + 6) (u := .int .i64 a6) (Or.inl rfl))).trans (Jh (j := k * 10 + 7) (u := .int .i64 a7) (Or.inl rfl))).trans (Jh (j := k * 10 + 8) (u := .int .i64 a8) (Or.inl rfl))).trans (Jh (j := k * 10 + 9) (u := .slice ua9 x9.length uc9) (Or.inl rfl)))
   have hT2 : Jy (fun b => b = w.heap.size) w2 ((((((((((w2.setCell ⟨w, k * 10, none⟩ a0).setCell ⟨w, k * 10 + 1, none⟩ a1).setCell ⟨w, k * 10 + 2, none⟩ (.slice ua2 x2.length uc2)).setCell ⟨w, k * 10 + 3, none⟩ (.slice ua3 x3.length uc3)).setCell ⟨w, k * 10 + 4, none⟩ a4).setCell ⟨w, k * 10 + 5, none⟩ (.slice ua5 x5.length uc5)).setCell ⟨w, k * 10 + 6, none⟩ a6).setCell ⟨w, k * 10 + 7, none⟩ a7).setCell ⟨w, k * 10 + 8, none⟩ a8).setCell ⟨w, k * 10 + 9, none⟩ (.slice ua9 x9.length uc9)) := (((((((((((Jy.refl (fun b => b = w.heap.size) _).trans (Jh (G := fun b => b = w.heap.size) (j := k * 10) (u := .int .i64 a0) rfl)).trans (Jh (G := fun b => b = w.heap.size) (j := k * 10 + 1) (u := .int .i64 a1) rfl)).trans (Jh (G := fun b => b = w.heap.size) (j := k * 10 + 2) (u := .slice ua2 x2.length uc2) rfl)).trans (Jh (G := fun b => b = w.heap.size) (j := k * 10 + 3) (u := .slice ua3 x3.length uc3) rfl)).trans (Jh (G := fun b => b = w.heap.size) (j := k * 10 + 4) (u := .int .i64 a4) rfl)).trans (Jh (G := fun b => b = w.heap.size) (j := k * 10 + 5) (u := .slice ua5 x5.length uc5) rfl)).trans (Jh (G := fun b => b = w.heap.size) (j := k * 10 + 6) (u := .int .i64 a6) rfl)).trans (Jh (G := fun b => b = w.heap.size) (j := k * 10 + 7) (u := .int .i64 a7) rfl)).trans (Jh (G := fun b => b = w.heap.size) (j := k * 10 + 8) (u := .int .i64 a8) rfl)).trans (Jh (G := fun b => b = w.heap.size) (j := k * 10 + 9) (u := .slice ua9 x9.length uc9) rfl))
   have hO2 := Ji.turn ow hT2 (fun b h1 h2 => by have := h1.1; simp only [Kg] at this; omega)
   have r9 := (Uz (Uz (Uz (Uz (Uz (Uz (Uz (Uz (Uz (Uz r0 (k * 10) a0).1 (k * 10 + 1) a1).1 (k * 10 + 2) (.slice ua2 x2.length uc2)).1 (k * 10 + 3) (.slice ua3 x3.length uc3)).1 (k * 10 + 4) a4).1 (k * 10 + 5) (.slice ua5 x5.length uc5)).1 (k * 10 + 6) a6).1 (k * 10 + 7) a7).1 (k * 10 + 8) a8).1 (k * 10 + 9) (.slice ua9 x9.length uc9)).1
   have hLl : Lc.length = xs.length * 10 := r0.1
   have hst := hd (hput ((((((((((w2.setCell ⟨w, k * 10, none⟩ a0).setCell ⟨w, k * 10 + 1, none⟩ a1).setCell ⟨w, k * 10 + 2, none⟩ (.slice ua2 x2.length uc2)).setCell ⟨w, k * 10 + 3, none⟩ (.slice ua3 x3.length uc3)).setCell ⟨w, k * 10 + 4, none⟩ a4).setCell ⟨w, k * 10 + 5, none⟩ (.slice ua5 x5.length uc5)).setCell ⟨w, k * 10 + 6, none⟩ a6).setCell ⟨w, k * 10 + 7, none⟩ a7).setCell ⟨w, k * 10 + 8, none⟩ a8).setCell ⟨w, k * 10 + 9, none⟩ (.slice ua9 x9.length uc9)) ((((((((((Lc.set (k * 10) a0).set (k * 10 + 1) a1).set (k * 10 + 2) (.slice ua2 x2.length uc2)).set (k * 10 + 3) (.slice ua3 x3.length uc3)).set (k * 10 + 4) a4).set (k * 10 + 5) (.slice ua5 x5.length uc5)).set (k * 10 + 6) a6).set (k * 10 + 7) a7).set (k * 10 + 8) a8).set (k * 10 + 9) (.slice ua9 x9.length uc9)) [a0, a1, .slice ua2 x2.length uc2, .slice ua3 x3.length uc3, a4, .slice ua5 x5.length uc5, a6, a7, a8, .slice ua9 x9.length uc9] _ ((a0, a1, x2, x3), a4, x5, a6, a7, a8, x9) (by rw [HLL.out]; exact r9) (fun p hp => by have hp2 : p < k * 10 ∨ k * 10 + 10 ≤ p := hp; rw [Ea (by omega)]; rw [Ea (by omega)]; rw [Ea (by omega)]; rw [Ea (by omega)]; rw [Ea (by omega)]; rw [Ea (by omega)]; rw [Ea (by omega)]; rw [Ea (by omega)]; rw [Ea (by omega)]; rw [Ea (by omega)]) (fun i hi => by have hi' : i < 10 := hi; match i, hi' with | 0, _ => (show (((((((((((Lc.set (k * 10) a0).set (k * 10 + 1) a1).set (k * 10 + 2) (.slice ua2 x2.length uc2)).set (k * 10 + 3) (.slice ua3 x3.length uc3)).set (k * 10 + 4) a4).set (k * 10 + 5) (.slice ua5 x5.length uc5)).set (k * 10 + 6) a6).set (k * 10 + 7) a7).set (k * 10 + 8) a8).set (k * 10 + 9) (.slice ua9 x9.length uc9)))[k * 10]? = _; rw [Ea (by omega)]; rw [Ea (by omega)]; rw [Ea (by omega)]; rw [Ea (by omega)]; rw [Ea (by omega)]; rw [Ea (by omega)]; rw [Ea (by omega)]; rw [Ea (by omega)]; rw [Ea (by omega)]; rw [Eb (by first | omega | (simp only [List.length_set]; omega))]; rfl) | 1, _ => (show (((((((((((Lc.set (k * 10) a0).set (k * 10 + 1) a1).set (k * 10 + 2) (.slice ua2 x2.length uc2)).set (k * 10 + 3) (.slice ua3 x3.length uc3)).set (k * 10 + 4) a4).set (k * 10 + 5) (.slice ua5 x5.length uc5)).set (k * 10 + 6) a6).set (k * 10 + 7) a7).set (k * 10 + 8) a8).set (k * 10 + 9) (.slice ua9 x9.length uc9)))[k * 10 + 1]? = _; rw [Ea (by omega)]; rw [Ea (by omega)]; rw [Ea (by omega)]; rw [Ea (by omega)]; rw [Ea (by omega)]; rw [Ea (by omega)]; rw [Ea (by omega)]; rw [Ea (by omega)]; rw [Eb (by first | omega | (simp only [List.length_set]; omega))]; rfl) | 2, _ => (show (((((((((((Lc.set (k * 10) a0).set (k * 10 + 1) a1).set (k * 10 + 2) (.slice ua2 x2.length uc2)).set (k * 10 + 3) (.slice ua3 x3.length uc3)).set (k * 10 + 4) a4).set (k * 10 + 5) (.slice ua5 x5.length uc5)).set (k * 10 + 6) a6).set (k * 10 + 7) a7).set (k * 10 + 8) a8).set (k * 10 + 9) (.slice ua9 x9.length uc9)))[k * 10 + 2]? = _; rw [Ea (by omega)]; rw [Ea (by omega)]; rw [Ea (by omega)]; rw [Ea (by omega)]; rw [Ea (by omega)]; rw [Ea (by omega)]; rw [Ea (by omega)]; rw [Eb (by first | omega | (simp only [List.length_set]; omega))]; rfl) | 3, _ => (show (((((((((((Lc.set (k * 10) a0).set (k * 10 + 1) a1).set (k * 10 + 2) (.slice ua2 x2.length uc2)).set (k * 10 + 3) (.slice ua3 x3.length uc3)).set (k * 10 + 4) a4).set (k * 10 + 5) (.slice ua5 x5.length uc5)).set (k * 10 + 6) a6).set (k * 10 + 7) a7).set (k * 10 + 8) a8).set (k * 10 + 9) (.slice ua9 x9.length uc9)))[k * 10 + 3]? = _; rw [Ea (by omega)]; rw [Ea (by omega)]; rw [Ea (by omega)]; rw [Ea (by omega)]; rw [Ea (by omega)]; rw [Ea (by omega)]; rw [Eb (by first | omega | (simp only [List.length_set]; omega))]; rfl) | 4, _ => (show (((((((((((Lc.set (k * 10) a0).set (k * 10 + 1) a1).set (k * 10 + 2) (.slice ua2 x2.length uc2)).set (k * 10 + 3) (.slice ua3 x3.length uc3)).set (k * 10 + 4) a4).set (k * 10 + 5) (.slice ua5 x5.length uc5)).set (k * 10 + 6) a6).set (k * 10 + 7) a7).set (k * 10 + 8) a8).set (k * 10 + 9) (.slice ua9 x9.length uc9)))[k * 10 + 4]? = _; rw [Ea (by omega)]; rw [Ea (by omega)]; rw [Ea (by omega)]; rw [Ea (by omega)]; rw [Ea (by omega)]; rw [Eb (by first | omega | (simp only [List.length_set]; omega))]; rfl) | 5, _ => (show (((((((((((Lc.set (k * 10) a0).set (k * 10 + 1) a1).set (k * 10 + 2) (.slice ua2 x2.length uc2)).set (k * 10 + 3) (.slice ua3 x3.length uc3)).set (k * 10 + 4) a4).set (k * 10 + 5) (.slice ua5 x5.length uc5)).set (k * 10 + 6) a6).set (k * 10 + 7) a7).set (k * 10 + 8) a8).set (k * 10 + 9) (.slice ua9 x9.length uc9)))[k * 10 + 5]? = _; rw [Ea (by omega)]; rw [Ea (by omega)]; rw [Ea (by omega)]; rw [Ea (by omega)]; rw [Eb (by first | omega | (simp only [List.length_set]; omega))]; rfl) | 6, _ => (show (((((((((((Lc.set (k * 10) a0).set (k * 10 + 1) a1).set (k * 10 + 2) (.slice ua2 x2.length uc2)).set (k * 10 + 3) (.slice ua3 x3.length uc3)).set (k * 10 + 4) a4).set (k * 10 + 5) (.slice ua5 x5.length uc5)).set (k * 10 + 6) a6).set (k * 10 + 7) a7).set (k * 10 + 8) a8).set (k * 10 + 9) (.slice ua9 x9.length uc9)))[k * 10 + 6]? = _; rw [Ea (by omega)]; rw [Ea (by omega)]; rw [Ea (by omega)]; rw [Eb (by first | omega | (simp only [List.length_set]; omega))]; rfl) | 7, _ => (show (((((((((((Lc.set (k * 10) a0).set (k * 10 + 1) a1).set (k * 10 + 2) (.slice ua2 x2.length uc2)).set (k * 10 + 3) (.slice ua3 x3.length uc3)).set (k * 10 + 4) a4).set (k * 10 + 5) (.slice ua5 x5.length uc5)).set (k * 10 + 6) a6).set (k * 10 + 7) a7).set (k * 10 + 8) a8).set (k * 10 + 9) (.slice ua9 x9.length uc9)))[k * 10 + 7]? = _; rw [Ea (by omega)]; rw [Ea (by omega)]; rw [Eb (by first | omega | (simp only [List.length_set]; omega))]; rfl) | 8, _ => (show (((((((((((Lc.set (k * 10) a0).set (k * 10 + 1) a1).set (k * 10 + 2) (.slice ua2 x2.length uc2)).set (k * 10 + 3) (.slice ua3 x3.length uc3)).set (k * 10 + 4) a4).set (k * 10 + 5) (.slice ua5 x5.length uc5)).set (k * 10 + 6) a6).set (k * 10 + 7) a7).set (k * 10 + 8) a8).set (k * 10 + 9) (.slice ua9 x9.length uc9)))[k * 10 + 8]? = _; rw [Ea (by omega)]; rw [Eb (by first | omega | (simp only [List.length_set]; omega))]; rfl) | 9, _ => (show (((((((((((Lc.set (k * 10) a0).set (k * 10 + 1) a1).set (k * 10 + 2) (.slice ua2 x2.length uc2)).set (k * 10 + 3) (.slice ua3 x3.length uc3)).set (k * 10 + 4) a4).set (k * 10 + 5) (.slice ua5 x5.length uc5)).set (k * 10 + 6) a6).set (k * 10 + 7) a7).set (k * 10 + 8) a8).set (k * 10 + 9) (.slice ua9 x9.length uc9)))[k * 10 + 9]? = _; rw [Eb (by first | omega | (simp only [List.length_set]; omega))]; rfl)) hO2 (fun b hb => ⟨Nat.le_trans hbel.size hb.1, Or.inr hb.1⟩) hT)
   have hst2 : Kt 88 Jm ((((((((((w2.setCell ⟨w, k * 10, none⟩ a0).setCell ⟨w, k * 10 + 1, none⟩ a1).setCell ⟨w, k * 10 + 2, none⟩ (.slice ua2 x2.length uc2)).setCell ⟨w, k * 10 + 3, none⟩ (.slice ua3 x3.length uc3)).setCell ⟨w, k * 10 + 4, none⟩ a4).setCell ⟨w, k * 10 + 5, none⟩ (.slice ua5 x5.length uc5)).setCell ⟨w, k * 10 + 6, none⟩ a6).setCell ⟨w, k * 10 + 7, none⟩ a7).setCell ⟨w, k * 10 + 8, none⟩ a8).setCell ⟨w, k * 10 + 9, none⟩ (.slice ua9 x9.length uc9)) (Kg w) (.slice (some ⟨w, 0, none⟩) xs.length xs.length) (xs.take (k + 1) ++ List.replicate (xs.length - (k + 1)) Jm.d) := by have := hst.out; rw [HSET.out] at this; exact this
   have HST := hd hst2
   clear hst hst2 hT hT2 hO2 r9 r0 hrow hO hput hown hbel b2 ow b3 hLl hLc hFj
   go_wp2
   go_roundw
   case rel => exact ⟨k + 1, by omega, by go_num, HST.out, B3.out⟩
   case measure => simp [intOf]; omega
  ·
   obtain rfl : k = xs.length := by omega
   have HE : Hid (xs.take xs.length ++ List.replicate (xs.length - xs.length) Jm.d = xs) := hd (by simp)
   rw [HE.out] at hown
   go_wp2
   go_ret
   exact ⟨_, rfl, hown, hbel⟩
set_option maxHeartbeats 8000000 in
theorem eqActiveS_S (v u : Value) (xs : List ((Int × Int × List (Int × Int × Int) × List Int) × Int × List Int × Int × Int × Int × List (Int × List Int))) (w : World) (h : Kc Jm w v xs) (g : Kc Jm w u xs) (hs : zL Jm xs ≤ 1048576) :
  Calls Tryz.prog 57 #[v, u] w fun e w' => e = .returned (.bool true) ∧ Below w w w' := by
 have H := hd h
 have G := hd g
 have HS := hd hs
 have hlen := Jz hs
 obtain ⟨a, cap, rfl⟩ := Jo h
 obtain ⟨a2, cap2, rfl⟩ := Jo g
 clear h g hs
 go_enter Tryz.func57, Tryz.ntmps57
 go_wp2
 go_loopw [5] (fun i wr => ∃ k : Nat, k ≤ xs.length ∧ i = .int .i64 k ∧ Below w w wr) (fun i _ => xs.length - (intOf i).toNat)
 case atStart => exact ⟨0, Ef _, rfl, Eh _ _⟩
 case round =>
  obtain ⟨k, hk, rfl, hbel⟩ := hrel
  by_cases hlt : k < xs.length
  ·
   obtain ⟨b, off, cap', cs, hv, hbl, hcs, hR⟩ := Km (Jc Ji H.out hbel) hlt
   simp only [Eg] at hv
   obtain ⟨rfl, _, rfl⟩ := hv
   obtain ⟨b2, off2, cap2', ds, hv2, hbl2, hds, hQ⟩ := Km (Jc Ji G.out hbel) hlt
   simp only [Eg] at hv2
   obtain ⟨rfl, _, rfl⟩ := hv2
   have hzx := Kz HS.out hlt
   have i1 : (0 : Int) ≤ (k : Int) := by omega
   have i2 : (k : Int) < (xs.length : Int) := by omega
   generalize xs.getD k Jm.d = x at *
   obtain ⟨⟨a0, a1, x2, x3⟩, a4, x5, a6, a7, a8, x9⟩ := x
   obtain ⟨v2, v3, v5, v9, hR'⟩ := Uh hR
   obtain ⟨rfl, h2, h3, h5, h9⟩ := hR'
   obtain ⟨u2, u3, u5, u9, hQ'⟩ := Uh hQ
   obtain ⟨rfl, g2, g3, g5, g9⟩ := hQ'
   rw [Yo] at hzx
   have S2 := hd (show zL Jl x2 ≤ 1048576 by omega)
   have S3 := hd (show zL Jf x3 ≤ 1048576 by omega)
   have S5 := hd (show zL Jf x5 ≤ 1048576 by omega)
   have S9 := hd (show zL Kb x9 ≤ 1048576 by omega)
   have p0 : wr.cell? ⟨b, off + k * 10, none⟩ = some (Value.int .i64 a0) := hcs 0 (by decide)
   have q0 : wr.cell? ⟨b2, off2 + k * 10, none⟩ = some (Value.int .i64 a0) := hds 0 (by decide)
   have p1 : wr.cell? ⟨b, off + k * 10 + 1, none⟩ = some (Value.int .i64 a1) := hcs 1 (by decide)
   have q1 : wr.cell? ⟨b2, off2 + k * 10 + 1, none⟩ = some (Value.int .i64 a1) := hds 1 (by decide)
   have p2 : wr.cell? ⟨b, off + k * 10 + 2, none⟩ = some (v2) := hcs 2 (by decide)
   have q2 : wr.cell? ⟨b2, off2 + k * 10 + 2, none⟩ = some (u2) := hds 2 (by decide)
   have p3 : wr.cell? ⟨b, off + k * 10 + 3, none⟩ = some (v3) := hcs 3 (by decide)
   have q3 : wr.cell? ⟨b2, off2 + k * 10 + 3, none⟩ = some (u3) := hds 3 (by decide)
   have p4 : wr.cell? ⟨b, off + k * 10 + 4, none⟩ = some (Value.int .i64 a4) := hcs 4 (by decide)
   have q4 : wr.cell? ⟨b2, off2 + k * 10 + 4, none⟩ = some (Value.int .i64 a4) := hds 4 (by decide)
   have p5 : wr.cell? ⟨b, off + k * 10 + 5, none⟩ = some (v5) := hcs 5 (by decide)
   have q5 : wr.cell? ⟨b2, off2 + k * 10 + 5, none⟩ = some (u5) := hds 5 (by decide)
   have p6 : wr.cell? ⟨b, off + k * 10 + 6, none⟩ = some (Value.int .i64 a6) := hcs 6 (by decide)
   have q6 : wr.cell? ⟨b2, off2 + k * 10 + 6, none⟩ = some (Value.int .i64 a6) := hds 6 (by decide)
   have p7 : wr.cell? ⟨b, off + k * 10 + 7, none⟩ = some (Value.int .i64 a7) := hcs 7 (by decide)
   have q7 : wr.cell? ⟨b2, off2 + k * 10 + 7, none⟩ = some (Value.int .i64 a7) := hds 7 (by decide)
   have p8 : wr.cell? ⟨b, off + k * 10 + 8, none⟩ = some (Value.int .i64 a8) := hcs 8 (by decide)
   have q8 : wr.cell? ⟨b2, off2 + k * 10 + 8, none⟩ = some (Value.int .i64 a8) := hds 8 (by decide)
   have p9 : wr.cell? ⟨b, off + k * 10 + 9, none⟩ = some (v9) := hcs 9 (by decide)
   have q9 : wr.cell? ⟨b2, off2 + k * 10 + 9, none⟩ = some (u9) := hds 9 (by decide)
   clear hcs hds hzx
   go_wp2
   go_region_with (first | (go_at_call 122; refine (eqActive_T a0 a1 a4 a6 a7 a8 v2 v3 v5 v9 x2 x3 x5 x9 u2 u3 u5 u9 _ (by exact Kx Jq h2 rfl rfl rfl rfl) (by exact Kx Jb h3 rfl rfl rfl rfl) (by exact Kx Jb h5 rfl rfl rfl rfl) (by exact Kx Jv h9 rfl rfl rfl rfl) (by exact Kx Jq g2 rfl rfl rfl rfl) (by exact Kx Jb g3 rfl rfl rfl rfl) (by exact Kx Jb g5 rfl rfl rfl rfl) (by exact Kx Jv g9 rfl rfl rfl rfl) S2.out S3.out S5.out S9.out).mono ?_; rintro e w8 ⟨rfl, b9⟩; have b10 : Below wr wr w8 := ⟨b9.os, b9.tape, b9.output, b9.size, b9.block⟩))
   all_goals
    have b11 := hbel.trans (b10.mono hbel.size)
    go_wp2
    go_roundw
    case rel => exact ⟨k + 1, by omega, by go_num, b11⟩
    case measure => simp [intOf]; omega
  ·
   go_wp2
   go_ret
   exact ⟨rfl, hbel⟩
set_option maxHeartbeats 8000000 in
theorem markActiveS_S (v : Value) (xs : List ((Int × Int × List (Int × Int × Int) × List Int) × Int × List Int × Int × Int × Int × List (Int × List Int))) (F : Nat → Prop) (k : Int) (w : World) (h : Kt 88 Jm w F v xs) (hs : zL Jm xs ≤ 1048576) (k0 : 0 ≤ k) (k1 : k ≤ 939524096) :
  Calls Tryz.prog 62 #[v, .int .i64 k] w fun e w' => e = .returned (.int .i64 (k + (Jt Jm xs : Int))) ∧ Kt 88 Jm w' F v (Vf Jm xs k) ∧ Jy F w w' := by
 rw [← Xp]
 have HS := hd hs
 have hlen := Jz hs
 rcases slO_form h with ⟨rfl, rfl⟩ | ⟨g, cap, rfl, hFg, hgw⟩
 ·
  have H := hd h
  clear h hs
  go_enter Tryz.func62, Tryz.ntmps62
  go_wp2
  go_loop [1, 5] (fun m i => i = .int .i64 0 ∧ m = .int .i64 k) (fun _ _ => 0)
  case atStart => exact ⟨rfl, rfl⟩
  case round =>
   obtain ⟨rfl, rfl⟩ := hrel
   go_wp2
   go_ret
   exact ⟨by simp [Uf, sumN], by rw [show Vf Jm [] k = [] from rfl]; exact H.out, Jy.refl _ _⟩
 ·
  have H := hd h
  clear h hs
  go_enter Tryz.func62, Tryz.ntmps62
  go_wp2
  go_loopw [1, 5] (fun m i wr => ∃ j : Nat, j ≤ xs.length ∧ i = .int .i64 j ∧ m = .int .i64 (Uf Jm xs k j) ∧ Kt 88 Jm wr (fun b => F b ∧ b < w.heap.size) (.slice (some ⟨g, 0, none⟩) xs.length cap) (mTo Jm xs k j) ∧ Jy F w wr) (fun _ i _ => xs.length - (intOf i).toNat)
  case atStart => exact ⟨0, Ef _, rfl, by rw [Yk], by rw [mTo_zero]; exact Ki Ji H.out, Jy.refl _ _⟩
  case round =>
   obtain ⟨j, hj, rfl, rfl, hown, hon⟩ := hrel
   by_cases hlt : j < xs.length
   ·
    have i1 : (0 : Int) ≤ (j : Int) := by omega
    have i2 : (j : Int) < (xs.length : Int) := by omega
    have hjl : j < (mTo Jm xs k j).length := by rw [Xo hj]; exact hlt
    have HLL := hd (Xo (T := Jm) (k := k) hj)
    obtain ⟨r1, r2⟩ := Kr Ji (by decide) (k := k) HS.out hj
    obtain ⟨r3, r4⟩ := Kr Ji (by decide) (k := k) (j := j + 1) HS.out (by omega)
    have hzx := Kz HS.out hlt
    have hstep := Yl (T := Jm) (k := k) hlt
    have hset := mTo_step (T := Jm) (k := k) hlt
    have hsz := hon.size
    obtain ⟨hme, hFg2, hgl, cj, Fj, Lc, hrow, hLc, hO, hFj, hput⟩ := Vh Ji hown hjl
    clear hme hFg2
    rw [mTo_at hlt] at hO
    have HM : Hid (∃ m', Uf Jm xs k (j + 1) = m') := hd ⟨_, rfl⟩
    obtain ⟨m', hm'⟩ := HM.out
    rw [hm'] at hstep r3 r4
    have HM' := hd hm'
    clear hm' HM H hown hjl
    generalize Uf Jm xs k j = m at *
    generalize xs.getD j Jm.d = x at *
    rw [HLL.out] at hrow hput
    obtain ⟨⟨a0, a1, x2, x3⟩, a4, x5, a6, a7, a8, x9⟩ := x
    rw [tActive_md] at hset
    rw [tActive_nd] at hstep
    rw [Yo] at hzx
    obtain ⟨v2, v3, v5, v9, K2, K3, K5, K9, rfl, o2, o3, o5, o9, q2, q3, q5, q9, d2_3, d2_5, d2_9, d3_5, d3_9, d5_9⟩ := tActive_O hO
    have S2 := hd (show zL Jl x2 ≤ 1048576 by omega)
    have N2 := Ko Jq (by decide) x2
    have S3 := hd (show zL Jf x3 ≤ 1048576 by omega)
    have N3 := Ko Jb (by decide) x3
    have S5 := hd (show zL Jf x5 ≤ 1048576 by omega)
    have N5 := Ko Jb (by decide) x5
    have S9 := hd (show zL Kb x9 ≤ 1048576 by omega)
    have N9 := Ko Jv (by decide) x9
    have R2 : Hid (0 ≤ m + 1 + 1 ∧ m + 1 + 1 ≤ 1006632960) := hd (by omega)
    have R3 : Hid (0 ≤ m + 1 + 1 + (Jt Jl x2 : Int) ∧ m + 1 + 1 + (Jt Jl x2 : Int) ≤ 1073741824) := hd (by omega)
    have R5 : Hid (0 ≤ m + 1 + 1 + (Jt Jl x2 : Int) + (Jt Jf x3 : Int) + 1 ∧ m + 1 + 1 + (Jt Jl x2 : Int) + (Jt Jf x3 : Int) + 1 ≤ 1073741824) := hd (by omega)
    have R9 : Hid (0 ≤ m + 1 + 1 + (Jt Jl x2 : Int) + (Jt Jf x3 : Int) + 1 + (Jt Jf x5 : Int) + 1 + 1 + 1 ∧ m + 1 + 1 + (Jt Jl x2 : Int) + (Jt Jf x3 : Int) + 1 + (Jt Jf x5 : Int) + 1 + 1 + 1 ≤ 1006632960) := hd (by omega)
    have hmx5 : m + 1 + 1 + (Jt Jl x2 : Int) + (Jt Jf x3 : Int) + 1 ≤ 1073741824 := by omega
    have hmx9 : m + 1 + 1 + (Jt Jl x2 : Int) + (Jt Jf x3 : Int) + 1 + (Jt Jf x5 : Int) + 1 + 1 + 1 ≤ 1073741824 := by omega
    have hmm : m + 1 + 1 + (Jt Jl x2 : Int) + (Jt Jf x3 : Int) + 1 + (Jt Jf x5 : Int) + 1 + 1 + 1 + (Jt Kb x9 : Int) = m' := by omega
    have HMM := hd hmm
    have hm0 : 0 ≤ m := by omega
    have hm1 : m ≤ 1073741824 := by omega
    clear hmm hstep hzx N2 N3 N5 N9
    have hLl : Lc.length = xs.length * 10 := hrow.1
    have HSET := hd hset
    clear hset
    have tt : Jy (fun b => b = g ∨ Fj b ∨ wr.heap.size ≤ b) wr wr := Jy.refl _ _
    have rr := hrow
    have c0 : ∃ x, wr.cell? ⟨g, j * 10, none⟩ = some x := ⟨_, (World.ownsRow.cellAt rr (j * 10) (by show j * 10 < xs.length * 10; omega)).trans (Ec (by have h9 := rr.1; have h8 : xs.length * Jm.n = xs.length * 10 := rfl; omega))⟩
    obtain ⟨y0, c0⟩ := c0
    have f0 := Uy rr (j * 10)
    have c1 : ∃ x, wr.cell? ⟨g, j * 10 + 1, none⟩ = some x := ⟨_, (World.ownsRow.cellAt rr (j * 10 + 1) (by show j * 10 + 1 < xs.length * 10; omega)).trans (Ec (by have h9 := rr.1; have h8 : xs.length * Jm.n = xs.length * 10 := rfl; omega))⟩
    obtain ⟨y1, c1⟩ := c1
    have f1 := Uy rr (j * 10 + 1)
    have cv2 : wr.cell? ⟨g, j * 10 + 2, none⟩ = some v2 := (World.ownsRow.cellAt rr (j * 10 + 2) (by show j * 10 + 2 < xs.length * 10; omega)).trans (by exact hLc 2 (by decide))
    go_wp2_with fail
    clear c0 f0 c1 f1 cv2
    have ts : Jy (fun b => b = g) wr ((wr.setCell ⟨g, j * 10, none⟩ (.int .i64 (m))).setCell ⟨g, j * 10 + 1, none⟩ (.int .i64 (m + 1))) := (((Jy.refl (fun b => b = g) _).trans (Jh (G := fun b => b = g) (g := g) (j := j * 10) (u := .int .i64 (m)) rfl)).trans (Jh (G := fun b => b = g) (g := g) (j := j * 10 + 1) (u := .int .i64 (m + 1)) rfl))
    replace rr := (Uz (Uz rr (j * 10) (.int .i64 (m))).1 (j * 10 + 1) (.int .i64 (m + 1))).1
    replace o2 := Ju Jq o2 ts (fun b h1 h2 => (hFj b (q2 b h1)).2.1 h2)
    replace o3 := Ju Jb o3 ts (fun b h1 h2 => (hFj b (q3 b h1)).2.1 h2)
    replace o5 := Ju Jb o5 ts (fun b h1 h2 => (hFj b (q5 b h1)).2.1 h2)
    replace o9 := Ju Jv o9 ts (fun b h1 h2 => (hFj b (q9 b h1)).2.1 h2)
    replace tt := tt.trans (ts.mono (fun b h => Or.inl h))
    clear ts
    generalize ((wr.setCell ⟨g, j * 10, none⟩ (.int .i64 (m))).setCell ⟨g, j * 10 + 1, none⟩ (.int .i64 (m + 1))) = W0 at *
    refine (markCondS_S v2 x2 _ (m + 1 + 1) W0 o2 S2.out R2.out.1 (by have := R2.out.2; omega)).mono ?_
    rintro e w1 ⟨rfl, m2, t1⟩
    replace rr := Kv rr t1 (fun b hb h => by simp [Value.ownBlock] at hb; exact (hFj b (q2 b h)).2.1 hb.symm)
    replace o2 := m2
    replace o3 := Ju Jb o3 t1 (fun b h1 h2 => d2_3 b h2 h1)
    replace o5 := Ju Jb o5 t1 (fun b h1 h2 => d2_5 b h2 h1)
    replace o9 := Ju Jv o9 t1 (fun b h1 h2 => d2_9 b h2 h1)
    replace tt := tt.trans (t1.mono (fun b h => Or.inr (Or.inl (q2 b h))))
    clear t1
    have cv3 : w1.cell? ⟨g, j * 10 + 3, none⟩ = some v3 := (World.ownsRow.cellAt rr (j * 10 + 3) (by show j * 10 + 3 < xs.length * 10; omega)).trans (by rw [Ea (by omega)]; rw [Ea (by omega)]; exact hLc 3 (by decide))
    go_wp2_with fail
    clear cv3
    refine (Xf v3 x3 _ (m + 1 + 1 + (Jt Jl x2 : Int)) w1 o3 S3.out R3.out.1 (by have := R3.out.2; omega)).mono ?_
    rintro e w2 ⟨rfl, m3, t1⟩
    replace rr := Kv rr t1 (fun b hb h => by simp [Value.ownBlock] at hb; exact (hFj b (q3 b h)).2.1 hb.symm)
    replace o2 := Ju Jq o2 t1 (fun b h1 h2 => d2_3 b h1 h2)
    replace o3 := m3
    replace o5 := Ju Jb o5 t1 (fun b h1 h2 => d3_5 b h2 h1)
    replace o9 := Ju Jv o9 t1 (fun b h1 h2 => d3_9 b h2 h1)
    replace tt := tt.trans (t1.mono (fun b h => Or.inr (Or.inl (q3 b h))))
    clear t1
    have c4 : ∃ x, w2.cell? ⟨g, j * 10 + 4, none⟩ = some x := ⟨_, (World.ownsRow.cellAt rr (j * 10 + 4) (by show j * 10 + 4 < xs.length * 10; omega)).trans (Ec (by have h9 := rr.1; have h8 : xs.length * Jm.n = xs.length * 10 := rfl; omega))⟩
    obtain ⟨y4, c4⟩ := c4
    have f4 := Uy rr (j * 10 + 4)
    have cv5 : w2.cell? ⟨g, j * 10 + 5, none⟩ = some v5 := (World.ownsRow.cellAt rr (j * 10 + 5) (by show j * 10 + 5 < xs.length * 10; omega)).trans (by rw [Ea (by omega)]; rw [Ea (by omega)]; exact hLc 5 (by decide))
    go_wp2_with fail
    clear c4 f4 cv5
    have ts : Jy (fun b => b = g) w2 (w2.setCell ⟨g, j * 10 + 4, none⟩ (.int .i64 (m + 1 + 1 + (Jt Jl x2 : Int) + (Jt Jf x3 : Int)))) := ((Jy.refl (fun b => b = g) _).trans (Jh (G := fun b => b = g) (g := g) (j := j * 10 + 4) (u := .int .i64 (m + 1 + 1 + (Jt Jl x2 : Int) + (Jt Jf x3 : Int))) rfl))
    replace rr := (Uz rr (j * 10 + 4) (.int .i64 (m + 1 + 1 + (Jt Jl x2 : Int) + (Jt Jf x3 : Int)))).1
    replace o2 := Ju Jq o2 ts (fun b h1 h2 => (hFj b (q2 b h1)).2.1 h2)
    replace o3 := Ju Jb o3 ts (fun b h1 h2 => (hFj b (q3 b h1)).2.1 h2)
    replace o5 := Ju Jb o5 ts (fun b h1 h2 => (hFj b (q5 b h1)).2.1 h2)
    replace o9 := Ju Jv o9 ts (fun b h1 h2 => (hFj b (q9 b h1)).2.1 h2)
    replace tt := tt.trans (ts.mono (fun b h => Or.inl h))
    clear ts
    generalize (w2.setCell ⟨g, j * 10 + 4, none⟩ (.int .i64 (m + 1 + 1 + (Jt Jl x2 : Int) + (Jt Jf x3 : Int)))) = W2 at *
    refine (Xf v5 x5 _ (m + 1 + 1 + (Jt Jl x2 : Int) + (Jt Jf x3 : Int) + 1) W2 o5 S5.out R5.out.1 (by have := R5.out.2; omega)).mono ?_
    rintro e w3 ⟨rfl, m5, t1⟩
    replace rr := Kv rr t1 (fun b hb h => by simp [Value.ownBlock] at hb; exact (hFj b (q5 b h)).2.1 hb.symm)
    replace o2 := Ju Jq o2 t1 (fun b h1 h2 => d2_5 b h1 h2)
    replace o3 := Ju Jb o3 t1 (fun b h1 h2 => d3_5 b h1 h2)
    replace o5 := m5
    replace o9 := Ju Jv o9 t1 (fun b h1 h2 => d5_9 b h2 h1)
    replace tt := tt.trans (t1.mono (fun b h => Or.inr (Or.inl (q5 b h))))
    clear t1
    have c6 : ∃ x, w3.cell? ⟨g, j * 10 + 6, none⟩ = some x := ⟨_, (World.ownsRow.cellAt rr (j * 10 + 6) (by show j * 10 + 6 < xs.length * 10; omega)).trans (Ec (by have h9 := rr.1; have h8 : xs.length * Jm.n = xs.length * 10 := rfl; omega))⟩
    obtain ⟨y6, c6⟩ := c6
    have f6 := Uy rr (j * 10 + 6)
    have c7 : ∃ x, w3.cell? ⟨g, j * 10 + 7, none⟩ = some x := ⟨_, (World.ownsRow.cellAt rr (j * 10 + 7) (by show j * 10 + 7 < xs.length * 10; omega)).trans (Ec (by have h9 := rr.1; have h8 : xs.length * Jm.n = xs.length * 10 := rfl; omega))⟩
    obtain ⟨y7, c7⟩ := c7
    have f7 := Uy rr (j * 10 + 7)
    have c8 : ∃ x, w3.cell? ⟨g, j * 10 + 8, none⟩ = some x := ⟨_, (World.ownsRow.cellAt rr (j * 10 + 8) (by show j * 10 + 8 < xs.length * 10; omega)).trans (Ec (by have h9 := rr.1; have h8 : xs.length * Jm.n = xs.length * 10 := rfl; omega))⟩
    obtain ⟨y8, c8⟩ := c8
    have f8 := Uy rr (j * 10 + 8)
    have cv9 : w3.cell? ⟨g, j * 10 + 9, none⟩ = some v9 := (World.ownsRow.cellAt rr (j * 10 + 9) (by show j * 10 + 9 < xs.length * 10; omega)).trans (by rw [Ea (by omega)]; rw [Ea (by omega)]; rw [Ea (by omega)]; exact hLc 9 (by decide))
    go_wp2_with fail
    clear c6 f6 c7 f7 c8 f8 cv9
    have ts : Jy (fun b => b = g) w3 (((w3.setCell ⟨g, j * 10 + 6, none⟩ (.int .i64 (m + 1 + 1 + (Jt Jl x2 : Int) + (Jt Jf x3 : Int) + 1 + (Jt Jf x5 : Int)))).setCell ⟨g, j * 10 + 7, none⟩ (.int .i64 (m + 1 + 1 + (Jt Jl x2 : Int) + (Jt Jf x3 : Int) + 1 + (Jt Jf x5 : Int) + 1))).setCell ⟨g, j * 10 + 8, none⟩ (.int .i64 (m + 1 + 1 + (Jt Jl x2 : Int) + (Jt Jf x3 : Int) + 1 + (Jt Jf x5 : Int) + 1 + 1))) := ((((Jy.refl (fun b => b = g) _).trans (Jh (G := fun b => b = g) (g := g) (j := j * 10 + 6) (u := .int .i64 (m + 1 + 1 + (Jt Jl x2 : Int) + (Jt Jf x3 : Int) + 1 + (Jt Jf x5 : Int))) rfl)).trans (Jh (G := fun b => b = g) (g := g) (j := j * 10 + 7) (u := .int .i64 (m + 1 + 1 + (Jt Jl x2 : Int) + (Jt Jf x3 : Int) + 1 + (Jt Jf x5 : Int) + 1)) rfl)).trans (Jh (G := fun b => b = g) (g := g) (j := j * 10 + 8) (u := .int .i64 (m + 1 + 1 + (Jt Jl x2 : Int) + (Jt Jf x3 : Int) + 1 + (Jt Jf x5 : Int) + 1 + 1)) rfl))
    replace rr := (Uz (Uz (Uz rr (j * 10 + 6) (.int .i64 (m + 1 + 1 + (Jt Jl x2 : Int) + (Jt Jf x3 : Int) + 1 + (Jt Jf x5 : Int)))).1 (j * 10 + 7) (.int .i64 (m + 1 + 1 + (Jt Jl x2 : Int) + (Jt Jf x3 : Int) + 1 + (Jt Jf x5 : Int) + 1))).1 (j * 10 + 8) (.int .i64 (m + 1 + 1 + (Jt Jl x2 : Int) + (Jt Jf x3 : Int) + 1 + (Jt Jf x5 : Int) + 1 + 1))).1
    replace o2 := Ju Jq o2 ts (fun b h1 h2 => (hFj b (q2 b h1)).2.1 h2)
    replace o3 := Ju Jb o3 ts (fun b h1 h2 => (hFj b (q3 b h1)).2.1 h2)
    replace o5 := Ju Jb o5 ts (fun b h1 h2 => (hFj b (q5 b h1)).2.1 h2)
    replace o9 := Ju Jv o9 ts (fun b h1 h2 => (hFj b (q9 b h1)).2.1 h2)
    replace tt := tt.trans (ts.mono (fun b h => Or.inl h))
    clear ts
    generalize (((w3.setCell ⟨g, j * 10 + 6, none⟩ (.int .i64 (m + 1 + 1 + (Jt Jl x2 : Int) + (Jt Jf x3 : Int) + 1 + (Jt Jf x5 : Int)))).setCell ⟨g, j * 10 + 7, none⟩ (.int .i64 (m + 1 + 1 + (Jt Jl x2 : Int) + (Jt Jf x3 : Int) + 1 + (Jt Jf x5 : Int) + 1))).setCell ⟨g, j * 10 + 8, none⟩ (.int .i64 (m + 1 + 1 + (Jt Jl x2 : Int) + (Jt Jf x3 : Int) + 1 + (Jt Jf x5 : Int) + 1 + 1))) = W3 at *
    refine (markRowS_S v9 x9 _ (m + 1 + 1 + (Jt Jl x2 : Int) + (Jt Jf x3 : Int) + 1 + (Jt Jf x5 : Int) + 1 + 1 + 1) W3 o9 S9.out R9.out.1 (by have := R9.out.2; omega)).mono ?_
    rintro e w4 ⟨rfl, m9, t1⟩
    replace rr := Kv rr t1 (fun b hb h => by simp [Value.ownBlock] at hb; exact (hFj b (q9 b h)).2.1 hb.symm)
    replace o2 := Ju Jq o2 t1 (fun b h1 h2 => d2_9 b h1 h2)
    replace o3 := Ju Jb o3 t1 (fun b h1 h2 => d3_9 b h1 h2)
    replace o5 := Ju Jb o5 t1 (fun b h1 h2 => d5_9 b h1 h2)
    replace o9 := m9
    replace tt := tt.trans (t1.mono (fun b h => Or.inr (Or.inl (q9 b h))))
    clear t1
    have hO2 := tActive_mkO (F := Fj) (a0 := m) (a1 := m + 1) (a4 := m + 1 + 1 + (Jt Jl x2 : Int) + (Jt Jf x3 : Int)) (a6 := m + 1 + 1 + (Jt Jl x2 : Int) + (Jt Jf x3 : Int) + 1 + (Jt Jf x5 : Int)) (a7 := m + 1 + 1 + (Jt Jl x2 : Int) + (Jt Jf x3 : Int) + 1 + (Jt Jf x5 : Int) + 1) (a8 := m + 1 + 1 + (Jt Jl x2 : Int) + (Jt Jf x3 : Int) + 1 + (Jt Jf x5 : Int) + 1 + 1) o2 o3 o5 o9 q2 q3 q5 q9 d2_3 d2_5 d2_9 d3_5 d3_9 d5_9
    have hst := hput w4 ((((((Lc.set (j * 10) (.int .i64 (m))).set (j * 10 + 1) (.int .i64 (m + 1))).set (j * 10 + 4) (.int .i64 (m + 1 + 1 + (Jt Jl x2 : Int) + (Jt Jf x3 : Int)))).set (j * 10 + 6) (.int .i64 (m + 1 + 1 + (Jt Jl x2 : Int) + (Jt Jf x3 : Int) + 1 + (Jt Jf x5 : Int)))).set (j * 10 + 7) (.int .i64 (m + 1 + 1 + (Jt Jl x2 : Int) + (Jt Jf x3 : Int) + 1 + (Jt Jf x5 : Int) + 1))).set (j * 10 + 8) (.int .i64 (m + 1 + 1 + (Jt Jl x2 : Int) + (Jt Jf x3 : Int) + 1 + (Jt Jf x5 : Int) + 1 + 1))) [.int .i64 (m), .int .i64 (m + 1), v2, v3, .int .i64 (m + 1 + 1 + (Jt Jl x2 : Int) + (Jt Jf x3 : Int)), v5, .int .i64 (m + 1 + 1 + (Jt Jl x2 : Int) + (Jt Jf x3 : Int) + 1 + (Jt Jf x5 : Int)), .int .i64 (m + 1 + 1 + (Jt Jl x2 : Int) + (Jt Jf x3 : Int) + 1 + (Jt Jf x5 : Int) + 1), .int .i64 (m + 1 + 1 + (Jt Jl x2 : Int) + (Jt Jf x3 : Int) + 1 + (Jt Jf x5 : Int) + 1 + 1), v9] Fj _ rr (fun p hp => by have hp2 : p < j * 10 ∨ j * 10 + 10 ≤ p := hp; rw [Ea (by omega)]; rw [Ea (by omega)]; rw [Ea (by omega)]; rw [Ea (by omega)]; rw [Ea (by omega)]; rw [Ea (by omega)]) (fun i hi => by have hi' : i < 10 := hi; match i, hi' with | 0, _ => (show (((((((Lc.set (j * 10) (.int .i64 (m))).set (j * 10 + 1) (.int .i64 (m + 1))).set (j * 10 + 4) (.int .i64 (m + 1 + 1 + (Jt Jl x2 : Int) + (Jt Jf x3 : Int)))).set (j * 10 + 6) (.int .i64 (m + 1 + 1 + (Jt Jl x2 : Int) + (Jt Jf x3 : Int) + 1 + (Jt Jf x5 : Int)))).set (j * 10 + 7) (.int .i64 (m + 1 + 1 + (Jt Jl x2 : Int) + (Jt Jf x3 : Int) + 1 + (Jt Jf x5 : Int) + 1))).set (j * 10 + 8) (.int .i64 (m + 1 + 1 + (Jt Jl x2 : Int) + (Jt Jf x3 : Int) + 1 + (Jt Jf x5 : Int) + 1 + 1))))[j * 10]? = _; rw [Ea (by omega)]; rw [Ea (by omega)]; rw [Ea (by omega)]; rw [Ea (by omega)]; rw [Ea (by omega)]; rw [Eb (by first | omega | (simp only [List.length_set]; omega))]; rfl) | 1, _ => (show (((((((Lc.set (j * 10) (.int .i64 (m))).set (j * 10 + 1) (.int .i64 (m + 1))).set (j * 10 + 4) (.int .i64 (m + 1 + 1 + (Jt Jl x2 : Int) + (Jt Jf x3 : Int)))).set (j * 10 + 6) (.int .i64 (m + 1 + 1 + (Jt Jl x2 : Int) + (Jt Jf x3 : Int) + 1 + (Jt Jf x5 : Int)))).set (j * 10 + 7) (.int .i64 (m + 1 + 1 + (Jt Jl x2 : Int) + (Jt Jf x3 : Int) + 1 + (Jt Jf x5 : Int) + 1))).set (j * 10 + 8) (.int .i64 (m + 1 + 1 + (Jt Jl x2 : Int) + (Jt Jf x3 : Int) + 1 + (Jt Jf x5 : Int) + 1 + 1))))[j * 10 + 1]? = _; rw [Ea (by omega)]; rw [Ea (by omega)]; rw [Ea (by omega)]; rw [Ea (by omega)]; rw [Eb (by first | omega | (simp only [List.length_set]; omega))]; rfl) | 2, _ => (show (((((((Lc.set (j * 10) (.int .i64 (m))).set (j * 10 + 1) (.int .i64 (m + 1))).set (j * 10 + 4) (.int .i64 (m + 1 + 1 + (Jt Jl x2 : Int) + (Jt Jf x3 : Int)))).set (j * 10 + 6) (.int .i64 (m + 1 + 1 + (Jt Jl x2 : Int) + (Jt Jf x3 : Int) + 1 + (Jt Jf x5 : Int)))).set (j * 10 + 7) (.int .i64 (m + 1 + 1 + (Jt Jl x2 : Int) + (Jt Jf x3 : Int) + 1 + (Jt Jf x5 : Int) + 1))).set (j * 10 + 8) (.int .i64 (m + 1 + 1 + (Jt Jl x2 : Int) + (Jt Jf x3 : Int) + 1 + (Jt Jf x5 : Int) + 1 + 1))))[j * 10 + 2]? = _; rw [Ea (by omega)]; rw [Ea (by omega)]; rw [Ea (by omega)]; rw [Ea (by omega)]; rw [Ea (by omega)]; rw [Ea (by omega)]; exact hLc 2 (by decide)) | 3, _ => (show (((((((Lc.set (j * 10) (.int .i64 (m))).set (j * 10 + 1) (.int .i64 (m + 1))).set (j * 10 + 4) (.int .i64 (m + 1 + 1 + (Jt Jl x2 : Int) + (Jt Jf x3 : Int)))).set (j * 10 + 6) (.int .i64 (m + 1 + 1 + (Jt Jl x2 : Int) + (Jt Jf x3 : Int) + 1 + (Jt Jf x5 : Int)))).set (j * 10 + 7) (.int .i64 (m + 1 + 1 + (Jt Jl x2 : Int) + (Jt Jf x3 : Int) + 1 + (Jt Jf x5 : Int) + 1))).set (j * 10 + 8) (.int .i64 (m + 1 + 1 + (Jt Jl x2 : Int) + (Jt Jf x3 : Int) + 1 + (Jt Jf x5 : Int) + 1 + 1))))[j * 10 + 3]? = _; rw [Ea (by omega)]; rw [Ea (by omega)]; rw [Ea (by omega)]; rw [Ea (by omega)]; rw [Ea (by omega)]; rw [Ea (by omega)]; exact hLc 3 (by decide)) | 4, _ => (show (((((((Lc.set (j * 10) (.int .i64 (m))).set (j * 10 + 1) (.int .i64 (m + 1))).set (j * 10 + 4) (.int .i64 (m + 1 + 1 + (Jt Jl x2 : Int) + (Jt Jf x3 : Int)))).set (j * 10 + 6) (.int .i64 (m + 1 + 1 + (Jt Jl x2 : Int) + (Jt Jf x3 : Int) + 1 + (Jt Jf x5 : Int)))).set (j * 10 + 7) (.int .i64 (m + 1 + 1 + (Jt Jl x2 : Int) + (Jt Jf x3 : Int) + 1 + (Jt Jf x5 : Int) + 1))).set (j * 10 + 8) (.int .i64 (m + 1 + 1 + (Jt Jl x2 : Int) + (Jt Jf x3 : Int) + 1 + (Jt Jf x5 : Int) + 1 + 1))))[j * 10 + 4]? = _; rw [Ea (by omega)]; rw [Ea (by omega)]; rw [Ea (by omega)]; rw [Eb (by first | omega | (simp only [List.length_set]; omega))]; rfl) | 5, _ => (show (((((((Lc.set (j * 10) (.int .i64 (m))).set (j * 10 + 1) (.int .i64 (m + 1))).set (j * 10 + 4) (.int .i64 (m + 1 + 1 + (Jt Jl x2 : Int) + (Jt Jf x3 : Int)))).set (j * 10 + 6) (.int .i64 (m + 1 + 1 + (Jt Jl x2 : Int) + (Jt Jf x3 : Int) + 1 + (Jt Jf x5 : Int)))).set (j * 10 + 7) (.int .i64 (m + 1 + 1 + (Jt Jl x2 : Int) + (Jt Jf x3 : Int) + 1 + (Jt Jf x5 : Int) + 1))).set (j * 10 + 8) (.int .i64 (m + 1 + 1 + (Jt Jl x2 : Int) + (Jt Jf x3 : Int) + 1 + (Jt Jf x5 : Int) + 1 + 1))))[j * 10 + 5]? = _; rw [Ea (by omega)]; rw [Ea (by omega)]; rw [Ea (by omega)]; rw [Ea (by omega)]; rw [Ea (by omega)]; rw [Ea (by omega)]; exact hLc 5 (by decide)) | 6, _ => (show (((((((Lc.set (j * 10) (.int .i64 (m))).set (j * 10 + 1) (.int .i64 (m + 1))).set (j * 10 + 4) (.int .i64 (m + 1 + 1 + (Jt Jl x2 : Int) + (Jt Jf x3 : Int)))).set (j * 10 + 6) (.int .i64 (m + 1 + 1 + (Jt Jl x2 : Int) + (Jt Jf x3 : Int) + 1 + (Jt Jf x5 : Int)))).set (j * 10 + 7) (.int .i64 (m + 1 + 1 + (Jt Jl x2 : Int) + (Jt Jf x3 : Int) + 1 + (Jt Jf x5 : Int) + 1))).set (j * 10 + 8) (.int .i64 (m + 1 + 1 + (Jt Jl x2 : Int) + (Jt Jf x3 : Int) + 1 + (Jt Jf x5 : Int) + 1 + 1))))[j * 10 + 6]? = _; rw [Ea (by omega)]; rw [Ea (by omega)]; rw [Eb (by first | omega | (simp only [List.length_set]; omega))]; rfl) | 7, _ => (show (((((((Lc.set (j * 10) (.int .i64 (m))).set (j * 10 + 1) (.int .i64 (m + 1))).set (j * 10 + 4) (.int .i64 (m + 1 + 1 + (Jt Jl x2 : Int) + (Jt Jf x3 : Int)))).set (j * 10 + 6) (.int .i64 (m + 1 + 1 + (Jt Jl x2 : Int) + (Jt Jf x3 : Int) + 1 + (Jt Jf x5 : Int)))).set (j * 10 + 7) (.int .i64 (m + 1 + 1 + (Jt Jl x2 : Int) + (Jt Jf x3 : Int) + 1 + (Jt Jf x5 : Int) + 1))).set (j * 10 + 8) (.int .i64 (m + 1 + 1 + (Jt Jl x2 : Int) + (Jt Jf x3 : Int) + 1 + (Jt Jf x5 : Int) + 1 + 1))))[j * 10 + 7]? = _; rw [Ea (by omega)]; rw [Eb (by first | omega | (simp only [List.length_set]; omega))]; rfl) | 8, _ => (show (((((((Lc.set (j * 10) (.int .i64 (m))).set (j * 10 + 1) (.int .i64 (m + 1))).set (j * 10 + 4) (.int .i64 (m + 1 + 1 + (Jt Jl x2 : Int) + (Jt Jf x3 : Int)))).set (j * 10 + 6) (.int .i64 (m + 1 + 1 + (Jt Jl x2 : Int) + (Jt Jf x3 : Int) + 1 + (Jt Jf x5 : Int)))).set (j * 10 + 7) (.int .i64 (m + 1 + 1 + (Jt Jl x2 : Int) + (Jt Jf x3 : Int) + 1 + (Jt Jf x5 : Int) + 1))).set (j * 10 + 8) (.int .i64 (m + 1 + 1 + (Jt Jl x2 : Int) + (Jt Jf x3 : Int) + 1 + (Jt Jf x5 : Int) + 1 + 1))))[j * 10 + 8]? = _; rw [Eb (by first | omega | (simp only [List.length_set]; omega))]; rfl) | 9, _ => (show (((((((Lc.set (j * 10) (.int .i64 (m))).set (j * 10 + 1) (.int .i64 (m + 1))).set (j * 10 + 4) (.int .i64 (m + 1 + 1 + (Jt Jl x2 : Int) + (Jt Jf x3 : Int)))).set (j * 10 + 6) (.int .i64 (m + 1 + 1 + (Jt Jl x2 : Int) + (Jt Jf x3 : Int) + 1 + (Jt Jf x5 : Int)))).set (j * 10 + 7) (.int .i64 (m + 1 + 1 + (Jt Jl x2 : Int) + (Jt Jf x3 : Int) + 1 + (Jt Jf x5 : Int) + 1))).set (j * 10 + 8) (.int .i64 (m + 1 + 1 + (Jt Jl x2 : Int) + (Jt Jf x3 : Int) + 1 + (Jt Jf x5 : Int) + 1 + 1))))[j * 10 + 9]? = _; rw [Ea (by omega)]; rw [Ea (by omega)]; rw [Ea (by omega)]; rw [Ea (by omega)]; rw [Ea (by omega)]; rw [Ea (by omega)]; exact hLc 9 (by decide))) hO2 (fun b hb => ⟨(hFj b hb).1, Or.inl hb⟩) tt
    rw [HSET.out] at hst
    have HST := hd hst
    have hon2 := hon.trans (Jy.mono (G := fun b => F b ∧ b < w.heap.size) (G' := F) ⟨tt.os, tt.tape, tt.output, tt.size, fun b hb hn => tt.block b hb (fun h => hn (h.elim (fun h => by rw [h]; exact ⟨hFg, hgw⟩) (fun h => h.elim (fun h => (hFj b h).1) (fun h => absurd hb (Nat.not_lt.2 h)))))⟩ (fun b h => h.1))
    clear hst hput tt rr hO2 hon hFj hLc hLl o2 o3 o5 o9
    rw [HMM.out]
    go_wp2
    go_roundw
    case rel => exact ⟨j + 1, by omega, by go_num, by rw [HM'.out], HST.out, hon2⟩
    case measure => simp [intOf]; omega
   ·
    obtain rfl : j = xs.length := by omega
    rw [mTo_all] at hown
    go_wp2
    go_ret
    refine ⟨?_, Kk hown (fun b h => h.1), hon⟩
    simp
set_option maxHeartbeats 8000000 in
theorem heldActiveS_S (v : Value) (xs : List ((Int × Int × List (Int × Int × Int) × List Int) × Int × List Int × Int × Int × Int × List (Int × List Int))) (k : Int) (w : World) (h : Kc Jm w v (Vf Jm xs k)) (hs : zL Jm xs ≤ 1048576) (k0 : 0 ≤ k) (k1 : k ≤ 939524096) :
  Calls Tryz.prog 68 #[v, .int .i64 k] w fun e w' => e = .returned (.int .i64 (k + (Jt Jm xs : Int))) ∧ w = w' := by
 rw [← Xp]
 have HS := hd hs
 have H := hd h
 have hlen := Jz hs
 obtain ⟨a, cap, rfl⟩ := Jo h
 rw [Ve] at H ⊢
 clear h hs
 go_enter Tryz.func68, Tryz.ntmps68
 go_wp2
 go_loop [1, 5] (fun m i => ∃ j : Nat, j ≤ xs.length ∧ i = .int .i64 j ∧ m = .int .i64 (Uf Jm xs k j)) (fun _ i => xs.length - (intOf i).toNat)
 case atStart => exact ⟨0, Ef _, rfl, by rw [Yk]⟩
 case round =>
  obtain ⟨j, hj, rfl, rfl⟩ := hrel
  by_cases hlt : j < xs.length
  ·
   have i1 : (0 : Int) ≤ (j : Int) := by omega
   have i2 : (j : Int) < (xs.length : Int) := by omega
   obtain ⟨r1, r2⟩ := Kr Ji (by decide) (k := k) HS.out hj
   obtain ⟨r3, r4⟩ := Kr Ji (by decide) (k := k) (j := j + 1) HS.out (by omega)
   have hzx := Kz HS.out hlt
   have hstep := Yl (T := Jm) (k := k) hlt
   obtain ⟨b, off, cap', cs, hv, hbl, hcs, hR⟩ := Km H.out (k := j) (by rw [Ve]; exact hlt)
   rw [Ve] at hv
   simp only [Eg] at hv
   obtain ⟨rfl, _, rfl⟩ := hv
   rw [mAll_at hlt] at hR
   have HM : Hid (∃ m', Uf Jm xs k (j + 1) = m') := hd ⟨_, rfl⟩
   obtain ⟨m', hm'⟩ := HM.out
   rw [hm'] at hstep r3 r4
   have HM' := hd hm'
   clear hm' HM H
   generalize Uf Jm xs k j = m at *
   generalize xs.getD j Jm.d = x at *
   obtain ⟨⟨a0, a1, x2, x3⟩, a4, x5, a6, a7, a8, x9⟩ := x
   rw [tActive_md] at hR
   obtain ⟨v2, v3, v5, v9, hR'⟩ := Uh hR
   obtain ⟨rfl, h2, h3, h5, h9⟩ := hR'
   rw [Yo] at hzx
   rw [tActive_nd] at hstep
   have p0 : w.cell? ⟨b, off + j * 10, none⟩ = some (Value.int .i64 (m)) := hcs 0 (by decide)
   have p1 : w.cell? ⟨b, off + j * 10 + 1, none⟩ = some (Value.int .i64 (m + 1)) := hcs 1 (by decide)
   have p2 : w.cell? ⟨b, off + j * 10 + 2, none⟩ = some (v2) := hcs 2 (by decide)
   have p3 : w.cell? ⟨b, off + j * 10 + 3, none⟩ = some (v3) := hcs 3 (by decide)
   have p4 : w.cell? ⟨b, off + j * 10 + 4, none⟩ = some (Value.int .i64 (m + 1 + 1 + (Jt Jl x2 : Int) + (Jt Jf x3 : Int))) := hcs 4 (by decide)
   have p5 : w.cell? ⟨b, off + j * 10 + 5, none⟩ = some (v5) := hcs 5 (by decide)
   have p6 : w.cell? ⟨b, off + j * 10 + 6, none⟩ = some (Value.int .i64 (m + 1 + 1 + (Jt Jl x2 : Int) + (Jt Jf x3 : Int) + 1 + (Jt Jf x5 : Int))) := hcs 6 (by decide)
   have p7 : w.cell? ⟨b, off + j * 10 + 7, none⟩ = some (Value.int .i64 (m + 1 + 1 + (Jt Jl x2 : Int) + (Jt Jf x3 : Int) + 1 + (Jt Jf x5 : Int) + 1)) := hcs 7 (by decide)
   have p8 : w.cell? ⟨b, off + j * 10 + 8, none⟩ = some (Value.int .i64 (m + 1 + 1 + (Jt Jl x2 : Int) + (Jt Jf x3 : Int) + 1 + (Jt Jf x5 : Int) + 1 + 1)) := hcs 8 (by decide)
   have p9 : w.cell? ⟨b, off + j * 10 + 9, none⟩ = some (v9) := hcs 9 (by decide)
   have S2 := hd (show zL Jl x2 ≤ 1048576 by omega)
   have N2 := Ko Jq (by decide) x2
   have S3 := hd (show zL Jf x3 ≤ 1048576 by omega)
   have N3 := Ko Jb (by decide) x3
   have S5 := hd (show zL Jf x5 ≤ 1048576 by omega)
   have N5 := Ko Jb (by decide) x5
   have S9 := hd (show zL Kb x9 ≤ 1048576 by omega)
   have N9 := Ko Jv (by decide) x9
   have R2 : Hid (0 ≤ m + 1 + 1 ∧ m + 1 + 1 ≤ 1006632960) := hd (by omega)
   have A2 := hd h2
   have R3 : Hid (0 ≤ m + 1 + 1 + (Jt Jl x2 : Int) ∧ m + 1 + 1 + (Jt Jl x2 : Int) ≤ 1073741824) := hd (by omega)
   have A3 := hd h3
   have R5 : Hid (0 ≤ m + 1 + 1 + (Jt Jl x2 : Int) + (Jt Jf x3 : Int) + 1 ∧ m + 1 + 1 + (Jt Jl x2 : Int) + (Jt Jf x3 : Int) + 1 ≤ 1073741824) := hd (by omega)
   have A5 := hd h5
   have R9 : Hid (0 ≤ m + 1 + 1 + (Jt Jl x2 : Int) + (Jt Jf x3 : Int) + 1 + (Jt Jf x5 : Int) + 1 + 1 + 1 ∧ m + 1 + 1 + (Jt Jl x2 : Int) + (Jt Jf x3 : Int) + 1 + (Jt Jf x5 : Int) + 1 + 1 + 1 ≤ 1006632960) := hd (by omega)
   have A9 := hd h9
   have ng2 : ¬ m + 1 + 1 + (Jt Jl x2 : Int) < 0 := by omega
   have ng3 : ¬ m + 1 + 1 + (Jt Jl x2 : Int) + (Jt Jf x3 : Int) < 0 := by omega
   have ng5 : ¬ m + 1 + 1 + (Jt Jl x2 : Int) + (Jt Jf x3 : Int) + 1 + (Jt Jf x5 : Int) < 0 := by omega
   have ng9 : ¬ m + 1 + 1 + (Jt Jl x2 : Int) + (Jt Jf x3 : Int) + 1 + (Jt Jf x5 : Int) + 1 + 1 + 1 + (Jt Kb x9 : Int) < 0 := by omega
   have eq0 : ((m : Int) != m) = false := by simp
   have eq1 : ((m + 1 : Int) != m + 1) = false := by simp
   have eq4 : ((m + 1 + 1 + (Jt Jl x2 : Int) + (Jt Jf x3 : Int) : Int) != m + 1 + 1 + (Jt Jl x2 : Int) + (Jt Jf x3 : Int)) = false := by simp
   have eq6 : ((m + 1 + 1 + (Jt Jl x2 : Int) + (Jt Jf x3 : Int) + 1 + (Jt Jf x5 : Int) : Int) != m + 1 + 1 + (Jt Jl x2 : Int) + (Jt Jf x3 : Int) + 1 + (Jt Jf x5 : Int)) = false := by simp
   have eq7 : ((m + 1 + 1 + (Jt Jl x2 : Int) + (Jt Jf x3 : Int) + 1 + (Jt Jf x5 : Int) + 1 : Int) != m + 1 + 1 + (Jt Jl x2 : Int) + (Jt Jf x3 : Int) + 1 + (Jt Jf x5 : Int) + 1) = false := by simp
   have eq8 : ((m + 1 + 1 + (Jt Jl x2 : Int) + (Jt Jf x3 : Int) + 1 + (Jt Jf x5 : Int) + 1 + 1 : Int) != m + 1 + 1 + (Jt Jl x2 : Int) + (Jt Jf x3 : Int) + 1 + (Jt Jf x5 : Int) + 1 + 1) = false := by simp
   have hmx5 : m + 1 + 1 + (Jt Jl x2 : Int) + (Jt Jf x3 : Int) + 1 ≤ 1073741824 := by omega
   have hmx9 : m + 1 + 1 + (Jt Jl x2 : Int) + (Jt Jf x3 : Int) + 1 + (Jt Jf x5 : Int) + 1 + 1 + 1 ≤ 1073741824 := by omega
   have hmm : m + 1 + 1 + (Jt Jl x2 : Int) + (Jt Jf x3 : Int) + 1 + (Jt Jf x5 : Int) + 1 + 1 + 1 + (Jt Kb x9 : Int) = m' := by omega
   have HMM := hd hmm
   have hm0 : 0 ≤ m := by omega
   have hm1 : m ≤ 1073741824 := by omega
   clear hmm hstep hcs hzx N2 h2 N3 h3 N5 h5 N9 h9
   go_wp2_with fail
   refine (heldCondS_S v2 x2 (m + 1 + 1) _ A2.out S2.out R2.out.1 (by have := R2.out.2; omega)).mono ?_
   rintro e w2 ⟨rfl, rfl⟩
   go_wp2_with fail
   refine (Xg v3 x3 (m + 1 + 1 + (Jt Jl x2 : Int)) _ A3.out S3.out R3.out.1 (by have := R3.out.2; omega)).mono ?_
   rintro e w2 ⟨rfl, rfl⟩
   go_wp2_with fail
   refine (Xg v5 x5 (m + 1 + 1 + (Jt Jl x2 : Int) + (Jt Jf x3 : Int) + 1) _ A5.out S5.out R5.out.1 (by have := R5.out.2; omega)).mono ?_
   rintro e w2 ⟨rfl, rfl⟩
   go_wp2_with fail
   refine (heldRowS_S v9 x9 (m + 1 + 1 + (Jt Jl x2 : Int) + (Jt Jf x3 : Int) + 1 + (Jt Jf x5 : Int) + 1 + 1 + 1) _ A9.out S9.out R9.out.1 (by have := R9.out.2; omega)).mono ?_
   rintro e w2 ⟨rfl, rfl⟩
   rw [HMM.out]
   clear ng9
   have hnn : ¬ m' < 0 := by omega
   go_wp2
   go_round
   case rel => exact ⟨j + 1, by omega, by go_num, by rw [HM'.out]⟩
   case measure => simp [intOf]; omega
  ·
   obtain rfl : j = xs.length := by omega
   go_wp2
   go_ret
   exact ⟨rfl, rfl⟩
def Jk : Ty ((Int × Int × List (Int × Int × Int) × List Int) × Int × Int × List (Int × List Int)) := Vu Ue (Vu Jf (Vu Jf tRowS))
theorem Jg : Jk.Law := Kp Ym (Kp Jb (Kp Jb tRowS_law))
theorem Xb {w : World} {cs : List Value} {a0 : Int} {a1 : Int} {x2 : List (Int × Int × Int)} {x3 : List Int} {a4 : Int} {a5 : Int} {x6 : List (Int × List Int)} (h : Jk.R w cs ((a0, a1, x2, x3), a4, a5, x6)) : ∃ v2 v3 v6, cs = [.int .i64 a0, .int .i64 a1, v2, v3, .int .i64 a4, .int .i64 a5, v6] ∧ Kc Jl w v2 x2 ∧ Kc Jf w v3 x3 ∧ Kc Kb w v6 x6 := by
 obtain ⟨_, _, rfl, ⟨_, _, rfl, rfl, ⟨_, _, rfl, rfl, ⟨_, _, rfl, ⟨v2, rfl, h2⟩, ⟨v3, rfl, h3⟩⟩⟩⟩, ⟨_, _, rfl, rfl, ⟨_, _, rfl, rfl, ⟨v6, rfl, h6⟩⟩⟩⟩ := h
 exact ⟨_, _, _, rfl, h2, h3, h6⟩
theorem Vs {a0 : Int} {a1 : Int} {x2 : List (Int × Int × Int)} {x3 : List Int} {a4 : Int} {a5 : Int} {x6 : List (Int × List Int)} : Jk.sz ((a0, a1, x2, x3), a4, a5, x6) = zL Jl x2 + zL Jf x3 + zL Kb x6 := by
 simp only [Jk, Xi, Vo, Vn, Ub, Ye, Yd, tSl_sz, Xn, Xm, Ue]
 try omega
theorem tFinished_nd {a0 : Int} {a1 : Int} {x2 : List (Int × Int × Int)} {x3 : List Int} {a4 : Int} {a5 : Int} {x6 : List (Int × List Int)} : Jk.nd ((a0, a1, x2, x3), a4, a5, x6) = 4 + Jt Jl x2 + Jt Jf x3 + Jt Kb x6 := by
 simp only [Jk, Xi, Vo, Vn, Ub, Ye, Yd, tSl_sz, Xn, Xm, Ue]
 try omega
theorem tFinished_md {a0 : Int} {a1 : Int} {x2 : List (Int × Int × Int)} {x3 : List Int} {a4 : Int} {a5 : Int} {x6 : List (Int × List Int)} {k : Int} : Jk.md ((a0, a1, x2, x3), a4, a5, x6) k = (((k), (k + 1), Vf Jl x2 (k + 1 + 1), Vf Jf x3 (k + 1 + 1 + (Jt Jl x2 : Int))), (k + 1 + 1 + (Jt Jl x2 : Int) + (Jt Jf x3 : Int)), (k + 1 + 1 + (Jt Jl x2 : Int) + (Jt Jf x3 : Int) + 1), Vf Kb x6 (k + 1 + 1 + (Jt Jl x2 : Int) + (Jt Jf x3 : Int) + 1 + 1)) := by
 simp only [Jk, tPair_md, tPair_mv, Vo, Vn, tInt_md, tInt_mv, Ye, Yd, tSl_md, tSl_mv, Xn, Xm, Ue, Int.natCast_add, Int.natCast_zero, Int.natCast_one, Int.add_zero, Int.zero_add, Int.add_assoc]
theorem tFinished_O {w : World} {F : Nat → Prop} {cs : List Value} {a0 : Int} {a1 : Int} {x2 : List (Int × Int × Int)} {x3 : List Int} {a4 : Int} {a5 : Int} {x6 : List (Int × List Int)} (h : Jk.O w F cs ((a0, a1, x2, x3), a4, a5, x6)) : ∃ v2 v3 v6, ∃ F2 F3 F6 : Nat → Prop, cs = [.int .i64 a0, .int .i64 a1, v2, v3, .int .i64 a4, .int .i64 a5, v6] ∧ Kt 145 Jl w F2 v2 x2 ∧ Kt 3 Jf w F3 v3 x3 ∧ Kt 64 Kb w F6 v6 x6 ∧ (∀ b, F2 b → F b) ∧ (∀ b, F3 b → F b) ∧ (∀ b, F6 b → F b) ∧ (∀ b, F2 b → ¬ F3 b) ∧ (∀ b, F2 b → ¬ F6 b) ∧ (∀ b, F3 b → ¬ F6 b) := by
 obtain ⟨_, _, F0_1, F0_2, rfl, ⟨_, _, F1_1, F1_2, rfl, rfl, ⟨_, _, F2_1, F2_2, rfl, rfl, ⟨_, _, F3_1, F3_2, rfl, ⟨v2, rfl, h2⟩, ⟨v3, rfl, h3⟩, s3_1, s3_2, d3⟩, s2_1, s2_2, d2⟩, s1_1, s1_2, d1⟩, ⟨_, _, F4_1, F4_2, rfl, rfl, ⟨_, _, F5_1, F5_2, rfl, rfl, ⟨v6, rfl, h6⟩, s5_1, s5_2, d5⟩, s4_1, s4_2, d4⟩, s0_1, s0_2, d0⟩ := h
 exact ⟨v2, v3, v6, F3_1, F3_2, F5_2, rfl, h2, h3, h6, fun b h => (s0_1 b (s1_2 b (s2_2 b (s3_1 b h)))), fun b h => (s0_1 b (s1_2 b (s2_2 b (s3_2 b h)))), fun b h => (s0_2 b (s4_2 b (s5_2 b h))), fun b h h2 => d3 b h h2, fun b h h2 => d0 b (s1_2 b (s2_2 b (s3_1 b h))) (s4_2 b (s5_2 b h2)), fun b h h2 => d0 b (s1_2 b (s2_2 b (s3_2 b h))) (s4_2 b (s5_2 b h2))⟩
theorem Xy {w : World} {F : Nat → Prop} {a0 : Int} {a1 : Int} {x2 : List (Int × Int × Int)} {x3 : List Int} {a4 : Int} {a5 : Int} {x6 : List (Int × List Int)} {v2 v3 v6 : Value} {F2 F3 F6 : Nat → Prop} (h2 : Kt 145 Jl w F2 v2 x2) (h3 : Kt 3 Jf w F3 v3 x3) (h6 : Kt 64 Kb w F6 v6 x6) (s2 : ∀ b, F2 b → F b) (s3 : ∀ b, F3 b → F b) (s6 : ∀ b, F6 b → F b) (d2_3 : ∀ b, F2 b → ¬ F3 b) (d2_6 : ∀ b, F2 b → ¬ F6 b) (d3_6 : ∀ b, F3 b → ¬ F6 b) : Jk.O w F [a0, a1, v2, v3, a4, a5, v6] ((a0, a1, x2, x3), a4, a5, x6) := ⟨[a0, a1, v2, v3], [a4, a5, v6], fun b => F2 b ∨ (F3 b), F6, rfl, ⟨[a0], [a1, v2, v3], fun _ => False, fun b => F2 b ∨ (F3 b), rfl, rfl, ⟨[a1], [v2, v3], fun _ => False, fun b => F2 b ∨ (F3 b), rfl, rfl, ⟨[v2], [v3], F2, F3, rfl, ⟨_, rfl, h2⟩, ⟨_, rfl, h3⟩, (fun b h => (Or.inl h)), (fun b h => (Or.inr h)), (fun b h g => d2_3 b h g)⟩, (fun b h => (False.elim h)), (fun b h => (h.elim (fun q0 => (Or.inl q0)) (fun q0 => (Or.inr q0)))), (fun b h g => (False.elim h))⟩, (fun b h => (False.elim h)), (fun b h => (h.elim (fun q0 => (Or.inl q0)) (fun q0 => (Or.inr q0)))), (fun b h g => (False.elim h))⟩, ⟨[a4], [a5, v6], fun _ => False, F6, rfl, rfl, ⟨[a5], [v6], fun _ => False, F6, rfl, rfl, ⟨_, rfl, h6⟩, (fun b h => (False.elim h)), (fun b h => h), (fun b h g => (False.elim h))⟩, (fun b h => (False.elim h)), (fun b h => h), (fun b h g => (False.elim h))⟩, (fun b h => (h.elim (fun q0 => s2 b q0) (fun q0 => s3 b q0))), (fun b h => s6 b h), (fun b h g => (h.elim (fun q0 => d2_6 b q0 g) (fun q0 => d3_6 b q0 g)))⟩
set_option maxHeartbeats 8000000 in
theorem szFinished_Y (a0 a1 a4 a5 : Int) (v2 v3 v6 : Value) (x2 : List (Int × Int × Int)) (x3 : List Int) (x6 : List (Int × List Int)) (k0 : Int) (w : World) (h2 : Kc Jl w v2 x2) (h3 : Kc Jf w v3 x3) (h6 : Kc Kb w v6 x6) (hs : ((zL Jl x2 + zL Jf x3 + zL Kb x6 : Nat) : Int) ≤ k0) (hk : k0 ≤ 1048576) :
  Calls Tryz.prog 84 #[.agg #[a0, a1, v2, v3, a4, a5, v6], .int .i64 k0] w fun e w' => e = .returned (.int .i64 (k0 - ((zL Jl x2 + zL Jf x3 + zL Kb x6 : Nat) : Int))) ∧ Below w w w' := by
 have H2 := hd h2
 have H3 := hd h3
 have H6 := hd h6
 clear h2 h3 h6
 have HZ0 : Hid (((zL Jl x2 + zL Jf x3 : Nat) : Int) ≤ k0) := hd (by omega)
 have HK0 : Hid (k0 ≤ 1048576) := hd (by omega)
 have hn0 : ¬ k0 - ((zL Jl x2 + zL Jf x3 : Nat) : Int) < 0 := by omega
 have HZ6 : Hid (((zL Kb x6 : Nat) : Int) ≤ k0 - ((zL Jl x2 + zL Jf x3 : Nat) : Int)) := hd (by omega)
 have HK6 : Hid (k0 - ((zL Jl x2 + zL Jf x3 : Nat) : Int) ≤ 1048576) := hd (by omega)
 have hn6 : ¬ k0 - ((zL Jl x2 + zL Jf x3 : Nat) : Int) - ((zL Kb x6 : Nat) : Int) < 0 := by omega
 have HE : Hid (k0 - ((zL Jl x2 + zL Jf x3 : Nat) : Int) - ((zL Kb x6 : Nat) : Int) = k0 - ((zL Jl x2 + zL Jf x3 + zL Kb x6 : Nat) : Int)) := hd (by omega)
 clear hs hk
 have hb : Below w w (w.alloc (.cells #[a0, a1, v2, v3, a4, a5, v6] 129)) := (Eh _ w).alloc (Ed _) _
 have g0 : (w.alloc (.cells #[a0, a1, v2, v3, a4, a5, v6] 129)).heap[w.heap.size]? = some (.cells #[a0, a1, v2, v3, a4, a5, v6] 129 (0, 0)) := Uw w _
 have hz0 : w.heap.size < (w.alloc (.cells #[a0, a1, v2, v3, a4, a5, v6] 129)).heap.size := by simp
 go_enter Tryz.func84, Tryz.ntmps84
 go_wp2_with fail
 generalize (w.alloc (.cells #[a0, a1, v2, v3, a4, a5, v6] 129)) = W at *
 refine (szQuery_Y a0 a1 v2 v3 x2 x3 (k0) W (Jc Jq H2.out hb) (Jc Jb H3.out hb) HZ0.out HK0.out).mono ?_
 rintro e W1 ⟨rfl, b1⟩
 replace g0 := (b1.block w.heap.size hz0).trans g0
 replace hz0 := Ee hz0 b1.size
 replace hb := hb.trans (b1.mono hb.size)
 clear b1
 have p6 := cr 6 (v6) g0
 go_wp2_with fail
 clear p6
 refine (szRowS_Y v6 x6 (k0 - ((zL Jl x2 + zL Jf x3 : Nat) : Int)) W1 (Jc Jv H6.out hb) HZ6.out HK6.out).mono ?_
 rintro e W2 ⟨rfl, b1⟩
 replace g0 := (b1.block w.heap.size hz0).trans g0
 replace hz0 := Ee hz0 b1.size
 replace hb := hb.trans (b1.mono hb.size)
 clear b1
 go_wp2
 go_ret
 exact ⟨ty_ret HE.out, hb⟩
set_option maxHeartbeats 8000000 in
theorem szFinished_N (a0 a1 a4 a5 : Int) (v2 v3 v6 : Value) (x2 : List (Int × Int × Int)) (x3 : List Int) (x6 : List (Int × List Int)) (k0 : Int) (w : World) (h2 : Kc Jl w v2 x2) (h3 : Kc Jf w v3 x3) (h6 : Kc Kb w v6 x6) (hs : k0 < ((zL Jl x2 + zL Jf x3 + zL Kb x6 : Nat) : Int)) (hk : k0 ≤ 1048576) (hp : 0 ≤ k0) (o2 : tCondS.ok x2) (o3 : Un.ok x3) (o6 : tRowS.ok x6) :
  Calls Tryz.prog 84 #[.agg #[a0, a1, v2, v3, a4, a5, v6], .int .i64 k0] w fun e w' => e = .returned (.int .i64 (-1)) ∧ Below w w w' := by
 have H2 := hd h2
 have H3 := hd h3
 have H6 := hd h6
 clear h2 h3 h6
 have HO2 := hd o2
 have HO3 := hd o3
 have HO6 := hd o6
 clear o2 o3 o6
 by_cases c0 : k0 < ((zL Jl x2 + zL Jf x3 : Nat) : Int)
 ·
  have HZ0 : Hid (k0 < ((zL Jl x2 + zL Jf x3 : Nat) : Int)) := hd (by omega)
  have HP0 : Hid (0 ≤ k0) := hd (by omega)
  have HK0 : Hid (k0 ≤ 1048576) := hd (by omega)
  clear hs hk
  clear c0 hp
  have hb : Below w w (w.alloc (.cells #[a0, a1, v2, v3, a4, a5, v6] 129)) := (Eh _ w).alloc (Ed _) _
  have g0 : (w.alloc (.cells #[a0, a1, v2, v3, a4, a5, v6] 129)).heap[w.heap.size]? = some (.cells #[a0, a1, v2, v3, a4, a5, v6] 129 (0, 0)) := Uw w _
  have hz0 : w.heap.size < (w.alloc (.cells #[a0, a1, v2, v3, a4, a5, v6] 129)).heap.size := by simp
  go_enter Tryz.func84, Tryz.ntmps84
  go_wp2_with fail
  generalize (w.alloc (.cells #[a0, a1, v2, v3, a4, a5, v6] 129)) = W at *
  refine (szQuery_N a0 a1 v2 v3 x2 x3 (k0) W (Jc Jq H2.out hb) (Jc Jb H3.out hb) HZ0.out HK0.out HP0.out HO2.out HO3.out).mono ?_
  rintro e W1 ⟨rfl, b1⟩
  replace g0 := (b1.block w.heap.size hz0).trans g0
  replace hz0 := Ee hz0 b1.size
  replace hb := hb.trans (b1.mono hb.size)
  clear b1
  go_wp2
  go_ret
  exact ⟨rfl, hb⟩
 ·
  have HZ0 : Hid (((zL Jl x2 + zL Jf x3 : Nat) : Int) ≤ k0) := hd (by omega)
  have hn0 : ¬ k0 - ((zL Jl x2 + zL Jf x3 : Nat) : Int) < 0 := by omega
  have HK0 : Hid (k0 ≤ 1048576) := hd (by omega)
  have HZ6 : Hid (k0 - ((zL Jl x2 + zL Jf x3 : Nat) : Int) < ((zL Kb x6 : Nat) : Int)) := hd (by omega)
  have HP6 : Hid (0 ≤ k0 - ((zL Jl x2 + zL Jf x3 : Nat) : Int)) := hd (by omega)
  have HK6 : Hid (k0 - ((zL Jl x2 + zL Jf x3 : Nat) : Int) ≤ 1048576) := hd (by omega)
  clear hs hk
  clear hp c0
  have hb : Below w w (w.alloc (.cells #[a0, a1, v2, v3, a4, a5, v6] 129)) := (Eh _ w).alloc (Ed _) _
  have g0 : (w.alloc (.cells #[a0, a1, v2, v3, a4, a5, v6] 129)).heap[w.heap.size]? = some (.cells #[a0, a1, v2, v3, a4, a5, v6] 129 (0, 0)) := Uw w _
  have hz0 : w.heap.size < (w.alloc (.cells #[a0, a1, v2, v3, a4, a5, v6] 129)).heap.size := by simp
  go_enter Tryz.func84, Tryz.ntmps84
  go_wp2_with fail
  generalize (w.alloc (.cells #[a0, a1, v2, v3, a4, a5, v6] 129)) = W at *
  refine (szQuery_Y a0 a1 v2 v3 x2 x3 (k0) W (Jc Jq H2.out hb) (Jc Jb H3.out hb) HZ0.out HK0.out).mono ?_
  rintro e W1 ⟨rfl, b1⟩
  replace g0 := (b1.block w.heap.size hz0).trans g0
  replace hz0 := Ee hz0 b1.size
  replace hb := hb.trans (b1.mono hb.size)
  clear b1
  have p6 := cr 6 (v6) g0
  go_wp2_with fail
  clear p6
  refine (szRowS_N v6 x6 (k0 - ((zL Jl x2 + zL Jf x3 : Nat) : Int)) W1 (Jc Jv H6.out hb) HZ6.out HK6.out HP6.out HO6.out).mono ?_
  rintro e W2 ⟨rfl, b1⟩
  replace g0 := (b1.block w.heap.size hz0).trans g0
  replace hz0 := Ee hz0 b1.size
  replace hb := hb.trans (b1.mono hb.size)
  clear b1
  go_wp2
  go_ret
  exact ⟨rfl, hb⟩
set_option maxHeartbeats 8000000 in
theorem toFinished_T (a0 a1 a4 a5 : Int) (v2 v3 v6 : Value) (x2 : List (Int × Int × Int)) (x3 : List Int) (x6 : List (Int × List Int)) (w : World) (h2 : Kc Jl w v2 x2) (h3 : Kc Jf w v3 x3) (h6 : Kc Kb w v6 x6) (s2 : zL Jl x2 ≤ 1048576) (s3 : zL Jf x3 ≤ 1048576) (s6 : zL Kb x6 ≤ 1048576) :
  Calls Tryz.prog 97 #[.agg #[a0, a1, v2, v3, a4, a5, v6]] w (Yc Jk (fun cs => .agg cs.toArray) w ((a0, a1, x2, x3), a4, a5, x6)) := by
 have H2 := hd h2
 have H3 := hd h3
 have H6 := hd h6
 clear h2 h3 h6
 have S2 := hd s2
 have S3 := hd s3
 have S6 := hd s6
 clear s2 s3 s6
 go_enter Tryz.func97, Tryz.ntmps97
 go_wp2_with fail
 have hb : Below w w (((w.alloc (.cells #[a0, a1, v2, v3, a4, a5, v6] 129)).alloc (.cells #[Ja, Ja, (), (), Ja, Ja, ()] 136)).alloc (.cells #[Ja, Ja, (), (), Ja, Ja, ()] 136)) := (((Eh _ w).alloc (Ed _) _).alloc (by simp) _).alloc (by simp; omega) _
 have g2 : (((w.alloc (.cells #[a0, a1, v2, v3, a4, a5, v6] 129)).alloc (.cells #[Ja, Ja, (), (), Ja, Ja, ()] 136)).alloc (.cells #[Ja, Ja, (), (), Ja, Ja, ()] 136)).heap[w.heap.size + 1 + 1]? = some (.cells #[Ja, Ja, (), (), Ja, Ja, ()] 136 (0, 0)) := by
  have := Uw ((w.alloc (.cells #[a0, a1, v2, v3, a4, a5, v6] 129)).alloc (.cells #[Ja, Ja, (), (), Ja, Ja, ()] 136)) (.cells #[Ja, Ja, (), (), Ja, Ja, ()] 136)
  simpa only [Ux] using this
 have g1 : (((w.alloc (.cells #[a0, a1, v2, v3, a4, a5, v6] 129)).alloc (.cells #[Ja, Ja, (), (), Ja, Ja, ()] 136)).alloc (.cells #[Ja, Ja, (), (), Ja, Ja, ()] 136)).heap[w.heap.size + 1]? = some (.cells #[Ja, Ja, (), (), Ja, Ja, ()] 136 (0, 0)) := by
  have := Uw (w.alloc (.cells #[a0, a1, v2, v3, a4, a5, v6] 129)) (.cells #[Ja, Ja, (), (), Ja, Ja, ()] 136)
  rw [Below.heap_alloc _ _ _ (by simp)]
  simpa only [Ux] using this
 have g0 : (((w.alloc (.cells #[a0, a1, v2, v3, a4, a5, v6] 129)).alloc (.cells #[Ja, Ja, (), (), Ja, Ja, ()] 136)).alloc (.cells #[Ja, Ja, (), (), Ja, Ja, ()] 136)).heap[w.heap.size]? = some (.cells #[a0, a1, v2, v3, a4, a5, v6] 129 (0, 0)) := by
  rw [Below.heap_alloc _ _ _ (by simp; omega), Below.heap_alloc _ _ _ (by simp)]
  exact Uw w _
 have hz : w.heap.size + 2 < (((w.alloc (.cells #[a0, a1, v2, v3, a4, a5, v6] 129)).alloc (.cells #[Ja, Ja, (), (), Ja, Ja, ()] 136)).alloc (.cells #[Ja, Ja, (), (), Ja, Ja, ()] 136)).heap.size := by simp [Ux]
 generalize (((w.alloc (.cells #[a0, a1, v2, v3, a4, a5, v6] 129)).alloc (.cells #[Ja, Ja, (), (), Ja, Ja, ()] 136)).alloc (.cells #[Ja, Ja, (), (), Ja, Ja, ()] 136)) = W at *
 refine (toQuery_T a0 a1 v2 v3 x2 x3 W (Jc Jq H2.out hb) (Jc Jb H3.out hb) S2.out S3.out).mono ?_
 rintro e w1 ⟨cs, rfl, ow, b1⟩
 replace ow := Ym.mono (Ym.lt ow) (F' := fun b => W.heap.size ≤ b ∧ b < w1.heap.size) (fun b h => h)
 obtain ⟨u2, u3, F2, F3, rfl, o2, o3, q2, q3, d2_3⟩ := tQuery_O ow
 obtain ⟨ua2, uc2, rfl⟩ := Js o2
 obtain ⟨ua3, uc3, rfl⟩ := Js o3
 replace g0 := (b1.block _ (by omega)).trans g0
 replace g1 := (b1.block _ (by omega)).trans g1
 replace g2 := (b1.block _ (by omega)).trans g2
 have zz1 := b1.size
 replace hb := hb.trans (b1.mono (by omega))
 clear b1
 have c2_0 := cr 0 Ja g2
 have f2_0 := Ut w1 _ 0 _ _ g2
 have c2_1 := cr 1 Ja g2
 have f2_1 := Ut w1 _ 1 _ _ g2
 have c2_2 := cr 2 () g2
 have f2_2 := Ut w1 _ 2 _ _ g2
 have c2_3 := cr 3 () g2
 have f2_3 := Ut w1 _ 3 _ _ g2
 have c2_4 := cr 4 Ja g2
 have f2_4 := Ut w1 _ 4 _ _ g2
 have c2_5 := cr 5 Ja g2
 have f2_5 := Ut w1 _ 5 _ _ g2
 have ne1 : ¬ w.heap.size = w.heap.size + 1 + 1 := by omega
 have ne2 : ¬ w.heap.size + 1 = w.heap.size + 1 + 1 := by omega
 have ne3 : ¬ w.heap.size + 1 + 1 = w.heap.size + 1 := by omega
 have c0_4 := cr 4 a4 g0
 have c0_5 := cr 5 a5 g0
 have c0_6 := cr 6 (v6) g0
 have l0_4 : ((((w1.setCell ⟨w.heap.size + 1 + 1, 0, none⟩ a0).setCell ⟨w.heap.size + 1 + 1, 1, none⟩ a1).setCell ⟨w.heap.size + 1 + 1, 2, none⟩ (.slice ua2 x2.length uc2)).setCell ⟨w.heap.size + 1 + 1, 3, none⟩ (.slice ua3 x3.length uc3)).cell? ⟨w, 4, none⟩ = some (Value.int .i64 a4) := by
  have m : ((((w1.setCell ⟨w.heap.size + 1 + 1, 0, none⟩ a0).setCell ⟨w.heap.size + 1 + 1, 1, none⟩ a1).setCell ⟨w.heap.size + 1 + 1, 2, none⟩ (.slice ua2 x2.length uc2)).setCell ⟨w.heap.size + 1 + 1, 3, none⟩ (.slice ua3 x3.length uc3)).heap[w.heap.size]? = some (.cells #[a0, a1, v2, v3, a4, a5, v6] 129 (0, 0)) := by
   repeat rw [heap_setCell_other _ _ _ _ (by simp <;> omega)]
   exact g0
  exact (Uu _ _ 4 _ _ _ m).trans rfl
 have l0_5 : (((((w1.setCell ⟨w.heap.size + 1 + 1, 0, none⟩ a0).setCell ⟨w.heap.size + 1 + 1, 1, none⟩ a1).setCell ⟨w.heap.size + 1 + 1, 2, none⟩ (.slice ua2 x2.length uc2)).setCell ⟨w.heap.size + 1 + 1, 3, none⟩ (.slice ua3 x3.length uc3)).setCell ⟨w.heap.size + 1 + 1, 4, none⟩ a4).cell? ⟨w, 5, none⟩ = some (Value.int .i64 a5) := by
  have m : (((((w1.setCell ⟨w.heap.size + 1 + 1, 0, none⟩ a0).setCell ⟨w.heap.size + 1 + 1, 1, none⟩ a1).setCell ⟨w.heap.size + 1 + 1, 2, none⟩ (.slice ua2 x2.length uc2)).setCell ⟨w.heap.size + 1 + 1, 3, none⟩ (.slice ua3 x3.length uc3)).setCell ⟨w.heap.size + 1 + 1, 4, none⟩ a4).heap[w.heap.size]? = some (.cells #[a0, a1, v2, v3, a4, a5, v6] 129 (0, 0)) := by
   repeat rw [heap_setCell_other _ _ _ _ (by simp <;> omega)]
   exact g0
  exact (Uu _ _ 5 _ _ _ m).trans rfl
 have l0_6 : ((((((w1.setCell ⟨w.heap.size + 1 + 1, 0, none⟩ a0).setCell ⟨w.heap.size + 1 + 1, 1, none⟩ a1).setCell ⟨w.heap.size + 1 + 1, 2, none⟩ (.slice ua2 x2.length uc2)).setCell ⟨w.heap.size + 1 + 1, 3, none⟩ (.slice ua3 x3.length uc3)).setCell ⟨w.heap.size + 1 + 1, 4, none⟩ a4).setCell ⟨w.heap.size + 1 + 1, 5, none⟩ a5).cell? ⟨w, 6, none⟩ = some (v6) := by
  have m : ((((((w1.setCell ⟨w.heap.size + 1 + 1, 0, none⟩ a0).setCell ⟨w.heap.size + 1 + 1, 1, none⟩ a1).setCell ⟨w.heap.size + 1 + 1, 2, none⟩ (.slice ua2 x2.length uc2)).setCell ⟨w.heap.size + 1 + 1, 3, none⟩ (.slice ua3 x3.length uc3)).setCell ⟨w.heap.size + 1 + 1, 4, none⟩ a4).setCell ⟨w.heap.size + 1 + 1, 5, none⟩ a5).heap[w.heap.size]? = some (.cells #[a0, a1, v2, v3, a4, a5, v6] 129 (0, 0)) := by
   repeat rw [heap_setCell_other _ _ _ _ (by simp <;> omega)]
   exact g0
  exact (Uu _ _ 6 _ _ _ m).trans rfl
 go_wp2_with fail
 clear c2_0 f2_0 c2_1 f2_1 c2_2 f2_2 c2_3 f2_3 c2_4 f2_4 c2_5 f2_5 ne1 ne2 ne3 c0_4 c0_5 c0_6 l0_4 l0_5 l0_6
 have hw := ts6 w1 (w.heap.size + 1 + 1) a0 a1 (.slice ua2 x2.length uc2) (.slice ua3 x3.length uc3) a4 a5
 replace g0 := (hw.block _ (by omega) (by omega)).trans g0
 replace g1 := (hw.block _ (by omega) (by omega)).trans g1
 have g2n := (Uv _ (w.heap.size + 1 + 1) 5 _ _ a5 (Uv _ (w.heap.size + 1 + 1) 4 _ _ a4 (Uv _ (w.heap.size + 1 + 1) 3 _ _ (.slice ua3 x3.length uc3) (Uv _ (w.heap.size + 1 + 1) 2 _ _ (.slice ua2 x2.length uc2) (Uv _ (w.heap.size + 1 + 1) 1 _ _ a1 (Uv _ (w.heap.size + 1 + 1) 0 _ _ a0 g2))))))
 replace g2 : ((((((w1.setCell ⟨w.heap.size + 1 + 1, 0, none⟩ a0).setCell ⟨w.heap.size + 1 + 1, 1, none⟩ a1).setCell ⟨w.heap.size + 1 + 1, 2, none⟩ (.slice ua2 x2.length uc2)).setCell ⟨w.heap.size + 1 + 1, 3, none⟩ (.slice ua3 x3.length uc3)).setCell ⟨w.heap.size + 1 + 1, 4, none⟩ a4).setCell ⟨w.heap.size + 1 + 1, 5, none⟩ a5).heap[w.heap.size + 1 + 1]? = some (.cells #[a0, a1, .slice ua2 x2.length uc2, .slice ua3 x3.length uc3, a4, a5, ()] 136 (0, 0)) := by simpa using g2n
 clear g2n
 replace o2 := Ju Jq o2 hw (fun b h1 h2 => by first | (have := h1.1; omega) | (have := q2 b h1; omega))
 replace o3 := Ju Jb o3 hw (fun b h1 h2 => by first | (have := h1.1; omega) | (have := q3 b h1; omega))
 replace hb := Jr hb hw (fun b h => by omega) (by omega)
 have hz0 := hw.size
 clear hw
 generalize ((((((w1.setCell ⟨w.heap.size + 1 + 1, 0, none⟩ a0).setCell ⟨w.heap.size + 1 + 1, 1, none⟩ a1).setCell ⟨w.heap.size + 1 + 1, 2, none⟩ (.slice ua2 x2.length uc2)).setCell ⟨w.heap.size + 1 + 1, 3, none⟩ (.slice ua3 x3.length uc3)).setCell ⟨w.heap.size + 1 + 1, 4, none⟩ a4).setCell ⟨w.heap.size + 1 + 1, 5, none⟩ a5) = W1 at *
 refine (toRowS_S v6 x6 W1 (Jc Jv H6.out hb) S6.out).mono ?_
 rintro e w2 ⟨u6, rfl, o6, b1⟩
 obtain ⟨ua6, uc6, rfl⟩ := Js o6
 replace o6 := Kk (Ki Jv o6) (F' := fun b => W1.heap.size ≤ b ∧ b < w2.heap.size) (fun b h => h)
 replace g0 := (b1.block _ (by omega)).trans g0
 replace g1 := (b1.block _ (by omega)).trans g1
 replace g2 := (b1.block _ (by omega)).trans g2
 replace o2 := Kq Jq o2 b1
 replace o3 := Kq Jb o3 b1
 have zz2 := b1.size
 replace hb := hb.trans (b1.mono (by omega))
 clear b1
 have c2_0 := cr 0 a0 g2
 have f2_0 := Ut w2 _ 0 _ _ g2
 have c2_1 := cr 1 a1 g2
 have f2_1 := Ut w2 _ 1 _ _ g2
 have c2_2 := cr 2 (Value.slice ua2 x2.length uc2) g2
 have f2_2 := Ut w2 _ 2 _ _ g2
 have c2_3 := cr 3 (Value.slice ua3 x3.length uc3) g2
 have f2_3 := Ut w2 _ 3 _ _ g2
 have c2_4 := cr 4 a4 g2
 have f2_4 := Ut w2 _ 4 _ _ g2
 have c2_5 := cr 5 a5 g2
 have f2_5 := Ut w2 _ 5 _ _ g2
 have c2_6 := cr 6 () g2
 have f2_6 := Ut w2 _ 6 _ _ g2
 have ne1 : ¬ w.heap.size = w.heap.size + 1 + 1 := by omega
 have ne2 : ¬ w.heap.size + 1 = w.heap.size + 1 + 1 := by omega
 have ne3 : ¬ w.heap.size + 1 + 1 = w.heap.size + 1 := by omega
 have c1_0 := cr 0 Ja g1
 have f1_0 := Ut w2 _ 0 _ _ g1
 have c1_1 := cr 1 Ja g1
 have f1_1 := Ut w2 _ 1 _ _ g1
 have c1_2 := cr 2 () g1
 have f1_2 := Ut w2 _ 2 _ _ g1
 have c1_3 := cr 3 () g1
 have f1_3 := Ut w2 _ 3 _ _ g1
 have c1_4 := cr 4 Ja g1
 have f1_4 := Ut w2 _ 4 _ _ g1
 have c1_5 := cr 5 Ja g1
 have f1_5 := Ut w2 _ 5 _ _ g1
 have c1_6 := cr 6 () g1
 have f1_6 := Ut w2 _ 6 _ _ g1
 go_wp2
 clear c2_0 f2_0 c2_1 f2_1 c2_2 f2_2 c2_3 f2_3 c2_4 f2_4 c2_5 f2_5 c2_6 f2_6 ne1 ne2 ne3 c1_0 f1_0 c1_1 f1_1 c1_2 f1_2 c1_3 f1_3 c1_4 f1_4 c1_5 f1_5 c1_6 f1_6
 have hw : Jy (fun b => b = w.heap.size + 1 ∨ b = w.heap.size + 1 + 1) w2 ((((((((w2.setCell ⟨w.heap.size + 1 + 1, 6, none⟩ (.slice ua6 x6.length uc6)).setCell ⟨w.heap.size + 1, 0, none⟩ a0).setCell ⟨w.heap.size + 1, 1, none⟩ a1).setCell ⟨w.heap.size + 1, 2, none⟩ (.slice ua2 x2.length uc2)).setCell ⟨w.heap.size + 1, 3, none⟩ (.slice ua3 x3.length uc3)).setCell ⟨w.heap.size + 1, 4, none⟩ a4).setCell ⟨w.heap.size + 1, 5, none⟩ a5).setCell ⟨w.heap.size + 1, 6, none⟩ (.slice ua6 x6.length uc6)) := by
  first | exact (((((((((Jy.refl _ _).trans (Jh (g := w.heap.size + 1 + 1) (j := 6) (u := .slice ua6 x6.length uc6) (Or.inr rfl))).trans (Jh (g := w.heap.size + 1) (j := 0) (u := .int .i64 a0) (Or.inl rfl))).trans (Jh (g := w.heap.size + 1) (j := 1) (u := .int .i64 a1) (Or.inl rfl))).trans (Jh (g := w.heap.size + 1) (j := 2) (u := .slice ua2 x2.length uc2) (Or.inl rfl))).trans (Jh (g := w.heap.size + 1) (j := 3) (u := .slice ua3 x3.length uc3) (Or.inl rfl))).trans (Jh (g := w.heap.size + 1) (j := 4) (u := .int .i64 a4) (Or.inl rfl))).trans (Jh (g := w.heap.size + 1) (j := 5) (u := .int .i64 a5) (Or.inl rfl))).trans (Jh (g := w.heap.size + 1) (j := 6) (u := .slice ua6 x6.length uc6) (Or.inl rfl))) | skip
 have r := (Uv _ (w.heap.size + 1) 6 _ _ (.slice ua6 x6.length uc6) (Uv _ (w.heap.size + 1) 5 _ _ a5 (Uv _ (w.heap.size + 1) 4 _ _ a4 (Uv _ (w.heap.size + 1) 3 _ _ (.slice ua3 x3.length uc3) (Uv _ (w.heap.size + 1) 2 _ _ (.slice ua2 x2.length uc2) (Uv _ (w.heap.size + 1) 1 _ _ a1 (Uv _ (w.heap.size + 1) 0 _ _ a0 ((heap_setCell_other _ ⟨w.heap.size + 1 + 1, 6, none⟩ (w.heap.size + 1) (.slice ua6 x6.length uc6) (by simp)).trans g1))))))))
 have e0 := Uu _ _ 0 _ _ _ r
 have e1 := Uu _ _ 1 _ _ _ r
 have e2 := Uu _ _ 2 _ _ _ r
 have e3 := Uu _ _ 3 _ _ _ r
 have e4 := Uu _ _ 4 _ _ _ r
 have e5 := Uu _ _ 5 _ _ _ r
 have e6 := Uu _ _ 6 _ _ _ r
 simp at e0 e1 e2 e3 e4 e5 e6
 replace o2 := Ju Jq o2 hw (fun b h1 h2 => by first | (have := h1.1; omega) | (have := q2 b h1; omega))
 replace o3 := Ju Jb o3 hw (fun b h1 h2 => by first | (have := h1.1; omega) | (have := q3 b h1; omega))
 replace o6 := Ju Jv o6 hw (fun b h1 h2 => by first | (have := h1.1; omega) | (have := q6 b h1; omega))
 replace hb := Jr hb hw (fun b h => by omega) (by omega)
 refine bodyPost_ret (v := .agg #[a0, a1, .slice ua2 x2.length uc2, .slice ua3 x3.length uc3, a4, a5, .slice ua6 x6.length uc6]) ?_ rfl ?_
 ·
  simp [results, Tryz.f97, go_sem, e0, e1, e2, e3, e4, e5, e6]
 ·
  exact ⟨[a0, a1, .slice ua2 x2.length uc2, .slice ua3 x3.length uc3, a4, a5, .slice ua6 x6.length uc6], rfl, Xy o2 o3 o6 (fun b h => by show w.heap.size ≤ b; first | (have := h.1; omega) | (have := q2 b h; omega)) (fun b h => by show w.heap.size ≤ b; first | (have := h.1; omega) | (have := q3 b h; omega)) (fun b h => by show w.heap.size ≤ b; first | (have := h.1; omega) | (have := q6 b h; omega)) (fun b h1 h2 => by first | exact d2_3 b h1 h2 | (have := h1.1; have := h1.2; have := h2.1; have := h2.2; omega) | (have := q2 b h1; have := h2.1; have := h2.2; omega) | (have := h1.1; have := h1.2; have := q3 b h2; omega) | (have := q2 b h1; have := q3 b h2; omega)) (fun b h1 h2 => by first | exact d2_6 b h1 h2 | (have := h1.1; have := h1.2; have := h2.1; have := h2.2; omega) | (have := q2 b h1; have := h2.1; have := h2.2; omega) | (have := h1.1; have := h1.2; have := q6 b h2; omega) | (have := q2 b h1; have := q6 b h2; omega)) (fun b h1 h2 => by first | exact d3_6 b h1 h2 | (have := h1.1; have := h1.2; have := h2.1; have := h2.2; omega) | (have := q3 b h1; have := h2.1; have := h2.2; omega) | (have := h1.1; have := h1.2; have := q6 b h2; omega) | (have := q3 b h1; have := q6 b h2; omega)), hb⟩
set_option maxHeartbeats 8000000 in
theorem eqFinished_T (a0 a1 a4 a5 : Int) (v2 v3 v6 : Value) (x2 : List (Int × Int × Int)) (x3 : List Int) (x6 : List (Int × List Int)) (u2 u3 u6 : Value) (w : World) (h2 : Kc Jl w v2 x2) (h3 : Kc Jf w v3 x3) (h6 : Kc Kb w v6 x6) (g2 : Kc Jl w u2 x2) (g3 : Kc Jf w u3 x3) (g6 : Kc Kb w u6 x6) (s2 : zL Jl x2 ≤ 1048576) (s3 : zL Jf x3 ≤ 1048576) (s6 : zL Kb x6 ≤ 1048576) :
  Calls Tryz.prog 123 #[.agg #[a0, a1, v2, v3, a4, a5, v6], .agg #[a0, a1, u2, u3, a4, a5, u6]] w fun e w' => e = .returned (.bool true) ∧ Below w w w' := by
 have H2 := hd h2; have G2 := hd g2; have S2 := hd s2
 have H3 := hd h3; have G3 := hd g3; have S3 := hd s3
 have H6 := hd h6; have G6 := hd g6; have S6 := hd s6
 clear h2 g2 s2 h3 g3 s3 h6 g6 s6
 have e0 : (a0 != a0) = false := by simp
 have e1 : (a1 != a1) = false := by simp
 have e4 : (a4 != a4) = false := by simp
 have e5 : (a5 != a5) = false := by simp
 go_enter Tryz.func123, Tryz.ntmps123
 go_wp2_with fail
 have hb : Below w w ((w.alloc (.cells #[a0, a1, v2, v3, a4, a5, v6] 136)).alloc (.cells #[a0, a1, u2, u3, a4, a5, u6] 136)) := ((Eh _ w).alloc (Ed _) _).alloc (by simp) _
 have g1 : ((w.alloc (.cells #[a0, a1, v2, v3, a4, a5, v6] 136)).alloc (.cells #[a0, a1, u2, u3, a4, a5, u6] 136)).heap[w.heap.size + 1]? = some (.cells #[a0, a1, u2, u3, a4, a5, u6] 136 (0, 0)) := by
  have := Uw (w.alloc (.cells #[a0, a1, v2, v3, a4, a5, v6] 136)) (.cells #[a0, a1, u2, u3, a4, a5, u6] 136)
  simpa only [Ux] using this
 have g0 : ((w.alloc (.cells #[a0, a1, v2, v3, a4, a5, v6] 136)).alloc (.cells #[a0, a1, u2, u3, a4, a5, u6] 136)).heap[w.heap.size]? = some (.cells #[a0, a1, v2, v3, a4, a5, v6] 136 (0, 0)) := by
  rw [Below.heap_alloc _ _ _ (by simp)]
  exact Uw w _
 have hz : w.heap.size + 1 < ((w.alloc (.cells #[a0, a1, v2, v3, a4, a5, v6] 136)).alloc (.cells #[a0, a1, u2, u3, a4, a5, u6] 136)).heap.size := by simp [Ux]
 generalize ((w.alloc (.cells #[a0, a1, v2, v3, a4, a5, v6] 136)).alloc (.cells #[a0, a1, u2, u3, a4, a5, u6] 136)) = W at *
 refine (eqQuery_T a0 a1 v2 v3 x2 x3 u2 u3 W (Jc Jq H2.out hb) (Jc Jb H3.out hb) (Jc Jq G2.out hb) (Jc Jb G3.out hb) S2.out S3.out).mono ?_
 rintro e w1 ⟨rfl, b1⟩
 replace g0 := (b1.block _ (by omega)).trans g0
 replace g1 := (b1.block _ (by omega)).trans g1
 have zz0 := b1.size
 replace hb := hb.trans (b1.mono (by omega))
 clear b1
 have p0_4 := cr 4 a4 g0
 have p1_4 := cr 4 a4 g1
 have p0_5 := cr 5 a5 g0
 have p1_5 := cr 5 a5 g1
 have p0_6 := cr 6 (v6) g0
 have p1_6 := cr 6 (u6) g1
 go_wp2_with fail
 clear p0_4 p1_4 p0_5 p1_5 p0_6 p1_6
 refine (eqRowS_S v6 u6 x6 w1 (Jc Jv H6.out hb) (Jc Jv G6.out hb) S6.out).mono ?_
 rintro e w2 ⟨rfl, b1⟩
 replace g0 := (b1.block _ (by omega)).trans g0
 replace g1 := (b1.block _ (by omega)).trans g1
 have zz1 := b1.size
 replace hb := hb.trans (b1.mono (by omega))
 clear b1
 go_wp2
 go_ret
 exact ⟨rfl, hb⟩
abbrev tFinishedS : Ty (List ((Int × Int × List (Int × Int × Int) × List Int) × Int × Int × List (Int × List Int))) := tSl 136 Jk
theorem tFinishedS_law : tFinishedS.Law := tSl_law Jg (by decide)
set_option maxHeartbeats 8000000 in
theorem szFinishedS_Y (v : Value) (xs : List ((Int × Int × List (Int × Int × Int) × List Int) × Int × Int × List (Int × List Int))) (k0 : Int) (w : World) (h : Kc Jk w v xs) (hs : ((zL Jk xs : Nat) : Int) ≤ k0) (hk : k0 ≤ 1048576) :
  Calls Tryz.prog 34 #[v, .int .i64 k0] w fun e w' => e = .returned (.int .i64 (k0 - ((zL Jk xs : Nat) : Int))) ∧ Below w w w' := by
 have H := hd h
 obtain ⟨a, cap, rfl⟩ := Jo h
 clear h
 have h00 := Ul (T := Jk) (xs := xs) (Ef _)
 rw [Ky] at h00
 have HS := hd hs
 go_enter Tryz.func34, Tryz.ntmps34
 have hneg : ¬ k0 - (xs.length : Int) < 0 := by omega
 go_wp2
 clear hneg
 go_loopw [1, 5] (fun l i wr => ∃ k : Nat, k ≤ xs.length ∧ i = .int .i64 k ∧ l = .int .i64 (k0 - (Vm Jk xs k : Int)) ∧ Below w w wr) (fun _ i _ => xs.length - (intOf i).toNat)
 case atStart => exact ⟨0, Ef _, rfl, by rw [Ky], Eh _ _⟩
 case round =>
  obtain ⟨k, hk', rfl, rfl, hbel⟩ := hrel
  by_cases hlt : k < xs.length
  ·
   have HST := hd (Ys (T := Jk) hlt)
   have HLE := hd (Ul (T := Jk) (xs := xs) (k := k + 1) (by omega))
   have i1 : (0 : Int) ≤ (k : Int) := by omega
   have i2 : (k : Int) < (xs.length : Int) := by omega
   obtain ⟨b, off, cap', cs, hv, hbl, hcs, hR⟩ := Km (Jc Jg H.out hbel) hlt
   simp only [Eg] at hv
   obtain ⟨rfl, _, rfl⟩ := hv
   generalize xs.getD k Jk.d = x at *
   obtain ⟨⟨a0, a1, x2, x3⟩, a4, a5, x6⟩ := x
   obtain ⟨v2, v3, v6, hR'⟩ := Xb hR
   obtain ⟨rfl, h2, h3, h6⟩ := hR'
   have p0 : wr.cell? ⟨b, off + k * 7, none⟩ = some (Value.int .i64 a0) := hcs 0 (by decide)
   have p1 : wr.cell? ⟨b, off + k * 7 + 1, none⟩ = some (Value.int .i64 a1) := hcs 1 (by decide)
   have p2 : wr.cell? ⟨b, off + k * 7 + 2, none⟩ = some (v2) := hcs 2 (by decide)
   have p3 : wr.cell? ⟨b, off + k * 7 + 3, none⟩ = some (v3) := hcs 3 (by decide)
   have p4 : wr.cell? ⟨b, off + k * 7 + 4, none⟩ = some (Value.int .i64 a4) := hcs 4 (by decide)
   have p5 : wr.cell? ⟨b, off + k * 7 + 5, none⟩ = some (Value.int .i64 a5) := hcs 5 (by decide)
   have p6 : wr.cell? ⟨b, off + k * 7 + 6, none⟩ = some (v6) := hcs 6 (by decide)
   clear hcs
   have HQ : Hid (Jk.sz ((a0, a1, x2, x3), a4, a5, x6) = zL Jl x2 + zL Jf x3 + zL Kb x6) := hd Vs
   have hx1 : ((zL Jl x2 + zL Jf x3 + zL Kb x6 : Nat) : Int) ≤ k0 - (Vm Jk xs k : Int) := by have := HST.out; have := HLE.out; have := HQ.out; omega
   have hx2 : k0 - (Vm Jk xs k : Int) ≤ 1048576 := by omega
   have hneg : ¬ k0 - (Vm Jk xs k : Int) - ((zL Jl x2 + zL Jf x3 + zL Kb x6 : Nat) : Int) < 0 := by omega
   have HC := hd (fun W b => szFinished_Y a0 a1 a4 a5 v2 v3 v6 x2 x3 x6 (k0 - (Vm Jk xs k : Int)) W (Jc Jq h2 b) (Jc Jb h3 b) (Jc Jv h6 b) hx1 hx2)
   go_wp2_with fail
   refine (HC.out _ (Eh _ _)).mono ?_
   rintro e w1 ⟨rfl, b1⟩
   have b2 := hbel.trans (b1.mono hbel.size)
   go_wp2
   go_roundw
   case rel => exact ⟨k + 1, by omega, by go_num, by rw [HST.out, HQ.out]; go_num, b2⟩
   case measure => simp [intOf]; omega
  ·
   obtain rfl : k = xs.length := by omega
   go_wp2
   go_ret
   exact ⟨rfl, hbel⟩
set_option maxHeartbeats 8000000 in
theorem szFinishedS_N (v : Value) (xs : List ((Int × Int × List (Int × Int × Int) × List Int) × Int × Int × List (Int × List Int))) (k0 : Int) (w : World) (h : Kc Jk w v xs) (hs : k0 < ((zL Jk xs : Nat) : Int)) (hk : k0 ≤ 1048576) (hp : 0 ≤ k0) (ho : tFinishedS.ok xs) :
  Calls Tryz.prog 34 #[v, .int .i64 k0] w fun e w' => e = .returned (.int .i64 (-1)) ∧ Below w w w' := by
 have H := hd h
 have HX := hd ho.2
 have hn := ho.1
 have HS := hd hs
 obtain ⟨a, cap, rfl⟩ := Jo h
 clear h ho hs
 by_cases h1 : k0 < (xs.length : Int)
 ·
  have hneg : k0 - (xs.length : Int) < 0 := by omega
  go_enter Tryz.func34, Tryz.ntmps34
  go_wp2
  go_ret
  exact ⟨rfl, Eh _ _⟩
 ·
  go_enter Tryz.func34, Tryz.ntmps34
  have hneg : ¬ k0 - (xs.length : Int) < 0 := by omega
  go_wp2
  clear hneg
  go_loopw [1, 5] (fun l i wr => ∃ k : Nat, k ≤ xs.length ∧ i = .int .i64 k ∧ l = .int .i64 (k0 - (Vm Jk xs k : Int)) ∧ (Vm Jk xs k : Int) ≤ k0 ∧ Below w w wr) (fun _ i _ => xs.length - (intOf i).toNat)
  case atStart => exact ⟨0, Ef _, rfl, by rw [Ky], by rw [Ky]; omega, Eh _ _⟩
  case round =>
   obtain ⟨k, hk', rfl, rfl, hle, hbel⟩ := hrel
   by_cases hlt : k < xs.length
   ·
    have HST := hd (Ys (T := Jk) hlt)
    have hx := HX.out k hlt
    have i1 : (0 : Int) ≤ (k : Int) := by omega
    have i2 : (k : Int) < (xs.length : Int) := by omega
    obtain ⟨b, off, cap', cs, hv, hbl, hcs, hR⟩ := Km (Jc Jg H.out hbel) hlt
    simp only [Eg] at hv
    obtain ⟨rfl, _, rfl⟩ := hv
    generalize xs.getD k Jk.d = x at *
    obtain ⟨⟨a0, a1, x2, x3⟩, a4, a5, x6⟩ := x
    obtain ⟨v2, v3, v6, hR'⟩ := Xb hR
    obtain ⟨rfl, h2, h3, h6⟩ := hR'
    have p0 : wr.cell? ⟨b, off + k * 7, none⟩ = some (Value.int .i64 a0) := hcs 0 (by decide)
    have p1 : wr.cell? ⟨b, off + k * 7 + 1, none⟩ = some (Value.int .i64 a1) := hcs 1 (by decide)
    have p2 : wr.cell? ⟨b, off + k * 7 + 2, none⟩ = some (v2) := hcs 2 (by decide)
    have p3 : wr.cell? ⟨b, off + k * 7 + 3, none⟩ = some (v3) := hcs 3 (by decide)
    have p4 : wr.cell? ⟨b, off + k * 7 + 4, none⟩ = some (Value.int .i64 a4) := hcs 4 (by decide)
    have p5 : wr.cell? ⟨b, off + k * 7 + 5, none⟩ = some (Value.int .i64 a5) := hcs 5 (by decide)
    have p6 : wr.cell? ⟨b, off + k * 7 + 6, none⟩ = some (v6) := hcs 6 (by decide)
    clear hcs
    have HQ : Hid (Jk.sz ((a0, a1, x2, x3), a4, a5, x6) = zL Jl x2 + zL Jf x3 + zL Kb x6) := hd Vs
    obtain ⟨⟨_, ⟨_, ⟨o2, o3⟩⟩⟩, ⟨_, ⟨_, o6⟩⟩⟩ := hx
    have hz0 : (0 : Int) ≤ (Vm Jk xs k : Int) := by omega
    by_cases hg : ((zL Jl x2 + zL Jf x3 + zL Kb x6 : Nat) : Int) ≤ k0 - (Vm Jk xs k : Int)
    ·
     have hx2 : k0 - (Vm Jk xs k : Int) ≤ 1048576 := by omega
     have hneg : ¬ k0 - (Vm Jk xs k : Int) - ((zL Jl x2 + zL Jf x3 + zL Kb x6 : Nat) : Int) < 0 := by omega
     have HC := hd (fun W b => szFinished_Y a0 a1 a4 a5 v2 v3 v6 x2 x3 x6 (k0 - (Vm Jk xs k : Int)) W (Jc Jq h2 b) (Jc Jb h3 b) (Jc Jv h6 b) hg hx2)
     go_wp2_with fail
     refine (HC.out _ (Eh _ _)).mono ?_
     rintro e w1 ⟨rfl, b1⟩
     have b2 := hbel.trans (b1.mono hbel.size)
     go_wp2
     go_roundw
     case rel => exact ⟨k + 1, by omega, by go_num, by rw [HST.out, HQ.out]; go_num, by rw [HST.out, HQ.out]; omega, b2⟩
     case measure => simp [intOf]; omega
    ·
     have hx1 : k0 - (Vm Jk xs k : Int) < ((zL Jl x2 + zL Jf x3 + zL Kb x6 : Nat) : Int) := by omega
     have hx0 : 0 ≤ k0 - (Vm Jk xs k : Int) := by omega
     have hx2 : k0 - (Vm Jk xs k : Int) ≤ 1048576 := by omega
     have HC := hd (fun W b => szFinished_N a0 a1 a4 a5 v2 v3 v6 x2 x3 x6 (k0 - (Vm Jk xs k : Int)) W (Jc Jq h2 b) (Jc Jb h3 b) (Jc Jv h6 b) hx1 hx2 hx0 o2 o3 o6)
     clear hg
     go_wp2_with fail
     refine (HC.out _ (Eh _ _)).mono ?_
     rintro e w1 ⟨rfl, b1⟩
     have b2 := hbel.trans (b1.mono hbel.size)
     go_wp2
     go_ret
     exact ⟨rfl, b2⟩
   ·
    obtain rfl : k = xs.length := by omega
    exact absurd HS.out (by show ¬ k0 < ((Vm Jk xs xs.length : Nat) : Int); omega)
theorem Tryz.info_Finished : (Tryz.prog.info? 136).map (fun i => (i.zero, i.size)) = some (some (.agg #[Ja, Ja, (), (), Ja, Ja, ()]), 7) := by kernel_rfl
theorem Tryz.bytes_Finished : ((Tryz.prog.info? 136).map (fun i => decide (i.bytes ≤ 512))) = some true := by kernel_rfl
theorem tFinished_zero (w : World) : Jk.O w (fun _ => False) #[.int .i64 0, .int .i64 0, .slice none 0 0, .slice none 0 0, .int .i64 0, .int .i64 0, .slice none 0 0].toList Jk.d := Xy (Vl _ _ _ (fun _ => False)) (Vl _ _ _ (fun _ => False)) (Vl _ _ _ (fun _ => False)) (fun b h => h) (fun b h => h) (fun b h => h) (fun b h _ => h) (fun b h _ => h) (fun b h _ => h)
set_option maxHeartbeats 8000000 in
theorem toFinishedS_S (v : Value) (xs : List ((Int × Int × List (Int × Int × Int) × List Int) × Int × Int × List (Int × List Int))) (w : World) (h : Kc Jk w v xs) (hs : zL Jk xs ≤ 1048576) :
  Calls Tryz.prog 45 #[v] w (Yi 136 Jk w xs) := by
 obtain ⟨i0, hi, hz0, hz1⟩ : ∃ i0, Tryz.prog.info? 136 = some i0 ∧ i0.zero = some (.agg #[Ja, Ja, (), (), Ja, Ja, ()]) ∧ i0.size = 7 := by
  have h0 := Tryz.info_Finished
  cases q : Tryz.prog.info? 136 with
  | none => rw [q] at h0; simp at h0
  | some i => rw [q] at h0; simp only [Option.map_some, Option.some.injEq, Prod.mk.injEq] at h0; exact ⟨i, rfl, h0.1, h0.2⟩
 have hz2 : i0.bytes ≤ 512 := by
  have h0 := Tryz.bytes_Finished
  rw [hi] at h0
  simpa using h0
 have HI := hd hi; have HZ0 := hd hz0; have HZ1 := hd hz1; have HZ2 := hd hz2
 clear hi hz0 hz1 hz2
 have H := hd h
 have hlen := Jz hs
 have HS := hd hs
 obtain ⟨a, cap, rfl⟩ := Jo h
 clear h hs
 go_enter Tryz.func45, Tryz.ntmps45
 go_wp2_with (at_make; refine wpList_make_full _ rfl (.tmp 6) (.tmp 6) 40 rfl w.heap.size 136 i0 (.agg #[Ja, Ja, (), (), Ja, Ja, ()]) 7 Tryz.underlying40 HI.out HZ0.out HZ1.out _ _ _ _ xs.length rfl rfl rfl rfl (by have h9 := Nat.mul_le_mul HZ2.out hlen; have h8 := Nat.mul_le_mul hlen HZ2.out; omega) (by unfold maxLen; omega) (Ed _) ?_)
 intro w1 hown0 hg0
 have hown1 : Kt 136 Jk w1 (Kg w) (.slice (some ⟨w, 0, none⟩) xs.length xs.length) (List.replicate xs.length Jk.d) := Yu (z := #[.int .i64 0, .int .i64 0, .slice none 0 0, .slice none 0 0, .int .i64 0, .int .i64 0, .slice none 0 0]) Jg rfl (tFinished_zero w1) (Ed _) hown0
 have hbel1 := (Eh w.heap.size w).grown hg0 (Ed _) (fun k hk => by cases hk)
 clear hown0 hg0
 go_wp2
 go_loopw [4] (fun i wr => ∃ k : Nat, k ≤ xs.length ∧ i = .int .i64 k ∧ Kt 136 Jk wr (Kg w) (.slice (some ⟨w, 0, none⟩) xs.length xs.length) (xs.take k ++ List.replicate (xs.length - k) Jk.d) ∧ Below w w wr) (fun i _ => xs.length - (intOf i).toNat)
 case atStart => exact ⟨0, Ef _, rfl, by simpa using hown1, hbel1⟩
 case round =>
  obtain ⟨k, hk, rfl, hown, hbel⟩ := hrel
  by_cases hlt : k < xs.length
  ·
   have HSET := hd (Yx (d := Jk.d) hlt)
   have HKL : Hid (k < (xs.take k ++ List.replicate (xs.length - k) Jk.d).length) := hd (by rw [Vc hk]; exact hlt)
   have HLL := hd (Vc (d := Jk.d) hk)
   have i1 : (0 : Int) ≤ (k : Int) := by omega
   have i2 : (k : Int) < (xs.length : Int) := by omega
   have hzx := Kz HS.out hlt
   obtain ⟨b, off, cap', cs, hv, hbl, hcs, hR⟩ := Km (Jc Jg H.out hbel) hlt
   simp only [Eg] at hv
   obtain ⟨rfl, _, rfl⟩ := hv
   obtain ⟨hme, hFg, hgl, cj, Fj, Lc, hrow, hLc, hO, hFj, hput⟩ := Vh Jg hown HKL.out
   clear hme
   clear hown1 hbel1
   generalize xs.getD k Jk.d = x at *
   generalize xs.take k ++ List.replicate (xs.length - k) Jk.d = ys at *
   obtain ⟨⟨a0, a1, x2, x3⟩, a4, a5, x6⟩ := x
   obtain ⟨v2, v3, v6, hR'⟩ := Xb hR
   obtain ⟨rfl, h2, h3, h6⟩ := hR'
   have p0 : wr.cell? ⟨b, off + k * 7, none⟩ = some (Value.int .i64 a0) := hcs 0 (by decide)
   have p1 : wr.cell? ⟨b, off + k * 7 + 1, none⟩ = some (Value.int .i64 a1) := hcs 1 (by decide)
   have p2 : wr.cell? ⟨b, off + k * 7 + 2, none⟩ = some (v2) := hcs 2 (by decide)
   have p3 : wr.cell? ⟨b, off + k * 7 + 3, none⟩ = some (v3) := hcs 3 (by decide)
   have p4 : wr.cell? ⟨b, off + k * 7 + 4, none⟩ = some (Value.int .i64 a4) := hcs 4 (by decide)
   have p5 : wr.cell? ⟨b, off + k * 7 + 5, none⟩ = some (Value.int .i64 a5) := hcs 5 (by decide)
   have p6 : wr.cell? ⟨b, off + k * 7 + 6, none⟩ = some (v6) := hcs 6 (by decide)
   rw [Vs] at hzx
   have S2 := hd (show zL Jl x2 ≤ 1048576 by omega)
   have S3 := hd (show zL Jf x3 ≤ 1048576 by omega)
   have S6 := hd (show zL Kb x6 ≤ 1048576 by omega)
   have HC := hd (fun w g2 g3 g6 => toFinished_T a0 a1 a4 a5 v2 v3 v6 x2 x3 x6 w g2 g3 g6 S2.out S3.out S6.out)
   have G2 := hd h2
   have G3 := hd h3
   have G6 := hd h6
   clear hcs hzx h2 h3 h6
   go_wp2_with fail
   refine (HC.out _ G2.out G3.out G6.out).mono ?_
   rintro e w2 ⟨cv, rfl, ow, b2⟩
   replace ow := Jg.lt ow
   have ow2 := ow
   obtain ⟨u2, u3, u6, K2, K3, K6, rfl, o2, o3, o6, _, _, _, _, _, _⟩ := tFinished_O ow2
   obtain ⟨ua2, uc2, rfl⟩ := Js o2
   obtain ⟨ua3, uc3, rfl⟩ := Js o3
   obtain ⟨ua6, uc6, rfl⟩ := Js o6
   clear o2 o3 o6
   have r0 := Kv (G := fun _ => False) hrow (Kj b2) (fun _ _ => not_false)
   rw [HLL.out] at r0
   have q0 : ∃ x, w2.cell? ⟨w, k * 7, none⟩ = some x := zq r0 (k * 7) (by have := HKL.out; rw [HLL.out] at this; show _ < xs.length * 7; omega)
   obtain ⟨y0, q0⟩ := q0
   have f0 := Uy r0 (k * 7)
   have q1 : ∃ x, w2.cell? ⟨w, k * 7 + 1, none⟩ = some x := zq r0 (k * 7 + 1) (by have := HKL.out; rw [HLL.out] at this; show _ < xs.length * 7; omega)
   obtain ⟨y1, q1⟩ := q1
   have f1 := Uy r0 (k * 7 + 1)
   have q2 : ∃ x, w2.cell? ⟨w, k * 7 + 2, none⟩ = some x := zq r0 (k * 7 + 2) (by have := HKL.out; rw [HLL.out] at this; show _ < xs.length * 7; omega)
   obtain ⟨y2, q2⟩ := q2
   have f2 := Uy r0 (k * 7 + 2)
   have q3 : ∃ x, w2.cell? ⟨w, k * 7 + 3, none⟩ = some x := zq r0 (k * 7 + 3) (by have := HKL.out; rw [HLL.out] at this; show _ < xs.length * 7; omega)
   obtain ⟨y3, q3⟩ := q3
   have f3 := Uy r0 (k * 7 + 3)
   have q4 : ∃ x, w2.cell? ⟨w, k * 7 + 4, none⟩ = some x := zq r0 (k * 7 + 4) (by have := HKL.out; rw [HLL.out] at this; show _ < xs.length * 7; omega)
   obtain ⟨y4, q4⟩ := q4
   have f4 := Uy r0 (k * 7 + 4)
   have q5 : ∃ x, w2.cell? ⟨w, k * 7 + 5, none⟩ = some x := zq r0 (k * 7 + 5) (by have := HKL.out; rw [HLL.out] at this; show _ < xs.length * 7; omega)
   obtain ⟨y5, q5⟩ := q5
   have f5 := Uy r0 (k * 7 + 5)
   have q6 : ∃ x, w2.cell? ⟨w, k * 7 + 6, none⟩ = some x := zq r0 (k * 7 + 6) (by have := HKL.out; rw [HLL.out] at this; show _ < xs.length * 7; omega)
   obtain ⟨y6, q6⟩ := q6
   have f6 := Uy r0 (k * 7 + 6)
   have b3 := hbel.trans (b2.mono hbel.size)
   have B3 := hd (((((((b3.setCell (p := ⟨w, k * 7, none⟩) (Ed _) a0).setCell (p := ⟨w, k * 7 + 1, none⟩) (Ed _) a1).setCell (p := ⟨w, k * 7 + 2, none⟩) (Ed _) (.slice ua2 x2.length uc2)).setCell (p := ⟨w, k * 7 + 3, none⟩) (Ed _) (.slice ua3 x3.length uc3)).setCell (p := ⟨w, k * 7 + 4, none⟩) (Ed _) a4).setCell (p := ⟨w, k * 7 + 5, none⟩) (Ed _) a5).setCell (p := ⟨w, k * 7 + 6, none⟩) (Ed _) (.slice ua6 x6.length uc6))
   have hT : Jy (fun b => b = w.heap.size ∨ Fj b ∨ wr.heap.size ≤ b) wr (((((((w2.setCell ⟨w, k * 7, none⟩ a0).setCell ⟨w, k * 7 + 1, none⟩ a1).setCell ⟨w, k * 7 + 2, none⟩ (.slice ua2 x2.length uc2)).setCell ⟨w, k * 7 + 3, none⟩ (.slice ua3 x3.length uc3)).setCell ⟨w, k * 7 + 4, none⟩ a4).setCell ⟨w, k * 7 + 5, none⟩ a5).setCell ⟨w, k * 7 + 6, none⟩ (.slice ua6 x6.length uc6)) := ((((((((Kj b2).trans (Jh (j := k * 7) (u := .int .i64 a0) (Or.inl rfl))).trans (Jh (j := k * 7 + 1) (u := .int .i64 a1) (Or.inl rfl))).trans (Jh (j := k * 7 + 2) (u := .slice ua2 x2.length uc2) (Or.inl rfl))).trans (Jh (j := k * 7 + 3) (u := .slice ua3 x3.length uc3) (Or.inl rfl))).trans (Jh (j := k * 7 + 4) (u := .int .i64 a4) (Or.inl rfl))).trans (Jh (j := k * 7 + 5) (u := .int .i64 a5) (Or.inl rfl))).trans (Jh (j := k * 7 + 6) (u := .slice ua6 x6.length uc6) (Or.inl rfl)))
   have hT2 : Jy (fun b => b = w.heap.size) w2 (((((((w2.setCell ⟨w, k * 7, none⟩ a0).setCell ⟨w, k * 7 + 1, none⟩ a1).setCell ⟨w, k * 7 + 2, none⟩ (.slice ua2 x2.length uc2)).setCell ⟨w, k * 7 + 3, none⟩ (.slice ua3 x3.length uc3)).setCell ⟨w, k * 7 + 4, none⟩ a4).setCell ⟨w, k * 7 + 5, none⟩ a5).setCell ⟨w, k * 7 + 6, none⟩ (.slice ua6 x6.length uc6)) := ((((((((Jy.refl (fun b => b = w.heap.size) _).trans (Jh (G := fun b => b = w.heap.size) (j := k * 7) (u := .int .i64 a0) rfl)).trans (Jh (G := fun b => b = w.heap.size) (j := k * 7 + 1) (u := .int .i64 a1) rfl)).trans (Jh (G := fun b => b = w.heap.size) (j := k * 7 + 2) (u := .slice ua2 x2.length uc2) rfl)).trans (Jh (G := fun b => b = w.heap.size) (j := k * 7 + 3) (u := .slice ua3 x3.length uc3) rfl)).trans (Jh (G := fun b => b = w.heap.size) (j := k * 7 + 4) (u := .int .i64 a4) rfl)).trans (Jh (G := fun b => b = w.heap.size) (j := k * 7 + 5) (u := .int .i64 a5) rfl)).trans (Jh (G := fun b => b = w.heap.size) (j := k * 7 + 6) (u := .slice ua6 x6.length uc6) rfl))
   have hO2 := Jg.turn ow hT2 (fun b h1 h2 => by have := h1.1; simp only [Kg] at this; omega)
   have r9 := (Uz (Uz (Uz (Uz (Uz (Uz (Uz r0 (k * 7) a0).1 (k * 7 + 1) a1).1 (k * 7 + 2) (.slice ua2 x2.length uc2)).1 (k * 7 + 3) (.slice ua3 x3.length uc3)).1 (k * 7 + 4) a4).1 (k * 7 + 5) a5).1 (k * 7 + 6) (.slice ua6 x6.length uc6)).1
   have hLl : Lc.length = xs.length * 7 := r0.1
   have hst := hd (hput (((((((w2.setCell ⟨w, k * 7, none⟩ a0).setCell ⟨w, k * 7 + 1, none⟩ a1).setCell ⟨w, k * 7 + 2, none⟩ (.slice ua2 x2.length uc2)).setCell ⟨w, k * 7 + 3, none⟩ (.slice ua3 x3.length uc3)).setCell ⟨w, k * 7 + 4, none⟩ a4).setCell ⟨w, k * 7 + 5, none⟩ a5).setCell ⟨w, k * 7 + 6, none⟩ (.slice ua6 x6.length uc6)) (((((((Lc.set (k * 7) a0).set (k * 7 + 1) a1).set (k * 7 + 2) (.slice ua2 x2.length uc2)).set (k * 7 + 3) (.slice ua3 x3.length uc3)).set (k * 7 + 4) a4).set (k * 7 + 5) a5).set (k * 7 + 6) (.slice ua6 x6.length uc6)) [a0, a1, .slice ua2 x2.length uc2, .slice ua3 x3.length uc3, a4, a5, .slice ua6 x6.length uc6] _ ((a0, a1, x2, x3), a4, a5, x6) (by rw [HLL.out]; exact r9) (fun p hp => by have hp2 : p < k * 7 ∨ k * 7 + 7 ≤ p := hp; rw [Ea (by omega)]; rw [Ea (by omega)]; rw [Ea (by omega)]; rw [Ea (by omega)]; rw [Ea (by omega)]; rw [Ea (by omega)]; rw [Ea (by omega)]) (fun i hi => by have hi' : i < 7 := hi; match i, hi' with | 0, _ => (show ((((((((Lc.set (k * 7) a0).set (k * 7 + 1) a1).set (k * 7 + 2) (.slice ua2 x2.length uc2)).set (k * 7 + 3) (.slice ua3 x3.length uc3)).set (k * 7 + 4) a4).set (k * 7 + 5) a5).set (k * 7 + 6) (.slice ua6 x6.length uc6)))[k * 7]? = _; rw [Ea (by omega)]; rw [Ea (by omega)]; rw [Ea (by omega)]; rw [Ea (by omega)]; rw [Ea (by omega)]; rw [Ea (by omega)]; rw [Eb (by first | omega | (simp only [List.length_set]; omega))]; rfl) | 1, _ => (show ((((((((Lc.set (k * 7) a0).set (k * 7 + 1) a1).set (k * 7 + 2) (.slice ua2 x2.length uc2)).set (k * 7 + 3) (.slice ua3 x3.length uc3)).set (k * 7 + 4) a4).set (k * 7 + 5) a5).set (k * 7 + 6) (.slice ua6 x6.length uc6)))[k * 7 + 1]? = _; rw [Ea (by omega)]; rw [Ea (by omega)]; rw [Ea (by omega)]; rw [Ea (by omega)]; rw [Ea (by omega)]; rw [Eb (by first | omega | (simp only [List.length_set]; omega))]; rfl) | 2, _ => (show ((((((((Lc.set (k * 7) a0).set (k * 7 + 1) a1).set (k * 7 + 2) (.slice ua2 x2.length uc2)).set (k * 7 + 3) (.slice ua3 x3.length uc3)).set (k * 7 + 4) a4).set (k * 7 + 5) a5).set (k * 7 + 6) (.slice ua6 x6.length uc6)))[k * 7 + 2]? = _; rw [Ea (by omega)]; rw [Ea (by omega)]; rw [Ea (by omega)]; rw [Ea (by omega)]; rw [Eb (by first | omega | (simp only [List.length_set]; omega))]; rfl) | 3, _ => (show ((((((((Lc.set (k * 7) a0).set (k * 7 + 1) a1).set (k * 7 + 2) (.slice ua2 x2.length uc2)).set (k * 7 + 3) (.slice ua3 x3.length uc3)).set (k * 7 + 4) a4).set (k * 7 + 5) a5).set (k * 7 + 6) (.slice ua6 x6.length uc6)))[k * 7 + 3]? = _; rw [Ea (by omega)]; rw [Ea (by omega)]; rw [Ea (by omega)]; rw [Eb (by first | omega | (simp only [List.length_set]; omega))]; rfl) | 4, _ => (show ((((((((Lc.set (k * 7) a0).set (k * 7 + 1) a1).set (k * 7 + 2) (.slice ua2 x2.length uc2)).set (k * 7 + 3) (.slice ua3 x3.length uc3)).set (k * 7 + 4) a4).set (k * 7 + 5) a5).set (k * 7 + 6) (.slice ua6 x6.length uc6)))[k * 7 + 4]? = _; rw [Ea (by omega)]; rw [Ea (by omega)]; rw [Eb (by first | omega | (simp only [List.length_set]; omega))]; rfl) | 5, _ => (show ((((((((Lc.set (k * 7) a0).set (k * 7 + 1) a1).set (k * 7 + 2) (.slice ua2 x2.length uc2)).set (k * 7 + 3) (.slice ua3 x3.length uc3)).set (k * 7 + 4) a4).set (k * 7 + 5) a5).set (k * 7 + 6) (.slice ua6 x6.length uc6)))[k * 7 + 5]? = _; rw [Ea (by omega)]; rw [Eb (by first | omega | (simp only [List.length_set]; omega))]; rfl) | 6, _ => (show ((((((((Lc.set (k * 7) a0).set (k * 7 + 1) a1).set (k * 7 + 2) (.slice ua2 x2.length uc2)).set (k * 7 + 3) (.slice ua3 x3.length uc3)).set (k * 7 + 4) a4).set (k * 7 + 5) a5).set (k * 7 + 6) (.slice ua6 x6.length uc6)))[k * 7 + 6]? = _; rw [Eb (by first | omega | (simp only [List.length_set]; omega))]; rfl)) hO2 (fun b hb => ⟨Nat.le_trans hbel.size hb.1, Or.inr hb.1⟩) hT)
   have hst2 : Kt 136 Jk (((((((w2.setCell ⟨w, k * 7, none⟩ a0).setCell ⟨w, k * 7 + 1, none⟩ a1).setCell ⟨w, k * 7 + 2, none⟩ (.slice ua2 x2.length uc2)).setCell ⟨w, k * 7 + 3, none⟩ (.slice ua3 x3.length uc3)).setCell ⟨w, k * 7 + 4, none⟩ a4).setCell ⟨w, k * 7 + 5, none⟩ a5).setCell ⟨w, k * 7 + 6, none⟩ (.slice ua6 x6.length uc6)) (Kg w) (.slice (some ⟨w, 0, none⟩) xs.length xs.length) (xs.take (k + 1) ++ List.replicate (xs.length - (k + 1)) Jk.d) := by have := hst.out; rw [HSET.out] at this; exact this
   have HST := hd hst2
   clear hst hst2 hT hT2 hO2 r9 r0 hrow hO hput hown hbel b2 ow b3 hLl hLc hFj
   go_wp2
   go_roundw
   case rel => exact ⟨k + 1, by omega, by go_num, HST.out, B3.out⟩
   case measure => simp [intOf]; omega
  ·
   obtain rfl : k = xs.length := by omega
   have HE : Hid (xs.take xs.length ++ List.replicate (xs.length - xs.length) Jk.d = xs) := hd (by simp)
   rw [HE.out] at hown
   go_wp2
   go_ret
   exact ⟨_, rfl, hown, hbel⟩
set_option maxHeartbeats 8000000 in
theorem eqFinishedS_S (v u : Value) (xs : List ((Int × Int × List (Int × Int × Int) × List Int) × Int × Int × List (Int × List Int))) (w : World) (h : Kc Jk w v xs) (g : Kc Jk w u xs) (hs : zL Jk xs ≤ 1048576) :
  Calls Tryz.prog 58 #[v, u] w fun e w' => e = .returned (.bool true) ∧ Below w w w' := by
 have H := hd h
 have G := hd g
 have HS := hd hs
 have hlen := Jz hs
 obtain ⟨a, cap, rfl⟩ := Jo h
 obtain ⟨a2, cap2, rfl⟩ := Jo g
 clear h g hs
 go_enter Tryz.func58, Tryz.ntmps58
 go_wp2
 go_loopw [5] (fun i wr => ∃ k : Nat, k ≤ xs.length ∧ i = .int .i64 k ∧ Below w w wr) (fun i _ => xs.length - (intOf i).toNat)
 case atStart => exact ⟨0, Ef _, rfl, Eh _ _⟩
 case round =>
  obtain ⟨k, hk, rfl, hbel⟩ := hrel
  by_cases hlt : k < xs.length
  ·
   obtain ⟨b, off, cap', cs, hv, hbl, hcs, hR⟩ := Km (Jc Jg H.out hbel) hlt
   simp only [Eg] at hv
   obtain ⟨rfl, _, rfl⟩ := hv
   obtain ⟨b2, off2, cap2', ds, hv2, hbl2, hds, hQ⟩ := Km (Jc Jg G.out hbel) hlt
   simp only [Eg] at hv2
   obtain ⟨rfl, _, rfl⟩ := hv2
   have hzx := Kz HS.out hlt
   have i1 : (0 : Int) ≤ (k : Int) := by omega
   have i2 : (k : Int) < (xs.length : Int) := by omega
   generalize xs.getD k Jk.d = x at *
   obtain ⟨⟨a0, a1, x2, x3⟩, a4, a5, x6⟩ := x
   obtain ⟨v2, v3, v6, hR'⟩ := Xb hR
   obtain ⟨rfl, h2, h3, h6⟩ := hR'
   obtain ⟨u2, u3, u6, hQ'⟩ := Xb hQ
   obtain ⟨rfl, g2, g3, g6⟩ := hQ'
   rw [Vs] at hzx
   have S2 := hd (show zL Jl x2 ≤ 1048576 by omega)
   have S3 := hd (show zL Jf x3 ≤ 1048576 by omega)
   have S6 := hd (show zL Kb x6 ≤ 1048576 by omega)
   have p0 : wr.cell? ⟨b, off + k * 7, none⟩ = some (Value.int .i64 a0) := hcs 0 (by decide)
   have q0 : wr.cell? ⟨b2, off2 + k * 7, none⟩ = some (Value.int .i64 a0) := hds 0 (by decide)
   have p1 : wr.cell? ⟨b, off + k * 7 + 1, none⟩ = some (Value.int .i64 a1) := hcs 1 (by decide)
   have q1 : wr.cell? ⟨b2, off2 + k * 7 + 1, none⟩ = some (Value.int .i64 a1) := hds 1 (by decide)
   have p2 : wr.cell? ⟨b, off + k * 7 + 2, none⟩ = some (v2) := hcs 2 (by decide)
   have q2 : wr.cell? ⟨b2, off2 + k * 7 + 2, none⟩ = some (u2) := hds 2 (by decide)
   have p3 : wr.cell? ⟨b, off + k * 7 + 3, none⟩ = some (v3) := hcs 3 (by decide)
   have q3 : wr.cell? ⟨b2, off2 + k * 7 + 3, none⟩ = some (u3) := hds 3 (by decide)
   have p4 : wr.cell? ⟨b, off + k * 7 + 4, none⟩ = some (Value.int .i64 a4) := hcs 4 (by decide)
   have q4 : wr.cell? ⟨b2, off2 + k * 7 + 4, none⟩ = some (Value.int .i64 a4) := hds 4 (by decide)
   have p5 : wr.cell? ⟨b, off + k * 7 + 5, none⟩ = some (Value.int .i64 a5) := hcs 5 (by decide)
   have q5 : wr.cell? ⟨b2, off2 + k * 7 + 5, none⟩ = some (Value.int .i64 a5) := hds 5 (by decide)
   have p6 : wr.cell? ⟨b, off + k * 7 + 6, none⟩ = some (v6) := hcs 6 (by decide)
   have q6 : wr.cell? ⟨b2, off2 + k * 7 + 6, none⟩ = some (u6) := hds 6 (by decide)
   clear hcs hds hzx
   go_wp2
   go_region_with (first | (go_at_call 123; refine (eqFinished_T a0 a1 a4 a5 v2 v3 v6 x2 x3 x6 u2 u3 u6 _ (by exact Kx Jq h2 rfl rfl rfl rfl) (by exact Kx Jb h3 rfl rfl rfl rfl) (by exact Kx Jv h6 rfl rfl rfl rfl) (by exact Kx Jq g2 rfl rfl rfl rfl) (by exact Kx Jb g3 rfl rfl rfl rfl) (by exact Kx Jv g6 rfl rfl rfl rfl) S2.out S3.out S6.out).mono ?_; rintro e w8 ⟨rfl, b9⟩; have b10 : Below wr wr w8 := ⟨b9.os, b9.tape, b9.output, b9.size, b9.block⟩))
   all_goals
    have b11 := hbel.trans (b10.mono hbel.size)
    go_wp2
    go_roundw
    case rel => exact ⟨k + 1, by omega, by go_num, b11⟩
    case measure => simp [intOf]; omega
  ·
   go_wp2
   go_ret
   exact ⟨rfl, hbel⟩
set_option maxHeartbeats 8000000 in
theorem markFinishedS_S (v : Value) (xs : List ((Int × Int × List (Int × Int × Int) × List Int) × Int × Int × List (Int × List Int))) (F : Nat → Prop) (k : Int) (w : World) (h : Kt 136 Jk w F v xs) (hs : zL Jk xs ≤ 1048576) (k0 : 0 ≤ k) (k1 : k ≤ 939524096) :
  Calls Tryz.prog 63 #[v, .int .i64 k] w fun e w' => e = .returned (.int .i64 (k + (Jt Jk xs : Int))) ∧ Kt 136 Jk w' F v (Vf Jk xs k) ∧ Jy F w w' := by
 rw [← Xp]
 have HS := hd hs
 have hlen := Jz hs
 rcases slO_form h with ⟨rfl, rfl⟩ | ⟨g, cap, rfl, hFg, hgw⟩
 ·
  have H := hd h
  clear h hs
  go_enter Tryz.func63, Tryz.ntmps63
  go_wp2
  go_loop [1, 5] (fun m i => i = .int .i64 0 ∧ m = .int .i64 k) (fun _ _ => 0)
  case atStart => exact ⟨rfl, rfl⟩
  case round =>
   obtain ⟨rfl, rfl⟩ := hrel
   go_wp2
   go_ret
   exact ⟨by simp [Uf, sumN], by rw [show Vf Jk [] k = [] from rfl]; exact H.out, Jy.refl _ _⟩
 ·
  have H := hd h
  clear h hs
  go_enter Tryz.func63, Tryz.ntmps63
  go_wp2
  go_loopw [1, 5] (fun m i wr => ∃ j : Nat, j ≤ xs.length ∧ i = .int .i64 j ∧ m = .int .i64 (Uf Jk xs k j) ∧ Kt 136 Jk wr (fun b => F b ∧ b < w.heap.size) (.slice (some ⟨g, 0, none⟩) xs.length cap) (mTo Jk xs k j) ∧ Jy F w wr) (fun _ i _ => xs.length - (intOf i).toNat)
  case atStart => exact ⟨0, Ef _, rfl, by rw [Yk], by rw [mTo_zero]; exact Ki Jg H.out, Jy.refl _ _⟩
  case round =>
   obtain ⟨j, hj, rfl, rfl, hown, hon⟩ := hrel
   by_cases hlt : j < xs.length
   ·
    have i1 : (0 : Int) ≤ (j : Int) := by omega
    have i2 : (j : Int) < (xs.length : Int) := by omega
    have hjl : j < (mTo Jk xs k j).length := by rw [Xo hj]; exact hlt
    have HLL := hd (Xo (T := Jk) (k := k) hj)
    obtain ⟨r1, r2⟩ := Kr Jg (by decide) (k := k) HS.out hj
    obtain ⟨r3, r4⟩ := Kr Jg (by decide) (k := k) (j := j + 1) HS.out (by omega)
    have hzx := Kz HS.out hlt
    have hstep := Yl (T := Jk) (k := k) hlt
    have hset := mTo_step (T := Jk) (k := k) hlt
    have hsz := hon.size
    obtain ⟨hme, hFg2, hgl, cj, Fj, Lc, hrow, hLc, hO, hFj, hput⟩ := Vh Jg hown hjl
    clear hme hFg2
    rw [mTo_at hlt] at hO
    have HM : Hid (∃ m', Uf Jk xs k (j + 1) = m') := hd ⟨_, rfl⟩
    obtain ⟨m', hm'⟩ := HM.out
    rw [hm'] at hstep r3 r4
    have HM' := hd hm'
    clear hm' HM H hown hjl
    generalize Uf Jk xs k j = m at *
    generalize xs.getD j Jk.d = x at *
    rw [HLL.out] at hrow hput
    obtain ⟨⟨a0, a1, x2, x3⟩, a4, a5, x6⟩ := x
    rw [tFinished_md] at hset
    rw [tFinished_nd] at hstep
    rw [Vs] at hzx
    obtain ⟨v2, v3, v6, K2, K3, K6, rfl, o2, o3, o6, q2, q3, q6, d2_3, d2_6, d3_6⟩ := tFinished_O hO
    have S2 := hd (show zL Jl x2 ≤ 1048576 by omega)
    have N2 := Ko Jq (by decide) x2
    have S3 := hd (show zL Jf x3 ≤ 1048576 by omega)
    have N3 := Ko Jb (by decide) x3
    have S6 := hd (show zL Kb x6 ≤ 1048576 by omega)
    have N6 := Ko Jv (by decide) x6
    have R2 : Hid (0 ≤ m + 1 + 1 ∧ m + 1 + 1 ≤ 1006632960) := hd (by omega)
    have R3 : Hid (0 ≤ m + 1 + 1 + (Jt Jl x2 : Int) ∧ m + 1 + 1 + (Jt Jl x2 : Int) ≤ 1073741824) := hd (by omega)
    have R6 : Hid (0 ≤ m + 1 + 1 + (Jt Jl x2 : Int) + (Jt Jf x3 : Int) + 1 + 1 ∧ m + 1 + 1 + (Jt Jl x2 : Int) + (Jt Jf x3 : Int) + 1 + 1 ≤ 1006632960) := hd (by omega)
    have hmx6 : m + 1 + 1 + (Jt Jl x2 : Int) + (Jt Jf x3 : Int) + 1 + 1 ≤ 1073741824 := by omega
    have hmm : m + 1 + 1 + (Jt Jl x2 : Int) + (Jt Jf x3 : Int) + 1 + 1 + (Jt Kb x6 : Int) = m' := by omega
    have HMM := hd hmm
    have hm0 : 0 ≤ m := by omega
    have hm1 : m ≤ 1073741824 := by omega
    clear hmm hstep hzx N2 N3 N6
    have hLl : Lc.length = xs.length * 7 := hrow.1
    have HSET := hd hset
    clear hset
    have tt : Jy (fun b => b = g ∨ Fj b ∨ wr.heap.size ≤ b) wr wr := Jy.refl _ _
    have rr := hrow
    have c0 : ∃ x, wr.cell? ⟨g, j * 7, none⟩ = some x := ⟨_, (World.ownsRow.cellAt rr (j * 7) (by show j * 7 < xs.length * 7; omega)).trans (Ec (by have h9 := rr.1; have h8 : xs.length * Jk.n = xs.length * 7 := rfl; omega))⟩
    obtain ⟨y0, c0⟩ := c0
    have f0 := Uy rr (j * 7)
    have c1 : ∃ x, wr.cell? ⟨g, j * 7 + 1, none⟩ = some x := ⟨_, (World.ownsRow.cellAt rr (j * 7 + 1) (by show j * 7 + 1 < xs.length * 7; omega)).trans (Ec (by have h9 := rr.1; have h8 : xs.length * Jk.n = xs.length * 7 := rfl; omega))⟩
    obtain ⟨y1, c1⟩ := c1
    have f1 := Uy rr (j * 7 + 1)
    have cv2 : wr.cell? ⟨g, j * 7 + 2, none⟩ = some v2 := (World.ownsRow.cellAt rr (j * 7 + 2) (by show j * 7 + 2 < xs.length * 7; omega)).trans (by exact hLc 2 (by decide))
    go_wp2_with fail
    clear c0 f0 c1 f1 cv2
    have ts : Jy (fun b => b = g) wr ((wr.setCell ⟨g, j * 7, none⟩ (.int .i64 (m))).setCell ⟨g, j * 7 + 1, none⟩ (.int .i64 (m + 1))) := (((Jy.refl (fun b => b = g) _).trans (Jh (G := fun b => b = g) (g := g) (j := j * 7) (u := .int .i64 (m)) rfl)).trans (Jh (G := fun b => b = g) (g := g) (j := j * 7 + 1) (u := .int .i64 (m + 1)) rfl))
    replace rr := (Uz (Uz rr (j * 7) (.int .i64 (m))).1 (j * 7 + 1) (.int .i64 (m + 1))).1
    replace o2 := Ju Jq o2 ts (fun b h1 h2 => (hFj b (q2 b h1)).2.1 h2)
    replace o3 := Ju Jb o3 ts (fun b h1 h2 => (hFj b (q3 b h1)).2.1 h2)
    replace o6 := Ju Jv o6 ts (fun b h1 h2 => (hFj b (q6 b h1)).2.1 h2)
    replace tt := tt.trans (ts.mono (fun b h => Or.inl h))
    clear ts
    generalize ((wr.setCell ⟨g, j * 7, none⟩ (.int .i64 (m))).setCell ⟨g, j * 7 + 1, none⟩ (.int .i64 (m + 1))) = W0 at *
    refine (markCondS_S v2 x2 _ (m + 1 + 1) W0 o2 S2.out R2.out.1 (by have := R2.out.2; omega)).mono ?_
    rintro e w1 ⟨rfl, m2, t1⟩
    replace rr := Kv rr t1 (fun b hb h => by simp [Value.ownBlock] at hb; exact (hFj b (q2 b h)).2.1 hb.symm)
    replace o2 := m2
    replace o3 := Ju Jb o3 t1 (fun b h1 h2 => d2_3 b h2 h1)
    replace o6 := Ju Jv o6 t1 (fun b h1 h2 => d2_6 b h2 h1)
    replace tt := tt.trans (t1.mono (fun b h => Or.inr (Or.inl (q2 b h))))
    clear t1
    have cv3 : w1.cell? ⟨g, j * 7 + 3, none⟩ = some v3 := (World.ownsRow.cellAt rr (j * 7 + 3) (by show j * 7 + 3 < xs.length * 7; omega)).trans (by rw [Ea (by omega)]; rw [Ea (by omega)]; exact hLc 3 (by decide))
    go_wp2_with fail
    clear cv3
    refine (Xf v3 x3 _ (m + 1 + 1 + (Jt Jl x2 : Int)) w1 o3 S3.out R3.out.1 (by have := R3.out.2; omega)).mono ?_
    rintro e w2 ⟨rfl, m3, t1⟩
    replace rr := Kv rr t1 (fun b hb h => by simp [Value.ownBlock] at hb; exact (hFj b (q3 b h)).2.1 hb.symm)
    replace o2 := Ju Jq o2 t1 (fun b h1 h2 => d2_3 b h1 h2)
    replace o3 := m3
    replace o6 := Ju Jv o6 t1 (fun b h1 h2 => d3_6 b h2 h1)
    replace tt := tt.trans (t1.mono (fun b h => Or.inr (Or.inl (q3 b h))))
    clear t1
    have c4 : ∃ x, w2.cell? ⟨g, j * 7 + 4, none⟩ = some x := ⟨_, (World.ownsRow.cellAt rr (j * 7 + 4) (by show j * 7 + 4 < xs.length * 7; omega)).trans (Ec (by have h9 := rr.1; have h8 : xs.length * Jk.n = xs.length * 7 := rfl; omega))⟩
    obtain ⟨y4, c4⟩ := c4
    have f4 := Uy rr (j * 7 + 4)
    have c5 : ∃ x, w2.cell? ⟨g, j * 7 + 5, none⟩ = some x := ⟨_, (World.ownsRow.cellAt rr (j * 7 + 5) (by show j * 7 + 5 < xs.length * 7; omega)).trans (Ec (by have h9 := rr.1; have h8 : xs.length * Jk.n = xs.length * 7 := rfl; omega))⟩
    obtain ⟨y5, c5⟩ := c5
    have f5 := Uy rr (j * 7 + 5)
    have cv6 : w2.cell? ⟨g, j * 7 + 6, none⟩ = some v6 := (World.ownsRow.cellAt rr (j * 7 + 6) (by show j * 7 + 6 < xs.length * 7; omega)).trans (by rw [Ea (by omega)]; rw [Ea (by omega)]; exact hLc 6 (by decide))
    go_wp2_with fail
    clear c4 f4 c5 f5 cv6
    have ts : Jy (fun b => b = g) w2 ((w2.setCell ⟨g, j * 7 + 4, none⟩ (.int .i64 (m + 1 + 1 + (Jt Jl x2 : Int) + (Jt Jf x3 : Int)))).setCell ⟨g, j * 7 + 5, none⟩ (.int .i64 (m + 1 + 1 + (Jt Jl x2 : Int) + (Jt Jf x3 : Int) + 1))) := (((Jy.refl (fun b => b = g) _).trans (Jh (G := fun b => b = g) (g := g) (j := j * 7 + 4) (u := .int .i64 (m + 1 + 1 + (Jt Jl x2 : Int) + (Jt Jf x3 : Int))) rfl)).trans (Jh (G := fun b => b = g) (g := g) (j := j * 7 + 5) (u := .int .i64 (m + 1 + 1 + (Jt Jl x2 : Int) + (Jt Jf x3 : Int) + 1)) rfl))
    replace rr := (Uz (Uz rr (j * 7 + 4) (.int .i64 (m + 1 + 1 + (Jt Jl x2 : Int) + (Jt Jf x3 : Int)))).1 (j * 7 + 5) (.int .i64 (m + 1 + 1 + (Jt Jl x2 : Int) + (Jt Jf x3 : Int) + 1))).1
    replace o2 := Ju Jq o2 ts (fun b h1 h2 => (hFj b (q2 b h1)).2.1 h2)
    replace o3 := Ju Jb o3 ts (fun b h1 h2 => (hFj b (q3 b h1)).2.1 h2)
    replace o6 := Ju Jv o6 ts (fun b h1 h2 => (hFj b (q6 b h1)).2.1 h2)
    replace tt := tt.trans (ts.mono (fun b h => Or.inl h))
    clear ts
    generalize ((w2.setCell ⟨g, j * 7 + 4, none⟩ (.int .i64 (m + 1 + 1 + (Jt Jl x2 : Int) + (Jt Jf x3 : Int)))).setCell ⟨g, j * 7 + 5, none⟩ (.int .i64 (m + 1 + 1 + (Jt Jl x2 : Int) + (Jt Jf x3 : Int) + 1))) = W2 at *
    refine (markRowS_S v6 x6 _ (m + 1 + 1 + (Jt Jl x2 : Int) + (Jt Jf x3 : Int) + 1 + 1) W2 o6 S6.out R6.out.1 (by have := R6.out.2; omega)).mono ?_
    rintro e w3 ⟨rfl, m6, t1⟩
    replace rr := Kv rr t1 (fun b hb h => by simp [Value.ownBlock] at hb; exact (hFj b (q6 b h)).2.1 hb.symm)
    replace o2 := Ju Jq o2 t1 (fun b h1 h2 => d2_6 b h1 h2)
    replace o3 := Ju Jb o3 t1 (fun b h1 h2 => d3_6 b h1 h2)
    replace o6 := m6
    replace tt := tt.trans (t1.mono (fun b h => Or.inr (Or.inl (q6 b h))))
    clear t1
    have hO2 := Xy (F := Fj) (a0 := m) (a1 := m + 1) (a4 := m + 1 + 1 + (Jt Jl x2 : Int) + (Jt Jf x3 : Int)) (a5 := m + 1 + 1 + (Jt Jl x2 : Int) + (Jt Jf x3 : Int) + 1) o2 o3 o6 q2 q3 q6 d2_3 d2_6 d3_6
    have hst := hput w3 ((((Lc.set (j * 7) (.int .i64 (m))).set (j * 7 + 1) (.int .i64 (m + 1))).set (j * 7 + 4) (.int .i64 (m + 1 + 1 + (Jt Jl x2 : Int) + (Jt Jf x3 : Int)))).set (j * 7 + 5) (.int .i64 (m + 1 + 1 + (Jt Jl x2 : Int) + (Jt Jf x3 : Int) + 1))) [.int .i64 (m), .int .i64 (m + 1), v2, v3, .int .i64 (m + 1 + 1 + (Jt Jl x2 : Int) + (Jt Jf x3 : Int)), .int .i64 (m + 1 + 1 + (Jt Jl x2 : Int) + (Jt Jf x3 : Int) + 1), v6] Fj _ rr (fun p hp => by have hp2 : p < j * 7 ∨ j * 7 + 7 ≤ p := hp; rw [Ea (by omega)]; rw [Ea (by omega)]; rw [Ea (by omega)]; rw [Ea (by omega)]) (fun i hi => by have hi' : i < 7 := hi; match i, hi' with | 0, _ => (show (((((Lc.set (j * 7) (.int .i64 (m))).set (j * 7 + 1) (.int .i64 (m + 1))).set (j * 7 + 4) (.int .i64 (m + 1 + 1 + (Jt Jl x2 : Int) + (Jt Jf x3 : Int)))).set (j * 7 + 5) (.int .i64 (m + 1 + 1 + (Jt Jl x2 : Int) + (Jt Jf x3 : Int) + 1))))[j * 7]? = _; rw [Ea (by omega)]; rw [Ea (by omega)]; rw [Ea (by omega)]; rw [Eb (by first | omega | (simp only [List.length_set]; omega))]; rfl) | 1, _ => (show (((((Lc.set (j * 7) (.int .i64 (m))).set (j * 7 + 1) (.int .i64 (m + 1))).set (j * 7 + 4) (.int .i64 (m + 1 + 1 + (Jt Jl x2 : Int) + (Jt Jf x3 : Int)))).set (j * 7 + 5) (.int .i64 (m + 1 + 1 + (Jt Jl x2 : Int) + (Jt Jf x3 : Int) + 1))))[j * 7 + 1]? = _; rw [Ea (by omega)]; rw [Ea (by omega)]; rw [Eb (by first | omega | (simp only [List.length_set]; omega))]; rfl) | 2, _ => (show (((((Lc.set (j * 7) (.int .i64 (m))).set (j * 7 + 1) (.int .i64 (m + 1))).set (j * 7 + 4) (.int .i64 (m + 1 + 1 + (Jt Jl x2 : Int) + (Jt Jf x3 : Int)))).set (j * 7 + 5) (.int .i64 (m + 1 + 1 + (Jt Jl x2 : Int) + (Jt Jf x3 : Int) + 1))))[j * 7 + 2]? = _; rw [Ea (by omega)]; rw [Ea (by omega)]; rw [Ea (by omega)]; rw [Ea (by omega)]; exact hLc 2 (by decide)) | 3, _ => (show (((((Lc.set (j * 7) (.int .i64 (m))).set (j * 7 + 1) (.int .i64 (m + 1))).set (j * 7 + 4) (.int .i64 (m + 1 + 1 + (Jt Jl x2 : Int) + (Jt Jf x3 : Int)))).set (j * 7 + 5) (.int .i64 (m + 1 + 1 + (Jt Jl x2 : Int) + (Jt Jf x3 : Int) + 1))))[j * 7 + 3]? = _; rw [Ea (by omega)]; rw [Ea (by omega)]; rw [Ea (by omega)]; rw [Ea (by omega)]; exact hLc 3 (by decide)) | 4, _ => (show (((((Lc.set (j * 7) (.int .i64 (m))).set (j * 7 + 1) (.int .i64 (m + 1))).set (j * 7 + 4) (.int .i64 (m + 1 + 1 + (Jt Jl x2 : Int) + (Jt Jf x3 : Int)))).set (j * 7 + 5) (.int .i64 (m + 1 + 1 + (Jt Jl x2 : Int) + (Jt Jf x3 : Int) + 1))))[j * 7 + 4]? = _; rw [Ea (by omega)]; rw [Eb (by first | omega | (simp only [List.length_set]; omega))]; rfl) | 5, _ => (show (((((Lc.set (j * 7) (.int .i64 (m))).set (j * 7 + 1) (.int .i64 (m + 1))).set (j * 7 + 4) (.int .i64 (m + 1 + 1 + (Jt Jl x2 : Int) + (Jt Jf x3 : Int)))).set (j * 7 + 5) (.int .i64 (m + 1 + 1 + (Jt Jl x2 : Int) + (Jt Jf x3 : Int) + 1))))[j * 7 + 5]? = _; rw [Eb (by first | omega | (simp only [List.length_set]; omega))]; rfl) | 6, _ => (show (((((Lc.set (j * 7) (.int .i64 (m))).set (j * 7 + 1) (.int .i64 (m + 1))).set (j * 7 + 4) (.int .i64 (m + 1 + 1 + (Jt Jl x2 : Int) + (Jt Jf x3 : Int)))).set (j * 7 + 5) (.int .i64 (m + 1 + 1 + (Jt Jl x2 : Int) + (Jt Jf x3 : Int) + 1))))[j * 7 + 6]? = _; rw [Ea (by omega)]; rw [Ea (by omega)]; rw [Ea (by omega)]; rw [Ea (by omega)]; exact hLc 6 (by decide))) hO2 (fun b hb => ⟨(hFj b hb).1, Or.inl hb⟩) tt
    rw [HSET.out] at hst
    have HST := hd hst
    have hon2 := hon.trans (Jy.mono (G := fun b => F b ∧ b < w.heap.size) (G' := F) ⟨tt.os, tt.tape, tt.output, tt.size, fun b hb hn => tt.block b hb (fun h => hn (h.elim (fun h => by rw [h]; exact ⟨hFg, hgw⟩) (fun h => h.elim (fun h => (hFj b h).1) (fun h => absurd hb (Nat.not_lt.2 h)))))⟩ (fun b h => h.1))
    clear hst hput tt rr hO2 hon hFj hLc hLl o2 o3 o6
    rw [HMM.out]
    go_wp2
    go_roundw
    case rel => exact ⟨j + 1, by omega, by go_num, by rw [HM'.out], HST.out, hon2⟩
    case measure => simp [intOf]; omega
   ·
    obtain rfl : j = xs.length := by omega
    rw [mTo_all] at hown
    go_wp2
    go_ret
    refine ⟨?_, Kk hown (fun b h => h.1), hon⟩
    simp
set_option maxHeartbeats 8000000 in
theorem heldFinishedS_S (v : Value) (xs : List ((Int × Int × List (Int × Int × Int) × List Int) × Int × Int × List (Int × List Int))) (k : Int) (w : World) (h : Kc Jk w v (Vf Jk xs k)) (hs : zL Jk xs ≤ 1048576) (k0 : 0 ≤ k) (k1 : k ≤ 939524096) :
  Calls Tryz.prog 69 #[v, .int .i64 k] w fun e w' => e = .returned (.int .i64 (k + (Jt Jk xs : Int))) ∧ w = w' := by
 rw [← Xp]
 have HS := hd hs
 have H := hd h
 have hlen := Jz hs
 obtain ⟨a, cap, rfl⟩ := Jo h
 rw [Ve] at H ⊢
 clear h hs
 go_enter Tryz.func69, Tryz.ntmps69
 go_wp2
 go_loop [1, 5] (fun m i => ∃ j : Nat, j ≤ xs.length ∧ i = .int .i64 j ∧ m = .int .i64 (Uf Jk xs k j)) (fun _ i => xs.length - (intOf i).toNat)
 case atStart => exact ⟨0, Ef _, rfl, by rw [Yk]⟩
 case round =>
  obtain ⟨j, hj, rfl, rfl⟩ := hrel
  by_cases hlt : j < xs.length
  ·
   have i1 : (0 : Int) ≤ (j : Int) := by omega
   have i2 : (j : Int) < (xs.length : Int) := by omega
   obtain ⟨r1, r2⟩ := Kr Jg (by decide) (k := k) HS.out hj
   obtain ⟨r3, r4⟩ := Kr Jg (by decide) (k := k) (j := j + 1) HS.out (by omega)
   have hzx := Kz HS.out hlt
   have hstep := Yl (T := Jk) (k := k) hlt
   obtain ⟨b, off, cap', cs, hv, hbl, hcs, hR⟩ := Km H.out (k := j) (by rw [Ve]; exact hlt)
   rw [Ve] at hv
   simp only [Eg] at hv
   obtain ⟨rfl, _, rfl⟩ := hv
   rw [mAll_at hlt] at hR
   have HM : Hid (∃ m', Uf Jk xs k (j + 1) = m') := hd ⟨_, rfl⟩
   obtain ⟨m', hm'⟩ := HM.out
   rw [hm'] at hstep r3 r4
   have HM' := hd hm'
   clear hm' HM H
   generalize Uf Jk xs k j = m at *
   generalize xs.getD j Jk.d = x at *
   obtain ⟨⟨a0, a1, x2, x3⟩, a4, a5, x6⟩ := x
   rw [tFinished_md] at hR
   obtain ⟨v2, v3, v6, hR'⟩ := Xb hR
   obtain ⟨rfl, h2, h3, h6⟩ := hR'
   rw [Vs] at hzx
   rw [tFinished_nd] at hstep
   have p0 : w.cell? ⟨b, off + j * 7, none⟩ = some (Value.int .i64 (m)) := hcs 0 (by decide)
   have p1 : w.cell? ⟨b, off + j * 7 + 1, none⟩ = some (Value.int .i64 (m + 1)) := hcs 1 (by decide)
   have p2 : w.cell? ⟨b, off + j * 7 + 2, none⟩ = some (v2) := hcs 2 (by decide)
   have p3 : w.cell? ⟨b, off + j * 7 + 3, none⟩ = some (v3) := hcs 3 (by decide)
   have p4 : w.cell? ⟨b, off + j * 7 + 4, none⟩ = some (Value.int .i64 (m + 1 + 1 + (Jt Jl x2 : Int) + (Jt Jf x3 : Int))) := hcs 4 (by decide)
   have p5 : w.cell? ⟨b, off + j * 7 + 5, none⟩ = some (Value.int .i64 (m + 1 + 1 + (Jt Jl x2 : Int) + (Jt Jf x3 : Int) + 1)) := hcs 5 (by decide)
   have p6 : w.cell? ⟨b, off + j * 7 + 6, none⟩ = some (v6) := hcs 6 (by decide)
   have S2 := hd (show zL Jl x2 ≤ 1048576 by omega)
   have N2 := Ko Jq (by decide) x2
   have S3 := hd (show zL Jf x3 ≤ 1048576 by omega)
   have N3 := Ko Jb (by decide) x3
   have S6 := hd (show zL Kb x6 ≤ 1048576 by omega)
   have N6 := Ko Jv (by decide) x6
   have R2 : Hid (0 ≤ m + 1 + 1 ∧ m + 1 + 1 ≤ 1006632960) := hd (by omega)
   have A2 := hd h2
   have R3 : Hid (0 ≤ m + 1 + 1 + (Jt Jl x2 : Int) ∧ m + 1 + 1 + (Jt Jl x2 : Int) ≤ 1073741824) := hd (by omega)
   have A3 := hd h3
   have R6 : Hid (0 ≤ m + 1 + 1 + (Jt Jl x2 : Int) + (Jt Jf x3 : Int) + 1 + 1 ∧ m + 1 + 1 + (Jt Jl x2 : Int) + (Jt Jf x3 : Int) + 1 + 1 ≤ 1006632960) := hd (by omega)
   have A6 := hd h6
   have ng2 : ¬ m + 1 + 1 + (Jt Jl x2 : Int) < 0 := by omega
   have ng3 : ¬ m + 1 + 1 + (Jt Jl x2 : Int) + (Jt Jf x3 : Int) < 0 := by omega
   have ng6 : ¬ m + 1 + 1 + (Jt Jl x2 : Int) + (Jt Jf x3 : Int) + 1 + 1 + (Jt Kb x6 : Int) < 0 := by omega
   have eq0 : ((m : Int) != m) = false := by simp
   have eq1 : ((m + 1 : Int) != m + 1) = false := by simp
   have eq4 : ((m + 1 + 1 + (Jt Jl x2 : Int) + (Jt Jf x3 : Int) : Int) != m + 1 + 1 + (Jt Jl x2 : Int) + (Jt Jf x3 : Int)) = false := by simp
   have eq5 : ((m + 1 + 1 + (Jt Jl x2 : Int) + (Jt Jf x3 : Int) + 1 : Int) != m + 1 + 1 + (Jt Jl x2 : Int) + (Jt Jf x3 : Int) + 1) = false := by simp
   have hmx6 : m + 1 + 1 + (Jt Jl x2 : Int) + (Jt Jf x3 : Int) + 1 + 1 ≤ 1073741824 := by omega
   have hmm : m + 1 + 1 + (Jt Jl x2 : Int) + (Jt Jf x3 : Int) + 1 + 1 + (Jt Kb x6 : Int) = m' := by omega
   have HMM := hd hmm
   have hm0 : 0 ≤ m := by omega
   have hm1 : m ≤ 1073741824 := by omega
   clear hmm hstep hcs hzx N2 h2 N3 h3 N6 h6
   go_wp2_with fail
   refine (heldCondS_S v2 x2 (m + 1 + 1) _ A2.out S2.out R2.out.1 (by have := R2.out.2; omega)).mono ?_
   rintro e w2 ⟨rfl, rfl⟩
   go_wp2_with fail
   refine (Xg v3 x3 (m + 1 + 1 + (Jt Jl x2 : Int)) _ A3.out S3.out R3.out.1 (by have := R3.out.2; omega)).mono ?_
   rintro e w2 ⟨rfl, rfl⟩
   go_wp2_with fail
   refine (heldRowS_S v6 x6 (m + 1 + 1 + (Jt Jl x2 : Int) + (Jt Jf x3 : Int) + 1 + 1) _ A6.out S6.out R6.out.1 (by have := R6.out.2; omega)).mono ?_
   rintro e w2 ⟨rfl, rfl⟩
   rw [HMM.out]
   clear ng6
   have hnn : ¬ m' < 0 := by omega
   go_wp2
   go_round
   case rel => exact ⟨j + 1, by omega, by go_num, by rw [HM'.out]⟩
   case measure => simp [intOf]; omega
  ·
   obtain rfl : j = xs.length := by omega
   go_wp2
   go_ret
   exact ⟨rfl, rfl⟩
end Go.Proofs.YtcolddalajoheaaGreatDoor
