/-
 Texts of the proof, merged: TCharge, TChargeS, TEngine.
-/
import Derived.Test.YtcolddalajoheaaGreatDoorSO1
import Derived.Test.YtcolddalajoheaaGreatDoorSO5
import Derived.BigQuiet
import Derived.Deep.QuietTactic
import Derived.Deep.RegionHeld3
namespace Go.Proofs.YtcolddalajoheaaGreatDoor
open Go.RowKit
open Go renaming frozen_of_row → Ut, cell_of_row → Uu, heap_setCell_same → Uv, heap_alloc_new → Uw
open Go.World renaming size_alloc → Ux
open Go.World.ownsRow renaming frozenAt → Uy, stored → Uz
open List renaming getElem?_set_ne → Ea, getElem?_set_self → Eb, getElem?_eq_getElem → Ec
open Nat renaming le_refl → Ed, lt_of_lt_of_le → Ee, zero_le → Ef
open Go.Value.slice renaming injEq → Eg
open Go.RowKit.Below renaming refl → Eh
open ZD0
set_option maxRecDepth 100000
set_option linter.unusedVariables false
set_option linter.unusedSimpArgs false
def Jp : Ty (Int × Int × List Int × List Int × List Int) := Vu Jf (Vu Jf (Vu Un (Vu Un Un)))
theorem Jj : Jp.Law := Kp Jb (Kp Jb (Kp tIntS_law (Kp tIntS_law tIntS_law)))
theorem Ug {w : World} {cs : List Value} {a0 : Int} {a1 : Int} {x2 : List Int} {x3 : List Int} {x4 : List Int} (h : Jp.R w cs (a0, a1, x2, x3, x4)) : ∃ v2 v3 v4, cs = [.int .i64 a0, .int .i64 a1, v2, v3, v4] ∧ Kc Jf w v2 x2 ∧ Kc Jf w v3 x3 ∧ Kc Jf w v4 x4 := by
 obtain ⟨_, _, rfl, rfl, ⟨_, _, rfl, rfl, ⟨_, _, rfl, ⟨v2, rfl, h2⟩, ⟨_, _, rfl, ⟨v3, rfl, h3⟩, ⟨v4, rfl, h4⟩⟩⟩⟩⟩ := h
 exact ⟨_, _, _, rfl, h2, h3, h4⟩
theorem Yn {a0 : Int} {a1 : Int} {x2 : List Int} {x3 : List Int} {x4 : List Int} : Jp.sz (a0, a1, x2, x3, x4) = zL Jf x2 + zL Jf x3 + zL Jf x4 := by
 simp only [Jp, Xi, Vo, Vn, Ub, Ye, Yd, tSl_sz, Xn, Xm]
 try omega
theorem tCharge_nd {a0 : Int} {a1 : Int} {x2 : List Int} {x3 : List Int} {x4 : List Int} : Jp.nd (a0, a1, x2, x3, x4) = 2 + Jt Jf x2 + Jt Jf x3 + Jt Jf x4 := by
 simp only [Jp, Xi, Vo, Vn, Ub, Ye, Yd, tSl_sz, Xn, Xm]
 try omega
theorem tCharge_md {a0 : Int} {a1 : Int} {x2 : List Int} {x3 : List Int} {x4 : List Int} {k : Int} : Jp.md (a0, a1, x2, x3, x4) k = ((k), (k + 1), Vf Jf x2 (k + 1 + 1), Vf Jf x3 (k + 1 + 1 + (Jt Jf x2 : Int)), Vf Jf x4 (k + 1 + 1 + (Jt Jf x2 : Int) + (Jt Jf x3 : Int))) := by
 simp only [Jp, tPair_md, tPair_mv, Vo, Vn, tInt_md, tInt_mv, Ye, Yd, tSl_md, tSl_mv, Xn, Xm, Int.natCast_add, Int.natCast_zero, Int.natCast_one, Int.add_zero, Int.zero_add, Int.add_assoc]
theorem tCharge_O {w : World} {F : Nat → Prop} {cs : List Value} {a0 : Int} {a1 : Int} {x2 : List Int} {x3 : List Int} {x4 : List Int} (h : Jp.O w F cs (a0, a1, x2, x3, x4)) : ∃ v2 v3 v4, ∃ F2 F3 F4 : Nat → Prop, cs = [.int .i64 a0, .int .i64 a1, v2, v3, v4] ∧ Kt 3 Jf w F2 v2 x2 ∧ Kt 3 Jf w F3 v3 x3 ∧ Kt 3 Jf w F4 v4 x4 ∧ (∀ b, F2 b → F b) ∧ (∀ b, F3 b → F b) ∧ (∀ b, F4 b → F b) ∧ (∀ b, F2 b → ¬ F3 b) ∧ (∀ b, F2 b → ¬ F4 b) ∧ (∀ b, F3 b → ¬ F4 b) := by
 obtain ⟨_, _, F0_1, F0_2, rfl, rfl, ⟨_, _, F1_1, F1_2, rfl, rfl, ⟨_, _, F2_1, F2_2, rfl, ⟨v2, rfl, h2⟩, ⟨_, _, F3_1, F3_2, rfl, ⟨v3, rfl, h3⟩, ⟨v4, rfl, h4⟩, s3_1, s3_2, d3⟩, s2_1, s2_2, d2⟩, s1_1, s1_2, d1⟩, s0_1, s0_2, d0⟩ := h
 exact ⟨v2, v3, v4, F2_1, F3_1, F3_2, rfl, h2, h3, h4, fun b h => (s0_2 b (s1_2 b (s2_1 b h))), fun b h => (s0_2 b (s1_2 b (s2_2 b (s3_1 b h)))), fun b h => (s0_2 b (s1_2 b (s2_2 b (s3_2 b h)))), fun b h h2 => d2 b h (s3_1 b h2), fun b h h2 => d2 b h (s3_2 b h2), fun b h h2 => d3 b h h2⟩
theorem tCharge_mkO {w : World} {F : Nat → Prop} {a0 : Int} {a1 : Int} {x2 : List Int} {x3 : List Int} {x4 : List Int} {v2 v3 v4 : Value} {F2 F3 F4 : Nat → Prop} (h2 : Kt 3 Jf w F2 v2 x2) (h3 : Kt 3 Jf w F3 v3 x3) (h4 : Kt 3 Jf w F4 v4 x4) (s2 : ∀ b, F2 b → F b) (s3 : ∀ b, F3 b → F b) (s4 : ∀ b, F4 b → F b) (d2_3 : ∀ b, F2 b → ¬ F3 b) (d2_4 : ∀ b, F2 b → ¬ F4 b) (d3_4 : ∀ b, F3 b → ¬ F4 b) : Jp.O w F [a0, a1, v2, v3, v4] (a0, a1, x2, x3, x4) := ⟨[a0], [a1, v2, v3, v4], fun _ => False, fun b => F2 b ∨ (F3 b ∨ (F4 b)), rfl, rfl, ⟨[a1], [v2, v3, v4], fun _ => False, fun b => F2 b ∨ (F3 b ∨ (F4 b)), rfl, rfl, ⟨[v2], [v3, v4], F2, fun b => F3 b ∨ (F4 b), rfl, ⟨_, rfl, h2⟩, ⟨[v3], [v4], F3, F4, rfl, ⟨_, rfl, h3⟩, ⟨_, rfl, h4⟩, (fun b h => (Or.inl h)), (fun b h => (Or.inr h)), (fun b h g => d3_4 b h g)⟩, (fun b h => (Or.inl h)), (fun b h => (h.elim (fun q0 => (Or.inr (Or.inl q0))) (fun q0 => (Or.inr (Or.inr q0))))), (fun b h g => (g.elim (fun q10 => d2_3 b h q10) (fun q10 => d2_4 b h q10)))⟩, (fun b h => (False.elim h)), (fun b h => (h.elim (fun q0 => (Or.inl q0)) (fun q0 => (q0.elim (fun q1 => (Or.inr (Or.inl q1))) (fun q1 => (Or.inr (Or.inr q1))))))), (fun b h g => (False.elim h))⟩, (fun b h => (False.elim h)), (fun b h => (h.elim (fun q0 => s2 b q0) (fun q0 => (q0.elim (fun q1 => s3 b q1) (fun q1 => s4 b q1))))), (fun b h g => (False.elim h))⟩
set_option maxHeartbeats 8000000 in
theorem szCharge_Y (a0 a1 : Int) (v2 v3 v4 : Value) (x2 : List Int) (x3 : List Int) (x4 : List Int) (k0 : Int) (w : World) (h2 : Kc Jf w v2 x2) (h3 : Kc Jf w v3 x3) (h4 : Kc Jf w v4 x4) (hs : ((zL Jf x2 + zL Jf x3 + zL Jf x4 : Nat) : Int) ≤ k0) (hk : k0 ≤ 1048576) :
  Calls Tryz.prog 85 #[.agg #[a0, a1, v2, v3, v4], .int .i64 k0] w fun e w' => e = .returned (.int .i64 (k0 - ((zL Jf x2 + zL Jf x3 + zL Jf x4 : Nat) : Int))) ∧ Below w w w' := by
 have H2 := hd h2
 have H3 := hd h3
 have H4 := hd h4
 clear h2 h3 h4
 have HZ2 : Hid (((zL Jf x2 : Nat) : Int) ≤ k0) := hd (by omega)
 have HK2 : Hid (k0 ≤ 1048576) := hd (by omega)
 have hn2 : ¬ k0 - ((zL Jf x2 : Nat) : Int) < 0 := by omega
 have HZ3 : Hid (((zL Jf x3 : Nat) : Int) ≤ k0 - ((zL Jf x2 : Nat) : Int)) := hd (by omega)
 have HK3 : Hid (k0 - ((zL Jf x2 : Nat) : Int) ≤ 1048576) := hd (by omega)
 have hn3 : ¬ k0 - ((zL Jf x2 : Nat) : Int) - ((zL Jf x3 : Nat) : Int) < 0 := by omega
 have HZ4 : Hid (((zL Jf x4 : Nat) : Int) ≤ k0 - ((zL Jf x2 : Nat) : Int) - ((zL Jf x3 : Nat) : Int)) := hd (by omega)
 have HK4 : Hid (k0 - ((zL Jf x2 : Nat) : Int) - ((zL Jf x3 : Nat) : Int) ≤ 1048576) := hd (by omega)
 have hn4 : ¬ k0 - ((zL Jf x2 : Nat) : Int) - ((zL Jf x3 : Nat) : Int) - ((zL Jf x4 : Nat) : Int) < 0 := by omega
 have HE : Hid (k0 - ((zL Jf x2 : Nat) : Int) - ((zL Jf x3 : Nat) : Int) - ((zL Jf x4 : Nat) : Int) = k0 - ((zL Jf x2 + zL Jf x3 + zL Jf x4 : Nat) : Int)) := hd (by omega)
 clear hs hk
 have hb : Below w w (w.alloc (.cells #[a0, a1, v2, v3, v4] 132)) := (Eh _ w).alloc (Ed _) _
 have g0 : (w.alloc (.cells #[a0, a1, v2, v3, v4] 132)).heap[w.heap.size]? = some (.cells #[a0, a1, v2, v3, v4] 132 (0, 0)) := Uw w _
 have hz0 : w.heap.size < (w.alloc (.cells #[a0, a1, v2, v3, v4] 132)).heap.size := by simp
 go_enter Tryz.func85, Tryz.ntmps85
 go_wp2_with fail
 generalize (w.alloc (.cells #[a0, a1, v2, v3, v4] 132)) = W at *
 refine (Yb v2 x2 (k0) W (Jc Jb H2.out hb) HZ2.out HK2.out).mono ?_
 rintro e W1 ⟨rfl, b1⟩
 replace g0 := (b1.block w.heap.size hz0).trans g0
 replace hz0 := Ee hz0 b1.size
 replace hb := hb.trans (b1.mono hb.size)
 clear b1
 have p3 := cr 3 (v3) g0
 go_wp2_with fail
 clear p3
 refine (Yb v3 x3 (k0 - ((zL Jf x2 : Nat) : Int)) W1 (Jc Jb H3.out hb) HZ3.out HK3.out).mono ?_
 rintro e W2 ⟨rfl, b1⟩
 replace g0 := (b1.block w.heap.size hz0).trans g0
 replace hz0 := Ee hz0 b1.size
 replace hb := hb.trans (b1.mono hb.size)
 clear b1
 have p4 := cr 4 (v4) g0
 go_wp2_with fail
 clear p4
 refine (Yb v4 x4 (k0 - ((zL Jf x2 : Nat) : Int) - ((zL Jf x3 : Nat) : Int)) W2 (Jc Jb H4.out hb) HZ4.out HK4.out).mono ?_
 rintro e W3 ⟨rfl, b1⟩
 replace g0 := (b1.block w.heap.size hz0).trans g0
 replace hz0 := Ee hz0 b1.size
 replace hb := hb.trans (b1.mono hb.size)
 clear b1
 go_wp2
 go_ret
 exact ⟨ty_ret HE.out, hb⟩
set_option maxHeartbeats 8000000 in
theorem szCharge_N (a0 a1 : Int) (v2 v3 v4 : Value) (x2 : List Int) (x3 : List Int) (x4 : List Int) (k0 : Int) (w : World) (h2 : Kc Jf w v2 x2) (h3 : Kc Jf w v3 x3) (h4 : Kc Jf w v4 x4) (hs : k0 < ((zL Jf x2 + zL Jf x3 + zL Jf x4 : Nat) : Int)) (hk : k0 ≤ 1048576) (hp : 0 ≤ k0) (o2 : Un.ok x2) (o3 : Un.ok x3) (o4 : Un.ok x4) :
  Calls Tryz.prog 85 #[.agg #[a0, a1, v2, v3, v4], .int .i64 k0] w fun e w' => e = .returned (.int .i64 (-1)) ∧ Below w w w' := by
 have H2 := hd h2
 have H3 := hd h3
 have H4 := hd h4
 clear h2 h3 h4
 have HO2 := hd o2
 have HO3 := hd o3
 have HO4 := hd o4
 clear o2 o3 o4
 by_cases c0 : k0 < ((zL Jf x2 : Nat) : Int)
 ·
  have HZ2 : Hid (k0 < ((zL Jf x2 : Nat) : Int)) := hd (by omega)
  have HP2 : Hid (0 ≤ k0) := hd (by omega)
  have HK2 : Hid (k0 ≤ 1048576) := hd (by omega)
  clear hs hk
  clear c0 hp
  have hb : Below w w (w.alloc (.cells #[a0, a1, v2, v3, v4] 132)) := (Eh _ w).alloc (Ed _) _
  have g0 : (w.alloc (.cells #[a0, a1, v2, v3, v4] 132)).heap[w.heap.size]? = some (.cells #[a0, a1, v2, v3, v4] 132 (0, 0)) := Uw w _
  have hz0 : w.heap.size < (w.alloc (.cells #[a0, a1, v2, v3, v4] 132)).heap.size := by simp
  go_enter Tryz.func85, Tryz.ntmps85
  go_wp2_with fail
  generalize (w.alloc (.cells #[a0, a1, v2, v3, v4] 132)) = W at *
  refine (szIntS_N v2 x2 (k0) W (Jc Jb H2.out hb) HZ2.out HK2.out HP2.out HO2.out).mono ?_
  rintro e W1 ⟨rfl, b1⟩
  replace g0 := (b1.block w.heap.size hz0).trans g0
  replace hz0 := Ee hz0 b1.size
  replace hb := hb.trans (b1.mono hb.size)
  clear b1
  go_wp2
  go_ret
  exact ⟨rfl, hb⟩
 ·
  by_cases c1 : k0 - ((zL Jf x2 : Nat) : Int) < ((zL Jf x3 : Nat) : Int)
  ·
   have HZ2 : Hid (((zL Jf x2 : Nat) : Int) ≤ k0) := hd (by omega)
   have hn2 : ¬ k0 - ((zL Jf x2 : Nat) : Int) < 0 := by omega
   have HK2 : Hid (k0 ≤ 1048576) := hd (by omega)
   have HZ3 : Hid (k0 - ((zL Jf x2 : Nat) : Int) < ((zL Jf x3 : Nat) : Int)) := hd (by omega)
   have HP3 : Hid (0 ≤ k0 - ((zL Jf x2 : Nat) : Int)) := hd (by omega)
   have HK3 : Hid (k0 - ((zL Jf x2 : Nat) : Int) ≤ 1048576) := hd (by omega)
   clear hs hk
   clear c1 hp c0
   have hb : Below w w (w.alloc (.cells #[a0, a1, v2, v3, v4] 132)) := (Eh _ w).alloc (Ed _) _
   have g0 : (w.alloc (.cells #[a0, a1, v2, v3, v4] 132)).heap[w.heap.size]? = some (.cells #[a0, a1, v2, v3, v4] 132 (0, 0)) := Uw w _
   have hz0 : w.heap.size < (w.alloc (.cells #[a0, a1, v2, v3, v4] 132)).heap.size := by simp
   go_enter Tryz.func85, Tryz.ntmps85
   go_wp2_with fail
   generalize (w.alloc (.cells #[a0, a1, v2, v3, v4] 132)) = W at *
   refine (Yb v2 x2 (k0) W (Jc Jb H2.out hb) HZ2.out HK2.out).mono ?_
   rintro e W1 ⟨rfl, b1⟩
   replace g0 := (b1.block w.heap.size hz0).trans g0
   replace hz0 := Ee hz0 b1.size
   replace hb := hb.trans (b1.mono hb.size)
   clear b1
   have p3 := cr 3 (v3) g0
   go_wp2_with fail
   clear p3
   refine (szIntS_N v3 x3 (k0 - ((zL Jf x2 : Nat) : Int)) W1 (Jc Jb H3.out hb) HZ3.out HK3.out HP3.out HO3.out).mono ?_
   rintro e W2 ⟨rfl, b1⟩
   replace g0 := (b1.block w.heap.size hz0).trans g0
   replace hz0 := Ee hz0 b1.size
   replace hb := hb.trans (b1.mono hb.size)
   clear b1
   go_wp2
   go_ret
   exact ⟨rfl, hb⟩
  ·
   have HZ2 : Hid (((zL Jf x2 : Nat) : Int) ≤ k0) := hd (by omega)
   have hn2 : ¬ k0 - ((zL Jf x2 : Nat) : Int) < 0 := by omega
   have HK2 : Hid (k0 ≤ 1048576) := hd (by omega)
   have HZ3 : Hid (((zL Jf x3 : Nat) : Int) ≤ k0 - ((zL Jf x2 : Nat) : Int)) := hd (by omega)
   have hn3 : ¬ k0 - ((zL Jf x2 : Nat) : Int) - ((zL Jf x3 : Nat) : Int) < 0 := by omega
   have HK3 : Hid (k0 - ((zL Jf x2 : Nat) : Int) ≤ 1048576) := hd (by omega)
   have HZ4 : Hid (k0 - ((zL Jf x2 : Nat) : Int) - ((zL Jf x3 : Nat) : Int) < ((zL Jf x4 : Nat) : Int)) := hd (by omega)
   have HP4 : Hid (0 ≤ k0 - ((zL Jf x2 : Nat) : Int) - ((zL Jf x3 : Nat) : Int)) := hd (by omega)
   have HK4 : Hid (k0 - ((zL Jf x2 : Nat) : Int) - ((zL Jf x3 : Nat) : Int) ≤ 1048576) := hd (by omega)
   clear hs hk
   clear hp c0 c1
   have hb : Below w w (w.alloc (.cells #[a0, a1, v2, v3, v4] 132)) := (Eh _ w).alloc (Ed _) _
   have g0 : (w.alloc (.cells #[a0, a1, v2, v3, v4] 132)).heap[w.heap.size]? = some (.cells #[a0, a1, v2, v3, v4] 132 (0, 0)) := Uw w _
   have hz0 : w.heap.size < (w.alloc (.cells #[a0, a1, v2, v3, v4] 132)).heap.size := by simp
   go_enter Tryz.func85, Tryz.ntmps85
   go_wp2_with fail
   generalize (w.alloc (.cells #[a0, a1, v2, v3, v4] 132)) = W at *
   refine (Yb v2 x2 (k0) W (Jc Jb H2.out hb) HZ2.out HK2.out).mono ?_
   rintro e W1 ⟨rfl, b1⟩
   replace g0 := (b1.block w.heap.size hz0).trans g0
   replace hz0 := Ee hz0 b1.size
   replace hb := hb.trans (b1.mono hb.size)
   clear b1
   have p3 := cr 3 (v3) g0
   go_wp2_with fail
   clear p3
   refine (Yb v3 x3 (k0 - ((zL Jf x2 : Nat) : Int)) W1 (Jc Jb H3.out hb) HZ3.out HK3.out).mono ?_
   rintro e W2 ⟨rfl, b1⟩
   replace g0 := (b1.block w.heap.size hz0).trans g0
   replace hz0 := Ee hz0 b1.size
   replace hb := hb.trans (b1.mono hb.size)
   clear b1
   have p4 := cr 4 (v4) g0
   go_wp2_with fail
   clear p4
   refine (szIntS_N v4 x4 (k0 - ((zL Jf x2 : Nat) : Int) - ((zL Jf x3 : Nat) : Int)) W2 (Jc Jb H4.out hb) HZ4.out HK4.out HP4.out HO4.out).mono ?_
   rintro e W3 ⟨rfl, b1⟩
   replace g0 := (b1.block w.heap.size hz0).trans g0
   replace hz0 := Ee hz0 b1.size
   replace hb := hb.trans (b1.mono hb.size)
   clear b1
   go_wp2
   go_ret
   exact ⟨rfl, hb⟩
set_option maxHeartbeats 8000000 in
theorem toCharge_T (a0 a1 : Int) (v2 v3 v4 : Value) (x2 : List Int) (x3 : List Int) (x4 : List Int) (w : World) (h2 : Kc Jf w v2 x2) (h3 : Kc Jf w v3 x3) (h4 : Kc Jf w v4 x4) (s2 : zL Jf x2 ≤ 1048576) (s3 : zL Jf x3 ≤ 1048576) (s4 : zL Jf x4 ≤ 1048576) :
  Calls Tryz.prog 98 #[.agg #[a0, a1, v2, v3, v4]] w (Yc Jp (fun cs => .agg cs.toArray) w (a0, a1, x2, x3, x4)) := by
 have H2 := hd h2
 have H3 := hd h3
 have H4 := hd h4
 clear h2 h3 h4
 have S2 := hd s2
 have S3 := hd s3
 have S4 := hd s4
 clear s2 s3 s4
 go_enter Tryz.func98, Tryz.ntmps98
 go_wp2_with fail
 have hb : Below w w (((w.alloc (.cells #[a0, a1, v2, v3, v4] 132)).alloc (.cells #[Ja, Ja, (), (), ()] 137)).alloc (.cells #[a0, a1, (), (), ()] 137)) := (((Eh _ w).alloc (Ed _) _).alloc (by simp) _).alloc (by simp; omega) _
 have g2 : (((w.alloc (.cells #[a0, a1, v2, v3, v4] 132)).alloc (.cells #[Ja, Ja, (), (), ()] 137)).alloc (.cells #[a0, a1, (), (), ()] 137)).heap[w.heap.size + 1 + 1]? = some (.cells #[a0, a1, (), (), ()] 137 (0, 0)) := by
  have := Uw ((w.alloc (.cells #[a0, a1, v2, v3, v4] 132)).alloc (.cells #[Ja, Ja, (), (), ()] 137)) (.cells #[a0, a1, (), (), ()] 137)
  simpa only [Ux] using this
 have g1 : (((w.alloc (.cells #[a0, a1, v2, v3, v4] 132)).alloc (.cells #[Ja, Ja, (), (), ()] 137)).alloc (.cells #[a0, a1, (), (), ()] 137)).heap[w.heap.size + 1]? = some (.cells #[Ja, Ja, (), (), ()] 137 (0, 0)) := by
  have := Uw (w.alloc (.cells #[a0, a1, v2, v3, v4] 132)) (.cells #[Ja, Ja, (), (), ()] 137)
  rw [Below.heap_alloc _ _ _ (by simp)]
  simpa only [Ux] using this
 have g0 : (((w.alloc (.cells #[a0, a1, v2, v3, v4] 132)).alloc (.cells #[Ja, Ja, (), (), ()] 137)).alloc (.cells #[a0, a1, (), (), ()] 137)).heap[w.heap.size]? = some (.cells #[a0, a1, v2, v3, v4] 132 (0, 0)) := by
  rw [Below.heap_alloc _ _ _ (by simp; omega), Below.heap_alloc _ _ _ (by simp)]
  exact Uw w _
 have hz : w.heap.size + 2 < (((w.alloc (.cells #[a0, a1, v2, v3, v4] 132)).alloc (.cells #[Ja, Ja, (), (), ()] 137)).alloc (.cells #[a0, a1, (), (), ()] 137)).heap.size := by simp [Ux]
 generalize (((w.alloc (.cells #[a0, a1, v2, v3, v4] 132)).alloc (.cells #[Ja, Ja, (), (), ()] 137)).alloc (.cells #[a0, a1, (), (), ()] 137)) = W at *
 refine (Xh v2 x2 W (Jc Jb H2.out hb) S2.out).mono ?_
 rintro e w1 ⟨u2, rfl, o2, b1⟩
 obtain ⟨ua2, uc2, rfl⟩ := Js o2
 replace o2 := Kk (Ki Jb o2) (F' := fun b => W.heap.size ≤ b ∧ b < w1.heap.size) (fun b h => h)
 replace g0 := (b1.block _ (by omega)).trans g0
 replace g1 := (b1.block _ (by omega)).trans g1
 replace g2 := (b1.block _ (by omega)).trans g2
 have zz1 := b1.size
 replace hb := hb.trans (b1.mono (by omega))
 clear b1
 have c2_0 := cr 0 a0 g2
 have f2_0 := Ut w1 _ 0 _ _ g2
 have c2_1 := cr 1 a1 g2
 have f2_1 := Ut w1 _ 1 _ _ g2
 have c2_2 := cr 2 () g2
 have f2_2 := Ut w1 _ 2 _ _ g2
 have ne1 : ¬ w.heap.size = w.heap.size + 1 + 1 := by omega
 have ne2 : ¬ w.heap.size + 1 = w.heap.size + 1 + 1 := by omega
 have ne3 : ¬ w.heap.size + 1 + 1 = w.heap.size + 1 := by omega
 have c0_3 := cr 3 (v3) g0
 have l0_3 : (w1.setCell ⟨w.heap.size + 1 + 1, 2, none⟩ (.slice ua2 x2.length uc2)).cell? ⟨w, 3, none⟩ = some (v3) := by
  have m : (w1.setCell ⟨w.heap.size + 1 + 1, 2, none⟩ (.slice ua2 x2.length uc2)).heap[w.heap.size]? = some (.cells #[a0, a1, v2, v3, v4] 132 (0, 0)) := by
   repeat rw [heap_setCell_other _ _ _ _ (by simp <;> omega)]
   exact g0
  exact (Uu _ _ 3 _ _ _ m).trans rfl
 go_wp2_with fail
 clear c2_0 f2_0 c2_1 f2_1 c2_2 f2_2 ne1 ne2 ne3 c0_3 l0_3
 have hw : Jy (fun b => b = w.heap.size + 1 + 1) w1 (w1.setCell ⟨w.heap.size + 1 + 1, 2, none⟩ (.slice ua2 x2.length uc2)) := by
  first | exact ((Jy.refl (fun b => b = w.heap.size + 1 + 1) _).trans (Jh (G := fun b => b = w.heap.size + 1 + 1) (g := w.heap.size + 1 + 1) (j := 2) (u := .slice ua2 x2.length uc2) rfl)) | skip
 replace g0 := (hw.block _ (by omega) (by omega)).trans g0
 replace g1 := (hw.block _ (by omega) (by omega)).trans g1
 have g2n := (Uv _ (w.heap.size + 1 + 1) 2 _ _ (.slice ua2 x2.length uc2) g2)
 replace g2 : (w1.setCell ⟨w.heap.size + 1 + 1, 2, none⟩ (.slice ua2 x2.length uc2)).heap[w.heap.size + 1 + 1]? = some (.cells #[a0, a1, .slice ua2 x2.length uc2, (), ()] 137 (0, 0)) := by simpa using g2n
 clear g2n
 replace o2 := Ju Jb o2 hw (fun b h1 h2 => by first | (have := h1.1; omega) | (have := q2 b h1; omega))
 replace hb := Jr hb hw (fun b h => by omega) (by omega)
 have hz0 := hw.size
 clear hw
 generalize (w1.setCell ⟨w.heap.size + 1 + 1, 2, none⟩ (.slice ua2 x2.length uc2)) = W1 at *
 refine (Xh v3 x3 W1 (Jc Jb H3.out hb) S3.out).mono ?_
 rintro e w2 ⟨u3, rfl, o3, b1⟩
 obtain ⟨ua3, uc3, rfl⟩ := Js o3
 replace o3 := Kk (Ki Jb o3) (F' := fun b => W1.heap.size ≤ b ∧ b < w2.heap.size) (fun b h => h)
 replace g0 := (b1.block _ (by omega)).trans g0
 replace g1 := (b1.block _ (by omega)).trans g1
 replace g2 := (b1.block _ (by omega)).trans g2
 replace o2 := Kq Jb o2 b1
 have zz2 := b1.size
 replace hb := hb.trans (b1.mono (by omega))
 clear b1
 have c2_0 := cr 0 a0 g2
 have f2_0 := Ut w2 _ 0 _ _ g2
 have c2_1 := cr 1 a1 g2
 have f2_1 := Ut w2 _ 1 _ _ g2
 have c2_2 := cr 2 (Value.slice ua2 x2.length uc2) g2
 have f2_2 := Ut w2 _ 2 _ _ g2
 have c2_3 := cr 3 () g2
 have f2_3 := Ut w2 _ 3 _ _ g2
 have ne1 : ¬ w.heap.size = w.heap.size + 1 + 1 := by omega
 have ne2 : ¬ w.heap.size + 1 = w.heap.size + 1 + 1 := by omega
 have ne3 : ¬ w.heap.size + 1 + 1 = w.heap.size + 1 := by omega
 have c0_4 := cr 4 (v4) g0
 have l0_4 : (w2.setCell ⟨w.heap.size + 1 + 1, 3, none⟩ (.slice ua3 x3.length uc3)).cell? ⟨w, 4, none⟩ = some (v4) := by
  have m : (w2.setCell ⟨w.heap.size + 1 + 1, 3, none⟩ (.slice ua3 x3.length uc3)).heap[w.heap.size]? = some (.cells #[a0, a1, v2, v3, v4] 132 (0, 0)) := by
   repeat rw [heap_setCell_other _ _ _ _ (by simp <;> omega)]
   exact g0
  exact (Uu _ _ 4 _ _ _ m).trans rfl
 go_wp2_with fail
 clear c2_0 f2_0 c2_1 f2_1 c2_2 f2_2 c2_3 f2_3 ne1 ne2 ne3 c0_4 l0_4
 have hw : Jy (fun b => b = w.heap.size + 1 + 1) w2 (w2.setCell ⟨w.heap.size + 1 + 1, 3, none⟩ (.slice ua3 x3.length uc3)) := by
  first | exact ((Jy.refl (fun b => b = w.heap.size + 1 + 1) _).trans (Jh (G := fun b => b = w.heap.size + 1 + 1) (g := w.heap.size + 1 + 1) (j := 3) (u := .slice ua3 x3.length uc3) rfl)) | skip
 replace g0 := (hw.block _ (by omega) (by omega)).trans g0
 replace g1 := (hw.block _ (by omega) (by omega)).trans g1
 have g2n := (Uv _ (w.heap.size + 1 + 1) 3 _ _ (.slice ua3 x3.length uc3) g2)
 replace g2 : (w2.setCell ⟨w.heap.size + 1 + 1, 3, none⟩ (.slice ua3 x3.length uc3)).heap[w.heap.size + 1 + 1]? = some (.cells #[a0, a1, .slice ua2 x2.length uc2, .slice ua3 x3.length uc3, ()] 137 (0, 0)) := by simpa using g2n
 clear g2n
 replace o2 := Ju Jb o2 hw (fun b h1 h2 => by first | (have := h1.1; omega) | (have := q2 b h1; omega))
 replace o3 := Ju Jb o3 hw (fun b h1 h2 => by first | (have := h1.1; omega) | (have := q3 b h1; omega))
 replace hb := Jr hb hw (fun b h => by omega) (by omega)
 have hz1 := hw.size
 clear hw
 generalize (w2.setCell ⟨w.heap.size + 1 + 1, 3, none⟩ (.slice ua3 x3.length uc3)) = W2 at *
 refine (Xh v4 x4 W2 (Jc Jb H4.out hb) S4.out).mono ?_
 rintro e w3 ⟨u4, rfl, o4, b1⟩
 obtain ⟨ua4, uc4, rfl⟩ := Js o4
 replace o4 := Kk (Ki Jb o4) (F' := fun b => W2.heap.size ≤ b ∧ b < w3.heap.size) (fun b h => h)
 replace g0 := (b1.block _ (by omega)).trans g0
 replace g1 := (b1.block _ (by omega)).trans g1
 replace g2 := (b1.block _ (by omega)).trans g2
 replace o2 := Kq Jb o2 b1
 replace o3 := Kq Jb o3 b1
 have zz3 := b1.size
 replace hb := hb.trans (b1.mono (by omega))
 clear b1
 have c2_0 := cr 0 a0 g2
 have f2_0 := Ut w3 _ 0 _ _ g2
 have c2_1 := cr 1 a1 g2
 have f2_1 := Ut w3 _ 1 _ _ g2
 have c2_2 := cr 2 (Value.slice ua2 x2.length uc2) g2
 have f2_2 := Ut w3 _ 2 _ _ g2
 have c2_3 := cr 3 (Value.slice ua3 x3.length uc3) g2
 have f2_3 := Ut w3 _ 3 _ _ g2
 have c2_4 := cr 4 () g2
 have f2_4 := Ut w3 _ 4 _ _ g2
 have ne1 : ¬ w.heap.size = w.heap.size + 1 + 1 := by omega
 have ne2 : ¬ w.heap.size + 1 = w.heap.size + 1 + 1 := by omega
 have ne3 : ¬ w.heap.size + 1 + 1 = w.heap.size + 1 := by omega
 have c1_0 := cr 0 Ja g1
 have f1_0 := Ut w3 _ 0 _ _ g1
 have c1_1 := cr 1 Ja g1
 have f1_1 := Ut w3 _ 1 _ _ g1
 have c1_2 := cr 2 () g1
 have f1_2 := Ut w3 _ 2 _ _ g1
 have c1_3 := cr 3 () g1
 have f1_3 := Ut w3 _ 3 _ _ g1
 have c1_4 := cr 4 () g1
 have f1_4 := Ut w3 _ 4 _ _ g1
 go_wp2
 clear c2_0 f2_0 c2_1 f2_1 c2_2 f2_2 c2_3 f2_3 c2_4 f2_4 ne1 ne2 ne3 c1_0 f1_0 c1_1 f1_1 c1_2 f1_2 c1_3 f1_3 c1_4 f1_4
 have hw : Jy (fun b => b = w.heap.size + 1 ∨ b = w.heap.size + 1 + 1) w3 ((((((w3.setCell ⟨w.heap.size + 1 + 1, 4, none⟩ (.slice ua4 x4.length uc4)).setCell ⟨w.heap.size + 1, 0, none⟩ a0).setCell ⟨w.heap.size + 1, 1, none⟩ a1).setCell ⟨w.heap.size + 1, 2, none⟩ (.slice ua2 x2.length uc2)).setCell ⟨w.heap.size + 1, 3, none⟩ (.slice ua3 x3.length uc3)).setCell ⟨w.heap.size + 1, 4, none⟩ (.slice ua4 x4.length uc4)) := by
  first | exact (((((((Jy.refl _ _).trans (Jh (g := w.heap.size + 1 + 1) (j := 4) (u := .slice ua4 x4.length uc4) (Or.inr rfl))).trans (Jh (g := w.heap.size + 1) (j := 0) (u := .int .i64 a0) (Or.inl rfl))).trans (Jh (g := w.heap.size + 1) (j := 1) (u := .int .i64 a1) (Or.inl rfl))).trans (Jh (g := w.heap.size + 1) (j := 2) (u := .slice ua2 x2.length uc2) (Or.inl rfl))).trans (Jh (g := w.heap.size + 1) (j := 3) (u := .slice ua3 x3.length uc3) (Or.inl rfl))).trans (Jh (g := w.heap.size + 1) (j := 4) (u := .slice ua4 x4.length uc4) (Or.inl rfl))) | skip
 have r := (Uv _ (w.heap.size + 1) 4 _ _ (.slice ua4 x4.length uc4) (Uv _ (w.heap.size + 1) 3 _ _ (.slice ua3 x3.length uc3) (Uv _ (w.heap.size + 1) 2 _ _ (.slice ua2 x2.length uc2) (Uv _ (w.heap.size + 1) 1 _ _ a1 (Uv _ (w.heap.size + 1) 0 _ _ a0 ((heap_setCell_other _ ⟨w.heap.size + 1 + 1, 4, none⟩ (w.heap.size + 1) (.slice ua4 x4.length uc4) (by simp)).trans g1))))))
 have e0 := Uu _ _ 0 _ _ _ r
 have e1 := Uu _ _ 1 _ _ _ r
 have e2 := Uu _ _ 2 _ _ _ r
 have e3 := Uu _ _ 3 _ _ _ r
 have e4 := Uu _ _ 4 _ _ _ r
 simp at e0 e1 e2 e3 e4
 replace o2 := Ju Jb o2 hw (fun b h1 h2 => by first | (have := h1.1; omega) | (have := q2 b h1; omega))
 replace o3 := Ju Jb o3 hw (fun b h1 h2 => by first | (have := h1.1; omega) | (have := q3 b h1; omega))
 replace o4 := Ju Jb o4 hw (fun b h1 h2 => by first | (have := h1.1; omega) | (have := q4 b h1; omega))
 replace hb := Jr hb hw (fun b h => by omega) (by omega)
 refine bodyPost_ret (v := .agg #[a0, a1, .slice ua2 x2.length uc2, .slice ua3 x3.length uc3, .slice ua4 x4.length uc4]) ?_ rfl ?_
 ·
  simp [results, Tryz.f98, go_sem, e0, e1, e2, e3, e4]
 ·
  exact ⟨[a0, a1, .slice ua2 x2.length uc2, .slice ua3 x3.length uc3, .slice ua4 x4.length uc4], rfl, tCharge_mkO o2 o3 o4 (fun b h => by show w.heap.size ≤ b; first | (have := h.1; omega) | (have := q2 b h; omega)) (fun b h => by show w.heap.size ≤ b; first | (have := h.1; omega) | (have := q3 b h; omega)) (fun b h => by show w.heap.size ≤ b; first | (have := h.1; omega) | (have := q4 b h; omega)) (fun b h1 h2 => by first | exact d2_3 b h1 h2 | (have := h1.1; have := h1.2; have := h2.1; have := h2.2; omega) | (have := q2 b h1; have := h2.1; have := h2.2; omega) | (have := h1.1; have := h1.2; have := q3 b h2; omega) | (have := q2 b h1; have := q3 b h2; omega)) (fun b h1 h2 => by first | exact d2_4 b h1 h2 | (have := h1.1; have := h1.2; have := h2.1; have := h2.2; omega) | (have := q2 b h1; have := h2.1; have := h2.2; omega) | (have := h1.1; have := h1.2; have := q4 b h2; omega) | (have := q2 b h1; have := q4 b h2; omega)) (fun b h1 h2 => by first | exact d3_4 b h1 h2 | (have := h1.1; have := h1.2; have := h2.1; have := h2.2; omega) | (have := q3 b h1; have := h2.1; have := h2.2; omega) | (have := h1.1; have := h1.2; have := q4 b h2; omega) | (have := q3 b h1; have := q4 b h2; omega)), hb⟩
set_option maxHeartbeats 8000000 in
theorem eqCharge_T (a0 a1 : Int) (v2 v3 v4 : Value) (x2 : List Int) (x3 : List Int) (x4 : List Int) (u2 u3 u4 : Value) (w : World) (h2 : Kc Jf w v2 x2) (h3 : Kc Jf w v3 x3) (h4 : Kc Jf w v4 x4) (g2 : Kc Jf w u2 x2) (g3 : Kc Jf w u3 x3) (g4 : Kc Jf w u4 x4) (s2 : zL Jf x2 ≤ 1048576) (s3 : zL Jf x3 ≤ 1048576) (s4 : zL Jf x4 ≤ 1048576) :
  Calls Tryz.prog 124 #[.agg #[a0, a1, v2, v3, v4], .agg #[a0, a1, u2, u3, u4]] w fun e w' => e = .returned (.bool true) ∧ Below w w w' := by
 have H2 := hd h2; have G2 := hd g2; have S2 := hd s2
 have H3 := hd h3; have G3 := hd g3; have S3 := hd s3
 have H4 := hd h4; have G4 := hd g4; have S4 := hd s4
 clear h2 g2 s2 h3 g3 s3 h4 g4 s4
 have e0 : (a0 != a0) = false := by simp
 have e1 : (a1 != a1) = false := by simp
 go_enter Tryz.func124, Tryz.ntmps124
 go_wp2_with fail
 have hb : Below w w ((w.alloc (.cells #[a0, a1, v2, v3, v4] 137)).alloc (.cells #[a0, a1, u2, u3, u4] 137)) := ((Eh _ w).alloc (Ed _) _).alloc (by simp) _
 have g1 : ((w.alloc (.cells #[a0, a1, v2, v3, v4] 137)).alloc (.cells #[a0, a1, u2, u3, u4] 137)).heap[w.heap.size + 1]? = some (.cells #[a0, a1, u2, u3, u4] 137 (0, 0)) := by
  have := Uw (w.alloc (.cells #[a0, a1, v2, v3, v4] 137)) (.cells #[a0, a1, u2, u3, u4] 137)
  simpa only [Ux] using this
 have g0 : ((w.alloc (.cells #[a0, a1, v2, v3, v4] 137)).alloc (.cells #[a0, a1, u2, u3, u4] 137)).heap[w.heap.size]? = some (.cells #[a0, a1, v2, v3, v4] 137 (0, 0)) := by
  rw [Below.heap_alloc _ _ _ (by simp)]
  exact Uw w _
 have hz : w.heap.size + 1 < ((w.alloc (.cells #[a0, a1, v2, v3, v4] 137)).alloc (.cells #[a0, a1, u2, u3, u4] 137)).heap.size := by simp [Ux]
 generalize ((w.alloc (.cells #[a0, a1, v2, v3, v4] 137)).alloc (.cells #[a0, a1, u2, u3, u4] 137)) = W at *
 refine (Ur v2 u2 x2 W (Jc Jb H2.out hb) (Jc Jb G2.out hb) S2.out).mono ?_
 rintro e w1 ⟨rfl, b1⟩
 replace g0 := (b1.block _ (by omega)).trans g0
 replace g1 := (b1.block _ (by omega)).trans g1
 have zz0 := b1.size
 replace hb := hb.trans (b1.mono (by omega))
 clear b1
 have p0_3 := cr 3 (v3) g0
 have p1_3 := cr 3 (u3) g1
 go_wp2_with fail
 clear p0_3 p1_3
 refine (Ur v3 u3 x3 w1 (Jc Jb H3.out hb) (Jc Jb G3.out hb) S3.out).mono ?_
 rintro e w2 ⟨rfl, b1⟩
 replace g0 := (b1.block _ (by omega)).trans g0
 replace g1 := (b1.block _ (by omega)).trans g1
 have zz1 := b1.size
 replace hb := hb.trans (b1.mono (by omega))
 clear b1
 have p0_4 := cr 4 (v4) g0
 have p1_4 := cr 4 (u4) g1
 go_wp2_with fail
 clear p0_4 p1_4
 refine (Ur v4 u4 x4 w2 (Jc Jb H4.out hb) (Jc Jb G4.out hb) S4.out).mono ?_
 rintro e w3 ⟨rfl, b1⟩
 replace g0 := (b1.block _ (by omega)).trans g0
 replace g1 := (b1.block _ (by omega)).trans g1
 have zz2 := b1.size
 replace hb := hb.trans (b1.mono (by omega))
 clear b1
 go_wp2
 go_ret
 exact ⟨rfl, hb⟩
abbrev tChargeS : Ty (List (Int × Int × List Int × List Int × List Int)) := tSl 137 Jp
theorem tChargeS_law : tChargeS.Law := tSl_law Jj (by decide)
set_option maxHeartbeats 8000000 in
theorem szChargeS_Y (v : Value) (xs : List (Int × Int × List Int × List Int × List Int)) (k0 : Int) (w : World) (h : Kc Jp w v xs) (hs : ((zL Jp xs : Nat) : Int) ≤ k0) (hk : k0 ≤ 1048576) :
  Calls Tryz.prog 35 #[v, .int .i64 k0] w fun e w' => e = .returned (.int .i64 (k0 - ((zL Jp xs : Nat) : Int))) ∧ Below w w w' := by
 have H := hd h
 obtain ⟨a, cap, rfl⟩ := Jo h
 clear h
 have h00 := Ul (T := Jp) (xs := xs) (Ef _)
 rw [Ky] at h00
 have HS := hd hs
 go_enter Tryz.func35, Tryz.ntmps35
 have hneg : ¬ k0 - (xs.length : Int) < 0 := by omega
 go_wp2
 clear hneg
 go_loopw [1, 5] (fun l i wr => ∃ k : Nat, k ≤ xs.length ∧ i = .int .i64 k ∧ l = .int .i64 (k0 - (Vm Jp xs k : Int)) ∧ Below w w wr) (fun _ i _ => xs.length - (intOf i).toNat)
 case atStart => exact ⟨0, Ef _, rfl, by rw [Ky], Eh _ _⟩
 case round =>
  obtain ⟨k, hk', rfl, rfl, hbel⟩ := hrel
  by_cases hlt : k < xs.length
  ·
   have HST := hd (Ys (T := Jp) hlt)
   have HLE := hd (Ul (T := Jp) (xs := xs) (k := k + 1) (by omega))
   have i1 : (0 : Int) ≤ (k : Int) := by omega
   have i2 : (k : Int) < (xs.length : Int) := by omega
   obtain ⟨b, off, cap', cs, hv, hbl, hcs, hR⟩ := Km (Jc Jj H.out hbel) hlt
   simp only [Eg] at hv
   obtain ⟨rfl, _, rfl⟩ := hv
   generalize xs.getD k Jp.d = x at *
   obtain ⟨a0, a1, x2, x3, x4⟩ := x
   obtain ⟨v2, v3, v4, hR'⟩ := Ug hR
   obtain ⟨rfl, h2, h3, h4⟩ := hR'
   have p0 : wr.cell? ⟨b, off + k * 5, none⟩ = some (Value.int .i64 a0) := hcs 0 (by decide)
   have p1 : wr.cell? ⟨b, off + k * 5 + 1, none⟩ = some (Value.int .i64 a1) := hcs 1 (by decide)
   have p2 : wr.cell? ⟨b, off + k * 5 + 2, none⟩ = some (v2) := hcs 2 (by decide)
   have p3 : wr.cell? ⟨b, off + k * 5 + 3, none⟩ = some (v3) := hcs 3 (by decide)
   have p4 : wr.cell? ⟨b, off + k * 5 + 4, none⟩ = some (v4) := hcs 4 (by decide)
   clear hcs
   have HQ : Hid (Jp.sz (a0, a1, x2, x3, x4) = zL Jf x2 + zL Jf x3 + zL Jf x4) := hd Yn
   have hx1 : ((zL Jf x2 + zL Jf x3 + zL Jf x4 : Nat) : Int) ≤ k0 - (Vm Jp xs k : Int) := by have := HST.out; have := HLE.out; have := HQ.out; omega
   have hx2 : k0 - (Vm Jp xs k : Int) ≤ 1048576 := by omega
   have hneg : ¬ k0 - (Vm Jp xs k : Int) - ((zL Jf x2 + zL Jf x3 + zL Jf x4 : Nat) : Int) < 0 := by omega
   have HC := hd (fun W b => szCharge_Y a0 a1 v2 v3 v4 x2 x3 x4 (k0 - (Vm Jp xs k : Int)) W (Jc Jb h2 b) (Jc Jb h3 b) (Jc Jb h4 b) hx1 hx2)
   go_wp2_with fail
   refine (HC.out _ (Eh _ _)).mono ?_
   rintro e w1 ⟨rfl, b1⟩
   have b2 := hbel.trans (b1.mono hbel.size)
   go_wp2
   go_roundw
   case rel => exact ⟨k + 1, by omega, by go_num, by rw [HST.out, HQ.out]; go_num, b2⟩
   case measure => simp [intOf]; omega
  ·
   obtain rfl : k = xs.length := by omega
   go_wp2
   go_ret
   exact ⟨rfl, hbel⟩
set_option maxHeartbeats 8000000 in
theorem szChargeS_N (v : Value) (xs : List (Int × Int × List Int × List Int × List Int)) (k0 : Int) (w : World) (h : Kc Jp w v xs) (hs : k0 < ((zL Jp xs : Nat) : Int)) (hk : k0 ≤ 1048576) (hp : 0 ≤ k0) (ho : tChargeS.ok xs) :
  Calls Tryz.prog 35 #[v, .int .i64 k0] w fun e w' => e = .returned (.int .i64 (-1)) ∧ Below w w w' := by
 have H := hd h
 have HX := hd ho.2
 have hn := ho.1
 have HS := hd hs
 obtain ⟨a, cap, rfl⟩ := Jo h
 clear h ho hs
 by_cases h1 : k0 < (xs.length : Int)
 ·
  have hneg : k0 - (xs.length : Int) < 0 := by omega
  go_enter Tryz.func35, Tryz.ntmps35
  go_wp2
  go_ret
  exact ⟨rfl, Eh _ _⟩
 ·
  go_enter Tryz.func35, Tryz.ntmps35
  have hneg : ¬ k0 - (xs.length : Int) < 0 := by omega
  go_wp2
  clear hneg
  go_loopw [1, 5] (fun l i wr => ∃ k : Nat, k ≤ xs.length ∧ i = .int .i64 k ∧ l = .int .i64 (k0 - (Vm Jp xs k : Int)) ∧ (Vm Jp xs k : Int) ≤ k0 ∧ Below w w wr) (fun _ i _ => xs.length - (intOf i).toNat)
  case atStart => exact ⟨0, Ef _, rfl, by rw [Ky], by rw [Ky]; omega, Eh _ _⟩
  case round =>
   obtain ⟨k, hk', rfl, rfl, hle, hbel⟩ := hrel
   by_cases hlt : k < xs.length
   ·
    have HST := hd (Ys (T := Jp) hlt)
    have hx := HX.out k hlt
    have i1 : (0 : Int) ≤ (k : Int) := by omega
    have i2 : (k : Int) < (xs.length : Int) := by omega
    obtain ⟨b, off, cap', cs, hv, hbl, hcs, hR⟩ := Km (Jc Jj H.out hbel) hlt
    simp only [Eg] at hv
    obtain ⟨rfl, _, rfl⟩ := hv
    generalize xs.getD k Jp.d = x at *
    obtain ⟨a0, a1, x2, x3, x4⟩ := x
    obtain ⟨v2, v3, v4, hR'⟩ := Ug hR
    obtain ⟨rfl, h2, h3, h4⟩ := hR'
    have p0 : wr.cell? ⟨b, off + k * 5, none⟩ = some (Value.int .i64 a0) := hcs 0 (by decide)
    have p1 : wr.cell? ⟨b, off + k * 5 + 1, none⟩ = some (Value.int .i64 a1) := hcs 1 (by decide)
    have p2 : wr.cell? ⟨b, off + k * 5 + 2, none⟩ = some (v2) := hcs 2 (by decide)
    have p3 : wr.cell? ⟨b, off + k * 5 + 3, none⟩ = some (v3) := hcs 3 (by decide)
    have p4 : wr.cell? ⟨b, off + k * 5 + 4, none⟩ = some (v4) := hcs 4 (by decide)
    clear hcs
    have HQ : Hid (Jp.sz (a0, a1, x2, x3, x4) = zL Jf x2 + zL Jf x3 + zL Jf x4) := hd Yn
    obtain ⟨_, ⟨_, ⟨o2, ⟨o3, o4⟩⟩⟩⟩ := hx
    have hz0 : (0 : Int) ≤ (Vm Jp xs k : Int) := by omega
    by_cases hg : ((zL Jf x2 + zL Jf x3 + zL Jf x4 : Nat) : Int) ≤ k0 - (Vm Jp xs k : Int)
    ·
     have hx2 : k0 - (Vm Jp xs k : Int) ≤ 1048576 := by omega
     have hneg : ¬ k0 - (Vm Jp xs k : Int) - ((zL Jf x2 + zL Jf x3 + zL Jf x4 : Nat) : Int) < 0 := by omega
     have HC := hd (fun W b => szCharge_Y a0 a1 v2 v3 v4 x2 x3 x4 (k0 - (Vm Jp xs k : Int)) W (Jc Jb h2 b) (Jc Jb h3 b) (Jc Jb h4 b) hg hx2)
     go_wp2_with fail
     refine (HC.out _ (Eh _ _)).mono ?_
     rintro e w1 ⟨rfl, b1⟩
     have b2 := hbel.trans (b1.mono hbel.size)
     go_wp2
     go_roundw
     case rel => exact ⟨k + 1, by omega, by go_num, by rw [HST.out, HQ.out]; go_num, by rw [HST.out, HQ.out]; omega, b2⟩
     case measure => simp [intOf]; omega
    ·
     have hx1 : k0 - (Vm Jp xs k : Int) < ((zL Jf x2 + zL Jf x3 + zL Jf x4 : Nat) : Int) := by omega
     have hx0 : 0 ≤ k0 - (Vm Jp xs k : Int) := by omega
     have hx2 : k0 - (Vm Jp xs k : Int) ≤ 1048576 := by omega
     have HC := hd (fun W b => szCharge_N a0 a1 v2 v3 v4 x2 x3 x4 (k0 - (Vm Jp xs k : Int)) W (Jc Jb h2 b) (Jc Jb h3 b) (Jc Jb h4 b) hx1 hx2 hx0 o2 o3 o4)
     clear hg
     go_wp2_with fail
     refine (HC.out _ (Eh _ _)).mono ?_
     rintro e w1 ⟨rfl, b1⟩
     have b2 := hbel.trans (b1.mono hbel.size)
     go_wp2
     go_ret
     exact ⟨rfl, b2⟩
   ·
    obtain rfl : k = xs.length := by omega
    exact absurd HS.out (by show ¬ k0 < ((Vm Jp xs xs.length : Nat) : Int); omega)
theorem Tryz.info_Charge : (Tryz.prog.info? 137).map (fun i => (i.zero, i.size)) = some (some (.agg #[Ja, Ja, (), (), ()]), 5) := by kernel_rfl
theorem Tryz.bytes_Charge : ((Tryz.prog.info? 137).map (fun i => decide (i.bytes ≤ 512))) = some true := by kernel_rfl
theorem tCharge_zero (w : World) : Jp.O w (fun _ => False) #[.int .i64 0, .int .i64 0, .slice none 0 0, .slice none 0 0, .slice none 0 0].toList Jp.d := tCharge_mkO (Vl _ _ _ (fun _ => False)) (Vl _ _ _ (fun _ => False)) (Vl _ _ _ (fun _ => False)) (fun b h => h) (fun b h => h) (fun b h => h) (fun b h _ => h) (fun b h _ => h) (fun b h _ => h)
set_option maxHeartbeats 8000000 in
theorem toChargeS_S (v : Value) (xs : List (Int × Int × List Int × List Int × List Int)) (w : World) (h : Kc Jp w v xs) (hs : zL Jp xs ≤ 1048576) :
  Calls Tryz.prog 46 #[v] w (Yi 137 Jp w xs) := by
 obtain ⟨i0, hi, hz0, hz1⟩ : ∃ i0, Tryz.prog.info? 137 = some i0 ∧ i0.zero = some (.agg #[Ja, Ja, (), (), ()]) ∧ i0.size = 5 := by
  have h0 := Tryz.info_Charge
  cases q : Tryz.prog.info? 137 with
  | none => rw [q] at h0; simp at h0
  | some i => rw [q] at h0; simp only [Option.map_some, Option.some.injEq, Prod.mk.injEq] at h0; exact ⟨i, rfl, h0.1, h0.2⟩
 have hz2 : i0.bytes ≤ 512 := by
  have h0 := Tryz.bytes_Charge
  rw [hi] at h0
  simpa using h0
 have HI := hd hi; have HZ0 := hd hz0; have HZ1 := hd hz1; have HZ2 := hd hz2
 clear hi hz0 hz1 hz2
 have H := hd h
 have hlen := Jz hs
 have HS := hd hs
 obtain ⟨a, cap, rfl⟩ := Jo h
 clear h hs
 go_enter Tryz.func46, Tryz.ntmps46
 go_wp2_with (at_make; refine wpList_make_full _ rfl (.tmp 6) (.tmp 6) 41 rfl w.heap.size 137 i0 (.agg #[Ja, Ja, (), (), ()]) 5 Tryz.underlying41 HI.out HZ0.out HZ1.out _ _ _ _ xs.length rfl rfl rfl rfl (by have h9 := Nat.mul_le_mul HZ2.out hlen; have h8 := Nat.mul_le_mul hlen HZ2.out; omega) (by unfold maxLen; omega) (Ed _) ?_)
 intro w1 hown0 hg0
 have hown1 : Kt 137 Jp w1 (Kg w) (.slice (some ⟨w, 0, none⟩) xs.length xs.length) (List.replicate xs.length Jp.d) := Yu (z := #[.int .i64 0, .int .i64 0, .slice none 0 0, .slice none 0 0, .slice none 0 0]) Jj rfl (tCharge_zero w1) (Ed _) hown0
 have hbel1 := (Eh w.heap.size w).grown hg0 (Ed _) (fun k hk => by cases hk)
 clear hown0 hg0
 go_wp2
 go_loopw [4] (fun i wr => ∃ k : Nat, k ≤ xs.length ∧ i = .int .i64 k ∧ Kt 137 Jp wr (Kg w) (.slice (some ⟨w, 0, none⟩) xs.length xs.length) (xs.take k ++ List.replicate (xs.length - k) Jp.d) ∧ Below w w wr) (fun i _ => xs.length - (intOf i).toNat)
 case atStart => exact ⟨0, Ef _, rfl, by simpa using hown1, hbel1⟩
 case round =>
  obtain ⟨k, hk, rfl, hown, hbel⟩ := hrel
  by_cases hlt : k < xs.length
  ·
   have HSET := hd (Yx (d := Jp.d) hlt)
   have HKL : Hid (k < (xs.take k ++ List.replicate (xs.length - k) Jp.d).length) := hd (by rw [Vc hk]; exact hlt)
   have HLL := hd (Vc (d := Jp.d) hk)
   have i1 : (0 : Int) ≤ (k : Int) := by omega
   have i2 : (k : Int) < (xs.length : Int) := by omega
   have hzx := Kz HS.out hlt
   obtain ⟨b, off, cap', cs, hv, hbl, hcs, hR⟩ := Km (Jc Jj H.out hbel) hlt
   simp only [Eg] at hv
   obtain ⟨rfl, _, rfl⟩ := hv
   obtain ⟨hme, hFg, hgl, cj, Fj, Lc, hrow, hLc, hO, hFj, hput⟩ := Vh Jj hown HKL.out
   clear hme
   clear hown1 hbel1
   generalize xs.getD k Jp.d = x at *
   generalize xs.take k ++ List.replicate (xs.length - k) Jp.d = ys at *
   obtain ⟨a0, a1, x2, x3, x4⟩ := x
   obtain ⟨v2, v3, v4, hR'⟩ := Ug hR
   obtain ⟨rfl, h2, h3, h4⟩ := hR'
   have p0 : wr.cell? ⟨b, off + k * 5, none⟩ = some (Value.int .i64 a0) := hcs 0 (by decide)
   have p1 : wr.cell? ⟨b, off + k * 5 + 1, none⟩ = some (Value.int .i64 a1) := hcs 1 (by decide)
   have p2 : wr.cell? ⟨b, off + k * 5 + 2, none⟩ = some (v2) := hcs 2 (by decide)
   have p3 : wr.cell? ⟨b, off + k * 5 + 3, none⟩ = some (v3) := hcs 3 (by decide)
   have p4 : wr.cell? ⟨b, off + k * 5 + 4, none⟩ = some (v4) := hcs 4 (by decide)
   rw [Yn] at hzx
   have S2 := hd (show zL Jf x2 ≤ 1048576 by omega)
   have S3 := hd (show zL Jf x3 ≤ 1048576 by omega)
   have S4 := hd (show zL Jf x4 ≤ 1048576 by omega)
   have HC := hd (fun w g2 g3 g4 => toCharge_T a0 a1 v2 v3 v4 x2 x3 x4 w g2 g3 g4 S2.out S3.out S4.out)
   have G2 := hd h2
   have G3 := hd h3
   have G4 := hd h4
   clear hcs hzx h2 h3 h4
   go_wp2_with fail
   refine (HC.out _ G2.out G3.out G4.out).mono ?_
   rintro e w2 ⟨cv, rfl, ow, b2⟩
   replace ow := Jj.lt ow
   have ow2 := ow
   obtain ⟨u2, u3, u4, K2, K3, K4, rfl, o2, o3, o4, _, _, _, _, _, _⟩ := tCharge_O ow2
   obtain ⟨ua2, uc2, rfl⟩ := Js o2
   obtain ⟨ua3, uc3, rfl⟩ := Js o3
   obtain ⟨ua4, uc4, rfl⟩ := Js o4
   clear o2 o3 o4
   have r0 := Kv (G := fun _ => False) hrow (Kj b2) (fun _ _ => not_false)
   rw [HLL.out] at r0
   have q0 : ∃ x, w2.cell? ⟨w, k * 5, none⟩ = some x := zq r0 (k * 5) (by have := HKL.out; rw [HLL.out] at this; show _ < xs.length * 5; omega)
   obtain ⟨y0, q0⟩ := q0
   have f0 := Uy r0 (k * 5)
   have q1 : ∃ x, w2.cell? ⟨w, k * 5 + 1, none⟩ = some x := zq r0 (k * 5 + 1) (by have := HKL.out; rw [HLL.out] at this; show _ < xs.length * 5; omega)
   obtain ⟨y1, q1⟩ := q1
   have f1 := Uy r0 (k * 5 + 1)
   have q2 : ∃ x, w2.cell? ⟨w, k * 5 + 2, none⟩ = some x := zq r0 (k * 5 + 2) (by have := HKL.out; rw [HLL.out] at this; show _ < xs.length * 5; omega)
   obtain ⟨y2, q2⟩ := q2
   have f2 := Uy r0 (k * 5 + 2)
   have q3 : ∃ x, w2.cell? ⟨w, k * 5 + 3, none⟩ = some x := zq r0 (k * 5 + 3) (by have := HKL.out; rw [HLL.out] at this; show _ < xs.length * 5; omega)
   obtain ⟨y3, q3⟩ := q3
   have f3 := Uy r0 (k * 5 + 3)
   have q4 : ∃ x, w2.cell? ⟨w, k * 5 + 4, none⟩ = some x := zq r0 (k * 5 + 4) (by have := HKL.out; rw [HLL.out] at this; show _ < xs.length * 5; omega)
   obtain ⟨y4, q4⟩ := q4
   have f4 := Uy r0 (k * 5 + 4)
   have b3 := hbel.trans (b2.mono hbel.size)
   have B3 := hd (((((b3.setCell (p := ⟨w, k * 5, none⟩) (Ed _) a0).setCell (p := ⟨w, k * 5 + 1, none⟩) (Ed _) a1).setCell (p := ⟨w, k * 5 + 2, none⟩) (Ed _) (.slice ua2 x2.length uc2)).setCell (p := ⟨w, k * 5 + 3, none⟩) (Ed _) (.slice ua3 x3.length uc3)).setCell (p := ⟨w, k * 5 + 4, none⟩) (Ed _) (.slice ua4 x4.length uc4))
   have hT : Jy (fun b => b = w.heap.size ∨ Fj b ∨ wr.heap.size ≤ b) wr (((((w2.setCell ⟨w, k * 5, none⟩ a0).setCell ⟨w, k * 5 + 1, none⟩ a1).setCell ⟨w, k * 5 + 2, none⟩ (.slice ua2 x2.length uc2)).setCell ⟨w, k * 5 + 3, none⟩ (.slice ua3 x3.length uc3)).setCell ⟨w, k * 5 + 4, none⟩ (.slice ua4 x4.length uc4)) := ((((((Kj b2).trans (Jh (j := k * 5) (u := .int .i64 a0) (Or.inl rfl))).trans (Jh (j := k * 5 + 1) (u := .int .i64 a1) (Or.inl rfl))).trans (Jh (j := k * 5 + 2) (u := .slice ua2 x2.length uc2) (Or.inl rfl))).trans (Jh (j := k * 5 + 3) (u := .slice ua3 x3.length uc3) (Or.inl rfl))).trans (Jh (j := k * 5 + 4) (u := .slice ua4 x4.length uc4) (Or.inl rfl)))
   have hT2 : Jy (fun b => b = w.heap.size) w2 (((((w2.setCell ⟨w, k * 5, none⟩ a0).setCell ⟨w, k * 5 + 1, none⟩ a1).setCell ⟨w, k * 5 + 2, none⟩ (.slice ua2 x2.length uc2)).setCell ⟨w, k * 5 + 3, none⟩ (.slice ua3 x3.length uc3)).setCell ⟨w, k * 5 + 4, none⟩ (.slice ua4 x4.length uc4)) := ((((((Jy.refl (fun b => b = w.heap.size) _).trans (Jh (G := fun b => b = w.heap.size) (j := k * 5) (u := .int .i64 a0) rfl)).trans (Jh (G := fun b => b = w.heap.size) (j := k * 5 + 1) (u := .int .i64 a1) rfl)).trans (Jh (G := fun b => b = w.heap.size) (j := k * 5 + 2) (u := .slice ua2 x2.length uc2) rfl)).trans (Jh (G := fun b => b = w.heap.size) (j := k * 5 + 3) (u := .slice ua3 x3.length uc3) rfl)).trans (Jh (G := fun b => b = w.heap.size) (j := k * 5 + 4) (u := .slice ua4 x4.length uc4) rfl))
   have hO2 := Jj.turn ow hT2 (fun b h1 h2 => by have := h1.1; simp only [Kg] at this; omega)
   have r9 := (Uz (Uz (Uz (Uz (Uz r0 (k * 5) a0).1 (k * 5 + 1) a1).1 (k * 5 + 2) (.slice ua2 x2.length uc2)).1 (k * 5 + 3) (.slice ua3 x3.length uc3)).1 (k * 5 + 4) (.slice ua4 x4.length uc4)).1
   have hLl : Lc.length = xs.length * 5 := r0.1
   have hst := hd (hput (((((w2.setCell ⟨w, k * 5, none⟩ a0).setCell ⟨w, k * 5 + 1, none⟩ a1).setCell ⟨w, k * 5 + 2, none⟩ (.slice ua2 x2.length uc2)).setCell ⟨w, k * 5 + 3, none⟩ (.slice ua3 x3.length uc3)).setCell ⟨w, k * 5 + 4, none⟩ (.slice ua4 x4.length uc4)) (((((Lc.set (k * 5) a0).set (k * 5 + 1) a1).set (k * 5 + 2) (.slice ua2 x2.length uc2)).set (k * 5 + 3) (.slice ua3 x3.length uc3)).set (k * 5 + 4) (.slice ua4 x4.length uc4)) [a0, a1, .slice ua2 x2.length uc2, .slice ua3 x3.length uc3, .slice ua4 x4.length uc4] _ (a0, a1, x2, x3, x4) (by rw [HLL.out]; exact r9) (fun p hp => by have hp2 : p < k * 5 ∨ k * 5 + 5 ≤ p := hp; rw [Ea (by omega)]; rw [Ea (by omega)]; rw [Ea (by omega)]; rw [Ea (by omega)]; rw [Ea (by omega)]) (fun i hi => by have hi' : i < 5 := hi; match i, hi' with | 0, _ => (show ((((((Lc.set (k * 5) a0).set (k * 5 + 1) a1).set (k * 5 + 2) (.slice ua2 x2.length uc2)).set (k * 5 + 3) (.slice ua3 x3.length uc3)).set (k * 5 + 4) (.slice ua4 x4.length uc4)))[k * 5]? = _; rw [Ea (by omega)]; rw [Ea (by omega)]; rw [Ea (by omega)]; rw [Ea (by omega)]; rw [Eb (by first | omega | (simp only [List.length_set]; omega))]; rfl) | 1, _ => (show ((((((Lc.set (k * 5) a0).set (k * 5 + 1) a1).set (k * 5 + 2) (.slice ua2 x2.length uc2)).set (k * 5 + 3) (.slice ua3 x3.length uc3)).set (k * 5 + 4) (.slice ua4 x4.length uc4)))[k * 5 + 1]? = _; rw [Ea (by omega)]; rw [Ea (by omega)]; rw [Ea (by omega)]; rw [Eb (by first | omega | (simp only [List.length_set]; omega))]; rfl) | 2, _ => (show ((((((Lc.set (k * 5) a0).set (k * 5 + 1) a1).set (k * 5 + 2) (.slice ua2 x2.length uc2)).set (k * 5 + 3) (.slice ua3 x3.length uc3)).set (k * 5 + 4) (.slice ua4 x4.length uc4)))[k * 5 + 2]? = _; rw [Ea (by omega)]; rw [Ea (by omega)]; rw [Eb (by first | omega | (simp only [List.length_set]; omega))]; rfl) | 3, _ => (show ((((((Lc.set (k * 5) a0).set (k * 5 + 1) a1).set (k * 5 + 2) (.slice ua2 x2.length uc2)).set (k * 5 + 3) (.slice ua3 x3.length uc3)).set (k * 5 + 4) (.slice ua4 x4.length uc4)))[k * 5 + 3]? = _; rw [Ea (by omega)]; rw [Eb (by first | omega | (simp only [List.length_set]; omega))]; rfl) | 4, _ => (show ((((((Lc.set (k * 5) a0).set (k * 5 + 1) a1).set (k * 5 + 2) (.slice ua2 x2.length uc2)).set (k * 5 + 3) (.slice ua3 x3.length uc3)).set (k * 5 + 4) (.slice ua4 x4.length uc4)))[k * 5 + 4]? = _; rw [Eb (by first | omega | (simp only [List.length_set]; omega))]; rfl)) hO2 (fun b hb => ⟨Nat.le_trans hbel.size hb.1, Or.inr hb.1⟩) hT)
   have hst2 : Kt 137 Jp (((((w2.setCell ⟨w, k * 5, none⟩ a0).setCell ⟨w, k * 5 + 1, none⟩ a1).setCell ⟨w, k * 5 + 2, none⟩ (.slice ua2 x2.length uc2)).setCell ⟨w, k * 5 + 3, none⟩ (.slice ua3 x3.length uc3)).setCell ⟨w, k * 5 + 4, none⟩ (.slice ua4 x4.length uc4)) (Kg w) (.slice (some ⟨w, 0, none⟩) xs.length xs.length) (xs.take (k + 1) ++ List.replicate (xs.length - (k + 1)) Jp.d) := by have := hst.out; rw [HSET.out] at this; exact this
   have HST := hd hst2
   clear hst hst2 hT hT2 hO2 r9 r0 hrow hO hput hown hbel b2 ow b3 hLl hLc hFj
   go_wp2
   go_roundw
   case rel => exact ⟨k + 1, by omega, by go_num, HST.out, B3.out⟩
   case measure => simp [intOf]; omega
  ·
   obtain rfl : k = xs.length := by omega
   have HE : Hid (xs.take xs.length ++ List.replicate (xs.length - xs.length) Jp.d = xs) := hd (by simp)
   rw [HE.out] at hown
   go_wp2
   go_ret
   exact ⟨_, rfl, hown, hbel⟩
set_option maxHeartbeats 8000000 in
theorem eqChargeS_S (v u : Value) (xs : List (Int × Int × List Int × List Int × List Int)) (w : World) (h : Kc Jp w v xs) (g : Kc Jp w u xs) (hs : zL Jp xs ≤ 1048576) :
  Calls Tryz.prog 59 #[v, u] w fun e w' => e = .returned (.bool true) ∧ Below w w w' := by
 have H := hd h
 have G := hd g
 have HS := hd hs
 have hlen := Jz hs
 obtain ⟨a, cap, rfl⟩ := Jo h
 obtain ⟨a2, cap2, rfl⟩ := Jo g
 clear h g hs
 go_enter Tryz.func59, Tryz.ntmps59
 go_wp2
 go_loopw [5] (fun i wr => ∃ k : Nat, k ≤ xs.length ∧ i = .int .i64 k ∧ Below w w wr) (fun i _ => xs.length - (intOf i).toNat)
 case atStart => exact ⟨0, Ef _, rfl, Eh _ _⟩
 case round =>
  obtain ⟨k, hk, rfl, hbel⟩ := hrel
  by_cases hlt : k < xs.length
  ·
   obtain ⟨b, off, cap', cs, hv, hbl, hcs, hR⟩ := Km (Jc Jj H.out hbel) hlt
   simp only [Eg] at hv
   obtain ⟨rfl, _, rfl⟩ := hv
   obtain ⟨b2, off2, cap2', ds, hv2, hbl2, hds, hQ⟩ := Km (Jc Jj G.out hbel) hlt
   simp only [Eg] at hv2
   obtain ⟨rfl, _, rfl⟩ := hv2
   have hzx := Kz HS.out hlt
   have i1 : (0 : Int) ≤ (k : Int) := by omega
   have i2 : (k : Int) < (xs.length : Int) := by omega
   generalize xs.getD k Jp.d = x at *
   obtain ⟨a0, a1, x2, x3, x4⟩ := x
   obtain ⟨v2, v3, v4, hR'⟩ := Ug hR
   obtain ⟨rfl, h2, h3, h4⟩ := hR'
   obtain ⟨u2, u3, u4, hQ'⟩ := Ug hQ
   obtain ⟨rfl, g2, g3, g4⟩ := hQ'
   rw [Yn] at hzx
   have S2 := hd (show zL Jf x2 ≤ 1048576 by omega)
   have S3 := hd (show zL Jf x3 ≤ 1048576 by omega)
   have S4 := hd (show zL Jf x4 ≤ 1048576 by omega)
   have p0 : wr.cell? ⟨b, off + k * 5, none⟩ = some (Value.int .i64 a0) := hcs 0 (by decide)
   have q0 : wr.cell? ⟨b2, off2 + k * 5, none⟩ = some (Value.int .i64 a0) := hds 0 (by decide)
   have p1 : wr.cell? ⟨b, off + k * 5 + 1, none⟩ = some (Value.int .i64 a1) := hcs 1 (by decide)
   have q1 : wr.cell? ⟨b2, off2 + k * 5 + 1, none⟩ = some (Value.int .i64 a1) := hds 1 (by decide)
   have p2 : wr.cell? ⟨b, off + k * 5 + 2, none⟩ = some (v2) := hcs 2 (by decide)
   have q2 : wr.cell? ⟨b2, off2 + k * 5 + 2, none⟩ = some (u2) := hds 2 (by decide)
   have p3 : wr.cell? ⟨b, off + k * 5 + 3, none⟩ = some (v3) := hcs 3 (by decide)
   have q3 : wr.cell? ⟨b2, off2 + k * 5 + 3, none⟩ = some (u3) := hds 3 (by decide)
   have p4 : wr.cell? ⟨b, off + k * 5 + 4, none⟩ = some (v4) := hcs 4 (by decide)
   have q4 : wr.cell? ⟨b2, off2 + k * 5 + 4, none⟩ = some (u4) := hds 4 (by decide)
   clear hcs hds hzx
   go_wp2
   go_region_with (first | (go_at_call 124; refine (eqCharge_T a0 a1 v2 v3 v4 x2 x3 x4 u2 u3 u4 _ (by exact Kx Jb h2 rfl rfl rfl rfl) (by exact Kx Jb h3 rfl rfl rfl rfl) (by exact Kx Jb h4 rfl rfl rfl rfl) (by exact Kx Jb g2 rfl rfl rfl rfl) (by exact Kx Jb g3 rfl rfl rfl rfl) (by exact Kx Jb g4 rfl rfl rfl rfl) S2.out S3.out S4.out).mono ?_; rintro e w8 ⟨rfl, b9⟩; have b10 : Below wr wr w8 := ⟨b9.os, b9.tape, b9.output, b9.size, b9.block⟩))
   all_goals
    have b11 := hbel.trans (b10.mono hbel.size)
    go_wp2
    go_roundw
    case rel => exact ⟨k + 1, by omega, by go_num, b11⟩
    case measure => simp [intOf]; omega
  ·
   go_wp2
   go_ret
   exact ⟨rfl, hbel⟩
set_option maxHeartbeats 8000000 in
theorem markChargeS_S (v : Value) (xs : List (Int × Int × List Int × List Int × List Int)) (F : Nat → Prop) (k : Int) (w : World) (h : Kt 137 Jp w F v xs) (hs : zL Jp xs ≤ 1048576) (k0 : 0 ≤ k) (k1 : k ≤ 1006632960) :
  Calls Tryz.prog 64 #[v, .int .i64 k] w fun e w' => e = .returned (.int .i64 (k + (Jt Jp xs : Int))) ∧ Kt 137 Jp w' F v (Vf Jp xs k) ∧ Jy F w w' := by
 rw [← Xp]
 have HS := hd hs
 have hlen := Jz hs
 rcases slO_form h with ⟨rfl, rfl⟩ | ⟨g, cap, rfl, hFg, hgw⟩
 ·
  have H := hd h
  clear h hs
  go_enter Tryz.func64, Tryz.ntmps64
  go_wp2
  go_loop [1, 5] (fun m i => i = .int .i64 0 ∧ m = .int .i64 k) (fun _ _ => 0)
  case atStart => exact ⟨rfl, rfl⟩
  case round =>
   obtain ⟨rfl, rfl⟩ := hrel
   go_wp2
   go_ret
   exact ⟨by simp [Uf, sumN], by rw [show Vf Jp [] k = [] from rfl]; exact H.out, Jy.refl _ _⟩
 ·
  have H := hd h
  clear h hs
  go_enter Tryz.func64, Tryz.ntmps64
  go_wp2
  go_loopw [1, 5] (fun m i wr => ∃ j : Nat, j ≤ xs.length ∧ i = .int .i64 j ∧ m = .int .i64 (Uf Jp xs k j) ∧ Kt 137 Jp wr (fun b => F b ∧ b < w.heap.size) (.slice (some ⟨g, 0, none⟩) xs.length cap) (mTo Jp xs k j) ∧ Jy F w wr) (fun _ i _ => xs.length - (intOf i).toNat)
  case atStart => exact ⟨0, Ef _, rfl, by rw [Yk], by rw [mTo_zero]; exact Ki Jj H.out, Jy.refl _ _⟩
  case round =>
   obtain ⟨j, hj, rfl, rfl, hown, hon⟩ := hrel
   by_cases hlt : j < xs.length
   ·
    have i1 : (0 : Int) ≤ (j : Int) := by omega
    have i2 : (j : Int) < (xs.length : Int) := by omega
    have hjl : j < (mTo Jp xs k j).length := by rw [Xo hj]; exact hlt
    have HLL := hd (Xo (T := Jp) (k := k) hj)
    obtain ⟨r1, r2⟩ := Kr Jj (by decide) (k := k) HS.out hj
    obtain ⟨r3, r4⟩ := Kr Jj (by decide) (k := k) (j := j + 1) HS.out (by omega)
    have hzx := Kz HS.out hlt
    have hstep := Yl (T := Jp) (k := k) hlt
    have hset := mTo_step (T := Jp) (k := k) hlt
    have hsz := hon.size
    obtain ⟨hme, hFg2, hgl, cj, Fj, Lc, hrow, hLc, hO, hFj, hput⟩ := Vh Jj hown hjl
    clear hme hFg2
    rw [mTo_at hlt] at hO
    have HM : Hid (∃ m', Uf Jp xs k (j + 1) = m') := hd ⟨_, rfl⟩
    obtain ⟨m', hm'⟩ := HM.out
    rw [hm'] at hstep r3 r4
    have HM' := hd hm'
    clear hm' HM H hown hjl
    generalize Uf Jp xs k j = m at *
    generalize xs.getD j Jp.d = x at *
    rw [HLL.out] at hrow hput
    obtain ⟨a0, a1, x2, x3, x4⟩ := x
    rw [tCharge_md] at hset
    rw [tCharge_nd] at hstep
    rw [Yn] at hzx
    obtain ⟨v2, v3, v4, K2, K3, K4, rfl, o2, o3, o4, q2, q3, q4, d2_3, d2_4, d3_4⟩ := tCharge_O hO
    have S2 := hd (show zL Jf x2 ≤ 1048576 by omega)
    have N2 := Ko Jb (by decide) x2
    have S3 := hd (show zL Jf x3 ≤ 1048576 by omega)
    have N3 := Ko Jb (by decide) x3
    have S4 := hd (show zL Jf x4 ≤ 1048576 by omega)
    have N4 := Ko Jb (by decide) x4
    have R2 : Hid (0 ≤ m + 1 + 1 ∧ m + 1 + 1 ≤ 1073741824) := hd (by omega)
    have R3 : Hid (0 ≤ m + 1 + 1 + (Jt Jf x2 : Int) ∧ m + 1 + 1 + (Jt Jf x2 : Int) ≤ 1073741824) := hd (by omega)
    have R4 : Hid (0 ≤ m + 1 + 1 + (Jt Jf x2 : Int) + (Jt Jf x3 : Int) ∧ m + 1 + 1 + (Jt Jf x2 : Int) + (Jt Jf x3 : Int) ≤ 1073741824) := hd (by omega)
    have hmm : m + 1 + 1 + (Jt Jf x2 : Int) + (Jt Jf x3 : Int) + (Jt Jf x4 : Int) = m' := by omega
    have HMM := hd hmm
    have hm0 : 0 ≤ m := by omega
    have hm1 : m ≤ 1073741824 := by omega
    clear hmm hstep hzx N2 N3 N4
    have hLl : Lc.length = xs.length * 5 := hrow.1
    have HSET := hd hset
    clear hset
    have tt : Jy (fun b => b = g ∨ Fj b ∨ wr.heap.size ≤ b) wr wr := Jy.refl _ _
    have rr := hrow
    have c0 : ∃ x, wr.cell? ⟨g, j * 5, none⟩ = some x := ⟨_, (World.ownsRow.cellAt rr (j * 5) (by show j * 5 < xs.length * 5; omega)).trans (Ec (by have h9 := rr.1; have h8 : xs.length * Jp.n = xs.length * 5 := rfl; omega))⟩
    obtain ⟨y0, c0⟩ := c0
    have f0 := Uy rr (j * 5)
    have c1 : ∃ x, wr.cell? ⟨g, j * 5 + 1, none⟩ = some x := ⟨_, (World.ownsRow.cellAt rr (j * 5 + 1) (by show j * 5 + 1 < xs.length * 5; omega)).trans (Ec (by have h9 := rr.1; have h8 : xs.length * Jp.n = xs.length * 5 := rfl; omega))⟩
    obtain ⟨y1, c1⟩ := c1
    have f1 := Uy rr (j * 5 + 1)
    have cv2 : wr.cell? ⟨g, j * 5 + 2, none⟩ = some v2 := (World.ownsRow.cellAt rr (j * 5 + 2) (by show j * 5 + 2 < xs.length * 5; omega)).trans (by exact hLc 2 (by decide))
    go_wp2_with fail
    clear c0 f0 c1 f1 cv2
    have ts : Jy (fun b => b = g) wr ((wr.setCell ⟨g, j * 5, none⟩ (.int .i64 (m))).setCell ⟨g, j * 5 + 1, none⟩ (.int .i64 (m + 1))) := (((Jy.refl (fun b => b = g) _).trans (Jh (G := fun b => b = g) (g := g) (j := j * 5) (u := .int .i64 (m)) rfl)).trans (Jh (G := fun b => b = g) (g := g) (j := j * 5 + 1) (u := .int .i64 (m + 1)) rfl))
    replace rr := (Uz (Uz rr (j * 5) (.int .i64 (m))).1 (j * 5 + 1) (.int .i64 (m + 1))).1
    replace o2 := Ju Jb o2 ts (fun b h1 h2 => (hFj b (q2 b h1)).2.1 h2)
    replace o3 := Ju Jb o3 ts (fun b h1 h2 => (hFj b (q3 b h1)).2.1 h2)
    replace o4 := Ju Jb o4 ts (fun b h1 h2 => (hFj b (q4 b h1)).2.1 h2)
    replace tt := tt.trans (ts.mono (fun b h => Or.inl h))
    clear ts
    generalize ((wr.setCell ⟨g, j * 5, none⟩ (.int .i64 (m))).setCell ⟨g, j * 5 + 1, none⟩ (.int .i64 (m + 1))) = W0 at *
    refine (Xf v2 x2 _ (m + 1 + 1) W0 o2 S2.out R2.out.1 (by have := R2.out.2; omega)).mono ?_
    rintro e w1 ⟨rfl, m2, t1⟩
    replace rr := Kv rr t1 (fun b hb h => by simp [Value.ownBlock] at hb; exact (hFj b (q2 b h)).2.1 hb.symm)
    replace o2 := m2
    replace o3 := Ju Jb o3 t1 (fun b h1 h2 => d2_3 b h2 h1)
    replace o4 := Ju Jb o4 t1 (fun b h1 h2 => d2_4 b h2 h1)
    replace tt := tt.trans (t1.mono (fun b h => Or.inr (Or.inl (q2 b h))))
    clear t1
    have cv3 : w1.cell? ⟨g, j * 5 + 3, none⟩ = some v3 := (World.ownsRow.cellAt rr (j * 5 + 3) (by show j * 5 + 3 < xs.length * 5; omega)).trans (by rw [Ea (by omega)]; rw [Ea (by omega)]; exact hLc 3 (by decide))
    go_wp2_with fail
    clear cv3
    refine (Xf v3 x3 _ (m + 1 + 1 + (Jt Jf x2 : Int)) w1 o3 S3.out R3.out.1 (by have := R3.out.2; omega)).mono ?_
    rintro e w2 ⟨rfl, m3, t1⟩
    replace rr := Kv rr t1 (fun b hb h => by simp [Value.ownBlock] at hb; exact (hFj b (q3 b h)).2.1 hb.symm)
    replace o2 := Ju Jb o2 t1 (fun b h1 h2 => d2_3 b h1 h2)
    replace o3 := m3
    replace o4 := Ju Jb o4 t1 (fun b h1 h2 => d3_4 b h2 h1)
    replace tt := tt.trans (t1.mono (fun b h => Or.inr (Or.inl (q3 b h))))
    clear t1
    have cv4 : w2.cell? ⟨g, j * 5 + 4, none⟩ = some v4 := (World.ownsRow.cellAt rr (j * 5 + 4) (by show j * 5 + 4 < xs.length * 5; omega)).trans (by rw [Ea (by omega)]; rw [Ea (by omega)]; exact hLc 4 (by decide))
    go_wp2_with fail
    clear cv4
    refine (Xf v4 x4 _ (m + 1 + 1 + (Jt Jf x2 : Int) + (Jt Jf x3 : Int)) w2 o4 S4.out R4.out.1 (by have := R4.out.2; omega)).mono ?_
    rintro e w3 ⟨rfl, m4, t1⟩
    replace rr := Kv rr t1 (fun b hb h => by simp [Value.ownBlock] at hb; exact (hFj b (q4 b h)).2.1 hb.symm)
    replace o2 := Ju Jb o2 t1 (fun b h1 h2 => d2_4 b h1 h2)
    replace o3 := Ju Jb o3 t1 (fun b h1 h2 => d3_4 b h1 h2)
    replace o4 := m4
    replace tt := tt.trans (t1.mono (fun b h => Or.inr (Or.inl (q4 b h))))
    clear t1
    have hO2 := tCharge_mkO (F := Fj) (a0 := m) (a1 := m + 1) o2 o3 o4 q2 q3 q4 d2_3 d2_4 d3_4
    have hst := hput w3 ((Lc.set (j * 5) (.int .i64 (m))).set (j * 5 + 1) (.int .i64 (m + 1))) [.int .i64 (m), .int .i64 (m + 1), v2, v3, v4] Fj _ rr (fun p hp => by have hp2 : p < j * 5 ∨ j * 5 + 5 ≤ p := hp; rw [Ea (by omega)]; rw [Ea (by omega)]) (fun i hi => by have hi' : i < 5 := hi; match i, hi' with | 0, _ => (show (((Lc.set (j * 5) (.int .i64 (m))).set (j * 5 + 1) (.int .i64 (m + 1))))[j * 5]? = _; rw [Ea (by omega)]; rw [Eb (by first | omega | (simp only [List.length_set]; omega))]; rfl) | 1, _ => (show (((Lc.set (j * 5) (.int .i64 (m))).set (j * 5 + 1) (.int .i64 (m + 1))))[j * 5 + 1]? = _; rw [Eb (by first | omega | (simp only [List.length_set]; omega))]; rfl) | 2, _ => (show (((Lc.set (j * 5) (.int .i64 (m))).set (j * 5 + 1) (.int .i64 (m + 1))))[j * 5 + 2]? = _; rw [Ea (by omega)]; rw [Ea (by omega)]; exact hLc 2 (by decide)) | 3, _ => (show (((Lc.set (j * 5) (.int .i64 (m))).set (j * 5 + 1) (.int .i64 (m + 1))))[j * 5 + 3]? = _; rw [Ea (by omega)]; rw [Ea (by omega)]; exact hLc 3 (by decide)) | 4, _ => (show (((Lc.set (j * 5) (.int .i64 (m))).set (j * 5 + 1) (.int .i64 (m + 1))))[j * 5 + 4]? = _; rw [Ea (by omega)]; rw [Ea (by omega)]; exact hLc 4 (by decide))) hO2 (fun b hb => ⟨(hFj b hb).1, Or.inl hb⟩) tt
    rw [HSET.out] at hst
    have HST := hd hst
    have hon2 := hon.trans (Jy.mono (G := fun b => F b ∧ b < w.heap.size) (G' := F) ⟨tt.os, tt.tape, tt.output, tt.size, fun b hb hn => tt.block b hb (fun h => hn (h.elim (fun h => by rw [h]; exact ⟨hFg, hgw⟩) (fun h => h.elim (fun h => (hFj b h).1) (fun h => absurd hb (Nat.not_lt.2 h)))))⟩ (fun b h => h.1))
    clear hst hput tt rr hO2 hon hFj hLc hLl o2 o3 o4
    rw [HMM.out]
    go_wp2
    go_roundw
    case rel => exact ⟨j + 1, by omega, by go_num, by rw [HM'.out], HST.out, hon2⟩
    case measure => simp [intOf]; omega
   ·
    obtain rfl : j = xs.length := by omega
    rw [mTo_all] at hown
    go_wp2
    go_ret
    refine ⟨?_, Kk hown (fun b h => h.1), hon⟩
    simp
set_option maxHeartbeats 8000000 in
theorem heldChargeS_S (v : Value) (xs : List (Int × Int × List Int × List Int × List Int)) (k : Int) (w : World) (h : Kc Jp w v (Vf Jp xs k)) (hs : zL Jp xs ≤ 1048576) (k0 : 0 ≤ k) (k1 : k ≤ 1006632960) :
  Calls Tryz.prog 70 #[v, .int .i64 k] w fun e w' => e = .returned (.int .i64 (k + (Jt Jp xs : Int))) ∧ w = w' := by
 rw [← Xp]
 have HS := hd hs
 have H := hd h
 have hlen := Jz hs
 obtain ⟨a, cap, rfl⟩ := Jo h
 rw [Ve] at H ⊢
 clear h hs
 go_enter Tryz.func70, Tryz.ntmps70
 go_wp2
 go_loop [1, 5] (fun m i => ∃ j : Nat, j ≤ xs.length ∧ i = .int .i64 j ∧ m = .int .i64 (Uf Jp xs k j)) (fun _ i => xs.length - (intOf i).toNat)
 case atStart => exact ⟨0, Ef _, rfl, by rw [Yk]⟩
 case round =>
  obtain ⟨j, hj, rfl, rfl⟩ := hrel
  by_cases hlt : j < xs.length
  ·
   have i1 : (0 : Int) ≤ (j : Int) := by omega
   have i2 : (j : Int) < (xs.length : Int) := by omega
   obtain ⟨r1, r2⟩ := Kr Jj (by decide) (k := k) HS.out hj
   obtain ⟨r3, r4⟩ := Kr Jj (by decide) (k := k) (j := j + 1) HS.out (by omega)
   have hzx := Kz HS.out hlt
   have hstep := Yl (T := Jp) (k := k) hlt
   obtain ⟨b, off, cap', cs, hv, hbl, hcs, hR⟩ := Km H.out (k := j) (by rw [Ve]; exact hlt)
   rw [Ve] at hv
   simp only [Eg] at hv
   obtain ⟨rfl, _, rfl⟩ := hv
   rw [mAll_at hlt] at hR
   have HM : Hid (∃ m', Uf Jp xs k (j + 1) = m') := hd ⟨_, rfl⟩
   obtain ⟨m', hm'⟩ := HM.out
   rw [hm'] at hstep r3 r4
   have HM' := hd hm'
   clear hm' HM H
   generalize Uf Jp xs k j = m at *
   generalize xs.getD j Jp.d = x at *
   obtain ⟨a0, a1, x2, x3, x4⟩ := x
   rw [tCharge_md] at hR
   obtain ⟨v2, v3, v4, hR'⟩ := Ug hR
   obtain ⟨rfl, h2, h3, h4⟩ := hR'
   rw [Yn] at hzx
   rw [tCharge_nd] at hstep
   have p0 : w.cell? ⟨b, off + j * 5, none⟩ = some (Value.int .i64 (m)) := hcs 0 (by decide)
   have p1 : w.cell? ⟨b, off + j * 5 + 1, none⟩ = some (Value.int .i64 (m + 1)) := hcs 1 (by decide)
   have p2 : w.cell? ⟨b, off + j * 5 + 2, none⟩ = some (v2) := hcs 2 (by decide)
   have p3 : w.cell? ⟨b, off + j * 5 + 3, none⟩ = some (v3) := hcs 3 (by decide)
   have p4 : w.cell? ⟨b, off + j * 5 + 4, none⟩ = some (v4) := hcs 4 (by decide)
   have S2 := hd (show zL Jf x2 ≤ 1048576 by omega)
   have N2 := Ko Jb (by decide) x2
   have S3 := hd (show zL Jf x3 ≤ 1048576 by omega)
   have N3 := Ko Jb (by decide) x3
   have S4 := hd (show zL Jf x4 ≤ 1048576 by omega)
   have N4 := Ko Jb (by decide) x4
   have R2 : Hid (0 ≤ m + 1 + 1 ∧ m + 1 + 1 ≤ 1073741824) := hd (by omega)
   have A2 := hd h2
   have R3 : Hid (0 ≤ m + 1 + 1 + (Jt Jf x2 : Int) ∧ m + 1 + 1 + (Jt Jf x2 : Int) ≤ 1073741824) := hd (by omega)
   have A3 := hd h3
   have R4 : Hid (0 ≤ m + 1 + 1 + (Jt Jf x2 : Int) + (Jt Jf x3 : Int) ∧ m + 1 + 1 + (Jt Jf x2 : Int) + (Jt Jf x3 : Int) ≤ 1073741824) := hd (by omega)
   have A4 := hd h4
   have ng2 : ¬ m + 1 + 1 + (Jt Jf x2 : Int) < 0 := by omega
   have ng3 : ¬ m + 1 + 1 + (Jt Jf x2 : Int) + (Jt Jf x3 : Int) < 0 := by omega
   have ng4 : ¬ m + 1 + 1 + (Jt Jf x2 : Int) + (Jt Jf x3 : Int) + (Jt Jf x4 : Int) < 0 := by omega
   have eq0 : ((m : Int) != m) = false := by simp
   have eq1 : ((m + 1 : Int) != m + 1) = false := by simp
   have hmm : m + 1 + 1 + (Jt Jf x2 : Int) + (Jt Jf x3 : Int) + (Jt Jf x4 : Int) = m' := by omega
   have HMM := hd hmm
   have hm0 : 0 ≤ m := by omega
   have hm1 : m ≤ 1073741824 := by omega
   clear hmm hstep hcs hzx N2 h2 N3 h3 N4 h4
   go_wp2_with fail
   refine (Xg v2 x2 (m + 1 + 1) _ A2.out S2.out R2.out.1 (by have := R2.out.2; omega)).mono ?_
   rintro e w2 ⟨rfl, rfl⟩
   go_wp2_with fail
   refine (Xg v3 x3 (m + 1 + 1 + (Jt Jf x2 : Int)) _ A3.out S3.out R3.out.1 (by have := R3.out.2; omega)).mono ?_
   rintro e w2 ⟨rfl, rfl⟩
   go_wp2_with fail
   refine (Xg v4 x4 (m + 1 + 1 + (Jt Jf x2 : Int) + (Jt Jf x3 : Int)) _ A4.out S4.out R4.out.1 (by have := R4.out.2; omega)).mono ?_
   rintro e w2 ⟨rfl, rfl⟩
   rw [HMM.out]
   clear ng4
   have hnn : ¬ m' < 0 := by omega
   go_wp2
   go_round
   case rel => exact ⟨j + 1, by omega, by go_num, by rw [HM'.out]⟩
   case measure => simp [intOf]; omega
  ·
   obtain rfl : j = xs.length := by omega
   go_wp2
   go_ret
   exact ⟨rfl, rfl⟩
def Yj : Ty ((List (List (Int × List Int × Int × Int)) × Int) × Int × List Int × List ((Int × Int × List (Int × Int × Int) × List Int) × Int × List Int × Int × Int × Int × List (Int × List Int)) × List ((Int × Int × List (Int × Int × Int) × List Int) × Int × Int × List (Int × List Int)) × List (Int × Int × List Int × List Int × List Int) × Int) := Vu tStore (Vu Jf (Vu tIntES (Vu tActiveS (Vu tFinishedS (Vu tChargeS Jf)))))
theorem Kf : Yj.Law := Kp tStore_law (Kp Jb (Kp tIntES_law (Kp tActiveS_law (Kp tFinishedS_law (Kp tChargeS_law Jb)))))
theorem tEngine_R {w : World} {cs : List Value} {x0 : List (List (Int × List Int × Int × Int))} {a1 : Int} {a2 : Int} {x3 : List Int} {x4 : List ((Int × Int × List (Int × Int × Int) × List Int) × Int × List Int × Int × Int × Int × List (Int × List Int))} {x5 : List ((Int × Int × List (Int × Int × Int) × List Int) × Int × Int × List (Int × List Int))} {x6 : List (Int × Int × List Int × List Int × List Int)} {a7 : Int} (h : Yj.R w cs ((x0, a1), a2, x3, x4, x5, x6, a7)) : ∃ v0 v3 v4 v5 v6, cs = [v0, .int .i64 a1, .int .i64 a2, v3, v4, v5, v6, .int .i64 a7] ∧ Kc Je w v0 x0 ∧ Kc Jf w v3 x3 ∧ Kc Jm w v4 x4 ∧ Kc Jk w v5 x5 ∧ Kc Jp w v6 x6 := by
 obtain ⟨_, _, rfl, ⟨_, _, rfl, ⟨v0, rfl, h0⟩, rfl⟩, ⟨_, _, rfl, rfl, ⟨_, _, rfl, ⟨v3, rfl, h3⟩, ⟨_, _, rfl, ⟨v4, rfl, h4⟩, ⟨_, _, rfl, ⟨v5, rfl, h5⟩, ⟨_, _, rfl, ⟨v6, rfl, h6⟩, rfl⟩⟩⟩⟩⟩⟩ := h
 exact ⟨_, _, _, _, _, rfl, h0, h3, h4, h5, h6⟩
theorem tEngine_sz {x0 : List (List (Int × List Int × Int × Int))} {a1 : Int} {a2 : Int} {x3 : List Int} {x4 : List ((Int × Int × List (Int × Int × Int) × List Int) × Int × List Int × Int × Int × Int × List (Int × List Int))} {x5 : List ((Int × Int × List (Int × Int × Int) × List Int) × Int × Int × List (Int × List Int))} {x6 : List (Int × Int × List Int × List Int × List Int)} {a7 : Int} : Yj.sz ((x0, a1), a2, x3, x4, x5, x6, a7) = zL Je x0 + zL Jf x3 + zL Jm x4 + zL Jk x5 + zL Jp x6 := by
 simp only [Yj, Xi, Vo, Vn, Ub, Ye, Yd, tSl_sz, Xn, Xm, tStore, tIntES_sz, tIntES_nd, tIntES_nv, tIntES_md, tIntES_mv]
 try omega
theorem Xv {w : World} {F : Nat → Prop} {cs : List Value} {x0 : List (List (Int × List Int × Int × Int))} {a1 : Int} {a2 : Int} {x3 : List Int} {x4 : List ((Int × Int × List (Int × Int × Int) × List Int) × Int × List Int × Int × Int × Int × List (Int × List Int))} {x5 : List ((Int × Int × List (Int × Int × Int) × List Int) × Int × Int × List (Int × List Int))} {x6 : List (Int × Int × List Int × List Int × List Int)} {a7 : Int} (h : Yj.O w F cs ((x0, a1), a2, x3, x4, x5, x6, a7)) : ∃ v0 v3 v4 v5 v6, ∃ e3 : TypeId, ∃ F0 F3 F4 F5 F6 : Nat → Prop, cs = [v0, .int .i64 a1, .int .i64 a2, v3, v4, v5, v6, .int .i64 a7] ∧ Kt 179 Je w F0 v0 x0 ∧ Kt e3 Jf w F3 v3 x3 ∧ Kt 88 Jm w F4 v4 x4 ∧ Kt 136 Jk w F5 v5 x5 ∧ Kt 137 Jp w F6 v6 x6 ∧ (∀ b, F0 b → F b) ∧ (∀ b, F3 b → F b) ∧ (∀ b, F4 b → F b) ∧ (∀ b, F5 b → F b) ∧ (∀ b, F6 b → F b) ∧ (∀ b, F0 b → ¬ F3 b) ∧ (∀ b, F0 b → ¬ F4 b) ∧ (∀ b, F0 b → ¬ F5 b) ∧ (∀ b, F0 b → ¬ F6 b) ∧ (∀ b, F3 b → ¬ F4 b) ∧ (∀ b, F3 b → ¬ F5 b) ∧ (∀ b, F3 b → ¬ F6 b) ∧ (∀ b, F4 b → ¬ F5 b) ∧ (∀ b, F4 b → ¬ F6 b) ∧ (∀ b, F5 b → ¬ F6 b) := by
 obtain ⟨_, _, F0_1, F0_2, rfl, ⟨_, _, F1_1, F1_2, rfl, ⟨v0, rfl, h0⟩, rfl, s1_1, s1_2, d1⟩, ⟨_, _, F2_1, F2_2, rfl, rfl, ⟨_, _, F3_1, F3_2, rfl, ⟨v3, e3, rfl, h3⟩, ⟨_, _, F4_1, F4_2, rfl, ⟨v4, rfl, h4⟩, ⟨_, _, F5_1, F5_2, rfl, ⟨v5, rfl, h5⟩, ⟨_, _, F6_1, F6_2, rfl, ⟨v6, rfl, h6⟩, rfl, s6_1, s6_2, d6⟩, s5_1, s5_2, d5⟩, s4_1, s4_2, d4⟩, s3_1, s3_2, d3⟩, s2_1, s2_2, d2⟩, s0_1, s0_2, d0⟩ := h
 exact ⟨v0, v3, v4, v5, v6, e3, F1_1, F3_1, F4_1, F5_1, F6_1, rfl, h0, h3, h4, h5, h6, fun b h => (s0_1 b (s1_1 b h)), fun b h => (s0_2 b (s2_2 b (s3_1 b h))), fun b h => (s0_2 b (s2_2 b (s3_2 b (s4_1 b h)))), fun b h => (s0_2 b (s2_2 b (s3_2 b (s4_2 b (s5_1 b h))))), fun b h => (s0_2 b (s2_2 b (s3_2 b (s4_2 b (s5_2 b (s6_1 b h)))))), fun b h h2 => d0 b (s1_1 b h) (s2_2 b (s3_1 b h2)), fun b h h2 => d0 b (s1_1 b h) (s2_2 b (s3_2 b (s4_1 b h2))), fun b h h2 => d0 b (s1_1 b h) (s2_2 b (s3_2 b (s4_2 b (s5_1 b h2)))), fun b h h2 => d0 b (s1_1 b h) (s2_2 b (s3_2 b (s4_2 b (s5_2 b (s6_1 b h2))))), fun b h h2 => d3 b h (s4_1 b h2), fun b h h2 => d3 b h (s4_2 b (s5_1 b h2)), fun b h h2 => d3 b h (s4_2 b (s5_2 b (s6_1 b h2))), fun b h h2 => d4 b h (s5_1 b h2), fun b h h2 => d4 b h (s5_2 b (s6_1 b h2)), fun b h h2 => d5 b h (s6_1 b h2)⟩
theorem tEngine_mkO {w : World} {F : Nat → Prop} {x0 : List (List (Int × List Int × Int × Int))} {a1 : Int} {a2 : Int} {x3 : List Int} {x4 : List ((Int × Int × List (Int × Int × Int) × List Int) × Int × List Int × Int × Int × Int × List (Int × List Int))} {x5 : List ((Int × Int × List (Int × Int × Int) × List Int) × Int × Int × List (Int × List Int))} {x6 : List (Int × Int × List Int × List Int × List Int)} {a7 : Int} {e3 : TypeId} {v0 v3 v4 v5 v6 : Value} {F0 F3 F4 F5 F6 : Nat → Prop} (h0 : Kt 179 Je w F0 v0 x0) (h3 : Kt e3 Jf w F3 v3 x3) (h4 : Kt 88 Jm w F4 v4 x4) (h5 : Kt 136 Jk w F5 v5 x5) (h6 : Kt 137 Jp w F6 v6 x6) (s0 : ∀ b, F0 b → F b) (s3 : ∀ b, F3 b → F b) (s4 : ∀ b, F4 b → F b) (s5 : ∀ b, F5 b → F b) (s6 : ∀ b, F6 b → F b) (d0_3 : ∀ b, F0 b → ¬ F3 b) (d0_4 : ∀ b, F0 b → ¬ F4 b) (d0_5 : ∀ b, F0 b → ¬ F5 b) (d0_6 : ∀ b, F0 b → ¬ F6 b) (d3_4 : ∀ b, F3 b → ¬ F4 b) (d3_5 : ∀ b, F3 b → ¬ F5 b) (d3_6 : ∀ b, F3 b → ¬ F6 b) (d4_5 : ∀ b, F4 b → ¬ F5 b) (d4_6 : ∀ b, F4 b → ¬ F6 b) (d5_6 : ∀ b, F5 b → ¬ F6 b) : Yj.O w F [v0, a1, a2, v3, v4, v5, v6, a7] ((x0, a1), a2, x3, x4, x5, x6, a7) := ⟨[v0, a1], [a2, v3, v4, v5, v6, a7], F0, fun b => F3 b ∨ (F4 b ∨ (F5 b ∨ (F6 b))), rfl, ⟨[v0], [a1], F0, fun _ => False, rfl, ⟨_, rfl, h0⟩, rfl, (fun b h => h), (fun b h => (False.elim h)), (fun b h g => (False.elim g))⟩, ⟨[a2], [v3, v4, v5, v6, a7], fun _ => False, fun b => F3 b ∨ (F4 b ∨ (F5 b ∨ (F6 b))), rfl, rfl, ⟨[v3], [v4, v5, v6, a7], F3, fun b => F4 b ∨ (F5 b ∨ (F6 b)), rfl, ⟨_, _, rfl, h3⟩, ⟨[v4], [v5, v6, a7], F4, fun b => F5 b ∨ (F6 b), rfl, ⟨_, rfl, h4⟩, ⟨[v5], [v6, a7], F5, F6, rfl, ⟨_, rfl, h5⟩, ⟨[v6], [a7], F6, fun _ => False, rfl, ⟨_, rfl, h6⟩, rfl, (fun b h => h), (fun b h => (False.elim h)), (fun b h g => (False.elim g))⟩, (fun b h => (Or.inl h)), (fun b h => (Or.inr h)), (fun b h g => d5_6 b h g)⟩, (fun b h => (Or.inl h)), (fun b h => (h.elim (fun q0 => (Or.inr (Or.inl q0))) (fun q0 => (Or.inr (Or.inr q0))))), (fun b h g => (g.elim (fun q10 => d4_5 b h q10) (fun q10 => d4_6 b h q10)))⟩, (fun b h => (Or.inl h)), (fun b h => (h.elim (fun q0 => (Or.inr (Or.inl q0))) (fun q0 => (q0.elim (fun q1 => (Or.inr (Or.inr (Or.inl q1)))) (fun q1 => (Or.inr (Or.inr (Or.inr q1)))))))), (fun b h g => (g.elim (fun q10 => d3_4 b h q10) (fun q10 => (q10.elim (fun q11 => d3_5 b h q11) (fun q11 => d3_6 b h q11)))))⟩, (fun b h => (False.elim h)), (fun b h => (h.elim (fun q0 => (Or.inl q0)) (fun q0 => (q0.elim (fun q1 => (Or.inr (Or.inl q1))) (fun q1 => (q1.elim (fun q2 => (Or.inr (Or.inr (Or.inl q2)))) (fun q2 => (Or.inr (Or.inr (Or.inr q2)))))))))), (fun b h g => (False.elim h))⟩, (fun b h => s0 b h), (fun b h => (h.elim (fun q0 => s3 b q0) (fun q0 => (q0.elim (fun q1 => s4 b q1) (fun q1 => (q1.elim (fun q2 => s5 b q2) (fun q2 => s6 b q2))))))), (fun b h g => (g.elim (fun q10 => d0_3 b h q10) (fun q10 => (q10.elim (fun q11 => d0_4 b h q11) (fun q11 => (q11.elim (fun q12 => d0_5 b h q12) (fun q12 => d0_6 b h q12)))))))⟩
set_option maxHeartbeats 8000000 in
theorem szEngine_Y (a1 a2 a7 : Int) (v0 v3 v4 v5 v6 : Value) (x0 : List (List (Int × List Int × Int × Int))) (x3 : List Int) (x4 : List ((Int × Int × List (Int × Int × Int) × List Int) × Int × List Int × Int × Int × Int × List (Int × List Int))) (x5 : List ((Int × Int × List (Int × Int × Int) × List Int) × Int × Int × List (Int × List Int))) (x6 : List (Int × Int × List Int × List Int × List Int)) (k0 : Int) (w : World) (h0 : Kc Je w v0 x0) (h3 : Kc Jf w v3 x3) (h4 : Kc Jm w v4 x4) (h5 : Kc Jk w v5 x5) (h6 : Kc Jp w v6 x6) (hs : ((zL Je x0 + zL Jf x3 + zL Jm x4 + zL Jk x5 + zL Jp x6 : Nat) : Int) ≤ k0) (hk : k0 ≤ 1048576) :
  Calls Tryz.prog 7 #[.agg #[v0, a1, a2, v3, v4, v5, v6, a7], .int .i64 k0] w fun e w' => e = .returned (.int .i64 (k0 - ((zL Je x0 + zL Jf x3 + zL Jm x4 + zL Jk x5 + zL Jp x6 : Nat) : Int))) ∧ Below w w w' := by
 have H0 := hd h0
 have H3 := hd h3
 have H4 := hd h4
 have H5 := hd h5
 have H6 := hd h6
 clear h0 h3 h4 h5 h6
 have HZ0 : Hid (((zL Je x0 : Nat) : Int) ≤ k0) := hd (by omega)
 have HK0 : Hid (k0 ≤ 1048576) := hd (by omega)
 have hn0 : ¬ k0 - ((zL Je x0 : Nat) : Int) < 0 := by omega
 have HZ3 : Hid (((zL Jf x3 : Nat) : Int) ≤ k0 - ((zL Je x0 : Nat) : Int)) := hd (by omega)
 have HK3 : Hid (k0 - ((zL Je x0 : Nat) : Int) ≤ 1048576) := hd (by omega)
 have hn3 : ¬ k0 - ((zL Je x0 : Nat) : Int) - ((zL Jf x3 : Nat) : Int) < 0 := by omega
 have HZ4 : Hid (((zL Jm x4 : Nat) : Int) ≤ k0 - ((zL Je x0 : Nat) : Int) - ((zL Jf x3 : Nat) : Int)) := hd (by omega)
 have HK4 : Hid (k0 - ((zL Je x0 : Nat) : Int) - ((zL Jf x3 : Nat) : Int) ≤ 1048576) := hd (by omega)
 have hn4 : ¬ k0 - ((zL Je x0 : Nat) : Int) - ((zL Jf x3 : Nat) : Int) - ((zL Jm x4 : Nat) : Int) < 0 := by omega
 have HZ5 : Hid (((zL Jk x5 : Nat) : Int) ≤ k0 - ((zL Je x0 : Nat) : Int) - ((zL Jf x3 : Nat) : Int) - ((zL Jm x4 : Nat) : Int)) := hd (by omega)
 have HK5 : Hid (k0 - ((zL Je x0 : Nat) : Int) - ((zL Jf x3 : Nat) : Int) - ((zL Jm x4 : Nat) : Int) ≤ 1048576) := hd (by omega)
 have hn5 : ¬ k0 - ((zL Je x0 : Nat) : Int) - ((zL Jf x3 : Nat) : Int) - ((zL Jm x4 : Nat) : Int) - ((zL Jk x5 : Nat) : Int) < 0 := by omega
 have HZ6 : Hid (((zL Jp x6 : Nat) : Int) ≤ k0 - ((zL Je x0 : Nat) : Int) - ((zL Jf x3 : Nat) : Int) - ((zL Jm x4 : Nat) : Int) - ((zL Jk x5 : Nat) : Int)) := hd (by omega)
 have HK6 : Hid (k0 - ((zL Je x0 : Nat) : Int) - ((zL Jf x3 : Nat) : Int) - ((zL Jm x4 : Nat) : Int) - ((zL Jk x5 : Nat) : Int) ≤ 1048576) := hd (by omega)
 have hn6 : ¬ k0 - ((zL Je x0 : Nat) : Int) - ((zL Jf x3 : Nat) : Int) - ((zL Jm x4 : Nat) : Int) - ((zL Jk x5 : Nat) : Int) - ((zL Jp x6 : Nat) : Int) < 0 := by omega
 have HE : Hid (k0 - ((zL Je x0 : Nat) : Int) - ((zL Jf x3 : Nat) : Int) - ((zL Jm x4 : Nat) : Int) - ((zL Jk x5 : Nat) : Int) - ((zL Jp x6 : Nat) : Int) = k0 - ((zL Je x0 + zL Jf x3 + zL Jm x4 + zL Jk x5 + zL Jp x6 : Nat) : Int)) := hd (by omega)
 clear hs hk
 have hb : Below w w (w.alloc (.cells #[v0, a1, a2, v3, v4, v5, v6, a7] 30)) := (Eh _ w).alloc (Ed _) _
 have g0 : (w.alloc (.cells #[v0, a1, a2, v3, v4, v5, v6, a7] 30)).heap[w.heap.size]? = some (.cells #[v0, a1, a2, v3, v4, v5, v6, a7] 30 (0, 0)) := Uw w _
 have hz0 : w.heap.size < (w.alloc (.cells #[v0, a1, a2, v3, v4, v5, v6, a7] 30)).heap.size := by simp
 go_enter Tryz.func7, Tryz.ntmps7
 go_wp2_with fail
 generalize (w.alloc (.cells #[v0, a1, a2, v3, v4, v5, v6, a7] 30)) = W at *
 refine (szStore_Y a1 v0 x0 (k0) W (Jc Jd H0.out hb) HZ0.out HK0.out).mono ?_
 rintro e W1 ⟨rfl, b1⟩
 replace g0 := (b1.block w.heap.size hz0).trans g0
 replace hz0 := Ee hz0 b1.size
 replace hb := hb.trans (b1.mono hb.size)
 clear b1
 have p3 := cr 3 (v3) g0
 go_wp2_with fail
 clear p3
 refine (Yb v3 x3 (k0 - ((zL Je x0 : Nat) : Int)) W1 (Jc Jb H3.out hb) HZ3.out HK3.out).mono ?_
 rintro e W2 ⟨rfl, b1⟩
 replace g0 := (b1.block w.heap.size hz0).trans g0
 replace hz0 := Ee hz0 b1.size
 replace hb := hb.trans (b1.mono hb.size)
 clear b1
 have p4 := cr 4 (v4) g0
 go_wp2_with fail
 clear p4
 refine (szActiveS_Y v4 x4 (k0 - ((zL Je x0 : Nat) : Int) - ((zL Jf x3 : Nat) : Int)) W2 (Jc Ji H4.out hb) HZ4.out HK4.out).mono ?_
 rintro e W3 ⟨rfl, b1⟩
 replace g0 := (b1.block w.heap.size hz0).trans g0
 replace hz0 := Ee hz0 b1.size
 replace hb := hb.trans (b1.mono hb.size)
 clear b1
 have p5 := cr 5 (v5) g0
 go_wp2_with fail
 clear p5
 refine (szFinishedS_Y v5 x5 (k0 - ((zL Je x0 : Nat) : Int) - ((zL Jf x3 : Nat) : Int) - ((zL Jm x4 : Nat) : Int)) W3 (Jc Jg H5.out hb) HZ5.out HK5.out).mono ?_
 rintro e W4 ⟨rfl, b1⟩
 replace g0 := (b1.block w.heap.size hz0).trans g0
 replace hz0 := Ee hz0 b1.size
 replace hb := hb.trans (b1.mono hb.size)
 clear b1
 have p6 := cr 6 (v6) g0
 go_wp2_with fail
 clear p6
 refine (szChargeS_Y v6 x6 (k0 - ((zL Je x0 : Nat) : Int) - ((zL Jf x3 : Nat) : Int) - ((zL Jm x4 : Nat) : Int) - ((zL Jk x5 : Nat) : Int)) W4 (Jc Jj H6.out hb) HZ6.out HK6.out).mono ?_
 rintro e W5 ⟨rfl, b1⟩
 replace g0 := (b1.block w.heap.size hz0).trans g0
 replace hz0 := Ee hz0 b1.size
 replace hb := hb.trans (b1.mono hb.size)
 clear b1
 go_wp2
 go_ret
 exact ⟨ty_ret HE.out, hb⟩
set_option maxHeartbeats 8000000 in
theorem szEngine_N (a1 a2 a7 : Int) (v0 v3 v4 v5 v6 : Value) (x0 : List (List (Int × List Int × Int × Int))) (x3 : List Int) (x4 : List ((Int × Int × List (Int × Int × Int) × List Int) × Int × List Int × Int × Int × Int × List (Int × List Int))) (x5 : List ((Int × Int × List (Int × Int × Int) × List Int) × Int × Int × List (Int × List Int))) (x6 : List (Int × Int × List Int × List Int × List Int)) (k0 : Int) (w : World) (h0 : Kc Je w v0 x0) (h3 : Kc Jf w v3 x3) (h4 : Kc Jm w v4 x4) (h5 : Kc Jk w v5 x5) (h6 : Kc Jp w v6 x6) (hs : k0 < ((zL Je x0 + zL Jf x3 + zL Jm x4 + zL Jk x5 + zL Jp x6 : Nat) : Int)) (hk : k0 ≤ 1048576) (hp : 0 ≤ k0) (o0 : Ud.ok x0) (o3 : tIntES.ok x3) (o4 : tActiveS.ok x4) (o5 : tFinishedS.ok x5) (o6 : tChargeS.ok x6) :
  Calls Tryz.prog 7 #[.agg #[v0, a1, a2, v3, v4, v5, v6, a7], .int .i64 k0] w fun e w' => e = .returned (.int .i64 (-1)) ∧ Below w w w' := by
 have H0 := hd h0
 have H3 := hd h3
 have H4 := hd h4
 have H5 := hd h5
 have H6 := hd h6
 clear h0 h3 h4 h5 h6
 have HO0 := hd o0
 have HO3 := hd o3
 have HO4 := hd o4
 have HO5 := hd o5
 have HO6 := hd o6
 clear o0 o3 o4 o5 o6
 by_cases c0 : k0 < ((zL Je x0 : Nat) : Int)
 ·
  have HZ0 : Hid (k0 < ((zL Je x0 : Nat) : Int)) := hd (by omega)
  have HP0 : Hid (0 ≤ k0) := hd (by omega)
  have HK0 : Hid (k0 ≤ 1048576) := hd (by omega)
  clear hs hk
  clear c0 hp
  have hb : Below w w (w.alloc (.cells #[v0, a1, a2, v3, v4, v5, v6, a7] 30)) := (Eh _ w).alloc (Ed _) _
  have g0 : (w.alloc (.cells #[v0, a1, a2, v3, v4, v5, v6, a7] 30)).heap[w.heap.size]? = some (.cells #[v0, a1, a2, v3, v4, v5, v6, a7] 30 (0, 0)) := Uw w _
  have hz0 : w.heap.size < (w.alloc (.cells #[v0, a1, a2, v3, v4, v5, v6, a7] 30)).heap.size := by simp
  go_enter Tryz.func7, Tryz.ntmps7
  go_wp2_with fail
  generalize (w.alloc (.cells #[v0, a1, a2, v3, v4, v5, v6, a7] 30)) = W at *
  refine (szStore_N a1 v0 x0 (k0) W (Jc Jd H0.out hb) HZ0.out HK0.out HP0.out HO0.out).mono ?_
  rintro e W1 ⟨rfl, b1⟩
  replace g0 := (b1.block w.heap.size hz0).trans g0
  replace hz0 := Ee hz0 b1.size
  replace hb := hb.trans (b1.mono hb.size)
  clear b1
  go_wp2
  go_ret
  exact ⟨rfl, hb⟩
 ·
  by_cases c1 : k0 - ((zL Je x0 : Nat) : Int) < ((zL Jf x3 : Nat) : Int)
  ·
   have HZ0 : Hid (((zL Je x0 : Nat) : Int) ≤ k0) := hd (by omega)
   have hn0 : ¬ k0 - ((zL Je x0 : Nat) : Int) < 0 := by omega
   have HK0 : Hid (k0 ≤ 1048576) := hd (by omega)
   have HZ3 : Hid (k0 - ((zL Je x0 : Nat) : Int) < ((zL Jf x3 : Nat) : Int)) := hd (by omega)
   have HP3 : Hid (0 ≤ k0 - ((zL Je x0 : Nat) : Int)) := hd (by omega)
   have HK3 : Hid (k0 - ((zL Je x0 : Nat) : Int) ≤ 1048576) := hd (by omega)
   clear hs hk
   clear c1 hp c0
   have hb : Below w w (w.alloc (.cells #[v0, a1, a2, v3, v4, v5, v6, a7] 30)) := (Eh _ w).alloc (Ed _) _
   have g0 : (w.alloc (.cells #[v0, a1, a2, v3, v4, v5, v6, a7] 30)).heap[w.heap.size]? = some (.cells #[v0, a1, a2, v3, v4, v5, v6, a7] 30 (0, 0)) := Uw w _
   have hz0 : w.heap.size < (w.alloc (.cells #[v0, a1, a2, v3, v4, v5, v6, a7] 30)).heap.size := by simp
   go_enter Tryz.func7, Tryz.ntmps7
   go_wp2_with fail
   generalize (w.alloc (.cells #[v0, a1, a2, v3, v4, v5, v6, a7] 30)) = W at *
   refine (szStore_Y a1 v0 x0 (k0) W (Jc Jd H0.out hb) HZ0.out HK0.out).mono ?_
   rintro e W1 ⟨rfl, b1⟩
   replace g0 := (b1.block w.heap.size hz0).trans g0
   replace hz0 := Ee hz0 b1.size
   replace hb := hb.trans (b1.mono hb.size)
   clear b1
   have p3 := cr 3 (v3) g0
   go_wp2_with fail
   clear p3
   refine (szIntS_N v3 x3 (k0 - ((zL Je x0 : Nat) : Int)) W1 (Jc Jb H3.out hb) HZ3.out HK3.out HP3.out HO3.out).mono ?_
   rintro e W2 ⟨rfl, b1⟩
   replace g0 := (b1.block w.heap.size hz0).trans g0
   replace hz0 := Ee hz0 b1.size
   replace hb := hb.trans (b1.mono hb.size)
   clear b1
   go_wp2
   go_ret
   exact ⟨rfl, hb⟩
  ·
   by_cases c2 : k0 - ((zL Je x0 : Nat) : Int) - ((zL Jf x3 : Nat) : Int) < ((zL Jm x4 : Nat) : Int)
   ·
    have HZ0 : Hid (((zL Je x0 : Nat) : Int) ≤ k0) := hd (by omega)
    have hn0 : ¬ k0 - ((zL Je x0 : Nat) : Int) < 0 := by omega
    have HK0 : Hid (k0 ≤ 1048576) := hd (by omega)
    have HZ3 : Hid (((zL Jf x3 : Nat) : Int) ≤ k0 - ((zL Je x0 : Nat) : Int)) := hd (by omega)
    have hn3 : ¬ k0 - ((zL Je x0 : Nat) : Int) - ((zL Jf x3 : Nat) : Int) < 0 := by omega
    have HK3 : Hid (k0 - ((zL Je x0 : Nat) : Int) ≤ 1048576) := hd (by omega)
    have HZ4 : Hid (k0 - ((zL Je x0 : Nat) : Int) - ((zL Jf x3 : Nat) : Int) < ((zL Jm x4 : Nat) : Int)) := hd (by omega)
    have HP4 : Hid (0 ≤ k0 - ((zL Je x0 : Nat) : Int) - ((zL Jf x3 : Nat) : Int)) := hd (by omega)
    have HK4 : Hid (k0 - ((zL Je x0 : Nat) : Int) - ((zL Jf x3 : Nat) : Int) ≤ 1048576) := hd (by omega)
    clear hs hk
    clear c2 hp c0 c1
    have hb : Below w w (w.alloc (.cells #[v0, a1, a2, v3, v4, v5, v6, a7] 30)) := (Eh _ w).alloc (Ed _) _
    have g0 : (w.alloc (.cells #[v0, a1, a2, v3, v4, v5, v6, a7] 30)).heap[w.heap.size]? = some (.cells #[v0, a1, a2, v3, v4, v5, v6, a7] 30 (0, 0)) := Uw w _
    have hz0 : w.heap.size < (w.alloc (.cells #[v0, a1, a2, v3, v4, v5, v6, a7] 30)).heap.size := by simp
    go_enter Tryz.func7, Tryz.ntmps7
    go_wp2_with fail
    generalize (w.alloc (.cells #[v0, a1, a2, v3, v4, v5, v6, a7] 30)) = W at *
    refine (szStore_Y a1 v0 x0 (k0) W (Jc Jd H0.out hb) HZ0.out HK0.out).mono ?_
    rintro e W1 ⟨rfl, b1⟩
    replace g0 := (b1.block w.heap.size hz0).trans g0
    replace hz0 := Ee hz0 b1.size
    replace hb := hb.trans (b1.mono hb.size)
    clear b1
    have p3 := cr 3 (v3) g0
    go_wp2_with fail
    clear p3
    refine (Yb v3 x3 (k0 - ((zL Je x0 : Nat) : Int)) W1 (Jc Jb H3.out hb) HZ3.out HK3.out).mono ?_
    rintro e W2 ⟨rfl, b1⟩
    replace g0 := (b1.block w.heap.size hz0).trans g0
    replace hz0 := Ee hz0 b1.size
    replace hb := hb.trans (b1.mono hb.size)
    clear b1
    have p4 := cr 4 (v4) g0
    go_wp2_with fail
    clear p4
    refine (szActiveS_N v4 x4 (k0 - ((zL Je x0 : Nat) : Int) - ((zL Jf x3 : Nat) : Int)) W2 (Jc Ji H4.out hb) HZ4.out HK4.out HP4.out HO4.out).mono ?_
    rintro e W3 ⟨rfl, b1⟩
    replace g0 := (b1.block w.heap.size hz0).trans g0
    replace hz0 := Ee hz0 b1.size
    replace hb := hb.trans (b1.mono hb.size)
    clear b1
    go_wp2
    go_ret
    exact ⟨rfl, hb⟩
   ·
    by_cases c3 : k0 - ((zL Je x0 : Nat) : Int) - ((zL Jf x3 : Nat) : Int) - ((zL Jm x4 : Nat) : Int) < ((zL Jk x5 : Nat) : Int)
    ·
     have HZ0 : Hid (((zL Je x0 : Nat) : Int) ≤ k0) := hd (by omega)
     have hn0 : ¬ k0 - ((zL Je x0 : Nat) : Int) < 0 := by omega
     have HK0 : Hid (k0 ≤ 1048576) := hd (by omega)
     have HZ3 : Hid (((zL Jf x3 : Nat) : Int) ≤ k0 - ((zL Je x0 : Nat) : Int)) := hd (by omega)
     have hn3 : ¬ k0 - ((zL Je x0 : Nat) : Int) - ((zL Jf x3 : Nat) : Int) < 0 := by omega
     have HK3 : Hid (k0 - ((zL Je x0 : Nat) : Int) ≤ 1048576) := hd (by omega)
     have HZ4 : Hid (((zL Jm x4 : Nat) : Int) ≤ k0 - ((zL Je x0 : Nat) : Int) - ((zL Jf x3 : Nat) : Int)) := hd (by omega)
     have hn4 : ¬ k0 - ((zL Je x0 : Nat) : Int) - ((zL Jf x3 : Nat) : Int) - ((zL Jm x4 : Nat) : Int) < 0 := by omega
     have HK4 : Hid (k0 - ((zL Je x0 : Nat) : Int) - ((zL Jf x3 : Nat) : Int) ≤ 1048576) := hd (by omega)
     have HZ5 : Hid (k0 - ((zL Je x0 : Nat) : Int) - ((zL Jf x3 : Nat) : Int) - ((zL Jm x4 : Nat) : Int) < ((zL Jk x5 : Nat) : Int)) := hd (by omega)
     have HP5 : Hid (0 ≤ k0 - ((zL Je x0 : Nat) : Int) - ((zL Jf x3 : Nat) : Int) - ((zL Jm x4 : Nat) : Int)) := hd (by omega)
     have HK5 : Hid (k0 - ((zL Je x0 : Nat) : Int) - ((zL Jf x3 : Nat) : Int) - ((zL Jm x4 : Nat) : Int) ≤ 1048576) := hd (by omega)
     clear hs hk
     clear c3 hp c0 c1 c2
     have hb : Below w w (w.alloc (.cells #[v0, a1, a2, v3, v4, v5, v6, a7] 30)) := (Eh _ w).alloc (Ed _) _
     have g0 : (w.alloc (.cells #[v0, a1, a2, v3, v4, v5, v6, a7] 30)).heap[w.heap.size]? = some (.cells #[v0, a1, a2, v3, v4, v5, v6, a7] 30 (0, 0)) := Uw w _
     have hz0 : w.heap.size < (w.alloc (.cells #[v0, a1, a2, v3, v4, v5, v6, a7] 30)).heap.size := by simp
     go_enter Tryz.func7, Tryz.ntmps7
     go_wp2_with fail
     generalize (w.alloc (.cells #[v0, a1, a2, v3, v4, v5, v6, a7] 30)) = W at *
     refine (szStore_Y a1 v0 x0 (k0) W (Jc Jd H0.out hb) HZ0.out HK0.out).mono ?_
     rintro e W1 ⟨rfl, b1⟩
     replace g0 := (b1.block w.heap.size hz0).trans g0
     replace hz0 := Ee hz0 b1.size
     replace hb := hb.trans (b1.mono hb.size)
     clear b1
     have p3 := cr 3 (v3) g0
     go_wp2_with fail
     clear p3
     refine (Yb v3 x3 (k0 - ((zL Je x0 : Nat) : Int)) W1 (Jc Jb H3.out hb) HZ3.out HK3.out).mono ?_
     rintro e W2 ⟨rfl, b1⟩
     replace g0 := (b1.block w.heap.size hz0).trans g0
     replace hz0 := Ee hz0 b1.size
     replace hb := hb.trans (b1.mono hb.size)
     clear b1
     have p4 := cr 4 (v4) g0
     go_wp2_with fail
     clear p4
     refine (szActiveS_Y v4 x4 (k0 - ((zL Je x0 : Nat) : Int) - ((zL Jf x3 : Nat) : Int)) W2 (Jc Ji H4.out hb) HZ4.out HK4.out).mono ?_
     rintro e W3 ⟨rfl, b1⟩
     replace g0 := (b1.block w.heap.size hz0).trans g0
     replace hz0 := Ee hz0 b1.size
     replace hb := hb.trans (b1.mono hb.size)
     clear b1
     have p5 := cr 5 (v5) g0
     go_wp2_with fail
     clear p5
     refine (szFinishedS_N v5 x5 (k0 - ((zL Je x0 : Nat) : Int) - ((zL Jf x3 : Nat) : Int) - ((zL Jm x4 : Nat) : Int)) W3 (Jc Jg H5.out hb) HZ5.out HK5.out HP5.out HO5.out).mono ?_
     rintro e W4 ⟨rfl, b1⟩
     replace g0 := (b1.block w.heap.size hz0).trans g0
     replace hz0 := Ee hz0 b1.size
     replace hb := hb.trans (b1.mono hb.size)
     clear b1
     go_wp2
     go_ret
     exact ⟨rfl, hb⟩
    ·
     have HZ0 : Hid (((zL Je x0 : Nat) : Int) ≤ k0) := hd (by omega)
     have hn0 : ¬ k0 - ((zL Je x0 : Nat) : Int) < 0 := by omega
     have HK0 : Hid (k0 ≤ 1048576) := hd (by omega)
     have HZ3 : Hid (((zL Jf x3 : Nat) : Int) ≤ k0 - ((zL Je x0 : Nat) : Int)) := hd (by omega)
     have hn3 : ¬ k0 - ((zL Je x0 : Nat) : Int) - ((zL Jf x3 : Nat) : Int) < 0 := by omega
     have HK3 : Hid (k0 - ((zL Je x0 : Nat) : Int) ≤ 1048576) := hd (by omega)
     have HZ4 : Hid (((zL Jm x4 : Nat) : Int) ≤ k0 - ((zL Je x0 : Nat) : Int) - ((zL Jf x3 : Nat) : Int)) := hd (by omega)
     have hn4 : ¬ k0 - ((zL Je x0 : Nat) : Int) - ((zL Jf x3 : Nat) : Int) - ((zL Jm x4 : Nat) : Int) < 0 := by omega
     have HK4 : Hid (k0 - ((zL Je x0 : Nat) : Int) - ((zL Jf x3 : Nat) : Int) ≤ 1048576) := hd (by omega)
     have HZ5 : Hid (((zL Jk x5 : Nat) : Int) ≤ k0 - ((zL Je x0 : Nat) : Int) - ((zL Jf x3 : Nat) : Int) - ((zL Jm x4 : Nat) : Int)) := hd (by omega)
     have hn5 : ¬ k0 - ((zL Je x0 : Nat) : Int) - ((zL Jf x3 : Nat) : Int) - ((zL Jm x4 : Nat) : Int) - ((zL Jk x5 : Nat) : Int) < 0 := by omega
     have HK5 : Hid (k0 - ((zL Je x0 : Nat) : Int) - ((zL Jf x3 : Nat) : Int) - ((zL Jm x4 : Nat) : Int) ≤ 1048576) := hd (by omega)
     have HZ6 : Hid (k0 - ((zL Je x0 : Nat) : Int) - ((zL Jf x3 : Nat) : Int) - ((zL Jm x4 : Nat) : Int) - ((zL Jk x5 : Nat) : Int) < ((zL Jp x6 : Nat) : Int)) := hd (by omega)
     have HP6 : Hid (0 ≤ k0 - ((zL Je x0 : Nat) : Int) - ((zL Jf x3 : Nat) : Int) - ((zL Jm x4 : Nat) : Int) - ((zL Jk x5 : Nat) : Int)) := hd (by omega)
     have HK6 : Hid (k0 - ((zL Je x0 : Nat) : Int) - ((zL Jf x3 : Nat) : Int) - ((zL Jm x4 : Nat) : Int) - ((zL Jk x5 : Nat) : Int) ≤ 1048576) := hd (by omega)
     clear hs hk
     clear hp c0 c1 c2 c3
     have hb : Below w w (w.alloc (.cells #[v0, a1, a2, v3, v4, v5, v6, a7] 30)) := (Eh _ w).alloc (Ed _) _
     have g0 : (w.alloc (.cells #[v0, a1, a2, v3, v4, v5, v6, a7] 30)).heap[w.heap.size]? = some (.cells #[v0, a1, a2, v3, v4, v5, v6, a7] 30 (0, 0)) := Uw w _
     have hz0 : w.heap.size < (w.alloc (.cells #[v0, a1, a2, v3, v4, v5, v6, a7] 30)).heap.size := by simp
     go_enter Tryz.func7, Tryz.ntmps7
     go_wp2_with fail
     generalize (w.alloc (.cells #[v0, a1, a2, v3, v4, v5, v6, a7] 30)) = W at *
     refine (szStore_Y a1 v0 x0 (k0) W (Jc Jd H0.out hb) HZ0.out HK0.out).mono ?_
     rintro e W1 ⟨rfl, b1⟩
     replace g0 := (b1.block w.heap.size hz0).trans g0
     replace hz0 := Ee hz0 b1.size
     replace hb := hb.trans (b1.mono hb.size)
     clear b1
     have p3 := cr 3 (v3) g0
     go_wp2_with fail
     clear p3
     refine (Yb v3 x3 (k0 - ((zL Je x0 : Nat) : Int)) W1 (Jc Jb H3.out hb) HZ3.out HK3.out).mono ?_
     rintro e W2 ⟨rfl, b1⟩
     replace g0 := (b1.block w.heap.size hz0).trans g0
     replace hz0 := Ee hz0 b1.size
     replace hb := hb.trans (b1.mono hb.size)
     clear b1
     have p4 := cr 4 (v4) g0
     go_wp2_with fail
     clear p4
     refine (szActiveS_Y v4 x4 (k0 - ((zL Je x0 : Nat) : Int) - ((zL Jf x3 : Nat) : Int)) W2 (Jc Ji H4.out hb) HZ4.out HK4.out).mono ?_
     rintro e W3 ⟨rfl, b1⟩
     replace g0 := (b1.block w.heap.size hz0).trans g0
     replace hz0 := Ee hz0 b1.size
     replace hb := hb.trans (b1.mono hb.size)
     clear b1
     have p5 := cr 5 (v5) g0
     go_wp2_with fail
     clear p5
     refine (szFinishedS_Y v5 x5 (k0 - ((zL Je x0 : Nat) : Int) - ((zL Jf x3 : Nat) : Int) - ((zL Jm x4 : Nat) : Int)) W3 (Jc Jg H5.out hb) HZ5.out HK5.out).mono ?_
     rintro e W4 ⟨rfl, b1⟩
     replace g0 := (b1.block w.heap.size hz0).trans g0
     replace hz0 := Ee hz0 b1.size
     replace hb := hb.trans (b1.mono hb.size)
     clear b1
     have p6 := cr 6 (v6) g0
     go_wp2_with fail
     clear p6
     refine (szChargeS_N v6 x6 (k0 - ((zL Je x0 : Nat) : Int) - ((zL Jf x3 : Nat) : Int) - ((zL Jm x4 : Nat) : Int) - ((zL Jk x5 : Nat) : Int)) W4 (Jc Jj H6.out hb) HZ6.out HK6.out HP6.out HO6.out).mono ?_
     rintro e W5 ⟨rfl, b1⟩
     replace g0 := (b1.block w.heap.size hz0).trans g0
     replace hz0 := Ee hz0 b1.size
     replace hb := hb.trans (b1.mono hb.size)
     clear b1
     go_wp2
     go_ret
     exact ⟨rfl, hb⟩
set_option maxHeartbeats 8000000 in
theorem toEngine_T (a1 a2 a7 : Int) (v0 v3 v4 v5 v6 : Value) (x0 : List (List (Int × List Int × Int × Int))) (x3 : List Int) (x4 : List ((Int × Int × List (Int × Int × Int) × List Int) × Int × List Int × Int × Int × Int × List (Int × List Int))) (x5 : List ((Int × Int × List (Int × Int × Int) × List Int) × Int × Int × List (Int × List Int))) (x6 : List (Int × Int × List Int × List Int × List Int)) (w : World) (h0 : Kc Je w v0 x0) (h3 : Kc Jf w v3 x3) (h4 : Kc Jm w v4 x4) (h5 : Kc Jk w v5 x5) (h6 : Kc Jp w v6 x6) (s0 : zL Je x0 ≤ 1048576) (s3 : zL Jf x3 ≤ 1048576) (s4 : zL Jm x4 ≤ 1048576) (s5 : zL Jk x5 ≤ 1048576) (s6 : zL Jp x6 ≤ 1048576) :
  Calls Tryz.prog 10 #[.agg #[v0, a1, a2, v3, v4, v5, v6, a7]] w (Yc Yj (fun cs => .agg cs.toArray) w ((x0, a1), a2, x3, x4, x5, x6, a7)) := by
 have H0 := hd h0
 have H3 := hd h3
 have H4 := hd h4
 have H5 := hd h5
 have H6 := hd h6
 clear h0 h3 h4 h5 h6
 have S0 := hd s0
 have S3 := hd s3
 have S4 := hd s4
 have S5 := hd s5
 have S6 := hd s6
 clear s0 s3 s4 s5 s6
 go_enter Tryz.func10, Tryz.ntmps10
 go_wp2_with fail
 have hb : Below w w (((w.alloc (.cells #[v0, a1, a2, v3, v4, v5, v6, a7] 30)).alloc (.cells #[(), Ja, Ja, (), (), (), (), Ja] 43)).alloc (.cells #[(), Ja, Ja, (), (), (), (), Ja] 43)) := (((Eh _ w).alloc (Ed _) _).alloc (by simp) _).alloc (by simp; omega) _
 have g2 : (((w.alloc (.cells #[v0, a1, a2, v3, v4, v5, v6, a7] 30)).alloc (.cells #[(), Ja, Ja, (), (), (), (), Ja] 43)).alloc (.cells #[(), Ja, Ja, (), (), (), (), Ja] 43)).heap[w.heap.size + 1 + 1]? = some (.cells #[(), Ja, Ja, (), (), (), (), Ja] 43 (0, 0)) := by
  have := Uw ((w.alloc (.cells #[v0, a1, a2, v3, v4, v5, v6, a7] 30)).alloc (.cells #[(), Ja, Ja, (), (), (), (), Ja] 43)) (.cells #[(), Ja, Ja, (), (), (), (), Ja] 43)
  simpa only [Ux] using this
 have g1 : (((w.alloc (.cells #[v0, a1, a2, v3, v4, v5, v6, a7] 30)).alloc (.cells #[(), Ja, Ja, (), (), (), (), Ja] 43)).alloc (.cells #[(), Ja, Ja, (), (), (), (), Ja] 43)).heap[w.heap.size + 1]? = some (.cells #[(), Ja, Ja, (), (), (), (), Ja] 43 (0, 0)) := by
  have := Uw (w.alloc (.cells #[v0, a1, a2, v3, v4, v5, v6, a7] 30)) (.cells #[(), Ja, Ja, (), (), (), (), Ja] 43)
  rw [Below.heap_alloc _ _ _ (by simp)]
  simpa only [Ux] using this
 have g0 : (((w.alloc (.cells #[v0, a1, a2, v3, v4, v5, v6, a7] 30)).alloc (.cells #[(), Ja, Ja, (), (), (), (), Ja] 43)).alloc (.cells #[(), Ja, Ja, (), (), (), (), Ja] 43)).heap[w.heap.size]? = some (.cells #[v0, a1, a2, v3, v4, v5, v6, a7] 30 (0, 0)) := by
  rw [Below.heap_alloc _ _ _ (by simp; omega), Below.heap_alloc _ _ _ (by simp)]
  exact Uw w _
 have hz : w.heap.size + 2 < (((w.alloc (.cells #[v0, a1, a2, v3, v4, v5, v6, a7] 30)).alloc (.cells #[(), Ja, Ja, (), (), (), (), Ja] 43)).alloc (.cells #[(), Ja, Ja, (), (), (), (), Ja] 43)).heap.size := by simp [Ux]
 generalize (((w.alloc (.cells #[v0, a1, a2, v3, v4, v5, v6, a7] 30)).alloc (.cells #[(), Ja, Ja, (), (), (), (), Ja] 43)).alloc (.cells #[(), Ja, Ja, (), (), (), (), Ja] 43)) = W at *
 refine (toStore_T a1 v0 x0 W (Jc Jd H0.out hb) S0.out).mono ?_
 rintro e w1 ⟨cs, rfl, ow, b1⟩
 replace ow := tStore_law.mono (tStore_law.lt ow) (F' := fun b => W.heap.size ≤ b ∧ b < w1.heap.size) (fun b h => h)
 obtain ⟨u0, F0, rfl, o0, q0⟩ := tStore_O ow
 obtain ⟨ua0, uc0, rfl⟩ := Js o0
 replace g0 := (b1.block _ (by omega)).trans g0
 replace g1 := (b1.block _ (by omega)).trans g1
 replace g2 := (b1.block _ (by omega)).trans g2
 have zz1 := b1.size
 replace hb := hb.trans (b1.mono (by omega))
 clear b1
 have c2_0 := cr 0 () g2
 have f2_0 := Ut w1 _ 0 _ _ g2
 have c2_1 := cr 1 Ja g2
 have f2_1 := Ut w1 _ 1 _ _ g2
 have c2_2 := cr 2 Ja g2
 have f2_2 := Ut w1 _ 2 _ _ g2
 have ne1 : ¬ w.heap.size = w.heap.size + 1 + 1 := by omega
 have ne2 : ¬ w.heap.size + 1 = w.heap.size + 1 + 1 := by omega
 have ne3 : ¬ w.heap.size + 1 + 1 = w.heap.size + 1 := by omega
 have c0_2 := cr 2 a2 g0
 have c0_3 := cr 3 (v3) g0
 have l0_2 : ((w1.setCell ⟨w.heap.size + 1 + 1, 0, none⟩ (.slice ua0 x0.length uc0)).setCell ⟨w.heap.size + 1 + 1, 1, none⟩ a1).cell? ⟨w, 2, none⟩ = some (Value.int .i64 a2) := by
  have m : ((w1.setCell ⟨w.heap.size + 1 + 1, 0, none⟩ (.slice ua0 x0.length uc0)).setCell ⟨w.heap.size + 1 + 1, 1, none⟩ a1).heap[w.heap.size]? = some (.cells #[v0, a1, a2, v3, v4, v5, v6, a7] 30 (0, 0)) := by
   repeat rw [heap_setCell_other _ _ _ _ (by simp <;> omega)]
   exact g0
  exact (Uu _ _ 2 _ _ _ m).trans rfl
 have l0_3 : (((w1.setCell ⟨w.heap.size + 1 + 1, 0, none⟩ (.slice ua0 x0.length uc0)).setCell ⟨w.heap.size + 1 + 1, 1, none⟩ a1).setCell ⟨w.heap.size + 1 + 1, 2, none⟩ a2).cell? ⟨w, 3, none⟩ = some (v3) := by
  have m : (((w1.setCell ⟨w.heap.size + 1 + 1, 0, none⟩ (.slice ua0 x0.length uc0)).setCell ⟨w.heap.size + 1 + 1, 1, none⟩ a1).setCell ⟨w.heap.size + 1 + 1, 2, none⟩ a2).heap[w.heap.size]? = some (.cells #[v0, a1, a2, v3, v4, v5, v6, a7] 30 (0, 0)) := by
   repeat rw [heap_setCell_other _ _ _ _ (by simp <;> omega)]
   exact g0
  exact (Uu _ _ 3 _ _ _ m).trans rfl
 go_wp2_with fail
 clear c2_0 f2_0 c2_1 f2_1 c2_2 f2_2 ne1 ne2 ne3 c0_2 c0_3 l0_2 l0_3
 have hw := ts3 w1 (w.heap.size + 1 + 1) (.slice ua0 x0.length uc0) a1 a2
 replace g0 := (hw.block _ (by omega) (by omega)).trans g0
 replace g1 := (hw.block _ (by omega) (by omega)).trans g1
 have g2n := (Uv _ (w.heap.size + 1 + 1) 2 _ _ a2 (Uv _ (w.heap.size + 1 + 1) 1 _ _ a1 (Uv _ (w.heap.size + 1 + 1) 0 _ _ (.slice ua0 x0.length uc0) g2)))
 replace g2 : (((w1.setCell ⟨w.heap.size + 1 + 1, 0, none⟩ (.slice ua0 x0.length uc0)).setCell ⟨w.heap.size + 1 + 1, 1, none⟩ a1).setCell ⟨w.heap.size + 1 + 1, 2, none⟩ a2).heap[w.heap.size + 1 + 1]? = some (.cells #[.slice ua0 x0.length uc0, a1, a2, (), (), (), (), Ja] 43 (0, 0)) := by simpa using g2n
 clear g2n
 replace o0 := Ju Jd o0 hw (fun b h1 h2 => by first | (have := h1.1; omega) | (have := q0 b h1; omega))
 replace hb := Jr hb hw (fun b h => by omega) (by omega)
 have hz0 := hw.size
 clear hw
 generalize (((w1.setCell ⟨w.heap.size + 1 + 1, 0, none⟩ (.slice ua0 x0.length uc0)).setCell ⟨w.heap.size + 1 + 1, 1, none⟩ a1).setCell ⟨w.heap.size + 1 + 1, 2, none⟩ a2) = W1 at *
 refine (Xh v3 x3 W1 (Jc Jb H3.out hb) S3.out).mono ?_
 rintro e w2 ⟨u3, rfl, o3, b1⟩
 obtain ⟨ua3, uc3, rfl⟩ := Js o3
 replace o3 := Kk (Ki Jb o3) (F' := fun b => W1.heap.size ≤ b ∧ b < w2.heap.size) (fun b h => h)
 replace g0 := (b1.block _ (by omega)).trans g0
 replace g1 := (b1.block _ (by omega)).trans g1
 replace g2 := (b1.block _ (by omega)).trans g2
 replace o0 := Kq Jd o0 b1
 have zz2 := b1.size
 replace hb := hb.trans (b1.mono (by omega))
 clear b1
 have c2_0 := cr 0 (Value.slice ua0 x0.length uc0) g2
 have f2_0 := Ut w2 _ 0 _ _ g2
 have c2_1 := cr 1 a1 g2
 have f2_1 := Ut w2 _ 1 _ _ g2
 have c2_2 := cr 2 a2 g2
 have f2_2 := Ut w2 _ 2 _ _ g2
 have c2_3 := cr 3 () g2
 have f2_3 := Ut w2 _ 3 _ _ g2
 have ne1 : ¬ w.heap.size = w.heap.size + 1 + 1 := by omega
 have ne2 : ¬ w.heap.size + 1 = w.heap.size + 1 + 1 := by omega
 have ne3 : ¬ w.heap.size + 1 + 1 = w.heap.size + 1 := by omega
 have c0_4 := cr 4 (v4) g0
 have l0_4 : (w2.setCell ⟨w.heap.size + 1 + 1, 3, none⟩ (.slice ua3 x3.length uc3)).cell? ⟨w, 4, none⟩ = some (v4) := by
  have m : (w2.setCell ⟨w.heap.size + 1 + 1, 3, none⟩ (.slice ua3 x3.length uc3)).heap[w.heap.size]? = some (.cells #[v0, a1, a2, v3, v4, v5, v6, a7] 30 (0, 0)) := by
   repeat rw [heap_setCell_other _ _ _ _ (by simp <;> omega)]
   exact g0
  exact (Uu _ _ 4 _ _ _ m).trans rfl
 go_wp2_with fail
 clear c2_0 f2_0 c2_1 f2_1 c2_2 f2_2 c2_3 f2_3 ne1 ne2 ne3 c0_4 l0_4
 have hw : Jy (fun b => b = w.heap.size + 1 + 1) w2 (w2.setCell ⟨w.heap.size + 1 + 1, 3, none⟩ (.slice ua3 x3.length uc3)) := by
  first | exact ((Jy.refl (fun b => b = w.heap.size + 1 + 1) _).trans (Jh (G := fun b => b = w.heap.size + 1 + 1) (g := w.heap.size + 1 + 1) (j := 3) (u := .slice ua3 x3.length uc3) rfl)) | skip
 replace g0 := (hw.block _ (by omega) (by omega)).trans g0
 replace g1 := (hw.block _ (by omega) (by omega)).trans g1
 have g2n := (Uv _ (w.heap.size + 1 + 1) 3 _ _ (.slice ua3 x3.length uc3) g2)
 replace g2 : (w2.setCell ⟨w.heap.size + 1 + 1, 3, none⟩ (.slice ua3 x3.length uc3)).heap[w.heap.size + 1 + 1]? = some (.cells #[.slice ua0 x0.length uc0, a1, a2, .slice ua3 x3.length uc3, (), (), (), Ja] 43 (0, 0)) := by simpa using g2n
 clear g2n
 replace o0 := Ju Jd o0 hw (fun b h1 h2 => by first | (have := h1.1; omega) | (have := q0 b h1; omega))
 replace o3 := Ju Jb o3 hw (fun b h1 h2 => by first | (have := h1.1; omega) | (have := q3 b h1; omega))
 replace hb := Jr hb hw (fun b h => by omega) (by omega)
 have hz1 := hw.size
 clear hw
 generalize (w2.setCell ⟨w.heap.size + 1 + 1, 3, none⟩ (.slice ua3 x3.length uc3)) = W2 at *
 refine (toActiveS_S v4 x4 W2 (Jc Ji H4.out hb) S4.out).mono ?_
 rintro e w3 ⟨u4, rfl, o4, b1⟩
 obtain ⟨ua4, uc4, rfl⟩ := Js o4
 replace o4 := Kk (Ki Ji o4) (F' := fun b => W2.heap.size ≤ b ∧ b < w3.heap.size) (fun b h => h)
 replace g0 := (b1.block _ (by omega)).trans g0
 replace g1 := (b1.block _ (by omega)).trans g1
 replace g2 := (b1.block _ (by omega)).trans g2
 replace o0 := Kq Jd o0 b1
 replace o3 := Kq Jb o3 b1
 have zz3 := b1.size
 replace hb := hb.trans (b1.mono (by omega))
 clear b1
 have c2_0 := cr 0 (Value.slice ua0 x0.length uc0) g2
 have f2_0 := Ut w3 _ 0 _ _ g2
 have c2_1 := cr 1 a1 g2
 have f2_1 := Ut w3 _ 1 _ _ g2
 have c2_2 := cr 2 a2 g2
 have f2_2 := Ut w3 _ 2 _ _ g2
 have c2_3 := cr 3 (Value.slice ua3 x3.length uc3) g2
 have f2_3 := Ut w3 _ 3 _ _ g2
 have c2_4 := cr 4 () g2
 have f2_4 := Ut w3 _ 4 _ _ g2
 have ne1 : ¬ w.heap.size = w.heap.size + 1 + 1 := by omega
 have ne2 : ¬ w.heap.size + 1 = w.heap.size + 1 + 1 := by omega
 have ne3 : ¬ w.heap.size + 1 + 1 = w.heap.size + 1 := by omega
 have c0_5 := cr 5 (v5) g0
 have l0_5 : (w3.setCell ⟨w.heap.size + 1 + 1, 4, none⟩ (.slice ua4 x4.length uc4)).cell? ⟨w, 5, none⟩ = some (v5) := by
  have m : (w3.setCell ⟨w.heap.size + 1 + 1, 4, none⟩ (.slice ua4 x4.length uc4)).heap[w.heap.size]? = some (.cells #[v0, a1, a2, v3, v4, v5, v6, a7] 30 (0, 0)) := by
   repeat rw [heap_setCell_other _ _ _ _ (by simp <;> omega)]
   exact g0
  exact (Uu _ _ 5 _ _ _ m).trans rfl
 go_wp2_with fail
 clear c2_0 f2_0 c2_1 f2_1 c2_2 f2_2 c2_3 f2_3 c2_4 f2_4 ne1 ne2 ne3 c0_5 l0_5
 have hw : Jy (fun b => b = w.heap.size + 1 + 1) w3 (w3.setCell ⟨w.heap.size + 1 + 1, 4, none⟩ (.slice ua4 x4.length uc4)) := by
  first | exact ((Jy.refl (fun b => b = w.heap.size + 1 + 1) _).trans (Jh (G := fun b => b = w.heap.size + 1 + 1) (g := w.heap.size + 1 + 1) (j := 4) (u := .slice ua4 x4.length uc4) rfl)) | skip
 replace g0 := (hw.block _ (by omega) (by omega)).trans g0
 replace g1 := (hw.block _ (by omega) (by omega)).trans g1
 have g2n := (Uv _ (w.heap.size + 1 + 1) 4 _ _ (.slice ua4 x4.length uc4) g2)
 replace g2 : (w3.setCell ⟨w.heap.size + 1 + 1, 4, none⟩ (.slice ua4 x4.length uc4)).heap[w.heap.size + 1 + 1]? = some (.cells #[.slice ua0 x0.length uc0, a1, a2, .slice ua3 x3.length uc3, .slice ua4 x4.length uc4, (), (), Ja] 43 (0, 0)) := by simpa using g2n
 clear g2n
 replace o0 := Ju Jd o0 hw (fun b h1 h2 => by first | (have := h1.1; omega) | (have := q0 b h1; omega))
 replace o3 := Ju Jb o3 hw (fun b h1 h2 => by first | (have := h1.1; omega) | (have := q3 b h1; omega))
 replace o4 := Ju Ji o4 hw (fun b h1 h2 => by first | (have := h1.1; omega) | (have := q4 b h1; omega))
 replace hb := Jr hb hw (fun b h => by omega) (by omega)
 have hz2 := hw.size
 clear hw
 generalize (w3.setCell ⟨w.heap.size + 1 + 1, 4, none⟩ (.slice ua4 x4.length uc4)) = W3 at *
 refine (toFinishedS_S v5 x5 W3 (Jc Jg H5.out hb) S5.out).mono ?_
 rintro e w4 ⟨u5, rfl, o5, b1⟩
 obtain ⟨ua5, uc5, rfl⟩ := Js o5
 replace o5 := Kk (Ki Jg o5) (F' := fun b => W3.heap.size ≤ b ∧ b < w4.heap.size) (fun b h => h)
 replace g0 := (b1.block _ (by omega)).trans g0
 replace g1 := (b1.block _ (by omega)).trans g1
 replace g2 := (b1.block _ (by omega)).trans g2
 replace o0 := Kq Jd o0 b1
 replace o3 := Kq Jb o3 b1
 replace o4 := Kq Ji o4 b1
 have zz4 := b1.size
 replace hb := hb.trans (b1.mono (by omega))
 clear b1
 have c2_0 := cr 0 (Value.slice ua0 x0.length uc0) g2
 have f2_0 := Ut w4 _ 0 _ _ g2
 have c2_1 := cr 1 a1 g2
 have f2_1 := Ut w4 _ 1 _ _ g2
 have c2_2 := cr 2 a2 g2
 have f2_2 := Ut w4 _ 2 _ _ g2
 have c2_3 := cr 3 (Value.slice ua3 x3.length uc3) g2
 have f2_3 := Ut w4 _ 3 _ _ g2
 have c2_4 := cr 4 (Value.slice ua4 x4.length uc4) g2
 have f2_4 := Ut w4 _ 4 _ _ g2
 have c2_5 := cr 5 () g2
 have f2_5 := Ut w4 _ 5 _ _ g2
 have ne1 : ¬ w.heap.size = w.heap.size + 1 + 1 := by omega
 have ne2 : ¬ w.heap.size + 1 = w.heap.size + 1 + 1 := by omega
 have ne3 : ¬ w.heap.size + 1 + 1 = w.heap.size + 1 := by omega
 have c0_6 := cr 6 (v6) g0
 have l0_6 : (w4.setCell ⟨w.heap.size + 1 + 1, 5, none⟩ (.slice ua5 x5.length uc5)).cell? ⟨w, 6, none⟩ = some (v6) := by
  have m : (w4.setCell ⟨w.heap.size + 1 + 1, 5, none⟩ (.slice ua5 x5.length uc5)).heap[w.heap.size]? = some (.cells #[v0, a1, a2, v3, v4, v5, v6, a7] 30 (0, 0)) := by
   repeat rw [heap_setCell_other _ _ _ _ (by simp <;> omega)]
   exact g0
  exact (Uu _ _ 6 _ _ _ m).trans rfl
 go_wp2_with fail
 clear c2_0 f2_0 c2_1 f2_1 c2_2 f2_2 c2_3 f2_3 c2_4 f2_4 c2_5 f2_5 ne1 ne2 ne3 c0_6 l0_6
 have hw : Jy (fun b => b = w.heap.size + 1 + 1) w4 (w4.setCell ⟨w.heap.size + 1 + 1, 5, none⟩ (.slice ua5 x5.length uc5)) := by
  first | exact ((Jy.refl (fun b => b = w.heap.size + 1 + 1) _).trans (Jh (G := fun b => b = w.heap.size + 1 + 1) (g := w.heap.size + 1 + 1) (j := 5) (u := .slice ua5 x5.length uc5) rfl)) | skip
 replace g0 := (hw.block _ (by omega) (by omega)).trans g0
 replace g1 := (hw.block _ (by omega) (by omega)).trans g1
 have g2n := (Uv _ (w.heap.size + 1 + 1) 5 _ _ (.slice ua5 x5.length uc5) g2)
 replace g2 : (w4.setCell ⟨w.heap.size + 1 + 1, 5, none⟩ (.slice ua5 x5.length uc5)).heap[w.heap.size + 1 + 1]? = some (.cells #[.slice ua0 x0.length uc0, a1, a2, .slice ua3 x3.length uc3, .slice ua4 x4.length uc4, .slice ua5 x5.length uc5, (), Ja] 43 (0, 0)) := by simpa using g2n
 clear g2n
 replace o0 := Ju Jd o0 hw (fun b h1 h2 => by first | (have := h1.1; omega) | (have := q0 b h1; omega))
 replace o3 := Ju Jb o3 hw (fun b h1 h2 => by first | (have := h1.1; omega) | (have := q3 b h1; omega))
 replace o4 := Ju Ji o4 hw (fun b h1 h2 => by first | (have := h1.1; omega) | (have := q4 b h1; omega))
 replace o5 := Ju Jg o5 hw (fun b h1 h2 => by first | (have := h1.1; omega) | (have := q5 b h1; omega))
 replace hb := Jr hb hw (fun b h => by omega) (by omega)
 have hz3 := hw.size
 clear hw
 generalize (w4.setCell ⟨w.heap.size + 1 + 1, 5, none⟩ (.slice ua5 x5.length uc5)) = W4 at *
 refine (toChargeS_S v6 x6 W4 (Jc Jj H6.out hb) S6.out).mono ?_
 rintro e w5 ⟨u6, rfl, o6, b1⟩
 obtain ⟨ua6, uc6, rfl⟩ := Js o6
 replace o6 := Kk (Ki Jj o6) (F' := fun b => W4.heap.size ≤ b ∧ b < w5.heap.size) (fun b h => h)
 replace g0 := (b1.block _ (by omega)).trans g0
 replace g1 := (b1.block _ (by omega)).trans g1
 replace g2 := (b1.block _ (by omega)).trans g2
 replace o0 := Kq Jd o0 b1
 replace o3 := Kq Jb o3 b1
 replace o4 := Kq Ji o4 b1
 replace o5 := Kq Jg o5 b1
 have zz5 := b1.size
 replace hb := hb.trans (b1.mono (by omega))
 clear b1
 have c2_0 := cr 0 (Value.slice ua0 x0.length uc0) g2
 have f2_0 := Ut w5 _ 0 _ _ g2
 have c2_1 := cr 1 a1 g2
 have f2_1 := Ut w5 _ 1 _ _ g2
 have c2_2 := cr 2 a2 g2
 have f2_2 := Ut w5 _ 2 _ _ g2
 have c2_3 := cr 3 (Value.slice ua3 x3.length uc3) g2
 have f2_3 := Ut w5 _ 3 _ _ g2
 have c2_4 := cr 4 (Value.slice ua4 x4.length uc4) g2
 have f2_4 := Ut w5 _ 4 _ _ g2
 have c2_5 := cr 5 (Value.slice ua5 x5.length uc5) g2
 have f2_5 := Ut w5 _ 5 _ _ g2
 have c2_6 := cr 6 () g2
 have f2_6 := Ut w5 _ 6 _ _ g2
 have c2_7 := cr 7 Ja g2
 have f2_7 := Ut w5 _ 7 _ _ g2
 have ne1 : ¬ w.heap.size = w.heap.size + 1 + 1 := by omega
 have ne2 : ¬ w.heap.size + 1 = w.heap.size + 1 + 1 := by omega
 have ne3 : ¬ w.heap.size + 1 + 1 = w.heap.size + 1 := by omega
 have c0_7 := cr 7 a7 g0
 have c1_0 := cr 0 () g1
 have f1_0 := Ut w5 _ 0 _ _ g1
 have c1_1 := cr 1 Ja g1
 have f1_1 := Ut w5 _ 1 _ _ g1
 have c1_2 := cr 2 Ja g1
 have f1_2 := Ut w5 _ 2 _ _ g1
 have c1_3 := cr 3 () g1
 have f1_3 := Ut w5 _ 3 _ _ g1
 have c1_4 := cr 4 () g1
 have f1_4 := Ut w5 _ 4 _ _ g1
 have c1_5 := cr 5 () g1
 have f1_5 := Ut w5 _ 5 _ _ g1
 have c1_6 := cr 6 () g1
 have f1_6 := Ut w5 _ 6 _ _ g1
 have c1_7 := cr 7 Ja g1
 have f1_7 := Ut w5 _ 7 _ _ g1
 have l0_7 : (w5.setCell ⟨w.heap.size + 1 + 1, 6, none⟩ (.slice ua6 x6.length uc6)).cell? ⟨w, 7, none⟩ = some (Value.int .i64 a7) := by
  have m : (w5.setCell ⟨w.heap.size + 1 + 1, 6, none⟩ (.slice ua6 x6.length uc6)).heap[w.heap.size]? = some (.cells #[v0, a1, a2, v3, v4, v5, v6, a7] 30 (0, 0)) := by
   repeat rw [heap_setCell_other _ _ _ _ (by simp <;> omega)]
   exact g0
  exact (Uu _ _ 7 _ _ _ m).trans rfl
 go_wp2
 clear c2_0 f2_0 c2_1 f2_1 c2_2 f2_2 c2_3 f2_3 c2_4 f2_4 c2_5 f2_5 c2_6 f2_6 c2_7 f2_7 ne1 ne2 ne3 c0_7 c1_0 f1_0 c1_1 f1_1 c1_2 f1_2 c1_3 f1_3 c1_4 f1_4 c1_5 f1_5 c1_6 f1_6 c1_7 f1_7 l0_7
 have hw : Jy (fun b => b = w.heap.size + 1 ∨ b = w.heap.size + 1 + 1) w5 ((((((((((w5.setCell ⟨w.heap.size + 1 + 1, 6, none⟩ (.slice ua6 x6.length uc6)).setCell ⟨w.heap.size + 1 + 1, 7, none⟩ a7).setCell ⟨w.heap.size + 1, 0, none⟩ (.slice ua0 x0.length uc0)).setCell ⟨w.heap.size + 1, 1, none⟩ a1).setCell ⟨w.heap.size + 1, 2, none⟩ a2).setCell ⟨w.heap.size + 1, 3, none⟩ (.slice ua3 x3.length uc3)).setCell ⟨w.heap.size + 1, 4, none⟩ (.slice ua4 x4.length uc4)).setCell ⟨w.heap.size + 1, 5, none⟩ (.slice ua5 x5.length uc5)).setCell ⟨w.heap.size + 1, 6, none⟩ (.slice ua6 x6.length uc6)).setCell ⟨w.heap.size + 1, 7, none⟩ a7) := by
  first | exact (((((((((((Jy.refl _ _).trans (Jh (g := w.heap.size + 1 + 1) (j := 6) (u := .slice ua6 x6.length uc6) (Or.inr rfl))).trans (Jh (g := w.heap.size + 1 + 1) (j := 7) (u := .int .i64 a7) (Or.inr rfl))).trans (Jh (g := w.heap.size + 1) (j := 0) (u := .slice ua0 x0.length uc0) (Or.inl rfl))).trans (Jh (g := w.heap.size + 1) (j := 1) (u := .int .i64 a1) (Or.inl rfl))).trans (Jh (g := w.heap.size + 1) (j := 2) (u := .int .i64 a2) (Or.inl rfl))).trans (Jh (g := w.heap.size + 1) (j := 3) (u := .slice ua3 x3.length uc3) (Or.inl rfl))).trans (Jh (g := w.heap.size + 1) (j := 4) (u := .slice ua4 x4.length uc4) (Or.inl rfl))).trans (Jh (g := w.heap.size + 1) (j := 5) (u := .slice ua5 x5.length uc5) (Or.inl rfl))).trans (Jh (g := w.heap.size + 1) (j := 6) (u := .slice ua6 x6.length uc6) (Or.inl rfl))).trans (Jh (g := w.heap.size + 1) (j := 7) (u := .int .i64 a7) (Or.inl rfl))) | skip
 have r := (Uv _ (w.heap.size + 1) 7 _ _ a7 (Uv _ (w.heap.size + 1) 6 _ _ (.slice ua6 x6.length uc6) (Uv _ (w.heap.size + 1) 5 _ _ (.slice ua5 x5.length uc5) (Uv _ (w.heap.size + 1) 4 _ _ (.slice ua4 x4.length uc4) (Uv _ (w.heap.size + 1) 3 _ _ (.slice ua3 x3.length uc3) (Uv _ (w.heap.size + 1) 2 _ _ a2 (Uv _ (w.heap.size + 1) 1 _ _ a1 (Uv _ (w.heap.size + 1) 0 _ _ (.slice ua0 x0.length uc0) ((heap_setCell_other _ ⟨w.heap.size + 1 + 1, 7, none⟩ (w.heap.size + 1) a7 (by simp)).trans ((heap_setCell_other _ ⟨w.heap.size + 1 + 1, 6, none⟩ (w.heap.size + 1) (.slice ua6 x6.length uc6) (by simp)).trans g1))))))))))
 have e0 := Uu _ _ 0 _ _ _ r
 have e1 := Uu _ _ 1 _ _ _ r
 have e2 := Uu _ _ 2 _ _ _ r
 have e3 := Uu _ _ 3 _ _ _ r
 have e4 := Uu _ _ 4 _ _ _ r
 have e5 := Uu _ _ 5 _ _ _ r
 have e6 := Uu _ _ 6 _ _ _ r
 have e7 := Uu _ _ 7 _ _ _ r
 simp at e0 e1 e2 e3 e4 e5 e6 e7
 replace o0 := Ju Jd o0 hw (fun b h1 h2 => by first | (have := h1.1; omega) | (have := q0 b h1; omega))
 replace o3 := Ju Jb o3 hw (fun b h1 h2 => by first | (have := h1.1; omega) | (have := q3 b h1; omega))
 replace o4 := Ju Ji o4 hw (fun b h1 h2 => by first | (have := h1.1; omega) | (have := q4 b h1; omega))
 replace o5 := Ju Jg o5 hw (fun b h1 h2 => by first | (have := h1.1; omega) | (have := q5 b h1; omega))
 replace o6 := Ju Jj o6 hw (fun b h1 h2 => by first | (have := h1.1; omega) | (have := q6 b h1; omega))
 replace hb := Jr hb hw (fun b h => by omega) (by omega)
 refine bodyPost_ret (v := .agg #[.slice ua0 x0.length uc0, a1, a2, .slice ua3 x3.length uc3, .slice ua4 x4.length uc4, .slice ua5 x5.length uc5, .slice ua6 x6.length uc6, a7]) ?_ rfl ?_
 ·
  simp [results, Tryz.f10, go_sem, e0, e1, e2, e3, e4, e5, e6, e7]
 ·
  exact ⟨[.slice ua0 x0.length uc0, a1, a2, .slice ua3 x3.length uc3, .slice ua4 x4.length uc4, .slice ua5 x5.length uc5, .slice ua6 x6.length uc6, a7], rfl, tEngine_mkO o0 o3 o4 o5 o6 (fun b h => by show w.heap.size ≤ b; first | (have := h.1; omega) | (have := q0 b h; omega)) (fun b h => by show w.heap.size ≤ b; first | (have := h.1; omega) | (have := q3 b h; omega)) (fun b h => by show w.heap.size ≤ b; first | (have := h.1; omega) | (have := q4 b h; omega)) (fun b h => by show w.heap.size ≤ b; first | (have := h.1; omega) | (have := q5 b h; omega)) (fun b h => by show w.heap.size ≤ b; first | (have := h.1; omega) | (have := q6 b h; omega)) (fun b h1 h2 => by first | exact d0_3 b h1 h2 | (have := h1.1; have := h1.2; have := h2.1; have := h2.2; omega) | (have := q0 b h1; have := h2.1; have := h2.2; omega) | (have := h1.1; have := h1.2; have := q3 b h2; omega) | (have := q0 b h1; have := q3 b h2; omega)) (fun b h1 h2 => by first | exact d0_4 b h1 h2 | (have := h1.1; have := h1.2; have := h2.1; have := h2.2; omega) | (have := q0 b h1; have := h2.1; have := h2.2; omega) | (have := h1.1; have := h1.2; have := q4 b h2; omega) | (have := q0 b h1; have := q4 b h2; omega)) (fun b h1 h2 => by first | exact d0_5 b h1 h2 | (have := h1.1; have := h1.2; have := h2.1; have := h2.2; omega) | (have := q0 b h1; have := h2.1; have := h2.2; omega) | (have := h1.1; have := h1.2; have := q5 b h2; omega) | (have := q0 b h1; have := q5 b h2; omega)) (fun b h1 h2 => by first | exact d0_6 b h1 h2 | (have := h1.1; have := h1.2; have := h2.1; have := h2.2; omega) | (have := q0 b h1; have := h2.1; have := h2.2; omega) | (have := h1.1; have := h1.2; have := q6 b h2; omega) | (have := q0 b h1; have := q6 b h2; omega)) (fun b h1 h2 => by first | exact d3_4 b h1 h2 | (have := h1.1; have := h1.2; have := h2.1; have := h2.2; omega) | (have := q3 b h1; have := h2.1; have := h2.2; omega) | (have := h1.1; have := h1.2; have := q4 b h2; omega) | (have := q3 b h1; have := q4 b h2; omega)) (fun b h1 h2 => by first | exact d3_5 b h1 h2 | (have := h1.1; have := h1.2; have := h2.1; have := h2.2; omega) | (have := q3 b h1; have := h2.1; have := h2.2; omega) | (have := h1.1; have := h1.2; have := q5 b h2; omega) | (have := q3 b h1; have := q5 b h2; omega)) (fun b h1 h2 => by first | exact d3_6 b h1 h2 | (have := h1.1; have := h1.2; have := h2.1; have := h2.2; omega) | (have := q3 b h1; have := h2.1; have := h2.2; omega) | (have := h1.1; have := h1.2; have := q6 b h2; omega) | (have := q3 b h1; have := q6 b h2; omega)) (fun b h1 h2 => by first | exact d4_5 b h1 h2 | (have := h1.1; have := h1.2; have := h2.1; have := h2.2; omega) | (have := q4 b h1; have := h2.1; have := h2.2; omega) | (have := h1.1; have := h1.2; have := q5 b h2; omega) | (have := q4 b h1; have := q5 b h2; omega)) (fun b h1 h2 => by first | exact d4_6 b h1 h2 | (have := h1.1; have := h1.2; have := h2.1; have := h2.2; omega) | (have := q4 b h1; have := h2.1; have := h2.2; omega) | (have := h1.1; have := h1.2; have := q6 b h2; omega) | (have := q4 b h1; have := q6 b h2; omega)) (fun b h1 h2 => by first | exact d5_6 b h1 h2 | (have := h1.1; have := h1.2; have := h2.1; have := h2.2; omega) | (have := q5 b h1; have := h2.1; have := h2.2; omega) | (have := h1.1; have := h1.2; have := q6 b h2; omega) | (have := q5 b h1; have := q6 b h2; omega)), hb⟩
set_option maxHeartbeats 8000000 in
theorem eqEngine_T (a1 a2 a7 : Int) (v0 v3 v4 v5 v6 : Value) (x0 : List (List (Int × List Int × Int × Int))) (x3 : List Int) (x4 : List ((Int × Int × List (Int × Int × Int) × List Int) × Int × List Int × Int × Int × Int × List (Int × List Int))) (x5 : List ((Int × Int × List (Int × Int × Int) × List Int) × Int × Int × List (Int × List Int))) (x6 : List (Int × Int × List Int × List Int × List Int)) (u0 u3 u4 u5 u6 : Value) (w : World) (h0 : Kc Je w v0 x0) (h3 : Kc Jf w v3 x3) (h4 : Kc Jm w v4 x4) (h5 : Kc Jk w v5 x5) (h6 : Kc Jp w v6 x6) (g0 : Kc Je w u0 x0) (g3 : Kc Jf w u3 x3) (g4 : Kc Jm w u4 x4) (g5 : Kc Jk w u5 x5) (g6 : Kc Jp w u6 x6) (s0 : zL Je x0 ≤ 1048576) (s3 : zL Jf x3 ≤ 1048576) (s4 : zL Jm x4 ≤ 1048576) (s5 : zL Jk x5 ≤ 1048576) (s6 : zL Jp x6 ≤ 1048576) :
  Calls Tryz.prog 13 #[.agg #[v0, a1, a2, v3, v4, v5, v6, a7], .agg #[u0, a1, a2, u3, u4, u5, u6, a7]] w fun e w' => e = .returned (.bool true) ∧ Below w w w' := by
 have H0 := hd h0; have G0 := hd g0; have S0 := hd s0
 have H3 := hd h3; have G3 := hd g3; have S3 := hd s3
 have H4 := hd h4; have G4 := hd g4; have S4 := hd s4
 have H5 := hd h5; have G5 := hd g5; have S5 := hd s5
 have H6 := hd h6; have G6 := hd g6; have S6 := hd s6
 clear h0 g0 s0 h3 g3 s3 h4 g4 s4 h5 g5 s5 h6 g6 s6
 have e1 : (a1 != a1) = false := by simp
 have e2 : (a2 != a2) = false := by simp
 have e7 : (a7 != a7) = false := by simp
 go_enter Tryz.func13, Tryz.ntmps13
 go_wp2_with fail
 have hb : Below w w ((w.alloc (.cells #[v0, a1, a2, v3, v4, v5, v6, a7] 43)).alloc (.cells #[u0, a1, a2, u3, u4, u5, u6, a7] 43)) := ((Eh _ w).alloc (Ed _) _).alloc (by simp) _
 have g1 : ((w.alloc (.cells #[v0, a1, a2, v3, v4, v5, v6, a7] 43)).alloc (.cells #[u0, a1, a2, u3, u4, u5, u6, a7] 43)).heap[w.heap.size + 1]? = some (.cells #[u0, a1, a2, u3, u4, u5, u6, a7] 43 (0, 0)) := by
  have := Uw (w.alloc (.cells #[v0, a1, a2, v3, v4, v5, v6, a7] 43)) (.cells #[u0, a1, a2, u3, u4, u5, u6, a7] 43)
  simpa only [Ux] using this
 have g0 : ((w.alloc (.cells #[v0, a1, a2, v3, v4, v5, v6, a7] 43)).alloc (.cells #[u0, a1, a2, u3, u4, u5, u6, a7] 43)).heap[w.heap.size]? = some (.cells #[v0, a1, a2, v3, v4, v5, v6, a7] 43 (0, 0)) := by
  rw [Below.heap_alloc _ _ _ (by simp)]
  exact Uw w _
 have hz : w.heap.size + 1 < ((w.alloc (.cells #[v0, a1, a2, v3, v4, v5, v6, a7] 43)).alloc (.cells #[u0, a1, a2, u3, u4, u5, u6, a7] 43)).heap.size := by simp [Ux]
 generalize ((w.alloc (.cells #[v0, a1, a2, v3, v4, v5, v6, a7] 43)).alloc (.cells #[u0, a1, a2, u3, u4, u5, u6, a7] 43)) = W at *
 refine (eqStore_T a1 v0 x0 u0 W (Jc Jd H0.out hb) (Jc Jd G0.out hb) S0.out).mono ?_
 rintro e w1 ⟨rfl, b1⟩
 replace g0 := (b1.block _ (by omega)).trans g0
 replace g1 := (b1.block _ (by omega)).trans g1
 have zz0 := b1.size
 replace hb := hb.trans (b1.mono (by omega))
 clear b1
 have p0_2 := cr 2 a2 g0
 have p1_2 := cr 2 a2 g1
 have p0_3 := cr 3 (v3) g0
 have p1_3 := cr 3 (u3) g1
 go_wp2_with fail
 clear p0_2 p1_2 p0_3 p1_3
 refine (Ur v3 u3 x3 w1 (Jc Jb H3.out hb) (Jc Jb G3.out hb) S3.out).mono ?_
 rintro e w2 ⟨rfl, b1⟩
 replace g0 := (b1.block _ (by omega)).trans g0
 replace g1 := (b1.block _ (by omega)).trans g1
 have zz1 := b1.size
 replace hb := hb.trans (b1.mono (by omega))
 clear b1
 have p0_4 := cr 4 (v4) g0
 have p1_4 := cr 4 (u4) g1
 go_wp2_with fail
 clear p0_4 p1_4
 refine (eqActiveS_S v4 u4 x4 w2 (Jc Ji H4.out hb) (Jc Ji G4.out hb) S4.out).mono ?_
 rintro e w3 ⟨rfl, b1⟩
 replace g0 := (b1.block _ (by omega)).trans g0
 replace g1 := (b1.block _ (by omega)).trans g1
 have zz2 := b1.size
 replace hb := hb.trans (b1.mono (by omega))
 clear b1
 have p0_5 := cr 5 (v5) g0
 have p1_5 := cr 5 (u5) g1
 go_wp2_with fail
 clear p0_5 p1_5
 refine (eqFinishedS_S v5 u5 x5 w3 (Jc Jg H5.out hb) (Jc Jg G5.out hb) S5.out).mono ?_
 rintro e w4 ⟨rfl, b1⟩
 replace g0 := (b1.block _ (by omega)).trans g0
 replace g1 := (b1.block _ (by omega)).trans g1
 have zz3 := b1.size
 replace hb := hb.trans (b1.mono (by omega))
 clear b1
 have p0_6 := cr 6 (v6) g0
 have p1_6 := cr 6 (u6) g1
 go_wp2_with fail
 clear p0_6 p1_6
 refine (eqChargeS_S v6 u6 x6 w4 (Jc Jj H6.out hb) (Jc Jj G6.out hb) S6.out).mono ?_
 rintro e w5 ⟨rfl, b1⟩
 replace g0 := (b1.block _ (by omega)).trans g0
 replace g1 := (b1.block _ (by omega)).trans g1
 have zz4 := b1.size
 replace hb := hb.trans (b1.mono (by omega))
 clear b1
 have p0_7 := cr 7 a7 g0
 have p1_7 := cr 7 a7 g1
 go_wp2
 clear p0_7 p1_7
 go_ret
 exact ⟨rfl, hb⟩
set_option maxHeartbeats 8000000 in
theorem markEngine_T {ety3 : TypeId} (a1 a2 a7 : Int) (v0 v3 v4 v5 v6 : Value) (x0 : List (List (Int × List Int × Int × Int))) (x3 : List Int) (x4 : List ((Int × Int × List (Int × Int × Int) × List Int) × Int × List Int × Int × Int × Int × List (Int × List Int))) (x5 : List ((Int × Int × List (Int × Int × Int) × List Int) × Int × Int × List (Int × List Int))) (x6 : List (Int × Int × List Int × List Int × List Int)) (F F0 F3 F4 F5 F6 : Nat → Prop) (k : Int) (w : World) (h0 : Kt 179 Je w F0 v0 x0) (h3 : Kt ety3 Jf w F3 v3 x3) (h4 : Kt 88 Jm w F4 v4 x4) (h5 : Kt 136 Jk w F5 v5 x5) (h6 : Kt 137 Jp w F6 v6 x6) (q0 : ∀ b, F0 b → F b) (q3 : ∀ b, F3 b → F b) (q4 : ∀ b, F4 b → F b) (q5 : ∀ b, F5 b → F b) (q6 : ∀ b, F6 b → F b) (d0_3 : ∀ b, F0 b → ¬ F3 b) (d0_4 : ∀ b, F0 b → ¬ F4 b) (d0_5 : ∀ b, F0 b → ¬ F5 b) (d0_6 : ∀ b, F0 b → ¬ F6 b) (d3_4 : ∀ b, F3 b → ¬ F4 b) (d3_5 : ∀ b, F3 b → ¬ F5 b) (d3_6 : ∀ b, F3 b → ¬ F6 b) (d4_5 : ∀ b, F4 b → ¬ F5 b) (d4_6 : ∀ b, F4 b → ¬ F6 b) (d5_6 : ∀ b, F5 b → ¬ F6 b) (s0 : zL Je x0 ≤ 1048576) (s3 : zL Jf x3 ≤ 1048576) (s4 : zL Jm x4 ≤ 1048576) (s5 : zL Jk x5 ≤ 1048576) (s6 : zL Jp x6 ≤ 1048576) (k0 : 0 ≤ k) (k1 : k ≤ 268435456) :
  Calls Tryz.prog 15 #[.agg #[v0, a1, a2, v3, v4, v5, v6, a7], .int .i64 k] w fun e w' => e = .returned (.int .i64 (k + (Jt Je x0 : Int) + (Jt Jf x3 : Int) + (Jt Jm x4 : Int) + (Jt Jk x5 : Int) + (Jt Jp x6 : Int))) ∧ (Kt 179 Je w' F0 v0 (Vf Je x0 (k)) ∧ Kt ety3 Jf w' F3 v3 (Vf Jf x3 (k + (Jt Je x0 : Int))) ∧ Kt 88 Jm w' F4 v4 (Vf Jm x4 (k + (Jt Je x0 : Int) + (Jt Jf x3 : Int))) ∧ Kt 136 Jk w' F5 v5 (Vf Jk x5 (k + (Jt Je x0 : Int) + (Jt Jf x3 : Int) + (Jt Jm x4 : Int))) ∧ Kt 137 Jp w' F6 v6 (Vf Jp x6 (k + (Jt Je x0 : Int) + (Jt Jf x3 : Int) + (Jt Jm x4 : Int) + (Jt Jk x5 : Int)))) ∧ Jy F w w' := by
 have S0 := hd s0
 have N0 := Ko Jd (by decide) x0
 have S3 := hd s3
 have N3 := Ko Jb (by decide) x3
 have S4 := hd s4
 have N4 := Ko Ji (by decide) x4
 have S5 := hd s5
 have N5 := Ko Jg (by decide) x5
 have S6 := hd s6
 have N6 := Ko Jj (by decide) x6
 have R0 : Hid (0 ≤ k ∧ k ≤ 536870912) := hd (by omega)
 have R3 : Hid (0 ≤ k + (Jt Je x0 : Int) ∧ k + (Jt Je x0 : Int) ≤ 536870912) := hd (by omega)
 have R4 : Hid (0 ≤ k + (Jt Je x0 : Int) + (Jt Jf x3 : Int) ∧ k + (Jt Je x0 : Int) + (Jt Jf x3 : Int) ≤ 536870912) := hd (by omega)
 have R5 : Hid (0 ≤ k + (Jt Je x0 : Int) + (Jt Jf x3 : Int) + (Jt Jm x4 : Int) ∧ k + (Jt Je x0 : Int) + (Jt Jf x3 : Int) + (Jt Jm x4 : Int) ≤ 536870912) := hd (by omega)
 have R6 : Hid (0 ≤ k + (Jt Je x0 : Int) + (Jt Jf x3 : Int) + (Jt Jm x4 : Int) + (Jt Jk x5 : Int) ∧ k + (Jt Je x0 : Int) + (Jt Jf x3 : Int) + (Jt Jm x4 : Int) + (Jt Jk x5 : Int) ≤ 536870912) := hd (by omega)
 have RE : Hid (0 ≤ k + (Jt Je x0 : Int) + (Jt Jf x3 : Int) + (Jt Jm x4 : Int) + (Jt Jk x5 : Int) + (Jt Jp x6 : Int)) := hd (by omega)
 clear N0 N3 N4 N5 N6
 have O0 := hd (Ki Jd h0)
 have O3 := hd (Ki Jb h3)
 have O4 := hd (Ki Ji h4)
 have O5 := hd (Ki Jg h5)
 have O6 := hd (Ki Jj h6)
 clear h0 s0 h3 s3 h4 s4 h5 s5 h6 s6
 go_enter Tryz.func15, Tryz.ntmps15
 go_wp2_with fail
 have hb : Below w w (w.alloc (.cells #[v0, a1, a2, v3, v4, v5, v6, a7] 43)) := (Eh _ w).alloc (Ed _) _
 have g0 : (w.alloc (.cells #[v0, a1, a2, v3, v4, v5, v6, a7] 43)).heap[w.heap.size]? = some (.cells #[v0, a1, a2, v3, v4, v5, v6, a7] 43 (0, 0)) := Uw w _
 have hz : w.heap.size < (w.alloc (.cells #[v0, a1, a2, v3, v4, v5, v6, a7] 43)).heap.size := by simp [Ux]
 have ht : Jy F w (w.alloc (.cells #[v0, a1, a2, v3, v4, v5, v6, a7] 43)) := Kj hb
 replace O0 := zf Jd O0 hb
 replace O3 := zf Jb O3 hb
 replace O4 := zf Ji O4 hb
 replace O5 := zf Jg O5 hb
 replace O6 := zf Jj O6 hb
 generalize (w.alloc (.cells #[v0, a1, a2, v3, v4, v5, v6, a7] 43)) = W at *
 refine (markStore_T a1 v0 x0 (fun b => (F0 b) ∧ b < w.heap.size) _ (k) W O0.out (fun b h => ⟨h.1, h.2⟩)  S0.out R0.out.1 (by have := R0.out.2; omega)).mono ?_
 rintro e w1 ⟨rfl, m0, t1⟩
 replace g0 := (t1.block _ hz (fun h => absurd h.2 (Nat.lt_irrefl _))).trans g0
 have zz0 := t1.size
 replace hz := Ee hz t1.size
 replace ht := ht.trans (t1.mono (fun b h => q0 b h.1))
 replace O0 := hd m0
 replace O3 := zt Jb O3 t1 (fun b h1 h2 => d0_3 b h2.1 h1.1)
 replace O4 := zt Ji O4 t1 (fun b h1 h2 => d0_4 b h2.1 h1.1)
 replace O5 := zt Jg O5 t1 (fun b h1 h2 => d0_5 b h2.1 h1.1)
 replace O6 := zt Jj O6 t1 (fun b h1 h2 => d0_6 b h2.1 h1.1)
 clear m0 t1
 have p3 := cr 3 (v3) g0
 go_wp2_with fail
 clear p3
 refine (markIntES_S v3 x3 _ (k + (Jt Je x0 : Int)) w1 O3.out S3.out R3.out.1 (by have := R3.out.2; omega)).mono ?_
 rintro e w2 ⟨rfl, m3, t1⟩
 replace g0 := (t1.block _ hz (fun h => absurd h.2 (Nat.lt_irrefl _))).trans g0
 have zz1 := t1.size
 replace hz := Ee hz t1.size
 replace ht := ht.trans (t1.mono (fun b h => q3 b h.1))
 replace O0 := zt Jd O0 t1 (fun b h1 h2 => d0_3 b h1.1 h2.1)
 replace O3 := hd m3
 replace O4 := zt Ji O4 t1 (fun b h1 h2 => d3_4 b h2.1 h1.1)
 replace O5 := zt Jg O5 t1 (fun b h1 h2 => d3_5 b h2.1 h1.1)
 replace O6 := zt Jj O6 t1 (fun b h1 h2 => d3_6 b h2.1 h1.1)
 clear m3 t1
 have p4 := cr 4 (v4) g0
 go_wp2_with fail
 clear p4
 refine (markActiveS_S v4 x4 _ (k + (Jt Je x0 : Int) + (Jt Jf x3 : Int)) w2 O4.out S4.out R4.out.1 (by have := R4.out.2; omega)).mono ?_
 rintro e w3 ⟨rfl, m4, t1⟩
 replace g0 := (t1.block _ hz (fun h => absurd h.2 (Nat.lt_irrefl _))).trans g0
 have zz2 := t1.size
 replace hz := Ee hz t1.size
 replace ht := ht.trans (t1.mono (fun b h => q4 b h.1))
 replace O0 := zt Jd O0 t1 (fun b h1 h2 => d0_4 b h1.1 h2.1)
 replace O3 := zt Jb O3 t1 (fun b h1 h2 => d3_4 b h1.1 h2.1)
 replace O4 := hd m4
 replace O5 := zt Jg O5 t1 (fun b h1 h2 => d4_5 b h2.1 h1.1)
 replace O6 := zt Jj O6 t1 (fun b h1 h2 => d4_6 b h2.1 h1.1)
 clear m4 t1
 have p5 := cr 5 (v5) g0
 go_wp2_with fail
 clear p5
 refine (markFinishedS_S v5 x5 _ (k + (Jt Je x0 : Int) + (Jt Jf x3 : Int) + (Jt Jm x4 : Int)) w3 O5.out S5.out R5.out.1 (by have := R5.out.2; omega)).mono ?_
 rintro e w4 ⟨rfl, m5, t1⟩
 replace g0 := (t1.block _ hz (fun h => absurd h.2 (Nat.lt_irrefl _))).trans g0
 have zz3 := t1.size
 replace hz := Ee hz t1.size
 replace ht := ht.trans (t1.mono (fun b h => q5 b h.1))
 replace O0 := zt Jd O0 t1 (fun b h1 h2 => d0_5 b h1.1 h2.1)
 replace O3 := zt Jb O3 t1 (fun b h1 h2 => d3_5 b h1.1 h2.1)
 replace O4 := zt Ji O4 t1 (fun b h1 h2 => d4_5 b h1.1 h2.1)
 replace O5 := hd m5
 replace O6 := zt Jj O6 t1 (fun b h1 h2 => d5_6 b h2.1 h1.1)
 clear m5 t1
 have p6 := cr 6 (v6) g0
 go_wp2_with fail
 clear p6
 refine (markChargeS_S v6 x6 _ (k + (Jt Je x0 : Int) + (Jt Jf x3 : Int) + (Jt Jm x4 : Int) + (Jt Jk x5 : Int)) w4 O6.out S6.out R6.out.1 (by have := R6.out.2; omega)).mono ?_
 rintro e w5 ⟨rfl, m6, t1⟩
 replace g0 := (t1.block _ hz (fun h => absurd h.2 (Nat.lt_irrefl _))).trans g0
 have zz4 := t1.size
 replace hz := Ee hz t1.size
 replace ht := ht.trans (t1.mono (fun b h => q6 b h.1))
 replace O0 := zt Jd O0 t1 (fun b h1 h2 => d0_6 b h1.1 h2.1)
 replace O3 := zt Jb O3 t1 (fun b h1 h2 => d3_6 b h1.1 h2.1)
 replace O4 := zt Ji O4 t1 (fun b h1 h2 => d4_6 b h1.1 h2.1)
 replace O5 := zt Jg O5 t1 (fun b h1 h2 => d5_6 b h1.1 h2.1)
 replace O6 := hd m6
 clear m6 t1
 go_wp2
 go_ret
 exact ⟨rfl, ⟨Kk O0.out (fun b h => h.1), Kk O3.out (fun b h => h.1), Kk O4.out (fun b h => h.1), Kk O5.out (fun b h => h.1), Kk O6.out (fun b h => h.1)⟩, ht⟩
set_option maxHeartbeats 8000000 in
theorem heldEngine_T (a1 a2 a7 : Int) (v0 v3 v4 v5 v6 : Value) (x0 : List (List (Int × List Int × Int × Int))) (x3 : List Int) (x4 : List ((Int × Int × List (Int × Int × Int) × List Int) × Int × List Int × Int × Int × Int × List (Int × List Int))) (x5 : List ((Int × Int × List (Int × Int × Int) × List Int) × Int × Int × List (Int × List Int))) (x6 : List (Int × Int × List Int × List Int × List Int)) (k : Int) (w : World) (h0 : Kc Je w v0 (Vf Je x0 (k))) (h3 : Kc Jf w v3 (Vf Jf x3 (k + (Jt Je x0 : Int)))) (h4 : Kc Jm w v4 (Vf Jm x4 (k + (Jt Je x0 : Int) + (Jt Jf x3 : Int)))) (h5 : Kc Jk w v5 (Vf Jk x5 (k + (Jt Je x0 : Int) + (Jt Jf x3 : Int) + (Jt Jm x4 : Int)))) (h6 : Kc Jp w v6 (Vf Jp x6 (k + (Jt Je x0 : Int) + (Jt Jf x3 : Int) + (Jt Jm x4 : Int) + (Jt Jk x5 : Int)))) (s0 : zL Je x0 ≤ 1048576) (s3 : zL Jf x3 ≤ 1048576) (s4 : zL Jm x4 ≤ 1048576) (s5 : zL Jk x5 ≤ 1048576) (s6 : zL Jp x6 ≤ 1048576) (k0 : 0 ≤ k) (k1 : k ≤ 268435456) :
  Calls Tryz.prog 17 #[.agg #[v0, a1, a2, v3, v4, v5, v6, a7], .int .i64 k] w fun e w' => e = .returned (.int .i64 (k + (Jt Je x0 : Int) + (Jt Jf x3 : Int) + (Jt Jm x4 : Int) + (Jt Jk x5 : Int) + (Jt Jp x6 : Int))) ∧ Below w w w' := by
 have S0 := hd s0
 have N0 := Ko Jd (by decide) x0
 have S3 := hd s3
 have N3 := Ko Jb (by decide) x3
 have S4 := hd s4
 have N4 := Ko Ji (by decide) x4
 have S5 := hd s5
 have N5 := Ko Jg (by decide) x5
 have S6 := hd s6
 have N6 := Ko Jj (by decide) x6
 have R0 : Hid (0 ≤ k ∧ k ≤ 536870912) := hd (by omega)
 have R3 : Hid (0 ≤ k + (Jt Je x0 : Int) ∧ k + (Jt Je x0 : Int) ≤ 536870912) := hd (by omega)
 have R4 : Hid (0 ≤ k + (Jt Je x0 : Int) + (Jt Jf x3 : Int) ∧ k + (Jt Je x0 : Int) + (Jt Jf x3 : Int) ≤ 536870912) := hd (by omega)
 have R5 : Hid (0 ≤ k + (Jt Je x0 : Int) + (Jt Jf x3 : Int) + (Jt Jm x4 : Int) ∧ k + (Jt Je x0 : Int) + (Jt Jf x3 : Int) + (Jt Jm x4 : Int) ≤ 536870912) := hd (by omega)
 have R6 : Hid (0 ≤ k + (Jt Je x0 : Int) + (Jt Jf x3 : Int) + (Jt Jm x4 : Int) + (Jt Jk x5 : Int) ∧ k + (Jt Je x0 : Int) + (Jt Jf x3 : Int) + (Jt Jm x4 : Int) + (Jt Jk x5 : Int) ≤ 536870912) := hd (by omega)
 have RE : Hid (0 ≤ k + (Jt Je x0 : Int) + (Jt Jf x3 : Int) + (Jt Jm x4 : Int) + (Jt Jk x5 : Int) + (Jt Jp x6 : Int)) := hd (by omega)
 have ng0 : ¬ k + (Jt Je x0 : Int) < 0 := by omega
 have ng1 : ¬ k + (Jt Je x0 : Int) + (Jt Jf x3 : Int) < 0 := by omega
 have ng2 : ¬ k + (Jt Je x0 : Int) + (Jt Jf x3 : Int) + (Jt Jm x4 : Int) < 0 := by omega
 have ng3 : ¬ k + (Jt Je x0 : Int) + (Jt Jf x3 : Int) + (Jt Jm x4 : Int) + (Jt Jk x5 : Int) < 0 := by omega
 have ng4 : ¬ k + (Jt Je x0 : Int) + (Jt Jf x3 : Int) + (Jt Jm x4 : Int) + (Jt Jk x5 : Int) + (Jt Jp x6 : Int) < 0 := by omega
 clear N0 N3 N4 N5 N6
 have H0 := hd h0
 have H3 := hd h3
 have H4 := hd h4
 have H5 := hd h5
 have H6 := hd h6
 clear h0 s0 h3 s3 h4 s4 h5 s5 h6 s6
 go_enter Tryz.func17, Tryz.ntmps17
 go_wp2_with fail
 have hb : Below w w (w.alloc (.cells #[v0, a1, a2, v3, v4, v5, v6, a7] 43)) := (Eh _ w).alloc (Ed _) _
 have g0 : (w.alloc (.cells #[v0, a1, a2, v3, v4, v5, v6, a7] 43)).heap[w.heap.size]? = some (.cells #[v0, a1, a2, v3, v4, v5, v6, a7] 43 (0, 0)) := Uw w _
 have hz : w.heap.size < (w.alloc (.cells #[v0, a1, a2, v3, v4, v5, v6, a7] 43)).heap.size := by simp [Ux]
 generalize (w.alloc (.cells #[v0, a1, a2, v3, v4, v5, v6, a7] 43)) = W at *
 refine (heldStore_T a1 v0 x0 (k) W (Jc Jd H0.out hb) S0.out R0.out.1 (by have := R0.out.2; omega)).mono ?_
 rintro e w1 ⟨rfl, b1⟩
 replace g0 := (b1.block _ (by omega)).trans g0
 have zz0 := b1.size
 replace hb := hb.trans (b1.mono (by omega))
 clear b1
 have p3 := cr 3 (v3) g0
 go_wp2_with fail
 clear p3
 refine (Xg v3 x3 (k + (Jt Je x0 : Int)) w1 (Jc Jb H3.out hb) S3.out R3.out.1 (by have := R3.out.2; omega)).mono ?_
 rintro e _ ⟨rfl, rfl⟩
 have p4 := cr 4 (v4) g0
 go_wp2_with fail
 clear p4
 refine (heldActiveS_S v4 x4 (k + (Jt Je x0 : Int) + (Jt Jf x3 : Int)) w1 (Jc Ji H4.out hb) S4.out R4.out.1 (by have := R4.out.2; omega)).mono ?_
 rintro e _ ⟨rfl, rfl⟩
 have p5 := cr 5 (v5) g0
 go_wp2_with fail
 clear p5
 refine (heldFinishedS_S v5 x5 (k + (Jt Je x0 : Int) + (Jt Jf x3 : Int) + (Jt Jm x4 : Int)) w1 (Jc Jg H5.out hb) S5.out R5.out.1 (by have := R5.out.2; omega)).mono ?_
 rintro e _ ⟨rfl, rfl⟩
 have p6 := cr 6 (v6) g0
 go_wp2_with fail
 clear p6
 refine (heldChargeS_S v6 x6 (k + (Jt Je x0 : Int) + (Jt Jf x3 : Int) + (Jt Jm x4 : Int) + (Jt Jk x5 : Int)) w1 (Jc Jj H6.out hb) S6.out R6.out.1 (by have := R6.out.2; omega)).mono ?_
 rintro e _ ⟨rfl, rfl⟩
 go_wp2
 go_ret
 exact ⟨rfl, hb⟩
end Go.Proofs.YtcolddalajoheaaGreatDoor
