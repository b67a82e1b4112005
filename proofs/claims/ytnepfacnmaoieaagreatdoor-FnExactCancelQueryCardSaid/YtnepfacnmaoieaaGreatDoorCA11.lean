/-
 Texts of the proof, merged: Cpl9Copy.
-/
import Derived.Test.YtnepfacnmaoieaaGreatDoorCA3
import Derived.Test.YtnepfacnmaoieaaGreatDoorCA4
import Derived.Test.YtnepfacnmaoieaaGreatDoorCA5
import Derived.Test.YtnepfacnmaoieaaGreatDoorCA6
import Derived.Test.YtnepfacnmaoieaaGreatDoorCA8
import Derived.Test.YtnepfacnmaoieaaGreatDoorCA9
import Derived.Test.YtnepfacnmaoieaaGreatDoorCA10
import Derived.Deep.Cut
namespace Go.Proofs.YtnepfacnmaoieaaGreatDoor
open Go.RowKit
open Go renaming frozen_of_row → Ez, cell_of_row → Ia, heap_setCell_same → Ib, heap_alloc_new → Ic
open Go.World renaming size_alloc → Ie
open Nat renaming le_refl → Ii, zero_le → Ij
open Go.Value.slice renaming injEq → Ik
open Go.RowKit.Below renaming refl → Il
open ZD0
set_option linter.unusedVariables false
set_option linter.unusedSimpArgs false
theorem info_T_Active : Yn Ji 104 (.agg #[Ja, Ja, (), (), Ja, (), Ja, Ja, Ja, ()]) := Yv (by kernel_rfl)
theorem info_T_Finished : Yn Jg 59 (.agg #[Ja, Ja, (), (), Ja, Ja, ()]) := Yv (by kernel_rfl)
theorem info_T_Charge : Yn Jo 162 (.agg #[Ja, Ja, (), (), ()]) := Yv (by kernel_rfl)
set_option maxHeartbeats 32000000 in
set_option maxRecDepth 100000 in
theorem copy_l9Copy (now cu st : Int) (sv ov av dv lv : Value) (ss : List (List Kj)) (os : List Int) (qs : List Ua) (ds : List FinD) (ls : List Xu) (w : World)
  (h0 : Ko Jd w sv ss) (h3 : Ko Je w ov os) (h4 : Ko Ji w av qs) (h5 : Ko Jg w dv ds) (h6 : Ko Jo w lv ls) (s0 : zL Jd ss ≤ 1048576) (s3 : zL Je os ≤ 1048576) (s4 : zL Ji qs ≤ 1048576) (s5 : zL Jg ds ≤ 1048576) (s6 : zL Jo ls ≤ 1048576) :
  Calls Tryz.prog 79 #[.agg #[sv, .int .i64 now, .int .i64 cu, ov, av, dv, lv, .int .i64 st]] w (Yy Kf (fun cs => .agg cs.toArray) w ((ss, now), cu, os, qs, ds, ls, st)) := by
 obtain ⟨s1, sc, rfl⟩ := Jl h0
 have H0 := zh h0; have S0 := zh s0; have n0 := Jz s0
 obtain ⟨o1, oc, rfl⟩ := Jl h3
 have H3 := zh h3; have S3 := zh s3; have n3 := Jz s3
 obtain ⟨l1, lc, rfl⟩ := Jl h4
 have H4 := zh h4; have S4 := zh s4; have n4 := Jz s4
 obtain ⟨f1, fc, rfl⟩ := Jl h5
 have H5 := zh h5; have S5 := zh s5; have n5 := Jz s5
 obtain ⟨k1, kc, rfl⟩ := Jl h6
 have H6 := zh h6; have S6 := zh s6; have n6 := Jz s6
 clear h0 h3 h4 h5 h6 s0 s3 s4 s5 s6
 have d := zh (show Below w w ((w.alloc (.cells #[.slice s1 ss.length sc, .int .i64 now, .int .i64 cu, .slice o1 os.length oc, .slice l1 qs.length lc, .slice f1 ds.length fc, .slice k1 ls.length kc, .int .i64 st] 40)).alloc (.cells #[(), Ja, Ja, (), (), (), (), Ja] 40)) from (((Il _ w).alloc (Ii _) _).alloc (by simp) _))
 have B0 : Hid (((w.alloc (.cells #[.slice s1 ss.length sc, .int .i64 now, .int .i64 cu, .slice o1 os.length oc, .slice l1 qs.length lc, .slice f1 ds.length fc, .slice k1 ls.length kc, .int .i64 st] 40)).alloc (.cells #[(), Ja, Ja, (), (), (), (), Ja] 40)).heap[w.heap.size]? = some (.cells #[.slice s1 ss.length sc, .int .i64 now, .int .i64 cu, .slice o1 os.length oc, .slice l1 qs.length lc, .slice f1 ds.length fc, .slice k1 ls.length kc, .int .i64 st] 40 (0, 0))) := zh (by
  rw [Below.heap_alloc _ _ _ (by simp)]
  exact Ic w _)
 have B1 : Hid (((w.alloc (.cells #[.slice s1 ss.length sc, .int .i64 now, .int .i64 cu, .slice o1 os.length oc, .slice l1 qs.length lc, .slice f1 ds.length fc, .slice k1 ls.length kc, .int .i64 st] 40)).alloc (.cells #[(), Ja, Ja, (), (), (), (), Ja] 40)).heap[(w.heap.size + 1)]? = some (.cells #[(), Ja, Ja, (), (), (), (), Ja] 40 (0, 0))) := zh (by
  have := Ic (w.alloc (.cells #[.slice s1 ss.length sc, .int .i64 now, .int .i64 cu, .slice o1 os.length oc, .slice l1 qs.length lc, .slice f1 ds.length fc, .slice k1 ls.length kc, .int .i64 st] 40)) (.cells #[(), Ja, Ja, (), (), (), (), Ja] 40)
  simpa only [Ie] using this)
 have YW : Hid (w.heap.size + 2 ≤ ((w.alloc (.cells #[.slice s1 ss.length sc, .int .i64 now, .int .i64 cu, .slice o1 os.length oc, .slice l1 qs.length lc, .slice f1 ds.length fc, .slice k1 ls.length kc, .int .i64 st] 40)).alloc (.cells #[(), Ja, Ja, (), (), (), (), Ja] 40)).heap.size) := zh (by simp [Ie])
 go_enter Tryz.func79, Tryz.ntmps79
 go_upto_region 1 with fail
 generalize ((w.alloc (.cells #[.slice s1 ss.length sc, .int .i64 now, .int .i64 cu, .slice o1 os.length oc, .slice l1 qs.length lc, .slice f1 ds.length fc, .slice k1 ls.length kc, .int .i64 st] 40)).alloc (.cells #[(), Ja, Ja, (), (), (), (), Ja] 40)) = W at *
 go_cut [3] from 9 (fun s3 wx => ∃ (bx : Nat) (ua ub : Option Addr) (uc ud : Nat) (F0 F3 : Nat → Prop), s3 = .pointer (some ⟨bx, 0, none⟩) ∧ wx.heap[w.heap.size]? = some (.cells #[.slice s1 ss.length sc, .int .i64 now, .int .i64 cu, .slice o1 os.length oc, .slice l1 qs.length lc, .slice f1 ds.length fc, .slice k1 ls.length kc, .int .i64 st] 40 (0, 0)) ∧ wx.heap[(w.heap.size + 1)]? = some (.cells #[(), Ja, Ja, (), (), (), (), Ja] 40 (0, 0)) ∧ wx.heap[bx]? = some (.cells #[.slice ua ss.length uc, .int .i64 now, .int .i64 cu, .slice ub os.length ud, (), (), (), .int .i64 st] 40 (0, 0)) ∧ w.heap.size + 2 ≤ bx ∧ Kp 213 Jd wx F0 (.slice ua ss.length uc) ss ∧ Kp 3 Je wx F3 (.slice ub os.length ud) os ∧ (∀ b, F0 b → w.heap.size + 2 ≤ b ∧ b ≠ bx ∧ b < wx.heap.size) ∧ (∀ b, F3 b → w.heap.size + 2 ≤ b ∧ b ≠ bx ∧ b < wx.heap.size) ∧ (∀ b, F0 b → ¬ F3 b) ∧ Below w w wx)
 case first =>
  refine wp_region_held_drew (S := fun w' => w'.cell? ⟨w, 0, none⟩ = some (Value.slice s1 ss.length sc) ∧ w'.cell? ⟨w, 1, none⟩ = some (Value.int .i64 now) ∧ w'.cell? ⟨w, 2, none⟩ = some (Value.int .i64 cu) ∧ w'.cell? ⟨w, 3, none⟩ = some (Value.slice o1 os.length oc) ∧ w'.cell? ⟨w, 4, none⟩ = some (Value.slice l1 qs.length lc) ∧ w'.cell? ⟨w, 5, none⟩ = some (Value.slice f1 ds.length fc) ∧ w'.cell? ⟨w, 6, none⟩ = some (Value.slice k1 ls.length kc) ∧ w'.cell? ⟨w, 7, none⟩ = some (Value.int .i64 st)) (by kernel_rfl) ⟨Ia W _ 0 _ _ _ B0.out, Ia W _ 1 _ _ _ B0.out, Ia W _ 2 _ _ _ B0.out, Ia W _ 3 _ _ _ B0.out, Ia W _ 4 _ _ _ B0.out, Ia W _ 5 _ _ _ B0.out, Ia W _ 6 _ _ _ B0.out, Ia W _ 7 _ _ _ B0.out⟩ (fun hHeld => ?_)
  have hdr : Below W W W.drew := Kc (Il _ _)
  have z : w.heap.size + 2 ≤ W.drew.heap.size := YW.out
  replace d := zd d hdr (by have := YW.out; omega)
  replace B0 := zb hdr B0
  replace B1 := zb hdr B1
  clear hdr YW
  generalize W.drew = wc at *
  refine uQ 0 ?_
  try simp only [Act.put, lA, lB, lC]
  refine uQ 1 ?_
  try simp only [Act.put, lA, lB, lC]
  refine uQ 3 ?_
  try simp only [Act.put, lA, lB, lC]
  refine uQ 4 ?_
  try simp only [Act.put, lA, lB, lC]
  refine uQ 6 ?_
  try simp only [Act.put, lA, lB, lC]
  refine uQ 7 ?_
  try simp only [Act.put, lA, lB, lC]
  refine uQ 9 ?_
  try simp only [Act.put, lA, lB, lC]
  refine uQ 10 ?_
  try simp only [Act.put, lA, lB, lC]
  repeat' first
   | (have t := ‹Tok 2›
      clear tk t
      go_simp
      refine (specCopy (.slice s1 ss.length sc) ss now wc (Jb Jf H0.out d.out) S0.out).mono ?_
      rintro e wn ⟨cs, rfl, ow, c⟩
      obtain ⟨u0, F0, rfl, o0, q0⟩ := tStore_O (Vu.lt ow)
      obtain ⟨ua, uc, rfl⟩ := Ju o0
      have P0 := zh (Ky o0 (F' := fun b => wc.heap.size ≤ b ∧ b < wn.heap.size) (fun b h => q0 b h))
      have z := c.size
      replace d := zd d c (by omega)
      replace B0 := zb c B0
      replace B1 := zb c B1
      try replace P3 := zf Jc P3 c
      try replace BX := zb c BX
      clear ow o0 q0 c F0
      generalize wc.heap.size = l0 at *
      rename World => wc
      refine hK.out _ _ ⟨Ia _ _ 0 _ _ _ B0.out, Ia _ _ 1 _ _ _ B0.out, Ia _ _ 2 _ _ _ B0.out, Ia _ _ 3 _ _ _ B0.out, Ia _ _ 4 _ _ _ B0.out, Ia _ _ 5 _ _ _ B0.out, Ia _ _ 6 _ _ _ B0.out, Ia _ _ 7 _ _ _ B0.out⟩ (fun hHeld => ?_)
      clear hK K
      try simp only [Act.put, lA, lB, lC])
   | (have t := ‹Tok 5›
      clear tk t
      go_simp
      have hal := zal wc (.cells #[] 3)
      have P3 := zh (Ye (T := Je) wc 3 (fun b => b = wc.heap.size) rfl)
      have z := zs wc (.cells #[] 3)
      replace d := zd d hal (by omega)
      replace B0 := zb hal B0
      replace B1 := zb hal B1
      try replace P0 := zf Jf P0 hal
      try replace BX := zb hal BX
      clear hal
      generalize wc.heap.size = g3 at *
      generalize (wc.alloc (.cells #[] 3)) = wc at *
      refine hK.out _ _ ⟨Ia _ _ 0 _ _ _ B0.out, Ia _ _ 1 _ _ _ B0.out, Ia _ _ 2 _ _ _ B0.out, Ia _ _ 3 _ _ _ B0.out, Ia _ _ 4 _ _ _ B0.out, Ia _ _ 5 _ _ _ B0.out, Ia _ _ 6 _ _ _ B0.out, Ia _ _ 7 _ _ _ B0.out⟩ (fun hHeld => ?_)
      clear hK K
      try simp only [Act.put, lA, lB, lC])
   | (have t := ‹Tok 12›
      clear tk t
      go_simp
      have hal := zal wc (.cells #[(), Ja, Ja, (), (), (), (), Ja] 40)
      have BX := zh (Ic wc (.cells #[(), Ja, Ja, (), (), (), (), Ja] 40))
      have z := zs wc (.cells #[(), Ja, Ja, (), (), (), (), Ja] 40)
      replace d := zd d hal (by omega)
      replace B0 := zb hal B0
      replace B1 := zb hal B1
      try replace P0 := zf Jf P0 hal
      try replace P3 := zf Jc P3 hal
      clear hal
      generalize wc.heap.size = bx at *
      generalize (wc.alloc (.cells #[(), Ja, Ja, (), (), (), (), Ja] 40)) = wc at *
      refine hK.out _ _ ⟨Ia _ _ 0 _ _ _ B0.out, Ia _ _ 1 _ _ _ B0.out, Ia _ _ 2 _ _ _ B0.out, Ia _ _ 3 _ _ _ B0.out, Ia _ _ 4 _ _ _ B0.out, Ia _ _ 5 _ _ _ B0.out, Ia _ _ 6 _ _ _ B0.out, Ia _ _ 7 _ _ _ B0.out⟩ (fun hHeld => ?_)
      clear hK K
      try simp only [Act.put, lA, lB, lC])
   | (have t := ‹Tok 8›
      clear tk t
      refine Kv Jc Uf Yp Tryz.underlying25 rfl rfl (.tmp 14) (.tmp 16) rfl (fun b => b = g3) (fun b => b = g3 ∨ b = wc.heap.size) _ _ [] os rfl rfl P3.out (Jb Jc H3.out d.out) (fun b h => Or.inl h) (Or.inr rfl) (by simp; omega) ?_
      intro u wn oB tB
      rw [List.nil_append] at oB
      obtain ⟨ub, ud, rfl⟩ := Ju oB
      have z := tB.size
      replace d := zh (Js d.out tB (fun b h => by (try dsimp only at h); omega) (by omega))
      replace B0 := zB tB B0 (fun h => by (try dsimp only at h); omega)
      replace B1 := zB tB B1 (fun h => by (try dsimp only at h); omega)
      try replace BX := zB tB BX (fun h => by (try dsimp only at h); omega)
      try replace P0 := zt Jf P0 tB (fun b h1 h2 => by (try dsimp only at h1 h2); omega)
      replace P3 := zh (Kn Jc oB)
      clear oB tB
      generalize wc.heap.size = k3 at *
      rename World => wc
      refine hK.out _ _ ⟨Ia _ _ 0 _ _ _ B0.out, Ia _ _ 1 _ _ _ B0.out, Ia _ _ 2 _ _ _ B0.out, Ia _ _ 3 _ _ _ B0.out, Ia _ _ 4 _ _ _ B0.out, Ia _ _ 5 _ _ _ B0.out, Ia _ _ 6 _ _ _ B0.out, Ia _ _ 7 _ _ _ B0.out⟩ (fun hHeld => ?_)
      clear hK K
      try simp only [Act.put, lA, lB, lC])
   | (have t := ‹Tok 13›
      clear tk t
      obtain ⟨q0, q1, q2, q3, q4, q5, q6, q7⟩ : wc.cell? ⟨bx, 0, none⟩ = some (Value.slice none 0 0) ∧ wc.cell? ⟨bx, 1, none⟩ = some (Value.int .i64 0) ∧ wc.cell? ⟨bx, 2, none⟩ = some (Value.int .i64 0) ∧ wc.cell? ⟨bx, 3, none⟩ = some (Value.slice none 0 0) ∧ wc.cell? ⟨bx, 4, none⟩ = some (Value.slice none 0 0) ∧ wc.cell? ⟨bx, 5, none⟩ = some (Value.slice none 0 0) ∧ wc.cell? ⟨bx, 6, none⟩ = some (Value.slice none 0 0) ∧ wc.cell? ⟨bx, 7, none⟩ = some (Value.int .i64 0) := ⟨Ia wc _ 0 _ _ _ BX.out, Ia wc _ 1 _ _ _ BX.out, Ia wc _ 2 _ _ _ BX.out, Ia wc _ 3 _ _ _ BX.out, Ia wc _ 4 _ _ _ BX.out, Ia wc _ 5 _ _ _ BX.out, Ia wc _ 6 _ _ _ BX.out, Ia wc _ 7 _ _ _ BX.out⟩
      have f0 := Ez wc _ 0 _ _ BX.out
      have f1 := Ez wc _ 1 _ _ BX.out
      have f2 := Ez wc _ 2 _ _ BX.out
      have f3 := Ez wc _ 3 _ _ BX.out
      have f4 := Ez wc _ 4 _ _ BX.out
      have f5 := Ez wc _ 5 _ _ BX.out
      have f6 := Ez wc _ 6 _ _ BX.out
      have f7 := Ez wc _ 7 _ _ BX.out
      go_simp
      clear q0 f0 q1 f1 q2 f2 q3 f3 q4 f4 q5 f5 q6 f6 q7 f7
      have tt := (((((((((Kb.refl (fun b => b = bx) wc).trans (Jm (G := fun b => b = bx) (g := bx) (j := 0) (u := .slice ua ss.length uc) rfl)).trans (Jm (G := fun b => b = bx) (g := bx) (j := 1) (u := .int .i64 now) rfl)).trans (Jm (G := fun b => b = bx) (g := bx) (j := 2) (u := .int .i64 cu) rfl)).trans (Jm (G := fun b => b = bx) (g := bx) (j := 3) (u := .slice ub os.length ud) rfl)).trans (Jm (G := fun b => b = bx) (g := bx) (j := 4) (u := .slice none 0 0) rfl)).trans (Jm (G := fun b => b = bx) (g := bx) (j := 5) (u := .slice none 0 0) rfl)).trans (Jm (G := fun b => b = bx) (g := bx) (j := 6) (u := .slice none 0 0) rfl)).trans (Jm (G := fun b => b = bx) (g := bx) (j := 7) (u := .int .i64 st) rfl))
      have r := st8 BX.out (.slice ua ss.length uc) (.int .i64 now) (.int .i64 cu) (.slice ub os.length ud) () () () (.int .i64 st)
      try simp at r
      have RX := zh r
      replace B0 := zB tt B0 (fun h => by (try dsimp only at h); omega)
      replace B1 := zB tt B1 (fun h => by (try dsimp only at h); omega)
      replace P0 := zt Jf P0 tt (fun b h1 h2 => by (try dsimp only at h1 h2); omega)
      replace P3 := zt Jc P3 tt (fun b h1 h2 => by (try dsimp only at h1 h2); omega)
      replace d := zh (Js d.out tt (fun b h => by (try dsimp only at h); omega) d.out.size)
      have z := tt.size
      have hx := (Array.getElem?_eq_some_iff.1 BX.out).1
      clear tt r BX
      generalize ((((((((wc.setCell ⟨bx, 0, none⟩ (.slice ua ss.length uc)).setCell ⟨bx, 1, none⟩ (.int .i64 now)).setCell ⟨bx, 2, none⟩ (.int .i64 cu)).setCell ⟨bx, 3, none⟩ (.slice ub os.length ud)).setCell ⟨bx, 4, none⟩ ()).setCell ⟨bx, 5, none⟩ ()).setCell ⟨bx, 6, none⟩ ()).setCell ⟨bx, 7, none⟩ (.int .i64 st)) = wn at *
      generalize wc.heap.size = nz at *
      rename World => wc
      refine hK.out _ _ ⟨Ia _ _ 0 _ _ _ B0.out, Ia _ _ 1 _ _ _ B0.out, Ia _ _ 2 _ _ _ B0.out, Ia _ _ 3 _ _ _ B0.out, Ia _ _ 4 _ _ _ B0.out, Ia _ _ 5 _ _ _ B0.out, Ia _ _ 6 _ _ _ B0.out, Ia _ _ 7 _ _ _ B0.out⟩ (fun hHeld => ?_)
      clear hK K
      try simp only [Act.put, lA, lB, lC])
   | (refine uQ 11 ?_; try simp only [Act.put, lA, lB, lC])
   | (refine u3 2 5 12 ?_ ?_ ?_ <;> intro K hK tk)
   | (refine u2 2 5 ?_ ?_ <;> intro K hK tk)
   | (refine u1 2 ?_ <;> intro K hK tk)
   | (refine u1 8 ?_ <;> intro K hK tk)
   | (refine u1 13 ?_ <;> intro K hK tk)
   | (refine u1 5 ?_ <;> intro K hK tk)
   | (refine u2 2 12 ?_ ?_ <;> intro K hK tk)
   | (refine u2 8 12 ?_ ?_ <;> intro K hK tk)
   | (refine u1 12 ?_ <;> intro K hK tk)
   | (refine u2 5 12 ?_ ?_ <;> intro K hK tk)
   | (refine uZ ?_
      clear hHeld
      go_wp2
      go_meet
      case rel =>
       exact ⟨bx, ua, ub, uc, ud, _, _, rfl, B0.out, B1.out, RX.out, by omega, P0.out, P3.out, fun b h => by (try dsimp only at h); omega, fun b h => by (try dsimp only at h); omega, fun b h1 h2 => by (try dsimp only at h1 h2); omega, d.out⟩)
 case rest =>
  clear B0 B1 d YW
  obtain ⟨bx, ua, ub, uc, ud, F0, F3, rfl, b0, b1, bxr, yb, p0, p3, q0, q3, dj, dd⟩ := hcut
  have B0 := zh b0; have B1 := zh b1; have BX := zh bxr; have YB := zh yb; have P0 := zh p0; have P3 := zh p3; have d := zh dd; have DJ := zh dj
  have YX : Hid (bx < wc.heap.size) := zh (Array.getElem?_eq_some_iff.1 bxr).1
  obtain ⟨NL, hNL⟩ : ∃ NL, NL = wc.heap.size := ⟨_, rfl⟩
  have YN : Hid (NL ≤ wc.heap.size) := zh (by omega)
  have YX2 : Hid (bx < NL) := zh (by rw [hNL]; exact YX.out)
  have Q0 : Hid (∀ b, F0 b → w.heap.size + 2 ≤ b ∧ b ≠ bx ∧ b < NL) := zh (fun b h => by rw [hNL]; exact q0 b h)
  have Q3 : Hid (∀ b, F3 b → w.heap.size + 2 ≤ b ∧ b ≠ bx ∧ b < NL) := zh (fun b h => by rw [hNL]; exact q3 b h)
  clear b0 b1 bxr yb p0 p3 q0 q3 dj dd hNL
  have cp_B0_0 := Kz B0.out
  have cp_B1_0 := Kz B1.out
  have cp_BX_0 := Kz BX.out
  go_wp2
  clear cp_B0_0 cp_B1_0 cp_BX_0
  obtain ⟨NB0, hNB⟩ : ∃ n, n = wc.heap.size := ⟨_, rfl⟩
  have YNB0 : Hid (NB0 = wc.heap.size) := zh hNB
  clear hNB
  have X0 := BX
  go_loopw [4] (fun i wr => ∃ (k : Nat) (u : Value), k ≤ qs.length ∧ i = .int .i64 k ∧ Hid (wr.heap[bx]? = some (.cells #[.slice ua ss.length uc, .int .i64 now, .int .i64 cu, .slice ub os.length ud, u, (), (), .int .i64 st] 40 (0, 0))) ∧ Hid (Kp 104 Ji wr (fun b => NB0 ≤ b) u (qs.take k)) ∧ Kb (fun b => b = bx) wc wr) (fun i _ => qs.length - (intOf i).toNat)
  case atStart => exact ⟨0, _, Ij _, rfl, BX, zh (Ya _ _ _ _), Kb.refl _ _⟩
  case round =>
   obtain ⟨k, u, hk, rfl, hx, hu, tw⟩ := hrel
   clear BX X0
   have TW := zh tw
   have y0 := YB.out
   have y1 := YX.out
   have y2 := YN.out
   have y3 := YX2.out
   have y4 := YNB0.out
   have yd : w.heap.size ≤ wc.heap.size := d.out.size
   replace B0 := zB tw B0 (fun h => by skip; omega)
   replace B1 := zB tw B1 (fun h => by skip; omega)
   replace P0 := zt Jf P0 tw (fun b h1 h2 => by have r1 := Q0.out b h1; skip; omega)
   replace P3 := zt Jc P3 tw (fun b h1 h2 => by have r1 := Q3.out b h1; skip; omega)
   replace d := zh (Js d.out tw (fun b h => by skip; omega) (by omega))
   have Z_wr := zh (show wc.heap.size ≤ wr.heap.size from tw.size)
   clear yd y0 y1 y2 y3 y4
   clear tw
   have BX := hx
   have PU := zh (Kn Jj hu.out)
   have QU : Hid (∀ b, (NB0 ≤ b ∧ b < wr.heap.size) → NB0 ≤ b ∧ b < wr.heap.size) := zh (fun b h => h)
   clear hx hu
   by_cases hlt : k < qs.length
   ·
    have i1 : (0 : Int) ≤ (k : Int) := by omega
    have i2 : (k : Int) < (qs.length : Int) := by omega
    have hz := Vj S4.out hlt
    have HTK : Hid (qs.take k ++ [qs.getD k Uh] = qs.take (k + 1)) := zh (take_step Uh hlt).symm
    have HKL : Hid ((qs.take k).length ≤ 1048576) := zh (by rw [List.length_take]; omega)
    change Ji.sz (qs.getD k Uh) ≤ 1048576 at hz
    obtain ⟨b, off, cap', p2, c2, p3, c3, p5, c5, p9, c9, hv, hbl, e0, e1, e2, e3, e4, e5, e6, e7, e8, e9, g2, g3, g5, g9⟩ := act_at (Jb Jj H4.out d.out) hlt
    simp only [Ik] at hv
    obtain ⟨rfl, _, rfl⟩ := hv
    obtain ⟨xe, hxe⟩ : ∃ xe, xe = qs.getD k Uh := ⟨_, rfl⟩
    rw [← hxe] at hz HTK e0 e1 e2 e3 e4 e5 e6 e7 e8 e9 g2 g3 g5 g9
    clear hxe
    obtain ⟨⟨a0, a1, x2, x3⟩, a4, x5, a6, a7, a8, x9⟩ := xe
    rw [tActive_sz] at hz
    dsimp only at *
    have G2 := zh g2; have M2 := zh (show zL Jk x2 ≤ 1048576 by omega)
    have G3 := zh g3; have M3 := zh (show zL Je x3 ≤ 1048576 by omega)
    have G5 := zh g5; have M5 := zh (show zL Je x5 ≤ 1048576 by omega)
    have G9 := zh g9; have M9 := zh (show zL Ke x9 ≤ 1048576 by omega)
    clear hz g2 g3 g5 g9
    have cal : Below wr wr (wr.alloc (.cells #[a0, a1, .slice p2 x2.length c2, .slice p3 x3.length c3, a4, .slice p5 x5.length c5, a6, a7, a8, .slice p9 x9.length c9] 104)) := (Il _ _).alloc (Ii _) _
    have DQ0 := zh cal
    have BA : Hid ((wr.alloc (.cells #[a0, a1, .slice p2 x2.length c2, .slice p3 x3.length c3, a4, .slice p5 x5.length c5, a6, a7, a8, .slice p9 x9.length c9] 104)).heap[wr.heap.size]? = some (.cells #[a0, a1, .slice p2 x2.length c2, .slice p3 x3.length c3, a4, .slice p5 x5.length c5, a6, a7, a8, .slice p9 x9.length c9] 104 (0, 0))) := zh (Ic wr _)
    have cp_B0_0 := Kz B0.out
    have cp_BX_0 := Kz BX.out
    go_wp2_with fail
    clear cp_B0_0 cp_BX_0 e0 e1 e2 e3 e4 e5 e6 e7 e8 e9 hbl
    generalize hWq : (wr.alloc (.cells #[a0, a1, .slice p2 x2.length c2, .slice p3 x3.length c3, a4, .slice p5 x5.length c5, a6, a7, a8, .slice p9 x9.length c9] 104)) = Wq at *
    have DQ := DQ0
    clear hWq
    have YA : Hid (wr.heap.size < Wq.heap.size) := zh (Array.getElem?_eq_some_iff.1 BA.out).1
    replace B0 := zb cal B0
    replace B1 := zb cal B1
    replace BX := zb cal BX
    replace P0 := zf Jf P0 cal
    replace P3 := zf Jc P3 cal
    replace PU := zf Jj PU cal
    replace d := zD d cal
    clear cal
    refine (copy_l6Query a0 a1 (.slice p2 x2.length c2) (.slice p3 x3.length c3) x2 x3 Wq (Jb Jt G2.out DQ.out) (Jb Jc G3.out DQ.out) M2.out M3.out).mono ?_
    rintro e W1 ⟨cs, rfl, ow, c⟩
    replace ow := Kt.lt ow
    obtain ⟨u2, u3, E2, E3, rfl, o2, o3, k2, k3, kj⟩ := tQuery_O ow
    obtain ⟨ua2, uc2, rfl⟩ := Ju o2
    obtain ⟨ua3, uc3, rfl⟩ := Ju o3
    have N2 := zh o2; have N3 := zh o3; have KJ := zh kj
    have O2 : Hid (∀ b, E2 b → Wq.heap.size ≤ b ∧ b < W1.heap.size) := zh (fun b h => k2 b h)
    have O3 : Hid (∀ b, E3 b → Wq.heap.size ≤ b ∧ b < W1.heap.size) := zh (fun b h => k3 b h)
    have DQ1 := zh (DQ.out.trans (c.mono DQ.out.size))
    clear ow o2 o3 k2 k3 kj DQ DQ0
    replace B0 := zb c B0
    replace B1 := zb c B1
    replace BX := zb c BX
    replace BA := zb c BA
    replace P0 := zf Jf P0 c
    replace P3 := zf Jc P3 c
    replace PU := zf Jj PU c
    replace d := zD d c
    have Z_W1 := zh (show Wq.heap.size ≤ W1.heap.size from c.size)
    clear c
    have cp_BA_0 := Yr BA.out
    have f_BA_0 := Ez W1 _ 0 _ _ BA.out
    have f_BA_1 := Ez W1 _ 1 _ _ BA.out
    have f_BA_2 := Ez W1 _ 2 _ _ BA.out
    have f_BA_3 := Ez W1 _ 3 _ _ BA.out
    have f_BA_4 := Ez W1 _ 4 _ _ BA.out
    have f_BA_5 := Ez W1 _ 5 _ _ BA.out
    have f_BA_6 := Ez W1 _ 6 _ _ BA.out
    have f_BA_7 := Ez W1 _ 7 _ _ BA.out
    have f_BA_8 := Ez W1 _ 8 _ _ BA.out
    have f_BA_9 := Ez W1 _ 9 _ _ BA.out
    go_upto_region 7 with fail
    clear cp_BA_0 f_BA_0 f_BA_1 f_BA_2 f_BA_3 f_BA_4 f_BA_5 f_BA_6 f_BA_7 f_BA_8 f_BA_9
    have kt := (((((Kb.refl (fun b => b = wr.heap.size) W1).trans (Jm (G := fun b => b = wr.heap.size) (g := wr.heap.size) (j := 0) (u := .int .i64 a0) rfl)).trans (Jm (G := fun b => b = wr.heap.size) (g := wr.heap.size) (j := 1) (u := .int .i64 a1) rfl)).trans (Jm (G := fun b => b = wr.heap.size) (g := wr.heap.size) (j := 2) (u := .slice ua2 x2.length uc2) rfl)).trans (Jm (G := fun b => b = wr.heap.size) (g := wr.heap.size) (j := 3) (u := .slice ua3 x3.length uc3) rfl))
    have kr := (Ib _ wr.heap.size 3 _ _ (.slice ua3 x3.length uc3) (Ib _ wr.heap.size 2 _ _ (.slice ua2 x2.length uc2) (Ib _ wr.heap.size 1 _ _ a1 (Ib _ wr.heap.size 0 _ _ a0 BA.out))))
    simp at kr
    have DQ2 := zh (Js DQ1.out kt (fun b h => by omega) DQ1.out.size)
    generalize hWn : ((((W1.setCell ⟨wr, 0, none⟩ a0).setCell ⟨wr, 1, none⟩ a1).setCell ⟨wr, 2, none⟩ (.slice ua2 x2.length uc2)).setCell ⟨wr, 3, none⟩ (.slice ua3 x3.length uc3)) = W2 at *
    clear hWn DQ1
    have y0 := YB.out
    have y1 := YX.out
    have y2 := YN.out
    have y3 := YX2.out
    have y4 := YNB0.out
    have y5 := Z_wr.out
    have y6 := YA.out
    have y7 := Z_W1.out
    have yd : w.heap.size ≤ W1.heap.size := d.out.size
    replace B0 := zB kt B0 (fun h => by skip; omega)
    replace B1 := zB kt B1 (fun h => by skip; omega)
    replace BX := zB kt BX (fun h => by skip; omega)
    replace P0 := zt Jf P0 kt (fun b h1 h2 => by have r1 := Q0.out b h1; skip; omega)
    replace P3 := zt Jc P3 kt (fun b h1 h2 => by have r1 := Q3.out b h1; skip; omega)
    replace PU := zt Jj PU kt (fun b h1 h2 => by have r1 := QU.out b h1; skip; omega)
    replace N2 := zt Jt N2 kt (fun b h1 h2 => by have r1 := O2.out b h1; skip; omega)
    replace N3 := zt Jc N3 kt (fun b h1 h2 => by have r1 := O3.out b h1; skip; omega)
    replace d := zh (Js d.out kt (fun b h => by skip; omega) (by omega))
    have Z_W2 := zh (show W1.heap.size ≤ W2.heap.size from kt.size)
    clear yd y0 y1 y2 y3 y4 y5 y6 y7
    replace BA := zh kr
    clear kt kr
    have ka := zh (show Below W2 W2 (W2.alloc (.cells #[] 3)) from (Il _ _).alloc (Ii _) _)
    obtain ⟨p_BA_0, p_BA_1, p_BA_2, p_BA_3, p_BA_4, p_BA_5, p_BA_6, p_BA_7, p_BA_8, p_BA_9⟩ := Yr BA.out
    have kl0 := (ka.out.cell (p := ⟨wr, 0, none⟩) (Array.getElem?_eq_some_iff.1 BA.out).1).trans p_BA_0
    have kl1 := (ka.out.cell (p := ⟨wr, 1, none⟩) (Array.getElem?_eq_some_iff.1 BA.out).1).trans p_BA_1
    have kl2 := (ka.out.cell (p := ⟨wr, 2, none⟩) (Array.getElem?_eq_some_iff.1 BA.out).1).trans p_BA_2
    have kl3 := (ka.out.cell (p := ⟨wr, 3, none⟩) (Array.getElem?_eq_some_iff.1 BA.out).1).trans p_BA_3
    have kl4 := (ka.out.cell (p := ⟨wr, 4, none⟩) (Array.getElem?_eq_some_iff.1 BA.out).1).trans p_BA_4
    have kl5 := (ka.out.cell (p := ⟨wr, 5, none⟩) (Array.getElem?_eq_some_iff.1 BA.out).1).trans p_BA_5
    have kl6 := (ka.out.cell (p := ⟨wr, 6, none⟩) (Array.getElem?_eq_some_iff.1 BA.out).1).trans p_BA_6
    have kl7 := (ka.out.cell (p := ⟨wr, 7, none⟩) (Array.getElem?_eq_some_iff.1 BA.out).1).trans p_BA_7
    have kl8 := (ka.out.cell (p := ⟨wr, 8, none⟩) (Array.getElem?_eq_some_iff.1 BA.out).1).trans p_BA_8
    have kl9 := (ka.out.cell (p := ⟨wr, 9, none⟩) (Array.getElem?_eq_some_iff.1 BA.out).1).trans p_BA_9
    have PE := zh (Ye (T := Je) W2 3 (fun b => b = W2.heap.size) rfl)
    go_wp2_with (at_builtin; refine Xt Jc Uf Yp Tryz.underlying25 rfl rfl (.tmp 37) (.tmp 39) rfl (fun b => b = W2.heap.size) (fun b => b = W2.heap.size ∨ b = (W2.alloc (.cells #[] 3)).heap.size) _ _ [] x5 rfl rfl PE.out (Jb Jc G5.out (DQ2.out.trans (ka.out.mono DQ2.out.size))) (fun b h => Or.inl h) (Or.inr rfl) (by have := Jz M5.out; simp; omega) ?_)
    clear PE p_BA_0 p_BA_1 p_BA_2 p_BA_3 p_BA_4 p_BA_5 p_BA_6 p_BA_7 p_BA_8 p_BA_9 kl0 kl1 kl2 kl3 kl4 kl5 kl6 kl7 kl8 kl9
    generalize hWi : (W2.alloc (.cells #[] 3)) = W3 at *
    have zi : W2.heap.size < W3.heap.size := by rw [← hWi]; simp [Ie]
    clear hWi
    have ZI := zh zi
    clear zi
    replace B0 := zb ka.out B0
    replace B1 := zb ka.out B1
    replace BX := zb ka.out BX
    replace BA := zb ka.out BA
    replace P0 := zf Jf P0 ka.out
    replace P3 := zf Jc P3 ka.out
    replace PU := zf Jj PU ka.out
    replace N2 := zf Jt N2 ka.out
    replace N3 := zf Jc N3 ka.out
    replace d := zD d ka.out
    have DQ3 := zh (DQ2.out.trans (ka.out.mono DQ2.out.size))
    clear ka DQ2
    intro u5 W4 o5 t5
    try rw [List.nil_append] at o5
    obtain ⟨ua5, uc5, rfl⟩ := Ju o5
    have m0 := YB.out
    have m1 := YX.out
    have m2 := YN.out
    have m3 := YX2.out
    have m4 := YNB0.out
    have m5 := Z_wr.out
    have m6 := YA.out
    have m7 := Z_W1.out
    have m8 := Z_W2.out
    have m9 := ZI.out
    have DQ4 := zh (Js DQ3.out t5 (fun b h => by omega) DQ3.out.size)
    clear DQ3 m0 m1 m2 m3 m4 m5 m6 m7 m8 m9
    have y0 := YB.out
    have y1 := YX.out
    have y2 := YN.out
    have y3 := YX2.out
    have y4 := YNB0.out
    have y5 := Z_wr.out
    have y6 := YA.out
    have y7 := Z_W1.out
    have y8 := Z_W2.out
    have y9 := ZI.out
    have yd : w.heap.size ≤ W3.heap.size := d.out.size
    replace B0 := zB t5 B0 (fun h => by skip; omega)
    replace B1 := zB t5 B1 (fun h => by skip; omega)
    replace BX := zB t5 BX (fun h => by skip; omega)
    replace BA := zB t5 BA (fun h => by skip; omega)
    replace P0 := zt Jf P0 t5 (fun b h1 h2 => by have r1 := Q0.out b h1; skip; omega)
    replace P3 := zt Jc P3 t5 (fun b h1 h2 => by have r1 := Q3.out b h1; skip; omega)
    replace PU := zt Jj PU t5 (fun b h1 h2 => by have r1 := QU.out b h1; skip; omega)
    replace N2 := zt Jt N2 t5 (fun b h1 h2 => by have r1 := O2.out b h1; skip; omega)
    replace N3 := zt Jc N3 t5 (fun b h1 h2 => by have r1 := O3.out b h1; skip; omega)
    replace d := zh (Js d.out t5 (fun b h => by skip; omega) (by omega))
    have Z_W4 := zh (show W3.heap.size ≤ W4.heap.size from t5.size)
    clear yd y0 y1 y2 y3 y4 y5 y6 y7 y8 y9
    have N5 := zh (Ky (Kn Jc o5) (F' := fun b => W2.heap.size ≤ b ∧ b < W4.heap.size) (fun b h => ⟨by have := ZI.out; rcases h.1 with h1 | h1 <;> omega, h.2⟩))
    have O5 : Hid (∀ b, (W2.heap.size ≤ b ∧ b < W4.heap.size) → W2.heap.size ≤ b ∧ b < W4.heap.size) := zh (fun b h => h)
    clear o5 t5
    have cp_BA_0 := Yr BA.out
    have f_BA_0 := Ez W4 _ 0 _ _ BA.out
    have f_BA_1 := Ez W4 _ 1 _ _ BA.out
    have f_BA_2 := Ez W4 _ 2 _ _ BA.out
    have f_BA_3 := Ez W4 _ 3 _ _ BA.out
    have f_BA_4 := Ez W4 _ 4 _ _ BA.out
    have f_BA_5 := Ez W4 _ 5 _ _ BA.out
    have f_BA_6 := Ez W4 _ 6 _ _ BA.out
    have f_BA_7 := Ez W4 _ 7 _ _ BA.out
    have f_BA_8 := Ez W4 _ 8 _ _ BA.out
    have f_BA_9 := Ez W4 _ 9 _ _ BA.out
    go_upto_region 8 with fail
    clear cp_BA_0 f_BA_0 f_BA_1 f_BA_2 f_BA_3 f_BA_4 f_BA_5 f_BA_6 f_BA_7 f_BA_8 f_BA_9
    have kt := ((Kb.refl (fun b => b = wr.heap.size) W4).trans (Jm (G := fun b => b = wr.heap.size) (g := wr.heap.size) (j := 5) (u := .slice ua5 x5.length uc5) rfl))
    have kr := (Ib _ wr.heap.size 5 _ _ (.slice ua5 x5.length uc5) BA.out)
    simp at kr
    have DQ5 := zh (Js DQ4.out kt (fun b h => by omega) DQ4.out.size)
    generalize hWn : (W4.setCell ⟨wr, 5, none⟩ (.slice ua5 x5.length uc5)) = W5 at *
    clear hWn DQ4
    have y0 := YB.out
    have y1 := YX.out
    have y2 := YN.out
    have y3 := YX2.out
    have y4 := YNB0.out
    have y5 := Z_wr.out
    have y6 := YA.out
    have y7 := Z_W1.out
    have y8 := Z_W2.out
    have y9 := ZI.out
    have y10 := Z_W4.out
    have yd : w.heap.size ≤ W4.heap.size := d.out.size
    replace B0 := zB kt B0 (fun h => by skip; omega)
    replace B1 := zB kt B1 (fun h => by skip; omega)
    replace BX := zB kt BX (fun h => by skip; omega)
    replace P0 := zt Jf P0 kt (fun b h1 h2 => by have r1 := Q0.out b h1; skip; omega)
    replace P3 := zt Jc P3 kt (fun b h1 h2 => by have r1 := Q3.out b h1; skip; omega)
    replace PU := zt Jj PU kt (fun b h1 h2 => by have r1 := QU.out b h1; skip; omega)
    replace N2 := zt Jt N2 kt (fun b h1 h2 => by have r1 := O2.out b h1; skip; omega)
    replace N3 := zt Jc N3 kt (fun b h1 h2 => by have r1 := O3.out b h1; skip; omega)
    replace N5 := zt Jc N5 kt (fun b h1 h2 => by have r1 := O5.out b h1; skip; omega)
    replace d := zh (Js d.out kt (fun b h => by skip; omega) (by omega))
    have Z_W5 := zh (show W4.heap.size ≤ W5.heap.size from kt.size)
    clear yd y0 y1 y2 y3 y4 y5 y6 y7 y8 y9 y10
    replace BA := zh kr
    clear kt kr
    have cp_BA_0 := Yr BA.out
    go_wp2_with fail
    clear cp_BA_0
    refine (copy_l9Rows (.slice p9 x9.length c9) x9 W5 (Jb Jw G9.out DQ5.out) M9.out).mono ?_
    rintro e W6 ⟨u9, rfl, o9, c⟩
    replace o9 := Kn Jw o9
    obtain ⟨ua9, uc9, rfl⟩ := Ju o9
    have N9 := zh o9
    have O9 : Hid (∀ b, (Kw W5 b ∧ b < W6.heap.size) → W5.heap.size ≤ b ∧ b < W6.heap.size) := zh (fun b h => h)
    have DQ6 := zh (DQ5.out.trans (c.mono DQ5.out.size))
    clear o9 DQ5
    replace B0 := zb c B0
    replace B1 := zb c B1
    replace BX := zb c BX
    replace BA := zb c BA
    replace P0 := zf Jf P0 c
    replace P3 := zf Jc P3 c
    replace PU := zf Jj PU c
    replace N2 := zf Jt N2 c
    replace N3 := zf Jc N3 c
    replace N5 := zf Jc N5 c
    replace d := zD d c
    have Z_W6 := zh (show W5.heap.size ≤ W6.heap.size from c.size)
    clear c
    have cp_BA_0 := Yr BA.out
    have f_BA_0 := Ez W6 _ 0 _ _ BA.out
    have f_BA_1 := Ez W6 _ 1 _ _ BA.out
    have f_BA_2 := Ez W6 _ 2 _ _ BA.out
    have f_BA_3 := Ez W6 _ 3 _ _ BA.out
    have f_BA_4 := Ez W6 _ 4 _ _ BA.out
    have f_BA_5 := Ez W6 _ 5 _ _ BA.out
    have f_BA_6 := Ez W6 _ 6 _ _ BA.out
    have f_BA_7 := Ez W6 _ 7 _ _ BA.out
    have f_BA_8 := Ez W6 _ 8 _ _ BA.out
    have f_BA_9 := Ez W6 _ 9 _ _ BA.out
    go_upto_region 9 with fail
    clear cp_BA_0 f_BA_0 f_BA_1 f_BA_2 f_BA_3 f_BA_4 f_BA_5 f_BA_6 f_BA_7 f_BA_8 f_BA_9
    have kt := ((Kb.refl (fun b => b = wr.heap.size) W6).trans (Jm (G := fun b => b = wr.heap.size) (g := wr.heap.size) (j := 9) (u := .slice ua9 x9.length uc9) rfl))
    have kr := (Ib _ wr.heap.size 9 _ _ (.slice ua9 x9.length uc9) BA.out)
    simp at kr
    have kd := zh (Js DQ6.out kt (fun b h => by omega) DQ6.out.size)
    generalize hWn : (W6.setCell ⟨wr, 9, none⟩ (.slice ua9 x9.length uc9)) = W7 at *
    clear hWn DQ6
    have y0 := YB.out
    have y1 := YX.out
    have y2 := YN.out
    have y3 := YX2.out
    have y4 := YNB0.out
    have y5 := Z_wr.out
    have y6 := YA.out
    have y7 := Z_W1.out
    have y8 := Z_W2.out
    have y9 := ZI.out
    have y10 := Z_W4.out
    have y11 := Z_W5.out
    have y12 := Z_W6.out
    have yd : w.heap.size ≤ W6.heap.size := d.out.size
    replace B0 := zB kt B0 (fun h => by skip; omega)
    replace B1 := zB kt B1 (fun h => by skip; omega)
    replace BX := zB kt BX (fun h => by skip; omega)
    replace P0 := zt Jf P0 kt (fun b h1 h2 => by have r1 := Q0.out b h1; skip; omega)
    replace P3 := zt Jc P3 kt (fun b h1 h2 => by have r1 := Q3.out b h1; skip; omega)
    replace PU := zt Jj PU kt (fun b h1 h2 => by have r1 := QU.out b h1; skip; omega)
    replace N2 := zt Jt N2 kt (fun b h1 h2 => by have r1 := O2.out b h1; skip; omega)
    replace N3 := zt Jc N3 kt (fun b h1 h2 => by have r1 := O3.out b h1; skip; omega)
    replace N5 := zt Jc N5 kt (fun b h1 h2 => by have r1 := O5.out b h1; skip; omega)
    replace N9 := zt Jw N9 kt (fun b h1 h2 => by have r1 := O9.out b h1; skip; omega)
    replace d := zh (Js d.out kt (fun b h => by skip; omega) (by omega))
    have Z_W7 := zh (show W6.heap.size ≤ W7.heap.size from kt.size)
    clear yd y0 y1 y2 y3 y4 y5 y6 y7 y8 y9 y10 y11 y12
    replace BA := zh kr
    clear kt kr
    have cp_BA_0 := Yr BA.out
    have cp_BX_0 := Kz BX.out
    have OW := zh (show Ji.O W7 (fun b => wr.heap.size ≤ b) [a0, a1, .slice ua2 x2.length uc2, .slice ua3 x3.length uc3, a4, .slice ua5 x5.length uc5, a6, a7, a8, .slice ua9 x9.length uc9] ((a0, a1, x2, x3), a4, x5, a6, a7, a8, x9) from tActive_mkO N2.out N3.out N5.out N9.out (fun b h => by have r1 := O2.out b h; have m0 := YB.out; have m1 := YX.out; have m2 := YN.out; have m3 := YX2.out; have m4 := YNB0.out; have m5 := Z_wr.out; have m6 := YA.out; have m7 := Z_W1.out; have m8 := Z_W2.out; have m9 := ZI.out; have m10 := Z_W4.out; have m11 := Z_W5.out; have m12 := Z_W6.out; have m13 := Z_W7.out; show wr.heap.size ≤ b; omega) (fun b h => by have r1 := O3.out b h; have m0 := YB.out; have m1 := YX.out; have m2 := YN.out; have m3 := YX2.out; have m4 := YNB0.out; have m5 := Z_wr.out; have m6 := YA.out; have m7 := Z_W1.out; have m8 := Z_W2.out; have m9 := ZI.out; have m10 := Z_W4.out; have m11 := Z_W5.out; have m12 := Z_W6.out; have m13 := Z_W7.out; show wr.heap.size ≤ b; omega) (fun b h => by have r1 := O5.out b h; have m0 := YB.out; have m1 := YX.out; have m2 := YN.out; have m3 := YX2.out; have m4 := YNB0.out; have m5 := Z_wr.out; have m6 := YA.out; have m7 := Z_W1.out; have m8 := Z_W2.out; have m9 := ZI.out; have m10 := Z_W4.out; have m11 := Z_W5.out; have m12 := Z_W6.out; have m13 := Z_W7.out; show wr.heap.size ≤ b; omega) (fun b h => by have r1 := O9.out b h; have m0 := YB.out; have m1 := YX.out; have m2 := YN.out; have m3 := YX2.out; have m4 := YNB0.out; have m5 := Z_wr.out; have m6 := YA.out; have m7 := Z_W1.out; have m8 := Z_W2.out; have m9 := ZI.out; have m10 := Z_W4.out; have m11 := Z_W5.out; have m12 := Z_W6.out; have m13 := Z_W7.out; show wr.heap.size ≤ b; omega) KJ.out (fun b h1 h2 => by have r1 := O2.out b h1; have r2 := O5.out b h2; have m0 := YB.out; have m1 := YX.out; have m2 := YN.out; have m3 := YX2.out; have m4 := YNB0.out; have m5 := Z_wr.out; have m6 := YA.out; have m7 := Z_W1.out; have m8 := Z_W2.out; have m9 := ZI.out; have m10 := Z_W4.out; have m11 := Z_W5.out; have m12 := Z_W6.out; have m13 := Z_W7.out; omega) (fun b h1 h2 => by have r1 := O2.out b h1; have r2 := O9.out b h2; have m0 := YB.out; have m1 := YX.out; have m2 := YN.out; have m3 := YX2.out; have m4 := YNB0.out; have m5 := Z_wr.out; have m6 := YA.out; have m7 := Z_W1.out; have m8 := Z_W2.out; have m9 := ZI.out; have m10 := Z_W4.out; have m11 := Z_W5.out; have m12 := Z_W6.out; have m13 := Z_W7.out; omega) (fun b h1 h2 => by have r1 := O3.out b h1; have r2 := O5.out b h2; have m0 := YB.out; have m1 := YX.out; have m2 := YN.out; have m3 := YX2.out; have m4 := YNB0.out; have m5 := Z_wr.out; have m6 := YA.out; have m7 := Z_W1.out; have m8 := Z_W2.out; have m9 := ZI.out; have m10 := Z_W4.out; have m11 := Z_W5.out; have m12 := Z_W6.out; have m13 := Z_W7.out; omega) (fun b h1 h2 => by have r1 := O3.out b h1; have r2 := O9.out b h2; have m0 := YB.out; have m1 := YX.out; have m2 := YN.out; have m3 := YX2.out; have m4 := YNB0.out; have m5 := Z_wr.out; have m6 := YA.out; have m7 := Z_W1.out; have m8 := Z_W2.out; have m9 := ZI.out; have m10 := Z_W4.out; have m11 := Z_W5.out; have m12 := Z_W6.out; have m13 := Z_W7.out; omega) (fun b h1 h2 => by have r1 := O5.out b h1; have r2 := O9.out b h2; have m0 := YB.out; have m1 := YX.out; have m2 := YN.out; have m3 := YX2.out; have m4 := YNB0.out; have m5 := Z_wr.out; have m6 := YA.out; have m7 := Z_W1.out; have m8 := Z_W2.out; have m9 := ZI.out; have m10 := Z_W4.out; have m11 := Z_W5.out; have m12 := Z_W6.out; have m13 := Z_W7.out; omega))
    have ZW : wr.heap.size ≤ W7.heap.size := by have h1 := kd.out.size; exact h1
    go_wp2_with (at_builtin; refine append_T Jj info_T_Active Tryz.underlying36 rfl rfl (.tmp 47) (.tmp 49) rfl (fun b => NB0 ≤ b) wr.heap.size _ (qs.take k) rfl PU.out ZW (fun b hb => by have m0 := YB.out; have m1 := YX.out; have m2 := YN.out; have m3 := YX2.out; have m4 := YNB0.out; have m5 := Z_wr.out; have m6 := YA.out; have m7 := Z_W1.out; have m8 := Z_W2.out; have m9 := ZI.out; have m10 := Z_W4.out; have m11 := Z_W5.out; have m12 := Z_W6.out; have m13 := Z_W7.out; omega) HKL.out [a0, a1, .slice ua2 x2.length uc2, .slice ua3 x3.length uc3, a4, .slice ua5 x5.length uc5, a6, a7, a8, .slice ua9 x9.length uc9] ((a0, a1, x2, x3), a4, x5, a6, a7, a8, x9) OW.out (by simp [Value.oneCell']) 1 _ rfl (by simp [Ie]) ?_)
    clear OW ZW cp_BA_0 cp_BX_0
    intro v' W8 oN tN
    rw [HTK.out] at oN
    obtain ⟨na, nl, nc, rfl⟩ : ∃ (a : Option Addr) (n c : Nat), v' = .slice a n c := (by obtain ⟨a, c, e⟩ := Ju oN; exact ⟨a, _, c, e⟩)
    have m0 := YB.out
    have m1 := YX.out
    have m2 := YN.out
    have m3 := YX2.out
    have m4 := YNB0.out
    have m5 := Z_wr.out
    have m6 := YA.out
    have m7 := Z_W1.out
    have m8 := Z_W2.out
    have m9 := ZI.out
    have m10 := Z_W4.out
    have m11 := Z_W5.out
    have m12 := Z_W6.out
    have m13 := Z_W7.out
    have bx8 := (tN.block bx (Array.getElem?_eq_some_iff.1 BX.out).1 (fun h => by have := h.1; omega)).trans BX.out
    have q0 := cr 0 (Value.slice ua ss.length uc) bx8
    have f0 := Ez W8 _ 0 _ _ bx8
    have q1 := cr 1 (Value.int .i64 now) bx8
    have f1 := Ez W8 _ 1 _ _ bx8
    have q2 := cr 2 (Value.int .i64 cu) bx8
    have f2 := Ez W8 _ 2 _ _ bx8
    have q3 := cr 3 (Value.slice ub os.length ud) bx8
    have f3 := Ez W8 _ 3 _ _ bx8
    have q4 := cr 4 (u) bx8
    have f4 := Ez W8 _ 4 _ _ bx8
    have q5 := cr 5 () bx8
    have f5 := Ez W8 _ 5 _ _ bx8
    have q6 := cr 6 () bx8
    have f6 := Ez W8 _ 6 _ _ bx8
    have q7 := cr 7 (Value.int .i64 st) bx8
    have f7 := Ez W8 _ 7 _ _ bx8
    have tf : Kb (fun b => b = bx) W8 (W8.setCell ⟨bx, 4, none⟩ (.slice na nl nc)) := Jm (G := fun b => b = bx) (g := bx) (j := 4) (u := .slice na nl nc) rfl
    have rf := Ib W8 bx 4 _ _ (.slice na nl nc) bx8
    simp at rf
    have oF := Ka Jj oN tf (fun b h1 h2 => by omega)
    have TF : Hid (Kb (fun b => b = bx) wc (W8.setCell ⟨bx, 4, none⟩ (.slice na nl nc))) := zh ⟨tf.os.trans (tN.os.trans (kd.out.os.trans TW.out.os)), tf.tape.trans (tN.tape.trans (kd.out.tape.trans TW.out.tape)), tf.output.trans (tN.output.trans (kd.out.output.trans TW.out.output)), Nat.le_trans TW.out.size (Nat.le_trans kd.out.size (Nat.le_trans tN.size tf.size)), fun j hj hn => by
     have h0 := TW.out.size; have h1 := kd.out.size; have h2 := tN.size; have hb := YNB0.out
     exact (tf.block j (by omega) hn).trans ((tN.block j (by omega) (fun h => by have h3 := h.1; omega)).trans ((kd.out.block j (by omega)).trans (TW.out.block j hj hn)))⟩
    have OF := zh oF; have RF := zh rf
    clear oF oN tN tf rf m0 m1 m2 m3 m4 m5 m6 m7 m8 m9 m10 m11 m12 m13
    go_wp2
    clear q0 f0 q1 f1 q2 f2 q3 f3 q4 f4 q5 f5 q6 f6 q7 f7 bx8
    go_roundw
    case rel => exact ⟨k + 1, _, by omega, by go_num, RF, OF, TF.out⟩
    case measure => simp [intOf]; omega
   ·
    obtain rfl : k = qs.length := by omega
    rw [List.take_length] at PU
    have hln := PU.out
    obtain ⟨va0, vc0, hln2⟩ := Ju hln
    clear hln
    subst hln2
    have PL0 := PU
    have QL0 : Hid (∀ b, (NB0 ≤ b ∧ b < wr.heap.size) → NB0 ≤ b ∧ b < wr.heap.size) := zh (fun b h => h)
    clear PU QU TW hk hlt
    have cp_B0_0 := Kz B0.out
    have cp_B1_0 := Kz B1.out
    have cp_BX_0 := Kz BX.out
    go_wp2
    clear cp_B0_0 cp_B1_0 cp_BX_0
    generalize hwr : wr = Wz0 at *
    clear hwr
    have Zz0 := Z_wr
    obtain ⟨NB1, hNB⟩ : ∃ n, n = Wz0.heap.size := ⟨_, rfl⟩
    have YNB1 : Hid (NB1 = Wz0.heap.size) := zh hNB
    clear hNB
    have X0 := BX
    go_loopw [6] (fun i wr => ∃ (k : Nat) (u : Value), k ≤ ds.length ∧ i = .int .i64 k ∧ Hid (wr.heap[bx]? = some (.cells #[.slice ua ss.length uc, .int .i64 now, .int .i64 cu, .slice ub os.length ud, .slice va0 qs.length vc0, u, (), .int .i64 st] 40 (0, 0))) ∧ Hid (Kp 59 Jg wr (fun b => NB1 ≤ b) u (ds.take k)) ∧ Kb (fun b => b = bx) Wz0 wr) (fun i _ => ds.length - (intOf i).toNat)
    case atStart => exact ⟨0, _, Ij _, rfl, BX, zh (Ya _ _ _ _), Kb.refl _ _⟩
    case round =>
     obtain ⟨k, u, hk, rfl, hx, hu, tw⟩ := hrel
     clear BX X0
     have TW := zh tw
     have y0 := YB.out
     have y1 := YX.out
     have y2 := YN.out
     have y3 := YX2.out
     have y4 := YNB0.out
     have y5 := Zz0.out
     have y6 := YNB1.out
     have yd : w.heap.size ≤ Wz0.heap.size := d.out.size
     replace B0 := zB tw B0 (fun h => by skip; omega)
     replace B1 := zB tw B1 (fun h => by skip; omega)
     replace P0 := zt Jf P0 tw (fun b h1 h2 => by have r1 := Q0.out b h1; skip; omega)
     replace P3 := zt Jc P3 tw (fun b h1 h2 => by have r1 := Q3.out b h1; skip; omega)
     replace PL0 := zt Jj PL0 tw (fun b h1 h2 => by have r1 := QL0.out b h1; skip; omega)
     replace d := zh (Js d.out tw (fun b h => by skip; omega) (by omega))
     have Z_wr := zh (show Wz0.heap.size ≤ wr.heap.size from tw.size)
     clear yd y0 y1 y2 y3 y4 y5 y6
     clear tw
     have BX := hx
     have PU := zh (Kn Jn hu.out)
     have QU : Hid (∀ b, (NB1 ≤ b ∧ b < wr.heap.size) → NB1 ≤ b ∧ b < wr.heap.size) := zh (fun b h => h)
     clear hx hu
     by_cases hlt : k < ds.length
     ·
      have i1 : (0 : Int) ≤ (k : Int) := by omega
      have i2 : (k : Int) < (ds.length : Int) := by omega
      have hz := Vj S5.out hlt
      have HTK : Hid (ds.take k ++ [ds.getD k f0D] = ds.take (k + 1)) := zh (take_step f0D hlt).symm
      have HKL : Hid ((ds.take k).length ≤ 1048576) := zh (by rw [List.length_take]; omega)
      change Jg.sz (ds.getD k f0D) ≤ 1048576 at hz
      obtain ⟨b, off, cap', p2, c2, p3, c3, p6, c6, hv, hbl, e0, e1, e2, e3, e4, e5, e6, g2, g3, g6⟩ := fin_at (Jb Jn H5.out d.out) hlt
      simp only [Ik] at hv
      obtain ⟨rfl, _, rfl⟩ := hv
      obtain ⟨xe, hxe⟩ : ∃ xe, xe = ds.getD k f0D := ⟨_, rfl⟩
      rw [← hxe] at hz HTK e0 e1 e2 e3 e4 e5 e6 g2 g3 g6
      clear hxe
      obtain ⟨⟨a0, a1, x2, x3⟩, a4, a5, x6⟩ := xe
      rw [Er] at hz
      dsimp only at *
      have G2 := zh g2; have M2 := zh (show zL Jk x2 ≤ 1048576 by omega)
      have G3 := zh g3; have M3 := zh (show zL Je x3 ≤ 1048576 by omega)
      have G6 := zh g6; have M6 := zh (show zL Ke x6 ≤ 1048576 by omega)
      clear hz g2 g3 g6
      have cal : Below wr wr (wr.alloc (.cells #[a0, a1, .slice p2 x2.length c2, .slice p3 x3.length c3, a4, a5, .slice p6 x6.length c6] 59)) := (Il _ _).alloc (Ii _) _
      have DQ0 := zh cal
      have BA : Hid ((wr.alloc (.cells #[a0, a1, .slice p2 x2.length c2, .slice p3 x3.length c3, a4, a5, .slice p6 x6.length c6] 59)).heap[wr.heap.size]? = some (.cells #[a0, a1, .slice p2 x2.length c2, .slice p3 x3.length c3, a4, a5, .slice p6 x6.length c6] 59 (0, 0))) := zh (Ic wr _)
      have cp_B0_0 := Kz B0.out
      have cp_BX_0 := Kz BX.out
      go_wp2_with fail
      clear cp_B0_0 cp_BX_0 e0 e1 e2 e3 e4 e5 e6 hbl
      generalize hWq : (wr.alloc (.cells #[a0, a1, .slice p2 x2.length c2, .slice p3 x3.length c3, a4, a5, .slice p6 x6.length c6] 59)) = Wq at *
      have DQ := DQ0
      clear hWq
      have YA : Hid (wr.heap.size < Wq.heap.size) := zh (Array.getElem?_eq_some_iff.1 BA.out).1
      replace B0 := zb cal B0
      replace B1 := zb cal B1
      replace BX := zb cal BX
      replace P0 := zf Jf P0 cal
      replace P3 := zf Jc P3 cal
      replace PL0 := zf Jj PL0 cal
      replace PU := zf Jn PU cal
      replace d := zD d cal
      clear cal
      refine (copy_l6Query a0 a1 (.slice p2 x2.length c2) (.slice p3 x3.length c3) x2 x3 Wq (Jb Jt G2.out DQ.out) (Jb Jc G3.out DQ.out) M2.out M3.out).mono ?_
      rintro e W1 ⟨cs, rfl, ow, c⟩
      replace ow := Kt.lt ow
      obtain ⟨u2, u3, E2, E3, rfl, o2, o3, k2, k3, kj⟩ := tQuery_O ow
      obtain ⟨ua2, uc2, rfl⟩ := Ju o2
      obtain ⟨ua3, uc3, rfl⟩ := Ju o3
      have N2 := zh o2; have N3 := zh o3; have KJ := zh kj
      have O2 : Hid (∀ b, E2 b → Wq.heap.size ≤ b ∧ b < W1.heap.size) := zh (fun b h => k2 b h)
      have O3 : Hid (∀ b, E3 b → Wq.heap.size ≤ b ∧ b < W1.heap.size) := zh (fun b h => k3 b h)
      have DQ1 := zh (DQ.out.trans (c.mono DQ.out.size))
      clear ow o2 o3 k2 k3 kj DQ DQ0
      replace B0 := zb c B0
      replace B1 := zb c B1
      replace BX := zb c BX
      replace BA := zb c BA
      replace P0 := zf Jf P0 c
      replace P3 := zf Jc P3 c
      replace PL0 := zf Jj PL0 c
      replace PU := zf Jn PU c
      replace d := zD d c
      have Z_W1 := zh (show Wq.heap.size ≤ W1.heap.size from c.size)
      clear c
      have cp_BA_0 := cls7 BA.out
      have f_BA_0 := Ez W1 _ 0 _ _ BA.out
      have f_BA_1 := Ez W1 _ 1 _ _ BA.out
      have f_BA_2 := Ez W1 _ 2 _ _ BA.out
      have f_BA_3 := Ez W1 _ 3 _ _ BA.out
      have f_BA_4 := Ez W1 _ 4 _ _ BA.out
      have f_BA_5 := Ez W1 _ 5 _ _ BA.out
      have f_BA_6 := Ez W1 _ 6 _ _ BA.out
      go_upto_region 15 with fail
      clear cp_BA_0 f_BA_0 f_BA_1 f_BA_2 f_BA_3 f_BA_4 f_BA_5 f_BA_6
      have kt := (((((Kb.refl (fun b => b = wr.heap.size) W1).trans (Jm (G := fun b => b = wr.heap.size) (g := wr.heap.size) (j := 0) (u := .int .i64 a0) rfl)).trans (Jm (G := fun b => b = wr.heap.size) (g := wr.heap.size) (j := 1) (u := .int .i64 a1) rfl)).trans (Jm (G := fun b => b = wr.heap.size) (g := wr.heap.size) (j := 2) (u := .slice ua2 x2.length uc2) rfl)).trans (Jm (G := fun b => b = wr.heap.size) (g := wr.heap.size) (j := 3) (u := .slice ua3 x3.length uc3) rfl))
      have kr := (Ib _ wr.heap.size 3 _ _ (.slice ua3 x3.length uc3) (Ib _ wr.heap.size 2 _ _ (.slice ua2 x2.length uc2) (Ib _ wr.heap.size 1 _ _ a1 (Ib _ wr.heap.size 0 _ _ a0 BA.out))))
      simp at kr
      have DQ2 := zh (Js DQ1.out kt (fun b h => by omega) DQ1.out.size)
      generalize hWn : ((((W1.setCell ⟨wr, 0, none⟩ a0).setCell ⟨wr, 1, none⟩ a1).setCell ⟨wr, 2, none⟩ (.slice ua2 x2.length uc2)).setCell ⟨wr, 3, none⟩ (.slice ua3 x3.length uc3)) = W2 at *
      clear hWn DQ1
      have y0 := YB.out
      have y1 := YX.out
      have y2 := YN.out
      have y3 := YX2.out
      have y4 := YNB0.out
      have y5 := Zz0.out
      have y6 := YNB1.out
      have y7 := Z_wr.out
      have y8 := YA.out
      have y9 := Z_W1.out
      have yd : w.heap.size ≤ W1.heap.size := d.out.size
      replace B0 := zB kt B0 (fun h => by skip; omega)
      replace B1 := zB kt B1 (fun h => by skip; omega)
      replace BX := zB kt BX (fun h => by skip; omega)
      replace P0 := zt Jf P0 kt (fun b h1 h2 => by have r1 := Q0.out b h1; skip; omega)
      replace P3 := zt Jc P3 kt (fun b h1 h2 => by have r1 := Q3.out b h1; skip; omega)
      replace PL0 := zt Jj PL0 kt (fun b h1 h2 => by have r1 := QL0.out b h1; skip; omega)
      replace PU := zt Jn PU kt (fun b h1 h2 => by have r1 := QU.out b h1; skip; omega)
      replace N2 := zt Jt N2 kt (fun b h1 h2 => by have r1 := O2.out b h1; skip; omega)
      replace N3 := zt Jc N3 kt (fun b h1 h2 => by have r1 := O3.out b h1; skip; omega)
      replace d := zh (Js d.out kt (fun b h => by skip; omega) (by omega))
      have Z_W2 := zh (show W1.heap.size ≤ W2.heap.size from kt.size)
      clear yd y0 y1 y2 y3 y4 y5 y6 y7 y8 y9
      replace BA := zh kr
      clear kt kr
      have cp_BA_0 := cls7 BA.out
      go_wp2_with fail
      clear cp_BA_0
      refine (copy_l9Rows (.slice p6 x6.length c6) x6 W2 (Jb Jw G6.out DQ2.out) M6.out).mono ?_
      rintro e W6 ⟨u9, rfl, o9, c⟩
      replace o9 := Kn Jw o9
      obtain ⟨ua9, uc9, rfl⟩ := Ju o9
      have N9 := zh o9
      have O9 : Hid (∀ b, (Kw W2 b ∧ b < W6.heap.size) → W2.heap.size ≤ b ∧ b < W6.heap.size) := zh (fun b h => h)
      have DQ6 := zh (DQ2.out.trans (c.mono DQ2.out.size))
      clear o9 DQ2
      replace B0 := zb c B0
      replace B1 := zb c B1
      replace BX := zb c BX
      replace BA := zb c BA
      replace P0 := zf Jf P0 c
      replace P3 := zf Jc P3 c
      replace PL0 := zf Jj PL0 c
      replace PU := zf Jn PU c
      replace N2 := zf Jt N2 c
      replace N3 := zf Jc N3 c
      replace d := zD d c
      have Z_W6 := zh (show W2.heap.size ≤ W6.heap.size from c.size)
      clear c
      have cp_BA_0 := cls7 BA.out
      have f_BA_0 := Ez W6 _ 0 _ _ BA.out
      have f_BA_1 := Ez W6 _ 1 _ _ BA.out
      have f_BA_2 := Ez W6 _ 2 _ _ BA.out
      have f_BA_3 := Ez W6 _ 3 _ _ BA.out
      have f_BA_4 := Ez W6 _ 4 _ _ BA.out
      have f_BA_5 := Ez W6 _ 5 _ _ BA.out
      have f_BA_6 := Ez W6 _ 6 _ _ BA.out
      go_upto_region 16 with fail
      clear cp_BA_0 f_BA_0 f_BA_1 f_BA_2 f_BA_3 f_BA_4 f_BA_5 f_BA_6
      have kt := ((Kb.refl (fun b => b = wr.heap.size) W6).trans (Jm (G := fun b => b = wr.heap.size) (g := wr.heap.size) (j := 6) (u := .slice ua9 x6.length uc9) rfl))
      have kr := (Ib _ wr.heap.size 6 _ _ (.slice ua9 x6.length uc9) BA.out)
      simp at kr
      have kd := zh (Js DQ6.out kt (fun b h => by omega) DQ6.out.size)
      generalize hWn : (W6.setCell ⟨wr, 6, none⟩ (.slice ua9 x6.length uc9)) = W7 at *
      clear hWn DQ6
      have y0 := YB.out
      have y1 := YX.out
      have y2 := YN.out
      have y3 := YX2.out
      have y4 := YNB0.out
      have y5 := Zz0.out
      have y6 := YNB1.out
      have y7 := Z_wr.out
      have y8 := YA.out
      have y9 := Z_W1.out
      have y10 := Z_W2.out
      have y11 := Z_W6.out
      have yd : w.heap.size ≤ W6.heap.size := d.out.size
      replace B0 := zB kt B0 (fun h => by skip; omega)
      replace B1 := zB kt B1 (fun h => by skip; omega)
      replace BX := zB kt BX (fun h => by skip; omega)
      replace P0 := zt Jf P0 kt (fun b h1 h2 => by have r1 := Q0.out b h1; skip; omega)
      replace P3 := zt Jc P3 kt (fun b h1 h2 => by have r1 := Q3.out b h1; skip; omega)
      replace PL0 := zt Jj PL0 kt (fun b h1 h2 => by have r1 := QL0.out b h1; skip; omega)
      replace PU := zt Jn PU kt (fun b h1 h2 => by have r1 := QU.out b h1; skip; omega)
      replace N2 := zt Jt N2 kt (fun b h1 h2 => by have r1 := O2.out b h1; skip; omega)
      replace N3 := zt Jc N3 kt (fun b h1 h2 => by have r1 := O3.out b h1; skip; omega)
      replace N9 := zt Jw N9 kt (fun b h1 h2 => by have r1 := O9.out b h1; skip; omega)
      replace d := zh (Js d.out kt (fun b h => by skip; omega) (by omega))
      have Z_W7 := zh (show W6.heap.size ≤ W7.heap.size from kt.size)
      clear yd y0 y1 y2 y3 y4 y5 y6 y7 y8 y9 y10 y11
      replace BA := zh kr
      clear kt kr
      have cp_BA_0 := cls7 BA.out
      have cp_BX_0 := Kz BX.out
      have OW := zh (show Jg.O W7 (fun b => wr.heap.size ≤ b) [a0, a1, .slice ua2 x2.length uc2, .slice ua3 x3.length uc3, a4, a5, .slice ua9 x6.length uc9] ((a0, a1, x2, x3), a4, a5, x6) from tFinished_mkO N2.out N3.out N9.out (fun b h => by have r1 := O2.out b h; have m0 := YB.out; have m1 := YX.out; have m2 := YN.out; have m3 := YX2.out; have m4 := YNB0.out; have m5 := Zz0.out; have m6 := YNB1.out; have m7 := Z_wr.out; have m8 := YA.out; have m9 := Z_W1.out; have m10 := Z_W2.out; have m11 := Z_W6.out; have m12 := Z_W7.out; show wr.heap.size ≤ b; omega) (fun b h => by have r1 := O3.out b h; have m0 := YB.out; have m1 := YX.out; have m2 := YN.out; have m3 := YX2.out; have m4 := YNB0.out; have m5 := Zz0.out; have m6 := YNB1.out; have m7 := Z_wr.out; have m8 := YA.out; have m9 := Z_W1.out; have m10 := Z_W2.out; have m11 := Z_W6.out; have m12 := Z_W7.out; show wr.heap.size ≤ b; omega) (fun b h => by have r1 := O9.out b h; have m0 := YB.out; have m1 := YX.out; have m2 := YN.out; have m3 := YX2.out; have m4 := YNB0.out; have m5 := Zz0.out; have m6 := YNB1.out; have m7 := Z_wr.out; have m8 := YA.out; have m9 := Z_W1.out; have m10 := Z_W2.out; have m11 := Z_W6.out; have m12 := Z_W7.out; show wr.heap.size ≤ b; omega) KJ.out (fun b h1 h2 => by have r1 := O2.out b h1; have r2 := O9.out b h2; have m0 := YB.out; have m1 := YX.out; have m2 := YN.out; have m3 := YX2.out; have m4 := YNB0.out; have m5 := Zz0.out; have m6 := YNB1.out; have m7 := Z_wr.out; have m8 := YA.out; have m9 := Z_W1.out; have m10 := Z_W2.out; have m11 := Z_W6.out; have m12 := Z_W7.out; omega) (fun b h1 h2 => by have r1 := O3.out b h1; have r2 := O9.out b h2; have m0 := YB.out; have m1 := YX.out; have m2 := YN.out; have m3 := YX2.out; have m4 := YNB0.out; have m5 := Zz0.out; have m6 := YNB1.out; have m7 := Z_wr.out; have m8 := YA.out; have m9 := Z_W1.out; have m10 := Z_W2.out; have m11 := Z_W6.out; have m12 := Z_W7.out; omega))
      have ZW : wr.heap.size ≤ W7.heap.size := by have h1 := kd.out.size; exact h1
      go_wp2_with (at_builtin; refine append_T Jn info_T_Finished Tryz.underlying37 rfl rfl (.tmp 73) (.tmp 75) rfl (fun b => NB1 ≤ b) wr.heap.size _ (ds.take k) rfl PU.out ZW (fun b hb => by have m0 := YB.out; have m1 := YX.out; have m2 := YN.out; have m3 := YX2.out; have m4 := YNB0.out; have m5 := Zz0.out; have m6 := YNB1.out; have m7 := Z_wr.out; have m8 := YA.out; have m9 := Z_W1.out; have m10 := Z_W2.out; have m11 := Z_W6.out; have m12 := Z_W7.out; omega) HKL.out [a0, a1, .slice ua2 x2.length uc2, .slice ua3 x3.length uc3, a4, a5, .slice ua9 x6.length uc9] ((a0, a1, x2, x3), a4, a5, x6) OW.out (by simp [Value.oneCell']) 1 _ rfl (by simp [Ie]) ?_)
      clear OW ZW cp_BA_0 cp_BX_0
      intro v' W8 oN tN
      rw [HTK.out] at oN
      obtain ⟨na, nl, nc, rfl⟩ : ∃ (a : Option Addr) (n c : Nat), v' = .slice a n c := (by obtain ⟨a, c, e⟩ := Ju oN; exact ⟨a, _, c, e⟩)
      have m0 := YB.out
      have m1 := YX.out
      have m2 := YN.out
      have m3 := YX2.out
      have m4 := YNB0.out
      have m5 := Zz0.out
      have m6 := YNB1.out
      have m7 := Z_wr.out
      have m8 := YA.out
      have m9 := Z_W1.out
      have m10 := Z_W2.out
      have m11 := Z_W6.out
      have m12 := Z_W7.out
      have bx8 := (tN.block bx (Array.getElem?_eq_some_iff.1 BX.out).1 (fun h => by have := h.1; omega)).trans BX.out
      have q0 := cr 0 (Value.slice ua ss.length uc) bx8
      have f0 := Ez W8 _ 0 _ _ bx8
      have q1 := cr 1 (Value.int .i64 now) bx8
      have f1 := Ez W8 _ 1 _ _ bx8
      have q2 := cr 2 (Value.int .i64 cu) bx8
      have f2 := Ez W8 _ 2 _ _ bx8
      have q3 := cr 3 (Value.slice ub os.length ud) bx8
      have f3 := Ez W8 _ 3 _ _ bx8
      have q4 := cr 4 (Value.slice va0 qs.length vc0) bx8
      have f4 := Ez W8 _ 4 _ _ bx8
      have q5 := cr 5 (u) bx8
      have f5 := Ez W8 _ 5 _ _ bx8
      have q6 := cr 6 () bx8
      have f6 := Ez W8 _ 6 _ _ bx8
      have q7 := cr 7 (Value.int .i64 st) bx8
      have f7 := Ez W8 _ 7 _ _ bx8
      have tf : Kb (fun b => b = bx) W8 (W8.setCell ⟨bx, 5, none⟩ (.slice na nl nc)) := Jm (G := fun b => b = bx) (g := bx) (j := 5) (u := .slice na nl nc) rfl
      have rf := Ib W8 bx 5 _ _ (.slice na nl nc) bx8
      simp at rf
      have oF := Ka Jn oN tf (fun b h1 h2 => by omega)
      have TF : Hid (Kb (fun b => b = bx) Wz0 (W8.setCell ⟨bx, 5, none⟩ (.slice na nl nc))) := zh ⟨tf.os.trans (tN.os.trans (kd.out.os.trans TW.out.os)), tf.tape.trans (tN.tape.trans (kd.out.tape.trans TW.out.tape)), tf.output.trans (tN.output.trans (kd.out.output.trans TW.out.output)), Nat.le_trans TW.out.size (Nat.le_trans kd.out.size (Nat.le_trans tN.size tf.size)), fun j hj hn => by
       have h0 := TW.out.size; have h1 := kd.out.size; have h2 := tN.size; have hb := YNB1.out
       exact (tf.block j (by omega) hn).trans ((tN.block j (by omega) (fun h => by have h3 := h.1; omega)).trans ((kd.out.block j (by omega)).trans (TW.out.block j hj hn)))⟩
      have OF := zh oF; have RF := zh rf
      clear oF oN tN tf rf m0 m1 m2 m3 m4 m5 m6 m7 m8 m9 m10 m11 m12
      go_wp2
      clear q0 f0 q1 f1 q2 f2 q3 f3 q4 f4 q5 f5 q6 f6 q7 f7 bx8
      go_roundw
      case rel => exact ⟨k + 1, _, by omega, by go_num, RF, OF, TF.out⟩
      case measure => simp [intOf]; omega
     ·
      obtain rfl : k = ds.length := by omega
      rw [List.take_length] at PU
      have hln := PU.out
      obtain ⟨va1, vc1, hln2⟩ := Ju hln
      clear hln
      subst hln2
      have PL1 := PU
      have QL1 : Hid (∀ b, (NB1 ≤ b ∧ b < wr.heap.size) → NB1 ≤ b ∧ b < wr.heap.size) := zh (fun b h => h)
      clear PU QU TW hk hlt
      have cp_B0_0 := Kz B0.out
      have cp_B1_0 := Kz B1.out
      have cp_BX_0 := Kz BX.out
      go_wp2
      clear cp_B0_0 cp_B1_0 cp_BX_0
      generalize hwr : wr = Wz1 at *
      clear hwr
      have Zz1 := Z_wr
      obtain ⟨NB2, hNB⟩ : ∃ n, n = Wz1.heap.size := ⟨_, rfl⟩
      have YNB2 : Hid (NB2 = Wz1.heap.size) := zh hNB
      clear hNB
      have X0 := BX
      go_loopw [8] (fun i wr => ∃ (k : Nat) (u : Value), k ≤ ls.length ∧ i = .int .i64 k ∧ Hid (wr.heap[bx]? = some (.cells #[.slice ua ss.length uc, .int .i64 now, .int .i64 cu, .slice ub os.length ud, .slice va0 qs.length vc0, .slice va1 ds.length vc1, u, .int .i64 st] 40 (0, 0))) ∧ Hid (Kp 162 Jo wr (fun b => NB2 ≤ b) u (ls.take k)) ∧ Kb (fun b => b = bx) Wz1 wr) (fun i _ => ls.length - (intOf i).toNat)
      case atStart => exact ⟨0, _, Ij _, rfl, BX, zh (Ya _ _ _ _), Kb.refl _ _⟩
      case round =>
       obtain ⟨k, u, hk, rfl, hx, hu, tw⟩ := hrel
       clear BX X0
       have TW := zh tw
       have y0 := YB.out
       have y1 := YX.out
       have y2 := YN.out
       have y3 := YX2.out
       have y4 := YNB0.out
       have y5 := Zz0.out
       have y6 := YNB1.out
       have y7 := Zz1.out
       have y8 := YNB2.out
       have yd : w.heap.size ≤ Wz1.heap.size := d.out.size
       replace B0 := zB tw B0 (fun h => by skip; omega)
       replace B1 := zB tw B1 (fun h => by skip; omega)
       replace P0 := zt Jf P0 tw (fun b h1 h2 => by have r1 := Q0.out b h1; skip; omega)
       replace P3 := zt Jc P3 tw (fun b h1 h2 => by have r1 := Q3.out b h1; skip; omega)
       replace PL0 := zt Jj PL0 tw (fun b h1 h2 => by have r1 := QL0.out b h1; skip; omega)
       replace PL1 := zt Jn PL1 tw (fun b h1 h2 => by have r1 := QL1.out b h1; skip; omega)
       replace d := zh (Js d.out tw (fun b h => by skip; omega) (by omega))
       have Z_wr := zh (show Wz1.heap.size ≤ wr.heap.size from tw.size)
       clear yd y0 y1 y2 y3 y4 y5 y6 y7 y8
       clear tw
       have BX := hx
       have PU := zh (Kn Jr hu.out)
       have QU : Hid (∀ b, (NB2 ≤ b ∧ b < wr.heap.size) → NB2 ≤ b ∧ b < wr.heap.size) := zh (fun b h => h)
       clear hx hu
       by_cases hlt : k < ls.length
       ·
        have i1 : (0 : Int) ≤ (k : Int) := by omega
        have i2 : (k : Int) < (ls.length : Int) := by omega
        have hz := Vj S6.out hlt
        have HTK : Hid (ls.take k ++ [ls.getD k x0D] = ls.take (k + 1)) := zh (take_step x0D hlt).symm
        have HKL : Hid ((ls.take k).length ≤ 1048576) := zh (by rw [List.length_take]; omega)
        change Jo.sz (ls.getD k x0D) ≤ 1048576 at hz
        obtain ⟨b, off, cap', p2, c2, p3, c3, p4, c4, hv, hbl, e0, e1, e2, e3, e4, g2, g3, g4⟩ := chg_at H6.out hlt
        simp only [Ik] at hv
        obtain ⟨rfl, _, rfl⟩ := hv
        obtain ⟨xe, hxe⟩ : ∃ xe, xe = ls.getD k x0D := ⟨_, rfl⟩
        rw [← hxe] at hz HTK e0 e1 e2 e3 e4 g2 g3 g4
        clear hxe
        obtain ⟨a0, a1, x2, x3, x4⟩ := xe
        rw [tCharge_sz] at hz
        dsimp only at *
        have G2 := zh g2; have M2 := zh (show zL Je x2 ≤ 1048576 by omega)
        have G3 := zh g3; have M3 := zh (show zL Je x3 ≤ 1048576 by omega)
        have G4 := zh g4; have M4 := zh (show zL Je x4 ≤ 1048576 by omega)
        clear hz g2 g3 g4
        have X0 := zh e0
        have X1 := zh e1
        have X2 := zh e2
        have X3 := zh e3
        have X4 := zh e4
        have BL := zh hbl
        clear hbl e0 e1 e2 e3 e4
        have cp_B0_0 := Kz B0.out
        have cp_BX_0 := Kz BX.out
        go_wp2
        clear cp_B0_0 cp_BX_0
        obtain ⟨p_B0_0, p_B0_1, p_B0_2, p_B0_3, p_B0_4, p_B0_5, p_B0_6, p_B0_7⟩ := Kz B0.out
        have p_X0 := cx d X0 BL
        have p_X1 := cx d X1 BL
        have p_X2 := cx d X2 BL
        have p_X3 := cx d X3 BL
        have p_X4 := cx d X4 BL
        refine wp_region_held_drew (S := fun w' => w'.cell? ⟨w, 0, none⟩ = some (Value.slice s1 ss.length sc) ∧ w'.cell? ⟨w, 1, none⟩ = some (Value.int .i64 now) ∧ w'.cell? ⟨w, 2, none⟩ = some (Value.int .i64 cu) ∧ w'.cell? ⟨w, 3, none⟩ = some (Value.slice o1 os.length oc) ∧ w'.cell? ⟨w, 4, none⟩ = some (Value.slice l1 qs.length lc) ∧ w'.cell? ⟨w, 5, none⟩ = some (Value.slice f1 ds.length fc) ∧ w'.cell? ⟨w, 6, none⟩ = some (Value.slice (some ⟨b, off, none⟩) ls.length kc) ∧ w'.cell? ⟨w, 7, none⟩ = some (Value.int .i64 st) ∧ w'.cell? ⟨b, off + k * 5, none⟩ = some (Value.int .i64 a0) ∧ w'.cell? ⟨b, off + k * 5 + 1, none⟩ = some (Value.int .i64 a1) ∧ w'.cell? ⟨b, off + k * 5 + 2, none⟩ = some (Value.slice p2 x2.length c2) ∧ w'.cell? ⟨b, off + k * 5 + 3, none⟩ = some (Value.slice p3 x3.length c3) ∧ w'.cell? ⟨b, off + k * 5 + 4, none⟩ = some (Value.slice p4 x4.length c4)) (by kernel_rfl) ⟨p_B0_0, p_B0_1, p_B0_2, p_B0_3, p_B0_4, p_B0_5, p_B0_6, p_B0_7, p_X0, p_X1, p_X2, p_X3, p_X4⟩ (fun hHeld => ?_)
        clear p_B0_0 p_B0_1 p_B0_2 p_B0_3 p_B0_4 p_B0_5 p_B0_6 p_B0_7 p_X0 p_X1 p_X2 p_X3 p_X4
        have cdr : Below wr wr wr.drew := Kc (Il _ _)
        replace B0 := zb cdr B0
        replace BX := zb cdr BX
        replace PU := zf Jr PU cdr
        replace d := zD d cdr
        clear cdr
        refine tQ (i := 0) ?_
        try simp only [Act.put, lA, lB, lC]
        refine tQ (i := 2) ?_
        try simp only [Act.put, lA, lB, lC]
        refine tQ (i := 3) ?_
        try simp only [Act.put, lA, lB, lC]
        refine tQ (i := 4) ?_
        try simp only [Act.put, lA, lB, lC]
        refine tQ (i := 5) ?_
        try simp only [Act.put, lA, lB, lC]
        refine tQ (i := 6) ?_
        try simp only [Act.put, lA, lB, lC]
        refine wpAnyH_ready (rs := [1, 7]) (by kernel_rfl) (by simp) ?_
        refine (AllReadyH.cons (o := _) (by simp only [hA, hB, hC]; rfl) (fun K hK => ?_) (AllReadyH.cons (o := _) (by simp only [hA, hB, hC]; rfl) (fun K hK => ?_) AllReadyH.nil))
        ·
         have p_BX_0 := (Ia (wr.drew) _ 0 _ _ _ BX.out).trans (show _ = some (Value.slice ua ss.length uc) from rfl)
         have p_BX_1 := cr 1 (Value.int .i64 now) BX.out
         have p_BX_2 := cr 2 (Value.int .i64 cu) BX.out
         have p_BX_3 := cr 3 (Value.slice ub os.length ud) BX.out
         have p_BX_4 := cr 4 (Value.slice va0 qs.length vc0) BX.out
         have p_BX_5 := cr 5 (Value.slice va1 ds.length vc1) BX.out
         have p_BX_6 := cr 6 (u) BX.out
         have p_BX_7 := cr 7 (Value.int .i64 st) BX.out
         go_simp
         clear p_BX_0 p_BX_1 p_BX_2 p_BX_3 p_BX_4 p_BX_5 p_BX_6 p_BX_7
         obtain ⟨p_B0_0, p_B0_1, p_B0_2, p_B0_3, p_B0_4, p_B0_5, p_B0_6, p_B0_7⟩ := Kz B0.out
         have p_X0 := cx d X0 BL
         have p_X1 := cx d X1 BL
         have p_X2 := cx d X2 BL
         have p_X3 := cx d X3 BL
         have p_X4 := cx d X4 BL
         refine hK.out _ _ ⟨p_B0_0, p_B0_1, p_B0_2, p_B0_3, p_B0_4, p_B0_5, p_B0_6, p_B0_7, p_X0, p_X1, p_X2, p_X3, p_X4⟩ (fun hHeld => ?_)
         clear p_B0_0 p_B0_1 p_B0_2 p_B0_3 p_B0_4 p_B0_5 p_B0_6 p_B0_7 p_X0 p_X1 p_X2 p_X3 p_X4
         clear hK K
         try simp only [Act.put, lA, lB, lC]
         refine rA 7 (fun K hK => ?_)
         go_simp
         refine (copy_l10Copy a0 a1 (.slice p2 x2.length c2) (.slice p3 x3.length c3) (.slice p4 x4.length c4) x2 x3 x4 (wr.drew) (Jb Jc G2.out d.out) (Jb Jc G3.out d.out) (Jb Jc G4.out d.out) M2.out M3.out M4.out).mono ?_
         rintro e W7 ⟨cs, rfl, ow, c⟩
         have kd := zh (show Below wr wr W7 from (Kc (Il wr.heap.size wr)).trans c)
         have OW : Hid (Jo.O W7 (fun b => wr.heap.size ≤ b) cs (a0, a1, x2, x3, x4)) := zh ow
         have ow2 := ow
         obtain ⟨u2, u3, u4, E2, E3, E4, rfl, o2, o3, o4, _, _, _, _, _, _⟩ := tCharge_O ow2
         obtain ⟨ua2, uc2, rfl⟩ := Ju o2
         obtain ⟨ua3, uc3, rfl⟩ := Ju o3
         obtain ⟨ua4, uc4, rfl⟩ := Ju o4
         clear ow o2 o3 o4
         replace B0 := zb c B0
         replace BX := zb c BX
         replace PU := zf Jr PU c
         replace d := zD d c
         have Z_W7 := zh (show wr.heap.size ≤ W7.heap.size from c.size)
         clear c
         obtain ⟨p_B0_0, p_B0_1, p_B0_2, p_B0_3, p_B0_4, p_B0_5, p_B0_6, p_B0_7⟩ := Kz B0.out
         have p_X0 := cx d X0 BL
         have p_X1 := cx d X1 BL
         have p_X2 := cx d X2 BL
         have p_X3 := cx d X3 BL
         have p_X4 := cx d X4 BL
         refine hK.out _ _ ⟨p_B0_0, p_B0_1, p_B0_2, p_B0_3, p_B0_4, p_B0_5, p_B0_6, p_B0_7, p_X0, p_X1, p_X2, p_X3, p_X4⟩ (fun hHeld => ?_)
         clear p_B0_0 p_B0_1 p_B0_2 p_B0_3 p_B0_4 p_B0_5 p_B0_6 p_B0_7 p_X0 p_X1 p_X2 p_X3 p_X4
         clear hK K
         try simp only [Act.put, lA, lB, lC]
         refine rA 8 (fun K hK => ?_)
         go_simp
         have hal : Below W7 W7 (W7.alloc (.cells #[a0, a1, .slice ua2 x2.length uc2, .slice ua3 x3.length uc3, .slice ua4 x4.length uc4] 162)) := (Il _ _).alloc (Ii _) _
         have KB0 := B0
         have KBX := BX
         have KPU := PU
         have Kd := d
         replace B0 := zb hal B0
         replace BX := zb hal BX
         replace d := zD d hal
         clear hal
         obtain ⟨p_B0_0, p_B0_1, p_B0_2, p_B0_3, p_B0_4, p_B0_5, p_B0_6, p_B0_7⟩ := Kz B0.out
         have p_X0 := cx d X0 BL
         have p_X1 := cx d X1 BL
         have p_X2 := cx d X2 BL
         have p_X3 := cx d X3 BL
         have p_X4 := cx d X4 BL
         refine hK.out _ _ ⟨p_B0_0, p_B0_1, p_B0_2, p_B0_3, p_B0_4, p_B0_5, p_B0_6, p_B0_7, p_X0, p_X1, p_X2, p_X3, p_X4⟩ (fun hHeld => ?_)
         clear p_B0_0 p_B0_1 p_B0_2 p_B0_3 p_B0_4 p_B0_5 p_B0_6 p_B0_7 p_X0 p_X1 p_X2 p_X3 p_X4
         clear hK K
         try simp only [Act.put, lA, lB, lC]
         refine rA 9 (fun K hK => ?_)
         refine Xx Jr info_T_Charge Tryz.underlying38 rfl rfl (.tmp 86) (.tmp 93) rfl (fun b => NB2 ≤ b) wr.heap.size _ (ls.take k) rfl KPU.out kd.out.size (fun b hb => by have m0 := YB.out; have m1 := YX.out; have m2 := YN.out; have m3 := YX2.out; have m4 := YNB0.out; have m5 := Zz0.out; have m6 := YNB1.out; have m7 := Zz1.out; have m8 := YNB2.out; have m9 := Z_wr.out; have m10 := Z_W7.out; omega) HKL.out [a0, a1, .slice ua2 x2.length uc2, .slice ua3 x3.length uc3, .slice ua4 x4.length uc4] (a0, a1, x2, x3, x4) OW.out (by simp [Value.oneCell']) 1 _ rfl rfl ?_
         intro v' W8 oN tN
         rw [HTK.out] at oN
         obtain ⟨na, nl, nc, rfl⟩ : ∃ (a : Option Addr) (n c : Nat), v' = .slice a n c := (by obtain ⟨a, c, e⟩ := Ju oN; exact ⟨a, _, c, e⟩)
         have m0 := YB.out
         have m1 := YX.out
         have m2 := YN.out
         have m3 := YX2.out
         have m4 := YNB0.out
         have m5 := Zz0.out
         have m6 := YNB1.out
         have m7 := Zz1.out
         have m8 := YNB2.out
         have m9 := Z_wr.out
         have m10 := Z_W7.out
         replace B0 := zB tN KB0 (fun h => by have := h.1; omega)
         replace BX := zB tN KBX (fun h => by have := h.1; omega)
         replace d := zh (Js Kd.out tN (fun b h => by have := h.1; omega) Kd.out.size)
         have ON := zh oN; have TN := zh tN
         clear oN tN m0 m1 m2 m3 m4 m5 m6 m7 m8 m9 m10
         obtain ⟨p_B0_0, p_B0_1, p_B0_2, p_B0_3, p_B0_4, p_B0_5, p_B0_6, p_B0_7⟩ := Kz B0.out
         have p_X0 := cx d X0 BL
         have p_X1 := cx d X1 BL
         have p_X2 := cx d X2 BL
         have p_X3 := cx d X3 BL
         have p_X4 := cx d X4 BL
         refine hK.out _ _ ⟨p_B0_0, p_B0_1, p_B0_2, p_B0_3, p_B0_4, p_B0_5, p_B0_6, p_B0_7, p_X0, p_X1, p_X2, p_X3, p_X4⟩ (fun hHeld => ?_)
         clear p_B0_0 p_B0_1 p_B0_2 p_B0_3 p_B0_4 p_B0_5 p_B0_6 p_B0_7 p_X0 p_X1 p_X2 p_X3 p_X4
         clear hK K
         try simp only [Act.put, lA, lB, lC]
         refine tQ (i := 10) ?_
         try simp only [Act.put, lA, lB, lC]
         refine rA 11 (fun K hK => ?_)
         have cp_BX_0 := Kz BX.out
         have f_BX_0 := Ez W8 _ 0 _ _ BX.out
         have f_BX_1 := Ez W8 _ 1 _ _ BX.out
         have f_BX_2 := Ez W8 _ 2 _ _ BX.out
         have f_BX_3 := Ez W8 _ 3 _ _ BX.out
         have f_BX_4 := Ez W8 _ 4 _ _ BX.out
         have f_BX_5 := Ez W8 _ 5 _ _ BX.out
         have f_BX_6 := Ez W8 _ 6 _ _ BX.out
         have f_BX_7 := Ez W8 _ 7 _ _ BX.out
         go_simp
         clear cp_BX_0 f_BX_0 f_BX_1 f_BX_2 f_BX_3 f_BX_4 f_BX_5 f_BX_6 f_BX_7
         have m0 := YB.out
         have m1 := YX.out
         have m2 := YN.out
         have m3 := YX2.out
         have m4 := YNB0.out
         have m5 := Zz0.out
         have m6 := YNB1.out
         have m7 := Zz1.out
         have m8 := YNB2.out
         have m9 := Z_wr.out
         have m10 := Z_W7.out
         have tf : Kb (fun b => b = bx) W8 (W8.setCell ⟨bx, 6, none⟩ (.slice na nl nc)) := Jm (G := fun b => b = bx) (g := bx) (j := 6) (u := .slice na nl nc) rfl
         have rf := Ib W8 bx 6 _ _ (.slice na nl nc) BX.out
         simp at rf
         have oF := Ka Jr ON.out tf (fun b h1 h2 => by omega)
         have TF : Hid (Kb (fun b => b = bx) Wz1 (W8.setCell ⟨bx, 6, none⟩ (.slice na nl nc))) := zh ⟨tf.os.trans (TN.out.os.trans (kd.out.os.trans TW.out.os)), tf.tape.trans (TN.out.tape.trans (kd.out.tape.trans TW.out.tape)), tf.output.trans (TN.out.output.trans (kd.out.output.trans TW.out.output)), Nat.le_trans TW.out.size (Nat.le_trans kd.out.size (Nat.le_trans TN.out.size tf.size)), fun j hj hn => by have h0 := TW.out.size; have h1 := kd.out.size; have h2 := TN.out.size; have hb := YNB2.out; exact (tf.block j (by omega) hn).trans ((TN.out.block j (by omega) (fun h => by have h3 := h.1; omega)).trans ((kd.out.block j (by omega)).trans (TW.out.block j hj hn)))⟩
         replace B0 := zB tf B0 (fun h => by omega)
         replace d := zh (Js d.out tf (fun b h => by omega) d.out.size)
         have OF := zh oF; have RF := zh rf
         clear BX oF tf rf m0 m1 m2 m3 m4 m5 m6 m7 m8 m9 m10
         generalize (W8.setCell ⟨bx, 6, none⟩ (.slice na nl nc)) = W9 at *
         have BX := RF
         obtain ⟨p_B0_0, p_B0_1, p_B0_2, p_B0_3, p_B0_4, p_B0_5, p_B0_6, p_B0_7⟩ := Kz B0.out
         have p_X0 := cx d X0 BL
         have p_X1 := cx d X1 BL
         have p_X2 := cx d X2 BL
         have p_X3 := cx d X3 BL
         have p_X4 := cx d X4 BL
         refine hK.out _ _ ⟨p_B0_0, p_B0_1, p_B0_2, p_B0_3, p_B0_4, p_B0_5, p_B0_6, p_B0_7, p_X0, p_X1, p_X2, p_X3, p_X4⟩ (fun hHeld => ?_)
         clear p_B0_0 p_B0_1 p_B0_2 p_B0_3 p_B0_4 p_B0_5 p_B0_6 p_B0_7 p_X0 p_X1 p_X2 p_X3 p_X4
         clear hK K
         try simp only [Act.put, lA, lB, lC]
         refine wpAnyH_done (by kernel_rfl) ?_ _
         clear hHeld
         go_wp2
         go_roundw
         case rel => exact ⟨k + 1, _, by omega, by go_num, RF, OF, TF.out⟩
         case measure => simp [intOf]; omega
        ·
         go_simp
         refine (copy_l10Copy a0 a1 (.slice p2 x2.length c2) (.slice p3 x3.length c3) (.slice p4 x4.length c4) x2 x3 x4 (wr.drew) (Jb Jc G2.out d.out) (Jb Jc G3.out d.out) (Jb Jc G4.out d.out) M2.out M3.out M4.out).mono ?_
         rintro e W7 ⟨cs, rfl, ow, c⟩
         have kd := zh (show Below wr wr W7 from (Kc (Il wr.heap.size wr)).trans c)
         have OW : Hid (Jo.O W7 (fun b => wr.heap.size ≤ b) cs (a0, a1, x2, x3, x4)) := zh ow
         have ow2 := ow
         obtain ⟨u2, u3, u4, E2, E3, E4, rfl, o2, o3, o4, _, _, _, _, _, _⟩ := tCharge_O ow2
         obtain ⟨ua2, uc2, rfl⟩ := Ju o2
         obtain ⟨ua3, uc3, rfl⟩ := Ju o3
         obtain ⟨ua4, uc4, rfl⟩ := Ju o4
         clear ow o2 o3 o4
         replace B0 := zb c B0
         replace BX := zb c BX
         replace PU := zf Jr PU c
         replace d := zD d c
         have Z_W7 := zh (show wr.heap.size ≤ W7.heap.size from c.size)
         clear c
         obtain ⟨p_B0_0, p_B0_1, p_B0_2, p_B0_3, p_B0_4, p_B0_5, p_B0_6, p_B0_7⟩ := Kz B0.out
         have p_X0 := cx d X0 BL
         have p_X1 := cx d X1 BL
         have p_X2 := cx d X2 BL
         have p_X3 := cx d X3 BL
         have p_X4 := cx d X4 BL
         refine hK.out _ _ ⟨p_B0_0, p_B0_1, p_B0_2, p_B0_3, p_B0_4, p_B0_5, p_B0_6, p_B0_7, p_X0, p_X1, p_X2, p_X3, p_X4⟩ (fun hHeld => ?_)
         clear p_B0_0 p_B0_1 p_B0_2 p_B0_3 p_B0_4 p_B0_5 p_B0_6 p_B0_7 p_X0 p_X1 p_X2 p_X3 p_X4
         clear hK K
         try simp only [Act.put, lA, lB, lC]
         refine wpAnyH_ready (rs := [1, 8]) (by kernel_rfl) (by simp) ?_
         refine (AllReadyH.cons (o := _) (by simp only [hA, hB, hC]; rfl) (fun K hK => ?_) (AllReadyH.cons (o := _) (by simp only [hA, hB, hC]; rfl) (fun K hK => ?_) AllReadyH.nil))
         ·
          have p_BX_0 := (Ia W7 _ 0 _ _ _ BX.out).trans (show _ = some (Value.slice ua ss.length uc) from rfl)
          have p_BX_1 := cr 1 (Value.int .i64 now) BX.out
          have p_BX_2 := cr 2 (Value.int .i64 cu) BX.out
          have p_BX_3 := cr 3 (Value.slice ub os.length ud) BX.out
          have p_BX_4 := cr 4 (Value.slice va0 qs.length vc0) BX.out
          have p_BX_5 := cr 5 (Value.slice va1 ds.length vc1) BX.out
          have p_BX_6 := cr 6 (u) BX.out
          have p_BX_7 := cr 7 (Value.int .i64 st) BX.out
          go_simp
          clear p_BX_0 p_BX_1 p_BX_2 p_BX_3 p_BX_4 p_BX_5 p_BX_6 p_BX_7
          obtain ⟨p_B0_0, p_B0_1, p_B0_2, p_B0_3, p_B0_4, p_B0_5, p_B0_6, p_B0_7⟩ := Kz B0.out
          have p_X0 := cx d X0 BL
          have p_X1 := cx d X1 BL
          have p_X2 := cx d X2 BL
          have p_X3 := cx d X3 BL
          have p_X4 := cx d X4 BL
          refine hK.out _ _ ⟨p_B0_0, p_B0_1, p_B0_2, p_B0_3, p_B0_4, p_B0_5, p_B0_6, p_B0_7, p_X0, p_X1, p_X2, p_X3, p_X4⟩ (fun hHeld => ?_)
          clear p_B0_0 p_B0_1 p_B0_2 p_B0_3 p_B0_4 p_B0_5 p_B0_6 p_B0_7 p_X0 p_X1 p_X2 p_X3 p_X4
          clear hK K
          try simp only [Act.put, lA, lB, lC]
          refine rA 8 (fun K hK => ?_)
          go_simp
          have hal : Below W7 W7 (W7.alloc (.cells #[a0, a1, .slice ua2 x2.length uc2, .slice ua3 x3.length uc3, .slice ua4 x4.length uc4] 162)) := (Il _ _).alloc (Ii _) _
          have KB0 := B0
          have KBX := BX
          have KPU := PU
          have Kd := d
          replace B0 := zb hal B0
          replace BX := zb hal BX
          replace d := zD d hal
          clear hal
          obtain ⟨p_B0_0, p_B0_1, p_B0_2, p_B0_3, p_B0_4, p_B0_5, p_B0_6, p_B0_7⟩ := Kz B0.out
          have p_X0 := cx d X0 BL
          have p_X1 := cx d X1 BL
          have p_X2 := cx d X2 BL
          have p_X3 := cx d X3 BL
          have p_X4 := cx d X4 BL
          refine hK.out _ _ ⟨p_B0_0, p_B0_1, p_B0_2, p_B0_3, p_B0_4, p_B0_5, p_B0_6, p_B0_7, p_X0, p_X1, p_X2, p_X3, p_X4⟩ (fun hHeld => ?_)
          clear p_B0_0 p_B0_1 p_B0_2 p_B0_3 p_B0_4 p_B0_5 p_B0_6 p_B0_7 p_X0 p_X1 p_X2 p_X3 p_X4
          clear hK K
          try simp only [Act.put, lA, lB, lC]
          refine rA 9 (fun K hK => ?_)
          refine Xx Jr info_T_Charge Tryz.underlying38 rfl rfl (.tmp 86) (.tmp 93) rfl (fun b => NB2 ≤ b) wr.heap.size _ (ls.take k) rfl KPU.out kd.out.size (fun b hb => by have m0 := YB.out; have m1 := YX.out; have m2 := YN.out; have m3 := YX2.out; have m4 := YNB0.out; have m5 := Zz0.out; have m6 := YNB1.out; have m7 := Zz1.out; have m8 := YNB2.out; have m9 := Z_wr.out; have m10 := Z_W7.out; omega) HKL.out [a0, a1, .slice ua2 x2.length uc2, .slice ua3 x3.length uc3, .slice ua4 x4.length uc4] (a0, a1, x2, x3, x4) OW.out (by simp [Value.oneCell']) 1 _ rfl rfl ?_
          intro v' W8 oN tN
          rw [HTK.out] at oN
          obtain ⟨na, nl, nc, rfl⟩ : ∃ (a : Option Addr) (n c : Nat), v' = .slice a n c := (by obtain ⟨a, c, e⟩ := Ju oN; exact ⟨a, _, c, e⟩)
          have m0 := YB.out
          have m1 := YX.out
          have m2 := YN.out
          have m3 := YX2.out
          have m4 := YNB0.out
          have m5 := Zz0.out
          have m6 := YNB1.out
          have m7 := Zz1.out
          have m8 := YNB2.out
          have m9 := Z_wr.out
          have m10 := Z_W7.out
          replace B0 := zB tN KB0 (fun h => by have := h.1; omega)
          replace BX := zB tN KBX (fun h => by have := h.1; omega)
          replace d := zh (Js Kd.out tN (fun b h => by have := h.1; omega) Kd.out.size)
          have ON := zh oN; have TN := zh tN
          clear oN tN m0 m1 m2 m3 m4 m5 m6 m7 m8 m9 m10
          obtain ⟨p_B0_0, p_B0_1, p_B0_2, p_B0_3, p_B0_4, p_B0_5, p_B0_6, p_B0_7⟩ := Kz B0.out
          have p_X0 := cx d X0 BL
          have p_X1 := cx d X1 BL
          have p_X2 := cx d X2 BL
          have p_X3 := cx d X3 BL
          have p_X4 := cx d X4 BL
          refine hK.out _ _ ⟨p_B0_0, p_B0_1, p_B0_2, p_B0_3, p_B0_4, p_B0_5, p_B0_6, p_B0_7, p_X0, p_X1, p_X2, p_X3, p_X4⟩ (fun hHeld => ?_)
          clear p_B0_0 p_B0_1 p_B0_2 p_B0_3 p_B0_4 p_B0_5 p_B0_6 p_B0_7 p_X0 p_X1 p_X2 p_X3 p_X4
          clear hK K
          try simp only [Act.put, lA, lB, lC]
          refine tQ (i := 10) ?_
          try simp only [Act.put, lA, lB, lC]
          refine rA 11 (fun K hK => ?_)
          have cp_BX_0 := Kz BX.out
          have f_BX_0 := Ez W8 _ 0 _ _ BX.out
          have f_BX_1 := Ez W8 _ 1 _ _ BX.out
          have f_BX_2 := Ez W8 _ 2 _ _ BX.out
          have f_BX_3 := Ez W8 _ 3 _ _ BX.out
          have f_BX_4 := Ez W8 _ 4 _ _ BX.out
          have f_BX_5 := Ez W8 _ 5 _ _ BX.out
          have f_BX_6 := Ez W8 _ 6 _ _ BX.out
          have f_BX_7 := Ez W8 _ 7 _ _ BX.out
          go_simp
          clear cp_BX_0 f_BX_0 f_BX_1 f_BX_2 f_BX_3 f_BX_4 f_BX_5 f_BX_6 f_BX_7
          have m0 := YB.out
          have m1 := YX.out
          have m2 := YN.out
          have m3 := YX2.out
          have m4 := YNB0.out
          have m5 := Zz0.out
          have m6 := YNB1.out
          have m7 := Zz1.out
          have m8 := YNB2.out
          have m9 := Z_wr.out
          have m10 := Z_W7.out
          have tf : Kb (fun b => b = bx) W8 (W8.setCell ⟨bx, 6, none⟩ (.slice na nl nc)) := Jm (G := fun b => b = bx) (g := bx) (j := 6) (u := .slice na nl nc) rfl
          have rf := Ib W8 bx 6 _ _ (.slice na nl nc) BX.out
          simp at rf
          have oF := Ka Jr ON.out tf (fun b h1 h2 => by omega)
          have TF : Hid (Kb (fun b => b = bx) Wz1 (W8.setCell ⟨bx, 6, none⟩ (.slice na nl nc))) := zh ⟨tf.os.trans (TN.out.os.trans (kd.out.os.trans TW.out.os)), tf.tape.trans (TN.out.tape.trans (kd.out.tape.trans TW.out.tape)), tf.output.trans (TN.out.output.trans (kd.out.output.trans TW.out.output)), Nat.le_trans TW.out.size (Nat.le_trans kd.out.size (Nat.le_trans TN.out.size tf.size)), fun j hj hn => by have h0 := TW.out.size; have h1 := kd.out.size; have h2 := TN.out.size; have hb := YNB2.out; exact (tf.block j (by omega) hn).trans ((TN.out.block j (by omega) (fun h => by have h3 := h.1; omega)).trans ((kd.out.block j (by omega)).trans (TW.out.block j hj hn)))⟩
          replace B0 := zB tf B0 (fun h => by omega)
          replace d := zh (Js d.out tf (fun b h => by omega) d.out.size)
          have OF := zh oF; have RF := zh rf
          clear BX oF tf rf m0 m1 m2 m3 m4 m5 m6 m7 m8 m9 m10
          generalize (W8.setCell ⟨bx, 6, none⟩ (.slice na nl nc)) = W9 at *
          have BX := RF
          obtain ⟨p_B0_0, p_B0_1, p_B0_2, p_B0_3, p_B0_4, p_B0_5, p_B0_6, p_B0_7⟩ := Kz B0.out
          have p_X0 := cx d X0 BL
          have p_X1 := cx d X1 BL
          have p_X2 := cx d X2 BL
          have p_X3 := cx d X3 BL
          have p_X4 := cx d X4 BL
          refine hK.out _ _ ⟨p_B0_0, p_B0_1, p_B0_2, p_B0_3, p_B0_4, p_B0_5, p_B0_6, p_B0_7, p_X0, p_X1, p_X2, p_X3, p_X4⟩ (fun hHeld => ?_)
          clear p_B0_0 p_B0_1 p_B0_2 p_B0_3 p_B0_4 p_B0_5 p_B0_6 p_B0_7 p_X0 p_X1 p_X2 p_X3 p_X4
          clear hK K
          try simp only [Act.put, lA, lB, lC]
          refine wpAnyH_done (by kernel_rfl) ?_ _
          clear hHeld
          go_wp2
          go_roundw
          case rel => exact ⟨k + 1, _, by omega, by go_num, RF, OF, TF.out⟩
          case measure => simp [intOf]; omega
         ·
          go_simp
          have hal : Below W7 W7 (W7.alloc (.cells #[a0, a1, .slice ua2 x2.length uc2, .slice ua3 x3.length uc3, .slice ua4 x4.length uc4] 162)) := (Il _ _).alloc (Ii _) _
          have KB0 := B0
          have KBX := BX
          have KPU := PU
          have Kd := d
          replace B0 := zb hal B0
          replace BX := zb hal BX
          replace d := zD d hal
          clear hal
          obtain ⟨p_B0_0, p_B0_1, p_B0_2, p_B0_3, p_B0_4, p_B0_5, p_B0_6, p_B0_7⟩ := Kz B0.out
          have p_X0 := cx d X0 BL
          have p_X1 := cx d X1 BL
          have p_X2 := cx d X2 BL
          have p_X3 := cx d X3 BL
          have p_X4 := cx d X4 BL
          refine hK.out _ _ ⟨p_B0_0, p_B0_1, p_B0_2, p_B0_3, p_B0_4, p_B0_5, p_B0_6, p_B0_7, p_X0, p_X1, p_X2, p_X3, p_X4⟩ (fun hHeld => ?_)
          clear p_B0_0 p_B0_1 p_B0_2 p_B0_3 p_B0_4 p_B0_5 p_B0_6 p_B0_7 p_X0 p_X1 p_X2 p_X3 p_X4
          clear hK K
          try simp only [Act.put, lA, lB, lC]
          refine rA 1 (fun K hK => ?_)
          have cp_BX_0 := Kz BX.out
          go_simp
          clear cp_BX_0
          obtain ⟨p_B0_0, p_B0_1, p_B0_2, p_B0_3, p_B0_4, p_B0_5, p_B0_6, p_B0_7⟩ := Kz B0.out
          have p_X0 := cx d X0 BL
          have p_X1 := cx d X1 BL
          have p_X2 := cx d X2 BL
          have p_X3 := cx d X3 BL
          have p_X4 := cx d X4 BL
          refine hK.out _ _ ⟨p_B0_0, p_B0_1, p_B0_2, p_B0_3, p_B0_4, p_B0_5, p_B0_6, p_B0_7, p_X0, p_X1, p_X2, p_X3, p_X4⟩ (fun hHeld => ?_)
          clear p_B0_0 p_B0_1 p_B0_2 p_B0_3 p_B0_4 p_B0_5 p_B0_6 p_B0_7 p_X0 p_X1 p_X2 p_X3 p_X4
          clear hK K
          try simp only [Act.put, lA, lB, lC]
          refine rA 9 (fun K hK => ?_)
          refine Xx Jr info_T_Charge Tryz.underlying38 rfl rfl (.tmp 86) (.tmp 93) rfl (fun b => NB2 ≤ b) wr.heap.size _ (ls.take k) rfl KPU.out kd.out.size (fun b hb => by have m0 := YB.out; have m1 := YX.out; have m2 := YN.out; have m3 := YX2.out; have m4 := YNB0.out; have m5 := Zz0.out; have m6 := YNB1.out; have m7 := Zz1.out; have m8 := YNB2.out; have m9 := Z_wr.out; have m10 := Z_W7.out; omega) HKL.out [a0, a1, .slice ua2 x2.length uc2, .slice ua3 x3.length uc3, .slice ua4 x4.length uc4] (a0, a1, x2, x3, x4) OW.out (by simp [Value.oneCell']) 1 _ rfl rfl ?_
          intro v' W8 oN tN
          rw [HTK.out] at oN
          obtain ⟨na, nl, nc, rfl⟩ : ∃ (a : Option Addr) (n c : Nat), v' = .slice a n c := (by obtain ⟨a, c, e⟩ := Ju oN; exact ⟨a, _, c, e⟩)
          have m0 := YB.out
          have m1 := YX.out
          have m2 := YN.out
          have m3 := YX2.out
          have m4 := YNB0.out
          have m5 := Zz0.out
          have m6 := YNB1.out
          have m7 := Zz1.out
          have m8 := YNB2.out
          have m9 := Z_wr.out
          have m10 := Z_W7.out
          replace B0 := zB tN KB0 (fun h => by have := h.1; omega)
          replace BX := zB tN KBX (fun h => by have := h.1; omega)
          replace d := zh (Js Kd.out tN (fun b h => by have := h.1; omega) Kd.out.size)
          have ON := zh oN; have TN := zh tN
          clear oN tN m0 m1 m2 m3 m4 m5 m6 m7 m8 m9 m10
          obtain ⟨p_B0_0, p_B0_1, p_B0_2, p_B0_3, p_B0_4, p_B0_5, p_B0_6, p_B0_7⟩ := Kz B0.out
          have p_X0 := cx d X0 BL
          have p_X1 := cx d X1 BL
          have p_X2 := cx d X2 BL
          have p_X3 := cx d X3 BL
          have p_X4 := cx d X4 BL
          refine hK.out _ _ ⟨p_B0_0, p_B0_1, p_B0_2, p_B0_3, p_B0_4, p_B0_5, p_B0_6, p_B0_7, p_X0, p_X1, p_X2, p_X3, p_X4⟩ (fun hHeld => ?_)
          clear p_B0_0 p_B0_1 p_B0_2 p_B0_3 p_B0_4 p_B0_5 p_B0_6 p_B0_7 p_X0 p_X1 p_X2 p_X3 p_X4
          clear hK K
          try simp only [Act.put, lA, lB, lC]
          refine tQ (i := 10) ?_
          try simp only [Act.put, lA, lB, lC]
          refine rA 11 (fun K hK => ?_)
          have cp_BX_0 := Kz BX.out
          have f_BX_0 := Ez W8 _ 0 _ _ BX.out
          have f_BX_1 := Ez W8 _ 1 _ _ BX.out
          have f_BX_2 := Ez W8 _ 2 _ _ BX.out
          have f_BX_3 := Ez W8 _ 3 _ _ BX.out
          have f_BX_4 := Ez W8 _ 4 _ _ BX.out
          have f_BX_5 := Ez W8 _ 5 _ _ BX.out
          have f_BX_6 := Ez W8 _ 6 _ _ BX.out
          have f_BX_7 := Ez W8 _ 7 _ _ BX.out
          go_simp
          clear cp_BX_0 f_BX_0 f_BX_1 f_BX_2 f_BX_3 f_BX_4 f_BX_5 f_BX_6 f_BX_7
          have m0 := YB.out
          have m1 := YX.out
          have m2 := YN.out
          have m3 := YX2.out
          have m4 := YNB0.out
          have m5 := Zz0.out
          have m6 := YNB1.out
          have m7 := Zz1.out
          have m8 := YNB2.out
          have m9 := Z_wr.out
          have m10 := Z_W7.out
          have tf : Kb (fun b => b = bx) W8 (W8.setCell ⟨bx, 6, none⟩ (.slice na nl nc)) := Jm (G := fun b => b = bx) (g := bx) (j := 6) (u := .slice na nl nc) rfl
          have rf := Ib W8 bx 6 _ _ (.slice na nl nc) BX.out
          simp at rf
          have oF := Ka Jr ON.out tf (fun b h1 h2 => by omega)
          have TF : Hid (Kb (fun b => b = bx) Wz1 (W8.setCell ⟨bx, 6, none⟩ (.slice na nl nc))) := zh ⟨tf.os.trans (TN.out.os.trans (kd.out.os.trans TW.out.os)), tf.tape.trans (TN.out.tape.trans (kd.out.tape.trans TW.out.tape)), tf.output.trans (TN.out.output.trans (kd.out.output.trans TW.out.output)), Nat.le_trans TW.out.size (Nat.le_trans kd.out.size (Nat.le_trans TN.out.size tf.size)), fun j hj hn => by have h0 := TW.out.size; have h1 := kd.out.size; have h2 := TN.out.size; have hb := YNB2.out; exact (tf.block j (by omega) hn).trans ((TN.out.block j (by omega) (fun h => by have h3 := h.1; omega)).trans ((kd.out.block j (by omega)).trans (TW.out.block j hj hn)))⟩
          replace B0 := zB tf B0 (fun h => by omega)
          replace d := zh (Js d.out tf (fun b h => by omega) d.out.size)
          have OF := zh oF; have RF := zh rf
          clear BX oF tf rf m0 m1 m2 m3 m4 m5 m6 m7 m8 m9 m10
          generalize (W8.setCell ⟨bx, 6, none⟩ (.slice na nl nc)) = W9 at *
          have BX := RF
          obtain ⟨p_B0_0, p_B0_1, p_B0_2, p_B0_3, p_B0_4, p_B0_5, p_B0_6, p_B0_7⟩ := Kz B0.out
          have p_X0 := cx d X0 BL
          have p_X1 := cx d X1 BL
          have p_X2 := cx d X2 BL
          have p_X3 := cx d X3 BL
          have p_X4 := cx d X4 BL
          refine hK.out _ _ ⟨p_B0_0, p_B0_1, p_B0_2, p_B0_3, p_B0_4, p_B0_5, p_B0_6, p_B0_7, p_X0, p_X1, p_X2, p_X3, p_X4⟩ (fun hHeld => ?_)
          clear p_B0_0 p_B0_1 p_B0_2 p_B0_3 p_B0_4 p_B0_5 p_B0_6 p_B0_7 p_X0 p_X1 p_X2 p_X3 p_X4
          clear hK K
          try simp only [Act.put, lA, lB, lC]
          refine wpAnyH_done (by kernel_rfl) ?_ _
          clear hHeld
          go_wp2
          go_roundw
          case rel => exact ⟨k + 1, _, by omega, by go_num, RF, OF, TF.out⟩
          case measure => simp [intOf]; omega
       ·
        obtain rfl : k = ls.length := by omega
        rw [List.take_length] at PU
        have hln := PU.out
        obtain ⟨va2, vc2, hln2⟩ := Ju hln
        clear hln
        subst hln2
        have PL2 := PU
        have QL2 : Hid (∀ b, (NB2 ≤ b ∧ b < wr.heap.size) → NB2 ≤ b ∧ b < wr.heap.size) := zh (fun b h => h)
        clear PU QU TW hk hlt
        obtain ⟨p_B0_0, p_B0_1, p_B0_2, p_B0_3, p_B0_4, p_B0_5, p_B0_6, p_B0_7⟩ := Kz B0.out
        obtain ⟨p_B1_0, p_B1_1, p_B1_2, p_B1_3, p_B1_4, p_B1_5, p_B1_6, p_B1_7⟩ := Kz B1.out
        obtain ⟨p_BX_0, p_BX_1, p_BX_2, p_BX_3, p_BX_4, p_BX_5, p_BX_6, p_BX_7⟩ := Kz BX.out
        have f_B1_0 := Ez wr _ 0 _ _ B1.out
        have f_B1_1 := Ez wr _ 1 _ _ B1.out
        have f_B1_2 := Ez wr _ 2 _ _ B1.out
        have f_B1_3 := Ez wr _ 3 _ _ B1.out
        have f_B1_4 := Ez wr _ 4 _ _ B1.out
        have f_B1_5 := Ez wr _ 5 _ _ B1.out
        have f_B1_6 := Ez wr _ 6 _ _ B1.out
        have f_B1_7 := Ez wr _ 7 _ _ B1.out
        have tt := ts8 wr (w.heap.size + 1) (.slice ua ss.length uc) (.int .i64 now) (.int .i64 cu) (.slice ub os.length ud) (.slice va0 qs.length vc0) (.slice va1 ds.length vc1) (.slice va2 ls.length vc2) (.int .i64 st)
        have r := st8 B1.out (.slice ua ss.length uc) (.int .i64 now) (.int .i64 cu) (.slice ub os.length ud) (.slice va0 qs.length vc0) (.slice va1 ds.length vc1) (.slice va2 ls.length vc2) (.int .i64 st)
        try simp at r
        have e0 := cr 0 (Value.slice ua ss.length uc) r
        have e1 := cr 1 (Value.int .i64 now) r
        have e2 := cr 2 (Value.int .i64 cu) r
        have e3 := cr 3 (Value.slice ub os.length ud) r
        have e4 := cr 4 (Value.slice va0 qs.length vc0) r
        have e5 := cr 5 (Value.slice va1 ds.length vc1) r
        have e6 := cr 6 (Value.slice va2 ls.length vc2) r
        have e7 := cr 7 (Value.int .i64 st) r
        have y0 := YB.out
        have y1 := YX.out
        have y2 := YN.out
        have y3 := YX2.out
        have y4 := YNB0.out
        have y5 := Zz0.out
        have y6 := YNB1.out
        have y7 := Zz1.out
        have y8 := YNB2.out
        have y9 := Z_wr.out
        have PFP0 := zt Jf P0 tt (fun b h1 h2 => by have r1 := Q0.out b h1; omega)
        have PFP3 := zt Jc P3 tt (fun b h1 h2 => by have r1 := Q3.out b h1; omega)
        have PFPL0 := zt Jj PL0 tt (fun b h1 h2 => by have r1 := QL0.out b h1; omega)
        have PFPL1 := zt Jn PL1 tt (fun b h1 h2 => by have r1 := QL1.out b h1; omega)
        have PFPL2 := zt Jr PL2 tt (fun b h1 h2 => by have r1 := QL2.out b h1; omega)
        have DF := zh (Js d.out tt (fun b h => by omega) d.out.size)
        clear tt r y0 y1 y2 y3 y4 y5 y6 y7 y8 y9
        go_wp2
        refine bodyPost_ret (v := .agg #[.slice ua ss.length uc, .int .i64 now, .int .i64 cu, .slice ub os.length ud, .slice va0 qs.length vc0, .slice va1 ds.length vc1, .slice va2 ls.length vc2, .int .i64 st]) ?_ rfl ⟨[.slice ua ss.length uc, .int .i64 now, .int .i64 cu, .slice ub os.length ud, .slice va0 qs.length vc0, .slice va1 ds.length vc1, .slice va2 ls.length vc2, .int .i64 st], rfl, tEngine_mkO PFP0.out PFP3.out PFPL0.out PFPL1.out PFPL2.out (fun b h => by have r1 := Q0.out b h; have y0 := YB.out; have y1 := YX.out; have y2 := YN.out; have y3 := YX2.out; have y4 := YNB0.out; have y5 := Zz0.out; have y6 := YNB1.out; have y7 := Zz1.out; have y8 := YNB2.out; have y9 := Z_wr.out; show w.heap.size ≤ b; omega) (fun b h => by have r1 := Q3.out b h; have y0 := YB.out; have y1 := YX.out; have y2 := YN.out; have y3 := YX2.out; have y4 := YNB0.out; have y5 := Zz0.out; have y6 := YNB1.out; have y7 := Zz1.out; have y8 := YNB2.out; have y9 := Z_wr.out; show w.heap.size ≤ b; omega) (fun b h => by have r1 := QL0.out b h; have y0 := YB.out; have y1 := YX.out; have y2 := YN.out; have y3 := YX2.out; have y4 := YNB0.out; have y5 := Zz0.out; have y6 := YNB1.out; have y7 := Zz1.out; have y8 := YNB2.out; have y9 := Z_wr.out; show w.heap.size ≤ b; omega) (fun b h => by have r1 := QL1.out b h; have y0 := YB.out; have y1 := YX.out; have y2 := YN.out; have y3 := YX2.out; have y4 := YNB0.out; have y5 := Zz0.out; have y6 := YNB1.out; have y7 := Zz1.out; have y8 := YNB2.out; have y9 := Z_wr.out; show w.heap.size ≤ b; omega) (fun b h => by have r1 := QL2.out b h; have y0 := YB.out; have y1 := YX.out; have y2 := YN.out; have y3 := YX2.out; have y4 := YNB0.out; have y5 := Zz0.out; have y6 := YNB1.out; have y7 := Zz1.out; have y8 := YNB2.out; have y9 := Z_wr.out; show w.heap.size ≤ b; omega) DJ.out (fun b h1 h2 => by have r1 := Q0.out b h1; have r2 := QL0.out b h2; have y0 := YB.out; have y1 := YX.out; have y2 := YN.out; have y3 := YX2.out; have y4 := YNB0.out; have y5 := Zz0.out; have y6 := YNB1.out; have y7 := Zz1.out; have y8 := YNB2.out; have y9 := Z_wr.out; omega) (fun b h1 h2 => by have r1 := Q0.out b h1; have r2 := QL1.out b h2; have y0 := YB.out; have y1 := YX.out; have y2 := YN.out; have y3 := YX2.out; have y4 := YNB0.out; have y5 := Zz0.out; have y6 := YNB1.out; have y7 := Zz1.out; have y8 := YNB2.out; have y9 := Z_wr.out; omega) (fun b h1 h2 => by have r1 := Q0.out b h1; have r2 := QL2.out b h2; have y0 := YB.out; have y1 := YX.out; have y2 := YN.out; have y3 := YX2.out; have y4 := YNB0.out; have y5 := Zz0.out; have y6 := YNB1.out; have y7 := Zz1.out; have y8 := YNB2.out; have y9 := Z_wr.out; omega) (fun b h1 h2 => by have r1 := Q3.out b h1; have r2 := QL0.out b h2; have y0 := YB.out; have y1 := YX.out; have y2 := YN.out; have y3 := YX2.out; have y4 := YNB0.out; have y5 := Zz0.out; have y6 := YNB1.out; have y7 := Zz1.out; have y8 := YNB2.out; have y9 := Z_wr.out; omega) (fun b h1 h2 => by have r1 := Q3.out b h1; have r2 := QL1.out b h2; have y0 := YB.out; have y1 := YX.out; have y2 := YN.out; have y3 := YX2.out; have y4 := YNB0.out; have y5 := Zz0.out; have y6 := YNB1.out; have y7 := Zz1.out; have y8 := YNB2.out; have y9 := Z_wr.out; omega) (fun b h1 h2 => by have r1 := Q3.out b h1; have r2 := QL2.out b h2; have y0 := YB.out; have y1 := YX.out; have y2 := YN.out; have y3 := YX2.out; have y4 := YNB0.out; have y5 := Zz0.out; have y6 := YNB1.out; have y7 := Zz1.out; have y8 := YNB2.out; have y9 := Z_wr.out; omega) (fun b h1 h2 => by have r1 := QL0.out b h1; have r2 := QL1.out b h2; have y0 := YB.out; have y1 := YX.out; have y2 := YN.out; have y3 := YX2.out; have y4 := YNB0.out; have y5 := Zz0.out; have y6 := YNB1.out; have y7 := Zz1.out; have y8 := YNB2.out; have y9 := Z_wr.out; omega) (fun b h1 h2 => by have r1 := QL0.out b h1; have r2 := QL2.out b h2; have y0 := YB.out; have y1 := YX.out; have y2 := YN.out; have y3 := YX2.out; have y4 := YNB0.out; have y5 := Zz0.out; have y6 := YNB1.out; have y7 := Zz1.out; have y8 := YNB2.out; have y9 := Z_wr.out; omega) (fun b h1 h2 => by have r1 := QL1.out b h1; have r2 := QL2.out b h2; have y0 := YB.out; have y1 := YX.out; have y2 := YN.out; have y3 := YX2.out; have y4 := YNB0.out; have y5 := Zz0.out; have y6 := YNB1.out; have y7 := Zz1.out; have y8 := YNB2.out; have y9 := Z_wr.out; omega), DF.out⟩
        simp [results, Tryz.f79, go_sem, e0, e1, e2, e3, e4, e5, e6, e7]
end Go.Proofs.YtnepfacnmaoieaaGreatDoor
