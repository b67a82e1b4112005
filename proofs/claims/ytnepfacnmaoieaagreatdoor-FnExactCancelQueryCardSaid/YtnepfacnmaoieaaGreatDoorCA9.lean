/-
 Texts of the proof, merged: Cpl10Copy, Cpl3Copy, Mpl9Rows.
-/
import Derived.Test.YtnepfacnmaoieaaGreatDoorCA1
import Derived.Test.YtnepfacnmaoieaaGreatDoorCA3
import Derived.Test.YtnepfacnmaoieaaGreatDoorCA4
import Derived.Test.YtnepfacnmaoieaaGreatDoorCA5
import Derived.Test.YtnepfacnmaoieaaGreatDoorCA6
namespace Go.Proofs.YtnepfacnmaoieaaGreatDoor
open Go.RowKit
open Go renaming frozen_of_row → Ez, cell_of_row → Ia, heap_alloc_new → Ic
open Go.World renaming size_alloc → Ie
open Nat renaming le_refl → Ii, zero_le → Ij
open Go.Value.slice renaming injEq → Ik
open Go.RowKit.Below renaming refl → Il
open ZD0
set_option maxRecDepth 100000
set_option linter.unusedVariables false
set_option linter.unusedSimpArgs false
set_option maxHeartbeats 16000000 in
theorem copy_l10Copy (a0 a1 : Int) (v2 v3 v4 : Value) (x2 : List Int) (x3 : List Int) (x4 : List Int) (w : World) (h2 : Ko Je w v2 x2) (h3 : Ko Je w v3 x3) (h4 : Ko Je w v4 x4) (s2 : zL Je x2 ≤ 1048576) (s3 : zL Je x3 ≤ 1048576) (s4 : zL Je x4 ≤ 1048576) :
  Calls Tryz.prog 150 #[.agg #[a0, a1, v2, v3, v4]] w (Yy Jo (fun cs => .agg cs.toArray) w (a0, a1, x2, x3, x4)) := by
 obtain ⟨c2, k2, rfl⟩ := Jl h2
 obtain ⟨c3, k3, rfl⟩ := Jl h3
 obtain ⟨c4, k4, rfl⟩ := Jl h4
 have H2 := zh h2; have N2 := zh (Jz s2)
 have H3 := zh h3; have N3 := zh (Jz s3)
 have H4 := zh h4; have N4 := zh (Jz s4)
 clear h2 s2 h3 s3 h4 s4
 have d := zh (show Below w w ((w.alloc (.cells #[a0, a1, .slice c2 x2.length k2, .slice c3 x3.length k3, .slice c4 x4.length k4] 162)).alloc (.cells #[Ja, Ja, (), (), ()] 162)) from ((Il _ w).alloc (Ii _) _).alloc (by simp) _)
 have B1 : Hid (((w.alloc (.cells #[a0, a1, .slice c2 x2.length k2, .slice c3 x3.length k3, .slice c4 x4.length k4] 162)).alloc (.cells #[Ja, Ja, (), (), ()] 162)).heap[(w.heap.size + 1)]? = some (.cells #[Ja, Ja, (), (), ()] 162 (0, 0))) := zh (by
   have := Ic (w.alloc (.cells #[a0, a1, .slice c2 x2.length k2, .slice c3 x3.length k3, .slice c4 x4.length k4] 162)) (.cells #[Ja, Ja, (), (), ()] 162)
   simpa only [Ie] using this)
 have B0 : Hid (((w.alloc (.cells #[a0, a1, .slice c2 x2.length k2, .slice c3 x3.length k3, .slice c4 x4.length k4] 162)).alloc (.cells #[Ja, Ja, (), (), ()] 162)).heap[w.heap.size]? = some (.cells #[a0, a1, .slice c2 x2.length k2, .slice c3 x3.length k3, .slice c4 x4.length k4] 162 (0, 0))) := zh (by
   rw [Below.heap_alloc _ _ _ (by simp)]
   exact Ic w _)
 have z : w.heap.size + 2 ≤ ((w.alloc (.cells #[a0, a1, .slice c2 x2.length k2, .slice c3 x3.length k3, .slice c4 x4.length k4] 162)).alloc (.cells #[Ja, Ja, (), (), ()] 162)).heap.size := by simp [Ie]
 have Zz := zh z
 clear z
 go_enter Tryz.func150, Tryz.ntmps150
 go_wp2
 generalize ((w.alloc (.cells #[a0, a1, .slice c2 x2.length k2, .slice c3 x3.length k3, .slice c4 x4.length k4] 162)).alloc (.cells #[Ja, Ja, (), (), ()] 162)) = wc at *
 refine wp_region_held_drew (S := fun w' => w'.cell? ⟨w, 0, none⟩ = some (Value.int .i64 a0) ∧ w'.cell? ⟨w, 1, none⟩ = some (Value.int .i64 a1) ∧ w'.cell? ⟨w, 2, none⟩ = some (Value.slice c2 x2.length k2) ∧ w'.cell? ⟨w, 3, none⟩ = some (Value.slice c3 x3.length k3) ∧ w'.cell? ⟨w, 4, none⟩ = some (Value.slice c4 x4.length k4)) (by kernel_rfl) ⟨Ia wc _ 0 _ _ _ B0.out, Ia wc _ 1 _ _ _ B0.out, Ia wc _ 2 _ _ _ B0.out, Ia wc _ 3 _ _ _ B0.out, Ia wc _ 4 _ _ _ B0.out⟩ (fun hHeld => ?_)
 have hdr : Below wc wc wc.drew := Kc (Il _ _)
 have z : w.heap.size + 2 ≤ wc.drew.heap.size := Zz.out
 replace d := zd d hdr (by have := Zz.out; omega)
 replace B0 := zb hdr B0
 replace B1 := zb hdr B1
 clear hdr Zz
 generalize wc.drew = wc at *
 refine uQ 0 ?_
 try simp only [Act.put, lA, lB, lC]
 refine uQ 1 ?_
 try simp only [Act.put, lA, lB, lC]
 refine uQ 2 ?_
 try simp only [Act.put, lA, lB, lC]
 refine uQ 3 ?_
 try simp only [Act.put, lA, lB, lC]
 refine uQ 5 ?_
 try simp only [Act.put, lA, lB, lC]
 refine uQ 6 ?_
 try simp only [Act.put, lA, lB, lC]
 refine uQ 9 ?_
 try simp only [Act.put, lA, lB, lC]
 refine uQ 10 ?_
 try simp only [Act.put, lA, lB, lC]
 refine uQ 13 ?_
 try simp only [Act.put, lA, lB, lC]
 refine uQ 14 ?_
 try simp only [Act.put, lA, lB, lC]
 repeat' first
  | (have t := ‹Tok 4›
     clear tk t
     go_simp
     have hal := zal wc (.cells #[] 3)
     have P2 := zh (Ye (T := Je) wc 3 (fun b => b = wc.heap.size) rfl)
     have z := zs wc (.cells #[] 3)
     replace d := zd d hal (by omega)
     replace B0 := zb hal B0
     replace B1 := zb hal B1
     try replace P3 := zf Jc P3 hal
     try replace P4 := zf Jc P4 hal
     clear hal
     generalize wc.heap.size = g2 at *
     generalize (wc.alloc (.cells #[] 3)) = wc at *
     refine hK.out _ _ ⟨Ia _ _ 0 _ _ _ B0.out, Ia _ _ 1 _ _ _ B0.out, Ia _ _ 2 _ _ _ B0.out, Ia _ _ 3 _ _ _ B0.out, Ia _ _ 4 _ _ _ B0.out⟩ (fun hHeld => ?_)
     clear hK K
     try simp only [Act.put, lA, lB, lC])
  | (have t := ‹Tok 7›
     clear tk t
     refine Kv Jc Uf Yp Tryz.underlying25 rfl rfl (.tmp 7) (.tmp 9) rfl (fun b => b = g2) (fun b => b = g2 ∨ b = wc.heap.size) _ _ [] x2 rfl rfl P2.out (Jb Jc H2.out d.out) (fun b h => Or.inl h) (Or.inr rfl) (by have := N2.out; simp; omega) ?_
     intro u wn oB tB
     rw [List.nil_append] at oB
     obtain ⟨ua2, uc2, rfl⟩ := Ju oB
     have z := tB.size
     replace d := zh (Js d.out tB (fun b h => by (try dsimp only at h); omega) (by omega))
     replace B0 := zB tB B0 (fun h => by (try dsimp only at h); omega)
     replace B1 := zB tB B1 (fun h => by (try dsimp only at h); omega)
     try replace P3 := zt Jc P3 tB (fun b h1 h2 => by (try dsimp only at h1 h2); omega)
     try replace P4 := zt Jc P4 tB (fun b h1 h2 => by (try dsimp only at h1 h2); omega)
     replace P2 := zh (Kn Jc oB)
     clear oB tB
     generalize wc.heap.size = k2 at *
     rename World => wc
     refine hK.out _ _ ⟨Ia _ _ 0 _ _ _ B0.out, Ia _ _ 1 _ _ _ B0.out, Ia _ _ 2 _ _ _ B0.out, Ia _ _ 3 _ _ _ B0.out, Ia _ _ 4 _ _ _ B0.out⟩ (fun hHeld => ?_)
     clear hK K
     try simp only [Act.put, lA, lB, lC])
  | (have t := ‹Tok 8›
     clear tk t
     go_simp
     have hal := zal wc (.cells #[] 3)
     have P3 := zh (Ye (T := Je) wc 3 (fun b => b = wc.heap.size) rfl)
     have z := zs wc (.cells #[] 3)
     replace d := zd d hal (by omega)
     replace B0 := zb hal B0
     replace B1 := zb hal B1
     try replace P2 := zf Jc P2 hal
     try replace P4 := zf Jc P4 hal
     clear hal
     generalize wc.heap.size = g3 at *
     generalize (wc.alloc (.cells #[] 3)) = wc at *
     refine hK.out _ _ ⟨Ia _ _ 0 _ _ _ B0.out, Ia _ _ 1 _ _ _ B0.out, Ia _ _ 2 _ _ _ B0.out, Ia _ _ 3 _ _ _ B0.out, Ia _ _ 4 _ _ _ B0.out⟩ (fun hHeld => ?_)
     clear hK K
     try simp only [Act.put, lA, lB, lC])
  | (have t := ‹Tok 11›
     clear tk t
     refine Kv Jc Uf Yp Tryz.underlying25 rfl rfl (.tmp 11) (.tmp 13) rfl (fun b => b = g3) (fun b => b = g3 ∨ b = wc.heap.size) _ _ [] x3 rfl rfl P3.out (Jb Jc H3.out d.out) (fun b h => Or.inl h) (Or.inr rfl) (by have := N3.out; simp; omega) ?_
     intro u wn oB tB
     rw [List.nil_append] at oB
     obtain ⟨ua3, uc3, rfl⟩ := Ju oB
     have z := tB.size
     replace d := zh (Js d.out tB (fun b h => by (try dsimp only at h); omega) (by omega))
     replace B0 := zB tB B0 (fun h => by (try dsimp only at h); omega)
     replace B1 := zB tB B1 (fun h => by (try dsimp only at h); omega)
     try replace P2 := zt Jc P2 tB (fun b h1 h2 => by (try dsimp only at h1 h2); omega)
     try replace P4 := zt Jc P4 tB (fun b h1 h2 => by (try dsimp only at h1 h2); omega)
     replace P3 := zh (Kn Jc oB)
     clear oB tB
     generalize wc.heap.size = k3 at *
     rename World => wc
     refine hK.out _ _ ⟨Ia _ _ 0 _ _ _ B0.out, Ia _ _ 1 _ _ _ B0.out, Ia _ _ 2 _ _ _ B0.out, Ia _ _ 3 _ _ _ B0.out, Ia _ _ 4 _ _ _ B0.out⟩ (fun hHeld => ?_)
     clear hK K
     try simp only [Act.put, lA, lB, lC])
  | (have t := ‹Tok 12›
     clear tk t
     go_simp
     have hal := zal wc (.cells #[] 3)
     have P4 := zh (Ye (T := Je) wc 3 (fun b => b = wc.heap.size) rfl)
     have z := zs wc (.cells #[] 3)
     replace d := zd d hal (by omega)
     replace B0 := zb hal B0
     replace B1 := zb hal B1
     try replace P2 := zf Jc P2 hal
     try replace P3 := zf Jc P3 hal
     clear hal
     generalize wc.heap.size = g4 at *
     generalize (wc.alloc (.cells #[] 3)) = wc at *
     refine hK.out _ _ ⟨Ia _ _ 0 _ _ _ B0.out, Ia _ _ 1 _ _ _ B0.out, Ia _ _ 2 _ _ _ B0.out, Ia _ _ 3 _ _ _ B0.out, Ia _ _ 4 _ _ _ B0.out⟩ (fun hHeld => ?_)
     clear hK K
     try simp only [Act.put, lA, lB, lC])
  | (have t := ‹Tok 15›
     clear tk t
     refine Kv Jc Uf Yp Tryz.underlying25 rfl rfl (.tmp 15) (.tmp 17) rfl (fun b => b = g4) (fun b => b = g4 ∨ b = wc.heap.size) _ _ [] x4 rfl rfl P4.out (Jb Jc H4.out d.out) (fun b h => Or.inl h) (Or.inr rfl) (by have := N4.out; simp; omega) ?_
     intro u wn oB tB
     rw [List.nil_append] at oB
     obtain ⟨ua4, uc4, rfl⟩ := Ju oB
     have z := tB.size
     replace d := zh (Js d.out tB (fun b h => by (try dsimp only at h); omega) (by omega))
     replace B0 := zB tB B0 (fun h => by (try dsimp only at h); omega)
     replace B1 := zB tB B1 (fun h => by (try dsimp only at h); omega)
     try replace P2 := zt Jc P2 tB (fun b h1 h2 => by (try dsimp only at h1 h2); omega)
     try replace P3 := zt Jc P3 tB (fun b h1 h2 => by (try dsimp only at h1 h2); omega)
     replace P4 := zh (Kn Jc oB)
     clear oB tB
     generalize wc.heap.size = k4 at *
     rename World => wc
     refine hK.out _ _ ⟨Ia _ _ 0 _ _ _ B0.out, Ia _ _ 1 _ _ _ B0.out, Ia _ _ 2 _ _ _ B0.out, Ia _ _ 3 _ _ _ B0.out, Ia _ _ 4 _ _ _ B0.out⟩ (fun hHeld => ?_)
     clear hK K
     try simp only [Act.put, lA, lB, lC])
  | (have t := ‹Tok 17›
     clear tk t
     have q := (⟨Ia wc _ 0 _ _ _ B1.out, Ia wc _ 1 _ _ _ B1.out, Ia wc _ 2 _ _ _ B1.out, Ia wc _ 3 _ _ _ B1.out, Ia wc _ 4 _ _ _ B1.out⟩ : wc.cell? ⟨w.heap.size + 1, 0, none⟩ = some (Value.int .i64 0) ∧ wc.cell? ⟨w.heap.size + 1, 1, none⟩ = some (Value.int .i64 0) ∧ wc.cell? ⟨w.heap.size + 1, 2, none⟩ = some (Value.slice none 0 0) ∧ wc.cell? ⟨w.heap.size + 1, 3, none⟩ = some (Value.slice none 0 0) ∧ wc.cell? ⟨w.heap.size + 1, 4, none⟩ = some (Value.slice none 0 0))
     obtain ⟨q0, q1, q2, q3, q4⟩ := q
     have f0 := Ez wc _ 0 _ _ B1.out
     have f1 := Ez wc _ 1 _ _ B1.out
     have f2 := Ez wc _ 2 _ _ B1.out
     have f3 := Ez wc _ 3 _ _ B1.out
     have f4 := Ez wc _ 4 _ _ B1.out
     go_simp
     clear q0 f0 q1 f1 q2 f2 q3 f3 q4 f4
     have tt := ((((((Kb.refl (fun b => b = w.heap.size + 1) wc).trans (Jm (G := fun b => b = w.heap.size + 1) (g := w.heap.size + 1) (j := 0) (u := .int .i64 a0) rfl)).trans (Jm (G := fun b => b = w.heap.size + 1) (g := w.heap.size + 1) (j := 1) (u := .int .i64 a1) rfl)).trans (Jm (G := fun b => b = w.heap.size + 1) (g := w.heap.size + 1) (j := 2) (u := .slice ua2 x2.length uc2) rfl)).trans (Jm (G := fun b => b = w.heap.size + 1) (g := w.heap.size + 1) (j := 3) (u := .slice ua3 x3.length uc3) rfl)).trans (Jm (G := fun b => b = w.heap.size + 1) (g := w.heap.size + 1) (j := 4) (u := .slice ua4 x4.length uc4) rfl))
     have r := st5 B1.out a0 a1 (.slice ua2 x2.length uc2) (.slice ua3 x3.length uc3) (.slice ua4 x4.length uc4)
     have e0 := Ia _ _ 0 _ _ _ r
     have e1 := Ia _ _ 1 _ _ _ r
     have e2 := Ia _ _ 2 _ _ _ r
     have e3 := Ia _ _ 3 _ _ _ r
     have e4 := Ia _ _ 4 _ _ _ r
     simp at e0 e1 e2 e3 e4
     clear r
     replace B0 := zB tt B0 (fun h => by (try dsimp only at h); omega)
     replace P2 := zt Jc P2 tt (fun b h1 h2 => by (try dsimp only at h1 h2); omega)
     replace P3 := zt Jc P3 tt (fun b h1 h2 => by (try dsimp only at h1 h2); omega)
     replace P4 := zt Jc P4 tt (fun b h1 h2 => by (try dsimp only at h1 h2); omega)
     replace d := zh (Js d.out tt (fun b h => by (try dsimp only at h); omega) d.out.size)
     clear tt B1
     generalize (((((wc.setCell ⟨w.heap.size + 1, 0, none⟩ a0).setCell ⟨w.heap.size + 1, 1, none⟩ a1).setCell ⟨w.heap.size + 1, 2, none⟩ (.slice ua2 x2.length uc2)).setCell ⟨w.heap.size + 1, 3, none⟩ (.slice ua3 x3.length uc3)).setCell ⟨w.heap.size + 1, 4, none⟩ (.slice ua4 x4.length uc4)) = wc at *
     refine hK.out _ _ ⟨Ia _ _ 0 _ _ _ B0.out, Ia _ _ 1 _ _ _ B0.out, Ia _ _ 2 _ _ _ B0.out, Ia _ _ 3 _ _ _ B0.out, Ia _ _ 4 _ _ _ B0.out⟩ (fun hHeld => ?_)
     clear hK K
     try simp only [Act.put, lA, lB, lC])
  | (refine uQ 16 ?_; try simp only [Act.put, lA, lB, lC])
  | (refine u3 4 8 12 ?_ ?_ ?_ <;> intro K hK tk)
  | (refine u2 4 8 ?_ ?_ <;> intro K hK tk)
  | (refine u1 4 ?_ <;> intro K hK tk)
  | (refine u1 7 ?_ <;> intro K hK tk)
  | (refine u1 11 ?_ <;> intro K hK tk)
  | (refine u1 15 ?_ <;> intro K hK tk)
  | (refine u1 17 ?_ <;> intro K hK tk)
  | (refine u2 7 8 ?_ ?_ <;> intro K hK tk)
  | (refine u1 8 ?_ <;> intro K hK tk)
  | (refine u2 4 12 ?_ ?_ <;> intro K hK tk)
  | (refine u2 7 12 ?_ ?_ <;> intro K hK tk)
  | (refine u2 11 12 ?_ ?_ <;> intro K hK tk)
  | (refine u1 12 ?_ <;> intro K hK tk)
  | (refine u3 7 8 12 ?_ ?_ ?_ <;> intro K hK tk)
  | (refine u2 8 12 ?_ ?_ <;> intro K hK tk)
  | (refine uZ ?_
     clear hHeld
     go_wp2
     refine bodyPost_ret (v := .agg #[a0, a1, .slice ua2 x2.length uc2, .slice ua3 x3.length uc3, .slice ua4 x4.length uc4]) ?_ rfl ?_
     · simp [results, Tryz.f150, go_sem, e0, e1, e2, e3, e4]
     · exact ⟨[a0, a1, .slice ua2 x2.length uc2, .slice ua3 x3.length uc3, .slice ua4 x4.length uc4], rfl, tCharge_mkO P2.out P3.out P4.out (fun b h => by (try dsimp only at h); show w.heap.size ≤ b; omega) (fun b h => by (try dsimp only at h); show w.heap.size ≤ b; omega) (fun b h => by (try dsimp only at h); show w.heap.size ≤ b; omega) (fun b h1 h2 => by (try dsimp only at h1 h2); omega) (fun b h1 h2 => by (try dsimp only at h1 h2); omega) (fun b h1 h2 => by (try dsimp only at h1 h2); omega), d.out⟩)
set_option maxHeartbeats 16000000 in
theorem copy_l3Copy (a0 : Int) (v1 : Value) (x1 : List Int) (w : World) (h1 : Ko Je w v1 x1) (s1 : zL Je x1 ≤ 1048576) :
  Calls Tryz.prog 209 #[.agg #[a0, v1]] w (Yy Ke (fun cs => .agg cs.toArray) w (a0, x1)) := by
 obtain ⟨c1, k1, rfl⟩ := Jl h1
 have H1 := zh h1
 have N1 := zh (Jz s1)
 clear h1 s1
 have d := zh (show Below w w ((w.alloc (.cells #[a0, .slice c1 x1.length k1] 75)).alloc (.cells #[Ja, ()] 75)) from ((Il _ w).alloc (Ii _) _).alloc (by simp) _)
 have B1 : Hid (((w.alloc (.cells #[a0, .slice c1 x1.length k1] 75)).alloc (.cells #[Ja, ()] 75)).heap[(w.heap.size + 1)]? = some (.cells #[Ja, ()] 75 (0, 0))) := zh (by
  have := Ic (w.alloc (.cells #[a0, .slice c1 x1.length k1] 75)) (.cells #[Ja, ()] 75)
  simpa only [Ie] using this)
 have B0 : Hid (((w.alloc (.cells #[a0, .slice c1 x1.length k1] 75)).alloc (.cells #[Ja, ()] 75)).heap[w.heap.size]? = some (.cells #[a0, .slice c1 x1.length k1] 75 (0, 0))) := zh (by
  rw [Below.heap_alloc _ _ _ (by simp)]
  exact Ic w _)
 have Y_W : Hid (w.heap.size + 2 ≤ ((w.alloc (.cells #[a0, .slice c1 x1.length k1] 75)).alloc (.cells #[Ja, ()] 75)).heap.size) := zh (by simp [Ie])
 go_enter Tryz.func209, Tryz.ntmps209
 go_wp2
 generalize ((w.alloc (.cells #[a0, .slice c1 x1.length k1] 75)).alloc (.cells #[Ja, ()] 75)) = W at *
 have cp_B0_0 := Vl B0.out
 refine wp_region_held_drew (S := fun w' => w'.cell? ⟨w, 0, none⟩ = some (Value.int .i64 a0) ∧ w'.cell? ⟨w, 1, none⟩ = some (Value.slice c1 x1.length k1)) (by kernel_rfl) cp_B0_0 (fun hHeld => ?_)
 clear cp_B0_0
 have cdr : Below W W W.drew := Kc (Il _ _)
 replace B0 := zb cdr B0
 replace B1 := zb cdr B1
 replace d := zD d cdr
 clear cdr
 refine tQ (i := 0) ?_
 try simp only [Act.put, lA, lB, lC]
 refine tQ (i := 1) ?_
 try simp only [Act.put, lA, lB, lC]
 refine tQ (i := 3) ?_
 try simp only [Act.put, lA, lB, lC]
 refine tQ (i := 4) ?_
 try simp only [Act.put, lA, lB, lC]
 refine rA 2 (fun K hK => ?_)
 go_simp
 have hal : Below W (W.drew) (W.alloc (.cells #[] 3)).drew := ⟨rfl, rfl, rfl, by show W.heap.size ≤ (W.alloc (.cells #[] 3)).heap.size; simp [Ie], fun k hk => Below.heap_alloc W _ k hk⟩
 have Y_1 := zh (show W.heap.size < (W.alloc (.cells #[] 3)).drew.heap.size by show W.heap.size < (W.alloc (.cells #[] 3)).heap.size; simp [Ie])
 replace B0 := zb hal B0
 replace B1 := zb hal B1
 replace d := zD d hal
 have P1 := zh (Yi Jc (Ye (T := Je) W 3 (fun b => b = W.heap.size) rfl) (Kc (Il _ _)))
 have Q1 := zh (fun b (h : b = W.heap.size) => h)
 clear hal
 generalize (W.alloc (.cells #[] 3)).drew = V1 at *
 refine hK.out _ _ (Vl B0.out) (fun hHeld => ?_)
 clear hK K
 try simp only [Act.put, lA, lB, lC]
 refine rA 5 (fun K hK => ?_)
 refine Kv Jc Uf Yp Tryz.underlying25 rfl rfl (.tmp 5) (.tmp 7) rfl (fun b => b = W.heap.size) (fun b => (fun b => b = W.heap.size) b ∨ b = V1.heap.size) _ _ [] x1 rfl rfl P1.out (Jb Jc H1.out d.out) (fun b h => Or.inl h) (Or.inr rfl) (by have := N1.out; simp; omega) ?_
 intro u V2 oB tB
 rw [List.nil_append] at oB
 obtain ⟨ua1, uc1, rfl⟩ := Ju oB
 have y0 := Y_W.out
 have y1 := Y_1.out
 have yd : w.heap.size ≤ V1.heap.size := d.out.size
 replace B0 := zB tB B0 (fun h => by have r2 := Q1.out _ h; omega)
 replace B1 := zB tB B1 (fun h => by have r2 := Q1.out _ h; omega)
 replace d := zh (Js d.out tB (fun b h => by have r2 := Q1.out _ h; omega) (by omega))
 have Z_V2 := zh (show V1.heap.size ≤ V2.heap.size from tB.size)
 clear yd y0 y1
 replace P1 := zh (Kn Jc oB)
 replace Q1 := zh (fun b (h : ((fun b => b = W.heap.size) b ∨ b = V1.heap.size) ∧ b < V2.heap.size) => (show (b = W.heap.size ∨ b = V1.heap.size) ∧ b < V2.heap.size from h))
 clear oB tB
 refine hK.out _ _ (Vl B0.out) (fun hHeld => ?_)
 clear hK K
 try simp only [Act.put, lA, lB, lC]
 refine tQ (i := 6) ?_
 try simp only [Act.put, lA, lB, lC]
 refine rA 7 (fun K hK => ?_)
 have cp_B1_0 := Vl B1.out
 have f_B1_0 := Ez V2 _ 0 _ _ B1.out
 have f_B1_1 := Ez V2 _ 1 _ _ B1.out
 go_simp
 clear cp_B1_0 f_B1_0 f_B1_1
 have tt := (((Kb.refl (fun b => b = w.heap.size + 1) V2).trans (Jm (G := fun b => b = w.heap.size + 1) (g := w.heap.size + 1) (j := 0) (u := .int .i64 a0) rfl)).trans (Jm (G := fun b => b = w.heap.size + 1) (g := w.heap.size + 1) (j := 1) (u := .slice ua1 x1.length uc1) rfl))
 have r := st2 B1.out a0 (.slice ua1 x1.length uc1)
 have e0 := Ia _ _ 0 _ _ _ r
 have e1 := Ia _ _ 1 _ _ _ r
 simp at e0 e1
 clear r
 have y0 := Y_W.out
 have y1 := Y_1.out
 have y2 := Z_V2.out
 replace B0 := zB tt B0 (fun h => by omega)
 replace P1 := zt Jc P1 tt (fun b h1 h2 => by have r1 := Q1.out b h1; omega)
 replace d := zh (Js d.out tt (fun b h => by omega) d.out.size)
 clear tt y0 y1 y2
 generalize ((V2.setCell ⟨w.heap.size + 1, 0, none⟩ a0).setCell ⟨w.heap.size + 1, 1, none⟩ (.slice ua1 x1.length uc1)) = V3 at *
 refine hK.out _ _ (Vl B0.out) (fun hHeld => ?_)
 clear hK K
 try simp only [Act.put, lA, lB, lC]
 refine wpAnyH_done (by kernel_rfl) ?_ _
 clear hHeld
 go_wp2
 refine bodyPost_ret (v := .agg #[a0, .slice ua1 x1.length uc1]) ?_ rfl ?_
 ·
  simp [results, Tryz.f209, go_sem, e0, e1]
 have y0 := Y_W.out
 have y1 := Y_1.out
 have y2 := Z_V2.out
 exact ⟨[a0, .slice ua1 x1.length uc1], rfl, tRow_mkO P1.out (fun b h => by have r1 := Q1.out b h; show w.heap.size ≤ b; omega) , d.out⟩
set_option maxHeartbeats 8000000 in
theorem copy_l9Rows (v : Value) (xs : List (Int × List Int)) (w : World) (h : Ko Ke w v xs) (hs : zL Ke xs ≤ 1048576) :
  Calls Tryz.prog 149 #[v] w (Xg 75 Ke w xs) := by
 have H := zh h
 have hlen := Jz hs
 have HS := zh hs
 obtain ⟨a, cap, rfl⟩ := Jl h
 clear h hs
 go_enter Tryz.func149, Tryz.ntmps149
 go_wp2
 go_loopw [3, 4] (fun u i wr => ∃ k : Nat, k ≤ xs.length ∧ i = .int .i64 k ∧ Kp 75 Ke wr (Kw w) u (xs.take k) ∧ Below w w wr) (fun _ i _ => xs.length - (intOf i).toNat)
 case atStart => exact ⟨0, Ij _, rfl, Ye w 75 (Kw w) (Ii _), (Il _ _).alloc (Ii _) _⟩
 case round =>
  obtain ⟨k, hk, rfl, hown, hbel⟩ := hrel
  by_cases hlt : k < xs.length
  ·
   have i1 : (0 : Int) ≤ (k : Int) := by omega
   have i2 : (k : Int) < (xs.length : Int) := by omega
   have hzx := Vj HS.out hlt
   obtain ⟨b, off, cap', cs, hv, hbl, hcs, hR⟩ := Ku (Jb Jw H.out hbel) hlt
   simp only [Ik] at hv
   obtain ⟨rfl, _, rfl⟩ := hv
   have HTK : Hid (xs.take k ++ [xs.getD k Ke.d] = xs.take (k + 1)) := zh (by rw [List.take_succ_eq_append_getElem hlt]; simp [List.getD, hlt])
   have HKL : Hid ((xs.take k).length ≤ 1048576) := zh (by rw [List.length_take]; omega)
   have HO := zh (Kn Jw hown)
   have hsz := hbel.size
   have HB := zh hbel
   clear hown hbel
   generalize xs.getD k Ke.d = x at *
   generalize xs.take k = ys at *
   obtain ⟨a0, x1⟩ := x
   obtain ⟨v1, hR'⟩ := tRow_R hR
   obtain ⟨rfl, h1⟩ := hR'
   have p0 : wr.cell? ⟨b, off + k * 2, none⟩ = some (Value.int .i64 a0) := hcs 0 (by decide)
   have p1 : wr.cell? ⟨b, off + k * 2 + 1, none⟩ = some (v1) := hcs 1 (by decide)
   rw [tRow_sz] at hzx
   have S1 := zh (show zL Je x1 ≤ 1048576 by omega)
   clear hcs hR hzx
   go_wp2_with fail
   refine (copy_l3Copy a0 v1 x1 wr h1 S1.out).mono ?_
   rintro e w2 ⟨cs, rfl, ow, b2⟩
   clear p0 p1
   have ow2 := ow
   obtain ⟨u1, K1, rfl, o1, _⟩ := tRow_O ow2
   obtain ⟨ua1, uc1, rfl⟩ := Ju o1
   clear o1 h1
   have HO2 := zh (Yi Jw HO.out b2)
   have HB2 := zh (HB.out.trans (b2.mono hsz))
   have OW := zh ow
   have HO3 := HO2
   have z2 := b2.size
   have HB3 := HB2
   have hz3 : wr.heap.size ≤ w2.heap.size := b2.size
   have HZ3 := zh hz3
   clear HO HO2 HB HB2 ow b2 z2 hz3
   go_wp2_with (at_builtin; refine append_T Jw info_T_Row Tryz.underlying57 rfl rfl (.tmp 12) (.tmp 18) rfl (Kw w) wr.heap.size _ ys rfl HO3.out HZ3.out (fun b hb => Nat.le_trans hsz hb) HKL.out [a0, .slice ua1 x1.length uc1] (a0, x1) OW.out (by simp [Value.oneCell']) 1 _ rfl (by simp [Ie]) ?_)
   intro v' w4 hown4 t4
   rw [HTK.out] at hown4
   have hb4 := Js HB3.out t4 (fun b hb => hb.1) (Nat.le_trans hsz HZ3.out)
   clear HO3 HB3 OW t4
   go_wp2
   go_roundw
   case rel => exact ⟨k + 1, by omega, by go_num, hown4, hb4⟩
   case measure => simp [intOf]; omega
  ·
   obtain rfl : k = xs.length := by omega
   rw [List.take_length] at hown
   go_wp2
   go_ret
   exact ⟨_, rfl, hown, hbel⟩
end Go.Proofs.YtnepfacnmaoieaaGreatDoor
