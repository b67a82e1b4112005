/-
 Texts of the proof, merged: Cpl10Copy, Cpl3Copy, Mpl9Rows, VerSpec3, RowInsM, RowSort, VerSpec5, NewMath, VerSpec6, VerSpec7, UpdSpec2, UpdSpec3, UpdSpec4.
-/
import Derived.Test.YtnepfacnmaoieaaGreatDoorRE1
import Derived.Test.YtnepfacnmaoieaaGreatDoorRE2
import Derived.Test.YtnepfacnmaoieaaGreatDoorRE3
import Derived.Test.YtnepfacnmaoieaaGreatDoorRE4
import Derived.Test.YtnepfacnmaoieaaGreatDoorRE6
import Derived.Test.YtnepfacnmaoieaaGreatDoorRE7
import Derived.Test.YtnepfacnmaoieaaGreatDoorRE8
namespace Go.Proofs.YtnepfacnmaoieaaGreatDoor
open Go.RowKit
set_option maxRecDepth 100000
set_option linter.unusedVariables false
set_option linter.unusedSimpArgs false
set_option maxHeartbeats 16000000 in
theorem copy_l10Copy (a0 a1 : Int) (v2 v3 v4 : Value) (x2 : List Int) (x3 : List Int) (x4 : List Int) (w : World) (h2 : SlR tInt w v2 x2) (h3 : SlR tInt w v3 x3) (h4 : SlR tInt w v4 x4) (s2 : zL tInt x2 ≤ 1048576) (s3 : zL tInt x3 ≤ 1048576) (s4 : zL tInt x4 ≤ 1048576) :
  Calls Tryz.prog 150 #[.agg #[.int .i64 a0, .int .i64 a1, v2, v3, v4]] w (FreshT tCharge (fun cs => .agg cs.toArray) w (a0, a1, x2, x3, x4)) := by
 obtain ⟨c2, k2, rfl⟩ := slR_len h2
 obtain ⟨c3, k3, rfl⟩ := slR_len h3
 obtain ⟨c4, k4, rfl⟩ := slR_len h4
 have H2 := zh h2; have N2 := zh (zL_len s2)
 have H3 := zh h3; have N3 := zh (zL_len s3)
 have H4 := zh h4; have N4 := zh (zL_len s4)
 clear h2 s2 h3 s3 h4 s4
 have d := zh (show Below w.heap.size w ((w.alloc (.cells #[.int .i64 a0, .int .i64 a1, .slice c2 x2.length k2, .slice c3 x3.length k3, .slice c4 x4.length k4] 162)).alloc (.cells #[.int .i64 0, .int .i64 0, .slice none 0 0, .slice none 0 0, .slice none 0 0] 162)) from ((Below.refl _ w).alloc (Nat.le_refl _) _).alloc (by simp) _)
 have B1 : Hid (((w.alloc (.cells #[.int .i64 a0, .int .i64 a1, .slice c2 x2.length k2, .slice c3 x3.length k3, .slice c4 x4.length k4] 162)).alloc (.cells #[.int .i64 0, .int .i64 0, .slice none 0 0, .slice none 0 0, .slice none 0 0] 162)).heap[(w.heap.size + 1)]? = some (.cells #[.int .i64 0, .int .i64 0, .slice none 0 0, .slice none 0 0, .slice none 0 0] 162 (0, 0))) := zh (by
   have := heap_alloc_new (w.alloc (.cells #[.int .i64 a0, .int .i64 a1, .slice c2 x2.length k2, .slice c3 x3.length k3, .slice c4 x4.length k4] 162)) (.cells #[.int .i64 0, .int .i64 0, .slice none 0 0, .slice none 0 0, .slice none 0 0] 162)
   simpa only [World.size_alloc] using this)
 have B0 : Hid (((w.alloc (.cells #[.int .i64 a0, .int .i64 a1, .slice c2 x2.length k2, .slice c3 x3.length k3, .slice c4 x4.length k4] 162)).alloc (.cells #[.int .i64 0, .int .i64 0, .slice none 0 0, .slice none 0 0, .slice none 0 0] 162)).heap[w.heap.size]? = some (.cells #[.int .i64 a0, .int .i64 a1, .slice c2 x2.length k2, .slice c3 x3.length k3, .slice c4 x4.length k4] 162 (0, 0))) := zh (by
   rw [Below.heap_alloc _ _ _ (by simp)]
   exact heap_alloc_new w _)
 have z : w.heap.size + 2 ≤ ((w.alloc (.cells #[.int .i64 a0, .int .i64 a1, .slice c2 x2.length k2, .slice c3 x3.length k3, .slice c4 x4.length k4] 162)).alloc (.cells #[.int .i64 0, .int .i64 0, .slice none 0 0, .slice none 0 0, .slice none 0 0] 162)).heap.size := by simp [World.size_alloc]
 have Zz := zh z
 clear z
 go_enter Tryz.func150, Tryz.ntmps150
 go_wp2
 generalize ((w.alloc (.cells #[.int .i64 a0, .int .i64 a1, .slice c2 x2.length k2, .slice c3 x3.length k3, .slice c4 x4.length k4] 162)).alloc (.cells #[.int .i64 0, .int .i64 0, .slice none 0 0, .slice none 0 0, .slice none 0 0] 162)) = wc at *
 refine wp_region_held_drew (S := fun w' => w'.cell? ⟨w.heap.size, 0, none⟩ = some (Value.int .i64 a0) ∧ w'.cell? ⟨w.heap.size, 1, none⟩ = some (Value.int .i64 a1) ∧ w'.cell? ⟨w.heap.size, 2, none⟩ = some (Value.slice c2 x2.length k2) ∧ w'.cell? ⟨w.heap.size, 3, none⟩ = some (Value.slice c3 x3.length k3) ∧ w'.cell? ⟨w.heap.size, 4, none⟩ = some (Value.slice c4 x4.length k4)) (by kernel_rfl) ⟨cell_of_row wc _ 0 _ _ _ B0.out, cell_of_row wc _ 1 _ _ _ B0.out, cell_of_row wc _ 2 _ _ _ B0.out, cell_of_row wc _ 3 _ _ _ B0.out, cell_of_row wc _ 4 _ _ _ B0.out⟩ (fun hHeld => ?_)
 have hdr : Below wc.heap.size wc wc.drew := below_drew (Below.refl _ _)
 have z : w.heap.size + 2 ≤ wc.drew.heap.size := Zz.out
 replace d := zd d hdr (by have := Zz.out; omega)
 replace B0 := zb hdr B0
 replace B1 := zb hdr B1
 clear hdr Zz
 generalize wc.drew = wc at *
 refine uQ 0 ?_
 try simp only [Act.put, lA, lB, lC]
 refine uQ 1 ?_
 try simp only [Act.put, lA, lB, lC]
 refine uQ 2 ?_
 try simp only [Act.put, lA, lB, lC]
 refine uQ 3 ?_
 try simp only [Act.put, lA, lB, lC]
 refine uQ 5 ?_
 try simp only [Act.put, lA, lB, lC]
 refine uQ 6 ?_
 try simp only [Act.put, lA, lB, lC]
 refine uQ 9 ?_
 try simp only [Act.put, lA, lB, lC]
 refine uQ 10 ?_
 try simp only [Act.put, lA, lB, lC]
 refine uQ 13 ?_
 try simp only [Act.put, lA, lB, lC]
 refine uQ 14 ?_
 try simp only [Act.put, lA, lB, lC]
 repeat' first
  | (have t := ‹Tok 4›
     clear tk t
     go_simp
     have hal := zal wc (.cells #[] 3)
     have P2 := zh (slO_empty (T := tInt) wc 3 (fun b => b = wc.heap.size) rfl)
     have z := zs wc (.cells #[] 3)
     replace d := zd d hal (by omega)
     replace B0 := zb hal B0
     replace B1 := zb hal B1
     try replace P3 := zf tInt_law P3 hal
     try replace P4 := zf tInt_law P4 hal
     clear hal
     generalize wc.heap.size = g2 at *
     generalize (wc.alloc (.cells #[] 3)) = wc at *
     refine hK.out _ _ ⟨cell_of_row _ _ 0 _ _ _ B0.out, cell_of_row _ _ 1 _ _ _ B0.out, cell_of_row _ _ 2 _ _ _ B0.out, cell_of_row _ _ 3 _ _ _ B0.out, cell_of_row _ _ 4 _ _ _ B0.out⟩ (fun hHeld => ?_)
     clear hK K
     try simp only [Act.put, lA, lB, lC])
  | (have t := ‹Tok 7›
     clear tk t
     refine step_append_flat tInt_law flat_int info_T_int Tryz.underlying25 rfl rfl (.tmp 7) (.tmp 9) rfl (fun b => b = g2) (fun b => b = g2 ∨ b = wc.heap.size) _ _ [] x2 rfl rfl P2.out (slR_below tInt_law H2.out d.out) (fun b h => Or.inl h) (Or.inr rfl) (by have := N2.out; simp; omega) ?_
     intro u wn oB tB
     rw [List.nil_append] at oB
     obtain ⟨ua2, uc2, rfl⟩ := slO_len oB
     have z := tB.size
     replace d := zh (below_turn d.out tB (fun b h => by (try dsimp only at h); omega) (by omega))
     replace B0 := zB tB B0 (fun h => by (try dsimp only at h); omega)
     replace B1 := zB tB B1 (fun h => by (try dsimp only at h); omega)
     try replace P3 := zt tInt_law P3 tB (fun b h1 h2 => by (try dsimp only at h1 h2); omega)
     try replace P4 := zt tInt_law P4 tB (fun b h1 h2 => by (try dsimp only at h1 h2); omega)
     replace P2 := zh (slO_lt tInt_law oB)
     clear oB tB
     generalize wc.heap.size = k2 at *
     rename World => wc
     refine hK.out _ _ ⟨cell_of_row _ _ 0 _ _ _ B0.out, cell_of_row _ _ 1 _ _ _ B0.out, cell_of_row _ _ 2 _ _ _ B0.out, cell_of_row _ _ 3 _ _ _ B0.out, cell_of_row _ _ 4 _ _ _ B0.out⟩ (fun hHeld => ?_)
     clear hK K
     try simp only [Act.put, lA, lB, lC])
  | (have t := ‹Tok 8›
     clear tk t
     go_simp
     have hal := zal wc (.cells #[] 3)
     have P3 := zh (slO_empty (T := tInt) wc 3 (fun b => b = wc.heap.size) rfl)
     have z := zs wc (.cells #[] 3)
     replace d := zd d hal (by omega)
     replace B0 := zb hal B0
     replace B1 := zb hal B1
     try replace P2 := zf tInt_law P2 hal
     try replace P4 := zf tInt_law P4 hal
     clear hal
     generalize wc.heap.size = g3 at *
     generalize (wc.alloc (.cells #[] 3)) = wc at *
     refine hK.out _ _ ⟨cell_of_row _ _ 0 _ _ _ B0.out, cell_of_row _ _ 1 _ _ _ B0.out, cell_of_row _ _ 2 _ _ _ B0.out, cell_of_row _ _ 3 _ _ _ B0.out, cell_of_row _ _ 4 _ _ _ B0.out⟩ (fun hHeld => ?_)
     clear hK K
     try simp only [Act.put, lA, lB, lC])
  | (have t := ‹Tok 11›
     clear tk t
     refine step_append_flat tInt_law flat_int info_T_int Tryz.underlying25 rfl rfl (.tmp 11) (.tmp 13) rfl (fun b => b = g3) (fun b => b = g3 ∨ b = wc.heap.size) _ _ [] x3 rfl rfl P3.out (slR_below tInt_law H3.out d.out) (fun b h => Or.inl h) (Or.inr rfl) (by have := N3.out; simp; omega) ?_
     intro u wn oB tB
     rw [List.nil_append] at oB
     obtain ⟨ua3, uc3, rfl⟩ := slO_len oB
     have z := tB.size
     replace d := zh (below_turn d.out tB (fun b h => by (try dsimp only at h); omega) (by omega))
     replace B0 := zB tB B0 (fun h => by (try dsimp only at h); omega)
     replace B1 := zB tB B1 (fun h => by (try dsimp only at h); omega)
     try replace P2 := zt tInt_law P2 tB (fun b h1 h2 => by (try dsimp only at h1 h2); omega)
     try replace P4 := zt tInt_law P4 tB (fun b h1 h2 => by (try dsimp only at h1 h2); omega)
     replace P3 := zh (slO_lt tInt_law oB)
     clear oB tB
     generalize wc.heap.size = k3 at *
     rename World => wc
     refine hK.out _ _ ⟨cell_of_row _ _ 0 _ _ _ B0.out, cell_of_row _ _ 1 _ _ _ B0.out, cell_of_row _ _ 2 _ _ _ B0.out, cell_of_row _ _ 3 _ _ _ B0.out, cell_of_row _ _ 4 _ _ _ B0.out⟩ (fun hHeld => ?_)
     clear hK K
     try simp only [Act.put, lA, lB, lC])
  | (have t := ‹Tok 12›
     clear tk t
     go_simp
     have hal := zal wc (.cells #[] 3)
     have P4 := zh (slO_empty (T := tInt) wc 3 (fun b => b = wc.heap.size) rfl)
     have z := zs wc (.cells #[] 3)
     replace d := zd d hal (by omega)
     replace B0 := zb hal B0
     replace B1 := zb hal B1
     try replace P2 := zf tInt_law P2 hal
     try replace P3 := zf tInt_law P3 hal
     clear hal
     generalize wc.heap.size = g4 at *
     generalize (wc.alloc (.cells #[] 3)) = wc at *
     refine hK.out _ _ ⟨cell_of_row _ _ 0 _ _ _ B0.out, cell_of_row _ _ 1 _ _ _ B0.out, cell_of_row _ _ 2 _ _ _ B0.out, cell_of_row _ _ 3 _ _ _ B0.out, cell_of_row _ _ 4 _ _ _ B0.out⟩ (fun hHeld => ?_)
     clear hK K
     try simp only [Act.put, lA, lB, lC])
  | (have t := ‹Tok 15›
     clear tk t
     refine step_append_flat tInt_law flat_int info_T_int Tryz.underlying25 rfl rfl (.tmp 15) (.tmp 17) rfl (fun b => b = g4) (fun b => b = g4 ∨ b = wc.heap.size) _ _ [] x4 rfl rfl P4.out (slR_below tInt_law H4.out d.out) (fun b h => Or.inl h) (Or.inr rfl) (by have := N4.out; simp; omega) ?_
     intro u wn oB tB
     rw [List.nil_append] at oB
     obtain ⟨ua4, uc4, rfl⟩ := slO_len oB
     have z := tB.size
     replace d := zh (below_turn d.out tB (fun b h => by (try dsimp only at h); omega) (by omega))
     replace B0 := zB tB B0 (fun h => by (try dsimp only at h); omega)
     replace B1 := zB tB B1 (fun h => by (try dsimp only at h); omega)
     try replace P2 := zt tInt_law P2 tB (fun b h1 h2 => by (try dsimp only at h1 h2); omega)
     try replace P3 := zt tInt_law P3 tB (fun b h1 h2 => by (try dsimp only at h1 h2); omega)
     replace P4 := zh (slO_lt tInt_law oB)
     clear oB tB
     generalize wc.heap.size = k4 at *
     rename World => wc
     refine hK.out _ _ ⟨cell_of_row _ _ 0 _ _ _ B0.out, cell_of_row _ _ 1 _ _ _ B0.out, cell_of_row _ _ 2 _ _ _ B0.out, cell_of_row _ _ 3 _ _ _ B0.out, cell_of_row _ _ 4 _ _ _ B0.out⟩ (fun hHeld => ?_)
     clear hK K
     try simp only [Act.put, lA, lB, lC])
  | (have t := ‹Tok 17›
     clear tk t
     have q := (⟨cell_of_row wc _ 0 _ _ _ B1.out, cell_of_row wc _ 1 _ _ _ B1.out, cell_of_row wc _ 2 _ _ _ B1.out, cell_of_row wc _ 3 _ _ _ B1.out, cell_of_row wc _ 4 _ _ _ B1.out⟩ : wc.cell? ⟨w.heap.size + 1, 0, none⟩ = some (Value.int .i64 0) ∧ wc.cell? ⟨w.heap.size + 1, 1, none⟩ = some (Value.int .i64 0) ∧ wc.cell? ⟨w.heap.size + 1, 2, none⟩ = some (Value.slice none 0 0) ∧ wc.cell? ⟨w.heap.size + 1, 3, none⟩ = some (Value.slice none 0 0) ∧ wc.cell? ⟨w.heap.size + 1, 4, none⟩ = some (Value.slice none 0 0))
     obtain ⟨q0, q1, q2, q3, q4⟩ := q
     have f0 := frozen_of_row wc _ 0 _ _ B1.out
     have f1 := frozen_of_row wc _ 1 _ _ B1.out
     have f2 := frozen_of_row wc _ 2 _ _ B1.out
     have f3 := frozen_of_row wc _ 3 _ _ B1.out
     have f4 := frozen_of_row wc _ 4 _ _ B1.out
     go_simp
     clear q0 f0 q1 f1 q2 f2 q3 f3 q4 f4
     have tt := ((((((Turn.refl (fun b => b = w.heap.size + 1) wc).trans (turn_set (G := fun b => b = w.heap.size + 1) (g := w.heap.size + 1) (j := 0) (u := .int .i64 a0) rfl)).trans (turn_set (G := fun b => b = w.heap.size + 1) (g := w.heap.size + 1) (j := 1) (u := .int .i64 a1) rfl)).trans (turn_set (G := fun b => b = w.heap.size + 1) (g := w.heap.size + 1) (j := 2) (u := .slice ua2 x2.length uc2) rfl)).trans (turn_set (G := fun b => b = w.heap.size + 1) (g := w.heap.size + 1) (j := 3) (u := .slice ua3 x3.length uc3) rfl)).trans (turn_set (G := fun b => b = w.heap.size + 1) (g := w.heap.size + 1) (j := 4) (u := .slice ua4 x4.length uc4) rfl))
     have r := st5 B1.out (.int .i64 a0) (.int .i64 a1) (.slice ua2 x2.length uc2) (.slice ua3 x3.length uc3) (.slice ua4 x4.length uc4)
     have e0 := cell_of_row _ _ 0 _ _ _ r
     have e1 := cell_of_row _ _ 1 _ _ _ r
     have e2 := cell_of_row _ _ 2 _ _ _ r
     have e3 := cell_of_row _ _ 3 _ _ _ r
     have e4 := cell_of_row _ _ 4 _ _ _ r
     simp at e0 e1 e2 e3 e4
     clear r
     replace B0 := zB tt B0 (fun h => by (try dsimp only at h); omega)
     replace P2 := zt tInt_law P2 tt (fun b h1 h2 => by (try dsimp only at h1 h2); omega)
     replace P3 := zt tInt_law P3 tt (fun b h1 h2 => by (try dsimp only at h1 h2); omega)
     replace P4 := zt tInt_law P4 tt (fun b h1 h2 => by (try dsimp only at h1 h2); omega)
     replace d := zh (below_turn d.out tt (fun b h => by (try dsimp only at h); omega) d.out.size)
     clear tt B1
     generalize (((((wc.setCell ⟨w.heap.size + 1, 0, none⟩ (.int .i64 a0)).setCell ⟨w.heap.size + 1, 1, none⟩ (.int .i64 a1)).setCell ⟨w.heap.size + 1, 2, none⟩ (.slice ua2 x2.length uc2)).setCell ⟨w.heap.size + 1, 3, none⟩ (.slice ua3 x3.length uc3)).setCell ⟨w.heap.size + 1, 4, none⟩ (.slice ua4 x4.length uc4)) = wc at *
     refine hK.out _ _ ⟨cell_of_row _ _ 0 _ _ _ B0.out, cell_of_row _ _ 1 _ _ _ B0.out, cell_of_row _ _ 2 _ _ _ B0.out, cell_of_row _ _ 3 _ _ _ B0.out, cell_of_row _ _ 4 _ _ _ B0.out⟩ (fun hHeld => ?_)
     clear hK K
     try simp only [Act.put, lA, lB, lC])
  | (refine uQ 16 ?_; try simp only [Act.put, lA, lB, lC])
  | (refine u3 4 8 12 ?_ ?_ ?_ <;> intro K hK tk)
  | (refine u2 4 8 ?_ ?_ <;> intro K hK tk)
  | (refine u1 4 ?_ <;> intro K hK tk)
  | (refine u1 7 ?_ <;> intro K hK tk)
  | (refine u1 11 ?_ <;> intro K hK tk)
  | (refine u1 15 ?_ <;> intro K hK tk)
  | (refine u1 17 ?_ <;> intro K hK tk)
  | (refine u2 7 8 ?_ ?_ <;> intro K hK tk)
  | (refine u1 8 ?_ <;> intro K hK tk)
  | (refine u2 4 12 ?_ ?_ <;> intro K hK tk)
  | (refine u2 7 12 ?_ ?_ <;> intro K hK tk)
  | (refine u2 11 12 ?_ ?_ <;> intro K hK tk)
  | (refine u1 12 ?_ <;> intro K hK tk)
  | (refine u3 7 8 12 ?_ ?_ ?_ <;> intro K hK tk)
  | (refine u2 8 12 ?_ ?_ <;> intro K hK tk)
  | (refine uZ ?_
     clear hHeld
     go_wp2
     refine bodyPost_ret (v := .agg #[.int .i64 a0, .int .i64 a1, .slice ua2 x2.length uc2, .slice ua3 x3.length uc3, .slice ua4 x4.length uc4]) ?_ rfl ?_
     · simp [results, Tryz.f150, go_sem, e0, e1, e2, e3, e4]
     · exact ⟨[.int .i64 a0, .int .i64 a1, .slice ua2 x2.length uc2, .slice ua3 x3.length uc3, .slice ua4 x4.length uc4], rfl, tCharge_mkO P2.out P3.out P4.out (fun b h => by (try dsimp only at h); show w.heap.size ≤ b; omega) (fun b h => by (try dsimp only at h); show w.heap.size ≤ b; omega) (fun b h => by (try dsimp only at h); show w.heap.size ≤ b; omega) (fun b h1 h2 => by (try dsimp only at h1 h2); omega) (fun b h1 h2 => by (try dsimp only at h1 h2); omega) (fun b h1 h2 => by (try dsimp only at h1 h2); omega), d.out⟩)
set_option maxHeartbeats 16000000 in
theorem copy_l3Copy (a0 : Int) (v1 : Value) (x1 : List Int) (w : World) (h1 : SlR tInt w v1 x1) (s1 : zL tInt x1 ≤ 1048576) :
  Calls Tryz.prog 209 #[.agg #[.int .i64 a0, v1]] w (FreshT tRow (fun cs => .agg cs.toArray) w (a0, x1)) := by
 obtain ⟨c1, k1, rfl⟩ := slR_len h1
 have H1 := zh h1
 have N1 := zh (zL_len s1)
 clear h1 s1
 have d := zh (show Below w.heap.size w ((w.alloc (.cells #[.int .i64 a0, .slice c1 x1.length k1] 75)).alloc (.cells #[.int .i64 0, .slice none 0 0] 75)) from ((Below.refl _ w).alloc (Nat.le_refl _) _).alloc (by simp) _)
 have B1 : Hid (((w.alloc (.cells #[.int .i64 a0, .slice c1 x1.length k1] 75)).alloc (.cells #[.int .i64 0, .slice none 0 0] 75)).heap[(w.heap.size + 1)]? = some (.cells #[.int .i64 0, .slice none 0 0] 75 (0, 0))) := zh (by
  have := heap_alloc_new (w.alloc (.cells #[.int .i64 a0, .slice c1 x1.length k1] 75)) (.cells #[.int .i64 0, .slice none 0 0] 75)
  simpa only [World.size_alloc] using this)
 have B0 : Hid (((w.alloc (.cells #[.int .i64 a0, .slice c1 x1.length k1] 75)).alloc (.cells #[.int .i64 0, .slice none 0 0] 75)).heap[w.heap.size]? = some (.cells #[.int .i64 a0, .slice c1 x1.length k1] 75 (0, 0))) := zh (by
  rw [Below.heap_alloc _ _ _ (by simp)]
  exact heap_alloc_new w _)
 have Y_W : Hid (w.heap.size + 2 ≤ ((w.alloc (.cells #[.int .i64 a0, .slice c1 x1.length k1] 75)).alloc (.cells #[.int .i64 0, .slice none 0 0] 75)).heap.size) := zh (by simp [World.size_alloc])
 go_enter Tryz.func209, Tryz.ntmps209
 go_wp2
 generalize ((w.alloc (.cells #[.int .i64 a0, .slice c1 x1.length k1] 75)).alloc (.cells #[.int .i64 0, .slice none 0 0] 75)) = W at *
 have cp_B0_0 := cls2 B0.out
 refine wp_region_held_drew (S := fun w' => w'.cell? ⟨w.heap.size, 0, none⟩ = some (Value.int .i64 a0) ∧ w'.cell? ⟨w.heap.size, 1, none⟩ = some (Value.slice c1 x1.length k1)) (by kernel_rfl) cp_B0_0 (fun hHeld => ?_)
 clear cp_B0_0
 have cdr : Below W.heap.size W W.drew := below_drew (Below.refl _ _)
 replace B0 := zb cdr B0
 replace B1 := zb cdr B1
 replace d := zD d cdr
 clear cdr
 refine tQ (i := 0) ?_
 try simp only [Act.put, lA, lB, lC]
 refine tQ (i := 1) ?_
 try simp only [Act.put, lA, lB, lC]
 refine tQ (i := 3) ?_
 try simp only [Act.put, lA, lB, lC]
 refine tQ (i := 4) ?_
 try simp only [Act.put, lA, lB, lC]
 refine rA 2 (fun K hK => ?_)
 go_simp
 have hal : Below W.heap.size (W.drew) (W.alloc (.cells #[] 3)).drew := ⟨rfl, rfl, rfl, by show W.heap.size ≤ (W.alloc (.cells #[] 3)).heap.size; simp [World.size_alloc], fun k hk => Below.heap_alloc W _ k hk⟩
 have Y_1 := zh (show W.heap.size < (W.alloc (.cells #[] 3)).drew.heap.size by show W.heap.size < (W.alloc (.cells #[] 3)).heap.size; simp [World.size_alloc])
 replace B0 := zb hal B0
 replace B1 := zb hal B1
 replace d := zD d hal
 have P1 := zh (slO_fresh tInt_law (slO_empty (T := tInt) W 3 (fun b => b = W.heap.size) rfl) (below_drew (Below.refl _ _)))
 have Q1 := zh (fun b (h : b = W.heap.size) => h)
 clear hal
 generalize (W.alloc (.cells #[] 3)).drew = V1 at *
 refine hK.out _ _ (cls2 B0.out) (fun hHeld => ?_)
 clear hK K
 try simp only [Act.put, lA, lB, lC]
 refine rA 5 (fun K hK => ?_)
 refine step_append_flat tInt_law flat_int info_T_int Tryz.underlying25 rfl rfl (.tmp 5) (.tmp 7) rfl (fun b => b = W.heap.size) (fun b => (fun b => b = W.heap.size) b ∨ b = V1.heap.size) _ _ [] x1 rfl rfl P1.out (slR_below tInt_law H1.out d.out) (fun b h => Or.inl h) (Or.inr rfl) (by have := N1.out; simp; omega) ?_
 intro u V2 oB tB
 rw [List.nil_append] at oB
 obtain ⟨ua1, uc1, rfl⟩ := slO_len oB
 have y0 := Y_W.out
 have y1 := Y_1.out
 have yd : w.heap.size ≤ V1.heap.size := d.out.size
 replace B0 := zB tB B0 (fun h => by have r2 := Q1.out _ h; omega)
 replace B1 := zB tB B1 (fun h => by have r2 := Q1.out _ h; omega)
 replace d := zh (below_turn d.out tB (fun b h => by have r2 := Q1.out _ h; omega) (by omega))
 have Z_V2 := zh (show V1.heap.size ≤ V2.heap.size from tB.size)
 clear yd y0 y1
 replace P1 := zh (slO_lt tInt_law oB)
 replace Q1 := zh (fun b (h : ((fun b => b = W.heap.size) b ∨ b = V1.heap.size) ∧ b < V2.heap.size) => (show (b = W.heap.size ∨ b = V1.heap.size) ∧ b < V2.heap.size from h))
 clear oB tB
 refine hK.out _ _ (cls2 B0.out) (fun hHeld => ?_)
 clear hK K
 try simp only [Act.put, lA, lB, lC]
 refine tQ (i := 6) ?_
 try simp only [Act.put, lA, lB, lC]
 refine rA 7 (fun K hK => ?_)
 have cp_B1_0 := cls2 B1.out
 have f_B1_0 := frozen_of_row V2 _ 0 _ _ B1.out
 have f_B1_1 := frozen_of_row V2 _ 1 _ _ B1.out
 go_simp
 clear cp_B1_0 f_B1_0 f_B1_1
 have tt := (((Turn.refl (fun b => b = w.heap.size + 1) V2).trans (turn_set (G := fun b => b = w.heap.size + 1) (g := w.heap.size + 1) (j := 0) (u := .int .i64 a0) rfl)).trans (turn_set (G := fun b => b = w.heap.size + 1) (g := w.heap.size + 1) (j := 1) (u := .slice ua1 x1.length uc1) rfl))
 have r := st2 B1.out (.int .i64 a0) (.slice ua1 x1.length uc1)
 have e0 := cell_of_row _ _ 0 _ _ _ r
 have e1 := cell_of_row _ _ 1 _ _ _ r
 simp at e0 e1
 clear r
 have y0 := Y_W.out
 have y1 := Y_1.out
 have y2 := Z_V2.out
 replace B0 := zB tt B0 (fun h => by omega)
 replace P1 := zt tInt_law P1 tt (fun b h1 h2 => by have r1 := Q1.out b h1; omega)
 replace d := zh (below_turn d.out tt (fun b h => by omega) d.out.size)
 clear tt y0 y1 y2
 generalize ((V2.setCell ⟨w.heap.size + 1, 0, none⟩ (.int .i64 a0)).setCell ⟨w.heap.size + 1, 1, none⟩ (.slice ua1 x1.length uc1)) = V3 at *
 refine hK.out _ _ (cls2 B0.out) (fun hHeld => ?_)
 clear hK K
 try simp only [Act.put, lA, lB, lC]
 refine wpAnyH_done (by kernel_rfl) ?_ _
 clear hHeld
 go_wp2
 refine bodyPost_ret (v := .agg #[.int .i64 a0, .slice ua1 x1.length uc1]) ?_ rfl ?_
 ·
  simp [results, Tryz.f209, go_sem, e0, e1]
 have y0 := Y_W.out
 have y1 := Y_1.out
 have y2 := Z_V2.out
 exact ⟨[.int .i64 a0, .slice ua1 x1.length uc1], rfl, tRow_mkO P1.out (fun b h => by have r1 := Q1.out b h; show w.heap.size ≤ b; omega) , d.out⟩
theorem info_T_Row : ElemInfo tRow 75 (.agg #[.int .i64 0, .slice none 0 0]) := elemInfo_of (by kernel_rfl)
set_option maxHeartbeats 8000000 in
theorem copy_l9Rows (v : Value) (xs : List (Int × List Int)) (w : World) (h : SlR tRow w v xs) (hs : zL tRow xs ≤ 1048576) :
  Calls Tryz.prog 149 #[v] w (FreshS 75 tRow w xs) := by
 have H := zh h
 have hlen := zL_len hs
 have HS := zh hs
 obtain ⟨a, cap, rfl⟩ := slR_len h
 clear h hs
 go_enter Tryz.func149, Tryz.ntmps149
 go_wp2
 go_loopw [3, 4] (fun u i wr => ∃ k : Nat, k ≤ xs.length ∧ i = .int .i64 k ∧ SlO 75 tRow wr (since w) u (xs.take k) ∧ Below w.heap.size w wr) (fun _ i _ => xs.length - (intOf i).toNat)
 case atStart => exact ⟨0, Nat.zero_le _, rfl, slO_empty w 75 (since w) (Nat.le_refl _), (Below.refl _ _).alloc (Nat.le_refl _) _⟩
 case round =>
  obtain ⟨k, hk, rfl, hown, hbel⟩ := hrel
  by_cases hlt : k < xs.length
  ·
   have i1 : (0 : Int) ≤ (k : Int) := by omega
   have i2 : (k : Int) < (xs.length : Int) := by omega
   have hzx := zL_at HS.out hlt
   obtain ⟨b, off, cap', cs, hv, hbl, hcs, hR⟩ := slR_at (slR_below tRow_law H.out hbel) hlt
   simp only [Value.slice.injEq] at hv
   obtain ⟨rfl, _, rfl⟩ := hv
   have HTK : Hid (xs.take k ++ [xs.getD k tRow.d] = xs.take (k + 1)) := zh (by rw [List.take_succ_eq_append_getElem hlt]; simp [List.getD, hlt])
   have HKL : Hid ((xs.take k).length ≤ 1048576) := zh (by rw [List.length_take]; omega)
   have HO := zh (slO_lt tRow_law hown)
   have hsz := hbel.size
   have HB := zh hbel
   clear hown hbel
   generalize xs.getD k tRow.d = x at *
   generalize xs.take k = ys at *
   obtain ⟨a0, x1⟩ := x
   obtain ⟨v1, hR'⟩ := tRow_R hR
   obtain ⟨rfl, h1⟩ := hR'
   have p0 : wr.cell? ⟨b, off + k * 2, none⟩ = some (Value.int .i64 a0) := hcs 0 (by decide)
   have p1 : wr.cell? ⟨b, off + k * 2 + 1, none⟩ = some (v1) := hcs 1 (by decide)
   rw [tRow_sz] at hzx
   have S1 := zh (show zL tInt x1 ≤ 1048576 by omega)
   clear hcs hR hzx
   go_wp2_with fail
   refine (copy_l3Copy a0 v1 x1 wr h1 S1.out).mono ?_
   rintro e w2 ⟨cs, rfl, ow, b2⟩
   clear p0 p1
   have ow2 := ow
   obtain ⟨u1, K1, rfl, o1, _⟩ := tRow_O ow2
   obtain ⟨ua1, uc1, rfl⟩ := slO_len o1
   clear o1 h1
   have HO2 := zh (slO_fresh tRow_law HO.out b2)
   have HB2 := zh (HB.out.trans (b2.mono hsz))
   have OW := zh ow
   have HO3 := HO2
   have z2 := b2.size
   have HB3 := HB2
   have hz3 : wr.heap.size ≤ w2.heap.size := b2.size
   have HZ3 := zh hz3
   clear HO HO2 HB HB2 ow b2 z2 hz3
   go_wp2_with (at_builtin; refine append_T tRow_law info_T_Row Tryz.underlying57 rfl rfl (.tmp 12) (.tmp 18) rfl (since w) wr.heap.size _ ys rfl HO3.out HZ3.out (fun b hb => Nat.le_trans hsz hb) HKL.out [.int .i64 a0, .slice ua1 x1.length uc1] (a0, x1) OW.out (by simp [Value.oneCell']) 1 _ rfl (by simp [World.size_alloc]) ?_)
   intro v' w4 hown4 t4
   rw [HTK.out] at hown4
   have hb4 := below_turn HB3.out t4 (fun b hb => hb.1) (Nat.le_trans hsz HZ3.out)
   clear HO3 HB3 OW t4
   go_wp2
   go_roundw
   case rel => exact ⟨k + 1, by omega, by go_num, hown4, hb4⟩
   case measure => simp [intOf]; omega
  ·
   obtain rfl : k = xs.length := by omega
   rw [List.take_length] at hown
   go_wp2
   go_ret
   exact ⟨_, rfl, hown, hbel⟩
def newP (rs : List RowD) (g : Int) : Prop := areB rs = true ∧ (1 ≤ g ∧ g ≤ 8) ∧ (rs.length : Int) ≤ 4 * g
instance (rs : List RowD) (g : Int) : Decidable (newP rs g) := by unfold newP; infer_instance
theorem info_T_VersionS : ElemInfo tVersionS 213 (.slice none 0 0) := elemInfo_of (by kernel_rfl)
set_option maxHeartbeats 8000000 in
theorem specOne (id bo di : Int) (v : Value) (xs : List Int) (w : World) (h : SlR tInt w v xs) (hn : xs.length ≤ 1048576) :
  Calls Tryz.prog 245 #[.int .i64 id, v, .int .i64 bo, .int .i64 di] w (FreshT tVersion (fun cs => .agg cs.toArray) w (id, xs, bo, di)) := by
 obtain ⟨a, c, rfl⟩ := slR_len h
 have H := zh h
 have HN := zh hn
 clear h hn
 have Y0 : Hid (w.heap.size < (w.alloc (.cells #[.int .i64 0, .slice none 0 0, .int .i64 0, .int .i64 0] 212)).heap.size) := zh (by simp)
 have B0 : Hid ((w.alloc (.cells #[.int .i64 0, .slice none 0 0, .int .i64 0, .int .i64 0] 212)).heap[w.heap.size]? = some (.cells #[.int .i64 0, .slice none 0 0, .int .i64 0, .int .i64 0] 212 (0, 0))) := zh (heap_alloc_new w _)
 have d := zh ((Below.refl w.heap.size w).alloc (Nat.le_refl _) (.cells #[.int .i64 0, .slice none 0 0, .int .i64 0, .int .i64 0] 212))
 have E0 : Hid (SlO 3 tInt ((w.alloc (.cells #[.int .i64 0, .slice none 0 0, .int .i64 0, .int .i64 0] 212)).alloc (.cells #[] 3)) (fun b => w.heap.size + 1 ≤ b) (.slice (some ⟨w.heap.size + 1, 0, none⟩) 0 0) []) := zh (by
  have := slO_empty (T := tInt) (w.alloc (.cells #[.int .i64 0, .slice none 0 0, .int .i64 0, .int .i64 0] 212)) 3 (fun b => w.heap.size + 1 ≤ b) (by simp)
  simpa only [World.size_alloc] using this)
 go_enter Tryz.func245, Tryz.ntmps245
 go_wp2_with (at_builtin; refine append_flat tInt_law flat_int info_T_int Tryz.underlying25 rfl rfl (.tmp 10) (.tmp 11) rfl (fun b => w.heap.size + 1 ≤ b) (fun b => w.heap.size + 1 ≤ b) _ _ [] xs rfl rfl E0.out (slR_below tInt_law H.out (d.out.alloc d.out.size _)) (fun b h => h) (by first | (simp [World.size_alloc]; done) | (simp [World.size_alloc]; omega)) (by have := HN.out; simp; omega) ?_)
 intro v' w1 o1 t1
 obtain ⟨ua, uc, rfl⟩ := slO_len o1
 have k0 : w1.heap[w.heap.size]? = some (.cells #[.int .i64 0, .slice none 0 0, .int .i64 0, .int .i64 0] 212 (0, 0)) := (t1.block _ (by first | (simp [World.size_alloc]; done) | (simp [World.size_alloc]; omega)) (fun h => by have := Y0.out; omega)).trans ((((Below.refl _ _).alloc (Nat.le_refl _) _).block w.heap.size Y0.out).trans B0.out)
 have hd : Below w.heap.size w w1 := below_turn (d.out.alloc d.out.size _) t1 (fun b h => by have h3 : w.heap.size + 1 ≤ b := h; omega) (by first | (simp [World.size_alloc]; done) | (simp [World.size_alloc]; omega))
 have z0 := cr 0 (Value.int .i64 0) k0
 have g0 := frozen_of_row w1 _ 0 _ _ k0
 have z1 := cr 1 (Value.slice none 0 0) k0
 have g1 := frozen_of_row w1 _ 1 _ _ k0
 have z2 := cr 2 (Value.int .i64 0) k0
 have g2 := frozen_of_row w1 _ 2 _ _ k0
 have z3 := cr 3 (Value.int .i64 0) k0
 have g3 := frozen_of_row w1 _ 3 _ _ k0
 have DF := zh ((((hd.setCell (p := ⟨w.heap.size, 0, none⟩) (by simp) (.int .i64 id)).setCell (p := ⟨w.heap.size, 1, none⟩) (by simp) (.slice ua xs.length uc)).setCell (p := ⟨w.heap.size, 2, none⟩) (by simp) (.int .i64 bo)).setCell (p := ⟨w.heap.size, 3, none⟩) (by simp) (.int .i64 di))
 have r := st4 k0 (.int .i64 id) (.slice ua xs.length uc) (.int .i64 bo) (.int .i64 di)
 try simp at r
 have e0 := (cell_of_row _ w.heap.size 0 _ _ _ r).trans (show _ = some (Value.int .i64 id) from rfl)
 have e1 := (cell_of_row _ w.heap.size 1 _ _ _ r).trans (show _ = some (Value.slice ua xs.length uc) from rfl)
 have e2 := (cell_of_row _ w.heap.size 2 _ _ _ r).trans (show _ = some (Value.int .i64 bo) from rfl)
 have e3 := (cell_of_row _ w.heap.size 3 _ _ _ r).trans (show _ = some (Value.int .i64 di) from rfl)
 have tt := ts4 w1 w.heap.size (.int .i64 id) (.slice ua xs.length uc) (.int .i64 bo) (.int .i64 di)
 have PF := zh (slO_turn tInt_law o1 tt (fun b h1 h2 => by have h3 : w.heap.size + 1 ≤ b := h1; have := Y0.out; omega))
 clear r tt k0 hd t1 o1
 go_wp2
 refine bodyPost_ret (v := .agg #[.int .i64 id, .slice ua xs.length uc, .int .i64 bo, .int .i64 di]) ?_ rfl ⟨[.int .i64 id, .slice ua xs.length uc, .int .i64 bo, .int .i64 di], rfl, tVersion_mkO PF.out (fun b h => by have h3 : w.heap.size + 1 ≤ b := h; have := Y0.out; show w.heap.size ≤ b; omega), DF.out⟩
 simp [results, Tryz.f245, go_sem, e0, e1, e2, e3]
set_option maxHeartbeats 16000000 in
theorem specPart (v : Value) (l : List VerD) (w : World) (h : SlR tVersion w v l) (hs : zL tVersion l ≤ 1048576) :
  Calls Tryz.prog 208 #[v] w (FreshS 212 tVersion w l) := by
 have H := zh h
 have hlen := zL_len hs
 have HS := zh hs
 obtain ⟨a, cap, rfl⟩ := slR_len h
 clear h hs
 go_enter Tryz.func208, Tryz.ntmps208
 go_wp2
 go_loopw [3, 4] (fun u i wr => ∃ k : Nat, k ≤ l.length ∧ i = .int .i64 k ∧ SlO 212 tVersion wr (since w) u (l.take k) ∧ Below w.heap.size w wr) (fun _ i _ => l.length - (intOf i).toNat)
 case atStart => exact ⟨0, Nat.zero_le _, rfl, slO_empty w 212 (since w) (Nat.le_refl _), (Below.refl _ _).alloc (Nat.le_refl _) _⟩
 case round =>
  obtain ⟨k, hk, rfl, hown, hbel⟩ := hrel
  by_cases hlt : k < l.length
  ·
   have i1 : (0 : Int) ≤ (k : Int) := by omega
   have i2 : (k : Int) < (l.length : Int) := by omega
   obtain ⟨b, off, cap', xa, xc, hv, hbl, c0, c1, c2, c3, hx⟩ := verR_at H.out hlt
   simp only [Value.slice.injEq] at hv
   obtain ⟨rfl, _, rfl⟩ := hv
   have HXL := zh (ver_len HS.out hlt)
   have HTK := zh (take_getD hlt).symm
   have HYL : Hid ((l.take k).length ≤ 1048576) := zh (by rw [List.length_take]; omega)
   have HX := zh (ints_slR hx)
   generalize l.getD k v0D = x at *
   obtain ⟨id, xs, bo, di⟩ := x
   simp only at c0 c1 c2 c3 HXL
   change Hid (SlR tInt w (.slice xa xs.length xc) xs) at HX
   have C0 := zh c0
   have C1 := zh c1
   have C2 := zh c2
   have C3 := zh c3
   have HBL := zh hbl
   have PP := zh (slO_lt tVersion_law hown)
   have d := zh hbel
   have ZR := zh hbel.size
   obtain ⟨oa, oc, rfl⟩ := slO_len hown
   clear c0 c1 c2 c3 hbl hx hown hbel
   have QP := zh (fun q (h : since w q ∧ q < wr.heap.size) => h)
   generalize l.take k = ys at *
   go_wp2
   have p_C0 := cx d C0 HBL
   have p_C1 := cx d C1 HBL
   have p_C2 := cx d C2 HBL
   have p_C3 := cx d C3 HBL
   refine wp_region_held_drew (S := fun w' => w'.cell? ⟨b, off + k * 4, none⟩ = some (Value.int .i64 id) ∧ w'.cell? ⟨b, off + k * 4 + 1, none⟩ = some (Value.slice xa xs.length xc) ∧ w'.cell? ⟨b, off + k * 4 + 2, none⟩ = some (Value.int .i64 bo) ∧ w'.cell? ⟨b, off + k * 4 + 3, none⟩ = some (Value.int .i64 di)) (by kernel_rfl) ⟨p_C0, p_C1, p_C2, p_C3⟩ (fun hHeld => ?_)
   clear p_C0 p_C1 p_C2 p_C3
   have cdr : Below wr.heap.size wr wr.drew := below_drew (Below.refl _ _)
   replace PP := zf tVersion_law PP cdr
   replace d := zD d cdr
   clear cdr
   have Z_dr := zh (show wr.heap.size ≤ wr.drew.heap.size from Nat.le_refl _)
   generalize wr.drew = Wd at *
   refine tQ (i := 0) ?_
   try simp only [Act.put, lA, lB, lC]
   refine tQ (i := 1) ?_
   try simp only [Act.put, lA, lB, lC]
   refine tQ (i := 2) ?_
   try simp only [Act.put, lA, lB, lC]
   refine tQ (i := 3) ?_
   try simp only [Act.put, lA, lB, lC]
   refine tQ (i := 4) ?_
   try simp only [Act.put, lA, lB, lC]
   refine tQ (i := 5) ?_
   try simp only [Act.put, lA, lB, lC]
   refine tQ (i := 6) ?_
   try simp only [Act.put, lA, lB, lC]
   refine tQ (i := 7) ?_
   try simp only [Act.put, lA, lB, lC]
   refine tQ (i := 8) ?_
   try simp only [Act.put, lA, lB, lC]
   refine tQ (i := 9) ?_
   try simp only [Act.put, lA, lB, lC]
   refine tQ (i := 10) ?_
   try simp only [Act.put, lA, lB, lC]
   refine tQ (i := 11) ?_
   try simp only [Act.put, lA, lB, lC]
   refine tQ (i := 12) ?_
   try simp only [Act.put, lA, lB, lC]
   refine tQ (i := 13) ?_
   try simp only [Act.put, lA, lB, lC]
   refine tQ (i := 14) ?_
   try simp only [Act.put, lA, lB, lC]
   refine tQ (i := 15) ?_
   try simp only [Act.put, lA, lB, lC]
   refine tQ (i := 16) ?_
   try simp only [Act.put, lA, lB, lC]
   refine tQ (i := 17) ?_
   try simp only [Act.put, lA, lB, lC]
   refine tQ (i := 18) ?_
   try simp only [Act.put, lA, lB, lC]
   refine tQ (i := 19) ?_
   try simp only [Act.put, lA, lB, lC]
   refine tQ (i := 20) ?_
   try simp only [Act.put, lA, lB, lC]
   refine rA 21 (fun K hK => ?_)
   go_simp
   refine (specOne id bo di (.slice xa xs.length xc) xs Wd (slR_below tInt_law HX.out d.out) HXL.out).mono ?_
   rintro e w5 ⟨cs, rfl, ow, c5⟩
   have ox : tVersion.O w5 (fun q => wr.heap.size ≤ q) cs (id, xs, bo, di) := tVersion_law.mono ow (fun q hq => Nat.le_trans Z_dr.out hq)
   obtain ⟨u1, K1, rfl, o1, q1⟩ := tVersion_O ox
   obtain ⟨ua, uc, rfl⟩ := slO_len o1
   have PX := zh (slO_mono o1 q1)
   replace PP := zf tVersion_law PP c5
   replace d := zD d c5
   have Z_w5 := zh (show Wd.heap.size ≤ w5.heap.size from c5.size)
   clear c5 ow ox o1 q1
   have p_C0 := cx d C0 HBL
   have p_C1 := cx d C1 HBL
   have p_C2 := cx d C2 HBL
   have p_C3 := cx d C3 HBL
   refine hK.out _ _ ⟨p_C0, p_C1, p_C2, p_C3⟩ (fun hHeld => ?_)
   clear p_C0 p_C1 p_C2 p_C3
   clear hK K
   try simp only [Act.put, lA, lB, lC]
   refine rA 22 (fun K hK => ?_)
   go_simp
   have hal : Below w5.heap.size w5 (w5.alloc (.cells #[.int .i64 id, .slice ua xs.length uc, .int .i64 bo, .int .i64 di] 212)) := (Below.refl _ _).alloc (Nat.le_refl _) _
   have Kd := d
   replace d := zD d hal
   clear hal
   have p_C0 := cx d C0 HBL
   have p_C1 := cx d C1 HBL
   have p_C2 := cx d C2 HBL
   have p_C3 := cx d C3 HBL
   refine hK.out _ _ ⟨p_C0, p_C1, p_C2, p_C3⟩ (fun hHeld => ?_)
   clear p_C0 p_C1 p_C2 p_C3
   clear hK K
   try simp only [Act.put, lA, lB, lC]
   refine rA 23 (fun K hK => ?_)
   have y0 := ZR.out
   have y1 := Z_dr.out
   have y2 := Z_w5.out
   have yd := Kd.out.size
   have hD : wr.heap.size ≤ w5.heap.size := by omega
   have hnew : tVersion.O w5 (fun q => wr.heap.size ≤ q) [.int .i64 id, .slice ua xs.length uc, .int .i64 bo, .int .i64 di] (id, xs, bo, di) := tVersion_mkO PX.out (fun q hq => hq)
   refine step_append_T tVersion_law info_T_Version Tryz.underlying213 rfl rfl (.tmp 12) (.tmp 34) rfl (since w) wr.heap.size _ (ys) rfl PP.out hD (fun q hq => Nat.le_trans ZR.out hq) HYL.out [.int .i64 id, .slice ua xs.length uc, .int .i64 bo, .int .i64 di] (id, xs, bo, di) hnew (by simp [Value.oneCell']) 1 _ rfl rfl ?_
   intro v' w7 oN tN
   rw [HTK.out] at oN
   have PN := zh oN
   have DN := zh (below_turn Kd.out tN (fun q hq => hq.1) yd)
   clear hnew hD oN tN yd PX Kd d PP y0 y1 y2
   have p_C0 := cx DN C0 HBL
   have p_C1 := cx DN C1 HBL
   have p_C2 := cx DN C2 HBL
   have p_C3 := cx DN C3 HBL
   refine hK.out _ _ ⟨p_C0, p_C1, p_C2, p_C3⟩ (fun hHeld => ?_)
   clear p_C0 p_C1 p_C2 p_C3
   clear hK K
   try simp only [Act.put, lA, lB, lC]
   refine tQ (i := 24) ?_
   try simp only [Act.put, lA, lB, lC]
   refine wpAnyH_done (by kernel_rfl) ?_ _
   clear hHeld
   go_wp2
   go_roundw
   case rel => exact ⟨k + 1, by omega, by go_num, PN.out, DN.out⟩
   case measure => simp [intOf]; omega
  ·
   obtain rfl : k = l.length := by omega
   rw [List.take_length] at hown
   obtain ⟨oa, oc, rfl⟩ := slO_len hown
   go_wp2
   go_ret
   exact ⟨_, rfl, hown, hbel⟩
set_option maxHeartbeats 16000000 in
theorem specCopy (v : Value) (ss : List (List VerD)) (now : Int) (w : World) (h : SlR tVersionS w v ss) (hs : zL tVersionS ss ≤ 1048576) :
  Calls Tryz.prog 148 #[.agg #[v, .int .i64 now]] w (FreshT tStore (fun cs => .agg cs.toArray) w (ss, now)) := by
 have hlen := zL_len hs
 have HS := zh hs
 obtain ⟨a, cap, rfl⟩ := slR_len h
 have d0 := zh (show Below w.heap.size w (((w.alloc (.cells #[.slice a ss.length cap, .int .i64 now] 35)).alloc (.cells #[.slice none 0 0, .int .i64 0] 35)).alloc (.cells #[.slice none 0 0, .int .i64 now] 35)) from (((Below.refl _ _).alloc (Nat.le_refl _) _).alloc (by simp <;> omega) _).alloc (by simp <;> omega) _)
 have k0 : (((w.alloc (.cells #[.slice a ss.length cap, .int .i64 now] 35)).alloc (.cells #[.slice none 0 0, .int .i64 0] 35)).alloc (.cells #[.slice none 0 0, .int .i64 now] 35)).heap[w.heap.size]? = some (.cells #[.slice a ss.length cap, .int .i64 now] 35 (0, 0)) := by
  rw [Below.heap_alloc _ _ _ (by simp <;> omega), Below.heap_alloc _ _ _ (by simp)]; exact heap_alloc_new w _
 have k1 : (((w.alloc (.cells #[.slice a ss.length cap, .int .i64 now] 35)).alloc (.cells #[.slice none 0 0, .int .i64 0] 35)).alloc (.cells #[.slice none 0 0, .int .i64 now] 35)).heap[w.heap.size + 1]? = some (.cells #[.slice none 0 0, .int .i64 0] 35 (0, 0)) := by
  rw [Below.heap_alloc _ _ _ (by simp)]
  have := heap_alloc_new (w.alloc (.cells #[.slice a ss.length cap, .int .i64 now] 35)) (.cells #[.slice none 0 0, .int .i64 0] 35)
  simpa only [World.size_alloc] using this
 have k2 : (((w.alloc (.cells #[.slice a ss.length cap, .int .i64 now] 35)).alloc (.cells #[.slice none 0 0, .int .i64 0] 35)).alloc (.cells #[.slice none 0 0, .int .i64 now] 35)).heap[w.heap.size + 2]? = some (.cells #[.slice none 0 0, .int .i64 now] 35 (0, 0)) := by
  have := heap_alloc_new ((w.alloc (.cells #[.slice a ss.length cap, .int .i64 now] 35)).alloc (.cells #[.slice none 0 0, .int .i64 0] 35)) (.cells #[.slice none 0 0, .int .i64 now] 35)
  simpa only [World.size_alloc] using this
 have K0 := zh k0
 have K1 := zh k1
 have K2 := zh k2
 have YW : Hid (w.heap.size + 2 < (((w.alloc (.cells #[.slice a ss.length cap, .int .i64 now] 35)).alloc (.cells #[.slice none 0 0, .int .i64 0] 35)).alloc (.cells #[.slice none 0 0, .int .i64 now] 35)).heap.size) := zh (by simp)
 have H := zh h
 clear h hs k0 k1 k2
 go_enter Tryz.func148, Tryz.ntmps148
 go_wp2
 generalize (((w.alloc (.cells #[.slice a ss.length cap, .int .i64 now] 35)).alloc (.cells #[.slice none 0 0, .int .i64 0] 35)).alloc (.cells #[.slice none 0 0, .int .i64 now] 35)) = W at *
 go_loopw [4] (fun i wr => ∃ (k : Nat) (fv : Value), k ≤ ss.length ∧ i = .int .i64 k ∧ wr.heap[w.heap.size]? = some (.cells #[.slice a ss.length cap, .int .i64 now] 35 (0, 0)) ∧ wr.heap[w.heap.size + 1]? = some (.cells #[.slice none 0 0, .int .i64 0] 35 (0, 0)) ∧ wr.heap[w.heap.size + 2]? = some (.cells #[fv, .int .i64 now] 35 (0, 0)) ∧ SlO 213 tVersionS wr (fun q => w.heap.size + 2 < q) fv (ss.take k) ∧ Below w.heap.size w wr ∧ w.heap.size + 2 < wr.heap.size) (fun i _ => ss.length - (intOf i).toNat)
 case atStart => exact ⟨0, .slice none 0 0, Nat.zero_le _, rfl, K0.out, K1.out, K2.out, slO_nil _ _ _ _, d0.out, YW.out⟩
 case round =>
  obtain ⟨k, fv, hk, rfl, r0, r1, r2, hown, hbel, hsz⟩ := hrel
  have hfl : (ss.take k).length = k := by rw [List.length_take]; omega
  obtain ⟨fa, fc, rfl⟩ := slO_len hown
  by_cases hlt : k < ss.length
  ·
   have i1 : (0 : Int) ≤ (k : Int) := by omega
   have i2 : (k : Int) < (ss.length : Int) := by omega
   obtain ⟨b, off, cap', cs, hv, hbl, hcs, hR⟩ := slR_at H.out hlt
   simp only [Value.slice.injEq] at hv
   obtain ⟨rfl, _, rfl⟩ := hv
   obtain ⟨u, rfl, hU⟩ := hR
   change SlR tVersion w u (ss.getD k []) at hU
   have pe : w.cell? ⟨b, off + k, none⟩ = some u := by have := hcs 0 Nat.one_pos; rw [show tVersionS.n = 1 from rfl, Nat.mul_one, Nat.add_zero] at this; exact this
   have hzl : zL tVersion (ss.getD k []) ≤ 1048576 := Nat.le_trans (zL_seg hlt) HS.out
   obtain ⟨ua, uc, rfl⟩ := slR_len hU
   have HC := zh (fun w h => specPart (.slice ua (ss.getD k []).length uc) (ss.getD k []) w h hzl)
   have HTK : Hid (ss.take k ++ [ss.getD k []] = ss.take (k + 1)) := zh (by rw [List.take_succ_eq_append_getElem hlt]; simp [List.getD, hlt])
   have HTL : Hid ((ss.take (k + 1)).length = k + 1) := zh (by rw [List.length_take]; omega)
   have HYL : Hid ((ss.take k).length ≤ 1048576) := zh (by omega)
   have HU := zh hU
   have C0 := zh pe
   have HBL := zh hbl
   have B0 := zh r0
   have BZ := zh r1
   have BX := zh r2
   have PF := zh (slO_lt tVersionS_law hown)
   have QF := zh (fun q (h : w.heap.size + 2 < q ∧ q < wr.heap.size) => h)
   have d := zh hbel
   have ZR := zh hsz
   have q0 := cr 0 (Value.slice (some ⟨b, off, none⟩) ss.length cap) r0
   clear hcs pe hU hzl hbl r0 r1 r2 hown hbel hsz hfl
   generalize ss.getD k [] = l at *
   generalize ss.take k = ys at *
   go_wp2
   clear q0
   obtain ⟨p_B0_0, p_B0_1⟩ := cls2 B0.out
   have p_C0 := cx d C0 HBL
   refine wp_region_held_drew (S := fun w' => w'.cell? ⟨w.heap.size, 0, none⟩ = some (Value.slice (some ⟨b, off, none⟩) ss.length cap) ∧ w'.cell? ⟨w.heap.size, 1, none⟩ = some (Value.int .i64 now) ∧ w'.cell? ⟨b, off + k, none⟩ = some (Value.slice ua l.length uc)) (by kernel_rfl) ⟨p_B0_0, p_B0_1, p_C0⟩ (fun hHeld => ?_)
   clear p_B0_0 p_B0_1 p_C0
   have cdr : Below wr.heap.size wr wr.drew := below_drew (Below.refl _ _)
   replace B0 := zb cdr B0
   replace BZ := zb cdr BZ
   replace BX := zb cdr BX
   replace PF := zf tVersionS_law PF cdr
   replace d := zD d cdr
   clear cdr
   have Z_dr := zh (show wr.heap.size ≤ wr.drew.heap.size from Nat.le_refl _)
   generalize wr.drew = Wd at *
   refine tQ (i := 0) ?_
   try simp only [Act.put, lA, lB, lC]
   refine tQ (i := 2) ?_
   try simp only [Act.put, lA, lB, lC]
   refine tQ (i := 3) ?_
   try simp only [Act.put, lA, lB, lC]
   refine tQ (i := 4) ?_
   try simp only [Act.put, lA, lB, lC]
   refine tQ (i := 5) ?_
   try simp only [Act.put, lA, lB, lC]
   refine tQ (i := 6) ?_
   try simp only [Act.put, lA, lB, lC]
   refine wpAnyH_ready (rs := [1, 7]) (by kernel_rfl) (by simp) ?_
   refine (AllReadyH.cons (o := _) (by simp only [hA, hB, hC]; rfl) (fun K hK => ?_) (AllReadyH.cons (o := _) (by simp only [hA, hB, hC]; rfl) (fun K hK => ?_) AllReadyH.nil))
   ·
    have px := (cell_of_row Wd _ 0 _ _ _ BX.out).trans (show _ = some (Value.slice fa ys.length fc) from rfl)
    go_simp
    clear px
    obtain ⟨p_B0_0, p_B0_1⟩ := cls2 B0.out
    have p_C0 := cx d C0 HBL
    refine hK.out _ _ ⟨p_B0_0, p_B0_1, p_C0⟩ (fun hHeld => ?_)
    clear p_B0_0 p_B0_1 p_C0
    clear hK K
    try simp only [Act.put, lA, lB, lC]
    refine rA 7 (fun K hK => ?_)
    go_simp
    refine (HC.out Wd (slR_below tVersion_law HU.out d.out)).mono ?_
    rintro e w5 ⟨pv, rfl, op, c5⟩
    have ox : SlO 212 tVersion w5 (fun q => wr.heap.size ≤ q) pv l := slO_mono op (fun q hq => Nat.le_trans Z_dr.out hq)
    obtain ⟨pa, pc, rfl⟩ := slO_len ox
    have PX := zh ox
    replace B0 := zb c5 B0
    replace BZ := zb c5 BZ
    replace BX := zb c5 BX
    replace PF := zf tVersionS_law PF c5
    replace d := zD d c5
    have Z_w5 := zh (show Wd.heap.size ≤ w5.heap.size from c5.size)
    have QX := zh (fun q (h : wr.heap.size ≤ q) => h)
    clear c5 op ox
    obtain ⟨p_B0_0, p_B0_1⟩ := cls2 B0.out
    have p_C0 := cx d C0 HBL
    refine hK.out _ _ ⟨p_B0_0, p_B0_1, p_C0⟩ (fun hHeld => ?_)
    clear p_B0_0 p_B0_1 p_C0
    clear hK K
    try simp only [Act.put, lA, lB, lC]
    refine rA 8 (fun K hK => ?_)
    go_simp
    have hal : Below w5.heap.size w5 (w5.alloc (.cells #[.slice pa l.length pc] 213)) := (Below.refl _ _).alloc (Nat.le_refl _) _
    have KB0 := B0
    have KBZ := BZ
    have KBX := BX
    have KPF := PF
    have KPX := PX
    have Kd := d
    replace B0 := zb hal B0
    replace BZ := zb hal BZ
    replace BX := zb hal BX
    replace PF := zf tVersionS_law PF hal
    replace PX := zf tVersion_law PX hal
    replace d := zD d hal
    clear hal
    obtain ⟨p_B0_0, p_B0_1⟩ := cls2 B0.out
    have p_C0 := cx d C0 HBL
    refine hK.out _ _ ⟨p_B0_0, p_B0_1, p_C0⟩ (fun hHeld => ?_)
    clear p_B0_0 p_B0_1 p_C0
    clear hK K
    try simp only [Act.put, lA, lB, lC]
    refine rA 9 (fun K hK => ?_)
    have y0 := ZR.out
    have y1 := Z_dr.out
    have y2 := Z_w5.out
    have yd := Kd.out.size
    have hD : wr.heap.size ≤ w5.heap.size := by omega
    refine step_append_T tVersionS_law info_T_VersionS Tryz.underlying33 rfl rfl (.tmp 16) (.tmp 23) rfl (fun q => w.heap.size + 2 < q) wr.heap.size _ ys rfl KPF.out hD (fun q hq => by show w.heap.size + 2 < q; omega) HYL.out [.slice pa l.length pc] l ⟨_, rfl, KPX.out⟩ (by simp [Value.oneCell']) 1 _ rfl rfl ?_
    intro v' w7 oN tN
    replace B0 := zB tN KB0 (fun h => by have r : w.heap.size + 2 < w.heap.size := h.1; omega)
    replace BZ := zB tN KBZ (fun h => by have r : w.heap.size + 2 < (w.heap.size + 1) := h.1; omega)
    replace BX := zB tN KBX (fun h => by have r : w.heap.size + 2 < (w.heap.size + 2) := h.1; omega)
    replace d := zh (below_turn Kd.out tN (fun q hq => by have r : w.heap.size + 2 < q := hq.1; omega) yd)
    have zN := zh (show w5.heap.size ≤ w7.heap.size from tN.size)
    rw [HTK.out] at oN
    obtain ⟨na, nc, rfl⟩ := slO_len oN
    rw [HTL.out] at oN
    have PN := zh oN
    clear hD oN tN yd PF PX KB0 KBZ KBX KPF KPX Kd y0 y1 y2
    obtain ⟨p_B0_0, p_B0_1⟩ := cls2 B0.out
    have p_C0 := cx d C0 HBL
    refine hK.out _ _ ⟨p_B0_0, p_B0_1, p_C0⟩ (fun hHeld => ?_)
    clear p_B0_0 p_B0_1 p_C0
    clear hK K
    try simp only [Act.put, lA, lB, lC]
    refine tQ (i := 10) ?_
    try simp only [Act.put, lA, lB, lC]
    refine rA 11 (fun K hK => ?_)
    have px := cr 0 (Value.slice fa ys.length fc) BX.out
    have fx := frozen_of_row w7 _ 0 _ _ BX.out
    rw [HTL.out]
    go_simp
    clear px fx
    have tt : Turn (fun q => q = w.heap.size + 2) w7 (w7.setCell ⟨w.heap.size + 2, 0, none⟩ (.slice na (k + 1) nc)) := turn_set (G := fun q => q = w.heap.size + 2) (g := w.heap.size + 2) (j := 0) (u := .slice na (k + 1) nc) rfl
    have r := heap_setCell_same w7 (w.heap.size + 2) 0 _ _ (.slice na (k + 1) nc) BX.out
    simp at r
    have y0 := ZR.out
    have y1 := Z_dr.out
    have y2 := Z_w5.out
    have y3 := zN.out
    replace BX : Hid ((w7.setCell ⟨w.heap.size + 2, 0, none⟩ (.slice na (k + 1) nc)).heap[w.heap.size + 2]? = some (.cells #[.slice na (k + 1) nc, .int .i64 now] 35 (0, 0))) := zh r
    replace B0 := zB tt B0 (fun h => by omega)
    replace BZ := zB tt BZ (fun h => by omega)
    replace PN := zt tVersionS_law PN tt (fun q h1 h2 => by have r1 : w.heap.size + 2 < q := h1; omega)
    replace d := zh (below_turn d.out tt (fun q h => by omega) d.out.size)
    have zM := zh (show w7.heap.size ≤ (w7.setCell ⟨w.heap.size + 2, 0, none⟩ (.slice na (k + 1) nc)).heap.size from tt.size)
    clear tt r y0 y1 y2 y3
    generalize (w7.setCell ⟨w.heap.size + 2, 0, none⟩ (.slice na (k + 1) nc)) = w8 at *
    obtain ⟨p_B0_0, p_B0_1⟩ := cls2 B0.out
    have p_C0 := cx d C0 HBL
    refine hK.out _ _ ⟨p_B0_0, p_B0_1, p_C0⟩ (fun hHeld => ?_)
    clear p_B0_0 p_B0_1 p_C0
    clear hK K
    try simp only [Act.put, lA, lB, lC]
    refine wpAnyH_done (by kernel_rfl) ?_ _
    clear hHeld
    have y0 := ZR.out
    have y1 := Z_dr.out
    have y2 := Z_w5.out
    have y3 := zN.out
    have y4 := zM.out
    have zz : w.heap.size + 2 < w8.heap.size := by omega
    have ZZ := zh zz
    clear zz y0 y1 y2 y3 y4
    go_wp2
    go_roundw
    case rel => exact ⟨k + 1, _, by omega, by go_num, B0.out, BZ.out, BX.out, PN.out, d.out, ZZ.out⟩
    case measure => simp [intOf]; omega
   ·
    go_simp
    refine (HC.out Wd (slR_below tVersion_law HU.out d.out)).mono ?_
    rintro e w5 ⟨pv, rfl, op, c5⟩
    have ox : SlO 212 tVersion w5 (fun q => wr.heap.size ≤ q) pv l := slO_mono op (fun q hq => Nat.le_trans Z_dr.out hq)
    obtain ⟨pa, pc, rfl⟩ := slO_len ox
    have PX := zh ox
    replace B0 := zb c5 B0
    replace BZ := zb c5 BZ
    replace BX := zb c5 BX
    replace PF := zf tVersionS_law PF c5
    replace d := zD d c5
    have Z_w5 := zh (show Wd.heap.size ≤ w5.heap.size from c5.size)
    have QX := zh (fun q (h : wr.heap.size ≤ q) => h)
    clear c5 op ox
    obtain ⟨p_B0_0, p_B0_1⟩ := cls2 B0.out
    have p_C0 := cx d C0 HBL
    refine hK.out _ _ ⟨p_B0_0, p_B0_1, p_C0⟩ (fun hHeld => ?_)
    clear p_B0_0 p_B0_1 p_C0
    clear hK K
    try simp only [Act.put, lA, lB, lC]
    refine wpAnyH_ready (rs := [1, 8]) (by kernel_rfl) (by simp) ?_
    refine (AllReadyH.cons (o := _) (by simp only [hA, hB, hC]; rfl) (fun K hK => ?_) (AllReadyH.cons (o := _) (by simp only [hA, hB, hC]; rfl) (fun K hK => ?_) AllReadyH.nil))
    ·
     have px := (cell_of_row w5 _ 0 _ _ _ BX.out).trans (show _ = some (Value.slice fa ys.length fc) from rfl)
     go_simp
     clear px
     obtain ⟨p_B0_0, p_B0_1⟩ := cls2 B0.out
     have p_C0 := cx d C0 HBL
     refine hK.out _ _ ⟨p_B0_0, p_B0_1, p_C0⟩ (fun hHeld => ?_)
     clear p_B0_0 p_B0_1 p_C0
     clear hK K
     try simp only [Act.put, lA, lB, lC]
     refine rA 8 (fun K hK => ?_)
     go_simp
     have hal : Below w5.heap.size w5 (w5.alloc (.cells #[.slice pa l.length pc] 213)) := (Below.refl _ _).alloc (Nat.le_refl _) _
     have KB0 := B0
     have KBZ := BZ
     have KBX := BX
     have KPF := PF
     have KPX := PX
     have Kd := d
     replace B0 := zb hal B0
     replace BZ := zb hal BZ
     replace BX := zb hal BX
     replace PF := zf tVersionS_law PF hal
     replace PX := zf tVersion_law PX hal
     replace d := zD d hal
     clear hal
     obtain ⟨p_B0_0, p_B0_1⟩ := cls2 B0.out
     have p_C0 := cx d C0 HBL
     refine hK.out _ _ ⟨p_B0_0, p_B0_1, p_C0⟩ (fun hHeld => ?_)
     clear p_B0_0 p_B0_1 p_C0
     clear hK K
     try simp only [Act.put, lA, lB, lC]
     refine rA 9 (fun K hK => ?_)
     have y0 := ZR.out
     have y1 := Z_dr.out
     have y2 := Z_w5.out
     have yd := Kd.out.size
     have hD : wr.heap.size ≤ w5.heap.size := by omega
     refine step_append_T tVersionS_law info_T_VersionS Tryz.underlying33 rfl rfl (.tmp 16) (.tmp 23) rfl (fun q => w.heap.size + 2 < q) wr.heap.size _ ys rfl KPF.out hD (fun q hq => by show w.heap.size + 2 < q; omega) HYL.out [.slice pa l.length pc] l ⟨_, rfl, KPX.out⟩ (by simp [Value.oneCell']) 1 _ rfl rfl ?_
     intro v' w7 oN tN
     replace B0 := zB tN KB0 (fun h => by have r : w.heap.size + 2 < w.heap.size := h.1; omega)
     replace BZ := zB tN KBZ (fun h => by have r : w.heap.size + 2 < (w.heap.size + 1) := h.1; omega)
     replace BX := zB tN KBX (fun h => by have r : w.heap.size + 2 < (w.heap.size + 2) := h.1; omega)
     replace d := zh (below_turn Kd.out tN (fun q hq => by have r : w.heap.size + 2 < q := hq.1; omega) yd)
     have zN := zh (show w5.heap.size ≤ w7.heap.size from tN.size)
     rw [HTK.out] at oN
     obtain ⟨na, nc, rfl⟩ := slO_len oN
     rw [HTL.out] at oN
     have PN := zh oN
     clear hD oN tN yd PF PX KB0 KBZ KBX KPF KPX Kd y0 y1 y2
     obtain ⟨p_B0_0, p_B0_1⟩ := cls2 B0.out
     have p_C0 := cx d C0 HBL
     refine hK.out _ _ ⟨p_B0_0, p_B0_1, p_C0⟩ (fun hHeld => ?_)
     clear p_B0_0 p_B0_1 p_C0
     clear hK K
     try simp only [Act.put, lA, lB, lC]
     refine tQ (i := 10) ?_
     try simp only [Act.put, lA, lB, lC]
     refine rA 11 (fun K hK => ?_)
     have px := cr 0 (Value.slice fa ys.length fc) BX.out
     have fx := frozen_of_row w7 _ 0 _ _ BX.out
     rw [HTL.out]
     go_simp
     clear px fx
     have tt : Turn (fun q => q = w.heap.size + 2) w7 (w7.setCell ⟨w.heap.size + 2, 0, none⟩ (.slice na (k + 1) nc)) := turn_set (G := fun q => q = w.heap.size + 2) (g := w.heap.size + 2) (j := 0) (u := .slice na (k + 1) nc) rfl
     have r := heap_setCell_same w7 (w.heap.size + 2) 0 _ _ (.slice na (k + 1) nc) BX.out
     simp at r
     have y0 := ZR.out
     have y1 := Z_dr.out
     have y2 := Z_w5.out
     have y3 := zN.out
     replace BX : Hid ((w7.setCell ⟨w.heap.size + 2, 0, none⟩ (.slice na (k + 1) nc)).heap[w.heap.size + 2]? = some (.cells #[.slice na (k + 1) nc, .int .i64 now] 35 (0, 0))) := zh r
     replace B0 := zB tt B0 (fun h => by omega)
     replace BZ := zB tt BZ (fun h => by omega)
     replace PN := zt tVersionS_law PN tt (fun q h1 h2 => by have r1 : w.heap.size + 2 < q := h1; omega)
     replace d := zh (below_turn d.out tt (fun q h => by omega) d.out.size)
     have zM := zh (show w7.heap.size ≤ (w7.setCell ⟨w.heap.size + 2, 0, none⟩ (.slice na (k + 1) nc)).heap.size from tt.size)
     clear tt r y0 y1 y2 y3
     generalize (w7.setCell ⟨w.heap.size + 2, 0, none⟩ (.slice na (k + 1) nc)) = w8 at *
     obtain ⟨p_B0_0, p_B0_1⟩ := cls2 B0.out
     have p_C0 := cx d C0 HBL
     refine hK.out _ _ ⟨p_B0_0, p_B0_1, p_C0⟩ (fun hHeld => ?_)
     clear p_B0_0 p_B0_1 p_C0
     clear hK K
     try simp only [Act.put, lA, lB, lC]
     refine wpAnyH_done (by kernel_rfl) ?_ _
     clear hHeld
     have y0 := ZR.out
     have y1 := Z_dr.out
     have y2 := Z_w5.out
     have y3 := zN.out
     have y4 := zM.out
     have zz : w.heap.size + 2 < w8.heap.size := by omega
     have ZZ := zh zz
     clear zz y0 y1 y2 y3 y4
     go_wp2
     go_roundw
     case rel => exact ⟨k + 1, _, by omega, by go_num, B0.out, BZ.out, BX.out, PN.out, d.out, ZZ.out⟩
     case measure => simp [intOf]; omega
    ·
     go_simp
     have hal : Below w5.heap.size w5 (w5.alloc (.cells #[.slice pa l.length pc] 213)) := (Below.refl _ _).alloc (Nat.le_refl _) _
     have KB0 := B0
     have KBZ := BZ
     have KBX := BX
     have KPF := PF
     have KPX := PX
     have Kd := d
     replace B0 := zb hal B0
     replace BZ := zb hal BZ
     replace BX := zb hal BX
     replace PF := zf tVersionS_law PF hal
     replace PX := zf tVersion_law PX hal
     replace d := zD d hal
     clear hal
     obtain ⟨p_B0_0, p_B0_1⟩ := cls2 B0.out
     have p_C0 := cx d C0 HBL
     refine hK.out _ _ ⟨p_B0_0, p_B0_1, p_C0⟩ (fun hHeld => ?_)
     clear p_B0_0 p_B0_1 p_C0
     clear hK K
     try simp only [Act.put, lA, lB, lC]
     refine rA 1 (fun K hK => ?_)
     have px := cr 0 (Value.slice fa ys.length fc) BX.out
     go_simp
     clear px
     obtain ⟨p_B0_0, p_B0_1⟩ := cls2 B0.out
     have p_C0 := cx d C0 HBL
     refine hK.out _ _ ⟨p_B0_0, p_B0_1, p_C0⟩ (fun hHeld => ?_)
     clear p_B0_0 p_B0_1 p_C0
     clear hK K
     try simp only [Act.put, lA, lB, lC]
     refine rA 9 (fun K hK => ?_)
     have y0 := ZR.out
     have y1 := Z_dr.out
     have y2 := Z_w5.out
     have yd := Kd.out.size
     have hD : wr.heap.size ≤ w5.heap.size := by omega
     refine step_append_T tVersionS_law info_T_VersionS Tryz.underlying33 rfl rfl (.tmp 16) (.tmp 23) rfl (fun q => w.heap.size + 2 < q) wr.heap.size _ ys rfl KPF.out hD (fun q hq => by show w.heap.size + 2 < q; omega) HYL.out [.slice pa l.length pc] l ⟨_, rfl, KPX.out⟩ (by simp [Value.oneCell']) 1 _ rfl rfl ?_
     intro v' w7 oN tN
     replace B0 := zB tN KB0 (fun h => by have r : w.heap.size + 2 < w.heap.size := h.1; omega)
     replace BZ := zB tN KBZ (fun h => by have r : w.heap.size + 2 < (w.heap.size + 1) := h.1; omega)
     replace BX := zB tN KBX (fun h => by have r : w.heap.size + 2 < (w.heap.size + 2) := h.1; omega)
     replace d := zh (below_turn Kd.out tN (fun q hq => by have r : w.heap.size + 2 < q := hq.1; omega) yd)
     have zN := zh (show w5.heap.size ≤ w7.heap.size from tN.size)
     rw [HTK.out] at oN
     obtain ⟨na, nc, rfl⟩ := slO_len oN
     rw [HTL.out] at oN
     have PN := zh oN
     clear hD oN tN yd PF PX KB0 KBZ KBX KPF KPX Kd y0 y1 y2
     obtain ⟨p_B0_0, p_B0_1⟩ := cls2 B0.out
     have p_C0 := cx d C0 HBL
     refine hK.out _ _ ⟨p_B0_0, p_B0_1, p_C0⟩ (fun hHeld => ?_)
     clear p_B0_0 p_B0_1 p_C0
     clear hK K
     try simp only [Act.put, lA, lB, lC]
     refine tQ (i := 10) ?_
     try simp only [Act.put, lA, lB, lC]
     refine rA 11 (fun K hK => ?_)
     have px := cr 0 (Value.slice fa ys.length fc) BX.out
     have fx := frozen_of_row w7 _ 0 _ _ BX.out
     rw [HTL.out]
     go_simp
     clear px fx
     have tt : Turn (fun q => q = w.heap.size + 2) w7 (w7.setCell ⟨w.heap.size + 2, 0, none⟩ (.slice na (k + 1) nc)) := turn_set (G := fun q => q = w.heap.size + 2) (g := w.heap.size + 2) (j := 0) (u := .slice na (k + 1) nc) rfl
     have r := heap_setCell_same w7 (w.heap.size + 2) 0 _ _ (.slice na (k + 1) nc) BX.out
     simp at r
     have y0 := ZR.out
     have y1 := Z_dr.out
     have y2 := Z_w5.out
     have y3 := zN.out
     replace BX : Hid ((w7.setCell ⟨w.heap.size + 2, 0, none⟩ (.slice na (k + 1) nc)).heap[w.heap.size + 2]? = some (.cells #[.slice na (k + 1) nc, .int .i64 now] 35 (0, 0))) := zh r
     replace B0 := zB tt B0 (fun h => by omega)
     replace BZ := zB tt BZ (fun h => by omega)
     replace PN := zt tVersionS_law PN tt (fun q h1 h2 => by have r1 : w.heap.size + 2 < q := h1; omega)
     replace d := zh (below_turn d.out tt (fun q h => by omega) d.out.size)
     have zM := zh (show w7.heap.size ≤ (w7.setCell ⟨w.heap.size + 2, 0, none⟩ (.slice na (k + 1) nc)).heap.size from tt.size)
     clear tt r y0 y1 y2 y3
     generalize (w7.setCell ⟨w.heap.size + 2, 0, none⟩ (.slice na (k + 1) nc)) = w8 at *
     obtain ⟨p_B0_0, p_B0_1⟩ := cls2 B0.out
     have p_C0 := cx d C0 HBL
     refine hK.out _ _ ⟨p_B0_0, p_B0_1, p_C0⟩ (fun hHeld => ?_)
     clear p_B0_0 p_B0_1 p_C0
     clear hK K
     try simp only [Act.put, lA, lB, lC]
     refine wpAnyH_done (by kernel_rfl) ?_ _
     clear hHeld
     have y0 := ZR.out
     have y1 := Z_dr.out
     have y2 := Z_w5.out
     have y3 := zN.out
     have y4 := zM.out
     have zz : w.heap.size + 2 < w8.heap.size := by omega
     have ZZ := zh zz
     clear zz y0 y1 y2 y3 y4
     go_wp2
     go_roundw
     case rel => exact ⟨k + 1, _, by omega, by go_num, B0.out, BZ.out, BX.out, PN.out, d.out, ZZ.out⟩
     case measure => simp [intOf]; omega
  ·
   obtain rfl : k = ss.length := by omega
   rw [List.take_length] at hown
   have HFL := zh hfl
   rw [List.take_length] at r2
   have q0 := cr 0 (Value.slice a ss.length cap) r0
   have x0 := cr 0 (Value.slice fa ss.length fc) r2
   have x1 := cr 1 (Value.int .i64 now) r2
   have z0 := cr 0 (Value.slice none 0 0) r1
   have z1 := cr 1 (Value.int .i64 0) r1
   have g0 := frozen_of_row wr _ 0 _ _ r1
   have g1 := frozen_of_row wr _ 1 _ _ r1
   have hd : Below w.heap.size w wr := hbel
   have DF := zh ((hd.setCell (p := ⟨w.heap.size + 1, 0, none⟩) (by simp) (.slice fa ss.length fc)).setCell (p := ⟨w.heap.size + 1, 1, none⟩) (by simp) (.int .i64 now))
   have r := st2 r1 (.slice fa ss.length fc) (.int .i64 now)
   try simp at r
   have e0 := (cell_of_row _ (w.heap.size + 1) 0 _ _ _ r).trans (show _ = some (Value.slice fa ss.length fc) from rfl)
   have e1 := (cell_of_row _ (w.heap.size + 1) 1 _ _ _ r).trans (show _ = some (Value.int .i64 now) from rfl)
   have tt := ts2 wr (w.heap.size + 1) (.slice fa ss.length fc) (.int .i64 now)
   have PF1 := zh (slO_turn tVersionS_law hown tt (fun b h1 h2 => by have h3 : w.heap.size + 2 < b := h1; omega))
   clear r tt r0 r1 r2 hown hbel hd hfl
   go_wp2
   refine bodyPost_ret (v := .agg #[.slice fa ss.length fc, .int .i64 now]) ?_ rfl ⟨[.slice fa ss.length fc, .int .i64 now], rfl, tStore_mkO PF1.out (fun b h => by have h3 : w.heap.size + 2 < b := h; show w.heap.size ≤ b; omega), DF.out⟩
   simp [results, Tryz.f148, go_sem, e0, e1]
end Go.Proofs.YtnepfacnmaoieaaGreatDoor
