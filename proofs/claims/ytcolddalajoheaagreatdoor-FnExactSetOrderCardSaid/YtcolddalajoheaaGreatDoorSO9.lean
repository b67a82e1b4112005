/-
 Texts of the proof, merged: EngSpec3, Cpl6Query, Uni, Cpl10Copy, Cpl3Copy, Mpl9Rows, VerSpec3, RowInsM, RowSort, VerSpec5, NewMath, VerSpec6, VerSpec7, UpdSpec2, UpdSpec3.
-/
import Derived.Test.YtcolddalajoheaaGreatDoorSO1
import Derived.Test.YtcolddalajoheaaGreatDoorSO2
import Derived.Test.YtcolddalajoheaaGreatDoorSO3
import Derived.Test.YtcolddalajoheaaGreatDoorSO4
import Derived.Test.YtcolddalajoheaaGreatDoorSO6
import Derived.Test.YtcolddalajoheaaGreatDoorSO7
import Derived.Test.YtcolddalajoheaaGreatDoorSO8
namespace Go.Proofs.YtcolddalajoheaaGreatDoor
open Go.RowKit
open Go renaming frozen_of_row → Ut, cell_of_row → Uu, heap_alloc_new → Uw
open Go.World renaming size_alloc → Ux
open Nat renaming le_refl → Ed, lt_of_lt_of_le → Ee, zero_le → Ef
open Go.Value.slice renaming injEq → Eg
open Go.RowKit.Below renaming refl → Eh
open ZD0
set_option maxRecDepth 100000
set_option linter.unusedVariables false
set_option linter.unusedSimpArgs false
set_option maxHeartbeats 16000000 in
theorem copy_l6Query (a0 a1 : Int) (v2 v3 : Value) (x2 : List (Int × Int × Int)) (x3 : List Int) (w : World) (h2 : Kc Jl w v2 x2) (h3 : Kc Jf w v3 x3) (s2 : zL Jl x2 ≤ 1048576) (s3 : zL Jf x3 ≤ 1048576) :
  Calls Tryz.prog 42 #[.agg #[a0, a1, v2, v3]] w (Yc Ue (fun cs => .agg cs.toArray) w (a0, a1, x2, x3)) := by
 obtain ⟨c2, k2, rfl⟩ := Jo h2
 obtain ⟨c3, k3, rfl⟩ := Jo h3
 have H2 := hd h2
 have N2 := hd (Jz s2)
 have H3 := hd h3
 have N3 := hd (Jz s3)
 clear h2 s2 h3 s3
 have d := hd (show Below w w ((w.alloc (.cells #[a0, a1, .slice c2 x2.length k2, .slice c3 x3.length k3] 49)).alloc (.cells #[Ja, Ja, (), ()] 49)) from ((Eh _ w).alloc (Ed _) _).alloc (by simp) _)
 have B1 : Hid (((w.alloc (.cells #[a0, a1, .slice c2 x2.length k2, .slice c3 x3.length k3] 49)).alloc (.cells #[Ja, Ja, (), ()] 49)).heap[(w.heap.size + 1)]? = some (.cells #[Ja, Ja, (), ()] 49 (0, 0))) := hd (by
  have := Uw (w.alloc (.cells #[a0, a1, .slice c2 x2.length k2, .slice c3 x3.length k3] 49)) (.cells #[Ja, Ja, (), ()] 49)
  simpa only [Ux] using this)
 have B0 : Hid (((w.alloc (.cells #[a0, a1, .slice c2 x2.length k2, .slice c3 x3.length k3] 49)).alloc (.cells #[Ja, Ja, (), ()] 49)).heap[w.heap.size]? = some (.cells #[a0, a1, .slice c2 x2.length k2, .slice c3 x3.length k3] 49 (0, 0))) := hd (by
  rw [Below.heap_alloc _ _ _ (by simp)]
  exact Uw w _)
 have Y_W : Hid (w.heap.size + 2 ≤ ((w.alloc (.cells #[a0, a1, .slice c2 x2.length k2, .slice c3 x3.length k3] 49)).alloc (.cells #[Ja, Ja, (), ()] 49)).heap.size) := hd (by simp [Ux])
 go_enter Tryz.func42, Tryz.ntmps42
 go_wp2
 generalize ((w.alloc (.cells #[a0, a1, .slice c2 x2.length k2, .slice c3 x3.length k3] 49)).alloc (.cells #[Ja, Ja, (), ()] 49)) = W at *
 have cp_B0_0 := cls4 B0.out
 refine wp_region_held_drew (S := fun w' => w'.cell? ⟨w, 0, none⟩ = some (Value.int .i64 a0) ∧ w'.cell? ⟨w, 1, none⟩ = some (Value.int .i64 a1) ∧ w'.cell? ⟨w, 2, none⟩ = some (Value.slice c2 x2.length k2) ∧ w'.cell? ⟨w, 3, none⟩ = some (Value.slice c3 x3.length k3)) (by kernel_rfl) cp_B0_0 (fun hHeld => ?_)
 clear cp_B0_0
 have cdr : Below W W W.drew := Ke (Eh _ _)
 replace B0 := zb cdr B0
 replace B1 := zb cdr B1
 replace d := zD d cdr
 clear cdr
 refine tQ (i := 0) ?_
 try simp only [Act.put, lA, lB, lC]
 refine tQ (i := 1) ?_
 try simp only [Act.put, lA, lB, lC]
 refine tQ (i := 2) ?_
 try simp only [Act.put, lA, lB, lC]
 refine tQ (i := 3) ?_
 try simp only [Act.put, lA, lB, lC]
 refine tQ (i := 5) ?_
 try simp only [Act.put, lA, lB, lC]
 refine tQ (i := 6) ?_
 try simp only [Act.put, lA, lB, lC]
 refine tQ (i := 9) ?_
 try simp only [Act.put, lA, lB, lC]
 refine tQ (i := 10) ?_
 try simp only [Act.put, lA, lB, lC]
 refine wpAnyH_ready (rs := [4, 8]) (by kernel_rfl) (by simp) ?_
 refine (AllReadyH.cons (o := _) (by simp only [hA, hB, hC]; rfl) (fun K hK => ?_) (AllReadyH.cons (o := _) (by simp only [hA, hB, hC]; rfl) (fun K hK => ?_) AllReadyH.nil))
 ·
  go_simp
  have hal : Below W (W.drew) (W.alloc (.cells #[] 145)).drew := ⟨rfl, rfl, rfl, by show W.heap.size ≤ (W.alloc (.cells #[] 145)).heap.size; simp [Ux], fun k hk => Below.heap_alloc W _ k hk⟩
  have Y_2 := hd (show W.heap.size < (W.alloc (.cells #[] 145)).drew.heap.size by show W.heap.size < (W.alloc (.cells #[] 145)).heap.size; simp [Ux])
  replace B0 := zb hal B0
  replace B1 := zb hal B1
  replace d := zD d hal
  have P2 := hd (Kq Jq (Vp (T := Jl) W 145 (fun b => b = W.heap.size) rfl) (Ke (Eh _ _)))
  have Q2 := hd (fun b (h : b = W.heap.size) => h)
  clear hal
  generalize (W.alloc (.cells #[] 145)).drew = V1 at *
  refine hK.out _ _ (cls4 B0.out) (fun hHeld => ?_)
  clear hK K
  try simp only [Act.put, lA, lB, lC]
  refine wpAnyH_ready (rs := [7, 8]) (by kernel_rfl) (by simp) ?_
  refine (AllReadyH.cons (o := _) (by simp only [hA, hB, hC]; rfl) (fun K hK => ?_) (AllReadyH.cons (o := _) (by simp only [hA, hB, hC]; rfl) (fun K hK => ?_) AllReadyH.nil))
  ·
   refine Ku Jq flat_Cond info_T_Cond Tryz.underlying47 rfl rfl (.tmp 7) (.tmp 9) rfl (fun b => b = W.heap.size) (fun b => (fun b => b = W.heap.size) b ∨ b = V1.heap.size) _ _ [] x2 rfl rfl P2.out (Jc Jq H2.out d.out) (fun b h => Or.inl h) (Or.inr rfl) (by have := N2.out; simp; omega) ?_
   intro u V2 oB tB
   rw [List.nil_append] at oB
   obtain ⟨ua2, uc2, rfl⟩ := Js oB
   have y0 := Y_W.out
   have y1 := Y_2.out
   have yd : w.heap.size ≤ V1.heap.size := d.out.size
   replace B0 := zB tB B0 (fun h => by have r2 := Q2.out _ h; omega)
   replace B1 := zB tB B1 (fun h => by have r2 := Q2.out _ h; omega)
   replace d := hd (Jr d.out tB (fun b h => by have r2 := Q2.out _ h; omega) (by omega))
   have Z_V2 := hd (show V1.heap.size ≤ V2.heap.size from tB.size)
   clear yd y0 y1
   replace P2 := hd (Ki Jq oB)
   replace Q2 := hd (fun b (h : ((fun b => b = W.heap.size) b ∨ b = V1.heap.size) ∧ b < V2.heap.size) => (show (b = W.heap.size ∨ b = V1.heap.size) ∧ b < V2.heap.size from h))
   clear oB tB
   refine hK.out _ _ (cls4 B0.out) (fun hHeld => ?_)
   clear hK K
   try simp only [Act.put, lA, lB, lC]
   refine rA 8 (fun K hK => ?_)
   go_simp
   have hal : Below V2 V2 (V2.alloc (.cells #[] 3)) := (Eh _ _).alloc (Ed _) _
   have Y_3 := hd (show V2.heap.size < (V2.alloc (.cells #[] 3)).heap.size by show V2.heap.size < (V2.alloc (.cells #[] 3)).heap.size; simp [Ux])
   replace B0 := zb hal B0
   replace B1 := zb hal B1
   replace P2 := zf Jq P2 hal
   replace d := zD d hal
   have P3 := hd (Vp (T := Jf) V2 3 (fun b => b = V2.heap.size) rfl)
   have Q3 := hd (fun b (h : b = V2.heap.size) => h)
   clear hal
   generalize (V2.alloc (.cells #[] 3)) = V3 at *
   refine hK.out _ _ (cls4 B0.out) (fun hHeld => ?_)
   clear hK K
   try simp only [Act.put, lA, lB, lC]
   refine rA 11 (fun K hK => ?_)
   refine Ku Jb Yw Vq Tryz.underlying25 rfl rfl (.tmp 11) (.tmp 13) rfl (fun b => b = V2.heap.size) (fun b => (fun b => b = V2.heap.size) b ∨ b = V3.heap.size) _ _ [] x3 rfl rfl P3.out (Jc Jb H3.out d.out) (fun b h => Or.inl h) (Or.inr rfl) (by have := N3.out; simp; omega) ?_
   intro u V4 oB tB
   rw [List.nil_append] at oB
   obtain ⟨ua3, uc3, rfl⟩ := Js oB
   have y0 := Y_W.out
   have y1 := Y_2.out
   have y2 := Z_V2.out
   have y3 := Y_3.out
   have yd : w.heap.size ≤ V3.heap.size := d.out.size
   replace B0 := zB tB B0 (fun h => by have r2 := Q3.out _ h; omega)
   replace B1 := zB tB B1 (fun h => by have r2 := Q3.out _ h; omega)
   replace P2 := zt Jq P2 tB (fun b h1 h2 => by have r1 := Q2.out b h1; have r2 := Q3.out _ h2; omega)
   replace d := hd (Jr d.out tB (fun b h => by have r2 := Q3.out _ h; omega) (by omega))
   have Z_V4 := hd (show V3.heap.size ≤ V4.heap.size from tB.size)
   clear yd y0 y1 y2 y3
   replace P3 := hd (Ki Jb oB)
   replace Q3 := hd (fun b (h : ((fun b => b = V2.heap.size) b ∨ b = V3.heap.size) ∧ b < V4.heap.size) => (show (b = V2.heap.size ∨ b = V3.heap.size) ∧ b < V4.heap.size from h))
   clear oB tB
   refine hK.out _ _ (cls4 B0.out) (fun hHeld => ?_)
   clear hK K
   try simp only [Act.put, lA, lB, lC]
   refine tQ (i := 12) ?_
   try simp only [Act.put, lA, lB, lC]
   refine rA 13 (fun K hK => ?_)
   have cp_B1_0 := cls4 B1.out
   have f_B1_0 := Ut V4 _ 0 _ _ B1.out
   have f_B1_1 := Ut V4 _ 1 _ _ B1.out
   have f_B1_2 := Ut V4 _ 2 _ _ B1.out
   have f_B1_3 := Ut V4 _ 3 _ _ B1.out
   go_simp
   clear cp_B1_0 f_B1_0 f_B1_1 f_B1_2 f_B1_3
   have tt := (((((Jy.refl (fun b => b = w.heap.size + 1) V4).trans (Jh (G := fun b => b = w.heap.size + 1) (g := w.heap.size + 1) (j := 0) (u := .int .i64 a0) rfl)).trans (Jh (G := fun b => b = w.heap.size + 1) (g := w.heap.size + 1) (j := 1) (u := .int .i64 a1) rfl)).trans (Jh (G := fun b => b = w.heap.size + 1) (g := w.heap.size + 1) (j := 2) (u := .slice ua2 x2.length uc2) rfl)).trans (Jh (G := fun b => b = w.heap.size + 1) (g := w.heap.size + 1) (j := 3) (u := .slice ua3 x3.length uc3) rfl))
   have r := st4 B1.out a0 a1 (.slice ua2 x2.length uc2) (.slice ua3 x3.length uc3)
   have e0 := Uu _ _ 0 _ _ _ r
   have e1 := Uu _ _ 1 _ _ _ r
   have e2 := Uu _ _ 2 _ _ _ r
   have e3 := Uu _ _ 3 _ _ _ r
   simp at e0 e1 e2 e3
   clear r
   have y0 := Y_W.out
   have y1 := Y_2.out
   have y2 := Z_V2.out
   have y3 := Y_3.out
   have y4 := Z_V4.out
   replace B0 := zB tt B0 (fun h => by omega)
   replace P2 := zt Jq P2 tt (fun b h1 h2 => by have r1 := Q2.out b h1; omega)
   replace P3 := zt Jb P3 tt (fun b h1 h2 => by have r1 := Q3.out b h1; omega)
   replace d := hd (Jr d.out tt (fun b h => by omega) d.out.size)
   clear tt y0 y1 y2 y3 y4
   generalize ((((V4.setCell ⟨w.heap.size + 1, 0, none⟩ a0).setCell ⟨w.heap.size + 1, 1, none⟩ a1).setCell ⟨w.heap.size + 1, 2, none⟩ (.slice ua2 x2.length uc2)).setCell ⟨w.heap.size + 1, 3, none⟩ (.slice ua3 x3.length uc3)) = V5 at *
   refine hK.out _ _ (cls4 B0.out) (fun hHeld => ?_)
   clear hK K
   try simp only [Act.put, lA, lB, lC]
   refine wpAnyH_done (by kernel_rfl) ?_ _
   clear hHeld
   go_wp2
   refine bodyPost_ret (v := .agg #[a0, a1, .slice ua2 x2.length uc2, .slice ua3 x3.length uc3]) ?_ rfl ?_
   ·
    simp [results, Tryz.f42, go_sem, e0, e1, e2, e3]
   have y0 := Y_W.out
   have y1 := Y_2.out
   have y2 := Z_V2.out
   have y3 := Y_3.out
   have y4 := Z_V4.out
   exact ⟨[a0, a1, .slice ua2 x2.length uc2, .slice ua3 x3.length uc3], rfl, tQuery_mkO P2.out P3.out (fun b h => by have r1 := Q2.out b h; show w.heap.size ≤ b; omega) (fun b h => by have r1 := Q3.out b h; show w.heap.size ≤ b; omega) (fun b h1 h2 => by have r1 := Q2.out b h1; have r2 := Q3.out b h2; omega), d.out⟩
  ·
   go_simp
   have hal : Below V1 V1 (V1.alloc (.cells #[] 3)) := (Eh _ _).alloc (Ed _) _
   have Y_3 := hd (show V1.heap.size < (V1.alloc (.cells #[] 3)).heap.size by show V1.heap.size < (V1.alloc (.cells #[] 3)).heap.size; simp [Ux])
   replace B0 := zb hal B0
   replace B1 := zb hal B1
   replace P2 := zf Jq P2 hal
   replace d := zD d hal
   have P3 := hd (Vp (T := Jf) V1 3 (fun b => b = V1.heap.size) rfl)
   have Q3 := hd (fun b (h : b = V1.heap.size) => h)
   clear hal
   generalize (V1.alloc (.cells #[] 3)) = V2 at *
   refine hK.out _ _ (cls4 B0.out) (fun hHeld => ?_)
   clear hK K
   try simp only [Act.put, lA, lB, lC]
   refine rA 7 (fun K hK => ?_)
   refine Ku Jq flat_Cond info_T_Cond Tryz.underlying47 rfl rfl (.tmp 7) (.tmp 9) rfl (fun b => b = W.heap.size) (fun b => (fun b => b = W.heap.size) b ∨ b = V2.heap.size) _ _ [] x2 rfl rfl P2.out (Jc Jq H2.out d.out) (fun b h => Or.inl h) (Or.inr rfl) (by have := N2.out; simp; omega) ?_
   intro u V3 oB tB
   rw [List.nil_append] at oB
   obtain ⟨ua2, uc2, rfl⟩ := Js oB
   have y0 := Y_W.out
   have y1 := Y_2.out
   have y2 := Y_3.out
   have yd : w.heap.size ≤ V2.heap.size := d.out.size
   replace B0 := zB tB B0 (fun h => by have r2 := Q2.out _ h; omega)
   replace B1 := zB tB B1 (fun h => by have r2 := Q2.out _ h; omega)
   replace P3 := zt Jb P3 tB (fun b h1 h2 => by have r1 := Q3.out b h1; have r2 := Q2.out _ h2; omega)
   replace d := hd (Jr d.out tB (fun b h => by have r2 := Q2.out _ h; omega) (by omega))
   have Z_V3 := hd (show V2.heap.size ≤ V3.heap.size from tB.size)
   clear yd y0 y1 y2
   replace P2 := hd (Ki Jq oB)
   replace Q2 := hd (fun b (h : ((fun b => b = W.heap.size) b ∨ b = V2.heap.size) ∧ b < V3.heap.size) => (show (b = W.heap.size ∨ b = V2.heap.size) ∧ b < V3.heap.size from h))
   clear oB tB
   refine hK.out _ _ (cls4 B0.out) (fun hHeld => ?_)
   clear hK K
   try simp only [Act.put, lA, lB, lC]
   refine rA 11 (fun K hK => ?_)
   refine Ku Jb Yw Vq Tryz.underlying25 rfl rfl (.tmp 11) (.tmp 13) rfl (fun b => b = V1.heap.size) (fun b => (fun b => b = V1.heap.size) b ∨ b = V3.heap.size) _ _ [] x3 rfl rfl P3.out (Jc Jb H3.out d.out) (fun b h => Or.inl h) (Or.inr rfl) (by have := N3.out; simp; omega) ?_
   intro u V4 oB tB
   rw [List.nil_append] at oB
   obtain ⟨ua3, uc3, rfl⟩ := Js oB
   have y0 := Y_W.out
   have y1 := Y_2.out
   have y2 := Y_3.out
   have y3 := Z_V3.out
   have yd : w.heap.size ≤ V3.heap.size := d.out.size
   replace B0 := zB tB B0 (fun h => by have r2 := Q3.out _ h; omega)
   replace B1 := zB tB B1 (fun h => by have r2 := Q3.out _ h; omega)
   replace P2 := zt Jq P2 tB (fun b h1 h2 => by have r1 := Q2.out b h1; have r2 := Q3.out _ h2; omega)
   replace d := hd (Jr d.out tB (fun b h => by have r2 := Q3.out _ h; omega) (by omega))
   have Z_V4 := hd (show V3.heap.size ≤ V4.heap.size from tB.size)
   clear yd y0 y1 y2 y3
   replace P3 := hd (Ki Jb oB)
   replace Q3 := hd (fun b (h : ((fun b => b = V1.heap.size) b ∨ b = V3.heap.size) ∧ b < V4.heap.size) => (show (b = V1.heap.size ∨ b = V3.heap.size) ∧ b < V4.heap.size from h))
   clear oB tB
   refine hK.out _ _ (cls4 B0.out) (fun hHeld => ?_)
   clear hK K
   try simp only [Act.put, lA, lB, lC]
   refine tQ (i := 12) ?_
   try simp only [Act.put, lA, lB, lC]
   refine rA 13 (fun K hK => ?_)
   have cp_B1_0 := cls4 B1.out
   have f_B1_0 := Ut V4 _ 0 _ _ B1.out
   have f_B1_1 := Ut V4 _ 1 _ _ B1.out
   have f_B1_2 := Ut V4 _ 2 _ _ B1.out
   have f_B1_3 := Ut V4 _ 3 _ _ B1.out
   go_simp
   clear cp_B1_0 f_B1_0 f_B1_1 f_B1_2 f_B1_3
   have tt := (((((Jy.refl (fun b => b = w.heap.size + 1) V4).trans (Jh (G := fun b => b = w.heap.size + 1) (g := w.heap.size + 1) (j := 0) (u := .int .i64 a0) rfl)).trans (Jh (G := fun b => b = w.heap.size + 1) (g := w.heap.size + 1) (j := 1) (u := .int .i64 a1) rfl)).trans (Jh (G := fun b => b = w.heap.size + 1) (g := w.heap.size + 1) (j := 2) (u := .slice ua2 x2.length uc2) rfl)).trans (Jh (G := fun b => b = w.heap.size + 1) (g := w.heap.size + 1) (j := 3) (u := .slice ua3 x3.length uc3) rfl))
   have r := st4 B1.out a0 a1 (.slice ua2 x2.length uc2) (.slice ua3 x3.length uc3)
   have e0 := Uu _ _ 0 _ _ _ r
   have e1 := Uu _ _ 1 _ _ _ r
   have e2 := Uu _ _ 2 _ _ _ r
   have e3 := Uu _ _ 3 _ _ _ r
   simp at e0 e1 e2 e3
   clear r
   have y0 := Y_W.out
   have y1 := Y_2.out
   have y2 := Y_3.out
   have y3 := Z_V3.out
   have y4 := Z_V4.out
   replace B0 := zB tt B0 (fun h => by omega)
   replace P2 := zt Jq P2 tt (fun b h1 h2 => by have r1 := Q2.out b h1; omega)
   replace P3 := zt Jb P3 tt (fun b h1 h2 => by have r1 := Q3.out b h1; omega)
   replace d := hd (Jr d.out tt (fun b h => by omega) d.out.size)
   clear tt y0 y1 y2 y3 y4
   generalize ((((V4.setCell ⟨w.heap.size + 1, 0, none⟩ a0).setCell ⟨w.heap.size + 1, 1, none⟩ a1).setCell ⟨w.heap.size + 1, 2, none⟩ (.slice ua2 x2.length uc2)).setCell ⟨w.heap.size + 1, 3, none⟩ (.slice ua3 x3.length uc3)) = V5 at *
   refine hK.out _ _ (cls4 B0.out) (fun hHeld => ?_)
   clear hK K
   try simp only [Act.put, lA, lB, lC]
   refine wpAnyH_done (by kernel_rfl) ?_ _
   clear hHeld
   go_wp2
   refine bodyPost_ret (v := .agg #[a0, a1, .slice ua2 x2.length uc2, .slice ua3 x3.length uc3]) ?_ rfl ?_
   ·
    simp [results, Tryz.f42, go_sem, e0, e1, e2, e3]
   have y0 := Y_W.out
   have y1 := Y_2.out
   have y2 := Y_3.out
   have y3 := Z_V3.out
   have y4 := Z_V4.out
   exact ⟨[a0, a1, .slice ua2 x2.length uc2, .slice ua3 x3.length uc3], rfl, tQuery_mkO P2.out P3.out (fun b h => by have r1 := Q2.out b h; show w.heap.size ≤ b; omega) (fun b h => by have r1 := Q3.out b h; show w.heap.size ≤ b; omega) (fun b h1 h2 => by have r1 := Q2.out b h1; have r2 := Q3.out b h2; omega), d.out⟩
 ·
  go_simp
  have hal : Below W (W.drew) (W.alloc (.cells #[] 3)).drew := ⟨rfl, rfl, rfl, by show W.heap.size ≤ (W.alloc (.cells #[] 3)).heap.size; simp [Ux], fun k hk => Below.heap_alloc W _ k hk⟩
  have Y_3 := hd (show W.heap.size < (W.alloc (.cells #[] 3)).drew.heap.size by show W.heap.size < (W.alloc (.cells #[] 3)).heap.size; simp [Ux])
  replace B0 := zb hal B0
  replace B1 := zb hal B1
  replace d := zD d hal
  have P3 := hd (Kq Jb (Vp (T := Jf) W 3 (fun b => b = W.heap.size) rfl) (Ke (Eh _ _)))
  have Q3 := hd (fun b (h : b = W.heap.size) => h)
  clear hal
  generalize (W.alloc (.cells #[] 3)).drew = V1 at *
  refine hK.out _ _ (cls4 B0.out) (fun hHeld => ?_)
  clear hK K
  try simp only [Act.put, lA, lB, lC]
  refine rA 4 (fun K hK => ?_)
  go_simp
  have hal : Below V1 V1 (V1.alloc (.cells #[] 145)) := (Eh _ _).alloc (Ed _) _
  have Y_2 := hd (show V1.heap.size < (V1.alloc (.cells #[] 145)).heap.size by show V1.heap.size < (V1.alloc (.cells #[] 145)).heap.size; simp [Ux])
  replace B0 := zb hal B0
  replace B1 := zb hal B1
  replace P3 := zf Jb P3 hal
  replace d := zD d hal
  have P2 := hd (Vp (T := Jl) V1 145 (fun b => b = V1.heap.size) rfl)
  have Q2 := hd (fun b (h : b = V1.heap.size) => h)
  clear hal
  generalize (V1.alloc (.cells #[] 145)) = V2 at *
  refine hK.out _ _ (cls4 B0.out) (fun hHeld => ?_)
  clear hK K
  try simp only [Act.put, lA, lB, lC]
  refine rA 7 (fun K hK => ?_)
  refine Ku Jq flat_Cond info_T_Cond Tryz.underlying47 rfl rfl (.tmp 7) (.tmp 9) rfl (fun b => b = V1.heap.size) (fun b => (fun b => b = V1.heap.size) b ∨ b = V2.heap.size) _ _ [] x2 rfl rfl P2.out (Jc Jq H2.out d.out) (fun b h => Or.inl h) (Or.inr rfl) (by have := N2.out; simp; omega) ?_
  intro u V3 oB tB
  rw [List.nil_append] at oB
  obtain ⟨ua2, uc2, rfl⟩ := Js oB
  have y0 := Y_W.out
  have y1 := Y_3.out
  have y2 := Y_2.out
  have yd : w.heap.size ≤ V2.heap.size := d.out.size
  replace B0 := zB tB B0 (fun h => by have r2 := Q2.out _ h; omega)
  replace B1 := zB tB B1 (fun h => by have r2 := Q2.out _ h; omega)
  replace P3 := zt Jb P3 tB (fun b h1 h2 => by have r1 := Q3.out b h1; have r2 := Q2.out _ h2; omega)
  replace d := hd (Jr d.out tB (fun b h => by have r2 := Q2.out _ h; omega) (by omega))
  have Z_V3 := hd (show V2.heap.size ≤ V3.heap.size from tB.size)
  clear yd y0 y1 y2
  replace P2 := hd (Ki Jq oB)
  replace Q2 := hd (fun b (h : ((fun b => b = V1.heap.size) b ∨ b = V2.heap.size) ∧ b < V3.heap.size) => (show (b = V1.heap.size ∨ b = V2.heap.size) ∧ b < V3.heap.size from h))
  clear oB tB
  refine hK.out _ _ (cls4 B0.out) (fun hHeld => ?_)
  clear hK K
  try simp only [Act.put, lA, lB, lC]
  refine rA 11 (fun K hK => ?_)
  refine Ku Jb Yw Vq Tryz.underlying25 rfl rfl (.tmp 11) (.tmp 13) rfl (fun b => b = W.heap.size) (fun b => (fun b => b = W.heap.size) b ∨ b = V3.heap.size) _ _ [] x3 rfl rfl P3.out (Jc Jb H3.out d.out) (fun b h => Or.inl h) (Or.inr rfl) (by have := N3.out; simp; omega) ?_
  intro u V4 oB tB
  rw [List.nil_append] at oB
  obtain ⟨ua3, uc3, rfl⟩ := Js oB
  have y0 := Y_W.out
  have y1 := Y_3.out
  have y2 := Y_2.out
  have y3 := Z_V3.out
  have yd : w.heap.size ≤ V3.heap.size := d.out.size
  replace B0 := zB tB B0 (fun h => by have r2 := Q3.out _ h; omega)
  replace B1 := zB tB B1 (fun h => by have r2 := Q3.out _ h; omega)
  replace P2 := zt Jq P2 tB (fun b h1 h2 => by have r1 := Q2.out b h1; have r2 := Q3.out _ h2; omega)
  replace d := hd (Jr d.out tB (fun b h => by have r2 := Q3.out _ h; omega) (by omega))
  have Z_V4 := hd (show V3.heap.size ≤ V4.heap.size from tB.size)
  clear yd y0 y1 y2 y3
  replace P3 := hd (Ki Jb oB)
  replace Q3 := hd (fun b (h : ((fun b => b = W.heap.size) b ∨ b = V3.heap.size) ∧ b < V4.heap.size) => (show (b = W.heap.size ∨ b = V3.heap.size) ∧ b < V4.heap.size from h))
  clear oB tB
  refine hK.out _ _ (cls4 B0.out) (fun hHeld => ?_)
  clear hK K
  try simp only [Act.put, lA, lB, lC]
  refine tQ (i := 12) ?_
  try simp only [Act.put, lA, lB, lC]
  refine rA 13 (fun K hK => ?_)
  have cp_B1_0 := cls4 B1.out
  have f_B1_0 := Ut V4 _ 0 _ _ B1.out
  have f_B1_1 := Ut V4 _ 1 _ _ B1.out
  have f_B1_2 := Ut V4 _ 2 _ _ B1.out
  have f_B1_3 := Ut V4 _ 3 _ _ B1.out
  go_simp
  clear cp_B1_0 f_B1_0 f_B1_1 f_B1_2 f_B1_3
  have tt := (((((Jy.refl (fun b => b = w.heap.size + 1) V4).trans (Jh (G := fun b => b = w.heap.size + 1) (g := w.heap.size + 1) (j := 0) (u := .int .i64 a0) rfl)).trans (Jh (G := fun b => b = w.heap.size + 1) (g := w.heap.size + 1) (j := 1) (u := .int .i64 a1) rfl)).trans (Jh (G := fun b => b = w.heap.size + 1) (g := w.heap.size + 1) (j := 2) (u := .slice ua2 x2.length uc2) rfl)).trans (Jh (G := fun b => b = w.heap.size + 1) (g := w.heap.size + 1) (j := 3) (u := .slice ua3 x3.length uc3) rfl))
  have r := st4 B1.out a0 a1 (.slice ua2 x2.length uc2) (.slice ua3 x3.length uc3)
  have e0 := Uu _ _ 0 _ _ _ r
  have e1 := Uu _ _ 1 _ _ _ r
  have e2 := Uu _ _ 2 _ _ _ r
  have e3 := Uu _ _ 3 _ _ _ r
  simp at e0 e1 e2 e3
  clear r
  have y0 := Y_W.out
  have y1 := Y_3.out
  have y2 := Y_2.out
  have y3 := Z_V3.out
  have y4 := Z_V4.out
  replace B0 := zB tt B0 (fun h => by omega)
  replace P3 := zt Jb P3 tt (fun b h1 h2 => by have r1 := Q3.out b h1; omega)
  replace P2 := zt Jq P2 tt (fun b h1 h2 => by have r1 := Q2.out b h1; omega)
  replace d := hd (Jr d.out tt (fun b h => by omega) d.out.size)
  clear tt y0 y1 y2 y3 y4
  generalize ((((V4.setCell ⟨w.heap.size + 1, 0, none⟩ a0).setCell ⟨w.heap.size + 1, 1, none⟩ a1).setCell ⟨w.heap.size + 1, 2, none⟩ (.slice ua2 x2.length uc2)).setCell ⟨w.heap.size + 1, 3, none⟩ (.slice ua3 x3.length uc3)) = V5 at *
  refine hK.out _ _ (cls4 B0.out) (fun hHeld => ?_)
  clear hK K
  try simp only [Act.put, lA, lB, lC]
  refine wpAnyH_done (by kernel_rfl) ?_ _
  clear hHeld
  go_wp2
  refine bodyPost_ret (v := .agg #[a0, a1, .slice ua2 x2.length uc2, .slice ua3 x3.length uc3]) ?_ rfl ?_
  ·
   simp [results, Tryz.f42, go_sem, e0, e1, e2, e3]
  have y0 := Y_W.out
  have y1 := Y_3.out
  have y2 := Y_2.out
  have y3 := Z_V3.out
  have y4 := Z_V4.out
  exact ⟨[a0, a1, .slice ua2 x2.length uc2, .slice ua3 x3.length uc3], rfl, tQuery_mkO P2.out P3.out (fun b h => by have r1 := Q2.out b h; show w.heap.size ≤ b; omega) (fun b h => by have r1 := Q3.out b h; show w.heap.size ≤ b; omega) (fun b h1 h2 => by have r1 := Q2.out b h1; have r2 := Q3.out b h2; omega), d.out⟩
/-- Which operation a goal is about. -/
inductive Tok : Nat → Prop
 | mk (i : Nat) : Tok i
section
variable {P : Program} {md : Region.Mode} {ops : Array Oper} {Q : Exit → Act → World → Prop} {S : World → Prop} {fuel : Nat} {listed : Array Bool} {a : Act} {w : World}
theorem uA {α : Type} (xs : List α) (i : Nat) : xs.toArray[i]? = xs[i]? := List.getElem?_toArray
theorem uB {α : Type} (a : α) (l : List α) (i : Nat) : (a :: l)[i + 1]? = l[i]? := List.getElem?_cons_succ
theorem uC {α : Type} (a : α) (l : List α) : (a :: l)[0]? = some a := List.getElem?_cons_zero
theorem uQ (i : Nat) {oi : Oper} {d : Option Tmp} {v : Value} (h : wpAnyH P md ops Q S fuel (listed.setIfInBounds i true) (a.put d v) w) (hr : (Region.ready md ops listed).contains i = true := by decide +kernel)
  (hi : ops[i]? = some oi := by (simp only [uA, uB, uC]; rfl)) (hs : Region.noSelect ops = true := by kernel_rfl) (hf : Region.free md ops listed i = true := by kernel_rfl) (hdx : oi.dst = d := by rfl)
  (hQ : ∀ c a w, Q (.panic c) (a.put oi.dst v) w → Q (.panic c) a w := by exact fun _ _ _ h => h) (hw : Region.wanted oi (yielded ops a.tmps) = true := by rfl) (hS : S w := by assumption)
  (hy : ∀ w, S w → (execOp a.eval oi).run P w = .ok (.value v) w := by (intro w hSw; (try dsimp only at hSw); go_simp; try (with_reducible rfl))) : wpAnyH P md ops Q S (fuel + 1) listed a w := take_runs hi hs hf hr hdx hQ hw hy hS h
theorem u1 (i : Nat) {o : Oper} (h : ∀ K' : Act → World → Prop, Shut (∀ a w, S w → (S w → wpAnyH P md ops Q S fuel (listed.setIfInBounds i true) a w) → K' a w) → Tok i → if Region.wanted o (yielded ops a.tmps) = true then Oper.wp P o a w K' Q else K' (a.put o.dst undef) w)
  (hr : Region.ready md ops listed = [i] := by decide +kernel) (ho : ops[i]? = some o := by (simp only [uA, uB, uC]; rfl)) : wpAnyH P md ops Q S (fuel + 1) listed a w :=
 wpAnyH_ready hr (by simp) (AllReadyH.cons ho (fun K hK => h K hK (.mk i)) AllReadyH.nil)
theorem u2 (i j : Nat) {o p : Oper} (h : ∀ K' : Act → World → Prop, Shut (∀ a w, S w → (S w → wpAnyH P md ops Q S fuel (listed.setIfInBounds i true) a w) → K' a w) → Tok i → if Region.wanted o (yielded ops a.tmps) = true then Oper.wp P o a w K' Q else K' (a.put o.dst undef) w)
  (g : ∀ K' : Act → World → Prop, Shut (∀ a w, S w → (S w → wpAnyH P md ops Q S fuel (listed.setIfInBounds j true) a w) → K' a w) → Tok j → if Region.wanted p (yielded ops a.tmps) = true then Oper.wp P p a w K' Q else K' (a.put p.dst undef) w)
  (hr : Region.ready md ops listed = [i, j] := by decide +kernel) (ho : ops[i]? = some o := by (simp only [uA, uB, uC]; rfl)) (hp : ops[j]? = some p := by (simp only [uA, uB, uC]; rfl)) : wpAnyH P md ops Q S (fuel + 1) listed a w :=
 wpAnyH_ready hr (by simp) (AllReadyH.cons ho (fun K hK => h K hK (.mk i)) (AllReadyH.cons hp (fun K hK => g K hK (.mk j)) AllReadyH.nil))
theorem u3 (i j k : Nat) {o p q : Oper} (h : ∀ K' : Act → World → Prop, Shut (∀ a w, S w → (S w → wpAnyH P md ops Q S fuel (listed.setIfInBounds i true) a w) → K' a w) → Tok i → if Region.wanted o (yielded ops a.tmps) = true then Oper.wp P o a w K' Q else K' (a.put o.dst undef) w)
  (g : ∀ K' : Act → World → Prop, Shut (∀ a w, S w → (S w → wpAnyH P md ops Q S fuel (listed.setIfInBounds j true) a w) → K' a w) → Tok j → if Region.wanted p (yielded ops a.tmps) = true then Oper.wp P p a w K' Q else K' (a.put p.dst undef) w)
  (f : ∀ K' : Act → World → Prop, Shut (∀ a w, S w → (S w → wpAnyH P md ops Q S fuel (listed.setIfInBounds k true) a w) → K' a w) → Tok k → if Region.wanted q (yielded ops a.tmps) = true then Oper.wp P q a w K' Q else K' (a.put q.dst undef) w)
  (hr : Region.ready md ops listed = [i, j, k] := by decide +kernel) (ho : ops[i]? = some o := by (simp only [uA, uB, uC]; rfl)) (hp : ops[j]? = some p := by (simp only [uA, uB, uC]; rfl)) (hq : ops[k]? = some q := by (simp only [uA, uB, uC]; rfl)) : wpAnyH P md ops Q S (fuel + 1) listed a w :=
 wpAnyH_ready hr (by simp) (AllReadyH.cons ho (fun K hK => h K hK (.mk i)) (AllReadyH.cons hp (fun K hK => g K hK (.mk j)) (AllReadyH.cons hq (fun K hK => f K hK (.mk k)) AllReadyH.nil)))
theorem uZ (h : Q .normal a w) (hr : Region.ready md ops listed = [] := by decide +kernel) : wpAnyH P md ops Q S fuel listed a w := wpAnyH_done hr h _
end
set_option maxHeartbeats 16000000 in
theorem copy_l10Copy (a0 a1 : Int) (v2 v3 v4 : Value) (x2 : List Int) (x3 : List Int) (x4 : List Int) (w : World) (h2 : Kc Jf w v2 x2) (h3 : Kc Jf w v3 x3) (h4 : Kc Jf w v4 x4) (s2 : zL Jf x2 ≤ 1048576) (s3 : zL Jf x3 ≤ 1048576) (s4 : zL Jf x4 ≤ 1048576) :
  Calls Tryz.prog 88 #[.agg #[a0, a1, v2, v3, v4]] w (Yc Jp (fun cs => .agg cs.toArray) w (a0, a1, x2, x3, x4)) := by
 obtain ⟨c2, k2, rfl⟩ := Jo h2
 obtain ⟨c3, k3, rfl⟩ := Jo h3
 obtain ⟨c4, k4, rfl⟩ := Jo h4
 have H2 := hd h2; have N2 := hd (Jz s2)
 have H3 := hd h3; have N3 := hd (Jz s3)
 have H4 := hd h4; have N4 := hd (Jz s4)
 clear h2 s2 h3 s3 h4 s4
 have d := hd (show Below w w ((w.alloc (.cells #[a0, a1, .slice c2 x2.length k2, .slice c3 x3.length k3, .slice c4 x4.length k4] 137)).alloc (.cells #[Ja, Ja, (), (), ()] 137)) from ((Eh _ w).alloc (Ed _) _).alloc (by simp) _)
 have B1 : Hid (((w.alloc (.cells #[a0, a1, .slice c2 x2.length k2, .slice c3 x3.length k3, .slice c4 x4.length k4] 137)).alloc (.cells #[Ja, Ja, (), (), ()] 137)).heap[(w.heap.size + 1)]? = some (.cells #[Ja, Ja, (), (), ()] 137 (0, 0))) := hd (by
   have := Uw (w.alloc (.cells #[a0, a1, .slice c2 x2.length k2, .slice c3 x3.length k3, .slice c4 x4.length k4] 137)) (.cells #[Ja, Ja, (), (), ()] 137)
   simpa only [Ux] using this)
 have B0 : Hid (((w.alloc (.cells #[a0, a1, .slice c2 x2.length k2, .slice c3 x3.length k3, .slice c4 x4.length k4] 137)).alloc (.cells #[Ja, Ja, (), (), ()] 137)).heap[w.heap.size]? = some (.cells #[a0, a1, .slice c2 x2.length k2, .slice c3 x3.length k3, .slice c4 x4.length k4] 137 (0, 0))) := hd (by
   rw [Below.heap_alloc _ _ _ (by simp)]
   exact Uw w _)
 have z : w.heap.size + 2 ≤ ((w.alloc (.cells #[a0, a1, .slice c2 x2.length k2, .slice c3 x3.length k3, .slice c4 x4.length k4] 137)).alloc (.cells #[Ja, Ja, (), (), ()] 137)).heap.size := by simp [Ux]
 have Zz := hd z
 clear z
 go_enter Tryz.func88, Tryz.ntmps88
 go_wp2
 generalize ((w.alloc (.cells #[a0, a1, .slice c2 x2.length k2, .slice c3 x3.length k3, .slice c4 x4.length k4] 137)).alloc (.cells #[Ja, Ja, (), (), ()] 137)) = wc at *
 refine wp_region_held_drew (S := fun w' => w'.cell? ⟨w, 0, none⟩ = some (Value.int .i64 a0) ∧ w'.cell? ⟨w, 1, none⟩ = some (Value.int .i64 a1) ∧ w'.cell? ⟨w, 2, none⟩ = some (Value.slice c2 x2.length k2) ∧ w'.cell? ⟨w, 3, none⟩ = some (Value.slice c3 x3.length k3) ∧ w'.cell? ⟨w, 4, none⟩ = some (Value.slice c4 x4.length k4)) (by kernel_rfl) ⟨Uu wc _ 0 _ _ _ B0.out, Uu wc _ 1 _ _ _ B0.out, Uu wc _ 2 _ _ _ B0.out, Uu wc _ 3 _ _ _ B0.out, Uu wc _ 4 _ _ _ B0.out⟩ (fun hHeld => ?_)
 have hdr : Below wc wc wc.drew := Ke (Eh _ _)
 have z : w.heap.size + 2 ≤ wc.drew.heap.size := Zz.out
 replace d := zd d hdr (by have := Zz.out; omega)
 replace B0 := zb hdr B0
 replace B1 := zb hdr B1
 clear hdr Zz
 generalize wc.drew = wc at *
 refine uQ 0 ?_
 try simp only [Act.put, lA, lB, lC]
 refine uQ 1 ?_
 try simp only [Act.put, lA, lB, lC]
 refine uQ 2 ?_
 try simp only [Act.put, lA, lB, lC]
 refine uQ 3 ?_
 try simp only [Act.put, lA, lB, lC]
 refine uQ 5 ?_
 try simp only [Act.put, lA, lB, lC]
 refine uQ 6 ?_
 try simp only [Act.put, lA, lB, lC]
 refine uQ 9 ?_
 try simp only [Act.put, lA, lB, lC]
 refine uQ 10 ?_
 try simp only [Act.put, lA, lB, lC]
 refine uQ 13 ?_
 try simp only [Act.put, lA, lB, lC]
 refine uQ 14 ?_
 try simp only [Act.put, lA, lB, lC]
 repeat' first
  | (have t := ‹Tok 4›
     clear tk t
     go_simp
     have hal := zal wc (.cells #[] 3)
     have P2 := hd (Vp (T := Jf) wc 3 (fun b => b = wc.heap.size) rfl)
     have z := zs wc (.cells #[] 3)
     replace d := zd d hal (by omega)
     replace B0 := zb hal B0
     replace B1 := zb hal B1
     try replace P3 := zf Jb P3 hal
     try replace P4 := zf Jb P4 hal
     clear hal
     generalize wc.heap.size = g2 at *
     generalize (wc.alloc (.cells #[] 3)) = wc at *
     refine hK.out _ _ ⟨Uu _ _ 0 _ _ _ B0.out, Uu _ _ 1 _ _ _ B0.out, Uu _ _ 2 _ _ _ B0.out, Uu _ _ 3 _ _ _ B0.out, Uu _ _ 4 _ _ _ B0.out⟩ (fun hHeld => ?_)
     clear hK K
     try simp only [Act.put, lA, lB, lC])
  | (have t := ‹Tok 7›
     clear tk t
     refine Ku Jb Yw Vq Tryz.underlying25 rfl rfl (.tmp 7) (.tmp 9) rfl (fun b => b = g2) (fun b => b = g2 ∨ b = wc.heap.size) _ _ [] x2 rfl rfl P2.out (Jc Jb H2.out d.out) (fun b h => Or.inl h) (Or.inr rfl) (by have := N2.out; simp; omega) ?_
     intro u wn oB tB
     rw [List.nil_append] at oB
     obtain ⟨ua2, uc2, rfl⟩ := Js oB
     have z := tB.size
     replace d := hd (Jr d.out tB (fun b h => by (try dsimp only at h); omega) (by omega))
     replace B0 := zB tB B0 (fun h => by (try dsimp only at h); omega)
     replace B1 := zB tB B1 (fun h => by (try dsimp only at h); omega)
     try replace P3 := zt Jb P3 tB (fun b h1 h2 => by (try dsimp only at h1 h2); omega)
     try replace P4 := zt Jb P4 tB (fun b h1 h2 => by (try dsimp only at h1 h2); omega)
     replace P2 := hd (Ki Jb oB)
     clear oB tB
     generalize wc.heap.size = k2 at *
     rename World => wc
     refine hK.out _ _ ⟨Uu _ _ 0 _ _ _ B0.out, Uu _ _ 1 _ _ _ B0.out, Uu _ _ 2 _ _ _ B0.out, Uu _ _ 3 _ _ _ B0.out, Uu _ _ 4 _ _ _ B0.out⟩ (fun hHeld => ?_)
     clear hK K
     try simp only [Act.put, lA, lB, lC])
  | (have t := ‹Tok 8›
     clear tk t
     go_simp
     have hal := zal wc (.cells #[] 3)
     have P3 := hd (Vp (T := Jf) wc 3 (fun b => b = wc.heap.size) rfl)
     have z := zs wc (.cells #[] 3)
     replace d := zd d hal (by omega)
     replace B0 := zb hal B0
     replace B1 := zb hal B1
     try replace P2 := zf Jb P2 hal
     try replace P4 := zf Jb P4 hal
     clear hal
     generalize wc.heap.size = g3 at *
     generalize (wc.alloc (.cells #[] 3)) = wc at *
     refine hK.out _ _ ⟨Uu _ _ 0 _ _ _ B0.out, Uu _ _ 1 _ _ _ B0.out, Uu _ _ 2 _ _ _ B0.out, Uu _ _ 3 _ _ _ B0.out, Uu _ _ 4 _ _ _ B0.out⟩ (fun hHeld => ?_)
     clear hK K
     try simp only [Act.put, lA, lB, lC])
  | (have t := ‹Tok 11›
     clear tk t
     refine Ku Jb Yw Vq Tryz.underlying25 rfl rfl (.tmp 11) (.tmp 13) rfl (fun b => b = g3) (fun b => b = g3 ∨ b = wc.heap.size) _ _ [] x3 rfl rfl P3.out (Jc Jb H3.out d.out) (fun b h => Or.inl h) (Or.inr rfl) (by have := N3.out; simp; omega) ?_
     intro u wn oB tB
     rw [List.nil_append] at oB
     obtain ⟨ua3, uc3, rfl⟩ := Js oB
     have z := tB.size
     replace d := hd (Jr d.out tB (fun b h => by (try dsimp only at h); omega) (by omega))
     replace B0 := zB tB B0 (fun h => by (try dsimp only at h); omega)
     replace B1 := zB tB B1 (fun h => by (try dsimp only at h); omega)
     try replace P2 := zt Jb P2 tB (fun b h1 h2 => by (try dsimp only at h1 h2); omega)
     try replace P4 := zt Jb P4 tB (fun b h1 h2 => by (try dsimp only at h1 h2); omega)
     replace P3 := hd (Ki Jb oB)
     clear oB tB
     generalize wc.heap.size = k3 at *
     rename World => wc
     refine hK.out _ _ ⟨Uu _ _ 0 _ _ _ B0.out, Uu _ _ 1 _ _ _ B0.out, Uu _ _ 2 _ _ _ B0.out, Uu _ _ 3 _ _ _ B0.out, Uu _ _ 4 _ _ _ B0.out⟩ (fun hHeld => ?_)
     clear hK K
     try simp only [Act.put, lA, lB, lC])
  | (have t := ‹Tok 12›
     clear tk t
     go_simp
     have hal := zal wc (.cells #[] 3)
     have P4 := hd (Vp (T := Jf) wc 3 (fun b => b = wc.heap.size) rfl)
     have z := zs wc (.cells #[] 3)
     replace d := zd d hal (by omega)
     replace B0 := zb hal B0
     replace B1 := zb hal B1
     try replace P2 := zf Jb P2 hal
     try replace P3 := zf Jb P3 hal
     clear hal
     generalize wc.heap.size = g4 at *
     generalize (wc.alloc (.cells #[] 3)) = wc at *
     refine hK.out _ _ ⟨Uu _ _ 0 _ _ _ B0.out, Uu _ _ 1 _ _ _ B0.out, Uu _ _ 2 _ _ _ B0.out, Uu _ _ 3 _ _ _ B0.out, Uu _ _ 4 _ _ _ B0.out⟩ (fun hHeld => ?_)
     clear hK K
     try simp only [Act.put, lA, lB, lC])
  | (have t := ‹Tok 15›
     clear tk t
     refine Ku Jb Yw Vq Tryz.underlying25 rfl rfl (.tmp 15) (.tmp 17) rfl (fun b => b = g4) (fun b => b = g4 ∨ b = wc.heap.size) _ _ [] x4 rfl rfl P4.out (Jc Jb H4.out d.out) (fun b h => Or.inl h) (Or.inr rfl) (by have := N4.out; simp; omega) ?_
     intro u wn oB tB
     rw [List.nil_append] at oB
     obtain ⟨ua4, uc4, rfl⟩ := Js oB
     have z := tB.size
     replace d := hd (Jr d.out tB (fun b h => by (try dsimp only at h); omega) (by omega))
     replace B0 := zB tB B0 (fun h => by (try dsimp only at h); omega)
     replace B1 := zB tB B1 (fun h => by (try dsimp only at h); omega)
     try replace P2 := zt Jb P2 tB (fun b h1 h2 => by (try dsimp only at h1 h2); omega)
     try replace P3 := zt Jb P3 tB (fun b h1 h2 => by (try dsimp only at h1 h2); omega)
     replace P4 := hd (Ki Jb oB)
     clear oB tB
     generalize wc.heap.size = k4 at *
     rename World => wc
     refine hK.out _ _ ⟨Uu _ _ 0 _ _ _ B0.out, Uu _ _ 1 _ _ _ B0.out, Uu _ _ 2 _ _ _ B0.out, Uu _ _ 3 _ _ _ B0.out, Uu _ _ 4 _ _ _ B0.out⟩ (fun hHeld => ?_)
     clear hK K
     try simp only [Act.put, lA, lB, lC])
  | (have t := ‹Tok 17›
     clear tk t
     have q := (⟨Uu wc _ 0 _ _ _ B1.out, Uu wc _ 1 _ _ _ B1.out, Uu wc _ 2 _ _ _ B1.out, Uu wc _ 3 _ _ _ B1.out, Uu wc _ 4 _ _ _ B1.out⟩ : wc.cell? ⟨w.heap.size + 1, 0, none⟩ = some (Value.int .i64 0) ∧ wc.cell? ⟨w.heap.size + 1, 1, none⟩ = some (Value.int .i64 0) ∧ wc.cell? ⟨w.heap.size + 1, 2, none⟩ = some (Value.slice none 0 0) ∧ wc.cell? ⟨w.heap.size + 1, 3, none⟩ = some (Value.slice none 0 0) ∧ wc.cell? ⟨w.heap.size + 1, 4, none⟩ = some (Value.slice none 0 0))
     obtain ⟨q0, q1, q2, q3, q4⟩ := q
     have f0 := Ut wc _ 0 _ _ B1.out
     have f1 := Ut wc _ 1 _ _ B1.out
     have f2 := Ut wc _ 2 _ _ B1.out
     have f3 := Ut wc _ 3 _ _ B1.out
     have f4 := Ut wc _ 4 _ _ B1.out
     go_simp
     clear q0 f0 q1 f1 q2 f2 q3 f3 q4 f4
     have tt := ((((((Jy.refl (fun b => b = w.heap.size + 1) wc).trans (Jh (G := fun b => b = w.heap.size + 1) (g := w.heap.size + 1) (j := 0) (u := .int .i64 a0) rfl)).trans (Jh (G := fun b => b = w.heap.size + 1) (g := w.heap.size + 1) (j := 1) (u := .int .i64 a1) rfl)).trans (Jh (G := fun b => b = w.heap.size + 1) (g := w.heap.size + 1) (j := 2) (u := .slice ua2 x2.length uc2) rfl)).trans (Jh (G := fun b => b = w.heap.size + 1) (g := w.heap.size + 1) (j := 3) (u := .slice ua3 x3.length uc3) rfl)).trans (Jh (G := fun b => b = w.heap.size + 1) (g := w.heap.size + 1) (j := 4) (u := .slice ua4 x4.length uc4) rfl))
     have r := st5 B1.out a0 a1 (.slice ua2 x2.length uc2) (.slice ua3 x3.length uc3) (.slice ua4 x4.length uc4)
     have e0 := Uu _ _ 0 _ _ _ r
     have e1 := Uu _ _ 1 _ _ _ r
     have e2 := Uu _ _ 2 _ _ _ r
     have e3 := Uu _ _ 3 _ _ _ r
     have e4 := Uu _ _ 4 _ _ _ r
     simp at e0 e1 e2 e3 e4
     clear r
     replace B0 := zB tt B0 (fun h => by (try dsimp only at h); omega)
     replace P2 := zt Jb P2 tt (fun b h1 h2 => by (try dsimp only at h1 h2); omega)
     replace P3 := zt Jb P3 tt (fun b h1 h2 => by (try dsimp only at h1 h2); omega)
     replace P4 := zt Jb P4 tt (fun b h1 h2 => by (try dsimp only at h1 h2); omega)
     replace d := hd (Jr d.out tt (fun b h => by (try dsimp only at h); omega) d.out.size)
     clear tt B1
     generalize (((((wc.setCell ⟨w.heap.size + 1, 0, none⟩ a0).setCell ⟨w.heap.size + 1, 1, none⟩ a1).setCell ⟨w.heap.size + 1, 2, none⟩ (.slice ua2 x2.length uc2)).setCell ⟨w.heap.size + 1, 3, none⟩ (.slice ua3 x3.length uc3)).setCell ⟨w.heap.size + 1, 4, none⟩ (.slice ua4 x4.length uc4)) = wc at *
     refine hK.out _ _ ⟨Uu _ _ 0 _ _ _ B0.out, Uu _ _ 1 _ _ _ B0.out, Uu _ _ 2 _ _ _ B0.out, Uu _ _ 3 _ _ _ B0.out, Uu _ _ 4 _ _ _ B0.out⟩ (fun hHeld => ?_)
     clear hK K
     try simp only [Act.put, lA, lB, lC])
  | (refine uQ 16 ?_; try simp only [Act.put, lA, lB, lC])
  | (refine u3 4 8 12 ?_ ?_ ?_ <;> intro K hK tk)
  | (refine u2 4 8 ?_ ?_ <;> intro K hK tk)
  | (refine u1 4 ?_ <;> intro K hK tk)
  | (refine u1 7 ?_ <;> intro K hK tk)
  | (refine u1 11 ?_ <;> intro K hK tk)
  | (refine u1 15 ?_ <;> intro K hK tk)
  | (refine u1 17 ?_ <;> intro K hK tk)
  | (refine u2 7 8 ?_ ?_ <;> intro K hK tk)
  | (refine u1 8 ?_ <;> intro K hK tk)
  | (refine u2 4 12 ?_ ?_ <;> intro K hK tk)
  | (refine u2 7 12 ?_ ?_ <;> intro K hK tk)
  | (refine u2 11 12 ?_ ?_ <;> intro K hK tk)
  | (refine u1 12 ?_ <;> intro K hK tk)
  | (refine u3 7 8 12 ?_ ?_ ?_ <;> intro K hK tk)
  | (refine u2 8 12 ?_ ?_ <;> intro K hK tk)
  | (refine uZ ?_
     clear hHeld
     go_wp2
     refine bodyPost_ret (v := .agg #[a0, a1, .slice ua2 x2.length uc2, .slice ua3 x3.length uc3, .slice ua4 x4.length uc4]) ?_ rfl ?_
     · simp [results, Tryz.f88, go_sem, e0, e1, e2, e3, e4]
     · exact ⟨[a0, a1, .slice ua2 x2.length uc2, .slice ua3 x3.length uc3, .slice ua4 x4.length uc4], rfl, tCharge_mkO P2.out P3.out P4.out (fun b h => by (try dsimp only at h); show w.heap.size ≤ b; omega) (fun b h => by (try dsimp only at h); show w.heap.size ≤ b; omega) (fun b h => by (try dsimp only at h); show w.heap.size ≤ b; omega) (fun b h1 h2 => by (try dsimp only at h1 h2); omega) (fun b h1 h2 => by (try dsimp only at h1 h2); omega) (fun b h1 h2 => by (try dsimp only at h1 h2); omega), d.out⟩)
set_option maxHeartbeats 16000000 in
theorem copy_l3Copy (a0 : Int) (v1 : Value) (x1 : List Int) (w : World) (h1 : Kc Jf w v1 x1) (s1 : zL Jf x1 ≤ 1048576) :
  Calls Tryz.prog 143 #[.agg #[a0, v1]] w (Yc Kb (fun cs => .agg cs.toArray) w (a0, x1)) := by
 obtain ⟨c1, k1, rfl⟩ := Jo h1
 have H1 := hd h1
 have N1 := hd (Jz s1)
 clear h1 s1
 have d := hd (show Below w w ((w.alloc (.cells #[a0, .slice c1 x1.length k1] 64)).alloc (.cells #[Ja, ()] 64)) from ((Eh _ w).alloc (Ed _) _).alloc (by simp) _)
 have B1 : Hid (((w.alloc (.cells #[a0, .slice c1 x1.length k1] 64)).alloc (.cells #[Ja, ()] 64)).heap[(w.heap.size + 1)]? = some (.cells #[Ja, ()] 64 (0, 0))) := hd (by
  have := Uw (w.alloc (.cells #[a0, .slice c1 x1.length k1] 64)) (.cells #[Ja, ()] 64)
  simpa only [Ux] using this)
 have B0 : Hid (((w.alloc (.cells #[a0, .slice c1 x1.length k1] 64)).alloc (.cells #[Ja, ()] 64)).heap[w.heap.size]? = some (.cells #[a0, .slice c1 x1.length k1] 64 (0, 0))) := hd (by
  rw [Below.heap_alloc _ _ _ (by simp)]
  exact Uw w _)
 have Y_W : Hid (w.heap.size + 2 ≤ ((w.alloc (.cells #[a0, .slice c1 x1.length k1] 64)).alloc (.cells #[Ja, ()] 64)).heap.size) := hd (by simp [Ux])
 go_enter Tryz.func143, Tryz.ntmps143
 go_wp2
 generalize ((w.alloc (.cells #[a0, .slice c1 x1.length k1] 64)).alloc (.cells #[Ja, ()] 64)) = W at *
 have cp_B0_0 := Vk B0.out
 refine wp_region_held_drew (S := fun w' => w'.cell? ⟨w, 0, none⟩ = some (Value.int .i64 a0) ∧ w'.cell? ⟨w, 1, none⟩ = some (Value.slice c1 x1.length k1)) (by kernel_rfl) cp_B0_0 (fun hHeld => ?_)
 clear cp_B0_0
 have cdr : Below W W W.drew := Ke (Eh _ _)
 replace B0 := zb cdr B0
 replace B1 := zb cdr B1
 replace d := zD d cdr
 clear cdr
 refine tQ (i := 0) ?_
 try simp only [Act.put, lA, lB, lC]
 refine tQ (i := 1) ?_
 try simp only [Act.put, lA, lB, lC]
 refine tQ (i := 3) ?_
 try simp only [Act.put, lA, lB, lC]
 refine tQ (i := 4) ?_
 try simp only [Act.put, lA, lB, lC]
 refine rA 2 (fun K hK => ?_)
 go_simp
 have hal : Below W (W.drew) (W.alloc (.cells #[] 3)).drew := ⟨rfl, rfl, rfl, by show W.heap.size ≤ (W.alloc (.cells #[] 3)).heap.size; simp [Ux], fun k hk => Below.heap_alloc W _ k hk⟩
 have Y_1 := hd (show W.heap.size < (W.alloc (.cells #[] 3)).drew.heap.size by show W.heap.size < (W.alloc (.cells #[] 3)).heap.size; simp [Ux])
 replace B0 := zb hal B0
 replace B1 := zb hal B1
 replace d := zD d hal
 have P1 := hd (Kq Jb (Vp (T := Jf) W 3 (fun b => b = W.heap.size) rfl) (Ke (Eh _ _)))
 have Q1 := hd (fun b (h : b = W.heap.size) => h)
 clear hal
 generalize (W.alloc (.cells #[] 3)).drew = V1 at *
 refine hK.out _ _ (Vk B0.out) (fun hHeld => ?_)
 clear hK K
 try simp only [Act.put, lA, lB, lC]
 refine rA 5 (fun K hK => ?_)
 refine Ku Jb Yw Vq Tryz.underlying25 rfl rfl (.tmp 5) (.tmp 7) rfl (fun b => b = W.heap.size) (fun b => (fun b => b = W.heap.size) b ∨ b = V1.heap.size) _ _ [] x1 rfl rfl P1.out (Jc Jb H1.out d.out) (fun b h => Or.inl h) (Or.inr rfl) (by have := N1.out; simp; omega) ?_
 intro u V2 oB tB
 rw [List.nil_append] at oB
 obtain ⟨ua1, uc1, rfl⟩ := Js oB
 have y0 := Y_W.out
 have y1 := Y_1.out
 have yd : w.heap.size ≤ V1.heap.size := d.out.size
 replace B0 := zB tB B0 (fun h => by have r2 := Q1.out _ h; omega)
 replace B1 := zB tB B1 (fun h => by have r2 := Q1.out _ h; omega)
 replace d := hd (Jr d.out tB (fun b h => by have r2 := Q1.out _ h; omega) (by omega))
 have Z_V2 := hd (show V1.heap.size ≤ V2.heap.size from tB.size)
 clear yd y0 y1
 replace P1 := hd (Ki Jb oB)
 replace Q1 := hd (fun b (h : ((fun b => b = W.heap.size) b ∨ b = V1.heap.size) ∧ b < V2.heap.size) => (show (b = W.heap.size ∨ b = V1.heap.size) ∧ b < V2.heap.size from h))
 clear oB tB
 refine hK.out _ _ (Vk B0.out) (fun hHeld => ?_)
 clear hK K
 try simp only [Act.put, lA, lB, lC]
 refine tQ (i := 6) ?_
 try simp only [Act.put, lA, lB, lC]
 refine rA 7 (fun K hK => ?_)
 have cp_B1_0 := Vk B1.out
 have f_B1_0 := Ut V2 _ 0 _ _ B1.out
 have f_B1_1 := Ut V2 _ 1 _ _ B1.out
 go_simp
 clear cp_B1_0 f_B1_0 f_B1_1
 have tt := (((Jy.refl (fun b => b = w.heap.size + 1) V2).trans (Jh (G := fun b => b = w.heap.size + 1) (g := w.heap.size + 1) (j := 0) (u := .int .i64 a0) rfl)).trans (Jh (G := fun b => b = w.heap.size + 1) (g := w.heap.size + 1) (j := 1) (u := .slice ua1 x1.length uc1) rfl))
 have r := st2 B1.out a0 (.slice ua1 x1.length uc1)
 have e0 := Uu _ _ 0 _ _ _ r
 have e1 := Uu _ _ 1 _ _ _ r
 simp at e0 e1
 clear r
 have y0 := Y_W.out
 have y1 := Y_1.out
 have y2 := Z_V2.out
 replace B0 := zB tt B0 (fun h => by omega)
 replace P1 := zt Jb P1 tt (fun b h1 h2 => by have r1 := Q1.out b h1; omega)
 replace d := hd (Jr d.out tt (fun b h => by omega) d.out.size)
 clear tt y0 y1 y2
 generalize ((V2.setCell ⟨w.heap.size + 1, 0, none⟩ a0).setCell ⟨w.heap.size + 1, 1, none⟩ (.slice ua1 x1.length uc1)) = V3 at *
 refine hK.out _ _ (Vk B0.out) (fun hHeld => ?_)
 clear hK K
 try simp only [Act.put, lA, lB, lC]
 refine wpAnyH_done (by kernel_rfl) ?_ _
 clear hHeld
 go_wp2
 refine bodyPost_ret (v := .agg #[a0, .slice ua1 x1.length uc1]) ?_ rfl ?_
 ·
  simp [results, Tryz.f143, go_sem, e0, e1]
 have y0 := Y_W.out
 have y1 := Y_1.out
 have y2 := Z_V2.out
 exact ⟨[a0, .slice ua1 x1.length uc1], rfl, tRow_mkO P1.out (fun b h => by have r1 := Q1.out b h; show w.heap.size ≤ b; omega) , d.out⟩
theorem info_T_Row : Vv Kb 64 (.agg #[Ja, ()]) := Ya (by kernel_rfl)
set_option maxHeartbeats 8000000 in
theorem copy_l9Rows (v : Value) (xs : List (Int × List Int)) (w : World) (h : Kc Kb w v xs) (hs : zL Kb xs ≤ 1048576) :
  Calls Tryz.prog 87 #[v] w (Yi 64 Kb w xs) := by
 have H := hd h
 have hlen := Jz hs
 have HS := hd hs
 obtain ⟨a, cap, rfl⟩ := Jo h
 clear h hs
 go_enter Tryz.func87, Tryz.ntmps87
 go_wp2
 go_loopw [3, 4] (fun u i wr => ∃ k : Nat, k ≤ xs.length ∧ i = .int .i64 k ∧ Kt 64 Kb wr (Kg w) u (xs.take k) ∧ Below w w wr) (fun _ i _ => xs.length - (intOf i).toNat)
 case atStart => exact ⟨0, Ef _, rfl, Vp w 64 (Kg w) (Ed _), (Eh _ _).alloc (Ed _) _⟩
 case round =>
  obtain ⟨k, hk, rfl, hown, hbel⟩ := hrel
  by_cases hlt : k < xs.length
  ·
   have i1 : (0 : Int) ≤ (k : Int) := by omega
   have i2 : (k : Int) < (xs.length : Int) := by omega
   have hzx := Kz HS.out hlt
   obtain ⟨b, off, cap', cs, hv, hbl, hcs, hR⟩ := Km (Jc Jv H.out hbel) hlt
   simp only [Eg] at hv
   obtain ⟨rfl, _, rfl⟩ := hv
   have HTK : Hid (xs.take k ++ [xs.getD k Kb.d] = xs.take (k + 1)) := hd (by rw [List.take_succ_eq_append_getElem hlt]; simp [List.getD, hlt])
   have HKL : Hid ((xs.take k).length ≤ 1048576) := hd (by rw [List.length_take]; omega)
   have HO := hd (Ki Jv hown)
   have hsz := hbel.size
   have HB := hd hbel
   clear hown hbel
   generalize xs.getD k Kb.d = x at *
   generalize xs.take k = ys at *
   obtain ⟨a0, x1⟩ := x
   obtain ⟨v1, hR'⟩ := tRow_R hR
   obtain ⟨rfl, h1⟩ := hR'
   have p0 : wr.cell? ⟨b, off + k * 2, none⟩ = some (Value.int .i64 a0) := hcs 0 (by decide)
   have p1 : wr.cell? ⟨b, off + k * 2 + 1, none⟩ = some (v1) := hcs 1 (by decide)
   rw [tRow_sz] at hzx
   have S1 := hd (show zL Jf x1 ≤ 1048576 by omega)
   clear hcs hR hzx
   go_wp2_with fail
   refine (copy_l3Copy a0 v1 x1 wr h1 S1.out).mono ?_
   rintro e w2 ⟨cs, rfl, ow, b2⟩
   clear p0 p1
   have ow2 := ow
   obtain ⟨u1, K1, rfl, o1, _⟩ := tRow_O ow2
   obtain ⟨ua1, uc1, rfl⟩ := Js o1
   clear o1 h1
   have HO2 := hd (Kq Jv HO.out b2)
   have HB2 := hd (HB.out.trans (b2.mono hsz))
   have OW := hd ow
   have HO3 := HO2
   have z2 := b2.size
   have HB3 := HB2
   have hz3 : wr.heap.size ≤ w2.heap.size := b2.size
   have HZ3 := hd hz3
   clear HO HO2 HB HB2 ow b2 z2 hz3
   go_wp2_with (at_builtin; refine append_T Jv info_T_Row Tryz.underlying86 rfl rfl (.tmp 12) (.tmp 18) rfl (Kg w) wr.heap.size _ ys rfl HO3.out HZ3.out (fun b hb => Nat.le_trans hsz hb) HKL.out [a0, .slice ua1 x1.length uc1] (a0, x1) OW.out (by simp [Value.oneCell']) 1 _ rfl (by simp [Ux]) ?_)
   intro v' w4 hown4 t4
   rw [HTK.out] at hown4
   have hb4 := Jr HB3.out t4 (fun b hb => hb.1) (Nat.le_trans hsz HZ3.out)
   clear HO3 HB3 OW t4
   go_wp2
   go_roundw
   case rel => exact ⟨k + 1, by omega, by go_num, hown4, hb4⟩
   case measure => simp [intOf]; omega
  ·
   obtain rfl : k = xs.length := by omega
   rw [List.take_length] at hown
   go_wp2
   go_ret
   exact ⟨_, rfl, hown, hbel⟩
end Go.Proofs.YtcolddalajoheaaGreatDoor
