/-
 Texts of the proof, merged: UpdSpec4, UpdSpec1, Rec, RecLim, RecEq, RowIsP, VerP1, VerP2, VerP3, VerP4, VerP9, VerP10, UpdOwn, UpdOwn2, UpdSpec5, UpdSpec6, VerSize, UpdSpec7, UpdMath2.
-/
import Derived.Test.YtnepfacnmaoieaaGreatDoorCA2
import Derived.Test.YtnepfacnmaoieaaGreatDoorCA3
import Derived.Test.YtnepfacnmaoieaaGreatDoorCA5
import Derived.Test.YtnepfacnmaoieaaGreatDoorCA6
import Derived.Laws.CopyOwn
import Derived.Lib.MinMax
import Derived.Laws.StructEq
import Derived.Deep.Cut
namespace Go.Proofs.YtnepfacnmaoieaaGreatDoor
open Go.RowKit
open Go renaming frozen_of_row → Ez, cell_of_row → Ia, heap_setCell_same → Ib, heap_alloc_new → Ic
open Go.World renaming size_alloc → Ie
open List renaming getElem?_set_ne → Ig, getElem?_eq_getElem → Ih
open Nat renaming le_refl → Ii, zero_le → Ij
open Go.Value.slice renaming injEq → Ik
open Go.RowKit.Below renaming refl → Il
open ZD0
set_option maxRecDepth 100000
set_option linter.unusedVariables false
set_option linter.unusedSimpArgs false
set_option maxHeartbeats 16000000 in
theorem specCopy (v : Value) (ss : List (List Kj)) (now : Int) (w : World) (h : Ko Jd w v ss) (hs : zL Jd ss ≤ 1048576) :
  Calls Tryz.prog 148 #[.agg #[v, .int .i64 now]] w (Yy Ks (fun cs => .agg cs.toArray) w (ss, now)) := by
 have hlen := Jz hs
 have HS := zh hs
 obtain ⟨a, cap, rfl⟩ := Jl h
 have d0 := zh (show Below w w (((w.alloc (.cells #[.slice a ss.length cap, .int .i64 now] 35)).alloc (.cells #[(), Ja] 35)).alloc (.cells #[(), .int .i64 now] 35)) from (((Il _ _).alloc (Ii _) _).alloc (by simp <;> omega) _).alloc (by simp <;> omega) _)
 have k0 : (((w.alloc (.cells #[.slice a ss.length cap, .int .i64 now] 35)).alloc (.cells #[(), Ja] 35)).alloc (.cells #[(), .int .i64 now] 35)).heap[w.heap.size]? = some (.cells #[.slice a ss.length cap, .int .i64 now] 35 (0, 0)) := by
  rw [Below.heap_alloc _ _ _ (by simp <;> omega), Below.heap_alloc _ _ _ (by simp)]; exact Ic w _
 have k1 : (((w.alloc (.cells #[.slice a ss.length cap, .int .i64 now] 35)).alloc (.cells #[(), Ja] 35)).alloc (.cells #[(), .int .i64 now] 35)).heap[w.heap.size + 1]? = some (.cells #[(), Ja] 35 (0, 0)) := by
  rw [Below.heap_alloc _ _ _ (by simp)]
  have := Ic (w.alloc (.cells #[.slice a ss.length cap, .int .i64 now] 35)) (.cells #[(), Ja] 35)
  simpa only [Ie] using this
 have k2 : (((w.alloc (.cells #[.slice a ss.length cap, .int .i64 now] 35)).alloc (.cells #[(), Ja] 35)).alloc (.cells #[(), .int .i64 now] 35)).heap[w.heap.size + 2]? = some (.cells #[(), .int .i64 now] 35 (0, 0)) := by
  have := Ic ((w.alloc (.cells #[.slice a ss.length cap, .int .i64 now] 35)).alloc (.cells #[(), Ja] 35)) (.cells #[(), .int .i64 now] 35)
  simpa only [Ie] using this
 have K0 := zh k0
 have K1 := zh k1
 have K2 := zh k2
 have YW : Hid (w.heap.size + 2 < (((w.alloc (.cells #[.slice a ss.length cap, .int .i64 now] 35)).alloc (.cells #[(), Ja] 35)).alloc (.cells #[(), .int .i64 now] 35)).heap.size) := zh (by simp)
 have H := zh h
 clear h hs k0 k1 k2
 go_enter Tryz.func148, Tryz.ntmps148
 go_wp2
 generalize (((w.alloc (.cells #[.slice a ss.length cap, .int .i64 now] 35)).alloc (.cells #[(), Ja] 35)).alloc (.cells #[(), .int .i64 now] 35)) = W at *
 go_loopw [4] (fun i wr => ∃ (k : Nat) (fv : Value), k ≤ ss.length ∧ i = .int .i64 k ∧ wr.heap[w.heap.size]? = some (.cells #[.slice a ss.length cap, .int .i64 now] 35 (0, 0)) ∧ wr.heap[w.heap.size + 1]? = some (.cells #[(), Ja] 35 (0, 0)) ∧ wr.heap[w.heap.size + 2]? = some (.cells #[fv, .int .i64 now] 35 (0, 0)) ∧ Kp 213 Jd wr (fun q => w.heap.size + 2 < q) fv (ss.take k) ∧ Below w w wr ∧ w.heap.size + 2 < wr.heap.size) (fun i _ => ss.length - (intOf i).toNat)
 case atStart => exact ⟨0, .slice none 0 0, Ij _, rfl, K0.out, K1.out, K2.out, Ya _ _ _ _, d0.out, YW.out⟩
 case round =>
  obtain ⟨k, fv, hk, rfl, r0, r1, r2, hown, hbel, hsz⟩ := hrel
  have hfl : (ss.take k).length = k := by rw [List.length_take]; omega
  obtain ⟨fa, fc, rfl⟩ := Ju hown
  by_cases hlt : k < ss.length
  ·
   have i1 : (0 : Int) ≤ (k : Int) := by omega
   have i2 : (k : Int) < (ss.length : Int) := by omega
   obtain ⟨b, off, cap', cs, hv, hbl, hcs, hR⟩ := Ku H.out hlt
   simp only [Ik] at hv
   obtain ⟨rfl, _, rfl⟩ := hv
   obtain ⟨u, rfl, hU⟩ := hR
   change Ko Jh w u (ss.getD k []) at hU
   have pe : w.cell? ⟨b, off + k, none⟩ = some u := by have := hcs 0 Nat.one_pos; rw [show Jd.n = 1 from rfl, Nat.mul_one, Nat.add_zero] at this; exact this
   have hzl : zL Jh (ss.getD k []) ≤ 1048576 := Nat.le_trans (zL_seg hlt) HS.out
   obtain ⟨ua, uc, rfl⟩ := Jl hU
   have HC := zh (fun w h => specPart (.slice ua (ss.getD k []).length uc) (ss.getD k []) w h hzl)
   have HTK : Hid (ss.take k ++ [ss.getD k []] = ss.take (k + 1)) := zh (by rw [List.take_succ_eq_append_getElem hlt]; simp [List.getD, hlt])
   have HTL : Hid ((ss.take (k + 1)).length = k + 1) := zh (by rw [List.length_take]; omega)
   have HYL : Hid ((ss.take k).length ≤ 1048576) := zh (by omega)
   have HU := zh hU
   have C0 := zh pe
   have HBL := zh hbl
   have B0 := zh r0
   have BZ := zh r1
   have BX := zh r2
   have PF := zh (Kn Jf hown)
   have QF := zh (fun q (h : w.heap.size + 2 < q ∧ q < wr.heap.size) => h)
   have d := zh hbel
   have ZR := zh hsz
   have q0 := cr 0 (Value.slice (some ⟨b, off, none⟩) ss.length cap) r0
   clear hcs pe hU hzl hbl r0 r1 r2 hown hbel hsz hfl
   generalize ss.getD k [] = l at *
   generalize ss.take k = ys at *
   go_wp2
   clear q0
   obtain ⟨p_B0_0, p_B0_1⟩ := Vl B0.out
   have p_C0 := cx d C0 HBL
   refine wp_region_held_drew (S := fun w' => w'.cell? ⟨w, 0, none⟩ = some (Value.slice (some ⟨b, off, none⟩) ss.length cap) ∧ w'.cell? ⟨w, 1, none⟩ = some (Value.int .i64 now) ∧ w'.cell? ⟨b, off + k, none⟩ = some (Value.slice ua l.length uc)) (by kernel_rfl) ⟨p_B0_0, p_B0_1, p_C0⟩ (fun hHeld => ?_)
   clear p_B0_0 p_B0_1 p_C0
   have cdr : Below wr wr wr.drew := Kc (Il _ _)
   replace B0 := zb cdr B0
   replace BZ := zb cdr BZ
   replace BX := zb cdr BX
   replace PF := zf Jf PF cdr
   replace d := zD d cdr
   clear cdr
   have Z_dr := zh (show wr.heap.size ≤ wr.drew.heap.size from Ii _)
   generalize wr.drew = Wd at *
   refine tQ (i := 0) ?_
   try simp only [Act.put, lA, lB, lC]
   refine tQ (i := 2) ?_
   try simp only [Act.put, lA, lB, lC]
   refine tQ (i := 3) ?_
   try simp only [Act.put, lA, lB, lC]
   refine tQ (i := 4) ?_
   try simp only [Act.put, lA, lB, lC]
   refine tQ (i := 5) ?_
   try simp only [Act.put, lA, lB, lC]
   refine tQ (i := 6) ?_
   try simp only [Act.put, lA, lB, lC]
   refine wpAnyH_ready (rs := [1, 7]) (by kernel_rfl) (by simp) ?_
   refine (AllReadyH.cons (o := _) (by simp only [hA, hB, hC]; rfl) (fun K hK => ?_) (AllReadyH.cons (o := _) (by simp only [hA, hB, hC]; rfl) (fun K hK => ?_) AllReadyH.nil))
   ·
    have px := (Ia Wd _ 0 _ _ _ BX.out).trans (show _ = some (Value.slice fa ys.length fc) from rfl)
    go_simp
    clear px
    obtain ⟨p_B0_0, p_B0_1⟩ := Vl B0.out
    have p_C0 := cx d C0 HBL
    refine hK.out _ _ ⟨p_B0_0, p_B0_1, p_C0⟩ (fun hHeld => ?_)
    clear p_B0_0 p_B0_1 p_C0
    clear hK K
    try simp only [Act.put, lA, lB, lC]
    refine rA 7 (fun K hK => ?_)
    go_simp
    refine (HC.out Wd (Jb Jp HU.out d.out)).mono ?_
    rintro e w5 ⟨pv, rfl, op, c5⟩
    have ox : Kp 212 Jh w5 (fun q => wr.heap.size ≤ q) pv l := Ky op (fun q hq => Nat.le_trans Z_dr.out hq)
    obtain ⟨pa, pc, rfl⟩ := Ju ox
    have PX := zh ox
    replace B0 := zb c5 B0
    replace BZ := zb c5 BZ
    replace BX := zb c5 BX
    replace PF := zf Jf PF c5
    replace d := zD d c5
    have Z_w5 := zh (show Wd.heap.size ≤ w5.heap.size from c5.size)
    have QX := zh (fun q (h : wr.heap.size ≤ q) => h)
    clear c5 op ox
    obtain ⟨p_B0_0, p_B0_1⟩ := Vl B0.out
    have p_C0 := cx d C0 HBL
    refine hK.out _ _ ⟨p_B0_0, p_B0_1, p_C0⟩ (fun hHeld => ?_)
    clear p_B0_0 p_B0_1 p_C0
    clear hK K
    try simp only [Act.put, lA, lB, lC]
    refine rA 8 (fun K hK => ?_)
    go_simp
    have hal : Below w5 w5 (w5.alloc (.cells #[.slice pa l.length pc] 213)) := (Il _ _).alloc (Ii _) _
    have KB0 := B0
    have KBZ := BZ
    have KBX := BX
    have KPF := PF
    have KPX := PX
    have Kd := d
    replace B0 := zb hal B0
    replace BZ := zb hal BZ
    replace BX := zb hal BX
    replace PF := zf Jf PF hal
    replace PX := zf Jp PX hal
    replace d := zD d hal
    clear hal
    obtain ⟨p_B0_0, p_B0_1⟩ := Vl B0.out
    have p_C0 := cx d C0 HBL
    refine hK.out _ _ ⟨p_B0_0, p_B0_1, p_C0⟩ (fun hHeld => ?_)
    clear p_B0_0 p_B0_1 p_C0
    clear hK K
    try simp only [Act.put, lA, lB, lC]
    refine rA 9 (fun K hK => ?_)
    have y0 := ZR.out
    have y1 := Z_dr.out
    have y2 := Z_w5.out
    have yd := Kd.out.size
    have hD : wr.heap.size ≤ w5.heap.size := by omega
    refine Xx Jf Ef Tryz.underlying33 rfl rfl (.tmp 16) (.tmp 23) rfl (fun q => w.heap.size + 2 < q) wr.heap.size _ ys rfl KPF.out hD (fun q hq => by show w.heap.size + 2 < q; omega) HYL.out [.slice pa l.length pc] l ⟨_, rfl, KPX.out⟩ (by simp [Value.oneCell']) 1 _ rfl rfl ?_
    intro v' w7 oN tN
    replace B0 := zB tN KB0 (fun h => by have r : w.heap.size + 2 < w.heap.size := h.1; omega)
    replace BZ := zB tN KBZ (fun h => by have r : w.heap.size + 2 < (w.heap.size + 1) := h.1; omega)
    replace BX := zB tN KBX (fun h => by have r : w.heap.size + 2 < (w.heap.size + 2) := h.1; omega)
    replace d := zh (Js Kd.out tN (fun q hq => by have r : w.heap.size + 2 < q := hq.1; omega) yd)
    have zN := zh (show w5.heap.size ≤ w7.heap.size from tN.size)
    rw [HTK.out] at oN
    obtain ⟨na, nc, rfl⟩ := Ju oN
    rw [HTL.out] at oN
    have PN := zh oN
    clear hD oN tN yd PF PX KB0 KBZ KBX KPF KPX Kd y0 y1 y2
    obtain ⟨p_B0_0, p_B0_1⟩ := Vl B0.out
    have p_C0 := cx d C0 HBL
    refine hK.out _ _ ⟨p_B0_0, p_B0_1, p_C0⟩ (fun hHeld => ?_)
    clear p_B0_0 p_B0_1 p_C0
    clear hK K
    try simp only [Act.put, lA, lB, lC]
    refine tQ (i := 10) ?_
    try simp only [Act.put, lA, lB, lC]
    refine rA 11 (fun K hK => ?_)
    have px := cr 0 (Value.slice fa ys.length fc) BX.out
    have fx := Ez w7 _ 0 _ _ BX.out
    rw [HTL.out]
    go_simp
    clear px fx
    have tt : Kb (fun q => q = w.heap.size + 2) w7 (w7.setCell ⟨w.heap.size + 2, 0, none⟩ (.slice na (k + 1) nc)) := Jm (G := fun q => q = w.heap.size + 2) (g := w.heap.size + 2) (j := 0) (u := .slice na (k + 1) nc) rfl
    have r := Ib w7 (w.heap.size + 2) 0 _ _ (.slice na (k + 1) nc) BX.out
    simp at r
    have y0 := ZR.out
    have y1 := Z_dr.out
    have y2 := Z_w5.out
    have y3 := zN.out
    replace BX : Hid ((w7.setCell ⟨w.heap.size + 2, 0, none⟩ (.slice na (k + 1) nc)).heap[w.heap.size + 2]? = some (.cells #[.slice na (k + 1) nc, .int .i64 now] 35 (0, 0))) := zh r
    replace B0 := zB tt B0 (fun h => by omega)
    replace BZ := zB tt BZ (fun h => by omega)
    replace PN := zt Jf PN tt (fun q h1 h2 => by have r1 : w.heap.size + 2 < q := h1; omega)
    replace d := zh (Js d.out tt (fun q h => by omega) d.out.size)
    have zM := zh (show w7.heap.size ≤ (w7.setCell ⟨w.heap.size + 2, 0, none⟩ (.slice na (k + 1) nc)).heap.size from tt.size)
    clear tt r y0 y1 y2 y3
    generalize (w7.setCell ⟨w.heap.size + 2, 0, none⟩ (.slice na (k + 1) nc)) = w8 at *
    obtain ⟨p_B0_0, p_B0_1⟩ := Vl B0.out
    have p_C0 := cx d C0 HBL
    refine hK.out _ _ ⟨p_B0_0, p_B0_1, p_C0⟩ (fun hHeld => ?_)
    clear p_B0_0 p_B0_1 p_C0
    clear hK K
    try simp only [Act.put, lA, lB, lC]
    refine wpAnyH_done (by kernel_rfl) ?_ _
    clear hHeld
    have y0 := ZR.out
    have y1 := Z_dr.out
    have y2 := Z_w5.out
    have y3 := zN.out
    have y4 := zM.out
    have zz : w.heap.size + 2 < w8.heap.size := by omega
    have ZZ := zh zz
    clear zz y0 y1 y2 y3 y4
    go_wp2
    go_roundw
    case rel => exact ⟨k + 1, _, by omega, by go_num, B0.out, BZ.out, BX.out, PN.out, d.out, ZZ.out⟩
    case measure => simp [intOf]; omega
   ·
    go_simp
    refine (HC.out Wd (Jb Jp HU.out d.out)).mono ?_
    rintro e w5 ⟨pv, rfl, op, c5⟩
    have ox : Kp 212 Jh w5 (fun q => wr.heap.size ≤ q) pv l := Ky op (fun q hq => Nat.le_trans Z_dr.out hq)
    obtain ⟨pa, pc, rfl⟩ := Ju ox
    have PX := zh ox
    replace B0 := zb c5 B0
    replace BZ := zb c5 BZ
    replace BX := zb c5 BX
    replace PF := zf Jf PF c5
    replace d := zD d c5
    have Z_w5 := zh (show Wd.heap.size ≤ w5.heap.size from c5.size)
    have QX := zh (fun q (h : wr.heap.size ≤ q) => h)
    clear c5 op ox
    obtain ⟨p_B0_0, p_B0_1⟩ := Vl B0.out
    have p_C0 := cx d C0 HBL
    refine hK.out _ _ ⟨p_B0_0, p_B0_1, p_C0⟩ (fun hHeld => ?_)
    clear p_B0_0 p_B0_1 p_C0
    clear hK K
    try simp only [Act.put, lA, lB, lC]
    refine wpAnyH_ready (rs := [1, 8]) (by kernel_rfl) (by simp) ?_
    refine (AllReadyH.cons (o := _) (by simp only [hA, hB, hC]; rfl) (fun K hK => ?_) (AllReadyH.cons (o := _) (by simp only [hA, hB, hC]; rfl) (fun K hK => ?_) AllReadyH.nil))
    ·
     have px := (Ia w5 _ 0 _ _ _ BX.out).trans (show _ = some (Value.slice fa ys.length fc) from rfl)
     go_simp
     clear px
     obtain ⟨p_B0_0, p_B0_1⟩ := Vl B0.out
     have p_C0 := cx d C0 HBL
     refine hK.out _ _ ⟨p_B0_0, p_B0_1, p_C0⟩ (fun hHeld => ?_)
     clear p_B0_0 p_B0_1 p_C0
     clear hK K
     try simp only [Act.put, lA, lB, lC]
     refine rA 8 (fun K hK => ?_)
     go_simp
     have hal : Below w5 w5 (w5.alloc (.cells #[.slice pa l.length pc] 213)) := (Il _ _).alloc (Ii _) _
     have KB0 := B0
     have KBZ := BZ
     have KBX := BX
     have KPF := PF
     have KPX := PX
     have Kd := d
     replace B0 := zb hal B0
     replace BZ := zb hal BZ
     replace BX := zb hal BX
     replace PF := zf Jf PF hal
     replace PX := zf Jp PX hal
     replace d := zD d hal
     clear hal
     obtain ⟨p_B0_0, p_B0_1⟩ := Vl B0.out
     have p_C0 := cx d C0 HBL
     refine hK.out _ _ ⟨p_B0_0, p_B0_1, p_C0⟩ (fun hHeld => ?_)
     clear p_B0_0 p_B0_1 p_C0
     clear hK K
     try simp only [Act.put, lA, lB, lC]
     refine rA 9 (fun K hK => ?_)
     have y0 := ZR.out
     have y1 := Z_dr.out
     have y2 := Z_w5.out
     have yd := Kd.out.size
     have hD : wr.heap.size ≤ w5.heap.size := by omega
     refine Xx Jf Ef Tryz.underlying33 rfl rfl (.tmp 16) (.tmp 23) rfl (fun q => w.heap.size + 2 < q) wr.heap.size _ ys rfl KPF.out hD (fun q hq => by show w.heap.size + 2 < q; omega) HYL.out [.slice pa l.length pc] l ⟨_, rfl, KPX.out⟩ (by simp [Value.oneCell']) 1 _ rfl rfl ?_
     intro v' w7 oN tN
     replace B0 := zB tN KB0 (fun h => by have r : w.heap.size + 2 < w.heap.size := h.1; omega)
     replace BZ := zB tN KBZ (fun h => by have r : w.heap.size + 2 < (w.heap.size + 1) := h.1; omega)
     replace BX := zB tN KBX (fun h => by have r : w.heap.size + 2 < (w.heap.size + 2) := h.1; omega)
     replace d := zh (Js Kd.out tN (fun q hq => by have r : w.heap.size + 2 < q := hq.1; omega) yd)
     have zN := zh (show w5.heap.size ≤ w7.heap.size from tN.size)
     rw [HTK.out] at oN
     obtain ⟨na, nc, rfl⟩ := Ju oN
     rw [HTL.out] at oN
     have PN := zh oN
     clear hD oN tN yd PF PX KB0 KBZ KBX KPF KPX Kd y0 y1 y2
     obtain ⟨p_B0_0, p_B0_1⟩ := Vl B0.out
     have p_C0 := cx d C0 HBL
     refine hK.out _ _ ⟨p_B0_0, p_B0_1, p_C0⟩ (fun hHeld => ?_)
     clear p_B0_0 p_B0_1 p_C0
     clear hK K
     try simp only [Act.put, lA, lB, lC]
     refine tQ (i := 10) ?_
     try simp only [Act.put, lA, lB, lC]
     refine rA 11 (fun K hK => ?_)
     have px := cr 0 (Value.slice fa ys.length fc) BX.out
     have fx := Ez w7 _ 0 _ _ BX.out
     rw [HTL.out]
     go_simp
     clear px fx
     have tt : Kb (fun q => q = w.heap.size + 2) w7 (w7.setCell ⟨w.heap.size + 2, 0, none⟩ (.slice na (k + 1) nc)) := Jm (G := fun q => q = w.heap.size + 2) (g := w.heap.size + 2) (j := 0) (u := .slice na (k + 1) nc) rfl
     have r := Ib w7 (w.heap.size + 2) 0 _ _ (.slice na (k + 1) nc) BX.out
     simp at r
     have y0 := ZR.out
     have y1 := Z_dr.out
     have y2 := Z_w5.out
     have y3 := zN.out
     replace BX : Hid ((w7.setCell ⟨w.heap.size + 2, 0, none⟩ (.slice na (k + 1) nc)).heap[w.heap.size + 2]? = some (.cells #[.slice na (k + 1) nc, .int .i64 now] 35 (0, 0))) := zh r
     replace B0 := zB tt B0 (fun h => by omega)
     replace BZ := zB tt BZ (fun h => by omega)
     replace PN := zt Jf PN tt (fun q h1 h2 => by have r1 : w.heap.size + 2 < q := h1; omega)
     replace d := zh (Js d.out tt (fun q h => by omega) d.out.size)
     have zM := zh (show w7.heap.size ≤ (w7.setCell ⟨w.heap.size + 2, 0, none⟩ (.slice na (k + 1) nc)).heap.size from tt.size)
     clear tt r y0 y1 y2 y3
     generalize (w7.setCell ⟨w.heap.size + 2, 0, none⟩ (.slice na (k + 1) nc)) = w8 at *
     obtain ⟨p_B0_0, p_B0_1⟩ := Vl B0.out
     have p_C0 := cx d C0 HBL
     refine hK.out _ _ ⟨p_B0_0, p_B0_1, p_C0⟩ (fun hHeld => ?_)
     clear p_B0_0 p_B0_1 p_C0
     clear hK K
     try simp only [Act.put, lA, lB, lC]
     refine wpAnyH_done (by kernel_rfl) ?_ _
     clear hHeld
     have y0 := ZR.out
     have y1 := Z_dr.out
     have y2 := Z_w5.out
     have y3 := zN.out
     have y4 := zM.out
     have zz : w.heap.size + 2 < w8.heap.size := by omega
     have ZZ := zh zz
     clear zz y0 y1 y2 y3 y4
     go_wp2
     go_roundw
     case rel => exact ⟨k + 1, _, by omega, by go_num, B0.out, BZ.out, BX.out, PN.out, d.out, ZZ.out⟩
     case measure => simp [intOf]; omega
    ·
     go_simp
     have hal : Below w5 w5 (w5.alloc (.cells #[.slice pa l.length pc] 213)) := (Il _ _).alloc (Ii _) _
     have KB0 := B0
     have KBZ := BZ
     have KBX := BX
     have KPF := PF
     have KPX := PX
     have Kd := d
     replace B0 := zb hal B0
     replace BZ := zb hal BZ
     replace BX := zb hal BX
     replace PF := zf Jf PF hal
     replace PX := zf Jp PX hal
     replace d := zD d hal
     clear hal
     obtain ⟨p_B0_0, p_B0_1⟩ := Vl B0.out
     have p_C0 := cx d C0 HBL
     refine hK.out _ _ ⟨p_B0_0, p_B0_1, p_C0⟩ (fun hHeld => ?_)
     clear p_B0_0 p_B0_1 p_C0
     clear hK K
     try simp only [Act.put, lA, lB, lC]
     refine rA 1 (fun K hK => ?_)
     have px := cr 0 (Value.slice fa ys.length fc) BX.out
     go_simp
     clear px
     obtain ⟨p_B0_0, p_B0_1⟩ := Vl B0.out
     have p_C0 := cx d C0 HBL
     refine hK.out _ _ ⟨p_B0_0, p_B0_1, p_C0⟩ (fun hHeld => ?_)
     clear p_B0_0 p_B0_1 p_C0
     clear hK K
     try simp only [Act.put, lA, lB, lC]
     refine rA 9 (fun K hK => ?_)
     have y0 := ZR.out
     have y1 := Z_dr.out
     have y2 := Z_w5.out
     have yd := Kd.out.size
     have hD : wr.heap.size ≤ w5.heap.size := by omega
     refine Xx Jf Ef Tryz.underlying33 rfl rfl (.tmp 16) (.tmp 23) rfl (fun q => w.heap.size + 2 < q) wr.heap.size _ ys rfl KPF.out hD (fun q hq => by show w.heap.size + 2 < q; omega) HYL.out [.slice pa l.length pc] l ⟨_, rfl, KPX.out⟩ (by simp [Value.oneCell']) 1 _ rfl rfl ?_
     intro v' w7 oN tN
     replace B0 := zB tN KB0 (fun h => by have r : w.heap.size + 2 < w.heap.size := h.1; omega)
     replace BZ := zB tN KBZ (fun h => by have r : w.heap.size + 2 < (w.heap.size + 1) := h.1; omega)
     replace BX := zB tN KBX (fun h => by have r : w.heap.size + 2 < (w.heap.size + 2) := h.1; omega)
     replace d := zh (Js Kd.out tN (fun q hq => by have r : w.heap.size + 2 < q := hq.1; omega) yd)
     have zN := zh (show w5.heap.size ≤ w7.heap.size from tN.size)
     rw [HTK.out] at oN
     obtain ⟨na, nc, rfl⟩ := Ju oN
     rw [HTL.out] at oN
     have PN := zh oN
     clear hD oN tN yd PF PX KB0 KBZ KBX KPF KPX Kd y0 y1 y2
     obtain ⟨p_B0_0, p_B0_1⟩ := Vl B0.out
     have p_C0 := cx d C0 HBL
     refine hK.out _ _ ⟨p_B0_0, p_B0_1, p_C0⟩ (fun hHeld => ?_)
     clear p_B0_0 p_B0_1 p_C0
     clear hK K
     try simp only [Act.put, lA, lB, lC]
     refine tQ (i := 10) ?_
     try simp only [Act.put, lA, lB, lC]
     refine rA 11 (fun K hK => ?_)
     have px := cr 0 (Value.slice fa ys.length fc) BX.out
     have fx := Ez w7 _ 0 _ _ BX.out
     rw [HTL.out]
     go_simp
     clear px fx
     have tt : Kb (fun q => q = w.heap.size + 2) w7 (w7.setCell ⟨w.heap.size + 2, 0, none⟩ (.slice na (k + 1) nc)) := Jm (G := fun q => q = w.heap.size + 2) (g := w.heap.size + 2) (j := 0) (u := .slice na (k + 1) nc) rfl
     have r := Ib w7 (w.heap.size + 2) 0 _ _ (.slice na (k + 1) nc) BX.out
     simp at r
     have y0 := ZR.out
     have y1 := Z_dr.out
     have y2 := Z_w5.out
     have y3 := zN.out
     replace BX : Hid ((w7.setCell ⟨w.heap.size + 2, 0, none⟩ (.slice na (k + 1) nc)).heap[w.heap.size + 2]? = some (.cells #[.slice na (k + 1) nc, .int .i64 now] 35 (0, 0))) := zh r
     replace B0 := zB tt B0 (fun h => by omega)
     replace BZ := zB tt BZ (fun h => by omega)
     replace PN := zt Jf PN tt (fun q h1 h2 => by have r1 : w.heap.size + 2 < q := h1; omega)
     replace d := zh (Js d.out tt (fun q h => by omega) d.out.size)
     have zM := zh (show w7.heap.size ≤ (w7.setCell ⟨w.heap.size + 2, 0, none⟩ (.slice na (k + 1) nc)).heap.size from tt.size)
     clear tt r y0 y1 y2 y3
     generalize (w7.setCell ⟨w.heap.size + 2, 0, none⟩ (.slice na (k + 1) nc)) = w8 at *
     obtain ⟨p_B0_0, p_B0_1⟩ := Vl B0.out
     have p_C0 := cx d C0 HBL
     refine hK.out _ _ ⟨p_B0_0, p_B0_1, p_C0⟩ (fun hHeld => ?_)
     clear p_B0_0 p_B0_1 p_C0
     clear hK K
     try simp only [Act.put, lA, lB, lC]
     refine wpAnyH_done (by kernel_rfl) ?_ _
     clear hHeld
     have y0 := ZR.out
     have y1 := Z_dr.out
     have y2 := Z_w5.out
     have y3 := zN.out
     have y4 := zM.out
     have zz : w.heap.size + 2 < w8.heap.size := by omega
     have ZZ := zh zz
     clear zz y0 y1 y2 y3 y4
     go_wp2
     go_roundw
     case rel => exact ⟨k + 1, _, by omega, by go_num, B0.out, BZ.out, BX.out, PN.out, d.out, ZZ.out⟩
     case measure => simp [intOf]; omega
  ·
   obtain rfl : k = ss.length := by omega
   rw [List.take_length] at hown
   have HFL := zh hfl
   rw [List.take_length] at r2
   have q0 := cr 0 (Value.slice a ss.length cap) r0
   have x0 := cr 0 (Value.slice fa ss.length fc) r2
   have x1 := cr 1 (Value.int .i64 now) r2
   have z0 := cr 0 () r1
   have z1 := cr 1 Ja r1
   have g0 := Ez wr _ 0 _ _ r1
   have g1 := Ez wr _ 1 _ _ r1
   have hd : Below w w wr := hbel
   have DF := zh ((hd.setCell (p := ⟨w.heap.size + 1, 0, none⟩) (by simp) (.slice fa ss.length fc)).setCell (p := ⟨w.heap.size + 1, 1, none⟩) (by simp) (.int .i64 now))
   have r := st2 r1 (.slice fa ss.length fc) (.int .i64 now)
   try simp at r
   have e0 := (Ia _ (w.heap.size + 1) 0 _ _ _ r).trans (show _ = some (Value.slice fa ss.length fc) from rfl)
   have e1 := (Ia _ (w.heap.size + 1) 1 _ _ _ r).trans (show _ = some (Value.int .i64 now) from rfl)
   have tt := ts2 wr (w.heap.size + 1) (.slice fa ss.length fc) (.int .i64 now)
   have PF1 := zh (Ka Jf hown tt (fun b h1 h2 => by have h3 : w.heap.size + 2 < b := h1; omega))
   clear r tt r0 r1 r2 hown hbel hd hfl
   go_wp2
   refine bodyPost_ret (v := .agg #[.slice fa ss.length fc, .int .i64 now]) ?_ rfl ⟨[.slice fa ss.length fc, .int .i64 now], rfl, tStore_mkO PF1.out (fun b h => by have h3 : w.heap.size + 2 < b := h; show w.heap.size ≤ b; omega), DF.out⟩
   simp [results, Tryz.f148, go_sem, e0, e1]
/-- The record of a row. -/
def recV (id : Int) (xs : List Int) : Value := .agg #[.int .i64 id, .int .i64 xs.length, .int .i64 (xs.getD 0 0), .int .i64 (xs.getD 1 0), .int .i64 (xs.getD 2 0)]
theorem info_size {P : Program} {e : TypeId} {z : Option Value} {n b : Nat} (h : (P.info? e).map (fun i => (i.zero, i.size, i.bytes)) = some (z, n, b)) : (P.info? e).map (·.size) = some n := by
 cases hq : P.info? e with
 | none => rw [hq] at h; simp at h
 | some i => rw [hq] at h; simp at h; simp [h.2.1]
theorem copy_src {w : World} {a : Option Addr} {cap g : Nat} {xs : List Int} (h : Uc w (.slice a xs.length cap) xs) : 0 < ((xs.take 3).map (Value.int .i64)).length → (some ⟨g, 2, none⟩ : Option Addr) = some ⟨g, 2, none⟩ ∧ ∃ ad, a = some ad ∧ ∀ j v, ((xs.take 3).map (Value.int .i64))[j]? = some v → w.cell? (ad.add j) = some v := by
 intro h0
 refine ⟨rfl, ?_⟩
 rcases h with ⟨rfl, _⟩ | ⟨b, off, cap', e, _, _, hc⟩
 ·
  simp at h0
 ·
  simp only [Ik] at e
  obtain ⟨rfl, _, _⟩ := e
  refine ⟨_, rfl, fun j v hj => ?_⟩
  rw [Go.WideShapes.add_plain]
  rw [List.getElem?_map, List.getElem?_take] at hj
  by_cases hlt : j < 3
  ·
   rw [if_pos hlt] at hj
   by_cases hl : j < xs.length
   ·
    rw [hc j hl]
    rw [Ih hl] at hj
    simpa [List.getD, hl] using hj
   ·
    rw [List.getElem?_eq_none (by omega)] at hj
    simp at hj
  ·
   rw [if_neg hlt] at hj
   simp at hj
theorem splice_rec (a b : Value) (xs : List Int) : splice [a, b, Ja, Ja, Ja] 2 ((xs.take 3).map (Value.int .i64)) = [a, b, .int .i64 (xs.getD 0 0), .int .i64 (xs.getD 1 0), .int .i64 (xs.getD 2 0)] := by
 match xs with
 | [] => rfl
 | [x] => rfl
 | [x, y] => rfl
 | x :: y :: z :: r => rfl
set_option maxHeartbeats 4000000 in
theorem recordOf_any (id : Int) (vv : Value) (xs : List Int) (w : World) (h : Uc w vv xs) (hn : xs.length ≤ 1048576) :
  Calls Tryz.prog 270 #[.agg #[.int .i64 id, vv]] w fun e w' => e = .returned (recV id xs) ∧ Below w w w' := by
 have H := Lib.hid h
 have HN := Lib.hid hn
 obtain ⟨va, vcap, rfl⟩ := Yg h
 clear h hn
 go_enter Tryz.func270, Tryz.ntmps270
 go_wp2
 have hh : Below w w (((w.alloc (.cells #[.int .i64 id, .slice va xs.length vcap] 75)).alloc (.cells #[Ja, Ja, Ja, Ja, Ja] 327)).alloc (.cells #[.int .i64 id, .int .i64 xs.length, Ja, Ja, Ja] 327)) := (((Il _ w).alloc (Ii _) _).alloc (by simp) _).alloc (by simp; omega) _
 have g2 : (((w.alloc (.cells #[.int .i64 id, .slice va xs.length vcap] 75)).alloc (.cells #[Ja, Ja, Ja, Ja, Ja] 327)).alloc (.cells #[.int .i64 id, .int .i64 xs.length, Ja, Ja, Ja] 327)).heap[w.heap.size + 2]? = some (.cells #[.int .i64 id, .int .i64 xs.length, Ja, Ja, Ja] 327 (0, 0)) := by
  have := Ic ((w.alloc (.cells #[.int .i64 id, .slice va xs.length vcap] 75)).alloc (.cells #[Ja, Ja, Ja, Ja, Ja] 327)) (.cells #[.int .i64 id, .int .i64 xs.length, Ja, Ja, Ja] 327)
  simpa only [Ie] using this
 have g1 : (((w.alloc (.cells #[.int .i64 id, .slice va xs.length vcap] 75)).alloc (.cells #[Ja, Ja, Ja, Ja, Ja] 327)).alloc (.cells #[.int .i64 id, .int .i64 xs.length, Ja, Ja, Ja] 327)).heap[w.heap.size + 1]? = some (.cells #[Ja, Ja, Ja, Ja, Ja] 327 (0, 0)) := by
  rw [Below.heap_alloc _ _ _ (by simp)]
  have := Ic (w.alloc (.cells #[.int .i64 id, .slice va xs.length vcap] 75)) (.cells #[Ja, Ja, Ja, Ja, Ja] 327)
  simpa only [Ie] using this
 have g0 : (((w.alloc (.cells #[.int .i64 id, .slice va xs.length vcap] 75)).alloc (.cells #[Ja, Ja, Ja, Ja, Ja] 327)).alloc (.cells #[.int .i64 id, .int .i64 xs.length, Ja, Ja, Ja] 327)).heap[w.heap.size]? = some (.cells #[.int .i64 id, .slice va xs.length vcap] 75 (0, 0)) := by
  rw [Below.heap_alloc _ _ _ (by simp; omega), Below.heap_alloc _ _ _ (by simp)]
  exact Ic w _
 have hs : (((w.alloc (.cells #[.int .i64 id, .slice va xs.length vcap] 75)).alloc (.cells #[Ja, Ja, Ja, Ja, Ja] 327)).alloc (.cells #[.int .i64 id, .int .i64 xs.length, Ja, Ja, Ja] 327)).heap.size = w.heap.size + 3 := by simp [Ie]
 generalize (((w.alloc (.cells #[.int .i64 id, .slice va xs.length vcap] 75)).alloc (.cells #[Ja, Ja, Ja, Ja, Ja] 327)).alloc (.cells #[.int .i64 id, .int .i64 xs.length, Ja, Ja, Ja] 327)) = W at *
 have b0 := Ia W _ 1 _ _ _ g0
 simp at b0
 have I2 := Kx H.out hh
 refine wp_region_held_drew (S := fun w' => w'.cell? ⟨w, 1, none⟩ = some (.slice va xs.length vcap)) (by kernel_rfl) b0 (fun hHeld => ?_)
 refine tQ (i := 0) ?_
 try simp only [Act.put, lA, lB, lC]
 refine tQ (i := 1) ?_
 try simp only [Act.put, lA, lB, lC]
 refine tQ (i := 2) ?_
 try simp only [Act.put, lA, lB, lC]
 refine tQ (i := 3) ?_
 try simp only [Act.put, lA, lB, lC]
 refine rA 4 (fun K hK => ?_)
 refine step_copy_splice rfl (.tmp 11) (.tmp 13) 25 25 rfl 3 Tryz.underlying25 (info_size Tryz.infoI64) _ _ _ _ _ _ rfl rfl (w.heap.size + 2) 2 [.int .i64 id, .int .i64 xs.length, Ja, Ja, Ja] _ g2 ((xs.take 3).map (Value.int .i64)) (by simp [Nat.min_comm]) (copy_src I2) (by simp; omega) (fun u hu => by obtain ⟨y, _, rfl⟩ := List.mem_map.1 hu; rfl) (w.heap.size + 2) W (Kc (Il _ W)) (Ii _) ?_
 intro W2 G2 bA
 rw [splice_rec] at G2
 have k0 := (bA.block w.heap.size (by omega)).trans g0
 have b1 := Ia W2 _ 1 _ _ _ k0
 simp at b1
 refine hK.out _ _ b1 (fun hHeld2 => ?_)
 clear hK K hHeld
 try simp only [Act.put, lA, lB, lC]
 refine wpAnyH_done (by kernel_rfl) ?_ _
 have k1 := (bA.block (w.heap.size + 1) (by omega)).trans g1
 have k2 := G2.out
 have hbb := hh.trans (bA.mono (by omega))
 clear G2 bA g0 g1 g2 I2 hHeld2 b0 b1 k0 hh hs
 obtain ⟨n, hn2⟩ : ∃ n : Nat, n = xs.length := ⟨_, rfl⟩
 have c0 := Ia W2 _ 0 _ _ _ k2
 have d0 := Ia W2 _ 0 _ _ _ k1
 have f0 := Ez W2 _ 0 _ _ k1
 have c1 := Ia W2 _ 1 _ _ _ k2
 have d1 := Ia W2 _ 1 _ _ _ k1
 have f1 := Ez W2 _ 1 _ _ k1
 have c2 := Ia W2 _ 2 _ _ _ k2
 have d2 := Ia W2 _ 2 _ _ _ k1
 have f2 := Ez W2 _ 2 _ _ k1
 have c3 := Ia W2 _ 3 _ _ _ k2
 have d3 := Ia W2 _ 3 _ _ _ k1
 have f3 := Ez W2 _ 3 _ _ k1
 have c4 := Ia W2 _ 4 _ _ _ k2
 have d4 := Ia W2 _ 4 _ _ _ k1
 have f4 := Ez W2 _ 4 _ _ k1
 simp at c0 c1 c2 c3 c4 d0 d1 d2 d3 d4
 clear k2 hn2
 generalize hx0 : xs[0]?.getD 0 = x0 at c2
 generalize hx1 : xs[1]?.getD 0 = x1 at c3
 generalize hx2 : xs[2]?.getD 0 = x2 at c4
 have HX := Lib.hid (And.intro hx0 (And.intro hx1 hx2))
 clear hx0 hx1 hx2
 go_wp2
 have r0 := Ib W2 (w.heap.size + 1) 0 _ _ (.int .i64 id) k1
 have r1 := Ib _ (w.heap.size + 1) 1 _ _ (.int .i64 xs.length) r0
 have r2 := Ib _ (w.heap.size + 1) 2 _ _ (.int .i64 x0) r1
 have r3 := Ib _ (w.heap.size + 1) 3 _ _ (.int .i64 x1) r2
 have r4 := Ib _ (w.heap.size + 1) 4 _ _ (.int .i64 x2) r3
 have B4 := (((((hbb.setCell (p := ⟨w.heap.size + 1, 0, none⟩) (by simp) (.int .i64 id)).setCell (p := ⟨w.heap.size + 1, 1, none⟩) (by simp) (.int .i64 xs.length)).setCell (p := ⟨w.heap.size + 1, 2, none⟩) (by simp) (.int .i64 x0)).setCell (p := ⟨w.heap.size + 1, 3, none⟩) (by simp) (.int .i64 x1)).setCell (p := ⟨w.heap.size + 1, 4, none⟩) (by simp) (.int .i64 x2))
 clear r0 r1 r2 r3 k1
 have e0 := Ia _ _ 0 _ _ _ r4
 have e1 := Ia _ _ 1 _ _ _ r4
 have e2 := Ia _ _ 2 _ _ _ r4
 have e3 := Ia _ _ 3 _ _ _ r4
 have e4 := Ia _ _ 4 _ _ _ r4
 simp at e0 e1 e2 e3 e4
 clear r4
 refine bodyPost_ret (v := .agg #[.int .i64 id, .int .i64 xs.length, .int .i64 x0, .int .i64 x1, .int .i64 x2]) ?_ rfl ?_
 ·
  simp [results, Tryz.f270, go_sem, e0, e1, e2, e3, e4]
 ·
  obtain ⟨rfl, rfl, rfl⟩ := HX.out
  exact ⟨by simp [recV], B4⟩
/-- A value moved into the range. -/
def limI (x : Int) : Int := min (max x 0) 99
theorem idx0 (a b c : Int) (w : World) : Sem.run Tryz.prog (Instr.index 325 (.agg #[.int .i64 a, .int .i64 b, .int .i64 c]) Ja) w = .ok (.int .i64 a) w := by
 have u := Tryz.underlying325
 have z := Tryz.sizeOf3
 have g := Tryz.isAgg3
 unfold Instr.index
 go_simp
theorem idx1 (a b c : Int) (w : World) : Sem.run Tryz.prog (Instr.index 325 (.agg #[.int .i64 a, .int .i64 b, .int .i64 c]) (.int .i64 1)) w = .ok (.int .i64 b) w := by
 have u := Tryz.underlying325
 have z := Tryz.sizeOf3
 have g := Tryz.isAgg3
 unfold Instr.index
 go_simp
theorem idx2 (a b c : Int) (w : World) : Sem.run Tryz.prog (Instr.index 325 (.agg #[.int .i64 a, .int .i64 b, .int .i64 c]) (.int .i64 2)) w = .ok (.int .i64 c) w := by
 have u := Tryz.underlying325
 have z := Tryz.sizeOf3
 have g := Tryz.isAgg3
 unfold Instr.index
 go_simp
set_option maxHeartbeats 4000000 in
theorem limited_any (a b c : Int) (w : World) :
  Calls Tryz.prog 284 #[.agg #[.int .i64 a, .int .i64 b, .int .i64 c]] w fun e w' => e = .returned (.agg #[.int .i64 (limI a), .int .i64 (limI b), .int .i64 (limI c)]) ∧ Below w w w' := by
 have i0 := idx0 a b c
 have i1 := idx1 a b c
 have i2 := idx2 a b c
 go_enter Tryz.func284, Tryz.ntmps284
 go_wp2
 refine wp_loop_rounds 4 ?_
 rw [rounds_succ]
 go_wp2
 rw [rounds_succ]
 go_wp2
 rw [rounds_succ]
 go_wp2
 rw [rounds_succ]
 go_wp2
 refine bodyPost_ret (v := .agg #[.int .i64 (limI a), .int .i64 (limI b), .int .i64 (limI c)]) ?_ rfl ?_
 ·
  simp [results, Tryz.f284, go_sem, limI]
 refine ⟨rfl, ?_⟩
 exact ((Il _ w).alloc (Ii _) _).alloc (by simp) _
theorem eqIn_arr (d : Nat) (a b c x y z : Int) (w : World) : (Op.equalIn (d + 2) 325 (.agg #[.int .i64 a, .int .i64 b, .int .i64 c]) (.agg #[.int .i64 x, .int .i64 y, .int .i64 z])).run Tryz.prog w = .ok (a == x && b == y && c == z) w := by
 have u := Tryz.underlying325
 have u3 := Tryz.underlying3
 have z3 := Tryz.sizeOf3
 have g := Tryz.isAgg3
 rw [Op.equalIn]
 simp only [Sem.run_bind, run_underlying u, Result.andThen_ok, z3]
 simp only [Std.Legacy.Range.forIn_eq_forIn_range', Std.Legacy.Range.size]
 simp [List.range', g, z3, go_sem, run_equalIn_int (P := Tryz.prog) _ d _ _ _ _ _ u3]
 by_cases h1 : a = x <;> by_cases h2 : b = y <;> by_cases h3 : c = z <;> simp [h1, h2, h3]
theorem eql_arr (a b c x y z : Int) (w : World) : Sem.run Tryz.prog (binOp .eql 325 (.agg #[.int .i64 a, .int .i64 b, .int .i64 c]) (.agg #[.int .i64 x, .int .i64 y, .int .i64 z])) w = .ok (.bool (a == x && b == y && c == z)) w := by
 rw [run_eql_struct, show (10000 : Nat) = 9998 + 2 from rfl, eqIn_arr]
 rfl
theorem guard_arr (o1 o2 : Operand) (xs ys : Array Value) (w : World) : Sem.run Tryz.prog (eqGuard .eql 325 o1 o2 (.agg xs) (.agg ys)) w = .ok () w := run_eqGuard_agg w _ _ _ _ _ _ (by kernel_rfl)
theorem isRowId_yes (id : Int) (w : World) (h1 : 0 ≤ id) (h2 : id ≤ 999) : Calls Tryz.prog 283 #[.int .i64 id] w fun e w' => e = .returned (.bool true) ∧ w' = w := by
 go_enter Tryz.func283, Tryz.ntmps283
 go_wp2
 go_ret
 exact ⟨rfl, rfl⟩
theorem isRowId_no (id : Int) (w : World) (h : ¬ (0 ≤ id ∧ id ≤ 999)) : Calls Tryz.prog 283 #[.int .i64 id] w fun e w' => e = .returned (.bool false) ∧ w' = w := by
 by_cases h1 : 0 ≤ id
 ·
  have h2 : ¬ id ≤ 999 := fun g => h ⟨h1, g⟩
  clear h
  go_enter Tryz.func283, Tryz.ntmps283
  go_wp2
  go_ret
  exact ⟨rfl, rfl⟩
 ·
  clear h
  go_enter Tryz.func283, Tryz.ntmps283
  go_wp2
  go_ret
  exact ⟨rfl, rfl⟩
/-- Is a record valid? -/
def recB (id n a b c : Int) : Bool := decide (0 ≤ id ∧ id ≤ 999) && (decide (n = 3) && (a == limI a && b == limI b && c == limI c))
theorem lim_in (x : Int) : (x == limI x) = decide (0 ≤ x ∧ x ≤ 99) := by
 unfold limI
 by_cases h : 0 ≤ x ∧ x ≤ 99
 ·
  rw [decide_eq_true h, beq_iff_eq]; omega
 ·
  rw [decide_eq_false h, beq_eq_false_iff_ne]; omega
theorem recB_row (id : Int) (xs : List Int) : recB id xs.length (xs.getD 0 0) (xs.getD 1 0) (xs.getD 2 0) = Ui (id, xs) := by
 unfold recB Ui
 simp only [lim_in]
 match xs with
 | [] => simp
 | [x] => simp
 | [x, y] => simp
 | [x, y, z] => simp [List.all, Bool.and_assoc]
 | x :: y :: z :: u :: r =>
  have : ¬ ((r.length : Int) + 1 + 1 + 1 + 1 = 3) := by omega
  simp [this]
theorem below_from {W w8 w9 : World} (h : w8 = W.drew) (b : Below w8 w8 w9) : Below W W w9 := by subst h; exact ⟨b.os, b.tape, b.output, b.size, b.block⟩
set_option maxHeartbeats 8000000 in
theorem isValid_id (id n a b c : Int) (w : World) (h : ¬ (0 ≤ id ∧ id ≤ 999)) :
  Calls Tryz.prog 271 #[.agg #[.int .i64 id, .int .i64 n, .int .i64 a, .int .i64 b, .int .i64 c]] w fun e w' => e = .returned (.bool (false)) ∧ Below w w w' := by
 have HI := Lib.hid (fun w => isRowId_no id w h)
 clear h
 go_enter Tryz.func271, Tryz.ntmps271
 go_wp2
 have hh : Below w w (w.alloc (.cells #[.int .i64 id, .int .i64 n, .int .i64 a, .int .i64 b, .int .i64 c] 327)) := (Il _ w).alloc (Ii _) _
 have g0 := Ic w (.cells #[.int .i64 id, .int .i64 n, .int .i64 a, .int .i64 b, .int .i64 c] 327)
 have hlt : w.heap.size < (w.alloc (.cells #[.int .i64 id, .int .i64 n, .int .i64 a, .int .i64 b, .int .i64 c] 327)).heap.size := by simp
 generalize w.alloc (.cells #[.int .i64 id, .int .i64 n, .int .i64 a, .int .i64 b, .int .i64 c] 327) = W at *
 have q0 := Ia W _ 0 _ _ _ g0
 have q1 := Ia W _ 1 _ _ _ g0
 have q2 := Ia W _ 2 _ _ _ g0
 have q3 := Ia W _ 3 _ _ _ g0
 have q4 := Ia W _ 4 _ _ _ g0
 simp at q0 q1 q2 q3 q4
 refine wp_region_held_drew (S := fun w' => w'.cell? ⟨w, 0, none⟩ = some (.int .i64 id) ∧ w'.cell? ⟨w, 1, none⟩ = some (.int .i64 n) ∧ w'.cell? ⟨w, 2, none⟩ = some (.int .i64 a) ∧ w'.cell? ⟨w, 3, none⟩ = some (.int .i64 b) ∧ w'.cell? ⟨w, 4, none⟩ = some (.int .i64 c)) (by kernel_rfl) ⟨q0, q1, q2, q3, q4⟩ (fun hHeld => ?_)
 refine tQ (i := 0) ?_
 try simp only [Act.put, lA, lB, lC]
 refine tQ (i := 1) ?_
 try simp only [Act.put, lA, lB, lC]
 refine rA 2 (fun K hK => ?_)
 go_simp
 refine (HI.out _).mono ?_
 rintro e w8 ⟨rfl, rfl⟩
 refine hK.out _ _ ⟨q0, q1, q2, q3, q4⟩ (fun hHeld => ?_)
 clear hK K
 try simp only [Act.put, lA, lB, lC]
 refine tQ (i := 3) ?_
 try simp only [Act.put, lA, lB, lC]
 refine tO (i := 4) ?_
 try simp only [Act.put, lA, lB, lC]
 refine tO (i := 5) ?_
 try simp only [Act.put, lA, lB, lC]
 refine tO (i := 6) ?_
 try simp only [Act.put, lA, lB, lC]
 refine tQ (i := 7) ?_
 try simp only [Act.put, lA, lB, lC]
 refine tQ (i := 8) ?_
 try simp only [Act.put, lA, lB, lC]
 refine tO (i := 9) ?_
 try simp only [Act.put, lA, lB, lC]
 refine tO (i := 10) ?_
 try simp only [Act.put, lA, lB, lC]
 refine tO (i := 11) ?_
 try simp only [Act.put, lA, lB, lC]
 refine tO (i := 12) ?_
 try simp only [Act.put, lA, lB, lC]
 refine tO (i := 13) ?_
 try simp only [Act.put, lA, lB, lC]
 refine tO (i := 14) ?_
 try simp only [Act.put, lA, lB, lC]
 refine tQ (i := 15) ?_
 try simp only [Act.put, lA, lB, lC]
 refine tQ (i := 16) ?_
 try simp only [Act.put, lA, lB, lC]
 refine wpAnyH_done (by kernel_rfl) ?_ _
 have b11 : Below w w W.drew := Kc hh
 clear hHeld
 go_wp2
 go_ret
 exact ⟨rfl, b11⟩
set_option maxHeartbeats 8000000 in
theorem isValid_count (id n a b c : Int) (w : World) (h1 : 0 ≤ id) (h2 : id ≤ 999) (h3 : ¬ n = 3) :
  Calls Tryz.prog 271 #[.agg #[.int .i64 id, .int .i64 n, .int .i64 a, .int .i64 b, .int .i64 c]] w fun e w' => e = .returned (.bool (false)) ∧ Below w w w' := by
 have HI := Lib.hid (fun w => isRowId_yes id w h1 h2)
 clear h1 h2
 have hd : (n == 3) = false := by simpa using h3
 clear h3
 go_enter Tryz.func271, Tryz.ntmps271
 go_wp2
 have hh : Below w w (w.alloc (.cells #[.int .i64 id, .int .i64 n, .int .i64 a, .int .i64 b, .int .i64 c] 327)) := (Il _ w).alloc (Ii _) _
 have g0 := Ic w (.cells #[.int .i64 id, .int .i64 n, .int .i64 a, .int .i64 b, .int .i64 c] 327)
 have hlt : w.heap.size < (w.alloc (.cells #[.int .i64 id, .int .i64 n, .int .i64 a, .int .i64 b, .int .i64 c] 327)).heap.size := by simp
 generalize w.alloc (.cells #[.int .i64 id, .int .i64 n, .int .i64 a, .int .i64 b, .int .i64 c] 327) = W at *
 have q0 := Ia W _ 0 _ _ _ g0
 have q1 := Ia W _ 1 _ _ _ g0
 have q2 := Ia W _ 2 _ _ _ g0
 have q3 := Ia W _ 3 _ _ _ g0
 have q4 := Ia W _ 4 _ _ _ g0
 simp at q0 q1 q2 q3 q4
 refine wp_region_held_drew (S := fun w' => w'.cell? ⟨w, 0, none⟩ = some (.int .i64 id) ∧ w'.cell? ⟨w, 1, none⟩ = some (.int .i64 n) ∧ w'.cell? ⟨w, 2, none⟩ = some (.int .i64 a) ∧ w'.cell? ⟨w, 3, none⟩ = some (.int .i64 b) ∧ w'.cell? ⟨w, 4, none⟩ = some (.int .i64 c)) (by kernel_rfl) ⟨q0, q1, q2, q3, q4⟩ (fun hHeld => ?_)
 refine tQ (i := 0) ?_
 try simp only [Act.put, lA, lB, lC]
 refine tQ (i := 1) ?_
 try simp only [Act.put, lA, lB, lC]
 refine rA 2 (fun K hK => ?_)
 go_simp
 refine (HI.out _).mono ?_
 rintro e w8 ⟨rfl, rfl⟩
 refine hK.out _ _ ⟨q0, q1, q2, q3, q4⟩ (fun hHeld => ?_)
 clear hK K
 try simp only [Act.put, lA, lB, lC]
 refine tQ (i := 3) ?_
 try simp only [Act.put, lA, lB, lC]
 refine tQ (i := 4) ?_
 try simp only [Act.put, lA, lB, lC]
 refine tQ (i := 5) ?_
 try simp only [Act.put, lA, lB, lC]
 refine tQ (i := 6) ?_
 try simp only [Act.put, lA, lB, lC]
 refine tQ (i := 7) ?_
 try simp only [Act.put, lA, lB, lC]
 refine tQ (i := 8) ?_
 try simp only [Act.put, lA, lB, lC]
 refine tO (i := 9) ?_
 try simp only [Act.put, lA, lB, lC]
 refine tO (i := 10) ?_
 try simp only [Act.put, lA, lB, lC]
 refine tO (i := 11) ?_
 try simp only [Act.put, lA, lB, lC]
 refine tO (i := 12) ?_
 try simp only [Act.put, lA, lB, lC]
 refine tO (i := 13) ?_
 try simp only [Act.put, lA, lB, lC]
 refine tO (i := 14) ?_
 try simp only [Act.put, lA, lB, lC]
 refine tQ (i := 15) ?_
 try simp only [Act.put, lA, lB, lC]
 refine tQ (i := 16) ?_
 try simp only [Act.put, lA, lB, lC]
 refine wpAnyH_done (by kernel_rfl) ?_ _
 have b11 : Below w w W.drew := Kc hh
 clear hHeld
 go_wp2
 go_ret
 exact ⟨rfl, b11⟩
set_option maxHeartbeats 8000000 in
theorem isValid_all (id n a b c : Int) (w : World) (h1 : 0 ≤ id) (h2 : id ≤ 999) (h3 : n = 3) :
  Calls Tryz.prog 271 #[.agg #[.int .i64 id, .int .i64 n, .int .i64 a, .int .i64 b, .int .i64 c]] w fun e w' => e = .returned (.bool (a == limI a && b == limI b && c == limI c)) ∧ Below w w w' := by
 have HI := Lib.hid (fun w => isRowId_yes id w h1 h2)
 clear h1 h2
 have hd : (n == 3) = true := by simpa using h3
 clear h3
 have HL := Lib.hid (fun w => limited_any a b c w)
 have he := fun w => eql_arr a b c (limI a) (limI b) (limI c) w
 have hgd := fun (o1 o2 : Operand) (xs ys : Array Value) (w : World) => guard_arr o1 o2 xs ys w
 generalize hr : (a == limI a && b == limI b && c == limI c) = r at he ⊢
 clear hr
 go_enter Tryz.func271, Tryz.ntmps271
 go_wp2
 have hh : Below w w (w.alloc (.cells #[.int .i64 id, .int .i64 n, .int .i64 a, .int .i64 b, .int .i64 c] 327)) := (Il _ w).alloc (Ii _) _
 have g0 := Ic w (.cells #[.int .i64 id, .int .i64 n, .int .i64 a, .int .i64 b, .int .i64 c] 327)
 have hlt : w.heap.size < (w.alloc (.cells #[.int .i64 id, .int .i64 n, .int .i64 a, .int .i64 b, .int .i64 c] 327)).heap.size := by simp
 generalize w.alloc (.cells #[.int .i64 id, .int .i64 n, .int .i64 a, .int .i64 b, .int .i64 c] 327) = W at *
 have q0 := Ia W _ 0 _ _ _ g0
 have q1 := Ia W _ 1 _ _ _ g0
 have q2 := Ia W _ 2 _ _ _ g0
 have q3 := Ia W _ 3 _ _ _ g0
 have q4 := Ia W _ 4 _ _ _ g0
 simp at q0 q1 q2 q3 q4
 refine wp_region_held_drew (S := fun w' => w'.cell? ⟨w, 0, none⟩ = some (.int .i64 id) ∧ w'.cell? ⟨w, 1, none⟩ = some (.int .i64 n) ∧ w'.cell? ⟨w, 2, none⟩ = some (.int .i64 a) ∧ w'.cell? ⟨w, 3, none⟩ = some (.int .i64 b) ∧ w'.cell? ⟨w, 4, none⟩ = some (.int .i64 c)) (by kernel_rfl) ⟨q0, q1, q2, q3, q4⟩ (fun hHeld => ?_)
 refine tQ (i := 0) ?_
 try simp only [Act.put, lA, lB, lC]
 refine tQ (i := 1) ?_
 try simp only [Act.put, lA, lB, lC]
 refine rA 2 (fun K hK => ?_)
 go_simp
 refine (HI.out _).mono ?_
 rintro e w8 ⟨rfl, rfl⟩
 refine hK.out _ _ ⟨q0, q1, q2, q3, q4⟩ (fun hHeld => ?_)
 clear hK K
 try simp only [Act.put, lA, lB, lC]
 refine tQ (i := 3) ?_
 try simp only [Act.put, lA, lB, lC]
 refine tQ (i := 4) ?_
 try simp only [Act.put, lA, lB, lC]
 refine tQ (i := 5) ?_
 try simp only [Act.put, lA, lB, lC]
 refine tQ (i := 6) ?_
 try simp only [Act.put, lA, lB, lC]
 refine tQ (i := 7) ?_
 try simp only [Act.put, lA, lB, lC]
 refine tQ (i := 8) ?_
 try simp only [Act.put, lA, lB, lC]
 refine tQ (i := 9) ?_
 try simp only [Act.put, lA, lB, lC]
 refine tQ (i := 10) ?_
 try simp only [Act.put, lA, lB, lC]
 refine tQ (i := 11) ?_
 try simp only [Act.put, lA, lB, lC]
 refine tQ (i := 12) ?_
 try simp only [Act.put, lA, lB, lC]
 refine rA 13 (fun K hK => ?_)
 go_simp
 refine (HL.out _).mono ?_
 rintro e w9 ⟨rfl, b9⟩
 have b10 : Below W W w9 := below_from rfl b9
 have g2 := (b10.block w.heap.size hlt).trans g0
 have r0 := Ia w9 _ 0 _ _ _ g2
 have r1 := Ia w9 _ 1 _ _ _ g2
 have r2 := Ia w9 _ 2 _ _ _ g2
 have r3 := Ia w9 _ 3 _ _ _ g2
 have r4 := Ia w9 _ 4 _ _ _ g2
 simp at r0 r1 r2 r3 r4
 refine hK.out _ _ ⟨r0, r1, r2, r3, r4⟩ (fun hHeld => ?_)
 clear hK K
 try simp only [Act.put, lA, lB, lC]
 refine tQ (i := 14) ?_
 try simp only [Act.put, lA, lB, lC]
 refine tQ (i := 15) ?_
 try simp only [Act.put, lA, lB, lC]
 refine tQ (i := 16) ?_
 try simp only [Act.put, lA, lB, lC]
 refine wpAnyH_done (by kernel_rfl) ?_ _
 have b11 := hh.trans (b10.mono hh.size)
 clear hHeld b9 b10
 go_wp2
 go_ret
 exact ⟨rfl, b11⟩
theorem isValid_any (id n a b c : Int) (w : World) :
  Calls Tryz.prog 271 #[.agg #[.int .i64 id, .int .i64 n, .int .i64 a, .int .i64 b, .int .i64 c]] w fun e w' => e = .returned (.bool (recB id n a b c)) ∧ Below w w w' := by
 by_cases h : 0 ≤ id ∧ id ≤ 999
 ·
  by_cases h3 : n = 3
  ·
   have e : recB id n a b c = (a == limI a && b == limI b && c == limI c) := by unfold recB; rw [decide_eq_true h, decide_eq_true h3]; simp
   rw [e]
   exact isValid_all id n a b c w h.1 h.2 h3
  ·
   have e : recB id n a b c = false := by unfold recB; rw [decide_eq_false h3]; simp
   rw [e]
   exact isValid_count id n a b c w h.1 h.2 h3
 ·
  have e : recB id n a b c = false := by unfold recB; rw [decide_eq_false h]; simp
  rw [e]
  exact isValid_id id n a b c w h
set_option maxHeartbeats 4000000 in
theorem implIsRow (id : Int) (vv : Value) (xs : List Int) (w : World) (h : Uc w vv xs) (hn : xs.length ≤ 1048576) :
  Calls Tryz.prog 242 #[.agg #[.int .i64 id, vv]] w fun e w' => e = .returned (.bool (Ui (id, xs))) ∧ Below w w w' := by
 have HR := Lib.hid (fun w h => recordOf_any id vv xs w h hn)
 have HV := Lib.hid (fun w => isValid_any id xs.length (xs.getD 0 0) (xs.getD 1 0) (xs.getD 2 0) w)
 rw [recB_row] at HV
 have H := Lib.hid h
 unfold recV at HR
 clear h hn
 generalize xs.getD 0 0 = x0 at *
 generalize xs.getD 1 0 = x1 at *
 generalize xs.getD 2 0 = x2 at *
 generalize Ui (id, xs) = r at *
 go_enter Tryz.func242, Tryz.ntmps242
 go_wp2_with fail
 have hb : Below w w (w.alloc (.cells #[.int .i64 id, vv] 75)) := (Il _ w).alloc (Ii _) _
 refine (HR.out _ (Kx H.out hb)).mono ?_
 rintro e w1 ⟨rfl, b1⟩
 have b2 := hb.trans (b1.mono hb.size)
 clear hb b1
 go_wp2_with fail
 refine (HV.out _).mono ?_
 rintro e w2 ⟨rfl, b3⟩
 have b4 := b2.trans (b3.mono b2.size)
 clear b2 b3
 go_wp2
 go_ret
 exact ⟨rfl, b4⟩
set_option maxHeartbeats 4000000 in
theorem implVisible (id born died t : Int) (vv : Value) (w : World) :
  Calls Tryz.prog 269 #[.agg #[.int .i64 id, vv, .int .i64 born, .int .i64 died], .int .i64 t] w fun e w' => e = .returned (.bool (decide (Uz born died t))) ∧ Below w w w' := by
 have hb : Below w w (w.alloc (.cells #[.int .i64 id, vv, .int .i64 born, .int .i64 died] 212)) := (Il _ w).alloc (Ii _) _
 by_cases h1 : born ≤ t
 ·
  by_cases h2 : died = -1
  ·
   have HD : Hid (decide (Uz born died t) = true) := zh (decide_eq_true ⟨h1, Or.inl h2⟩)
   have e2 : (died == -1) = true := by simp [h2]
   clear h2
   rw [HD.out]
   go_enter Tryz.func269, Tryz.ntmps269
   go_wp2
   go_ret
   exact ⟨rfl, hb⟩
  ·
   have e2 : (died == -1) = false := by simp [h2]
   by_cases h3 : t < died
   ·
    have HD : Hid (decide (Uz born died t) = true) := zh (decide_eq_true ⟨h1, Or.inr h3⟩)
    clear h2
    rw [HD.out]
    go_enter Tryz.func269, Tryz.ntmps269
    go_wp2
    go_ret
    exact ⟨Jy (by simp [h3]), hb⟩
   ·
    have HD : Hid (decide (Uz born died t) = false) := zh (decide_eq_false (fun g => by unfold Uz at g; omega))
    have e3 : decide (t < died) = false := decide_eq_false h3
    clear h2
    rw [HD.out]
    go_enter Tryz.func269, Tryz.ntmps269
    go_wp2
    go_ret
    exact ⟨Jy (by first | rfl | simp [h3]), hb⟩
 ·
  have HD : Hid (decide (Uz born died t) = false) := zh (decide_eq_false (fun g => h1 g.1))
  rw [HD.out]
  go_enter Tryz.func269, Tryz.ntmps269
  go_wp2
  go_ret
  exact ⟨rfl, hb⟩
set_option maxHeartbeats 4000000 in
theorem Eg (id born died : Int) (va : Option Addr) (n vc : Nat) (w : World) :
  Calls Tryz.prog 265 #[.agg #[.int .i64 id, .slice va n vc, .int .i64 born, .int .i64 died]] w fun e w' => e = .returned (.agg #[.int .i64 id, .slice va n vc]) ∧ Below w w w' := by
 have d0 := zh (show Below w w ((w.alloc (.cells #[.int .i64 id, .slice va n vc, .int .i64 born, .int .i64 died] 212)).alloc (.cells #[.int .i64 id, .slice va n vc] 75)) from ((Il _ w).alloc (Ii _) _).alloc (by simp) _)
 have k1 : ((w.alloc (.cells #[.int .i64 id, .slice va n vc, .int .i64 born, .int .i64 died] 212)).alloc (.cells #[.int .i64 id, .slice va n vc] 75)).heap[w.heap.size + 1]? = some (.cells #[.int .i64 id, .slice va n vc] 75 (0, 0)) := by
  have := Ic (w.alloc (.cells #[.int .i64 id, .slice va n vc, .int .i64 born, .int .i64 died] 212)) (.cells #[.int .i64 id, .slice va n vc] 75)
  simpa only [Ie] using this
 have e0 := Ia _ _ 0 _ _ _ k1
 have e1 := Ia _ _ 1 _ _ _ k1
 simp at e0 e1
 have E0 := zh e0
 have E1 := zh e1
 clear k1 e0 e1
 go_enter Tryz.func265, Tryz.ntmps265
 go_wp2
 refine bodyPost_ret (v := .agg #[.int .i64 id, .slice va n vc]) ?_ rfl ?_
 ·
  have e0 := E0.out
  have e1 := E1.out
  simp [results, Tryz.f265, go_sem, e0, e1]
 ·
  exact ⟨rfl, d0.out⟩
set_option maxHeartbeats 8000000 in
theorem isVersion_any (id born died now : Int) (vv : Value) (xs : List Int) (w : World) (h : Uc w vv xs) (hn : xs.length ≤ 1048576) :
  Calls Tryz.prog 237 #[.agg #[.int .i64 id, vv, .int .i64 born, .int .i64 died], .int .i64 now] w fun e w' => e = .returned (.bool (verB (id, xs, born, died) now)) ∧ Below w w w' := by
 obtain ⟨va, vc, rfl⟩ := Yg h
 have HR := zh (fun W g => implIsRow id (.slice va xs.length vc) xs W g hn)
 have H := zh h
 have d0 := zh (show Below w w (w.alloc (.cells #[.int .i64 id, .slice va xs.length vc, .int .i64 born, .int .i64 died] 212)) from (Il _ _).alloc (Ii _) _)
 have B0 : Hid ((w.alloc (.cells #[.int .i64 id, .slice va xs.length vc, .int .i64 born, .int .i64 died] 212)).heap[w.heap.size]? = some (.cells #[.int .i64 id, .slice va xs.length vc, .int .i64 born, .int .i64 died] 212 (0, 0))) := zh (Ic w _)
 have Y0 : Hid (w.heap.size < (w.alloc (.cells #[.int .i64 id, .slice va xs.length vc, .int .i64 born, .int .i64 died] 212)).heap.size) := zh (by simp [Ie])
 have HV : Hid (∀ r l, Ui (id, xs) = r → decide (Uj born died now) = l → verB (id, xs, born, died) now = (r && l)) := zh (fun r l h1 h2 => by unfold verB; rw [h1]; show (r && decide (Uj born died now)) = _; rw [h2])
 clear h hn
 cases hr : Ui (id, xs) with
 | false =>
  rw [hr] at HR
  rw [HV.out _ _ hr rfl, Bool.false_and]
  clear hr HV
  go_enter Tryz.func237, Tryz.ntmps237
  go_wp2_with fail
  generalize w.alloc (.cells #[.int .i64 id, .slice va xs.length vc, .int .i64 born, .int .i64 died] 212) = W at *
  refine (Eg id born died va xs.length vc W).mono ?_
  rintro e w0 ⟨rfl, b0⟩
  have D0 := zh (d0.out.trans (b0.mono d0.out.size))
  have K0 := zh ((b0.block w.heap.size Y0.out).trans B0.out)
  have YY := zh (Nat.lt_of_lt_of_le Y0.out b0.size)
  clear b0
  go_wp2_with fail
  refine (HR.out w0 (Kx H.out D0.out)).mono ?_
  rintro e w1 ⟨rfl, b1⟩
  have k0 := (b1.block w.heap.size YY.out).trans K0.out
  have b2 := D0.out.trans (b1.mono D0.out.size)
  go_wp2
  go_ret
  exact ⟨rfl, b2⟩
 | true =>
  rw [hr] at HR
  have HV2 := zh (fun l => HV.out _ l hr)
  clear hr HV
  by_cases h1 : 0 ≤ born
  rotate_left
  ·
   have e1 : decide (0 ≤ born) = false := decide_eq_false h1
   have hl : decide (Uj born died now) = false := decide_eq_false (fun g => by unfold Uj at g; omega)
   rw [HV2.out _ hl]
   clear hl
   go_enter Tryz.func237, Tryz.ntmps237
   go_wp2_with fail
   generalize w.alloc (.cells #[.int .i64 id, .slice va xs.length vc, .int .i64 born, .int .i64 died] 212) = W at *
   refine (Eg id born died va xs.length vc W).mono ?_
   rintro e w0 ⟨rfl, b0⟩
   have D0 := zh (d0.out.trans (b0.mono d0.out.size))
   have K0 := zh ((b0.block w.heap.size Y0.out).trans B0.out)
   have YY := zh (Nat.lt_of_lt_of_le Y0.out b0.size)
   clear b0
   go_wp2_with fail
   refine (HR.out w0 (Kx H.out D0.out)).mono ?_
   rintro e w1 ⟨rfl, b1⟩
   have k0 := (b1.block w.heap.size YY.out).trans K0.out
   have b2 := D0.out.trans (b1.mono D0.out.size)
   have p0 := cr 0 (Value.int .i64 id) k0
   have p1 := cr 1 (Value.slice va xs.length vc) k0
   have p2 := cr 2 (Value.int .i64 born) k0
   have p3 := cr 3 (Value.int .i64 died) k0
   clear k0
   go_wp2
   go_ret
   exact ⟨Jy (by first | rfl | simp [*]), b2⟩
  by_cases h2 : born ≤ now
  rotate_left
  ·
   have e2 : decide (born ≤ now) = false := decide_eq_false h2
   have hl : decide (Uj born died now) = false := decide_eq_false (fun g => by unfold Uj at g; omega)
   rw [HV2.out _ hl]
   clear hl
   go_enter Tryz.func237, Tryz.ntmps237
   go_wp2_with fail
   generalize w.alloc (.cells #[.int .i64 id, .slice va xs.length vc, .int .i64 born, .int .i64 died] 212) = W at *
   refine (Eg id born died va xs.length vc W).mono ?_
   rintro e w0 ⟨rfl, b0⟩
   have D0 := zh (d0.out.trans (b0.mono d0.out.size))
   have K0 := zh ((b0.block w.heap.size Y0.out).trans B0.out)
   have YY := zh (Nat.lt_of_lt_of_le Y0.out b0.size)
   clear b0
   go_wp2_with fail
   refine (HR.out w0 (Kx H.out D0.out)).mono ?_
   rintro e w1 ⟨rfl, b1⟩
   have k0 := (b1.block w.heap.size YY.out).trans K0.out
   have b2 := D0.out.trans (b1.mono D0.out.size)
   have p0 := cr 0 (Value.int .i64 id) k0
   have p1 := cr 1 (Value.slice va xs.length vc) k0
   have p2 := cr 2 (Value.int .i64 born) k0
   have p3 := cr 3 (Value.int .i64 died) k0
   clear k0
   go_wp2
   go_ret
   exact ⟨Jy (by first | rfl | simp [*]), b2⟩
  by_cases h3 : died = -1
  ·
   have e3 : (died == -1) = true := by simp [h3]
   have hl : decide (Uj born died now) = true := decide_eq_true ⟨h1, h2, Or.inl h3⟩
   rw [HV2.out _ hl]
   clear hl h3
   go_enter Tryz.func237, Tryz.ntmps237
   go_wp2_with fail
   generalize w.alloc (.cells #[.int .i64 id, .slice va xs.length vc, .int .i64 born, .int .i64 died] 212) = W at *
   refine (Eg id born died va xs.length vc W).mono ?_
   rintro e w0 ⟨rfl, b0⟩
   have D0 := zh (d0.out.trans (b0.mono d0.out.size))
   have K0 := zh ((b0.block w.heap.size Y0.out).trans B0.out)
   have YY := zh (Nat.lt_of_lt_of_le Y0.out b0.size)
   clear b0
   go_wp2_with fail
   refine (HR.out w0 (Kx H.out D0.out)).mono ?_
   rintro e w1 ⟨rfl, b1⟩
   have k0 := (b1.block w.heap.size YY.out).trans K0.out
   have b2 := D0.out.trans (b1.mono D0.out.size)
   have p0 := cr 0 (Value.int .i64 id) k0
   have p1 := cr 1 (Value.slice va xs.length vc) k0
   have p2 := cr 2 (Value.int .i64 born) k0
   have p3 := cr 3 (Value.int .i64 died) k0
   clear k0
   go_wp2
   go_ret
   exact ⟨Jy (by first | rfl | simp [*]), b2⟩
  have e3 : (died == -1) = false := by simp [h3]
  by_cases h4 : born < died
  rotate_left
  ·
   have e4 : decide (born < died) = false := decide_eq_false h4
   have hl : decide (Uj born died now) = false := decide_eq_false (fun g => by unfold Uj at g; omega)
   rw [HV2.out _ hl]
   clear hl h3
   go_enter Tryz.func237, Tryz.ntmps237
   go_wp2_with fail
   generalize w.alloc (.cells #[.int .i64 id, .slice va xs.length vc, .int .i64 born, .int .i64 died] 212) = W at *
   refine (Eg id born died va xs.length vc W).mono ?_
   rintro e w0 ⟨rfl, b0⟩
   have D0 := zh (d0.out.trans (b0.mono d0.out.size))
   have K0 := zh ((b0.block w.heap.size Y0.out).trans B0.out)
   have YY := zh (Nat.lt_of_lt_of_le Y0.out b0.size)
   clear b0
   go_wp2_with fail
   refine (HR.out w0 (Kx H.out D0.out)).mono ?_
   rintro e w1 ⟨rfl, b1⟩
   have k0 := (b1.block w.heap.size YY.out).trans K0.out
   have b2 := D0.out.trans (b1.mono D0.out.size)
   have p0 := cr 0 (Value.int .i64 id) k0
   have p1 := cr 1 (Value.slice va xs.length vc) k0
   have p2 := cr 2 (Value.int .i64 born) k0
   have p3 := cr 3 (Value.int .i64 died) k0
   clear k0
   go_wp2
   go_ret
   exact ⟨Jy (by first | rfl | simp [*]), b2⟩
  by_cases h5 : died ≤ now
  ·
   have hl : decide (Uj born died now) = true := decide_eq_true ⟨h1, h2, Or.inr ⟨h4, h5⟩⟩
   rw [HV2.out _ hl]
   clear hl h3
   go_enter Tryz.func237, Tryz.ntmps237
   go_wp2_with fail
   generalize w.alloc (.cells #[.int .i64 id, .slice va xs.length vc, .int .i64 born, .int .i64 died] 212) = W at *
   refine (Eg id born died va xs.length vc W).mono ?_
   rintro e w0 ⟨rfl, b0⟩
   have D0 := zh (d0.out.trans (b0.mono d0.out.size))
   have K0 := zh ((b0.block w.heap.size Y0.out).trans B0.out)
   have YY := zh (Nat.lt_of_lt_of_le Y0.out b0.size)
   clear b0
   go_wp2_with fail
   refine (HR.out w0 (Kx H.out D0.out)).mono ?_
   rintro e w1 ⟨rfl, b1⟩
   have k0 := (b1.block w.heap.size YY.out).trans K0.out
   have b2 := D0.out.trans (b1.mono D0.out.size)
   have p0 := cr 0 (Value.int .i64 id) k0
   have p1 := cr 1 (Value.slice va xs.length vc) k0
   have p2 := cr 2 (Value.int .i64 born) k0
   have p3 := cr 3 (Value.int .i64 died) k0
   clear k0
   go_wp2
   go_ret
   exact ⟨Jy (by first | rfl | simp [*]), b2⟩
  ·
   have e5 : decide (died ≤ now) = false := decide_eq_false h5
   have hl : decide (Uj born died now) = false := decide_eq_false (fun g => by unfold Uj at g; omega)
   rw [HV2.out _ hl]
   clear hl h3
   go_enter Tryz.func237, Tryz.ntmps237
   go_wp2_with fail
   generalize w.alloc (.cells #[.int .i64 id, .slice va xs.length vc, .int .i64 born, .int .i64 died] 212) = W at *
   refine (Eg id born died va xs.length vc W).mono ?_
   rintro e w0 ⟨rfl, b0⟩
   have D0 := zh (d0.out.trans (b0.mono d0.out.size))
   have K0 := zh ((b0.block w.heap.size Y0.out).trans B0.out)
   have YY := zh (Nat.lt_of_lt_of_le Y0.out b0.size)
   clear b0
   go_wp2_with fail
   refine (HR.out w0 (Kx H.out D0.out)).mono ?_
   rintro e w1 ⟨rfl, b1⟩
   have k0 := (b1.block w.heap.size YY.out).trans K0.out
   have b2 := D0.out.trans (b1.mono D0.out.size)
   have p0 := cr 0 (Value.int .i64 id) k0
   have p1 := cr 1 (Value.slice va xs.length vc) k0
   have p2 := cr 2 (Value.int .i64 born) k0
   have p3 := cr 3 (Value.int .i64 died) k0
   clear k0
   go_wp2
   go_ret
   exact ⟨Jy (by first | rfl | simp [*]), b2⟩
set_option maxHeartbeats 8000000 in
theorem seenWith_any (i1 b1 d1 i2 b2 d2 : Int) (a1 a2 : Option Addr) (n1 c1 n2 c2 : Nat) (w : World) :
  Calls Tryz.prog 239 #[.agg #[.int .i64 i1, .slice a1 n1 c1, .int .i64 b1, .int .i64 d1], .agg #[.int .i64 i2, .slice a2 n2 c2, .int .i64 b2, .int .i64 d2]] w fun e w' => e = .returned (.bool (decide (seenP i1 b1 d1 i2 b2 d2))) ∧ Below w w w' := by
 have d0 := zh (show Below w w ((w.alloc (.cells #[.int .i64 i1, .slice a1 n1 c1, .int .i64 b1, .int .i64 d1] 212)).alloc (.cells #[.int .i64 i2, .slice a2 n2 c2, .int .i64 b2, .int .i64 d2] 212)) from ((Il _ _).alloc (Ii _) _).alloc (by simp) _)
 have B1 : Hid (((w.alloc (.cells #[.int .i64 i1, .slice a1 n1 c1, .int .i64 b1, .int .i64 d1] 212)).alloc (.cells #[.int .i64 i2, .slice a2 n2 c2, .int .i64 b2, .int .i64 d2] 212)).heap[w.heap.size + 1]? = some (.cells #[.int .i64 i2, .slice a2 n2 c2, .int .i64 b2, .int .i64 d2] 212 (0, 0))) := zh (by
  have := Ic (w.alloc (.cells #[.int .i64 i1, .slice a1 n1 c1, .int .i64 b1, .int .i64 d1] 212)) (.cells #[.int .i64 i2, .slice a2 n2 c2, .int .i64 b2, .int .i64 d2] 212)
  simpa only [Ie] using this)
 have B0 : Hid (((w.alloc (.cells #[.int .i64 i1, .slice a1 n1 c1, .int .i64 b1, .int .i64 d1] 212)).alloc (.cells #[.int .i64 i2, .slice a2 n2 c2, .int .i64 b2, .int .i64 d2] 212)).heap[w.heap.size]? = some (.cells #[.int .i64 i1, .slice a1 n1 c1, .int .i64 b1, .int .i64 d1] 212 (0, 0))) := zh (by
  rw [Below.heap_alloc _ _ _ (by simp)]
  exact Ic w _)
 have Y1 : Hid (w.heap.size + 1 < ((w.alloc (.cells #[.int .i64 i1, .slice a1 n1 c1, .int .i64 b1, .int .i64 d1] 212)).alloc (.cells #[.int .i64 i2, .slice a2 n2 c2, .int .i64 b2, .int .i64 d2] 212)).heap.size) := zh (by simp [Ie])
 by_cases q1 : i1 = i2
 rotate_left
 ·
  have e1 : (i1 == i2) = false := by simp [q1]
  have HD : Hid (decide (seenP i1 b1 d1 i2 b2 d2) = false) := zh (decide_eq_false (fun g => q1 g.1))
  rw [HD.out]
  clear q1
  go_enter Tryz.func239, Tryz.ntmps239
  go_wp2
  go_ret
  exact ⟨rfl, d0.out⟩
 have e1 : (i1 == i2) = true := by simp [q1]
 have Q1 := zh q1
 clear q1
 have HV1 := zh (fun W => implVisible i1 b1 d1 (max b1 b2) (.slice a1 n1 c1) W)
 have HV2 := zh (fun W => implVisible i2 b2 d2 (max b1 b2) (.slice a2 n2 c2) W)
 have HM : Hid (∃ t, t = max b1 b2) := zh ⟨_, rfl⟩
 cases h1 : decide (Uz b1 d1 (max b1 b2)) with
 | false =>
  have HD : Hid (decide (seenP i1 b1 d1 i2 b2 d2) = false) := zh (decide_eq_false (fun g => by have := decide_eq_true g.2.1; rw [h1] at this; cases this))
  rw [HD.out]
  rw [h1] at HV1
  clear h1
  go_enter Tryz.func239, Tryz.ntmps239
  go_wp2_with fail
  generalize ((w.alloc (.cells #[.int .i64 i1, .slice a1 n1 c1, .int .i64 b1, .int .i64 d1] 212)).alloc (.cells #[.int .i64 i2, .slice a2 n2 c2, .int .i64 b2, .int .i64 d2] 212)) = W at *
  refine (HV1.out W).mono ?_
  rintro e w1 ⟨rfl, c1⟩
  have D1 := d0.out.trans (c1.mono d0.out.size)
  go_wp2
  go_ret
  exact ⟨rfl, D1⟩
 | true =>
  rw [h1] at HV1
  have H1 := zh (of_decide_eq_true h1)
  clear h1
  obtain ⟨r, hr⟩ : ∃ r, r = decide (Uz b2 d2 (max b1 b2)) := ⟨_, rfl⟩
  have HD : Hid (decide (seenP i1 b1 d1 i2 b2 d2) = r) := zh (by
   rw [hr]
   by_cases g : Uz b2 d2 (max b1 b2)
   ·
    rw [decide_eq_true g, decide_eq_true ⟨Q1.out, H1.out, g⟩]
   ·
    rw [decide_eq_false g, decide_eq_false (fun q => g q.2.2)])
  rw [← hr] at HV2
  rw [HD.out]
  clear hr
  go_enter Tryz.func239, Tryz.ntmps239
  go_wp2_with fail
  generalize ((w.alloc (.cells #[.int .i64 i1, .slice a1 n1 c1, .int .i64 b1, .int .i64 d1] 212)).alloc (.cells #[.int .i64 i2, .slice a2 n2 c2, .int .i64 b2, .int .i64 d2] 212)) = W at *
  refine (HV1.out W).mono ?_
  rintro e w1 ⟨rfl, e9⟩
  have D1 := zh (d0.out.trans (e9.mono d0.out.size))
  have k1 := (e9.block (w.heap.size + 1) Y1.out).trans B1.out
  have p0 := cr 0 (Value.int .i64 i2) k1
  have p1 := cr 1 (Value.slice a2 n2 c2) k1
  have p2 := cr 2 (Value.int .i64 b2) k1
  have p3 := cr 3 (Value.int .i64 d2) k1
  clear k1 e9
  go_wp2_with fail
  refine (HV2.out w1).mono ?_
  rintro e w2 ⟨rfl, e8⟩
  have D2 := D1.out.trans (e8.mono D1.out.size)
  clear p0 p1 p2 p3
  go_wp2
  go_ret
  exact ⟨rfl, D2⟩
set_option maxHeartbeats 8000000 in
theorem isSegmentCount_any (n : Int) (w : World) : Calls Tryz.prog 194 #[.int .i64 n] w fun e w' => e = .returned (.bool (decide (1 ≤ n ∧ n ≤ 8))) ∧ w' = w := by
 by_cases h1 : 1 ≤ n
 ·
  by_cases h2 : n ≤ 8
  ·
   rw [decide_eq_true ⟨h1, h2⟩]
   go_enter Tryz.func194, Tryz.ntmps194
   go_wp2
   go_ret
   exact ⟨Jy (by first | rfl | simp [h2]), rfl⟩
  ·
   rw [decide_eq_false (fun g => h2 g.2)]
   go_enter Tryz.func194, Tryz.ntmps194
   go_wp2
   go_ret
   exact ⟨Jy (by first | rfl | simp [h2] | (simp; omega)), rfl⟩
 ·
  rw [decide_eq_false (fun g => h1 g.1)]
  go_enter Tryz.func194, Tryz.ntmps194
  go_wp2
  go_ret
  exact ⟨rfl, rfl⟩
set_option maxHeartbeats 8000000 in
theorem isTime_any (n : Int) (w : World) : Calls Tryz.prog 133 #[.int .i64 n] w fun e w' => e = .returned (.bool (decide (0 ≤ n ∧ n ≤ 100000))) ∧ w' = w := by
 by_cases h1 : 0 ≤ n
 ·
  by_cases h2 : n ≤ 100000
  ·
   rw [decide_eq_true ⟨h1, h2⟩]
   go_enter Tryz.func133, Tryz.ntmps133
   go_wp2
   go_ret
   exact ⟨Jy (by first | rfl | simp [h2]), rfl⟩
  ·
   rw [decide_eq_false (fun g => h2 g.2)]
   go_enter Tryz.func133, Tryz.ntmps133
   go_wp2
   go_ret
   exact ⟨Jy (by first | rfl | simp [h2] | (simp; omega)), rfl⟩
 ·
  rw [decide_eq_false (fun g => h1 g.1)]
  go_enter Tryz.func133, Tryz.ntmps133
  go_wp2
  go_ret
  exact ⟨rfl, rfl⟩
/-- Some version of the slice is seen with this one. -/
def anyB (x : Kj) (l : List Kj) : Bool := l.any (fun y => seenB x y)
theorem any_yes {x : Kj} {l : List Kj} {j : Nat} (hj : j < l.length) (h : seenB x (l.getD j Uq) = true) : anyB x l = true := by
 unfold anyB
 rw [List.any_eq_true]
 have e : l.getD j Uq = l[j] := by simp [List.getD, hj]
 exact ⟨l[j], List.getElem_mem _, by rw [← e]; exact h⟩
theorem any_no {x : Kj} {l : List Kj} (h : ∀ j, j < l.length → seenB x (l.getD j Uq) = false) : anyB x l = false := by
 unfold anyB
 rw [List.any_eq_false]
 intro y hy
 obtain ⟨j, hj, rfl⟩ := List.getElem_of_mem hy
 have := h j hj
 have e : l.getD j Uq = l[j] := by simp [List.getD, hj]
 rw [e] at this
 rw [this]; simp
set_option maxHeartbeats 8000000 in
theorem indexSeen (v : Value) (l : List Kj) (i1 b1 d1 : Int) (xs1 : List Int) (a1 : Option Addr) (n1 cc1 : Nat) (w : World) (h : Ko Jh w v l) (hs : l.length ≤ 1048576) :
  Calls Tryz.prog 268 #[v, .func (.func 239) #[.agg #[.int .i64 i1, .slice a1 n1 cc1, .int .i64 b1, .int .i64 d1]] #[]] w fun e w' => (∃ r : Int, e = .returned (.int .i64 r) ∧ decide (0 ≤ r) = anyB (i1, xs1, b1, d1) l) ∧ Below w w w' := by
 have H := zh h
 obtain ⟨a, cap, rfl⟩ := Jl h
 clear h
 go_enter Tryz.func268, Tryz.ntmps268
 go_wp2
 go_loopw [8] (fun i wr => ∃ k : Nat, k ≤ l.length ∧ i = .int .i64 k ∧ Hid (∀ j, j < k → seenB (i1, xs1, b1, d1) (l.getD j Uq) = false) ∧ Below w w wr) (fun i _ => l.length - (intOf i).toNat)
 case atStart => exact ⟨0, Ij _, rfl, zh (fun j hj => by omega), Il _ _⟩
 case round =>
  obtain ⟨k, hk, rfl, hall, hbel⟩ := hrel
  by_cases hlt : k < l.length
  ·
   have i1' : (0 : Int) ≤ (k : Int) := by omega
   have i2' : (k : Int) < (l.length : Int) := by omega
   obtain ⟨b, off, cap', xa, xc, hv, hbl, c0, c1, c2, c3, hx⟩ := verR_at (Jb Jp H.out hbel) hlt
   simp only [Ik] at hv
   obtain ⟨rfl, _, rfl⟩ := hv
   have HYS := zh (fun g => any_yes (x := (i1, xs1, b1, d1)) hlt g)
   have HNO : Hid (seenB (i1, xs1, b1, d1) (l.getD k Uq) = false → ∀ j, j < k + 1 → seenB (i1, xs1, b1, d1) (l.getD j Uq) = false) := zh (fun g j hj => by
    by_cases e : j = k
    ·
     rw [e]; exact g
    ·
     exact hall.out j (by omega))
   have d := zh hbel
   clear hall hx hbel
   generalize l.getD k Uq = y at *
   obtain ⟨id2, ys, born2, died2⟩ := y
   simp only at c0 c1 c2 c3
   have HC := zh (fun W => seenWith_any i1 b1 d1 id2 born2 died2 a1 xa n1 cc1 ys.length xc W)
   cases hse : seenB (i1, xs1, b1, d1) (id2, ys, born2, died2) with
   | true =>
    have HT := zh (HYS.out hse)
    rw [show decide (seenP i1 b1 d1 id2 born2 died2) = true from hse] at HC
    clear hse HYS HNO
    go_wp2_with fail
    refine (HC.out _).mono ?_
    rintro e w2 ⟨rfl, b2⟩
    have d2 := zh (d.out.trans (b2.mono d.out.size))
    clear b2 c0 c1 c2 c3 d
    go_wp2
    go_ret
    exact ⟨⟨_, rfl, by rw [HT.out]; exact decide_eq_true i1'⟩, d2.out⟩
   | false =>
    have HN := zh (HNO.out hse)
    rw [show decide (seenP i1 b1 d1 id2 born2 died2) = false from hse] at HC
    clear hse HYS HNO
    go_wp2_with fail
    refine (HC.out _).mono ?_
    rintro e w2 ⟨rfl, b2⟩
    have d2 := zh (d.out.trans (b2.mono d.out.size))
    clear b2 c0 c1 c2 c3 d
    go_wp2
    go_roundw
    case rel => exact ⟨k + 1, by omega, by go_num, HN, d2.out⟩
    case measure => simp [intOf]; omega
  ·
   obtain rfl : k = l.length := by omega
   have HF := zh (any_no hall.out)
   clear hall
   go_wp2
   go_ret
   exact ⟨⟨-1, rfl, by rw [HF.out]; rfl⟩, hbel⟩
set_option maxHeartbeats 8000000 in
theorem containsSeen (v : Value) (l : List Kj) (i1 b1 d1 : Int) (xs1 : List Int) (a1 : Option Addr) (n1 c1 : Nat) (w : World) (h : Ko Jh w v l) (hs : l.length ≤ 1048576) :
  Calls Tryz.prog 238 #[v, .func (.func 239) #[.agg #[.int .i64 i1, .slice a1 n1 c1, .int .i64 b1, .int .i64 d1]] #[]] w fun e w' => e = .returned (.bool (anyB (i1, xs1, b1, d1) l)) ∧ Below w w w' := by
 have HC := zh (indexSeen v l i1 b1 d1 xs1 a1 n1 c1 w h hs)
 clear h hs
 go_enter Tryz.func238, Tryz.ntmps238
 go_wp2_with fail
 refine HC.out.mono ?_
 rintro e w1 ⟨⟨r, rfl, hr⟩, b1⟩
 have HR := zh hr
 clear hr
 go_wp2
 go_ret
 exact ⟨Jy (by rw [← HR.out]), b1⟩
theorem info_R_ptr : Yn (Ub 1) 264 (.pointer none) := Yv (by kernel_rfl)
/-- A slice as a value: its address, length and capacity. -/
abbrev SegV := Option Addr × Nat × Nat
def s0V : SegV := (none, 0, 0)
def segV (u : SegV) : Value := .slice u.1 u.2.1 u.2.2
def cutV (u : SegV) : Value := .slice u.1 u.2.1 u.2.1
def Un (b : Nat) : Value := .pointer (some ⟨b, 0, none⟩)
/-- A slice of slices is read. -/
def LsR (w : World) (v : Value) (us : List SegV) : Prop := Ko (Ub 1) w v (us.map (fun u => [segV u])) ∧ ∀ j, j < us.length → (us.getD j s0V).2.1 ≤ (us.getD j s0V).2.2
theorem lsR_below {W w : World} {v : Value} {us : List SegV} (h : LsR W v us) (hb : Below W W w) : LsR w v us := ⟨Jb (Vs (by decide)) h.1 hb, h.2⟩
theorem lsR_len {w : World} {v : Value} {us : List SegV} (h : LsR w v us) : ∃ a cap, v = .slice a us.length cap := by
 obtain ⟨a, cap, e⟩ := Jl h.1
 rw [List.length_map] at e
 exact ⟨a, cap, e⟩
theorem lsR_at {w : World} {v : Value} {us : List SegV} (h : LsR w v us) {k : Nat} (hk : k < us.length) : ∃ b off cap, v = .slice (some ⟨b, off, none⟩) us.length cap ∧ b < w.heap.size ∧ w.cell? ⟨b, off + k, none⟩ = some (segV (us.getD k s0V)) ∧ (us.getD k s0V).2.1 ≤ (us.getD k s0V).2.2 := by
 obtain ⟨b, off, cap, cs, hv, hb, hc, hR⟩ := Ku h.1 (k := k) (by rw [List.length_map]; exact hk)
 rw [List.length_map] at hv
 obtain ⟨e, _⟩ := hR
 have e2 : (us.map (fun u => [segV u])).getD k (Ub 1).d = [segV (us.getD k s0V)] := by simp [List.getD, hk]
 rw [e2] at e
 have := hc 0 (by decide)
 rw [show (Ub 1).n = 1 from rfl, Nat.mul_one, Nat.add_zero, e] at this
 exact ⟨b, off, cap, hv, hb, this, h.2 k hk⟩
/-- The row of a segment's block. -/
def segRow (u : SegV) : Obj := .cells #[cutV u] 289 (0, 0)
/-- What tableOf answers: new pointers to new segments. -/
def TabN (B : Nat) (w : World) (g : Nat) (bs : List Nat) (us : List SegV) : Prop :=
 B ≤ g ∧ g < w.heap.size ∧ bs.length = us.length ∧ (∀ j, j < us.length → w.cell? ⟨g, j, none⟩ = some (Un (bs.getD j 0)) ∧ w.heap[bs.getD j 0]? = some (segRow (us.getD j s0V)) ∧ g < bs.getD j 0) ∧ ∀ i j, i < us.length → j < us.length → i ≠ j → bs.getD i 0 ≠ bs.getD j 0
def FreshTab (w : World) (us : List SegV) (e : Ending) (w' : World) : Prop := ∃ g bs, e = .returned (.slice (some ⟨g, 0, none⟩) us.length us.length) ∧ TabN w.heap.size w' g bs us ∧ Below w w w'
def FreshTabO (w : World) (us : List SegV) (e : Ending) (w' : World) : Prop := ∃ g bs, e = .returned (.slice (some ⟨g, 0, none⟩) us.length us.length) ∧ w'.ownsRow w.heap.size 264 1 (.slice (some ⟨g, 0, none⟩) us.length us.length) us.length (bs.map Un) ∧ TabN w.heap.size w' g bs us ∧ Below w w w'
theorem ptr_set {bs : List Nat} {n k b : Nat} (hb : bs.length = k) (hk : k < n) : (bs.map Un ++ List.replicate (n - k) (Value.pointer none)).set k (Un b) = (bs ++ [b]).map Un ++ List.replicate (n - (k + 1)) (Value.pointer none) := by
 have hl : (bs.map Un).length = k := by rw [List.length_map]; exact hb
 rw [List.set_append_right _ _ (by omega), hl, Nat.sub_self, show n - k = (n - (k + 1)) + 1 by omega, List.replicate_succ, List.set_cons_zero, List.map_append, List.append_assoc]
 rfl
theorem getD_app_lt {bs : List Nat} {b j : Nat} (h : j < bs.length) : (bs ++ [b]).getD j 0 = bs.getD j 0 := by simp [List.getD, List.getElem?_append_left h]
theorem getD_app_eq {bs : List Nat} {b j : Nat} (h : j = bs.length) : (bs ++ [b]).getD j 0 = b := by subst h; simp [List.getD]
set_option maxHeartbeats 8000000 in
theorem tableOf_own (v : Value) (us : List SegV) (w : World) (h : LsR w v us) (hn : us.length ≤ 1048576) :
  Calls Tryz.prog 195 #[v] w (FreshTabO w us) := by
 obtain ⟨i0, hi, hz0, hz1, hz2⟩ := info_R_ptr
 have HI := zh hi; have HZ0 := zh hz0; have HZ1 : Hid (i0.size = 1) := zh hz1; have HZ2 := zh hz2
 clear hi hz0 hz1 hz2
 have H := zh h
 obtain ⟨a, cap, rfl⟩ := lsR_len h
 clear h
 go_enter Tryz.func195, Tryz.ntmps195
 go_wp2_with (at_make; refine wpList_make_full _ rfl (.tmp 7) (.tmp 7) 235 rfl w.heap.size 264 i0 (.pointer none) 1 Tryz.underlying235 HI.out HZ0.out HZ1.out _ _ _ _ us.length rfl rfl rfl rfl (by have := Nat.mul_le_mul HZ2.out hn; omega) (by unfold maxLen; omega) (Ii _) ?_)
 intro w1 hown0 hg0
 have hbel1 := (Il w.heap.size w).grown hg0 (Ii _) (fun k hk => by cases hk)
 have hz : (madeCells #[Value.pointer none] us.length).toList = List.replicate us.length (Value.pointer none) := by
  apply List.ext_getElem?
  intro i
  unfold madeCells
  rw [Array.getElem?_toList, Array.getElem?_map]
  by_cases q : i < us.length
  ·
   rw [Array.getElem?_range, if_pos q]
   simp [q, Nat.mod_one]
  ·
   rw [Array.getElem?_range, if_neg q]
   simp [q]
 rw [hz] at hown0
 clear hg0 hz
 go_wp2
 go_loopw [11] (fun i wr => ∃ (k : Nat) (bs : List Nat), k ≤ us.length ∧ i = .int .i64 k ∧ bs.length = k ∧ wr.ownsRow w.heap.size 264 1 (.slice (some ⟨w, 0, none⟩) us.length us.length) us.length (bs.map Un ++ List.replicate (us.length - k) (Value.pointer none)) ∧ Hid (∀ j, j < k → wr.heap[bs.getD j 0]? = some (segRow (us.getD j s0V)) ∧ w.heap.size < bs.getD j 0 ∧ bs.getD j 0 < wr.heap.size) ∧ Hid (∀ i j, i < k → j < k → i ≠ j → bs.getD i 0 ≠ bs.getD j 0) ∧ Below w w wr ∧ w.heap.size < wr.heap.size) (fun i _ => us.length - (intOf i).toNat)
 case atStart => exact ⟨0, [], Ij _, rfl, rfl, hown0, zh (fun j hj => by omega), zh (fun i j hi => by omega), hbel1, (hown0.lt w.heap.size rfl).2⟩
 case round =>
  obtain ⟨k, bs, hk, rfl, hbs, hown, hrow, hdis, hbel, hsz⟩ := hrel
  clear hown0 hbel1
  by_cases hlt : k < us.length
  ·
   have i1 : (0 : Int) ≤ (k : Int) := by omega
   have i2 : (k : Int) < (us.length : Int) := by omega
   obtain ⟨b, off, cap', hv, hbl, c0, hle⟩ := lsR_at (lsR_below H.out hbel) hlt
   simp only [Ik] at hv
   obtain ⟨rfl, _, rfl⟩ := hv
   have hset := ptr_set (b := wr.heap.size) hbs hlt
   have r1 := (World.ownsRow.stored hown k (Un wr.heap.size)).1
   rw [hset] at r1
   have r2 := r1.alloc (.cells #[cutV (us.getD k s0V)] 289)
   have y0 : ∃ x, wr.cell? ⟨w, k, none⟩ = some x := ⟨_, (World.ownsRow.cellAt hown k (by omega)).trans (Ih (by simp; omega))⟩
   obtain ⟨y, y0⟩ := y0
   have f0 := World.ownsRow.frozenAt hown k
   have tt : Kb (fun x => x = w.heap.size) wr (wr.setCell ⟨w, k, none⟩ (Un wr.heap.size)) := Jm (G := fun x => x = w.heap.size) (g := w.heap.size) (j := k) (u := Un wr.heap.size) rfl
   have hs0 : (wr.setCell ⟨w, k, none⟩ (Un wr.heap.size)).heap.size = wr.heap.size := by simp [World.setCell]
   have hal : Below (wr.setCell ⟨w, k, none⟩ (Un wr.heap.size)).heap.size (wr.setCell ⟨w, k, none⟩ (Un wr.heap.size)) ((wr.setCell ⟨w, k, none⟩ (Un wr.heap.size)).alloc (.cells #[cutV (us.getD k s0V)] 289)) := (Il _ _).alloc (Ii _) _
   have hnew : ((wr.setCell ⟨w, k, none⟩ (Un wr.heap.size)).alloc (.cells #[cutV (us.getD k s0V)] 289)).heap[wr.heap.size]? = some (.cells #[cutV (us.getD k s0V)] 289 (0, 0)) := by
    have := Ic (wr.setCell ⟨w, k, none⟩ (Un wr.heap.size)) (.cells #[cutV (us.getD k s0V)] 289)
    rw [hs0] at this; exact this
   have hs1 : ((wr.setCell ⟨w, k, none⟩ (Un wr.heap.size)).alloc (.cells #[cutV (us.getD k s0V)] 289)).heap.size = wr.heap.size + 1 := by rw [Ie, hs0]
   have R2 := zh r2
   have HROW : Hid (∀ j, j < k + 1 → ((wr.setCell ⟨w, k, none⟩ (Un wr.heap.size)).alloc (.cells #[cutV (us.getD k s0V)] 289)).heap[(bs ++ [wr.heap.size]).getD j 0]? = some (segRow (us.getD j s0V)) ∧ w.heap.size < (bs ++ [wr.heap.size]).getD j 0 ∧ (bs ++ [wr.heap.size]).getD j 0 < ((wr.setCell ⟨w, k, none⟩ (Un wr.heap.size)).alloc (.cells #[cutV (us.getD k s0V)] 289)).heap.size) := zh (fun j hj => by
    by_cases e : j = k
    ·
     rw [getD_app_eq (by omega), e]
     exact ⟨hnew, hsz, by omega⟩
    ·
     rw [getD_app_lt (by omega)]
     obtain ⟨g1, g2, g3⟩ := hrow.out j (by omega)
     exact ⟨(hal.block _ (by omega)).trans ((tt.block _ g3 (fun q => by omega)).trans g1), g2, by omega⟩)
   have HDIS : Hid (∀ i j, i < k + 1 → j < k + 1 → i ≠ j → (bs ++ [wr.heap.size]).getD i 0 ≠ (bs ++ [wr.heap.size]).getD j 0) := zh (fun i j hi hj hij => by
    by_cases e1 : i = k
    ·
     rw [getD_app_eq (by omega), getD_app_lt (by omega)]
     have := (hrow.out j (by omega)).2.2; omega
    ·
     by_cases e2 : j = k
     ·
      rw [getD_app_lt (by omega), getD_app_eq (by omega)]
      have := (hrow.out i (by omega)).2.2; omega
     ·
      rw [getD_app_lt (by omega), getD_app_lt (by omega)]
      exact hdis.out i j (by omega) (by omega) hij)
   have D2 : Hid (Below w w ((wr.setCell ⟨w, k, none⟩ (Un wr.heap.size)).alloc (.cells #[cutV (us.getD k s0V)] 289))) := zh ((Js hbel tt (fun x hx => by omega) (by omega)).trans (hal.mono (by omega)))
   have S2 : Hid (w.heap.size < ((wr.setCell ⟨w, k, none⟩ (Un wr.heap.size)).alloc (.cells #[cutV (us.getD k s0V)] 289)).heap.size) := zh (by omega)
   have HBL : Hid ((bs ++ [wr.heap.size]).length = k + 1) := zh (by rw [List.length_append]; simp; omega)
   clear hset r1 r2 hal tt hnew hs0 hs1 hrow hdis hown hbel hbs
   generalize us.getD k s0V = u at *
   obtain ⟨ua, n, uc⟩ := u
   simp only [segV, cutV, Un] at *
   have j1 : (n : Int) ≤ (uc : Int) := by omega
   go_wp2
   go_roundw
   case rel => exact ⟨k + 1, _, by omega, by go_num, HBL.out, R2.out, HROW, HDIS, D2.out, S2.out⟩
   case measure => simp [intOf]; omega
  ·
   obtain rfl : k = us.length := by omega
   have HO := zh hown
   clear hown
   go_wp2
   go_ret
   have ho := HO.out
   refine ⟨w.heap.size, bs, rfl, by simpa using ho, ⟨Ii _, hsz, hbs, fun j hj => ⟨?_, (hrow.out j hj).1, (hrow.out j hj).2.1⟩, hdis.out⟩, hbel⟩
   refine (World.ownsRow.cellAt ho j (by omega)).trans ?_
   rw [List.getElem?_append_left (by rw [List.length_map]; omega), List.getElem?_map]
   simp [List.getD, show j < bs.length by omega]
theorem tableOf_any (v : Value) (us : List SegV) (w : World) (h : LsR w v us) (hn : us.length ≤ 1048576) :
  Calls Tryz.prog 195 #[v] w (FreshTab w us) :=
 (tableOf_own v us w h hn).mono (by
  rintro e w1 ⟨g, bs, he, _, ht, hb⟩
  exact ⟨g, bs, he, ht, hb⟩)
theorem tabN_below {B : Nat} {w w' : World} {g : Nat} {bs : List Nat} {us : List SegV} (h : TabN B w g bs us) (hb : Below w w w') : TabN B w' g bs us := by
 obtain ⟨h1, h2, h3, h4, h5⟩ := h
 refine ⟨h1, Nat.lt_of_lt_of_le h2 hb.size, h3, fun j hj => ?_, h5⟩
 obtain ⟨g1, g2, g3⟩ := h4 j hj
 exact ⟨(hb.cell (p := ⟨g, j, none⟩) h2).trans g1, (hb.block _ (Array.getElem?_eq_some_iff.1 g2).1).trans g2, g3⟩
theorem slR_cut {α : Type} {T : Ty α} {w : World} {a : Option Addr} {n c : Nat} {xs : List α} (h : Ko T w (.slice a n c) xs) : Ko T w (.slice a n n) xs ∧ n = xs.length ∧ n ≤ c := by
 rcases h with ⟨rfl, a', cap, e⟩ | ⟨b, off, cap, us, e, h2, h3, h4⟩
 ·
  simp only [Ik] at e
  obtain ⟨rfl, rfl, rfl⟩ := e
  exact ⟨Or.inl ⟨rfl, _, _, rfl⟩, rfl, Ij _⟩
 ·
  simp only [Ik] at e
  obtain ⟨rfl, rfl, rfl⟩ := e
  exact ⟨Or.inr ⟨b, off, _, us, rfl, Ii _, h3, h4⟩, rfl, h2⟩
/-- The segments as they are named by values. -/
def SegsR (w : World) (us : List SegV) (ss : List (List Kj)) : Prop := us.length = ss.length ∧ ∀ j, j < ss.length → Ko Jh w (cutV (us.getD j s0V)) (ss.getD j []) ∧ (us.getD j s0V).2.1 = (ss.getD j []).length
theorem segsR_below {W w : World} {us : List SegV} {ss : List (List Kj)} (h : SegsR W us ss) (hb : Below W W w) : SegsR w us ss := ⟨h.1, fun j hj => ⟨Jb Jp (h.2 j hj).1 hb, (h.2 j hj).2⟩⟩
theorem slR_ls {w : World} {v : Value} {ss : List (List Kj)} (h : Ko Jd w v ss) : ∃ us, LsR w v us ∧ SegsR w us ss := by
 rcases h with ⟨rfl, a, cap, rfl⟩ | ⟨b, off, cap, us, rfl, h2, h3, h4⟩
 ·
  exact ⟨[], ⟨Or.inl ⟨rfl, a, cap, rfl⟩, fun j hj => by simp at hj⟩, rfl, fun j hj => by simp at hj⟩
 ·
  haveI : Inhabited SegV := ⟨s0V⟩
  obtain ⟨f, hf⟩ := Go.Deep.choose_lt (α := SegV) (n := ss.length) (p := fun j u => w.cell? ⟨b, off + j, none⟩ = some (segV u) ∧ Ko Jh w (cutV u) (ss.getD j []) ∧ u.2.1 = (ss.getD j []).length ∧ u.2.1 ≤ u.2.2) (fun j hj => by
   obtain ⟨hc, hR⟩ := h4 j hj
   obtain ⟨v, e, hv⟩ := hR
   have h0 := hc 0 (by decide)
   rw [show Jd.n = 1 from rfl, Nat.mul_one, Nat.add_zero, e] at h0
   obtain ⟨a, c, rfl⟩ := Jl hv
   obtain ⟨k1, k2, k3⟩ := slR_cut hv
   exact ⟨(a, (ss.getD j []).length, c), h0, k1, rfl, k3⟩)
  have hg : ∀ j, j < ss.length → ((List.range ss.length).map f).getD j s0V = f j := fun j hj => by simp [List.getD, hj]
  refine ⟨(List.range ss.length).map f, ⟨Or.inr ⟨b, off, cap, fun j => [segV (f j)], by simp, by simpa using h2, h3, fun j hj => ?_⟩, fun j hj => ?_⟩, by simp, fun j hj => ?_⟩
  ·
   have hj' : j < ss.length := by simpa using hj
   refine ⟨fun i hi => ?_, ?_⟩
   ·
    have hi0 : i = 0 := by have : i < 1 := hi; omega
    subst hi0
    rw [show (Ub 1).n = 1 from rfl, Nat.mul_one, Nat.add_zero]
    exact (hf j hj').1
   ·
    have e : (((List.range ss.length).map f).map (fun u => [segV u])).getD j (Ub 1).d = [segV (f j)] := by simp [List.getD, hj']
    rw [e]
    exact ⟨rfl, rfl, fun u hu => by simp at hu; subst hu; rfl⟩
  ·
   have hj' : j < ss.length := by simpa using hj
   rw [hg j hj']; exact (hf j hj').2.2.2
  ·
   rw [hg j hj]; exact ⟨(hf j hj).2.1, (hf j hj).2.2.1⟩
/-- The row of a segment's block. -/
def segCells (v : Value) : Obj := .cells #[v] 289 (0, 0)
def tSegP : Ty (List Kj) where
 n := 1
 d := []
 R := fun w cs xs => ∃ b v, cs = [Un b] ∧ w.heap[b]? = some (segCells v) ∧ Ko Jh w v xs
 O := fun w F cs xs => ∃ (b : Nat) (v : Value) (F1 : Nat → Prop), cs = [Un b] ∧ F b ∧ w.heap[b]? = some (segCells v) ∧ Kp 212 Jh w F1 v xs ∧ (∀ k, F1 k → F k) ∧ ¬ F1 b
 sz := fun _ => 0
 nd := fun _ => 0
 nv := fun _ => 0
 md := fun x _ => x
 mv := fun x _ => x
 ok := fun _ => True
 s := 0
theorem tSegP_law : tSegP.Law where
 pos := Nat.one_pos
 len := fun {w cs x} h => by obtain ⟨b, v, rfl, _⟩ := h; rfl
 below := fun {W w cs x} h hb => by
  obtain ⟨b, v, e, h1, h2⟩ := h
  exact ⟨b, v, e, (hb.block b (Array.getElem?_eq_some_iff.1 h1).1).trans h1, Jb Jp h2 hb⟩
 reads := fun {w F cs x} h => by
  obtain ⟨b, v, F1, e, _, h1, h2, _⟩ := h
  exact ⟨b, v, e, h1, Up Jp h2⟩
 turn := fun {w w' F G cs x} h k hd => by
  obtain ⟨b, v, F1, e, h0, h1, h2, h3, h4⟩ := h
  exact ⟨b, v, F1, e, h0, (k.block b (Array.getElem?_eq_some_iff.1 h1).1 (hd b h0)).trans h1, Ka Jp h2 k (fun b g => hd b (h3 b g)), h3, h4⟩
 mono := fun {w F F' cs x} h hf => by
  obtain ⟨b, v, F1, e, h0, h1, h2, h3, h4⟩ := h
  exact ⟨b, v, F1, e, hf b h0, h1, h2, fun k g => hf k (h3 k g), h4⟩
 lt := fun {w F cs x} h => by
  obtain ⟨b, v, F1, e, h0, h1, h2, h3, h4⟩ := h
  exact ⟨b, v, _, e, ⟨h0, (Array.getElem?_eq_some_iff.1 h1).1⟩, h1, Kn Jp h2, fun k g => ⟨h3 k g.1, g.2⟩, fun g => h4 g.1⟩
 nd_le := fun x => Ij _
 nv_le := fun x => Ij _
/-- A table that is owned, taken apart. -/
theorem tab_parts {w : World} {F : Nat → Prop} {g n cap : Nat} {ps : List (List Kj)} (h : Kp 264 tSegP w F (.slice (some ⟨g, 0, none⟩) n cap) ps) (hn : n = ps.length) :
  g < w.heap.size ∧ ∃ (bs : Nat → Nat) (vs : Nat → Value) (Fs : Nat → Nat → Prop), (∀ j, j < n → w.cell? ⟨g, j, none⟩ = some (Un (bs j)) ∧ w.heap[bs j]? = some (segCells (vs j)) ∧ Kp 212 Jh w (Fs j) (vs j) (ps.getD j []) ∧ ∀ b, Fs j b → F b ∧ b < w.heap.size) ∧ ∀ i j, i < n → j < n → i ≠ j → ∀ b, Fs i b → ¬ Fs j b := by
 obtain ⟨L, us, Fs, h1, h2, h3, h4⟩ := Kn tSegP_law h
 refine ⟨(h2 g rfl).2, ?_⟩
 subst hn
 haveI : Inhabited (Nat × Value × (Nat → Prop)) := ⟨(0, .slice none 0 0, fun _ => False)⟩
 obtain ⟨f, hf⟩ := Go.Deep.choose_lt (α := Nat × Value × (Nat → Prop)) (n := ps.length) (p := fun j u => us j = [Un u.1] ∧ w.heap[u.1]? = some (segCells u.2.1) ∧ Kp 212 Jh w u.2.2 u.2.1 (ps.getD j []) ∧ ∀ b, u.2.2 b → Fs j b) (fun j hj => by
  obtain ⟨_, hO, _⟩ := h3 j hj
  obtain ⟨b, v, F1, e, _, g1, g2, g3, _⟩ := hO
  exact ⟨(b, v, F1), e, g1, g2, g3⟩)
 refine ⟨fun j => (f j).1, fun j => (f j).2.1, fun j => (f j).2.2, fun j hj => ?_, fun i j hi hj hij b hb hc => h4 i j hi hj hij b ((hf i hi).2.2.2 b hb) ((hf j hj).2.2.2 b hc)⟩
 obtain ⟨g1, g2, g3, g4⟩ := hf j hj
 refine ⟨?_, g2, g3, fun b hb => ((h3 j hj).2.2 b (g4 b hb)).1⟩
 have hc := (h3 j hj).1 0 (by decide)
 rw [show tSegP.n = 1 from rfl, Nat.mul_one, Nat.add_zero, g1] at hc
 exact (World.ownsRow.cellAt h1 j (by show j < ps.length * 1; omega)).trans hc
theorem val_set {vs : Nat → Value} {n k : Nat} (hk : k < n) : ((List.range k).map vs ++ List.replicate (n - k) (Value.slice none 0 0)).set k (vs k) = (List.range (k + 1)).map vs ++ List.replicate (n - (k + 1)) (Value.slice none 0 0) := by
 have hl : ((List.range k).map vs).length = k := by simp
 rw [List.set_append_right _ _ (by omega), hl, Nat.sub_self, show n - k = (n - (k + 1)) + 1 by omega, List.replicate_succ, List.set_cons_zero, List.range_succ, List.map_append, List.append_assoc]
 rfl
def Listed (w : World) (F : Nat → Prop) (ps : List (List Kj)) (e : Ending) (w' : World) : Prop := ∃ v, e = .returned v ∧ Kp 213 Jd w' (fun b => F b ∨ w.heap.size ≤ b) v ps ∧ Below w w w'
set_option maxHeartbeats 8000000 in
theorem lists_any (g n : Nat) (F : Nat → Prop) (ps : List (List Kj)) (w : World) (h : Kp 264 tSegP w F (.slice (some ⟨g, 0, none⟩) n n) ps) (hn : n = ps.length) (hl : n ≤ 1048576) :
  Calls Tryz.prog 224 #[.slice (some ⟨g, 0, none⟩) n n] w (Listed w F ps) := by
 obtain ⟨i0, hi, hz0, hz1, hz2⟩ := Ef
 have HI := zh hi; have HZ0 := zh hz0; have HZ1 : Hid (i0.size = 1) := zh hz1; have HZ2 := zh hz2
 clear hi hz0 hz1 hz2
 obtain ⟨hg, bs, vs, Fs, hp, hd⟩ := tab_parts h hn
 have HP := zh hp
 have HD := zh hd
 have HG := zh hg
 have HN := zh hn
 clear h hp hd hg hn
 go_enter Tryz.func224, Tryz.ntmps224
 go_wp2_with (at_make; refine wpList_make_full _ rfl (.tmp 7) (.tmp 7) 33 rfl w.heap.size 213 i0 () 1 Tryz.underlying33 HI.out HZ0.out HZ1.out _ _ _ _ n rfl rfl rfl rfl (by have := Nat.mul_le_mul HZ2.out hl; omega) (by unfold maxLen; omega) (Ii _) ?_)
 intro w1 hown0 hg0
 have hbel1 := (Il w.heap.size w).grown hg0 (Ii _) (fun k hk => by cases hk)
 have hz : (madeCells #[()] n).toList = List.replicate n (Value.slice none 0 0) := by
  apply List.ext_getElem?
  intro i
  unfold madeCells
  rw [Array.getElem?_toList, Array.getElem?_map]
  by_cases q : i < n
  ·
   rw [Array.getElem?_range, if_pos q]
   simp [q, Nat.mod_one]
  ·
   rw [Array.getElem?_range, if_neg q]
   simp [q]
 rw [hz] at hown0
 clear hg0 hz
 go_wp2
 go_loopw [11] (fun i wr => ∃ k : Nat, k ≤ n ∧ i = .int .i64 k ∧ wr.ownsRow w.heap.size 213 1 (.slice (some ⟨w, 0, none⟩) n n) n ((List.range k).map vs ++ List.replicate (n - k) (Value.slice none 0 0)) ∧ Below w w wr) (fun i _ => n - (intOf i).toNat)
 case atStart => exact ⟨0, Ij _, rfl, hown0, hbel1⟩
 case round =>
  obtain ⟨k, hk, rfl, hown, hbel⟩ := hrel
  clear hown0 hbel1
  by_cases hlt : k < n
  ·
   have i1 : (0 : Int) ≤ (k : Int) := by omega
   have i2 : (k : Int) < (n : Int) := by omega
   obtain ⟨c0, r0, o0, _⟩ := HP.out k hlt
   have p0 := (hbel.cell (p := ⟨g, k, none⟩) HG.out).trans c0
   have r1 := (hbel.block _ (Array.getElem?_eq_some_iff.1 r0).1).trans r0
   have q0 := cr 0 (vs k) r1
   have hst := (World.ownsRow.stored hown k (vs k)).1
   rw [val_set hlt] at hst
   have y0 : ∃ x, wr.cell? ⟨w, k, none⟩ = some x := ⟨_, (World.ownsRow.cellAt hown k (by omega)).trans (Ih (by simp; omega))⟩
   obtain ⟨y, y0⟩ := y0
   have f0 := World.ownsRow.frozenAt hown k
   have B3 := zh (hbel.setCell (p := ⟨w, k, none⟩) (Ii _) (vs k))
   have HST := zh hst
   obtain ⟨va, vc, hv⟩ := Ju o0
   unfold Un at p0
   clear hst hown hbel c0 r0 r1 o0
   rw [hv] at q0
   have HV := zh hv
   generalize bs k = pb at *
   clear hv
   obtain ⟨m, hm⟩ : ∃ m, m = (ps.getD k []).length := ⟨_, rfl⟩
   have HVM : Hid (vs k = .slice va m vc) := zh (by rw [hm]; exact HV.out)
   rw [← hm] at q0
   rw [HVM.out] at B3 HST
   clear hm HV
   go_wp2
   go_roundw
   case rel => exact ⟨k + 1, by omega, by go_num, HST.out, B3.out⟩
   case measure => simp [intOf]; omega
  ·
   obtain rfl : k = n := by omega
   have HO := zh hown
   have HB := zh hbel
   clear hown hbel
   go_wp2
   go_ret
   have ho := HO.out
   rw [Nat.sub_self, List.replicate_zero, List.append_nil] at ho
   have hnk := HN.out
   refine ⟨_, rfl, ⟨_, fun j => [vs j], Fs, by rw [← hnk]; exact row_low ho (Ij _), fun b hb => ?_, fun j hj => ⟨fun i hi => ?_, ⟨vs j, rfl, ?_⟩, fun b hb => ?_⟩, fun i j hi hj hij => HD.out i j (by omega) (by omega) hij⟩, HB.out⟩
   ·
    simp [Value.ownBlock] at hb; right; omega
   ·
    have hi0 : i = 0 := by have : i < 1 := hi; omega
    subst hi0
    rw [show Jd.n = 1 from rfl, Nat.mul_one, Nat.add_zero, List.getElem?_map, List.getElem?_range (by omega)]
    rfl
   ·
    exact Ka (G := fun _ => False) Jp (HP.out j (by omega)).2.2.1 (Yo HB.out) (fun _ _ => not_false)
   ·
    obtain ⟨q1, q2⟩ := (HP.out j (by omega)).2.2.2 b hb
    refine ⟨Or.inl q1, fun q => ?_⟩
    simp [Value.ownBlock] at q
    omega
section
variable {α : Type} {T : Ty α}
/-- An element is opened; what lies from D on is free for it. -/
theorem slO_openD (A : T.Law) {e : TypeId} {w : World} {F : Nat → Prop} {D : Nat} {g m cap : Nat} {xs : List α} (h : Kp e T w (fun b => F b ∧ b < D) (.slice (some ⟨g, 0, none⟩) m cap) xs) (hDw : D ≤ w.heap.size) {j : Nat} (hj : j < xs.length) :
  m = xs.length ∧ F g ∧ g < D ∧ ∃ (cs : List Value) (Fj : Nat → Prop) (L : List Value), w.ownsRow 0 e T.n (.slice (some ⟨g, 0, none⟩) xs.length cap) xs.length L ∧ (∀ i, i < T.n → L[j * T.n + i]? = cs[i]?) ∧ T.O w Fj cs (xs.getD j T.d) ∧ (∀ b, Fj b → F b ∧ b ≠ g ∧ b < D) ∧
   ∀ (w' : World) (L' cs' : List Value) (Fj' : Nat → Prop) (x' : α), w'.ownsRow 0 e T.n (.slice (some ⟨g, 0, none⟩) xs.length cap) xs.length L' → (∀ o, (o < j * T.n ∨ j * T.n + T.n ≤ o) → L'[o]? = L[o]?) → (∀ i, i < T.n → L'[j * T.n + i]? = cs'[i]?) → T.O w' Fj' cs' x' → (∀ b, Fj' b → F b ∧ (Fj b ∨ D ≤ b)) →
    Kb (fun b => b = g ∨ Fj b ∨ D ≤ b) w w' → Kp e T w' F (.slice (some ⟨g, 0, none⟩) m cap) (xs.set j x') := by
 obtain ⟨L, us, Fs, h1, h2, h3, h4⟩ := h
 have hm : m = xs.length := by
  rcases h1.2 with ⟨h', _⟩ | ⟨_, _, _, h', _⟩
  ·
   simp at h'
  ·
   simp only [Ik] at h'; exact h'.2.1
 subst hm
 have hg := h2 g rfl
 refine ⟨rfl, hg.1, hg.2, us j, Fs j, L, h1, (h3 j hj).1, (h3 j hj).2.1, fun b hb => ?_, ?_⟩
 ·
  obtain ⟨⟨k1, k2⟩, k3⟩ := (h3 j hj).2.2 b hb
  exact ⟨k1, fun e => k3 (by rw [e]; rfl), k2⟩
 ·
  intro w' L' cs' Fj' x' g1 g2 g3 g4 g5 g6
  refine ⟨L', fun i => if i = j then cs' else us i, fun i => if i = j then Fj' else Fs i, by rw [List.length_set]; exact g1, fun b hb => (h2 b hb).1, fun i hi => ?_, fun a b ha hb hab c => ?_⟩
  ·
   rw [List.length_set] at hi
   by_cases eij : i = j
   ·
    subst eij
    have er : (xs.set i x').getD i T.d = x' := by simp [List.getD, hi]
    rw [er]
    simp only [if_true]
    refine ⟨g3, g4, fun b hb => ⟨(g5 b hb).1, ?_⟩⟩
    rcases (g5 b hb).2 with q | q
    ·
     exact ((h3 i hj).2.2 b q).2
    ·
     intro q2
     simp [Value.ownBlock] at q2
     omega
   ·
    have er : (xs.set j x').getD i T.d = xs.getD i T.d := by simp [List.getD, Ig (Ne.symm eij)]
    rw [er]
    simp only [if_neg eij]
    refine ⟨fun p hp => ?_, ?_, fun b hb => ⟨((h3 i hi).2.2 b hb).1.1, ((h3 i hi).2.2 b hb).2⟩⟩
    ·
     rw [g2 _ ?_]
     ·
      exact (h3 i hi).1 p hp
     ·
      rcases Nat.lt_or_gt_of_ne eij with q | q
      ·
       left
       have : (i + 1) * T.n ≤ j * T.n := Nat.mul_le_mul_right _ q
       rw [Nat.add_mul, Nat.one_mul] at this; omega
      ·
       right
       have : (j + 1) * T.n ≤ i * T.n := Nat.mul_le_mul_right _ q
       rw [Nat.add_mul, Nat.one_mul] at this; omega
    ·
     refine A.turn (h3 i hi).2.1 g6 (fun b hb hc => ?_)
     rcases hc with q | q | q
     ·
      exact ((h3 i hi).2.2 b hb).2 (by rw [q]; rfl)
     ·
      exact h4 i j hi hj eij b hb q
     ·
      have := ((h3 i hi).2.2 b hb).1.2; omega
  ·
   rw [List.length_set] at ha hb
   by_cases ea : a = j
   ·
    have eb : ¬ b = j := fun q => hab (ea.trans q.symm)
    simp only [if_pos ea, if_neg eb]
    intro q1 q2
    rcases (g5 c q1).2 with q | q
    ·
     exact h4 j b hj hb (fun q' => eb q'.symm) c q q2
    ·
     have := ((h3 b hb).2.2 c q2).1.2; omega
   ·
    by_cases eb : b = j
    ·
     simp only [if_neg ea, if_pos eb]
     intro q1 q2
     rcases (g5 c q2).2 with q | q
     ·
      exact h4 a j ha hj ea c q1 q
     ·
      have := ((h3 a ha).2.2 c q1).1.2; omega
    ·
     simp only [if_neg ea, if_neg eb]
     exact h4 a b ha hb hab c
/-- The data behind an element's cells turn, the cells stay. -/
theorem slO_inner (A : T.Law) {e : TypeId} {w : World} {F : Nat → Prop} {D : Nat} {v : Value} {xs : List α} (h : Kp e T w (fun b => F b ∧ b < D) v xs) (hDw : D ≤ w.heap.size) {j : Nat} (hj : j < xs.length) :
  ∃ (g cap : Nat) (cs : List Value) (Fj : Nat → Prop), v = .slice (some ⟨g, 0, none⟩) xs.length cap ∧ F g ∧ g < D ∧ (∀ i, i < T.n → w.cell? ⟨g, j * T.n + i, none⟩ = cs[i]?) ∧ T.O w Fj cs (xs.getD j T.d) ∧ (∀ b, Fj b → F b ∧ b ≠ g ∧ b < D) ∧
   ∀ (w' : World) (Fj' : Nat → Prop) (x' : α), T.O w' Fj' cs x' → (∀ b, Fj' b → F b ∧ (Fj b ∨ D ≤ b)) → Kb (fun b => Fj b ∨ D ≤ b) w w' → Kp e T w' F v (xs.set j x') := by
 rcases Xi h with ⟨_, rfl⟩ | ⟨g, cap, rfl, _, _⟩
 ·
  simp at hj
 ·
  obtain ⟨hm, hFg, hg, cs, Fj, L, hrow, hL, hO, hFj, hput⟩ := slO_openD A h hDw hj
  refine ⟨g, cap, cs, Fj, rfl, hFg, hg, fun i hi => ?_, hO, hFj, fun w' Fj' x' h1 h2 h3 => ?_⟩
  ·
   have hlt : j * T.n + i < xs.length * T.n := by
    have : (j + 1) * T.n ≤ xs.length * T.n := Nat.mul_le_mul_right _ hj
    rw [Nat.add_mul, Nat.one_mul] at this; omega
   rw [World.ownsRow.cellAt hrow _ hlt]
   exact hL i hi
  ·
   refine hput w' L cs Fj' x' (Ym hrow h3 (fun b hb => ?_)) (fun o _ => rfl) hL h1 h2 (h3.mono (fun b hb => Or.inr hb))
   simp [Value.ownBlock] at hb
   subst hb
   intro q
   rcases q with q | q
   ·
    exact (hFj _ q).2.1 rfl
   ·
    omega
end
/-- A table of segments, opened at one: its pointer, the slice of its versions, and what closes it again. -/
theorem tab_at {w : World} {F : Nat → Prop} {D : Nat} {v : Value} {ss : List (List Kj)} (h : Kp 264 tSegP w (fun b => F b ∧ b < D) v ss) (hDw : D ≤ w.heap.size) {j : Nat} (hj : j < ss.length) :
  ∃ (g cap b : Nat) (u : Value) (F1 Fj : Nat → Prop), v = .slice (some ⟨g, 0, none⟩) ss.length cap ∧ F g ∧ g < D ∧ w.cell? ⟨g, j, none⟩ = some (Un b) ∧ w.heap[b]? = some (segCells u) ∧ Kp 212 Jh w F1 u (ss.getD j []) ∧ Fj b ∧ (∀ k, F1 k → Fj k ∧ k ≠ b) ∧ (∀ b, Fj b → F b ∧ b ≠ g ∧ b < D) ∧
   ∀ (w' : World) (u' : Value) (F1' : Nat → Prop) (l : List Kj), w'.heap[b]? = some (segCells u') → Kp 212 Jh w' F1' u' l → (∀ k, F1' k → F k ∧ k ≠ b ∧ (Fj k ∨ D ≤ k)) → Kb (fun k => Fj k ∨ D ≤ k) w w' → Kp 264 tSegP w' F v (ss.set j l) := by
 obtain ⟨g, cap, cs, Fj, hv, hF, hg, hc, hO, hFj, hput⟩ := slO_inner tSegP_law h hDw hj
 obtain ⟨b, u, F1, rfl, h0, h1, h2, h3, h4⟩ := hO
 refine ⟨g, cap, b, u, F1, Fj, hv, hF, hg, ?_, h1, h2, h0, fun k hk => ⟨h3 k hk, fun e => h4 (by rw [← e]; exact hk)⟩, hFj, fun w' u' F1' l q1 q2 q3 q4 => ?_⟩
 ·
  have := hc 0 (by decide)
  rw [show tSegP.n = 1 from rfl, Nat.mul_one, Nat.add_zero] at this
  exact this
 ·
  refine hput w' (fun k => k = b ∨ F1' k) l ⟨b, u', F1', rfl, Or.inl rfl, q1, q2, fun k hk => Or.inr hk, fun hk => (q3 b hk).2.1 rfl⟩ (fun k hk => ?_) q4
  rcases hk with rfl | hk
  ·
   exact ⟨(hFj _ h0).1, Or.inl h0⟩
  ·
   exact ⟨(q3 k hk).1, (q3 k hk).2.2⟩
/-- A segment of a store is given another slice. -/
theorem segs_put {w : World} {F : Nat → Prop} {D : Nat} {v : Value} {ss : List (List Kj)} (h : Kp 213 Jd w (fun b => F b ∧ b < D) v ss) (hDw : D ≤ w.heap.size) (hF : ∀ q, D ≤ q → F q) {r : Nat} (hr : r < ss.length) :
  ∃ (g cap : Nat) (u : Value) (Fj : Nat → Prop), v = .slice (some ⟨g, 0, none⟩) ss.length cap ∧ F g ∧ g < D ∧ w.cell? ⟨g, r, none⟩ = some u ∧ Kp 212 Jh w Fj u (ss.getD r []) ∧ (∀ b, Fj b → F b ∧ b ≠ g ∧ b < D) ∧
   ∀ (w1 : World) (u' : Value) (l : List Kj), Kb (fun q => Fj q ∨ D ≤ q) w w1 → Kp 212 Jh w1 (fun q => Fj q ∨ D ≤ q) u' l → (w1.cell? ⟨g, r, none⟩ = some u ∧ w1.frozen? ⟨g, r, none⟩ = false) ∧ Kp 213 Jd (w1.setCell ⟨g, r, none⟩ u') F v (ss.set r l) := by
 rcases Xi h with ⟨_, rfl⟩ | ⟨g, cap, rfl, _, _⟩
 ·
  simp at hr
 ·
  obtain ⟨hm, hFg, hg, cs, Fj, L, hrow, hL, hO, hFj, hput⟩ := slO_openD Jf h hDw hr
  obtain ⟨u, rfl, hu⟩ := hO
  change Kp 212 Jh w Fj u (ss.getD r []) at hu
  have hl0 := hL 0 (by decide)
  rw [show Jd.n = 1 from rfl, Nat.mul_one, Nat.add_zero] at hl0
  have hl1 : L[r]? = some u := hl0
  have hlt : r < ss.length * Jd.n := by show r < ss.length * 1; omega
  refine ⟨g, cap, u, Fj, rfl, hFg, hg, (World.ownsRow.cellAt hrow r hlt).trans hl1, hu, hFj, fun w1 u' l tt ho => ?_⟩
  have hrow1 := Ym hrow tt (fun b hb => by
   simp [Value.ownBlock] at hb
   subst hb
   intro q
   rcases q with q | q
   ·
    exact (hFj _ q).2.1 rfl
   ·
    omega)
  refine ⟨⟨(World.ownsRow.cellAt hrow1 r hlt).trans hl1, World.ownsRow.frozenAt hrow1 r⟩, ?_⟩
  have t2 : Kb (fun b => b = g) w1 (w1.setCell ⟨g, r, none⟩ u') := Jm (G := fun b => b = g) (g := g) (j := r) (u := u') rfl
  have ho2 := Ka Jp ho t2 (fun b hb hb2 => by
   rcases hb with q | q
   ·
    exact (hFj b q).2.1 hb2
   ·
    omega)
  refine hput _ (L.set r u') [u'] (fun q => Fj q ∨ D ≤ q) l (World.ownsRow.stored hrow1 r u').1 (fun o ho => ?_) (fun i hi => ?_) ⟨u', rfl, ho2⟩ (fun b hb => ?_) ((tt.mono (fun b hb => Or.inr hb)).trans (t2.mono (fun b hb => Or.inl hb)))
  ·
   have ho3 : o < r * 1 ∨ r * 1 + 1 ≤ o := ho
   rw [Ig (by omega)]
  ·
   have hi2 : i < 1 := hi
   obtain rfl : i = 0 := by omega
   rw [show Jd.n = 1 from rfl, Nat.mul_one, Nat.add_zero]
   have hLl : L.length = ss.length * 1 := hrow.1
   exact List.getElem?_set_self (by omega)
  ·
   rcases hb with q | q
   ·
    exact ⟨(hFj b q).1, Or.inl q⟩
   ·
    exact ⟨hF b q, Or.inr q⟩
theorem rowB_three {r : Ej} (h : Ui r = true) : r.2.length = 3 := by
 unfold Ui at h
 rw [Bool.and_eq_true, Bool.and_eq_true] at h
 exact of_decide_eq_true h.2.2
theorem verB_three {v : Kj} {now : Int} (h : verB v now = true) : v.2.1.length = 3 := by
 unfold verB at h
 rw [Bool.and_eq_true] at h
 exact rowB_three h.1
theorem sum_le_mul {c : Nat} : ∀ {l : List Nat}, (∀ x ∈ l, x ≤ c) → l.sum ≤ c * l.length
 | [], _ => by simp
 | x :: l, h => by
  have h1 := h x (by simp)
  have h2 := sum_le_mul (l := l) (c := c) (fun y hy => h y (by simp [hy]))
  simp only [List.sum_cons, List.length_cons, Nat.mul_add, Nat.mul_one]
  omega
theorem zL_threes {l : List Kj} (h : ∀ j, j < l.length → (l.getD j Uq).2.1.length ≤ 3) : zL Jh l ≤ 4 * l.length := by
 rw [zL_sum]
 have := sum_le_mul (c := 3) (l := l.map Jh.sz) (fun x hx => by
  obtain ⟨v, hv, rfl⟩ := List.mem_map.1 hx
  obtain ⟨j, hj, rfl⟩ := List.getElem_of_mem hv
  rw [ver_sz]
  have := h j hj
  simpa [List.getD, hj] using this)
 rw [List.length_map] at this
 omega
theorem flat_short {ss : List (List Kj)} (h : ShortP ss ss.length) : ss.flatten.length ≤ 4 * ss.length := by
 rw [List.length_flatten]
 have := sum_le_mul (c := 4) (l := ss.map List.length) (fun x hx => by
  obtain ⟨s, hs, rfl⟩ := List.mem_map.1 hx
  obtain ⟨j, hj, rfl⟩ := List.getElem_of_mem hs
  have := h j hj
  simpa [List.getD, hj] using this)
 rw [List.length_map] at this
 exact this
theorem store_small {ss : List (List Kj)} {now : Int} (h : Yb ss now = true) : zL Jd ss ≤ 136 := by
 obtain ⟨⟨h1, _⟩, h2, h3⟩ := store_iff h
 have g1 := flat_short h2
 have g2 := zL_threes (l := ss.flatten) (fun j hj => Nat.le_of_eq (verB_three (h3 j hj).1))
 have g3 := zL_all ss
 omega
/-- A new store and a number. -/
def FreshNI (w : World) (r : Yx × Int) (e : Ending) (w' : World) : Prop := ∃ (g0 : List Value) (G0 : Nat → Prop), e = .returned (.tuple #[.agg g0.toArray, .int .i64 r.2]) ∧ Ks.O w' G0 g0 r.1 ∧ (∀ b, G0 b → w.heap.size ≤ b) ∧ Below w w w'
def needT (keep : List Int) (v : Kj) (j : Nat) : Bool := decide (v.2.2.2 = -1) || (keep.take j).any (fun t => visB v t)
theorem needT_zero (keep : List Int) (v : Kj) : needT keep v 0 = decide (v.2.2.2 = -1) := by simp [needT]
theorem needT_step {keep : List Int} {v : Kj} {j : Nat} (h : j < keep.length) : needT keep v (j + 1) = (needT keep v j || visB v (keep.getD j 0)) := by
 unfold needT
 have e : keep.getD j 0 = keep[j] := by simp [List.getD, h]
 rw [e, List.take_succ_eq_append_getElem h, List.any_append, Bool.or_assoc]
 simp
theorem needT_all (keep : List Int) (v : Kj) : needT keep v keep.length = needB keep v := by unfold needT needB; rw [List.take_length]
/-- The indices of what is needed of the first k. -/
def Vp (keep : List Int) (l : List Kj) (k : Nat) : List Nat := (List.range k).filter (fun j => needB keep (l.getD j Uq))
theorem kept_yes {keep : List Int} {l : List Kj} {k : Nat} (h : needB keep (l.getD k Uq) = true) : Vp keep l (k + 1) = Vp keep l k ++ [k] := by
 unfold Vp; rw [List.range_succ, List.filter_append]; simp only [List.filter_cons, List.filter_nil, h, if_true]
theorem kept_no {keep : List Int} {l : List Kj} {k : Nat} (h : needB keep (l.getD k Uq) = false) : Vp keep l (k + 1) = Vp keep l k := by
 unfold Vp; rw [List.range_succ, List.filter_append]; simp only [List.filter_cons, List.filter_nil, h, Bool.false_eq_true, if_false, List.append_nil]
theorem kept_lt {keep : List Int} {l : List Kj} {k j : Nat} (h : j ∈ Vp keep l k) : j < k := List.mem_range.1 (List.mem_filter.1 h).1
theorem kept_nodup (keep : List Int) (l : List Kj) (k : Nat) : (Vp keep l k).Nodup := List.Pairwise.filter _ List.nodup_range
theorem kept_need (keep : List Int) (l : List Kj) : ∀ k, k ≤ l.length → (Vp keep l k).map (fun j => l.getD j Uq) = Xa keep (l.take k)
 | 0, _ => by simp [Vp, Xa]
 | k + 1, hk => by
  have ih := kept_need keep l k (by omega)
  cases h : needB keep (l.getD k Uq) with
  | true => rw [kept_yes h, List.map_append, ih, need_yes (by omega) h]; rfl
  | false => rw [kept_no h, ih, need_no (by omega) h]
theorem kept_all (keep : List Int) (l : List Kj) : (Vp keep l l.length).map (fun j => l.getD j Uq) = Xa keep l := by rw [kept_need keep l _ (Ii _), List.take_length]
theorem kept_len_le (keep : List Int) (l : List Kj) (k : Nat) : (Vp keep l k).length ≤ k := by
 unfold Vp; exact Nat.le_trans (List.length_filter_le _ _) (by rw [List.length_range]; exact Ii _)
theorem kept_len (keep : List Int) (l : List Kj) : (Vp keep l l.length).length = (Xa keep l).length := by rw [← kept_all keep l, List.length_map]
def cntTo (keep : List Int) (ss : List (List Kj)) (i : Nat) : Nat := ((ss.take i).map (fun l => l.length - (Xa keep l).length)).sum
theorem cnt_zero (keep : List Int) (ss : List (List Kj)) : cntTo keep ss 0 = 0 := by simp [cntTo]
theorem cnt_step {keep : List Int} {ss : List (List Kj)} {i : Nat} (h : i < ss.length) : cntTo keep ss (i + 1) = cntTo keep ss i + ((ss.getD i []).length - (Xa keep (ss.getD i [])).length) := by
 unfold cntTo
 have e : ss.getD i [] = ss[i] := by simp [List.getD, h]
 rw [e, List.take_succ_eq_append_getElem h, List.map_append, List.sum_append]
 simp
theorem cnt_add (keep : List Int) : ∀ ss : List (List Kj), (ss.map (fun l => l.length - (Xa keep l).length)).sum + (Vn keep ss).flatten.length = ss.flatten.length
 | [] => rfl
 | l :: ss => by
  have h1 := cnt_add keep ss
  have h2 := need_len keep l
  have e : (Vn keep (l :: ss)).flatten.length = (Xa keep l).length + (Vn keep ss).flatten.length := by simp [Vn]
  rw [e, List.map_cons, List.sum_cons, List.flatten_cons, List.length_append]
  omega
theorem cnt_all (keep : List Int) (ss : List (List Kj)) : ((cntTo keep ss ss.length : Nat) : Int) = (ss.flatten.length : Int) - ((Vn keep ss).flatten.length : Int) := by
 have := cnt_add keep ss
 unfold cntTo
 rw [List.take_length]
 omega
theorem cnt_le {keep : List Int} {ss : List (List Kj)} {i : Nat} (h : i ≤ ss.length) : cntTo keep ss i ≤ ss.flatten.length := by
 have h1 := cnt_add keep (ss.take i)
 have h2 : (ss.take i).flatten.length ≤ ss.flatten.length := by
  have e : ss.flatten = (ss.take i).flatten ++ (ss.drop i).flatten := by rw [← List.flatten_append, List.take_append_drop]
  rw [e, List.length_append]; omega
 unfold cntTo
 omega
def recTo (keep : List Int) (ss : List (List Kj)) (i : Nat) : List (List Kj) := (ss.take i).map (Xa keep) ++ ss.drop i
theorem rec_zero (keep : List Int) (ss : List (List Kj)) : recTo keep ss 0 = ss := by simp [recTo]
theorem rec_len (keep : List Int) (ss : List (List Kj)) (i : Nat) : (recTo keep ss i).length = ss.length := by simp [recTo]; omega
theorem rec_all (keep : List Int) (ss : List (List Kj)) : recTo keep ss ss.length = Vn keep ss := by simp [recTo, Vn]
theorem rec_at {keep : List Int} {ss : List (List Kj)} {i : Nat} (h : i < ss.length) : (recTo keep ss i).getD i [] = ss.getD i [] := by
 unfold recTo
 have hl : ((ss.take i).map (Xa keep)).length = i := by rw [List.length_map, List.length_take]; omega
 simp only [List.getD]
 rw [List.getElem?_append_right (by omega), hl, Nat.sub_self, List.getElem?_drop]
 rfl
theorem rec_step {keep : List Int} {ss : List (List Kj)} {i : Nat} (h : i < ss.length) : (recTo keep ss i).set i (Xa keep (ss.getD i [])) = recTo keep ss (i + 1) := by
 unfold recTo
 have hl : ((ss.take i).map (Xa keep)).length = i := by rw [List.length_map, List.length_take]; omega
 have e : ss.getD i [] = ss[i] := by simp [List.getD, h]
 rw [List.set_append_right _ _ (by omega), hl, Nat.sub_self, List.drop_eq_getElem_cons h, List.set_cons_zero, List.take_succ_eq_append_getElem h, List.map_append, List.append_assoc, e]
 rfl
theorem rec_small {ss : List (List Kj)} {now : Int} {keep : List Int} (hs : zL Jd ss ≤ 1048576) : Ks.sz (Xj (ss, now) keep).1 ≤ 1048576 := by
 cases h : Yb ss now with
 | false => rw [reclaim_no h, tStore_sz]; exact hs
 | true =>
  rw [reclaim_yes h]
  show Ks.sz (Vn keep ss, now) ≤ 1048576
  rw [tStore_sz]
  have h3 := store_small h
  have h4 : zL Jd (Vn keep ss) ≤ zL Jd ss := by
   rw [← zL_all, ← zL_all, zL_sum, zL_sum]
   have h5 : ∀ l : List Kj, (Xa keep l).length + ((Xa keep l).map Jh.sz).sum ≤ l.length + (l.map Jh.sz).sum := fun l => by
    induction l with
    | nil => exact Ii _
    | cons v l ih =>
     unfold Xa at *
     rw [List.filter_cons]
     split
     ·
      simp only [List.length_cons, List.map_cons, List.sum_cons]; omega
     ·
      simp only [List.length_cons, List.map_cons, List.sum_cons]; omega
   clear h h3
   induction ss with
   | nil => exact Ii _
   | cons l ss ih =>
    have h6 := h5 l
    have hs' : zL Jd ss ≤ 1048576 := by rw [← zL_all, zL_sum] at hs ⊢; simp only [List.flatten_cons, List.length_append, List.map_append, List.sum_append, List.length_cons] at hs; omega
    have h7 := ih hs'
    simp only [Vn, List.map_cons, List.length_cons, List.flatten_cons, List.length_append, List.map_append, List.sum_append] at *
    omega
  omega
/-- Cells that were moved to a slice of the call's own, what they name being owned: an owned slice. -/
theorem raw_own {α : Type} {T : Ty α} {e : TypeId} {w : World} {D : Nat} {v : Value} {L : List (List Value)} {ys : List α} {Fs : Nat → Nat → Prop} {G : Nat → Prop} (h : Kp e (Ub T.n) w (fun b => D ≤ b) v L) (hl : L.length = ys.length)
  (ho : ∀ j, j < ys.length → T.O w (Fs j) (L.getD j []) (ys.getD j T.d) ∧ ∀ b, Fs j b → G b ∧ b < D) (hd : ∀ i j, i < ys.length → j < ys.length → i ≠ j → ∀ b, Fs i b → ¬ Fs j b) : Kp e T w (fun q => G q ∨ D ≤ q) v ys := by
 obtain ⟨L0, us, F0, h1, h2, h3, h4⟩ := h
 refine ⟨L0, fun j => L.getD j [], Fs, by rw [← hl]; exact h1, fun b hb => Or.inr (h2 b hb), fun j hj => ⟨fun i hi => ?_, (ho j hj).1, fun b hb => ⟨Or.inl ((ho j hj).2 b hb).1, fun q => ?_⟩⟩, hd⟩
 ·
  obtain ⟨g1, g2, _⟩ := h3 j (by omega)
  have g3 : us j = L.getD j [] := g2.1
  have := g1 i hi
  rw [g3] at this
  exact this
 ·
  have := h2 b q; have := ((ho j hj).2 b hb).2; omega
/-- What an owned slice owns, element by element. -/
theorem slO_each {α : Type} {T : Ty α} (A : T.Law) {e : TypeId} {w : World} {F : Nat → Prop} {v : Value} {xs : List α} (h : Kp e T w F v xs) :
  ∃ (us : Nat → List Value) (Fs : Nat → Nat → Prop), (∀ j, j < xs.length → T.O w (Fs j) (us j) (xs.getD j T.d) ∧ (∀ b, Fs j b → F b ∧ b < w.heap.size) ∧ ∀ g n cap, v = .slice (some ⟨g, 0, none⟩) n cap → ∀ i, i < T.n → w.cell? ⟨g, j * T.n + i, none⟩ = (us j)[i]?) ∧ ∀ i j, i < xs.length → j < xs.length → i ≠ j → ∀ b, Fs i b → ¬ Fs j b := by
 obtain ⟨L, us, Fs, h1, h2, h3, h4⟩ := Kn A h
 refine ⟨us, Fs, fun j hj => ⟨(h3 j hj).2.1, fun b hb => ((h3 j hj).2.2 b hb).1, fun g n cap hv i hi => ?_⟩, h4⟩
 subst hv
 have hlt : j * T.n + i < xs.length * T.n := by
  have : (j + 1) * T.n ≤ xs.length * T.n := Nat.mul_le_mul_right _ hj
  rw [Nat.add_mul, Nat.one_mul] at this; omega
 rcases h1.2 with ⟨h', _⟩ | ⟨g', cap', cur', h', _⟩
 ·
  simp at h'
 ·
  simp only [Ik, Option.some.injEq, Addr.mk.injEq] at h'
  obtain ⟨_, rfl, _⟩ := h'
  rw [World.ownsRow.cellAt h1 _ hlt]
  exact (h3 j hj).1 i hi
/-- The needed ones of an owned slice, moved. -/
theorem kept_own {w0 w1 : World} {Fj : Nat → Prop} {D : Nat} {u pv : Value} {l : List Kj} {keep : List Int} {us : Nat → List Value} {Fs : Nat → Nat → Prop}
  (h : Kp 212 (Ub 4) w1 (fun b => D ≤ b) pv ((Vp keep l l.length).map us)) (he : ∀ j, j < l.length → Jh.O w0 (Fs j) (us j) (l.getD j Uq) ∧ ∀ b, Fs j b → Fj b ∧ b < D) (hd : ∀ i j, i < l.length → j < l.length → i ≠ j → ∀ b, Fs i b → ¬ Fs j b) (hb : Below D w0 w1) :
  Kp 212 Jh w1 (fun q => Fj q ∨ D ≤ q) pv (Xa keep l) := by
 have hk : ∀ j, j < (Xa keep l).length → (Vp keep l l.length).getD j 0 < l.length ∧ (Xa keep l).getD j Uq = l.getD ((Vp keep l l.length).getD j 0) Uq := fun j hj => by
  have hj2 : j < (Vp keep l l.length).length := by rw [kept_len]; exact hj
  have e : (Vp keep l l.length).getD j 0 = (Vp keep l l.length)[j] := by simp [List.getD, hj2]
  refine ⟨by rw [e]; exact kept_lt (List.getElem_mem hj2), ?_⟩
  rw [← kept_all keep l, e]
  simp [List.getD, hj2]
 refine raw_own (T := Jh) (Fs := fun j => Fs ((Vp keep l l.length).getD j 0)) h (by rw [List.length_map, kept_len]) (fun j hj => ?_) (fun i j hi hj hij => hd _ _ (hk i hi).1 (hk j hj).1 (fun q => hij ?_))
 ·
  obtain ⟨h1, h2⟩ := hk j hj
  obtain ⟨g1, g2⟩ := he _ h1
  have hj2 : j < (Vp keep l l.length).length := by rw [kept_len]; exact hj
  have e2 : ((Vp keep l l.length).map us).getD j [] = us ((Vp keep l l.length).getD j 0) := by simp [List.getD, hj2]
  rw [e2]
  refine ⟨?_, g2⟩
  have e3 : (Xa keep l).getD j Jh.d = (Xa keep l).getD j Uq := rfl
  rw [e3, h2]
  exact Jp.turn (G := fun b => D ≤ b) g1 ⟨hb.os, hb.tape, hb.output, hb.size, fun k hk hn => hb.block k (by omega)⟩ (fun b hb2 hb3 => by have := (g2 b hb2).2; omega)
 ·
  have hi2 : i < (Vp keep l l.length).length := by rw [kept_len]; exact hi
  have hj2 : j < (Vp keep l l.length).length := by rw [kept_len]; exact hj
  have e1 : (Vp keep l l.length).getD i 0 = (Vp keep l l.length)[i] := by simp [List.getD, hi2]
  have e2 : (Vp keep l l.length).getD j 0 = (Vp keep l l.length)[j] := by simp [List.getD, hj2]
  rw [e1, e2] at q
  have nd := List.pairwise_iff_getElem.1 (kept_nodup keep l l.length)
  rcases Nat.lt_trichotomy i j with q1 | q1 | q1
  ·
   exact absurd q (nd i j hi2 hj2 q1)
  ·
   exact q1
  ·
   exact absurd q.symm (nd j i hj2 hi2 q1)
/-- One element of four cells in a block of its own. -/
theorem raw_one {w : World} {b : Nat} {c0 c1 c2 c3 : Value} {t : TypeId} (h : w.heap[b]? = some (.cells #[c0, c1, c2, c3] t (0, 0))) (h0 : c0.oneCell' = true) (h1 : c1.oneCell' = true) (h2 : c2.oneCell' = true) (h3 : c3.oneCell' = true) :
  Ko (Ub 4) w (.slice (some ⟨b, 0, none⟩) 1 1) [[c0, c1, c2, c3]] := by
 refine Or.inr ⟨b, 0, 1, fun _ => [c0, c1, c2, c3], rfl, Ii _, (Array.getElem?_eq_some_iff.1 h).1, fun j hj => ?_⟩
 have hj0 : j = 0 := by simpa using hj
 subst hj0
 refine ⟨fun i hi => ?_, rfl, rfl, fun u hu => ?_⟩
 ·
  have hi4 : i < 4 := hi
  match i, hi4 with
  | 0, _ => exact (Ia w _ 0 _ _ _ h).trans rfl
  | 1, _ => exact (Ia w _ 1 _ _ _ h).trans rfl
  | 2, _ => exact (Ia w _ 2 _ _ _ h).trans rfl
  | 3, _ => exact (Ia w _ 3 _ _ _ h).trans rfl
 ·
  simp at hu
  rcases hu with rfl | rfl | rfl | rfl <;> assumption
end Go.Proofs.YtnepfacnmaoieaaGreatDoor
