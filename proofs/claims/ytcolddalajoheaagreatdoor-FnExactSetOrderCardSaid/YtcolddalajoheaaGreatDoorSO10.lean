/-
 Texts of the proof, merged: UpdSpec4, Cpl9Copy.
-/
import Derived.Test.YtcolddalajoheaaGreatDoorSO3
import Derived.Test.YtcolddalajoheaaGreatDoorSO4
import Derived.Test.YtcolddalajoheaaGreatDoorSO6
import Derived.Test.YtcolddalajoheaaGreatDoorSO7
import Derived.Test.YtcolddalajoheaaGreatDoorSO9
import Derived.Test.YtcolddalajoheaaGreatDoorSO21
import Derived.Deep.Cut
namespace Go.Proofs.YtcolddalajoheaaGreatDoor
open Go.RowKit
open Go renaming frozen_of_row → Ut, cell_of_row → Uu, heap_setCell_same → Uv, heap_alloc_new → Uw
open Go.World renaming size_alloc → Ux
open Nat renaming le_refl → Ed, zero_le → Ef
open Go.Value.slice renaming injEq → Eg
open Go.RowKit.Below renaming refl → Eh
open ZD0
set_option maxRecDepth 100000
set_option linter.unusedVariables false
set_option linter.unusedSimpArgs false
set_option maxHeartbeats 16000000 in
theorem specCopy (v : Value) (ss : List (List Kw)) (now : Int) (w : World) (h : Kc Je w v ss) (hs : zL Je ss ≤ 1048576) :
  Calls Tryz.prog 86 #[.agg #[v, .int .i64 now]] w (Yc tStore (fun cs => .agg cs.toArray) w (ss, now)) := by
 have hlen := Jz hs
 have HS := hd hs
 obtain ⟨a, cap, rfl⟩ := Jo h
 have d0 := hd (show Below w w (((w.alloc (.cells #[.slice a ss.length cap, .int .i64 now] 38)).alloc (.cells #[(), Ja] 38)).alloc (.cells #[(), .int .i64 now] 38)) from (((Eh _ _).alloc (Ed _) _).alloc (by simp <;> omega) _).alloc (by simp <;> omega) _)
 have k0 : (((w.alloc (.cells #[.slice a ss.length cap, .int .i64 now] 38)).alloc (.cells #[(), Ja] 38)).alloc (.cells #[(), .int .i64 now] 38)).heap[w.heap.size]? = some (.cells #[.slice a ss.length cap, .int .i64 now] 38 (0, 0)) := by
  rw [Below.heap_alloc _ _ _ (by simp <;> omega), Below.heap_alloc _ _ _ (by simp)]; exact Uw w _
 have k1 : (((w.alloc (.cells #[.slice a ss.length cap, .int .i64 now] 38)).alloc (.cells #[(), Ja] 38)).alloc (.cells #[(), .int .i64 now] 38)).heap[w.heap.size + 1]? = some (.cells #[(), Ja] 38 (0, 0)) := by
  rw [Below.heap_alloc _ _ _ (by simp)]
  have := Uw (w.alloc (.cells #[.slice a ss.length cap, .int .i64 now] 38)) (.cells #[(), Ja] 38)
  simpa only [Ux] using this
 have k2 : (((w.alloc (.cells #[.slice a ss.length cap, .int .i64 now] 38)).alloc (.cells #[(), Ja] 38)).alloc (.cells #[(), .int .i64 now] 38)).heap[w.heap.size + 2]? = some (.cells #[(), .int .i64 now] 38 (0, 0)) := by
  have := Uw ((w.alloc (.cells #[.slice a ss.length cap, .int .i64 now] 38)).alloc (.cells #[(), Ja] 38)) (.cells #[(), .int .i64 now] 38)
  simpa only [Ux] using this
 have K0 := hd k0
 have K1 := hd k1
 have K2 := hd k2
 have YW : Hid (w.heap.size + 2 < (((w.alloc (.cells #[.slice a ss.length cap, .int .i64 now] 38)).alloc (.cells #[(), Ja] 38)).alloc (.cells #[(), .int .i64 now] 38)).heap.size) := hd (by simp)
 have H := hd h
 clear h hs k0 k1 k2
 go_enter Tryz.func86, Tryz.ntmps86
 go_wp2
 generalize (((w.alloc (.cells #[.slice a ss.length cap, .int .i64 now] 38)).alloc (.cells #[(), Ja] 38)).alloc (.cells #[(), .int .i64 now] 38)) = W at *
 go_loopw [4] (fun i wr => ∃ (k : Nat) (fv : Value), k ≤ ss.length ∧ i = .int .i64 k ∧ wr.heap[w.heap.size]? = some (.cells #[.slice a ss.length cap, .int .i64 now] 38 (0, 0)) ∧ wr.heap[w.heap.size + 1]? = some (.cells #[(), Ja] 38 (0, 0)) ∧ wr.heap[w.heap.size + 2]? = some (.cells #[fv, .int .i64 now] 38 (0, 0)) ∧ Kt 179 Je wr (fun q => w.heap.size + 2 < q) fv (ss.take k) ∧ Below w w wr ∧ w.heap.size + 2 < wr.heap.size) (fun i _ => ss.length - (intOf i).toNat)
 case atStart => exact ⟨0, .slice none 0 0, Ef _, rfl, K0.out, K1.out, K2.out, Vl _ _ _ _, d0.out, YW.out⟩
 case round =>
  obtain ⟨k, fv, hk, rfl, r0, r1, r2, hown, hbel, hsz⟩ := hrel
  have hfl : (ss.take k).length = k := by rw [List.length_take]; omega
  obtain ⟨fa, fc, rfl⟩ := Js hown
  by_cases hlt : k < ss.length
  ·
   have i1 : (0 : Int) ≤ (k : Int) := by omega
   have i2 : (k : Int) < (ss.length : Int) := by omega
   obtain ⟨b, off, cap', cs, hv, hbl, hcs, hR⟩ := Km H.out hlt
   simp only [Eg] at hv
   obtain ⟨rfl, _, rfl⟩ := hv
   obtain ⟨u, rfl, hU⟩ := hR
   change Kc Jn w u (ss.getD k []) at hU
   have pe : w.cell? ⟨b, off + k, none⟩ = some u := by have := hcs 0 Nat.one_pos; rw [show Je.n = 1 from rfl, Nat.mul_one, Nat.add_zero] at this; exact this
   have hzl : zL Jn (ss.getD k []) ≤ 1048576 := Nat.le_trans (zL_seg hlt) HS.out
   obtain ⟨ua, uc, rfl⟩ := Jo hU
   have HC := hd (fun w h => specPart (.slice ua (ss.getD k []).length uc) (ss.getD k []) w h hzl)
   have HTK : Hid (ss.take k ++ [ss.getD k []] = ss.take (k + 1)) := hd (by rw [List.take_succ_eq_append_getElem hlt]; simp [List.getD, hlt])
   have HTL : Hid ((ss.take (k + 1)).length = k + 1) := hd (by rw [List.length_take]; omega)
   have HYL : Hid ((ss.take k).length ≤ 1048576) := hd (by omega)
   have HU := hd hU
   have C0 := hd pe
   have HBL := hd hbl
   have B0 := hd r0
   have BZ := hd r1
   have BX := hd r2
   have PF := hd (Ki Jd hown)
   have QF := hd (fun q (h : w.heap.size + 2 < q ∧ q < wr.heap.size) => h)
   have d := hd hbel
   have ZR := hd hsz
   have q0 := cr 0 (Value.slice (some ⟨b, off, none⟩) ss.length cap) r0
   clear hcs pe hU hzl hbl r0 r1 r2 hown hbel hsz hfl
   generalize ss.getD k [] = l at *
   generalize ss.take k = ys at *
   go_wp2
   clear q0
   obtain ⟨p_B0_0, p_B0_1⟩ := Vk B0.out
   have p_C0 := cx d C0 HBL
   refine wp_region_held_drew (S := fun w' => w'.cell? ⟨w, 0, none⟩ = some (Value.slice (some ⟨b, off, none⟩) ss.length cap) ∧ w'.cell? ⟨w, 1, none⟩ = some (Value.int .i64 now) ∧ w'.cell? ⟨b, off + k, none⟩ = some (Value.slice ua l.length uc)) (by kernel_rfl) ⟨p_B0_0, p_B0_1, p_C0⟩ (fun hHeld => ?_)
   clear p_B0_0 p_B0_1 p_C0
   have cdr : Below wr wr wr.drew := Ke (Eh _ _)
   replace B0 := zb cdr B0
   replace BZ := zb cdr BZ
   replace BX := zb cdr BX
   replace PF := zf Jd PF cdr
   replace d := zD d cdr
   clear cdr
   have Z_dr := hd (show wr.heap.size ≤ wr.drew.heap.size from Ed _)
   generalize wr.drew = Wd at *
   refine tQ (i := 0) ?_
   try simp only [Act.put, lA, lB, lC]
   refine tQ (i := 2) ?_
   try simp only [Act.put, lA, lB, lC]
   refine tQ (i := 3) ?_
   try simp only [Act.put, lA, lB, lC]
   refine tQ (i := 4) ?_
   try simp only [Act.put, lA, lB, lC]
   refine tQ (i := 5) ?_
   try simp only [Act.put, lA, lB, lC]
   refine tQ (i := 6) ?_
   try simp only [Act.put, lA, lB, lC]
   refine wpAnyH_ready (rs := [1, 7]) (by kernel_rfl) (by simp) ?_
   refine (AllReadyH.cons (o := _) (by simp only [hA, hB, hC]; rfl) (fun K hK => ?_) (AllReadyH.cons (o := _) (by simp only [hA, hB, hC]; rfl) (fun K hK => ?_) AllReadyH.nil))
   ·
    have px := (Uu Wd _ 0 _ _ _ BX.out).trans (show _ = some (Value.slice fa ys.length fc) from rfl)
    go_simp
    clear px
    obtain ⟨p_B0_0, p_B0_1⟩ := Vk B0.out
    have p_C0 := cx d C0 HBL
    refine hK.out _ _ ⟨p_B0_0, p_B0_1, p_C0⟩ (fun hHeld => ?_)
    clear p_B0_0 p_B0_1 p_C0
    clear hK K
    try simp only [Act.put, lA, lB, lC]
    refine rA 7 (fun K hK => ?_)
    go_simp
    refine (HC.out Wd (Jc Ka HU.out d.out)).mono ?_
    rintro e w5 ⟨pv, rfl, op, c5⟩
    have ox : Kt 178 Jn w5 (fun q => wr.heap.size ≤ q) pv l := Kk op (fun q hq => Nat.le_trans Z_dr.out hq)
    obtain ⟨pa, pc, rfl⟩ := Js ox
    have PX := hd ox
    replace B0 := zb c5 B0
    replace BZ := zb c5 BZ
    replace BX := zb c5 BX
    replace PF := zf Jd PF c5
    replace d := zD d c5
    have Z_w5 := hd (show Wd.heap.size ≤ w5.heap.size from c5.size)
    have QX := hd (fun q (h : wr.heap.size ≤ q) => h)
    clear c5 op ox
    obtain ⟨p_B0_0, p_B0_1⟩ := Vk B0.out
    have p_C0 := cx d C0 HBL
    refine hK.out _ _ ⟨p_B0_0, p_B0_1, p_C0⟩ (fun hHeld => ?_)
    clear p_B0_0 p_B0_1 p_C0
    clear hK K
    try simp only [Act.put, lA, lB, lC]
    refine rA 8 (fun K hK => ?_)
    go_simp
    have hal : Below w5 w5 (w5.alloc (.cells #[.slice pa l.length pc] 179)) := (Eh _ _).alloc (Ed _) _
    have KB0 := B0
    have KBZ := BZ
    have KBX := BX
    have KPF := PF
    have KPX := PX
    have Kd := d
    replace B0 := zb hal B0
    replace BZ := zb hal BZ
    replace BX := zb hal BX
    replace PF := zf Jd PF hal
    replace PX := zf Ka PX hal
    replace d := zD d hal
    clear hal
    obtain ⟨p_B0_0, p_B0_1⟩ := Vk B0.out
    have p_C0 := cx d C0 HBL
    refine hK.out _ _ ⟨p_B0_0, p_B0_1, p_C0⟩ (fun hHeld => ?_)
    clear p_B0_0 p_B0_1 p_C0
    clear hK K
    try simp only [Act.put, lA, lB, lC]
    refine rA 9 (fun K hK => ?_)
    have y0 := ZR.out
    have y1 := Z_dr.out
    have y2 := Z_w5.out
    have yd := Kd.out.size
    have hD : wr.heap.size ≤ w5.heap.size := by omega
    refine Yp Jd info_T_VersionS Tryz.underlying36 rfl rfl (.tmp 16) (.tmp 23) rfl (fun q => w.heap.size + 2 < q) wr.heap.size _ ys rfl KPF.out hD (fun q hq => by show w.heap.size + 2 < q; omega) HYL.out [.slice pa l.length pc] l ⟨_, rfl, KPX.out⟩ (by simp [Value.oneCell']) 1 _ rfl rfl ?_
    intro v' w7 oN tN
    replace B0 := zB tN KB0 (fun h => by have r : w.heap.size + 2 < w.heap.size := h.1; omega)
    replace BZ := zB tN KBZ (fun h => by have r : w.heap.size + 2 < (w.heap.size + 1) := h.1; omega)
    replace BX := zB tN KBX (fun h => by have r : w.heap.size + 2 < (w.heap.size + 2) := h.1; omega)
    replace d := hd (Jr Kd.out tN (fun q hq => by have r : w.heap.size + 2 < q := hq.1; omega) yd)
    have zN := hd (show w5.heap.size ≤ w7.heap.size from tN.size)
    rw [HTK.out] at oN
    obtain ⟨na, nc, rfl⟩ := Js oN
    rw [HTL.out] at oN
    have PN := hd oN
    clear hD oN tN yd PF PX KB0 KBZ KBX KPF KPX Kd y0 y1 y2
    obtain ⟨p_B0_0, p_B0_1⟩ := Vk B0.out
    have p_C0 := cx d C0 HBL
    refine hK.out _ _ ⟨p_B0_0, p_B0_1, p_C0⟩ (fun hHeld => ?_)
    clear p_B0_0 p_B0_1 p_C0
    clear hK K
    try simp only [Act.put, lA, lB, lC]
    refine tQ (i := 10) ?_
    try simp only [Act.put, lA, lB, lC]
    refine rA 11 (fun K hK => ?_)
    have px := cr 0 (Value.slice fa ys.length fc) BX.out
    have fx := Ut w7 _ 0 _ _ BX.out
    rw [HTL.out]
    go_simp
    clear px fx
    have tt : Jy (fun q => q = w.heap.size + 2) w7 (w7.setCell ⟨w.heap.size + 2, 0, none⟩ (.slice na (k + 1) nc)) := Jh (G := fun q => q = w.heap.size + 2) (g := w.heap.size + 2) (j := 0) (u := .slice na (k + 1) nc) rfl
    have r := Uv w7 (w.heap.size + 2) 0 _ _ (.slice na (k + 1) nc) BX.out
    simp at r
    have y0 := ZR.out
    have y1 := Z_dr.out
    have y2 := Z_w5.out
    have y3 := zN.out
    replace BX : Hid ((w7.setCell ⟨w.heap.size + 2, 0, none⟩ (.slice na (k + 1) nc)).heap[w.heap.size + 2]? = some (.cells #[.slice na (k + 1) nc, .int .i64 now] 38 (0, 0))) := hd r
    replace B0 := zB tt B0 (fun h => by omega)
    replace BZ := zB tt BZ (fun h => by omega)
    replace PN := zt Jd PN tt (fun q h1 h2 => by have r1 : w.heap.size + 2 < q := h1; omega)
    replace d := hd (Jr d.out tt (fun q h => by omega) d.out.size)
    have zM := hd (show w7.heap.size ≤ (w7.setCell ⟨w.heap.size + 2, 0, none⟩ (.slice na (k + 1) nc)).heap.size from tt.size)
    clear tt r y0 y1 y2 y3
    generalize (w7.setCell ⟨w.heap.size + 2, 0, none⟩ (.slice na (k + 1) nc)) = w8 at *
    obtain ⟨p_B0_0, p_B0_1⟩ := Vk B0.out
    have p_C0 := cx d C0 HBL
    refine hK.out _ _ ⟨p_B0_0, p_B0_1, p_C0⟩ (fun hHeld => ?_)
    clear p_B0_0 p_B0_1 p_C0
    clear hK K
    try simp only [Act.put, lA, lB, lC]
    refine wpAnyH_done (by kernel_rfl) ?_ _
    clear hHeld
    have y0 := ZR.out
    have y1 := Z_dr.out
    have y2 := Z_w5.out
    have y3 := zN.out
    have y4 := zM.out
    have zz : w.heap.size + 2 < w8.heap.size := by omega
    have ZZ := hd zz
    clear zz y0 y1 y2 y3 y4
    go_wp2
    go_roundw
    case rel => exact ⟨k + 1, _, by omega, by go_num, B0.out, BZ.out, BX.out, PN.out, d.out, ZZ.out⟩
    case measure => simp [intOf]; omega
   ·
    go_simp
    refine (HC.out Wd (Jc Ka HU.out d.out)).mono ?_
    rintro e w5 ⟨pv, rfl, op, c5⟩
    have ox : Kt 178 Jn w5 (fun q => wr.heap.size ≤ q) pv l := Kk op (fun q hq => Nat.le_trans Z_dr.out hq)
    obtain ⟨pa, pc, rfl⟩ := Js ox
    have PX := hd ox
    replace B0 := zb c5 B0
    replace BZ := zb c5 BZ
    replace BX := zb c5 BX
    replace PF := zf Jd PF c5
    replace d := zD d c5
    have Z_w5 := hd (show Wd.heap.size ≤ w5.heap.size from c5.size)
    have QX := hd (fun q (h : wr.heap.size ≤ q) => h)
    clear c5 op ox
    obtain ⟨p_B0_0, p_B0_1⟩ := Vk B0.out
    have p_C0 := cx d C0 HBL
    refine hK.out _ _ ⟨p_B0_0, p_B0_1, p_C0⟩ (fun hHeld => ?_)
    clear p_B0_0 p_B0_1 p_C0
    clear hK K
    try simp only [Act.put, lA, lB, lC]
    refine wpAnyH_ready (rs := [1, 8]) (by kernel_rfl) (by simp) ?_
    refine (AllReadyH.cons (o := _) (by simp only [hA, hB, hC]; rfl) (fun K hK => ?_) (AllReadyH.cons (o := _) (by simp only [hA, hB, hC]; rfl) (fun K hK => ?_) AllReadyH.nil))
    ·
     have px := (Uu w5 _ 0 _ _ _ BX.out).trans (show _ = some (Value.slice fa ys.length fc) from rfl)
     go_simp
     clear px
     obtain ⟨p_B0_0, p_B0_1⟩ := Vk B0.out
     have p_C0 := cx d C0 HBL
     refine hK.out _ _ ⟨p_B0_0, p_B0_1, p_C0⟩ (fun hHeld => ?_)
     clear p_B0_0 p_B0_1 p_C0
     clear hK K
     try simp only [Act.put, lA, lB, lC]
     refine rA 8 (fun K hK => ?_)
     go_simp
     have hal : Below w5 w5 (w5.alloc (.cells #[.slice pa l.length pc] 179)) := (Eh _ _).alloc (Ed _) _
     have KB0 := B0
     have KBZ := BZ
     have KBX := BX
     have KPF := PF
     have KPX := PX
     have Kd := d
     replace B0 := zb hal B0
     replace BZ := zb hal BZ
     replace BX := zb hal BX
     replace PF := zf Jd PF hal
     replace PX := zf Ka PX hal
     replace d := zD d hal
     clear hal
     obtain ⟨p_B0_0, p_B0_1⟩ := Vk B0.out
     have p_C0 := cx d C0 HBL
     refine hK.out _ _ ⟨p_B0_0, p_B0_1, p_C0⟩ (fun hHeld => ?_)
     clear p_B0_0 p_B0_1 p_C0
     clear hK K
     try simp only [Act.put, lA, lB, lC]
     refine rA 9 (fun K hK => ?_)
     have y0 := ZR.out
     have y1 := Z_dr.out
     have y2 := Z_w5.out
     have yd := Kd.out.size
     have hD : wr.heap.size ≤ w5.heap.size := by omega
     refine Yp Jd info_T_VersionS Tryz.underlying36 rfl rfl (.tmp 16) (.tmp 23) rfl (fun q => w.heap.size + 2 < q) wr.heap.size _ ys rfl KPF.out hD (fun q hq => by show w.heap.size + 2 < q; omega) HYL.out [.slice pa l.length pc] l ⟨_, rfl, KPX.out⟩ (by simp [Value.oneCell']) 1 _ rfl rfl ?_
     intro v' w7 oN tN
     replace B0 := zB tN KB0 (fun h => by have r : w.heap.size + 2 < w.heap.size := h.1; omega)
     replace BZ := zB tN KBZ (fun h => by have r : w.heap.size + 2 < (w.heap.size + 1) := h.1; omega)
     replace BX := zB tN KBX (fun h => by have r : w.heap.size + 2 < (w.heap.size + 2) := h.1; omega)
     replace d := hd (Jr Kd.out tN (fun q hq => by have r : w.heap.size + 2 < q := hq.1; omega) yd)
     have zN := hd (show w5.heap.size ≤ w7.heap.size from tN.size)
     rw [HTK.out] at oN
     obtain ⟨na, nc, rfl⟩ := Js oN
     rw [HTL.out] at oN
     have PN := hd oN
     clear hD oN tN yd PF PX KB0 KBZ KBX KPF KPX Kd y0 y1 y2
     obtain ⟨p_B0_0, p_B0_1⟩ := Vk B0.out
     have p_C0 := cx d C0 HBL
     refine hK.out _ _ ⟨p_B0_0, p_B0_1, p_C0⟩ (fun hHeld => ?_)
     clear p_B0_0 p_B0_1 p_C0
     clear hK K
     try simp only [Act.put, lA, lB, lC]
     refine tQ (i := 10) ?_
     try simp only [Act.put, lA, lB, lC]
     refine rA 11 (fun K hK => ?_)
     have px := cr 0 (Value.slice fa ys.length fc) BX.out
     have fx := Ut w7 _ 0 _ _ BX.out
     rw [HTL.out]
     go_simp
     clear px fx
     have tt : Jy (fun q => q = w.heap.size + 2) w7 (w7.setCell ⟨w.heap.size + 2, 0, none⟩ (.slice na (k + 1) nc)) := Jh (G := fun q => q = w.heap.size + 2) (g := w.heap.size + 2) (j := 0) (u := .slice na (k + 1) nc) rfl
     have r := Uv w7 (w.heap.size + 2) 0 _ _ (.slice na (k + 1) nc) BX.out
     simp at r
     have y0 := ZR.out
     have y1 := Z_dr.out
     have y2 := Z_w5.out
     have y3 := zN.out
     replace BX : Hid ((w7.setCell ⟨w.heap.size + 2, 0, none⟩ (.slice na (k + 1) nc)).heap[w.heap.size + 2]? = some (.cells #[.slice na (k + 1) nc, .int .i64 now] 38 (0, 0))) := hd r
     replace B0 := zB tt B0 (fun h => by omega)
     replace BZ := zB tt BZ (fun h => by omega)
     replace PN := zt Jd PN tt (fun q h1 h2 => by have r1 : w.heap.size + 2 < q := h1; omega)
     replace d := hd (Jr d.out tt (fun q h => by omega) d.out.size)
     have zM := hd (show w7.heap.size ≤ (w7.setCell ⟨w.heap.size + 2, 0, none⟩ (.slice na (k + 1) nc)).heap.size from tt.size)
     clear tt r y0 y1 y2 y3
     generalize (w7.setCell ⟨w.heap.size + 2, 0, none⟩ (.slice na (k + 1) nc)) = w8 at *
     obtain ⟨p_B0_0, p_B0_1⟩ := Vk B0.out
     have p_C0 := cx d C0 HBL
     refine hK.out _ _ ⟨p_B0_0, p_B0_1, p_C0⟩ (fun hHeld => ?_)
     clear p_B0_0 p_B0_1 p_C0
     clear hK K
     try simp only [Act.put, lA, lB, lC]
     refine wpAnyH_done (by kernel_rfl) ?_ _
     clear hHeld
     have y0 := ZR.out
     have y1 := Z_dr.out
     have y2 := Z_w5.out
     have y3 := zN.out
     have y4 := zM.out
     have zz : w.heap.size + 2 < w8.heap.size := by omega
     have ZZ := hd zz
     clear zz y0 y1 y2 y3 y4
     go_wp2
     go_roundw
     case rel => exact ⟨k + 1, _, by omega, by go_num, B0.out, BZ.out, BX.out, PN.out, d.out, ZZ.out⟩
     case measure => simp [intOf]; omega
    ·
     go_simp
     have hal : Below w5 w5 (w5.alloc (.cells #[.slice pa l.length pc] 179)) := (Eh _ _).alloc (Ed _) _
     have KB0 := B0
     have KBZ := BZ
     have KBX := BX
     have KPF := PF
     have KPX := PX
     have Kd := d
     replace B0 := zb hal B0
     replace BZ := zb hal BZ
     replace BX := zb hal BX
     replace PF := zf Jd PF hal
     replace PX := zf Ka PX hal
     replace d := zD d hal
     clear hal
     obtain ⟨p_B0_0, p_B0_1⟩ := Vk B0.out
     have p_C0 := cx d C0 HBL
     refine hK.out _ _ ⟨p_B0_0, p_B0_1, p_C0⟩ (fun hHeld => ?_)
     clear p_B0_0 p_B0_1 p_C0
     clear hK K
     try simp only [Act.put, lA, lB, lC]
     refine rA 1 (fun K hK => ?_)
     have px := cr 0 (Value.slice fa ys.length fc) BX.out
     go_simp
     clear px
     obtain ⟨p_B0_0, p_B0_1⟩ := Vk B0.out
     have p_C0 := cx d C0 HBL
     refine hK.out _ _ ⟨p_B0_0, p_B0_1, p_C0⟩ (fun hHeld => ?_)
     clear p_B0_0 p_B0_1 p_C0
     clear hK K
     try simp only [Act.put, lA, lB, lC]
     refine rA 9 (fun K hK => ?_)
     have y0 := ZR.out
     have y1 := Z_dr.out
     have y2 := Z_w5.out
     have yd := Kd.out.size
     have hD : wr.heap.size ≤ w5.heap.size := by omega
     refine Yp Jd info_T_VersionS Tryz.underlying36 rfl rfl (.tmp 16) (.tmp 23) rfl (fun q => w.heap.size + 2 < q) wr.heap.size _ ys rfl KPF.out hD (fun q hq => by show w.heap.size + 2 < q; omega) HYL.out [.slice pa l.length pc] l ⟨_, rfl, KPX.out⟩ (by simp [Value.oneCell']) 1 _ rfl rfl ?_
     intro v' w7 oN tN
     replace B0 := zB tN KB0 (fun h => by have r : w.heap.size + 2 < w.heap.size := h.1; omega)
     replace BZ := zB tN KBZ (fun h => by have r : w.heap.size + 2 < (w.heap.size + 1) := h.1; omega)
     replace BX := zB tN KBX (fun h => by have r : w.heap.size + 2 < (w.heap.size + 2) := h.1; omega)
     replace d := hd (Jr Kd.out tN (fun q hq => by have r : w.heap.size + 2 < q := hq.1; omega) yd)
     have zN := hd (show w5.heap.size ≤ w7.heap.size from tN.size)
     rw [HTK.out] at oN
     obtain ⟨na, nc, rfl⟩ := Js oN
     rw [HTL.out] at oN
     have PN := hd oN
     clear hD oN tN yd PF PX KB0 KBZ KBX KPF KPX Kd y0 y1 y2
     obtain ⟨p_B0_0, p_B0_1⟩ := Vk B0.out
     have p_C0 := cx d C0 HBL
     refine hK.out _ _ ⟨p_B0_0, p_B0_1, p_C0⟩ (fun hHeld => ?_)
     clear p_B0_0 p_B0_1 p_C0
     clear hK K
     try simp only [Act.put, lA, lB, lC]
     refine tQ (i := 10) ?_
     try simp only [Act.put, lA, lB, lC]
     refine rA 11 (fun K hK => ?_)
     have px := cr 0 (Value.slice fa ys.length fc) BX.out
     have fx := Ut w7 _ 0 _ _ BX.out
     rw [HTL.out]
     go_simp
     clear px fx
     have tt : Jy (fun q => q = w.heap.size + 2) w7 (w7.setCell ⟨w.heap.size + 2, 0, none⟩ (.slice na (k + 1) nc)) := Jh (G := fun q => q = w.heap.size + 2) (g := w.heap.size + 2) (j := 0) (u := .slice na (k + 1) nc) rfl
     have r := Uv w7 (w.heap.size + 2) 0 _ _ (.slice na (k + 1) nc) BX.out
     simp at r
     have y0 := ZR.out
     have y1 := Z_dr.out
     have y2 := Z_w5.out
     have y3 := zN.out
     replace BX : Hid ((w7.setCell ⟨w.heap.size + 2, 0, none⟩ (.slice na (k + 1) nc)).heap[w.heap.size + 2]? = some (.cells #[.slice na (k + 1) nc, .int .i64 now] 38 (0, 0))) := hd r
     replace B0 := zB tt B0 (fun h => by omega)
     replace BZ := zB tt BZ (fun h => by omega)
     replace PN := zt Jd PN tt (fun q h1 h2 => by have r1 : w.heap.size + 2 < q := h1; omega)
     replace d := hd (Jr d.out tt (fun q h => by omega) d.out.size)
     have zM := hd (show w7.heap.size ≤ (w7.setCell ⟨w.heap.size + 2, 0, none⟩ (.slice na (k + 1) nc)).heap.size from tt.size)
     clear tt r y0 y1 y2 y3
     generalize (w7.setCell ⟨w.heap.size + 2, 0, none⟩ (.slice na (k + 1) nc)) = w8 at *
     obtain ⟨p_B0_0, p_B0_1⟩ := Vk B0.out
     have p_C0 := cx d C0 HBL
     refine hK.out _ _ ⟨p_B0_0, p_B0_1, p_C0⟩ (fun hHeld => ?_)
     clear p_B0_0 p_B0_1 p_C0
     clear hK K
     try simp only [Act.put, lA, lB, lC]
     refine wpAnyH_done (by kernel_rfl) ?_ _
     clear hHeld
     have y0 := ZR.out
     have y1 := Z_dr.out
     have y2 := Z_w5.out
     have y3 := zN.out
     have y4 := zM.out
     have zz : w.heap.size + 2 < w8.heap.size := by omega
     have ZZ := hd zz
     clear zz y0 y1 y2 y3 y4
     go_wp2
     go_roundw
     case rel => exact ⟨k + 1, _, by omega, by go_num, B0.out, BZ.out, BX.out, PN.out, d.out, ZZ.out⟩
     case measure => simp [intOf]; omega
  ·
   obtain rfl : k = ss.length := by omega
   rw [List.take_length] at hown
   have HFL := hd hfl
   rw [List.take_length] at r2
   have q0 := cr 0 (Value.slice a ss.length cap) r0
   have x0 := cr 0 (Value.slice fa ss.length fc) r2
   have x1 := cr 1 (Value.int .i64 now) r2
   have z0 := cr 0 () r1
   have z1 := cr 1 Ja r1
   have g0 := Ut wr _ 0 _ _ r1
   have g1 := Ut wr _ 1 _ _ r1
   have hdx : Below w w wr := hbel
   have DF := hd ((hdx.setCell (p := ⟨w.heap.size + 1, 0, none⟩) (by simp) (.slice fa ss.length fc)).setCell (p := ⟨w.heap.size + 1, 1, none⟩) (by simp) (.int .i64 now))
   have r := st2 r1 (.slice fa ss.length fc) (.int .i64 now)
   try simp at r
   have e0 := (Uu _ (w.heap.size + 1) 0 _ _ _ r).trans (show _ = some (Value.slice fa ss.length fc) from rfl)
   have e1 := (Uu _ (w.heap.size + 1) 1 _ _ _ r).trans (show _ = some (Value.int .i64 now) from rfl)
   have tt := ts2 wr (w.heap.size + 1) (.slice fa ss.length fc) (.int .i64 now)
   have PF1 := hd (Ju Jd hown tt (fun b h1 h2 => by have h3 : w.heap.size + 2 < b := h1; omega))
   clear r tt r0 r1 r2 hown hbel hdx hfl
   go_wp2
   refine bodyPost_ret (v := .agg #[.slice fa ss.length fc, .int .i64 now]) ?_ rfl ⟨[.slice fa ss.length fc, .int .i64 now], rfl, tStore_mkO PF1.out (fun b h => by have h3 : w.heap.size + 2 < b := h; show w.heap.size ≤ b; omega), DF.out⟩
   simp [results, Tryz.f86, go_sem, e0, e1]
theorem info_T_Active : Vv Jm 88 (.agg #[Ja, Ja, (), (), Ja, (), Ja, Ja, Ja, ()]) := Ya (by kernel_rfl)
theorem info_T_Finished : Vv Jk 136 (.agg #[Ja, Ja, (), (), Ja, Ja, ()]) := Ya (by kernel_rfl)
theorem info_T_Charge : Vv Jp 137 (.agg #[Ja, Ja, (), (), ()]) := Ya (by kernel_rfl)
set_option maxHeartbeats 32000000 in
theorem copy_l9Copy (now cu st : Int) (sv ov av dv lv : Value) (ss : List (List Kw)) (os : List Int) (qs : List Us) (ds : List FinD) (ls : List Vz) (w : World)
  (h0 : Kc Je w sv ss) (h3 : Kc Jf w ov os) (h4 : Kc Jm w av qs) (h5 : Kc Jk w dv ds) (h6 : Kc Jp w lv ls) (s0 : zL Je ss ≤ 1048576) (s3 : zL Jf os ≤ 1048576) (s4 : zL Jm qs ≤ 1048576) (s5 : zL Jk ds ≤ 1048576) (s6 : zL Jp ls ≤ 1048576) :
  Calls Tryz.prog 37 #[.agg #[sv, .int .i64 now, .int .i64 cu, ov, av, dv, lv, .int .i64 st]] w (Yc Yj (fun cs => .agg cs.toArray) w ((ss, now), cu, os, qs, ds, ls, st)) := by
 obtain ⟨s1, sc, rfl⟩ := Jo h0
 have H0 := hd h0; have S0 := hd s0; have n0 := Jz s0
 obtain ⟨o1, oc, rfl⟩ := Jo h3
 have H3 := hd h3; have S3 := hd s3; have n3 := Jz s3
 obtain ⟨l1, lc, rfl⟩ := Jo h4
 have H4 := hd h4; have S4 := hd s4; have n4 := Jz s4
 obtain ⟨f1, fc, rfl⟩ := Jo h5
 have H5 := hd h5; have S5 := hd s5; have n5 := Jz s5
 obtain ⟨k1, kc, rfl⟩ := Jo h6
 have H6 := hd h6; have S6 := hd s6; have n6 := Jz s6
 clear h0 h3 h4 h5 h6 s0 s3 s4 s5 s6
 have d := hd (show Below w w ((w.alloc (.cells #[.slice s1 ss.length sc, .int .i64 now, .int .i64 cu, .slice o1 os.length oc, .slice l1 qs.length lc, .slice f1 ds.length fc, .slice k1 ls.length kc, .int .i64 st] 43)).alloc (.cells #[(), Ja, Ja, (), (), (), (), Ja] 43)) from (((Eh _ w).alloc (Ed _) _).alloc (by simp) _))
 have B0 : Hid (((w.alloc (.cells #[.slice s1 ss.length sc, .int .i64 now, .int .i64 cu, .slice o1 os.length oc, .slice l1 qs.length lc, .slice f1 ds.length fc, .slice k1 ls.length kc, .int .i64 st] 43)).alloc (.cells #[(), Ja, Ja, (), (), (), (), Ja] 43)).heap[w.heap.size]? = some (.cells #[.slice s1 ss.length sc, .int .i64 now, .int .i64 cu, .slice o1 os.length oc, .slice l1 qs.length lc, .slice f1 ds.length fc, .slice k1 ls.length kc, .int .i64 st] 43 (0, 0))) := hd (by
  rw [Below.heap_alloc _ _ _ (by simp)]
  exact Uw w _)
 have B1 : Hid (((w.alloc (.cells #[.slice s1 ss.length sc, .int .i64 now, .int .i64 cu, .slice o1 os.length oc, .slice l1 qs.length lc, .slice f1 ds.length fc, .slice k1 ls.length kc, .int .i64 st] 43)).alloc (.cells #[(), Ja, Ja, (), (), (), (), Ja] 43)).heap[(w.heap.size + 1)]? = some (.cells #[(), Ja, Ja, (), (), (), (), Ja] 43 (0, 0))) := hd (by
  have := Uw (w.alloc (.cells #[.slice s1 ss.length sc, .int .i64 now, .int .i64 cu, .slice o1 os.length oc, .slice l1 qs.length lc, .slice f1 ds.length fc, .slice k1 ls.length kc, .int .i64 st] 43)) (.cells #[(), Ja, Ja, (), (), (), (), Ja] 43)
  simpa only [Ux] using this)
 have YW : Hid (w.heap.size + 2 ≤ ((w.alloc (.cells #[.slice s1 ss.length sc, .int .i64 now, .int .i64 cu, .slice o1 os.length oc, .slice l1 qs.length lc, .slice f1 ds.length fc, .slice k1 ls.length kc, .int .i64 st] 43)).alloc (.cells #[(), Ja, Ja, (), (), (), (), Ja] 43)).heap.size) := hd (by simp [Ux])
 go_enter Tryz.func37, Tryz.ntmps37
 go_upto_region 1 with fail
 generalize ((w.alloc (.cells #[.slice s1 ss.length sc, .int .i64 now, .int .i64 cu, .slice o1 os.length oc, .slice l1 qs.length lc, .slice f1 ds.length fc, .slice k1 ls.length kc, .int .i64 st] 43)).alloc (.cells #[(), Ja, Ja, (), (), (), (), Ja] 43)) = W at *
 go_cut [3] from 9 (fun s3 wx => ∃ (bx : Nat) (ua ub : Option Addr) (uc ud : Nat) (F0 F3 : Nat → Prop), s3 = .pointer (some ⟨bx, 0, none⟩) ∧ wx.heap[w.heap.size]? = some (.cells #[.slice s1 ss.length sc, .int .i64 now, .int .i64 cu, .slice o1 os.length oc, .slice l1 qs.length lc, .slice f1 ds.length fc, .slice k1 ls.length kc, .int .i64 st] 43 (0, 0)) ∧ wx.heap[(w.heap.size + 1)]? = some (.cells #[(), Ja, Ja, (), (), (), (), Ja] 43 (0, 0)) ∧ wx.heap[bx]? = some (.cells #[.slice ua ss.length uc, .int .i64 now, .int .i64 cu, .slice ub os.length ud, (), (), (), .int .i64 st] 43 (0, 0)) ∧ w.heap.size + 2 ≤ bx ∧ Kt 179 Je wx F0 (.slice ua ss.length uc) ss ∧ Kt 3 Jf wx F3 (.slice ub os.length ud) os ∧ (∀ b, F0 b → w.heap.size + 2 ≤ b ∧ b ≠ bx ∧ b < wx.heap.size) ∧ (∀ b, F3 b → w.heap.size + 2 ≤ b ∧ b ≠ bx ∧ b < wx.heap.size) ∧ (∀ b, F0 b → ¬ F3 b) ∧ Below w w wx)
 case first =>
  refine wp_region_held_drew (S := fun w' => w'.cell? ⟨w, 0, none⟩ = some (Value.slice s1 ss.length sc) ∧ w'.cell? ⟨w, 1, none⟩ = some (Value.int .i64 now) ∧ w'.cell? ⟨w, 2, none⟩ = some (Value.int .i64 cu) ∧ w'.cell? ⟨w, 3, none⟩ = some (Value.slice o1 os.length oc) ∧ w'.cell? ⟨w, 4, none⟩ = some (Value.slice l1 qs.length lc) ∧ w'.cell? ⟨w, 5, none⟩ = some (Value.slice f1 ds.length fc) ∧ w'.cell? ⟨w, 6, none⟩ = some (Value.slice k1 ls.length kc) ∧ w'.cell? ⟨w, 7, none⟩ = some (Value.int .i64 st)) (by kernel_rfl) ⟨Uu W _ 0 _ _ _ B0.out, Uu W _ 1 _ _ _ B0.out, Uu W _ 2 _ _ _ B0.out, Uu W _ 3 _ _ _ B0.out, Uu W _ 4 _ _ _ B0.out, Uu W _ 5 _ _ _ B0.out, Uu W _ 6 _ _ _ B0.out, Uu W _ 7 _ _ _ B0.out⟩ (fun hHeld => ?_)
  have hdr : Below W W W.drew := Ke (Eh _ _)
  have z : w.heap.size + 2 ≤ W.drew.heap.size := YW.out
  replace d := zd d hdr (by have := YW.out; omega)
  replace B0 := zb hdr B0
  replace B1 := zb hdr B1
  clear hdr YW
  generalize W.drew = wc at *
  refine uQ 0 ?_
  try simp only [Act.put, lA, lB, lC]
  refine uQ 1 ?_
  try simp only [Act.put, lA, lB, lC]
  refine uQ 3 ?_
  try simp only [Act.put, lA, lB, lC]
  refine uQ 4 ?_
  try simp only [Act.put, lA, lB, lC]
  refine uQ 6 ?_
  try simp only [Act.put, lA, lB, lC]
  refine uQ 7 ?_
  try simp only [Act.put, lA, lB, lC]
  refine uQ 9 ?_
  try simp only [Act.put, lA, lB, lC]
  refine uQ 10 ?_
  try simp only [Act.put, lA, lB, lC]
  repeat' first
   | (have t := ‹Tok 2›
      clear tk t
      go_simp
      refine (specCopy (.slice s1 ss.length sc) ss now wc (Jc Jd H0.out d.out) S0.out).mono ?_
      rintro e wn ⟨cs, rfl, ow, c⟩
      obtain ⟨u0, F0, rfl, o0, q0⟩ := tStore_O (tStore_law.lt ow)
      obtain ⟨ua, uc, rfl⟩ := Js o0
      have P0 := hd (Kk o0 (F' := fun b => wc.heap.size ≤ b ∧ b < wn.heap.size) (fun b h => q0 b h))
      have z := c.size
      replace d := zd d c (by omega)
      replace B0 := zb c B0
      replace B1 := zb c B1
      try replace P3 := zf Jb P3 c
      try replace BX := zb c BX
      clear ow o0 q0 c F0
      generalize wc.heap.size = l0 at *
      rename World => wc
      refine hK.out _ _ ⟨Uu _ _ 0 _ _ _ B0.out, Uu _ _ 1 _ _ _ B0.out, Uu _ _ 2 _ _ _ B0.out, Uu _ _ 3 _ _ _ B0.out, Uu _ _ 4 _ _ _ B0.out, Uu _ _ 5 _ _ _ B0.out, Uu _ _ 6 _ _ _ B0.out, Uu _ _ 7 _ _ _ B0.out⟩ (fun hHeld => ?_)
      clear hK K
      try simp only [Act.put, lA, lB, lC])
   | (have t := ‹Tok 5›
      clear tk t
      go_simp
      have hal := zal wc (.cells #[] 3)
      have P3 := hd (Vp (T := Jf) wc 3 (fun b => b = wc.heap.size) rfl)
      have z := zs wc (.cells #[] 3)
      replace d := zd d hal (by omega)
      replace B0 := zb hal B0
      replace B1 := zb hal B1
      try replace P0 := zf Jd P0 hal
      try replace BX := zb hal BX
      clear hal
      generalize wc.heap.size = g3 at *
      generalize (wc.alloc (.cells #[] 3)) = wc at *
      refine hK.out _ _ ⟨Uu _ _ 0 _ _ _ B0.out, Uu _ _ 1 _ _ _ B0.out, Uu _ _ 2 _ _ _ B0.out, Uu _ _ 3 _ _ _ B0.out, Uu _ _ 4 _ _ _ B0.out, Uu _ _ 5 _ _ _ B0.out, Uu _ _ 6 _ _ _ B0.out, Uu _ _ 7 _ _ _ B0.out⟩ (fun hHeld => ?_)
      clear hK K
      try simp only [Act.put, lA, lB, lC])
   | (have t := ‹Tok 12›
      clear tk t
      go_simp
      have hal := zal wc (.cells #[(), Ja, Ja, (), (), (), (), Ja] 43)
      have BX := hd (Uw wc (.cells #[(), Ja, Ja, (), (), (), (), Ja] 43))
      have z := zs wc (.cells #[(), Ja, Ja, (), (), (), (), Ja] 43)
      replace d := zd d hal (by omega)
      replace B0 := zb hal B0
      replace B1 := zb hal B1
      try replace P0 := zf Jd P0 hal
      try replace P3 := zf Jb P3 hal
      clear hal
      generalize wc.heap.size = bx at *
      generalize (wc.alloc (.cells #[(), Ja, Ja, (), (), (), (), Ja] 43)) = wc at *
      refine hK.out _ _ ⟨Uu _ _ 0 _ _ _ B0.out, Uu _ _ 1 _ _ _ B0.out, Uu _ _ 2 _ _ _ B0.out, Uu _ _ 3 _ _ _ B0.out, Uu _ _ 4 _ _ _ B0.out, Uu _ _ 5 _ _ _ B0.out, Uu _ _ 6 _ _ _ B0.out, Uu _ _ 7 _ _ _ B0.out⟩ (fun hHeld => ?_)
      clear hK K
      try simp only [Act.put, lA, lB, lC])
   | (have t := ‹Tok 8›
      clear tk t
      refine Ku Jb Yw Vq Tryz.underlying25 rfl rfl (.tmp 14) (.tmp 16) rfl (fun b => b = g3) (fun b => b = g3 ∨ b = wc.heap.size) _ _ [] os rfl rfl P3.out (Jc Jb H3.out d.out) (fun b h => Or.inl h) (Or.inr rfl) (by simp; omega) ?_
      intro u wn oB tB
      rw [List.nil_append] at oB
      obtain ⟨ub, ud, rfl⟩ := Js oB
      have z := tB.size
      replace d := hd (Jr d.out tB (fun b h => by (try dsimp only at h); omega) (by omega))
      replace B0 := zB tB B0 (fun h => by (try dsimp only at h); omega)
      replace B1 := zB tB B1 (fun h => by (try dsimp only at h); omega)
      try replace BX := zB tB BX (fun h => by (try dsimp only at h); omega)
      try replace P0 := zt Jd P0 tB (fun b h1 h2 => by (try dsimp only at h1 h2); omega)
      replace P3 := hd (Ki Jb oB)
      clear oB tB
      generalize wc.heap.size = k3 at *
      rename World => wc
      refine hK.out _ _ ⟨Uu _ _ 0 _ _ _ B0.out, Uu _ _ 1 _ _ _ B0.out, Uu _ _ 2 _ _ _ B0.out, Uu _ _ 3 _ _ _ B0.out, Uu _ _ 4 _ _ _ B0.out, Uu _ _ 5 _ _ _ B0.out, Uu _ _ 6 _ _ _ B0.out, Uu _ _ 7 _ _ _ B0.out⟩ (fun hHeld => ?_)
      clear hK K
      try simp only [Act.put, lA, lB, lC])
   | (have t := ‹Tok 13›
      clear tk t
      obtain ⟨q0, q1, q2, q3, q4, q5, q6, q7⟩ : wc.cell? ⟨bx, 0, none⟩ = some (Value.slice none 0 0) ∧ wc.cell? ⟨bx, 1, none⟩ = some (Value.int .i64 0) ∧ wc.cell? ⟨bx, 2, none⟩ = some (Value.int .i64 0) ∧ wc.cell? ⟨bx, 3, none⟩ = some (Value.slice none 0 0) ∧ wc.cell? ⟨bx, 4, none⟩ = some (Value.slice none 0 0) ∧ wc.cell? ⟨bx, 5, none⟩ = some (Value.slice none 0 0) ∧ wc.cell? ⟨bx, 6, none⟩ = some (Value.slice none 0 0) ∧ wc.cell? ⟨bx, 7, none⟩ = some (Value.int .i64 0) := ⟨Uu wc _ 0 _ _ _ BX.out, Uu wc _ 1 _ _ _ BX.out, Uu wc _ 2 _ _ _ BX.out, Uu wc _ 3 _ _ _ BX.out, Uu wc _ 4 _ _ _ BX.out, Uu wc _ 5 _ _ _ BX.out, Uu wc _ 6 _ _ _ BX.out, Uu wc _ 7 _ _ _ BX.out⟩
      have f0 := Ut wc _ 0 _ _ BX.out
      have f1 := Ut wc _ 1 _ _ BX.out
      have f2 := Ut wc _ 2 _ _ BX.out
      have f3 := Ut wc _ 3 _ _ BX.out
      have f4 := Ut wc _ 4 _ _ BX.out
      have f5 := Ut wc _ 5 _ _ BX.out
      have f6 := Ut wc _ 6 _ _ BX.out
      have f7 := Ut wc _ 7 _ _ BX.out
      go_simp
      clear q0 f0 q1 f1 q2 f2 q3 f3 q4 f4 q5 f5 q6 f6 q7 f7
      have tt := (((((((((Jy.refl (fun b => b = bx) wc).trans (Jh (G := fun b => b = bx) (g := bx) (j := 0) (u := .slice ua ss.length uc) rfl)).trans (Jh (G := fun b => b = bx) (g := bx) (j := 1) (u := .int .i64 now) rfl)).trans (Jh (G := fun b => b = bx) (g := bx) (j := 2) (u := .int .i64 cu) rfl)).trans (Jh (G := fun b => b = bx) (g := bx) (j := 3) (u := .slice ub os.length ud) rfl)).trans (Jh (G := fun b => b = bx) (g := bx) (j := 4) (u := .slice none 0 0) rfl)).trans (Jh (G := fun b => b = bx) (g := bx) (j := 5) (u := .slice none 0 0) rfl)).trans (Jh (G := fun b => b = bx) (g := bx) (j := 6) (u := .slice none 0 0) rfl)).trans (Jh (G := fun b => b = bx) (g := bx) (j := 7) (u := .int .i64 st) rfl))
      have r := st8 BX.out (.slice ua ss.length uc) (.int .i64 now) (.int .i64 cu) (.slice ub os.length ud) () () () (.int .i64 st)
      try simp at r
      have RX := hd r
      replace B0 := zB tt B0 (fun h => by (try dsimp only at h); omega)
      replace B1 := zB tt B1 (fun h => by (try dsimp only at h); omega)
      replace P0 := zt Jd P0 tt (fun b h1 h2 => by (try dsimp only at h1 h2); omega)
      replace P3 := zt Jb P3 tt (fun b h1 h2 => by (try dsimp only at h1 h2); omega)
      replace d := hd (Jr d.out tt (fun b h => by (try dsimp only at h); omega) d.out.size)
      have z := tt.size
      have hx := (Array.getElem?_eq_some_iff.1 BX.out).1
      clear tt r BX
      generalize ((((((((wc.setCell ⟨bx, 0, none⟩ (.slice ua ss.length uc)).setCell ⟨bx, 1, none⟩ (.int .i64 now)).setCell ⟨bx, 2, none⟩ (.int .i64 cu)).setCell ⟨bx, 3, none⟩ (.slice ub os.length ud)).setCell ⟨bx, 4, none⟩ ()).setCell ⟨bx, 5, none⟩ ()).setCell ⟨bx, 6, none⟩ ()).setCell ⟨bx, 7, none⟩ (.int .i64 st)) = wn at *
      generalize wc.heap.size = nz at *
      rename World => wc
      refine hK.out _ _ ⟨Uu _ _ 0 _ _ _ B0.out, Uu _ _ 1 _ _ _ B0.out, Uu _ _ 2 _ _ _ B0.out, Uu _ _ 3 _ _ _ B0.out, Uu _ _ 4 _ _ _ B0.out, Uu _ _ 5 _ _ _ B0.out, Uu _ _ 6 _ _ _ B0.out, Uu _ _ 7 _ _ _ B0.out⟩ (fun hHeld => ?_)
      clear hK K
      try simp only [Act.put, lA, lB, lC])
   | (refine uQ 11 ?_; try simp only [Act.put, lA, lB, lC])
   | (refine u3 2 5 12 ?_ ?_ ?_ <;> intro K hK tk)
   | (refine u2 2 5 ?_ ?_ <;> intro K hK tk)
   | (refine u1 2 ?_ <;> intro K hK tk)
   | (refine u1 8 ?_ <;> intro K hK tk)
   | (refine u1 13 ?_ <;> intro K hK tk)
   | (refine u1 5 ?_ <;> intro K hK tk)
   | (refine u2 2 12 ?_ ?_ <;> intro K hK tk)
   | (refine u2 8 12 ?_ ?_ <;> intro K hK tk)
   | (refine u1 12 ?_ <;> intro K hK tk)
   | (refine u2 5 12 ?_ ?_ <;> intro K hK tk)
   | (refine uZ ?_
      clear hHeld
      go_wp2
      go_meet
      case rel =>
       exact ⟨bx, ua, ub, uc, ud, _, _, rfl, B0.out, B1.out, RX.out, by omega, P0.out, P3.out, fun b h => by (try dsimp only at h); omega, fun b h => by (try dsimp only at h); omega, fun b h1 h2 => by (try dsimp only at h1 h2); omega, d.out⟩)
 case rest =>
  clear B0 B1 d YW
  obtain ⟨bx, ua, ub, uc, ud, F0, F3, rfl, b0, b1, bxr, yb, p0, p3, q0, q3, dj, dd⟩ := hcut
  have B0 := hd b0; have B1 := hd b1; have BX := hd bxr; have YB := hd yb; have P0 := hd p0; have P3 := hd p3; have d := hd dd; have DJ := hd dj
  have YX : Hid (bx < wc.heap.size) := hd (Array.getElem?_eq_some_iff.1 bxr).1
  obtain ⟨NL, hNL⟩ : ∃ NL, NL = wc.heap.size := ⟨_, rfl⟩
  have YN : Hid (NL ≤ wc.heap.size) := hd (by omega)
  have YX2 : Hid (bx < NL) := hd (by rw [hNL]; exact YX.out)
  have Q0 : Hid (∀ b, F0 b → w.heap.size + 2 ≤ b ∧ b ≠ bx ∧ b < NL) := hd (fun b h => by rw [hNL]; exact q0 b h)
  have Q3 : Hid (∀ b, F3 b → w.heap.size + 2 ≤ b ∧ b ≠ bx ∧ b < NL) := hd (fun b h => by rw [hNL]; exact q3 b h)
  clear b0 b1 bxr yb p0 p3 q0 q3 dj dd hNL
  have cp_B0_0 := Kh B0.out
  have cp_B1_0 := Kh B1.out
  have cp_BX_0 := Kh BX.out
  go_wp2
  clear cp_B0_0 cp_B1_0 cp_BX_0
  obtain ⟨NB0, hNB⟩ : ∃ n, n = wc.heap.size := ⟨_, rfl⟩
  have YNB0 : Hid (NB0 = wc.heap.size) := hd hNB
  clear hNB
  have X0 := BX
  go_loopw [4] (fun i wr => ∃ (k : Nat) (u : Value), k ≤ qs.length ∧ i = .int .i64 k ∧ Hid (wr.heap[bx]? = some (.cells #[.slice ua ss.length uc, .int .i64 now, .int .i64 cu, .slice ub os.length ud, u, (), (), .int .i64 st] 43 (0, 0))) ∧ Hid (Kt 88 Jm wr (fun b => NB0 ≤ b) u (qs.take k)) ∧ Jy (fun b => b = bx) wc wr) (fun i _ => qs.length - (intOf i).toNat)
  case atStart => exact ⟨0, _, Ef _, rfl, BX, hd (Vl _ _ _ _), Jy.refl _ _⟩
  case round =>
   obtain ⟨k, u, hk, rfl, hx, hu, tw⟩ := hrel
   clear BX X0
   have TW := hd tw
   have y0 := YB.out
   have y1 := YX.out
   have y2 := YN.out
   have y3 := YX2.out
   have y4 := YNB0.out
   have yd : w.heap.size ≤ wc.heap.size := d.out.size
   replace B0 := zB tw B0 (fun h => by skip; omega)
   replace B1 := zB tw B1 (fun h => by skip; omega)
   replace P0 := zt Jd P0 tw (fun b h1 h2 => by have r1 := Q0.out b h1; skip; omega)
   replace P3 := zt Jb P3 tw (fun b h1 h2 => by have r1 := Q3.out b h1; skip; omega)
   replace d := hd (Jr d.out tw (fun b h => by skip; omega) (by omega))
   have Z_wr := hd (show wc.heap.size ≤ wr.heap.size from tw.size)
   clear yd y0 y1 y2 y3 y4
   clear tw
   have BX := hx
   have PU := hd (Ki Ji hu.out)
   have QU : Hid (∀ b, (NB0 ≤ b ∧ b < wr.heap.size) → NB0 ≤ b ∧ b < wr.heap.size) := hd (fun b h => h)
   clear hx hu
   by_cases hlt : k < qs.length
   ·
    have i1 : (0 : Int) ≤ (k : Int) := by omega
    have i2 : (k : Int) < (qs.length : Int) := by omega
    have hz := Kz S4.out hlt
    have HTK : Hid (qs.take k ++ [qs.getD k a0D] = qs.take (k + 1)) := hd (take_step a0D hlt).symm
    have HKL : Hid ((qs.take k).length ≤ 1048576) := hd (by rw [List.length_take]; omega)
    change Jm.sz (qs.getD k a0D) ≤ 1048576 at hz
    obtain ⟨b, off, cap', p2, c2, p3, c3, p5, c5, p9, c9, hv, hbl, e0, e1, e2, e3, e4, e5, e6, e7, e8, e9, g2, g3, g5, g9⟩ := act_at (Jc Ji H4.out d.out) hlt
    simp only [Eg] at hv
    obtain ⟨rfl, _, rfl⟩ := hv
    obtain ⟨xe, hxe⟩ : ∃ xe, xe = qs.getD k a0D := ⟨_, rfl⟩
    rw [← hxe] at hz HTK e0 e1 e2 e3 e4 e5 e6 e7 e8 e9 g2 g3 g5 g9
    clear hxe
    obtain ⟨⟨a0, a1, x2, x3⟩, a4, x5, a6, a7, a8, x9⟩ := xe
    rw [Yo] at hz
    dsimp only at *
    have G2 := hd g2; have M2 := hd (show zL Jl x2 ≤ 1048576 by omega)
    have G3 := hd g3; have M3 := hd (show zL Jf x3 ≤ 1048576 by omega)
    have G5 := hd g5; have M5 := hd (show zL Jf x5 ≤ 1048576 by omega)
    have G9 := hd g9; have M9 := hd (show zL Kb x9 ≤ 1048576 by omega)
    clear hz g2 g3 g5 g9
    have cal : Below wr wr (wr.alloc (.cells #[a0, a1, .slice p2 x2.length c2, .slice p3 x3.length c3, a4, .slice p5 x5.length c5, a6, a7, a8, .slice p9 x9.length c9] 88)) := (Eh _ _).alloc (Ed _) _
    have DQ0 := hd cal
    have BA : Hid ((wr.alloc (.cells #[a0, a1, .slice p2 x2.length c2, .slice p3 x3.length c3, a4, .slice p5 x5.length c5, a6, a7, a8, .slice p9 x9.length c9] 88)).heap[wr.heap.size]? = some (.cells #[a0, a1, .slice p2 x2.length c2, .slice p3 x3.length c3, a4, .slice p5 x5.length c5, a6, a7, a8, .slice p9 x9.length c9] 88 (0, 0))) := hd (Uw wr _)
    have cp_B0_0 := Kh B0.out
    have cp_BX_0 := Kh BX.out
    go_wp2_with fail
    clear cp_B0_0 cp_BX_0 e0 e1 e2 e3 e4 e5 e6 e7 e8 e9 hbl
    generalize hWq : (wr.alloc (.cells #[a0, a1, .slice p2 x2.length c2, .slice p3 x3.length c3, a4, .slice p5 x5.length c5, a6, a7, a8, .slice p9 x9.length c9] 88)) = Wq at *
    have DQ := DQ0
    clear hWq
    have YA : Hid (wr.heap.size < Wq.heap.size) := hd (Array.getElem?_eq_some_iff.1 BA.out).1
    replace B0 := zb cal B0
    replace B1 := zb cal B1
    replace BX := zb cal BX
    replace P0 := zf Jd P0 cal
    replace P3 := zf Jb P3 cal
    replace PU := zf Ji PU cal
    replace d := zD d cal
    clear cal
    refine (copy_l6Query a0 a1 (.slice p2 x2.length c2) (.slice p3 x3.length c3) x2 x3 Wq (Jc Jq G2.out DQ.out) (Jc Jb G3.out DQ.out) M2.out M3.out).mono ?_
    rintro e W1 ⟨cs, rfl, ow, c⟩
    replace ow := Ym.lt ow
    obtain ⟨u2, u3, E2, E3, rfl, o2, o3, k2, k3, kj⟩ := tQuery_O ow
    obtain ⟨ua2, uc2, rfl⟩ := Js o2
    obtain ⟨ua3, uc3, rfl⟩ := Js o3
    have N2 := hd o2; have N3 := hd o3; have KJ := hd kj
    have O2 : Hid (∀ b, E2 b → Wq.heap.size ≤ b ∧ b < W1.heap.size) := hd (fun b h => k2 b h)
    have O3 : Hid (∀ b, E3 b → Wq.heap.size ≤ b ∧ b < W1.heap.size) := hd (fun b h => k3 b h)
    have DQ1 := hd (DQ.out.trans (c.mono DQ.out.size))
    clear ow o2 o3 k2 k3 kj DQ DQ0
    replace B0 := zb c B0
    replace B1 := zb c B1
    replace BX := zb c BX
    replace BA := zb c BA
    replace P0 := zf Jd P0 c
    replace P3 := zf Jb P3 c
    replace PU := zf Ji PU c
    replace d := zD d c
    have Z_W1 := hd (show Wq.heap.size ≤ W1.heap.size from c.size)
    clear c
    have cp_BA_0 := Vg BA.out
    have f_BA_0 := Ut W1 _ 0 _ _ BA.out
    have f_BA_1 := Ut W1 _ 1 _ _ BA.out
    have f_BA_2 := Ut W1 _ 2 _ _ BA.out
    have f_BA_3 := Ut W1 _ 3 _ _ BA.out
    have f_BA_4 := Ut W1 _ 4 _ _ BA.out
    have f_BA_5 := Ut W1 _ 5 _ _ BA.out
    have f_BA_6 := Ut W1 _ 6 _ _ BA.out
    have f_BA_7 := Ut W1 _ 7 _ _ BA.out
    have f_BA_8 := Ut W1 _ 8 _ _ BA.out
    have f_BA_9 := Ut W1 _ 9 _ _ BA.out
    go_upto_region 7 with fail
    clear cp_BA_0 f_BA_0 f_BA_1 f_BA_2 f_BA_3 f_BA_4 f_BA_5 f_BA_6 f_BA_7 f_BA_8 f_BA_9
    have kt := (((((Jy.refl (fun b => b = wr.heap.size) W1).trans (Jh (G := fun b => b = wr.heap.size) (g := wr.heap.size) (j := 0) (u := .int .i64 a0) rfl)).trans (Jh (G := fun b => b = wr.heap.size) (g := wr.heap.size) (j := 1) (u := .int .i64 a1) rfl)).trans (Jh (G := fun b => b = wr.heap.size) (g := wr.heap.size) (j := 2) (u := .slice ua2 x2.length uc2) rfl)).trans (Jh (G := fun b => b = wr.heap.size) (g := wr.heap.size) (j := 3) (u := .slice ua3 x3.length uc3) rfl))
    have kr := (Uv _ wr.heap.size 3 _ _ (.slice ua3 x3.length uc3) (Uv _ wr.heap.size 2 _ _ (.slice ua2 x2.length uc2) (Uv _ wr.heap.size 1 _ _ a1 (Uv _ wr.heap.size 0 _ _ a0 BA.out))))
    simp at kr
    have DQ2 := hd (Jr DQ1.out kt (fun b h => by omega) DQ1.out.size)
    generalize hWn : ((((W1.setCell ⟨wr, 0, none⟩ a0).setCell ⟨wr, 1, none⟩ a1).setCell ⟨wr, 2, none⟩ (.slice ua2 x2.length uc2)).setCell ⟨wr, 3, none⟩ (.slice ua3 x3.length uc3)) = W2 at *
    clear hWn DQ1
    have y0 := YB.out
    have y1 := YX.out
    have y2 := YN.out
    have y3 := YX2.out
    have y4 := YNB0.out
    have y5 := Z_wr.out
    have y6 := YA.out
    have y7 := Z_W1.out
    have yd : w.heap.size ≤ W1.heap.size := d.out.size
    replace B0 := zB kt B0 (fun h => by skip; omega)
    replace B1 := zB kt B1 (fun h => by skip; omega)
    replace BX := zB kt BX (fun h => by skip; omega)
    replace P0 := zt Jd P0 kt (fun b h1 h2 => by have r1 := Q0.out b h1; skip; omega)
    replace P3 := zt Jb P3 kt (fun b h1 h2 => by have r1 := Q3.out b h1; skip; omega)
    replace PU := zt Ji PU kt (fun b h1 h2 => by have r1 := QU.out b h1; skip; omega)
    replace N2 := zt Jq N2 kt (fun b h1 h2 => by have r1 := O2.out b h1; skip; omega)
    replace N3 := zt Jb N3 kt (fun b h1 h2 => by have r1 := O3.out b h1; skip; omega)
    replace d := hd (Jr d.out kt (fun b h => by skip; omega) (by omega))
    have Z_W2 := hd (show W1.heap.size ≤ W2.heap.size from kt.size)
    clear yd y0 y1 y2 y3 y4 y5 y6 y7
    replace BA := hd kr
    clear kt kr
    have ka := hd (show Below W2 W2 (W2.alloc (.cells #[] 3)) from (Eh _ _).alloc (Ed _) _)
    obtain ⟨p_BA_0, p_BA_1, p_BA_2, p_BA_3, p_BA_4, p_BA_5, p_BA_6, p_BA_7, p_BA_8, p_BA_9⟩ := Vg BA.out
    have kl0 := (ka.out.cell (p := ⟨wr, 0, none⟩) (Array.getElem?_eq_some_iff.1 BA.out).1).trans p_BA_0
    have kl1 := (ka.out.cell (p := ⟨wr, 1, none⟩) (Array.getElem?_eq_some_iff.1 BA.out).1).trans p_BA_1
    have kl2 := (ka.out.cell (p := ⟨wr, 2, none⟩) (Array.getElem?_eq_some_iff.1 BA.out).1).trans p_BA_2
    have kl3 := (ka.out.cell (p := ⟨wr, 3, none⟩) (Array.getElem?_eq_some_iff.1 BA.out).1).trans p_BA_3
    have kl4 := (ka.out.cell (p := ⟨wr, 4, none⟩) (Array.getElem?_eq_some_iff.1 BA.out).1).trans p_BA_4
    have kl5 := (ka.out.cell (p := ⟨wr, 5, none⟩) (Array.getElem?_eq_some_iff.1 BA.out).1).trans p_BA_5
    have kl6 := (ka.out.cell (p := ⟨wr, 6, none⟩) (Array.getElem?_eq_some_iff.1 BA.out).1).trans p_BA_6
    have kl7 := (ka.out.cell (p := ⟨wr, 7, none⟩) (Array.getElem?_eq_some_iff.1 BA.out).1).trans p_BA_7
    have kl8 := (ka.out.cell (p := ⟨wr, 8, none⟩) (Array.getElem?_eq_some_iff.1 BA.out).1).trans p_BA_8
    have kl9 := (ka.out.cell (p := ⟨wr, 9, none⟩) (Array.getElem?_eq_some_iff.1 BA.out).1).trans p_BA_9
    have PE := hd (Vp (T := Jf) W2 3 (fun b => b = W2.heap.size) rfl)
    go_wp2_with (at_builtin; refine Xq Jb Yw Vq Tryz.underlying25 rfl rfl (.tmp 37) (.tmp 39) rfl (fun b => b = W2.heap.size) (fun b => b = W2.heap.size ∨ b = (W2.alloc (.cells #[] 3)).heap.size) _ _ [] x5 rfl rfl PE.out (Jc Jb G5.out (DQ2.out.trans (ka.out.mono DQ2.out.size))) (fun b h => Or.inl h) (Or.inr rfl) (by have := Jz M5.out; simp; omega) ?_)
    clear PE p_BA_0 p_BA_1 p_BA_2 p_BA_3 p_BA_4 p_BA_5 p_BA_6 p_BA_7 p_BA_8 p_BA_9 kl0 kl1 kl2 kl3 kl4 kl5 kl6 kl7 kl8 kl9
    generalize hWi : (W2.alloc (.cells #[] 3)) = W3 at *
    have zi : W2.heap.size < W3.heap.size := by rw [← hWi]; simp [Ux]
    clear hWi
    have ZI := hd zi
    clear zi
    replace B0 := zb ka.out B0
    replace B1 := zb ka.out B1
    replace BX := zb ka.out BX
    replace BA := zb ka.out BA
    replace P0 := zf Jd P0 ka.out
    replace P3 := zf Jb P3 ka.out
    replace PU := zf Ji PU ka.out
    replace N2 := zf Jq N2 ka.out
    replace N3 := zf Jb N3 ka.out
    replace d := zD d ka.out
    have DQ3 := hd (DQ2.out.trans (ka.out.mono DQ2.out.size))
    clear ka DQ2
    intro u5 W4 o5 t5
    try rw [List.nil_append] at o5
    obtain ⟨ua5, uc5, rfl⟩ := Js o5
    have m0 := YB.out
    have m1 := YX.out
    have m2 := YN.out
    have m3 := YX2.out
    have m4 := YNB0.out
    have m5 := Z_wr.out
    have m6 := YA.out
    have m7 := Z_W1.out
    have m8 := Z_W2.out
    have m9 := ZI.out
    have DQ4 := hd (Jr DQ3.out t5 (fun b h => by omega) DQ3.out.size)
    clear DQ3 m0 m1 m2 m3 m4 m5 m6 m7 m8 m9
    have y0 := YB.out
    have y1 := YX.out
    have y2 := YN.out
    have y3 := YX2.out
    have y4 := YNB0.out
    have y5 := Z_wr.out
    have y6 := YA.out
    have y7 := Z_W1.out
    have y8 := Z_W2.out
    have y9 := ZI.out
    have yd : w.heap.size ≤ W3.heap.size := d.out.size
    replace B0 := zB t5 B0 (fun h => by skip; omega)
    replace B1 := zB t5 B1 (fun h => by skip; omega)
    replace BX := zB t5 BX (fun h => by skip; omega)
    replace BA := zB t5 BA (fun h => by skip; omega)
    replace P0 := zt Jd P0 t5 (fun b h1 h2 => by have r1 := Q0.out b h1; skip; omega)
    replace P3 := zt Jb P3 t5 (fun b h1 h2 => by have r1 := Q3.out b h1; skip; omega)
    replace PU := zt Ji PU t5 (fun b h1 h2 => by have r1 := QU.out b h1; skip; omega)
    replace N2 := zt Jq N2 t5 (fun b h1 h2 => by have r1 := O2.out b h1; skip; omega)
    replace N3 := zt Jb N3 t5 (fun b h1 h2 => by have r1 := O3.out b h1; skip; omega)
    replace d := hd (Jr d.out t5 (fun b h => by skip; omega) (by omega))
    have Z_W4 := hd (show W3.heap.size ≤ W4.heap.size from t5.size)
    clear yd y0 y1 y2 y3 y4 y5 y6 y7 y8 y9
    have N5 := hd (Kk (Ki Jb o5) (F' := fun b => W2.heap.size ≤ b ∧ b < W4.heap.size) (fun b h => ⟨by have := ZI.out; rcases h.1 with h1 | h1 <;> omega, h.2⟩))
    have O5 : Hid (∀ b, (W2.heap.size ≤ b ∧ b < W4.heap.size) → W2.heap.size ≤ b ∧ b < W4.heap.size) := hd (fun b h => h)
    clear o5 t5
    have cp_BA_0 := Vg BA.out
    have f_BA_0 := Ut W4 _ 0 _ _ BA.out
    have f_BA_1 := Ut W4 _ 1 _ _ BA.out
    have f_BA_2 := Ut W4 _ 2 _ _ BA.out
    have f_BA_3 := Ut W4 _ 3 _ _ BA.out
    have f_BA_4 := Ut W4 _ 4 _ _ BA.out
    have f_BA_5 := Ut W4 _ 5 _ _ BA.out
    have f_BA_6 := Ut W4 _ 6 _ _ BA.out
    have f_BA_7 := Ut W4 _ 7 _ _ BA.out
    have f_BA_8 := Ut W4 _ 8 _ _ BA.out
    have f_BA_9 := Ut W4 _ 9 _ _ BA.out
    go_upto_region 8 with fail
    clear cp_BA_0 f_BA_0 f_BA_1 f_BA_2 f_BA_3 f_BA_4 f_BA_5 f_BA_6 f_BA_7 f_BA_8 f_BA_9
    have kt := ((Jy.refl (fun b => b = wr.heap.size) W4).trans (Jh (G := fun b => b = wr.heap.size) (g := wr.heap.size) (j := 5) (u := .slice ua5 x5.length uc5) rfl))
    have kr := (Uv _ wr.heap.size 5 _ _ (.slice ua5 x5.length uc5) BA.out)
    simp at kr
    have DQ5 := hd (Jr DQ4.out kt (fun b h => by omega) DQ4.out.size)
    generalize hWn : (W4.setCell ⟨wr, 5, none⟩ (.slice ua5 x5.length uc5)) = W5 at *
    clear hWn DQ4
    have y0 := YB.out
    have y1 := YX.out
    have y2 := YN.out
    have y3 := YX2.out
    have y4 := YNB0.out
    have y5 := Z_wr.out
    have y6 := YA.out
    have y7 := Z_W1.out
    have y8 := Z_W2.out
    have y9 := ZI.out
    have y10 := Z_W4.out
    have yd : w.heap.size ≤ W4.heap.size := d.out.size
    replace B0 := zB kt B0 (fun h => by skip; omega)
    replace B1 := zB kt B1 (fun h => by skip; omega)
    replace BX := zB kt BX (fun h => by skip; omega)
    replace P0 := zt Jd P0 kt (fun b h1 h2 => by have r1 := Q0.out b h1; skip; omega)
    replace P3 := zt Jb P3 kt (fun b h1 h2 => by have r1 := Q3.out b h1; skip; omega)
    replace PU := zt Ji PU kt (fun b h1 h2 => by have r1 := QU.out b h1; skip; omega)
    replace N2 := zt Jq N2 kt (fun b h1 h2 => by have r1 := O2.out b h1; skip; omega)
    replace N3 := zt Jb N3 kt (fun b h1 h2 => by have r1 := O3.out b h1; skip; omega)
    replace N5 := zt Jb N5 kt (fun b h1 h2 => by have r1 := O5.out b h1; skip; omega)
    replace d := hd (Jr d.out kt (fun b h => by skip; omega) (by omega))
    have Z_W5 := hd (show W4.heap.size ≤ W5.heap.size from kt.size)
    clear yd y0 y1 y2 y3 y4 y5 y6 y7 y8 y9 y10
    replace BA := hd kr
    clear kt kr
    have cp_BA_0 := Vg BA.out
    go_wp2_with fail
    clear cp_BA_0
    refine (copy_l9Rows (.slice p9 x9.length c9) x9 W5 (Jc Jv G9.out DQ5.out) M9.out).mono ?_
    rintro e W6 ⟨u9, rfl, o9, c⟩
    replace o9 := Ki Jv o9
    obtain ⟨ua9, uc9, rfl⟩ := Js o9
    have N9 := hd o9
    have O9 : Hid (∀ b, (Kg W5 b ∧ b < W6.heap.size) → W5.heap.size ≤ b ∧ b < W6.heap.size) := hd (fun b h => h)
    have DQ6 := hd (DQ5.out.trans (c.mono DQ5.out.size))
    clear o9 DQ5
    replace B0 := zb c B0
    replace B1 := zb c B1
    replace BX := zb c BX
    replace BA := zb c BA
    replace P0 := zf Jd P0 c
    replace P3 := zf Jb P3 c
    replace PU := zf Ji PU c
    replace N2 := zf Jq N2 c
    replace N3 := zf Jb N3 c
    replace N5 := zf Jb N5 c
    replace d := zD d c
    have Z_W6 := hd (show W5.heap.size ≤ W6.heap.size from c.size)
    clear c
    have cp_BA_0 := Vg BA.out
    have f_BA_0 := Ut W6 _ 0 _ _ BA.out
    have f_BA_1 := Ut W6 _ 1 _ _ BA.out
    have f_BA_2 := Ut W6 _ 2 _ _ BA.out
    have f_BA_3 := Ut W6 _ 3 _ _ BA.out
    have f_BA_4 := Ut W6 _ 4 _ _ BA.out
    have f_BA_5 := Ut W6 _ 5 _ _ BA.out
    have f_BA_6 := Ut W6 _ 6 _ _ BA.out
    have f_BA_7 := Ut W6 _ 7 _ _ BA.out
    have f_BA_8 := Ut W6 _ 8 _ _ BA.out
    have f_BA_9 := Ut W6 _ 9 _ _ BA.out
    go_upto_region 9 with fail
    clear cp_BA_0 f_BA_0 f_BA_1 f_BA_2 f_BA_3 f_BA_4 f_BA_5 f_BA_6 f_BA_7 f_BA_8 f_BA_9
    have kt := ((Jy.refl (fun b => b = wr.heap.size) W6).trans (Jh (G := fun b => b = wr.heap.size) (g := wr.heap.size) (j := 9) (u := .slice ua9 x9.length uc9) rfl))
    have kr := (Uv _ wr.heap.size 9 _ _ (.slice ua9 x9.length uc9) BA.out)
    simp at kr
    have kd := hd (Jr DQ6.out kt (fun b h => by omega) DQ6.out.size)
    generalize hWn : (W6.setCell ⟨wr, 9, none⟩ (.slice ua9 x9.length uc9)) = W7 at *
    clear hWn DQ6
    have y0 := YB.out
    have y1 := YX.out
    have y2 := YN.out
    have y3 := YX2.out
    have y4 := YNB0.out
    have y5 := Z_wr.out
    have y6 := YA.out
    have y7 := Z_W1.out
    have y8 := Z_W2.out
    have y9 := ZI.out
    have y10 := Z_W4.out
    have y11 := Z_W5.out
    have y12 := Z_W6.out
    have yd : w.heap.size ≤ W6.heap.size := d.out.size
    replace B0 := zB kt B0 (fun h => by skip; omega)
    replace B1 := zB kt B1 (fun h => by skip; omega)
    replace BX := zB kt BX (fun h => by skip; omega)
    replace P0 := zt Jd P0 kt (fun b h1 h2 => by have r1 := Q0.out b h1; skip; omega)
    replace P3 := zt Jb P3 kt (fun b h1 h2 => by have r1 := Q3.out b h1; skip; omega)
    replace PU := zt Ji PU kt (fun b h1 h2 => by have r1 := QU.out b h1; skip; omega)
    replace N2 := zt Jq N2 kt (fun b h1 h2 => by have r1 := O2.out b h1; skip; omega)
    replace N3 := zt Jb N3 kt (fun b h1 h2 => by have r1 := O3.out b h1; skip; omega)
    replace N5 := zt Jb N5 kt (fun b h1 h2 => by have r1 := O5.out b h1; skip; omega)
    replace N9 := zt Jv N9 kt (fun b h1 h2 => by have r1 := O9.out b h1; skip; omega)
    replace d := hd (Jr d.out kt (fun b h => by skip; omega) (by omega))
    have Z_W7 := hd (show W6.heap.size ≤ W7.heap.size from kt.size)
    clear yd y0 y1 y2 y3 y4 y5 y6 y7 y8 y9 y10 y11 y12
    replace BA := hd kr
    clear kt kr
    have cp_BA_0 := Vg BA.out
    have cp_BX_0 := Kh BX.out
    have OW := hd (show Jm.O W7 (fun b => wr.heap.size ≤ b) [a0, a1, .slice ua2 x2.length uc2, .slice ua3 x3.length uc3, a4, .slice ua5 x5.length uc5, a6, a7, a8, .slice ua9 x9.length uc9] ((a0, a1, x2, x3), a4, x5, a6, a7, a8, x9) from tActive_mkO N2.out N3.out N5.out N9.out (fun b h => by have r1 := O2.out b h; have m0 := YB.out; have m1 := YX.out; have m2 := YN.out; have m3 := YX2.out; have m4 := YNB0.out; have m5 := Z_wr.out; have m6 := YA.out; have m7 := Z_W1.out; have m8 := Z_W2.out; have m9 := ZI.out; have m10 := Z_W4.out; have m11 := Z_W5.out; have m12 := Z_W6.out; have m13 := Z_W7.out; show wr.heap.size ≤ b; omega) (fun b h => by have r1 := O3.out b h; have m0 := YB.out; have m1 := YX.out; have m2 := YN.out; have m3 := YX2.out; have m4 := YNB0.out; have m5 := Z_wr.out; have m6 := YA.out; have m7 := Z_W1.out; have m8 := Z_W2.out; have m9 := ZI.out; have m10 := Z_W4.out; have m11 := Z_W5.out; have m12 := Z_W6.out; have m13 := Z_W7.out; show wr.heap.size ≤ b; omega) (fun b h => by have r1 := O5.out b h; have m0 := YB.out; have m1 := YX.out; have m2 := YN.out; have m3 := YX2.out; have m4 := YNB0.out; have m5 := Z_wr.out; have m6 := YA.out; have m7 := Z_W1.out; have m8 := Z_W2.out; have m9 := ZI.out; have m10 := Z_W4.out; have m11 := Z_W5.out; have m12 := Z_W6.out; have m13 := Z_W7.out; show wr.heap.size ≤ b; omega) (fun b h => by have r1 := O9.out b h; have m0 := YB.out; have m1 := YX.out; have m2 := YN.out; have m3 := YX2.out; have m4 := YNB0.out; have m5 := Z_wr.out; have m6 := YA.out; have m7 := Z_W1.out; have m8 := Z_W2.out; have m9 := ZI.out; have m10 := Z_W4.out; have m11 := Z_W5.out; have m12 := Z_W6.out; have m13 := Z_W7.out; show wr.heap.size ≤ b; omega) KJ.out (fun b h1 h2 => by have r1 := O2.out b h1; have r2 := O5.out b h2; have m0 := YB.out; have m1 := YX.out; have m2 := YN.out; have m3 := YX2.out; have m4 := YNB0.out; have m5 := Z_wr.out; have m6 := YA.out; have m7 := Z_W1.out; have m8 := Z_W2.out; have m9 := ZI.out; have m10 := Z_W4.out; have m11 := Z_W5.out; have m12 := Z_W6.out; have m13 := Z_W7.out; omega) (fun b h1 h2 => by have r1 := O2.out b h1; have r2 := O9.out b h2; have m0 := YB.out; have m1 := YX.out; have m2 := YN.out; have m3 := YX2.out; have m4 := YNB0.out; have m5 := Z_wr.out; have m6 := YA.out; have m7 := Z_W1.out; have m8 := Z_W2.out; have m9 := ZI.out; have m10 := Z_W4.out; have m11 := Z_W5.out; have m12 := Z_W6.out; have m13 := Z_W7.out; omega) (fun b h1 h2 => by have r1 := O3.out b h1; have r2 := O5.out b h2; have m0 := YB.out; have m1 := YX.out; have m2 := YN.out; have m3 := YX2.out; have m4 := YNB0.out; have m5 := Z_wr.out; have m6 := YA.out; have m7 := Z_W1.out; have m8 := Z_W2.out; have m9 := ZI.out; have m10 := Z_W4.out; have m11 := Z_W5.out; have m12 := Z_W6.out; have m13 := Z_W7.out; omega) (fun b h1 h2 => by have r1 := O3.out b h1; have r2 := O9.out b h2; have m0 := YB.out; have m1 := YX.out; have m2 := YN.out; have m3 := YX2.out; have m4 := YNB0.out; have m5 := Z_wr.out; have m6 := YA.out; have m7 := Z_W1.out; have m8 := Z_W2.out; have m9 := ZI.out; have m10 := Z_W4.out; have m11 := Z_W5.out; have m12 := Z_W6.out; have m13 := Z_W7.out; omega) (fun b h1 h2 => by have r1 := O5.out b h1; have r2 := O9.out b h2; have m0 := YB.out; have m1 := YX.out; have m2 := YN.out; have m3 := YX2.out; have m4 := YNB0.out; have m5 := Z_wr.out; have m6 := YA.out; have m7 := Z_W1.out; have m8 := Z_W2.out; have m9 := ZI.out; have m10 := Z_W4.out; have m11 := Z_W5.out; have m12 := Z_W6.out; have m13 := Z_W7.out; omega))
    have ZW : wr.heap.size ≤ W7.heap.size := by have h1 := kd.out.size; exact h1
    go_wp2_with (at_builtin; refine append_T Ji info_T_Active Tryz.underlying39 rfl rfl (.tmp 47) (.tmp 49) rfl (fun b => NB0 ≤ b) wr.heap.size _ (qs.take k) rfl PU.out ZW (fun b hb => by have m0 := YB.out; have m1 := YX.out; have m2 := YN.out; have m3 := YX2.out; have m4 := YNB0.out; have m5 := Z_wr.out; have m6 := YA.out; have m7 := Z_W1.out; have m8 := Z_W2.out; have m9 := ZI.out; have m10 := Z_W4.out; have m11 := Z_W5.out; have m12 := Z_W6.out; have m13 := Z_W7.out; omega) HKL.out [a0, a1, .slice ua2 x2.length uc2, .slice ua3 x3.length uc3, a4, .slice ua5 x5.length uc5, a6, a7, a8, .slice ua9 x9.length uc9] ((a0, a1, x2, x3), a4, x5, a6, a7, a8, x9) OW.out (by simp [Value.oneCell']) 1 _ rfl (by simp [Ux]) ?_)
    clear OW ZW cp_BA_0 cp_BX_0
    intro v' W8 oN tN
    rw [HTK.out] at oN
    obtain ⟨na, nl, nc, rfl⟩ : ∃ (a : Option Addr) (n c : Nat), v' = .slice a n c := (by obtain ⟨a, c, e⟩ := Js oN; exact ⟨a, _, c, e⟩)
    have m0 := YB.out
    have m1 := YX.out
    have m2 := YN.out
    have m3 := YX2.out
    have m4 := YNB0.out
    have m5 := Z_wr.out
    have m6 := YA.out
    have m7 := Z_W1.out
    have m8 := Z_W2.out
    have m9 := ZI.out
    have m10 := Z_W4.out
    have m11 := Z_W5.out
    have m12 := Z_W6.out
    have m13 := Z_W7.out
    have bx8 := (tN.block bx (Array.getElem?_eq_some_iff.1 BX.out).1 (fun h => by have := h.1; omega)).trans BX.out
    have q0 := cr 0 (Value.slice ua ss.length uc) bx8
    have f0 := Ut W8 _ 0 _ _ bx8
    have q1 := cr 1 (Value.int .i64 now) bx8
    have f1 := Ut W8 _ 1 _ _ bx8
    have q2 := cr 2 (Value.int .i64 cu) bx8
    have f2 := Ut W8 _ 2 _ _ bx8
    have q3 := cr 3 (Value.slice ub os.length ud) bx8
    have f3 := Ut W8 _ 3 _ _ bx8
    have q4 := cr 4 (u) bx8
    have f4 := Ut W8 _ 4 _ _ bx8
    have q5 := cr 5 () bx8
    have f5 := Ut W8 _ 5 _ _ bx8
    have q6 := cr 6 () bx8
    have f6 := Ut W8 _ 6 _ _ bx8
    have q7 := cr 7 (Value.int .i64 st) bx8
    have f7 := Ut W8 _ 7 _ _ bx8
    have tf : Jy (fun b => b = bx) W8 (W8.setCell ⟨bx, 4, none⟩ (.slice na nl nc)) := Jh (G := fun b => b = bx) (g := bx) (j := 4) (u := .slice na nl nc) rfl
    have rf := Uv W8 bx 4 _ _ (.slice na nl nc) bx8
    simp at rf
    have oF := Ju Ji oN tf (fun b h1 h2 => by omega)
    have TF : Hid (Jy (fun b => b = bx) wc (W8.setCell ⟨bx, 4, none⟩ (.slice na nl nc))) := hd ⟨tf.os.trans (tN.os.trans (kd.out.os.trans TW.out.os)), tf.tape.trans (tN.tape.trans (kd.out.tape.trans TW.out.tape)), tf.output.trans (tN.output.trans (kd.out.output.trans TW.out.output)), Nat.le_trans TW.out.size (Nat.le_trans kd.out.size (Nat.le_trans tN.size tf.size)), fun j hj hn => by
     have h0 := TW.out.size; have h1 := kd.out.size; have h2 := tN.size; have hb := YNB0.out
     exact (tf.block j (by omega) hn).trans ((tN.block j (by omega) (fun h => by have h3 := h.1; omega)).trans ((kd.out.block j (by omega)).trans (TW.out.block j hj hn)))⟩
    have OF := hd oF; have RF := hd rf
    clear oF oN tN tf rf m0 m1 m2 m3 m4 m5 m6 m7 m8 m9 m10 m11 m12 m13
    go_wp2
    clear q0 f0 q1 f1 q2 f2 q3 f3 q4 f4 q5 f5 q6 f6 q7 f7 bx8
    go_roundw
    case rel => exact ⟨k + 1, _, by omega, by go_num, RF, OF, TF.out⟩
    case measure => simp [intOf]; omega
   ·
    obtain rfl : k = qs.length := by omega
    rw [List.take_length] at PU
    have hln := PU.out
    obtain ⟨va0, vc0, hln2⟩ := Js hln
    clear hln
    subst hln2
    have PL0 := PU
    have QL0 : Hid (∀ b, (NB0 ≤ b ∧ b < wr.heap.size) → NB0 ≤ b ∧ b < wr.heap.size) := hd (fun b h => h)
    clear PU QU TW hk hlt
    have cp_B0_0 := Kh B0.out
    have cp_B1_0 := Kh B1.out
    have cp_BX_0 := Kh BX.out
    go_wp2
    clear cp_B0_0 cp_B1_0 cp_BX_0
    generalize hwr : wr = Wz0 at *
    clear hwr
    have Zz0 := Z_wr
    obtain ⟨NB1, hNB⟩ : ∃ n, n = Wz0.heap.size := ⟨_, rfl⟩
    have YNB1 : Hid (NB1 = Wz0.heap.size) := hd hNB
    clear hNB
    have X0 := BX
    go_loopw [6] (fun i wr => ∃ (k : Nat) (u : Value), k ≤ ds.length ∧ i = .int .i64 k ∧ Hid (wr.heap[bx]? = some (.cells #[.slice ua ss.length uc, .int .i64 now, .int .i64 cu, .slice ub os.length ud, .slice va0 qs.length vc0, u, (), .int .i64 st] 43 (0, 0))) ∧ Hid (Kt 136 Jk wr (fun b => NB1 ≤ b) u (ds.take k)) ∧ Jy (fun b => b = bx) Wz0 wr) (fun i _ => ds.length - (intOf i).toNat)
    case atStart => exact ⟨0, _, Ef _, rfl, BX, hd (Vl _ _ _ _), Jy.refl _ _⟩
    case round =>
     obtain ⟨k, u, hk, rfl, hx, hu, tw⟩ := hrel
     clear BX X0
     have TW := hd tw
     have y0 := YB.out
     have y1 := YX.out
     have y2 := YN.out
     have y3 := YX2.out
     have y4 := YNB0.out
     have y5 := Zz0.out
     have y6 := YNB1.out
     have yd : w.heap.size ≤ Wz0.heap.size := d.out.size
     replace B0 := zB tw B0 (fun h => by skip; omega)
     replace B1 := zB tw B1 (fun h => by skip; omega)
     replace P0 := zt Jd P0 tw (fun b h1 h2 => by have r1 := Q0.out b h1; skip; omega)
     replace P3 := zt Jb P3 tw (fun b h1 h2 => by have r1 := Q3.out b h1; skip; omega)
     replace PL0 := zt Ji PL0 tw (fun b h1 h2 => by have r1 := QL0.out b h1; skip; omega)
     replace d := hd (Jr d.out tw (fun b h => by skip; omega) (by omega))
     have Z_wr := hd (show Wz0.heap.size ≤ wr.heap.size from tw.size)
     clear yd y0 y1 y2 y3 y4 y5 y6
     clear tw
     have BX := hx
     have PU := hd (Ki Jg hu.out)
     have QU : Hid (∀ b, (NB1 ≤ b ∧ b < wr.heap.size) → NB1 ≤ b ∧ b < wr.heap.size) := hd (fun b h => h)
     clear hx hu
     by_cases hlt : k < ds.length
     ·
      have i1 : (0 : Int) ≤ (k : Int) := by omega
      have i2 : (k : Int) < (ds.length : Int) := by omega
      have hz := Kz S5.out hlt
      have HTK : Hid (ds.take k ++ [ds.getD k f0D] = ds.take (k + 1)) := hd (take_step f0D hlt).symm
      have HKL : Hid ((ds.take k).length ≤ 1048576) := hd (by rw [List.length_take]; omega)
      change Jk.sz (ds.getD k f0D) ≤ 1048576 at hz
      obtain ⟨b, off, cap', p2, c2, p3, c3, p6, c6, hv, hbl, e0, e1, e2, e3, e4, e5, e6, g2, g3, g6⟩ := fin_at (Jc Jg H5.out d.out) hlt
      simp only [Eg] at hv
      obtain ⟨rfl, _, rfl⟩ := hv
      obtain ⟨xe, hxe⟩ : ∃ xe, xe = ds.getD k f0D := ⟨_, rfl⟩
      rw [← hxe] at hz HTK e0 e1 e2 e3 e4 e5 e6 g2 g3 g6
      clear hxe
      obtain ⟨⟨a0, a1, x2, x3⟩, a4, a5, x6⟩ := xe
      rw [Vs] at hz
      dsimp only at *
      have G2 := hd g2; have M2 := hd (show zL Jl x2 ≤ 1048576 by omega)
      have G3 := hd g3; have M3 := hd (show zL Jf x3 ≤ 1048576 by omega)
      have G6 := hd g6; have M6 := hd (show zL Kb x6 ≤ 1048576 by omega)
      clear hz g2 g3 g6
      have cal : Below wr wr (wr.alloc (.cells #[a0, a1, .slice p2 x2.length c2, .slice p3 x3.length c3, a4, a5, .slice p6 x6.length c6] 136)) := (Eh _ _).alloc (Ed _) _
      have DQ0 := hd cal
      have BA : Hid ((wr.alloc (.cells #[a0, a1, .slice p2 x2.length c2, .slice p3 x3.length c3, a4, a5, .slice p6 x6.length c6] 136)).heap[wr.heap.size]? = some (.cells #[a0, a1, .slice p2 x2.length c2, .slice p3 x3.length c3, a4, a5, .slice p6 x6.length c6] 136 (0, 0))) := hd (Uw wr _)
      have cp_B0_0 := Kh B0.out
      have cp_BX_0 := Kh BX.out
      go_wp2_with fail
      clear cp_B0_0 cp_BX_0 e0 e1 e2 e3 e4 e5 e6 hbl
      generalize hWq : (wr.alloc (.cells #[a0, a1, .slice p2 x2.length c2, .slice p3 x3.length c3, a4, a5, .slice p6 x6.length c6] 136)) = Wq at *
      have DQ := DQ0
      clear hWq
      have YA : Hid (wr.heap.size < Wq.heap.size) := hd (Array.getElem?_eq_some_iff.1 BA.out).1
      replace B0 := zb cal B0
      replace B1 := zb cal B1
      replace BX := zb cal BX
      replace P0 := zf Jd P0 cal
      replace P3 := zf Jb P3 cal
      replace PL0 := zf Ji PL0 cal
      replace PU := zf Jg PU cal
      replace d := zD d cal
      clear cal
      refine (copy_l6Query a0 a1 (.slice p2 x2.length c2) (.slice p3 x3.length c3) x2 x3 Wq (Jc Jq G2.out DQ.out) (Jc Jb G3.out DQ.out) M2.out M3.out).mono ?_
      rintro e W1 ⟨cs, rfl, ow, c⟩
      replace ow := Ym.lt ow
      obtain ⟨u2, u3, E2, E3, rfl, o2, o3, k2, k3, kj⟩ := tQuery_O ow
      obtain ⟨ua2, uc2, rfl⟩ := Js o2
      obtain ⟨ua3, uc3, rfl⟩ := Js o3
      have N2 := hd o2; have N3 := hd o3; have KJ := hd kj
      have O2 : Hid (∀ b, E2 b → Wq.heap.size ≤ b ∧ b < W1.heap.size) := hd (fun b h => k2 b h)
      have O3 : Hid (∀ b, E3 b → Wq.heap.size ≤ b ∧ b < W1.heap.size) := hd (fun b h => k3 b h)
      have DQ1 := hd (DQ.out.trans (c.mono DQ.out.size))
      clear ow o2 o3 k2 k3 kj DQ DQ0
      replace B0 := zb c B0
      replace B1 := zb c B1
      replace BX := zb c BX
      replace BA := zb c BA
      replace P0 := zf Jd P0 c
      replace P3 := zf Jb P3 c
      replace PL0 := zf Ji PL0 c
      replace PU := zf Jg PU c
      replace d := zD d c
      have Z_W1 := hd (show Wq.heap.size ≤ W1.heap.size from c.size)
      clear c
      have cp_BA_0 := cls7 BA.out
      have f_BA_0 := Ut W1 _ 0 _ _ BA.out
      have f_BA_1 := Ut W1 _ 1 _ _ BA.out
      have f_BA_2 := Ut W1 _ 2 _ _ BA.out
      have f_BA_3 := Ut W1 _ 3 _ _ BA.out
      have f_BA_4 := Ut W1 _ 4 _ _ BA.out
      have f_BA_5 := Ut W1 _ 5 _ _ BA.out
      have f_BA_6 := Ut W1 _ 6 _ _ BA.out
      go_upto_region 15 with fail
      clear cp_BA_0 f_BA_0 f_BA_1 f_BA_2 f_BA_3 f_BA_4 f_BA_5 f_BA_6
      have kt := (((((Jy.refl (fun b => b = wr.heap.size) W1).trans (Jh (G := fun b => b = wr.heap.size) (g := wr.heap.size) (j := 0) (u := .int .i64 a0) rfl)).trans (Jh (G := fun b => b = wr.heap.size) (g := wr.heap.size) (j := 1) (u := .int .i64 a1) rfl)).trans (Jh (G := fun b => b = wr.heap.size) (g := wr.heap.size) (j := 2) (u := .slice ua2 x2.length uc2) rfl)).trans (Jh (G := fun b => b = wr.heap.size) (g := wr.heap.size) (j := 3) (u := .slice ua3 x3.length uc3) rfl))
      have kr := (Uv _ wr.heap.size 3 _ _ (.slice ua3 x3.length uc3) (Uv _ wr.heap.size 2 _ _ (.slice ua2 x2.length uc2) (Uv _ wr.heap.size 1 _ _ a1 (Uv _ wr.heap.size 0 _ _ a0 BA.out))))
      simp at kr
      have DQ2 := hd (Jr DQ1.out kt (fun b h => by omega) DQ1.out.size)
      generalize hWn : ((((W1.setCell ⟨wr, 0, none⟩ a0).setCell ⟨wr, 1, none⟩ a1).setCell ⟨wr, 2, none⟩ (.slice ua2 x2.length uc2)).setCell ⟨wr, 3, none⟩ (.slice ua3 x3.length uc3)) = W2 at *
      clear hWn DQ1
      have y0 := YB.out
      have y1 := YX.out
      have y2 := YN.out
      have y3 := YX2.out
      have y4 := YNB0.out
      have y5 := Zz0.out
      have y6 := YNB1.out
      have y7 := Z_wr.out
      have y8 := YA.out
      have y9 := Z_W1.out
      have yd : w.heap.size ≤ W1.heap.size := d.out.size
      replace B0 := zB kt B0 (fun h => by skip; omega)
      replace B1 := zB kt B1 (fun h => by skip; omega)
      replace BX := zB kt BX (fun h => by skip; omega)
      replace P0 := zt Jd P0 kt (fun b h1 h2 => by have r1 := Q0.out b h1; skip; omega)
      replace P3 := zt Jb P3 kt (fun b h1 h2 => by have r1 := Q3.out b h1; skip; omega)
      replace PL0 := zt Ji PL0 kt (fun b h1 h2 => by have r1 := QL0.out b h1; skip; omega)
      replace PU := zt Jg PU kt (fun b h1 h2 => by have r1 := QU.out b h1; skip; omega)
      replace N2 := zt Jq N2 kt (fun b h1 h2 => by have r1 := O2.out b h1; skip; omega)
      replace N3 := zt Jb N3 kt (fun b h1 h2 => by have r1 := O3.out b h1; skip; omega)
      replace d := hd (Jr d.out kt (fun b h => by skip; omega) (by omega))
      have Z_W2 := hd (show W1.heap.size ≤ W2.heap.size from kt.size)
      clear yd y0 y1 y2 y3 y4 y5 y6 y7 y8 y9
      replace BA := hd kr
      clear kt kr
      have cp_BA_0 := cls7 BA.out
      go_wp2_with fail
      clear cp_BA_0
      refine (copy_l9Rows (.slice p6 x6.length c6) x6 W2 (Jc Jv G6.out DQ2.out) M6.out).mono ?_
      rintro e W6 ⟨u9, rfl, o9, c⟩
      replace o9 := Ki Jv o9
      obtain ⟨ua9, uc9, rfl⟩ := Js o9
      have N9 := hd o9
      have O9 : Hid (∀ b, (Kg W2 b ∧ b < W6.heap.size) → W2.heap.size ≤ b ∧ b < W6.heap.size) := hd (fun b h => h)
      have DQ6 := hd (DQ2.out.trans (c.mono DQ2.out.size))
      clear o9 DQ2
      replace B0 := zb c B0
      replace B1 := zb c B1
      replace BX := zb c BX
      replace BA := zb c BA
      replace P0 := zf Jd P0 c
      replace P3 := zf Jb P3 c
      replace PL0 := zf Ji PL0 c
      replace PU := zf Jg PU c
      replace N2 := zf Jq N2 c
      replace N3 := zf Jb N3 c
      replace d := zD d c
      have Z_W6 := hd (show W2.heap.size ≤ W6.heap.size from c.size)
      clear c
      have cp_BA_0 := cls7 BA.out
      have f_BA_0 := Ut W6 _ 0 _ _ BA.out
      have f_BA_1 := Ut W6 _ 1 _ _ BA.out
      have f_BA_2 := Ut W6 _ 2 _ _ BA.out
      have f_BA_3 := Ut W6 _ 3 _ _ BA.out
      have f_BA_4 := Ut W6 _ 4 _ _ BA.out
      have f_BA_5 := Ut W6 _ 5 _ _ BA.out
      have f_BA_6 := Ut W6 _ 6 _ _ BA.out
      go_upto_region 16 with fail
      clear cp_BA_0 f_BA_0 f_BA_1 f_BA_2 f_BA_3 f_BA_4 f_BA_5 f_BA_6
      have kt := ((Jy.refl (fun b => b = wr.heap.size) W6).trans (Jh (G := fun b => b = wr.heap.size) (g := wr.heap.size) (j := 6) (u := .slice ua9 x6.length uc9) rfl))
      have kr := (Uv _ wr.heap.size 6 _ _ (.slice ua9 x6.length uc9) BA.out)
      simp at kr
      have kd := hd (Jr DQ6.out kt (fun b h => by omega) DQ6.out.size)
      generalize hWn : (W6.setCell ⟨wr, 6, none⟩ (.slice ua9 x6.length uc9)) = W7 at *
      clear hWn DQ6
      have y0 := YB.out
      have y1 := YX.out
      have y2 := YN.out
      have y3 := YX2.out
      have y4 := YNB0.out
      have y5 := Zz0.out
      have y6 := YNB1.out
      have y7 := Z_wr.out
      have y8 := YA.out
      have y9 := Z_W1.out
      have y10 := Z_W2.out
      have y11 := Z_W6.out
      have yd : w.heap.size ≤ W6.heap.size := d.out.size
      replace B0 := zB kt B0 (fun h => by skip; omega)
      replace B1 := zB kt B1 (fun h => by skip; omega)
      replace BX := zB kt BX (fun h => by skip; omega)
      replace P0 := zt Jd P0 kt (fun b h1 h2 => by have r1 := Q0.out b h1; skip; omega)
      replace P3 := zt Jb P3 kt (fun b h1 h2 => by have r1 := Q3.out b h1; skip; omega)
      replace PL0 := zt Ji PL0 kt (fun b h1 h2 => by have r1 := QL0.out b h1; skip; omega)
      replace PU := zt Jg PU kt (fun b h1 h2 => by have r1 := QU.out b h1; skip; omega)
      replace N2 := zt Jq N2 kt (fun b h1 h2 => by have r1 := O2.out b h1; skip; omega)
      replace N3 := zt Jb N3 kt (fun b h1 h2 => by have r1 := O3.out b h1; skip; omega)
      replace N9 := zt Jv N9 kt (fun b h1 h2 => by have r1 := O9.out b h1; skip; omega)
      replace d := hd (Jr d.out kt (fun b h => by skip; omega) (by omega))
      have Z_W7 := hd (show W6.heap.size ≤ W7.heap.size from kt.size)
      clear yd y0 y1 y2 y3 y4 y5 y6 y7 y8 y9 y10 y11
      replace BA := hd kr
      clear kt kr
      have cp_BA_0 := cls7 BA.out
      have cp_BX_0 := Kh BX.out
      have OW := hd (show Jk.O W7 (fun b => wr.heap.size ≤ b) [a0, a1, .slice ua2 x2.length uc2, .slice ua3 x3.length uc3, a4, a5, .slice ua9 x6.length uc9] ((a0, a1, x2, x3), a4, a5, x6) from Xy N2.out N3.out N9.out (fun b h => by have r1 := O2.out b h; have m0 := YB.out; have m1 := YX.out; have m2 := YN.out; have m3 := YX2.out; have m4 := YNB0.out; have m5 := Zz0.out; have m6 := YNB1.out; have m7 := Z_wr.out; have m8 := YA.out; have m9 := Z_W1.out; have m10 := Z_W2.out; have m11 := Z_W6.out; have m12 := Z_W7.out; show wr.heap.size ≤ b; omega) (fun b h => by have r1 := O3.out b h; have m0 := YB.out; have m1 := YX.out; have m2 := YN.out; have m3 := YX2.out; have m4 := YNB0.out; have m5 := Zz0.out; have m6 := YNB1.out; have m7 := Z_wr.out; have m8 := YA.out; have m9 := Z_W1.out; have m10 := Z_W2.out; have m11 := Z_W6.out; have m12 := Z_W7.out; show wr.heap.size ≤ b; omega) (fun b h => by have r1 := O9.out b h; have m0 := YB.out; have m1 := YX.out; have m2 := YN.out; have m3 := YX2.out; have m4 := YNB0.out; have m5 := Zz0.out; have m6 := YNB1.out; have m7 := Z_wr.out; have m8 := YA.out; have m9 := Z_W1.out; have m10 := Z_W2.out; have m11 := Z_W6.out; have m12 := Z_W7.out; show wr.heap.size ≤ b; omega) KJ.out (fun b h1 h2 => by have r1 := O2.out b h1; have r2 := O9.out b h2; have m0 := YB.out; have m1 := YX.out; have m2 := YN.out; have m3 := YX2.out; have m4 := YNB0.out; have m5 := Zz0.out; have m6 := YNB1.out; have m7 := Z_wr.out; have m8 := YA.out; have m9 := Z_W1.out; have m10 := Z_W2.out; have m11 := Z_W6.out; have m12 := Z_W7.out; omega) (fun b h1 h2 => by have r1 := O3.out b h1; have r2 := O9.out b h2; have m0 := YB.out; have m1 := YX.out; have m2 := YN.out; have m3 := YX2.out; have m4 := YNB0.out; have m5 := Zz0.out; have m6 := YNB1.out; have m7 := Z_wr.out; have m8 := YA.out; have m9 := Z_W1.out; have m10 := Z_W2.out; have m11 := Z_W6.out; have m12 := Z_W7.out; omega))
      have ZW : wr.heap.size ≤ W7.heap.size := by have h1 := kd.out.size; exact h1
      go_wp2_with (at_builtin; refine append_T Jg info_T_Finished Tryz.underlying40 rfl rfl (.tmp 73) (.tmp 75) rfl (fun b => NB1 ≤ b) wr.heap.size _ (ds.take k) rfl PU.out ZW (fun b hb => by have m0 := YB.out; have m1 := YX.out; have m2 := YN.out; have m3 := YX2.out; have m4 := YNB0.out; have m5 := Zz0.out; have m6 := YNB1.out; have m7 := Z_wr.out; have m8 := YA.out; have m9 := Z_W1.out; have m10 := Z_W2.out; have m11 := Z_W6.out; have m12 := Z_W7.out; omega) HKL.out [a0, a1, .slice ua2 x2.length uc2, .slice ua3 x3.length uc3, a4, a5, .slice ua9 x6.length uc9] ((a0, a1, x2, x3), a4, a5, x6) OW.out (by simp [Value.oneCell']) 1 _ rfl (by simp [Ux]) ?_)
      clear OW ZW cp_BA_0 cp_BX_0
      intro v' W8 oN tN
      rw [HTK.out] at oN
      obtain ⟨na, nl, nc, rfl⟩ : ∃ (a : Option Addr) (n c : Nat), v' = .slice a n c := (by obtain ⟨a, c, e⟩ := Js oN; exact ⟨a, _, c, e⟩)
      have m0 := YB.out
      have m1 := YX.out
      have m2 := YN.out
      have m3 := YX2.out
      have m4 := YNB0.out
      have m5 := Zz0.out
      have m6 := YNB1.out
      have m7 := Z_wr.out
      have m8 := YA.out
      have m9 := Z_W1.out
      have m10 := Z_W2.out
      have m11 := Z_W6.out
      have m12 := Z_W7.out
      have bx8 := (tN.block bx (Array.getElem?_eq_some_iff.1 BX.out).1 (fun h => by have := h.1; omega)).trans BX.out
      have q0 := cr 0 (Value.slice ua ss.length uc) bx8
      have f0 := Ut W8 _ 0 _ _ bx8
      have q1 := cr 1 (Value.int .i64 now) bx8
      have f1 := Ut W8 _ 1 _ _ bx8
      have q2 := cr 2 (Value.int .i64 cu) bx8
      have f2 := Ut W8 _ 2 _ _ bx8
      have q3 := cr 3 (Value.slice ub os.length ud) bx8
      have f3 := Ut W8 _ 3 _ _ bx8
      have q4 := cr 4 (Value.slice va0 qs.length vc0) bx8
      have f4 := Ut W8 _ 4 _ _ bx8
      have q5 := cr 5 (u) bx8
      have f5 := Ut W8 _ 5 _ _ bx8
      have q6 := cr 6 () bx8
      have f6 := Ut W8 _ 6 _ _ bx8
      have q7 := cr 7 (Value.int .i64 st) bx8
      have f7 := Ut W8 _ 7 _ _ bx8
      have tf : Jy (fun b => b = bx) W8 (W8.setCell ⟨bx, 5, none⟩ (.slice na nl nc)) := Jh (G := fun b => b = bx) (g := bx) (j := 5) (u := .slice na nl nc) rfl
      have rf := Uv W8 bx 5 _ _ (.slice na nl nc) bx8
      simp at rf
      have oF := Ju Jg oN tf (fun b h1 h2 => by omega)
      have TF : Hid (Jy (fun b => b = bx) Wz0 (W8.setCell ⟨bx, 5, none⟩ (.slice na nl nc))) := hd ⟨tf.os.trans (tN.os.trans (kd.out.os.trans TW.out.os)), tf.tape.trans (tN.tape.trans (kd.out.tape.trans TW.out.tape)), tf.output.trans (tN.output.trans (kd.out.output.trans TW.out.output)), Nat.le_trans TW.out.size (Nat.le_trans kd.out.size (Nat.le_trans tN.size tf.size)), fun j hj hn => by
       have h0 := TW.out.size; have h1 := kd.out.size; have h2 := tN.size; have hb := YNB1.out
       exact (tf.block j (by omega) hn).trans ((tN.block j (by omega) (fun h => by have h3 := h.1; omega)).trans ((kd.out.block j (by omega)).trans (TW.out.block j hj hn)))⟩
      have OF := hd oF; have RF := hd rf
      clear oF oN tN tf rf m0 m1 m2 m3 m4 m5 m6 m7 m8 m9 m10 m11 m12
      go_wp2
      clear q0 f0 q1 f1 q2 f2 q3 f3 q4 f4 q5 f5 q6 f6 q7 f7 bx8
      go_roundw
      case rel => exact ⟨k + 1, _, by omega, by go_num, RF, OF, TF.out⟩
      case measure => simp [intOf]; omega
     ·
      obtain rfl : k = ds.length := by omega
      rw [List.take_length] at PU
      have hln := PU.out
      obtain ⟨va1, vc1, hln2⟩ := Js hln
      clear hln
      subst hln2
      have PL1 := PU
      have QL1 : Hid (∀ b, (NB1 ≤ b ∧ b < wr.heap.size) → NB1 ≤ b ∧ b < wr.heap.size) := hd (fun b h => h)
      clear PU QU TW hk hlt
      have cp_B0_0 := Kh B0.out
      have cp_B1_0 := Kh B1.out
      have cp_BX_0 := Kh BX.out
      go_wp2
      clear cp_B0_0 cp_B1_0 cp_BX_0
      generalize hwr : wr = Wz1 at *
      clear hwr
      have Zz1 := Z_wr
      obtain ⟨NB2, hNB⟩ : ∃ n, n = Wz1.heap.size := ⟨_, rfl⟩
      have YNB2 : Hid (NB2 = Wz1.heap.size) := hd hNB
      clear hNB
      have X0 := BX
      go_loopw [8] (fun i wr => ∃ (k : Nat) (u : Value), k ≤ ls.length ∧ i = .int .i64 k ∧ Hid (wr.heap[bx]? = some (.cells #[.slice ua ss.length uc, .int .i64 now, .int .i64 cu, .slice ub os.length ud, .slice va0 qs.length vc0, .slice va1 ds.length vc1, u, .int .i64 st] 43 (0, 0))) ∧ Hid (Kt 137 Jp wr (fun b => NB2 ≤ b) u (ls.take k)) ∧ Jy (fun b => b = bx) Wz1 wr) (fun i _ => ls.length - (intOf i).toNat)
      case atStart => exact ⟨0, _, Ef _, rfl, BX, hd (Vl _ _ _ _), Jy.refl _ _⟩
      case round =>
       obtain ⟨k, u, hk, rfl, hx, hu, tw⟩ := hrel
       clear BX X0
       have TW := hd tw
       have y0 := YB.out
       have y1 := YX.out
       have y2 := YN.out
       have y3 := YX2.out
       have y4 := YNB0.out
       have y5 := Zz0.out
       have y6 := YNB1.out
       have y7 := Zz1.out
       have y8 := YNB2.out
       have yd : w.heap.size ≤ Wz1.heap.size := d.out.size
       replace B0 := zB tw B0 (fun h => by skip; omega)
       replace B1 := zB tw B1 (fun h => by skip; omega)
       replace P0 := zt Jd P0 tw (fun b h1 h2 => by have r1 := Q0.out b h1; skip; omega)
       replace P3 := zt Jb P3 tw (fun b h1 h2 => by have r1 := Q3.out b h1; skip; omega)
       replace PL0 := zt Ji PL0 tw (fun b h1 h2 => by have r1 := QL0.out b h1; skip; omega)
       replace PL1 := zt Jg PL1 tw (fun b h1 h2 => by have r1 := QL1.out b h1; skip; omega)
       replace d := hd (Jr d.out tw (fun b h => by skip; omega) (by omega))
       have Z_wr := hd (show Wz1.heap.size ≤ wr.heap.size from tw.size)
       clear yd y0 y1 y2 y3 y4 y5 y6 y7 y8
       clear tw
       have BX := hx
       have PU := hd (Ki Jj hu.out)
       have QU : Hid (∀ b, (NB2 ≤ b ∧ b < wr.heap.size) → NB2 ≤ b ∧ b < wr.heap.size) := hd (fun b h => h)
       clear hx hu
       by_cases hlt : k < ls.length
       ·
        have i1 : (0 : Int) ≤ (k : Int) := by omega
        have i2 : (k : Int) < (ls.length : Int) := by omega
        have hz := Kz S6.out hlt
        have HTK : Hid (ls.take k ++ [ls.getD k x0D] = ls.take (k + 1)) := hd (take_step x0D hlt).symm
        have HKL : Hid ((ls.take k).length ≤ 1048576) := hd (by rw [List.length_take]; omega)
        change Jp.sz (ls.getD k x0D) ≤ 1048576 at hz
        obtain ⟨b, off, cap', p2, c2, p3, c3, p4, c4, hv, hbl, e0, e1, e2, e3, e4, g2, g3, g4⟩ := chg_at H6.out hlt
        simp only [Eg] at hv
        obtain ⟨rfl, _, rfl⟩ := hv
        obtain ⟨xe, hxe⟩ : ∃ xe, xe = ls.getD k x0D := ⟨_, rfl⟩
        rw [← hxe] at hz HTK e0 e1 e2 e3 e4 g2 g3 g4
        clear hxe
        obtain ⟨a0, a1, x2, x3, x4⟩ := xe
        rw [Yn] at hz
        dsimp only at *
        have G2 := hd g2; have M2 := hd (show zL Jf x2 ≤ 1048576 by omega)
        have G3 := hd g3; have M3 := hd (show zL Jf x3 ≤ 1048576 by omega)
        have G4 := hd g4; have M4 := hd (show zL Jf x4 ≤ 1048576 by omega)
        clear hz g2 g3 g4
        have X0 := hd e0
        have X1 := hd e1
        have X2 := hd e2
        have X3 := hd e3
        have X4 := hd e4
        have BL := hd hbl
        clear hbl e0 e1 e2 e3 e4
        have cp_B0_0 := Kh B0.out
        have cp_BX_0 := Kh BX.out
        go_wp2
        clear cp_B0_0 cp_BX_0
        obtain ⟨p_B0_0, p_B0_1, p_B0_2, p_B0_3, p_B0_4, p_B0_5, p_B0_6, p_B0_7⟩ := Kh B0.out
        have p_X0 := cx d X0 BL
        have p_X1 := cx d X1 BL
        have p_X2 := cx d X2 BL
        have p_X3 := cx d X3 BL
        have p_X4 := cx d X4 BL
        refine wp_region_held_drew (S := fun w' => w'.cell? ⟨w, 0, none⟩ = some (Value.slice s1 ss.length sc) ∧ w'.cell? ⟨w, 1, none⟩ = some (Value.int .i64 now) ∧ w'.cell? ⟨w, 2, none⟩ = some (Value.int .i64 cu) ∧ w'.cell? ⟨w, 3, none⟩ = some (Value.slice o1 os.length oc) ∧ w'.cell? ⟨w, 4, none⟩ = some (Value.slice l1 qs.length lc) ∧ w'.cell? ⟨w, 5, none⟩ = some (Value.slice f1 ds.length fc) ∧ w'.cell? ⟨w, 6, none⟩ = some (Value.slice (some ⟨b, off, none⟩) ls.length kc) ∧ w'.cell? ⟨w, 7, none⟩ = some (Value.int .i64 st) ∧ w'.cell? ⟨b, off + k * 5, none⟩ = some (Value.int .i64 a0) ∧ w'.cell? ⟨b, off + k * 5 + 1, none⟩ = some (Value.int .i64 a1) ∧ w'.cell? ⟨b, off + k * 5 + 2, none⟩ = some (Value.slice p2 x2.length c2) ∧ w'.cell? ⟨b, off + k * 5 + 3, none⟩ = some (Value.slice p3 x3.length c3) ∧ w'.cell? ⟨b, off + k * 5 + 4, none⟩ = some (Value.slice p4 x4.length c4)) (by kernel_rfl) ⟨p_B0_0, p_B0_1, p_B0_2, p_B0_3, p_B0_4, p_B0_5, p_B0_6, p_B0_7, p_X0, p_X1, p_X2, p_X3, p_X4⟩ (fun hHeld => ?_)
        clear p_B0_0 p_B0_1 p_B0_2 p_B0_3 p_B0_4 p_B0_5 p_B0_6 p_B0_7 p_X0 p_X1 p_X2 p_X3 p_X4
        have cdr : Below wr wr wr.drew := Ke (Eh _ _)
        replace B0 := zb cdr B0
        replace BX := zb cdr BX
        replace PU := zf Jj PU cdr
        replace d := zD d cdr
        clear cdr
        refine tQ (i := 0) ?_
        try simp only [Act.put, lA, lB, lC]
        refine tQ (i := 2) ?_
        try simp only [Act.put, lA, lB, lC]
        refine tQ (i := 3) ?_
        try simp only [Act.put, lA, lB, lC]
        refine tQ (i := 4) ?_
        try simp only [Act.put, lA, lB, lC]
        refine tQ (i := 5) ?_
        try simp only [Act.put, lA, lB, lC]
        refine tQ (i := 6) ?_
        try simp only [Act.put, lA, lB, lC]
        refine wpAnyH_ready (rs := [1, 7]) (by kernel_rfl) (by simp) ?_
        refine (AllReadyH.cons (o := _) (by simp only [hA, hB, hC]; rfl) (fun K hK => ?_) (AllReadyH.cons (o := _) (by simp only [hA, hB, hC]; rfl) (fun K hK => ?_) AllReadyH.nil))
        ·
         have p_BX_0 := (Uu (wr.drew) _ 0 _ _ _ BX.out).trans (show _ = some (Value.slice ua ss.length uc) from rfl)
         have p_BX_1 := cr 1 (Value.int .i64 now) BX.out
         have p_BX_2 := cr 2 (Value.int .i64 cu) BX.out
         have p_BX_3 := cr 3 (Value.slice ub os.length ud) BX.out
         have p_BX_4 := cr 4 (Value.slice va0 qs.length vc0) BX.out
         have p_BX_5 := cr 5 (Value.slice va1 ds.length vc1) BX.out
         have p_BX_6 := cr 6 (u) BX.out
         have p_BX_7 := cr 7 (Value.int .i64 st) BX.out
         go_simp
         clear p_BX_0 p_BX_1 p_BX_2 p_BX_3 p_BX_4 p_BX_5 p_BX_6 p_BX_7
         obtain ⟨p_B0_0, p_B0_1, p_B0_2, p_B0_3, p_B0_4, p_B0_5, p_B0_6, p_B0_7⟩ := Kh B0.out
         have p_X0 := cx d X0 BL
         have p_X1 := cx d X1 BL
         have p_X2 := cx d X2 BL
         have p_X3 := cx d X3 BL
         have p_X4 := cx d X4 BL
         refine hK.out _ _ ⟨p_B0_0, p_B0_1, p_B0_2, p_B0_3, p_B0_4, p_B0_5, p_B0_6, p_B0_7, p_X0, p_X1, p_X2, p_X3, p_X4⟩ (fun hHeld => ?_)
         clear p_B0_0 p_B0_1 p_B0_2 p_B0_3 p_B0_4 p_B0_5 p_B0_6 p_B0_7 p_X0 p_X1 p_X2 p_X3 p_X4
         clear hK K
         try simp only [Act.put, lA, lB, lC]
         refine rA 7 (fun K hK => ?_)
         go_simp
         refine (copy_l10Copy a0 a1 (.slice p2 x2.length c2) (.slice p3 x3.length c3) (.slice p4 x4.length c4) x2 x3 x4 (wr.drew) (Jc Jb G2.out d.out) (Jc Jb G3.out d.out) (Jc Jb G4.out d.out) M2.out M3.out M4.out).mono ?_
         rintro e W7 ⟨cs, rfl, ow, c⟩
         have kd := hd (show Below wr wr W7 from (Ke (Eh wr.heap.size wr)).trans c)
         have OW : Hid (Jp.O W7 (fun b => wr.heap.size ≤ b) cs (a0, a1, x2, x3, x4)) := hd ow
         have ow2 := ow
         obtain ⟨u2, u3, u4, E2, E3, E4, rfl, o2, o3, o4, _, _, _, _, _, _⟩ := tCharge_O ow2
         obtain ⟨ua2, uc2, rfl⟩ := Js o2
         obtain ⟨ua3, uc3, rfl⟩ := Js o3
         obtain ⟨ua4, uc4, rfl⟩ := Js o4
         clear ow o2 o3 o4
         replace B0 := zb c B0
         replace BX := zb c BX
         replace PU := zf Jj PU c
         replace d := zD d c
         have Z_W7 := hd (show wr.heap.size ≤ W7.heap.size from c.size)
         clear c
         obtain ⟨p_B0_0, p_B0_1, p_B0_2, p_B0_3, p_B0_4, p_B0_5, p_B0_6, p_B0_7⟩ := Kh B0.out
         have p_X0 := cx d X0 BL
         have p_X1 := cx d X1 BL
         have p_X2 := cx d X2 BL
         have p_X3 := cx d X3 BL
         have p_X4 := cx d X4 BL
         refine hK.out _ _ ⟨p_B0_0, p_B0_1, p_B0_2, p_B0_3, p_B0_4, p_B0_5, p_B0_6, p_B0_7, p_X0, p_X1, p_X2, p_X3, p_X4⟩ (fun hHeld => ?_)
         clear p_B0_0 p_B0_1 p_B0_2 p_B0_3 p_B0_4 p_B0_5 p_B0_6 p_B0_7 p_X0 p_X1 p_X2 p_X3 p_X4
         clear hK K
         try simp only [Act.put, lA, lB, lC]
         refine rA 8 (fun K hK => ?_)
         go_simp
         have hal : Below W7 W7 (W7.alloc (.cells #[a0, a1, .slice ua2 x2.length uc2, .slice ua3 x3.length uc3, .slice ua4 x4.length uc4] 137)) := (Eh _ _).alloc (Ed _) _
         have KB0 := B0
         have KBX := BX
         have KPU := PU
         have Kd := d
         replace B0 := zb hal B0
         replace BX := zb hal BX
         replace d := zD d hal
         clear hal
         obtain ⟨p_B0_0, p_B0_1, p_B0_2, p_B0_3, p_B0_4, p_B0_5, p_B0_6, p_B0_7⟩ := Kh B0.out
         have p_X0 := cx d X0 BL
         have p_X1 := cx d X1 BL
         have p_X2 := cx d X2 BL
         have p_X3 := cx d X3 BL
         have p_X4 := cx d X4 BL
         refine hK.out _ _ ⟨p_B0_0, p_B0_1, p_B0_2, p_B0_3, p_B0_4, p_B0_5, p_B0_6, p_B0_7, p_X0, p_X1, p_X2, p_X3, p_X4⟩ (fun hHeld => ?_)
         clear p_B0_0 p_B0_1 p_B0_2 p_B0_3 p_B0_4 p_B0_5 p_B0_6 p_B0_7 p_X0 p_X1 p_X2 p_X3 p_X4
         clear hK K
         try simp only [Act.put, lA, lB, lC]
         refine rA 9 (fun K hK => ?_)
         refine Yp Jj info_T_Charge Tryz.underlying41 rfl rfl (.tmp 86) (.tmp 93) rfl (fun b => NB2 ≤ b) wr.heap.size _ (ls.take k) rfl KPU.out kd.out.size (fun b hb => by have m0 := YB.out; have m1 := YX.out; have m2 := YN.out; have m3 := YX2.out; have m4 := YNB0.out; have m5 := Zz0.out; have m6 := YNB1.out; have m7 := Zz1.out; have m8 := YNB2.out; have m9 := Z_wr.out; have m10 := Z_W7.out; omega) HKL.out [a0, a1, .slice ua2 x2.length uc2, .slice ua3 x3.length uc3, .slice ua4 x4.length uc4] (a0, a1, x2, x3, x4) OW.out (by simp [Value.oneCell']) 1 _ rfl rfl ?_
         intro v' W8 oN tN
         rw [HTK.out] at oN
         obtain ⟨na, nl, nc, rfl⟩ : ∃ (a : Option Addr) (n c : Nat), v' = .slice a n c := (by obtain ⟨a, c, e⟩ := Js oN; exact ⟨a, _, c, e⟩)
         have m0 := YB.out
         have m1 := YX.out
         have m2 := YN.out
         have m3 := YX2.out
         have m4 := YNB0.out
         have m5 := Zz0.out
         have m6 := YNB1.out
         have m7 := Zz1.out
         have m8 := YNB2.out
         have m9 := Z_wr.out
         have m10 := Z_W7.out
         replace B0 := zB tN KB0 (fun h => by have := h.1; omega)
         replace BX := zB tN KBX (fun h => by have := h.1; omega)
         replace d := hd (Jr Kd.out tN (fun b h => by have := h.1; omega) Kd.out.size)
         have ON := hd oN; have TN := hd tN
         clear oN tN m0 m1 m2 m3 m4 m5 m6 m7 m8 m9 m10
         obtain ⟨p_B0_0, p_B0_1, p_B0_2, p_B0_3, p_B0_4, p_B0_5, p_B0_6, p_B0_7⟩ := Kh B0.out
         have p_X0 := cx d X0 BL
         have p_X1 := cx d X1 BL
         have p_X2 := cx d X2 BL
         have p_X3 := cx d X3 BL
         have p_X4 := cx d X4 BL
         refine hK.out _ _ ⟨p_B0_0, p_B0_1, p_B0_2, p_B0_3, p_B0_4, p_B0_5, p_B0_6, p_B0_7, p_X0, p_X1, p_X2, p_X3, p_X4⟩ (fun hHeld => ?_)
         clear p_B0_0 p_B0_1 p_B0_2 p_B0_3 p_B0_4 p_B0_5 p_B0_6 p_B0_7 p_X0 p_X1 p_X2 p_X3 p_X4
         clear hK K
         try simp only [Act.put, lA, lB, lC]
         refine tQ (i := 10) ?_
         try simp only [Act.put, lA, lB, lC]
         refine rA 11 (fun K hK => ?_)
         have cp_BX_0 := Kh BX.out
         have f_BX_0 := Ut W8 _ 0 _ _ BX.out
         have f_BX_1 := Ut W8 _ 1 _ _ BX.out
         have f_BX_2 := Ut W8 _ 2 _ _ BX.out
         have f_BX_3 := Ut W8 _ 3 _ _ BX.out
         have f_BX_4 := Ut W8 _ 4 _ _ BX.out
         have f_BX_5 := Ut W8 _ 5 _ _ BX.out
         have f_BX_6 := Ut W8 _ 6 _ _ BX.out
         have f_BX_7 := Ut W8 _ 7 _ _ BX.out
         go_simp
         clear cp_BX_0 f_BX_0 f_BX_1 f_BX_2 f_BX_3 f_BX_4 f_BX_5 f_BX_6 f_BX_7
         have m0 := YB.out
         have m1 := YX.out
         have m2 := YN.out
         have m3 := YX2.out
         have m4 := YNB0.out
         have m5 := Zz0.out
         have m6 := YNB1.out
         have m7 := Zz1.out
         have m8 := YNB2.out
         have m9 := Z_wr.out
         have m10 := Z_W7.out
         have tf : Jy (fun b => b = bx) W8 (W8.setCell ⟨bx, 6, none⟩ (.slice na nl nc)) := Jh (G := fun b => b = bx) (g := bx) (j := 6) (u := .slice na nl nc) rfl
         have rf := Uv W8 bx 6 _ _ (.slice na nl nc) BX.out
         simp at rf
         have oF := Ju Jj ON.out tf (fun b h1 h2 => by omega)
         have TF : Hid (Jy (fun b => b = bx) Wz1 (W8.setCell ⟨bx, 6, none⟩ (.slice na nl nc))) := hd ⟨tf.os.trans (TN.out.os.trans (kd.out.os.trans TW.out.os)), tf.tape.trans (TN.out.tape.trans (kd.out.tape.trans TW.out.tape)), tf.output.trans (TN.out.output.trans (kd.out.output.trans TW.out.output)), Nat.le_trans TW.out.size (Nat.le_trans kd.out.size (Nat.le_trans TN.out.size tf.size)), fun j hj hn => by have h0 := TW.out.size; have h1 := kd.out.size; have h2 := TN.out.size; have hb := YNB2.out; exact (tf.block j (by omega) hn).trans ((TN.out.block j (by omega) (fun h => by have h3 := h.1; omega)).trans ((kd.out.block j (by omega)).trans (TW.out.block j hj hn)))⟩
         replace B0 := zB tf B0 (fun h => by omega)
         replace d := hd (Jr d.out tf (fun b h => by omega) d.out.size)
         have OF := hd oF; have RF := hd rf
         clear BX oF tf rf m0 m1 m2 m3 m4 m5 m6 m7 m8 m9 m10
         generalize (W8.setCell ⟨bx, 6, none⟩ (.slice na nl nc)) = W9 at *
         have BX := RF
         obtain ⟨p_B0_0, p_B0_1, p_B0_2, p_B0_3, p_B0_4, p_B0_5, p_B0_6, p_B0_7⟩ := Kh B0.out
         have p_X0 := cx d X0 BL
         have p_X1 := cx d X1 BL
         have p_X2 := cx d X2 BL
         have p_X3 := cx d X3 BL
         have p_X4 := cx d X4 BL
         refine hK.out _ _ ⟨p_B0_0, p_B0_1, p_B0_2, p_B0_3, p_B0_4, p_B0_5, p_B0_6, p_B0_7, p_X0, p_X1, p_X2, p_X3, p_X4⟩ (fun hHeld => ?_)
         clear p_B0_0 p_B0_1 p_B0_2 p_B0_3 p_B0_4 p_B0_5 p_B0_6 p_B0_7 p_X0 p_X1 p_X2 p_X3 p_X4
         clear hK K
         try simp only [Act.put, lA, lB, lC]
         refine wpAnyH_done (by kernel_rfl) ?_ _
         clear hHeld
         go_wp2
         go_roundw
         case rel => exact ⟨k + 1, _, by omega, by go_num, RF, OF, TF.out⟩
         case measure => simp [intOf]; omega
        ·
         go_simp
         refine (copy_l10Copy a0 a1 (.slice p2 x2.length c2) (.slice p3 x3.length c3) (.slice p4 x4.length c4) x2 x3 x4 (wr.drew) (Jc Jb G2.out d.out) (Jc Jb G3.out d.out) (Jc Jb G4.out d.out) M2.out M3.out M4.out).mono ?_
         rintro e W7 ⟨cs, rfl, ow, c⟩
         have kd := hd (show Below wr wr W7 from (Ke (Eh wr.heap.size wr)).trans c)
         have OW : Hid (Jp.O W7 (fun b => wr.heap.size ≤ b) cs (a0, a1, x2, x3, x4)) := hd ow
         have ow2 := ow
         obtain ⟨u2, u3, u4, E2, E3, E4, rfl, o2, o3, o4, _, _, _, _, _, _⟩ := tCharge_O ow2
         obtain ⟨ua2, uc2, rfl⟩ := Js o2
         obtain ⟨ua3, uc3, rfl⟩ := Js o3
         obtain ⟨ua4, uc4, rfl⟩ := Js o4
         clear ow o2 o3 o4
         replace B0 := zb c B0
         replace BX := zb c BX
         replace PU := zf Jj PU c
         replace d := zD d c
         have Z_W7 := hd (show wr.heap.size ≤ W7.heap.size from c.size)
         clear c
         obtain ⟨p_B0_0, p_B0_1, p_B0_2, p_B0_3, p_B0_4, p_B0_5, p_B0_6, p_B0_7⟩ := Kh B0.out
         have p_X0 := cx d X0 BL
         have p_X1 := cx d X1 BL
         have p_X2 := cx d X2 BL
         have p_X3 := cx d X3 BL
         have p_X4 := cx d X4 BL
         refine hK.out _ _ ⟨p_B0_0, p_B0_1, p_B0_2, p_B0_3, p_B0_4, p_B0_5, p_B0_6, p_B0_7, p_X0, p_X1, p_X2, p_X3, p_X4⟩ (fun hHeld => ?_)
         clear p_B0_0 p_B0_1 p_B0_2 p_B0_3 p_B0_4 p_B0_5 p_B0_6 p_B0_7 p_X0 p_X1 p_X2 p_X3 p_X4
         clear hK K
         try simp only [Act.put, lA, lB, lC]
         refine wpAnyH_ready (rs := [1, 8]) (by kernel_rfl) (by simp) ?_
         refine (AllReadyH.cons (o := _) (by simp only [hA, hB, hC]; rfl) (fun K hK => ?_) (AllReadyH.cons (o := _) (by simp only [hA, hB, hC]; rfl) (fun K hK => ?_) AllReadyH.nil))
         ·
          have p_BX_0 := (Uu W7 _ 0 _ _ _ BX.out).trans (show _ = some (Value.slice ua ss.length uc) from rfl)
          have p_BX_1 := cr 1 (Value.int .i64 now) BX.out
          have p_BX_2 := cr 2 (Value.int .i64 cu) BX.out
          have p_BX_3 := cr 3 (Value.slice ub os.length ud) BX.out
          have p_BX_4 := cr 4 (Value.slice va0 qs.length vc0) BX.out
          have p_BX_5 := cr 5 (Value.slice va1 ds.length vc1) BX.out
          have p_BX_6 := cr 6 (u) BX.out
          have p_BX_7 := cr 7 (Value.int .i64 st) BX.out
          go_simp
          clear p_BX_0 p_BX_1 p_BX_2 p_BX_3 p_BX_4 p_BX_5 p_BX_6 p_BX_7
          obtain ⟨p_B0_0, p_B0_1, p_B0_2, p_B0_3, p_B0_4, p_B0_5, p_B0_6, p_B0_7⟩ := Kh B0.out
          have p_X0 := cx d X0 BL
          have p_X1 := cx d X1 BL
          have p_X2 := cx d X2 BL
          have p_X3 := cx d X3 BL
          have p_X4 := cx d X4 BL
          refine hK.out _ _ ⟨p_B0_0, p_B0_1, p_B0_2, p_B0_3, p_B0_4, p_B0_5, p_B0_6, p_B0_7, p_X0, p_X1, p_X2, p_X3, p_X4⟩ (fun hHeld => ?_)
          clear p_B0_0 p_B0_1 p_B0_2 p_B0_3 p_B0_4 p_B0_5 p_B0_6 p_B0_7 p_X0 p_X1 p_X2 p_X3 p_X4
          clear hK K
          try simp only [Act.put, lA, lB, lC]
          refine rA 8 (fun K hK => ?_)
          go_simp
          have hal : Below W7 W7 (W7.alloc (.cells #[a0, a1, .slice ua2 x2.length uc2, .slice ua3 x3.length uc3, .slice ua4 x4.length uc4] 137)) := (Eh _ _).alloc (Ed _) _
          have KB0 := B0
          have KBX := BX
          have KPU := PU
          have Kd := d
          replace B0 := zb hal B0
          replace BX := zb hal BX
          replace d := zD d hal
          clear hal
          obtain ⟨p_B0_0, p_B0_1, p_B0_2, p_B0_3, p_B0_4, p_B0_5, p_B0_6, p_B0_7⟩ := Kh B0.out
          have p_X0 := cx d X0 BL
          have p_X1 := cx d X1 BL
          have p_X2 := cx d X2 BL
          have p_X3 := cx d X3 BL
          have p_X4 := cx d X4 BL
          refine hK.out _ _ ⟨p_B0_0, p_B0_1, p_B0_2, p_B0_3, p_B0_4, p_B0_5, p_B0_6, p_B0_7, p_X0, p_X1, p_X2, p_X3, p_X4⟩ (fun hHeld => ?_)
          clear p_B0_0 p_B0_1 p_B0_2 p_B0_3 p_B0_4 p_B0_5 p_B0_6 p_B0_7 p_X0 p_X1 p_X2 p_X3 p_X4
          clear hK K
          try simp only [Act.put, lA, lB, lC]
          refine rA 9 (fun K hK => ?_)
          refine Yp Jj info_T_Charge Tryz.underlying41 rfl rfl (.tmp 86) (.tmp 93) rfl (fun b => NB2 ≤ b) wr.heap.size _ (ls.take k) rfl KPU.out kd.out.size (fun b hb => by have m0 := YB.out; have m1 := YX.out; have m2 := YN.out; have m3 := YX2.out; have m4 := YNB0.out; have m5 := Zz0.out; have m6 := YNB1.out; have m7 := Zz1.out; have m8 := YNB2.out; have m9 := Z_wr.out; have m10 := Z_W7.out; omega) HKL.out [a0, a1, .slice ua2 x2.length uc2, .slice ua3 x3.length uc3, .slice ua4 x4.length uc4] (a0, a1, x2, x3, x4) OW.out (by simp [Value.oneCell']) 1 _ rfl rfl ?_
          intro v' W8 oN tN
          rw [HTK.out] at oN
          obtain ⟨na, nl, nc, rfl⟩ : ∃ (a : Option Addr) (n c : Nat), v' = .slice a n c := (by obtain ⟨a, c, e⟩ := Js oN; exact ⟨a, _, c, e⟩)
          have m0 := YB.out
          have m1 := YX.out
          have m2 := YN.out
          have m3 := YX2.out
          have m4 := YNB0.out
          have m5 := Zz0.out
          have m6 := YNB1.out
          have m7 := Zz1.out
          have m8 := YNB2.out
          have m9 := Z_wr.out
          have m10 := Z_W7.out
          replace B0 := zB tN KB0 (fun h => by have := h.1; omega)
          replace BX := zB tN KBX (fun h => by have := h.1; omega)
          replace d := hd (Jr Kd.out tN (fun b h => by have := h.1; omega) Kd.out.size)
          have ON := hd oN; have TN := hd tN
          clear oN tN m0 m1 m2 m3 m4 m5 m6 m7 m8 m9 m10
          obtain ⟨p_B0_0, p_B0_1, p_B0_2, p_B0_3, p_B0_4, p_B0_5, p_B0_6, p_B0_7⟩ := Kh B0.out
          have p_X0 := cx d X0 BL
          have p_X1 := cx d X1 BL
          have p_X2 := cx d X2 BL
          have p_X3 := cx d X3 BL
          have p_X4 := cx d X4 BL
          refine hK.out _ _ ⟨p_B0_0, p_B0_1, p_B0_2, p_B0_3, p_B0_4, p_B0_5, p_B0_6, p_B0_7, p_X0, p_X1, p_X2, p_X3, p_X4⟩ (fun hHeld => ?_)
          clear p_B0_0 p_B0_1 p_B0_2 p_B0_3 p_B0_4 p_B0_5 p_B0_6 p_B0_7 p_X0 p_X1 p_X2 p_X3 p_X4
          clear hK K
          try simp only [Act.put, lA, lB, lC]
          refine tQ (i := 10) ?_
          try simp only [Act.put, lA, lB, lC]
          refine rA 11 (fun K hK => ?_)
          have cp_BX_0 := Kh BX.out
          have f_BX_0 := Ut W8 _ 0 _ _ BX.out
          have f_BX_1 := Ut W8 _ 1 _ _ BX.out
          have f_BX_2 := Ut W8 _ 2 _ _ BX.out
          have f_BX_3 := Ut W8 _ 3 _ _ BX.out
          have f_BX_4 := Ut W8 _ 4 _ _ BX.out
          have f_BX_5 := Ut W8 _ 5 _ _ BX.out
          have f_BX_6 := Ut W8 _ 6 _ _ BX.out
          have f_BX_7 := Ut W8 _ 7 _ _ BX.out
          go_simp
          clear cp_BX_0 f_BX_0 f_BX_1 f_BX_2 f_BX_3 f_BX_4 f_BX_5 f_BX_6 f_BX_7
          have m0 := YB.out
          have m1 := YX.out
          have m2 := YN.out
          have m3 := YX2.out
          have m4 := YNB0.out
          have m5 := Zz0.out
          have m6 := YNB1.out
          have m7 := Zz1.out
          have m8 := YNB2.out
          have m9 := Z_wr.out
          have m10 := Z_W7.out
          have tf : Jy (fun b => b = bx) W8 (W8.setCell ⟨bx, 6, none⟩ (.slice na nl nc)) := Jh (G := fun b => b = bx) (g := bx) (j := 6) (u := .slice na nl nc) rfl
          have rf := Uv W8 bx 6 _ _ (.slice na nl nc) BX.out
          simp at rf
          have oF := Ju Jj ON.out tf (fun b h1 h2 => by omega)
          have TF : Hid (Jy (fun b => b = bx) Wz1 (W8.setCell ⟨bx, 6, none⟩ (.slice na nl nc))) := hd ⟨tf.os.trans (TN.out.os.trans (kd.out.os.trans TW.out.os)), tf.tape.trans (TN.out.tape.trans (kd.out.tape.trans TW.out.tape)), tf.output.trans (TN.out.output.trans (kd.out.output.trans TW.out.output)), Nat.le_trans TW.out.size (Nat.le_trans kd.out.size (Nat.le_trans TN.out.size tf.size)), fun j hj hn => by have h0 := TW.out.size; have h1 := kd.out.size; have h2 := TN.out.size; have hb := YNB2.out; exact (tf.block j (by omega) hn).trans ((TN.out.block j (by omega) (fun h => by have h3 := h.1; omega)).trans ((kd.out.block j (by omega)).trans (TW.out.block j hj hn)))⟩
          replace B0 := zB tf B0 (fun h => by omega)
          replace d := hd (Jr d.out tf (fun b h => by omega) d.out.size)
          have OF := hd oF; have RF := hd rf
          clear BX oF tf rf m0 m1 m2 m3 m4 m5 m6 m7 m8 m9 m10
          generalize (W8.setCell ⟨bx, 6, none⟩ (.slice na nl nc)) = W9 at *
          have BX := RF
          obtain ⟨p_B0_0, p_B0_1, p_B0_2, p_B0_3, p_B0_4, p_B0_5, p_B0_6, p_B0_7⟩ := Kh B0.out
          have p_X0 := cx d X0 BL
          have p_X1 := cx d X1 BL
          have p_X2 := cx d X2 BL
          have p_X3 := cx d X3 BL
          have p_X4 := cx d X4 BL
          refine hK.out _ _ ⟨p_B0_0, p_B0_1, p_B0_2, p_B0_3, p_B0_4, p_B0_5, p_B0_6, p_B0_7, p_X0, p_X1, p_X2, p_X3, p_X4⟩ (fun hHeld => ?_)
          clear p_B0_0 p_B0_1 p_B0_2 p_B0_3 p_B0_4 p_B0_5 p_B0_6 p_B0_7 p_X0 p_X1 p_X2 p_X3 p_X4
          clear hK K
          try simp only [Act.put, lA, lB, lC]
          refine wpAnyH_done (by kernel_rfl) ?_ _
          clear hHeld
          go_wp2
          go_roundw
          case rel => exact ⟨k + 1, _, by omega, by go_num, RF, OF, TF.out⟩
          case measure => simp [intOf]; omega
         ·
          go_simp
          have hal : Below W7 W7 (W7.alloc (.cells #[a0, a1, .slice ua2 x2.length uc2, .slice ua3 x3.length uc3, .slice ua4 x4.length uc4] 137)) := (Eh _ _).alloc (Ed _) _
          have KB0 := B0
          have KBX := BX
          have KPU := PU
          have Kd := d
          replace B0 := zb hal B0
          replace BX := zb hal BX
          replace d := zD d hal
          clear hal
          obtain ⟨p_B0_0, p_B0_1, p_B0_2, p_B0_3, p_B0_4, p_B0_5, p_B0_6, p_B0_7⟩ := Kh B0.out
          have p_X0 := cx d X0 BL
          have p_X1 := cx d X1 BL
          have p_X2 := cx d X2 BL
          have p_X3 := cx d X3 BL
          have p_X4 := cx d X4 BL
          refine hK.out _ _ ⟨p_B0_0, p_B0_1, p_B0_2, p_B0_3, p_B0_4, p_B0_5, p_B0_6, p_B0_7, p_X0, p_X1, p_X2, p_X3, p_X4⟩ (fun hHeld => ?_)
          clear p_B0_0 p_B0_1 p_B0_2 p_B0_3 p_B0_4 p_B0_5 p_B0_6 p_B0_7 p_X0 p_X1 p_X2 p_X3 p_X4
          clear hK K
          try simp only [Act.put, lA, lB, lC]
          refine rA 1 (fun K hK => ?_)
          have cp_BX_0 := Kh BX.out
          go_simp
          clear cp_BX_0
          obtain ⟨p_B0_0, p_B0_1, p_B0_2, p_B0_3, p_B0_4, p_B0_5, p_B0_6, p_B0_7⟩ := Kh B0.out
          have p_X0 := cx d X0 BL
          have p_X1 := cx d X1 BL
          have p_X2 := cx d X2 BL
          have p_X3 := cx d X3 BL
          have p_X4 := cx d X4 BL
          refine hK.out _ _ ⟨p_B0_0, p_B0_1, p_B0_2, p_B0_3, p_B0_4, p_B0_5, p_B0_6, p_B0_7, p_X0, p_X1, p_X2, p_X3, p_X4⟩ (fun hHeld => ?_)
          clear p_B0_0 p_B0_1 p_B0_2 p_B0_3 p_B0_4 p_B0_5 p_B0_6 p_B0_7 p_X0 p_X1 p_X2 p_X3 p_X4
          clear hK K
          try simp only [Act.put, lA, lB, lC]
          refine rA 9 (fun K hK => ?_)
          refine Yp Jj info_T_Charge Tryz.underlying41 rfl rfl (.tmp 86) (.tmp 93) rfl (fun b => NB2 ≤ b) wr.heap.size _ (ls.take k) rfl KPU.out kd.out.size (fun b hb => by have m0 := YB.out; have m1 := YX.out; have m2 := YN.out; have m3 := YX2.out; have m4 := YNB0.out; have m5 := Zz0.out; have m6 := YNB1.out; have m7 := Zz1.out; have m8 := YNB2.out; have m9 := Z_wr.out; have m10 := Z_W7.out; omega) HKL.out [a0, a1, .slice ua2 x2.length uc2, .slice ua3 x3.length uc3, .slice ua4 x4.length uc4] (a0, a1, x2, x3, x4) OW.out (by simp [Value.oneCell']) 1 _ rfl rfl ?_
          intro v' W8 oN tN
          rw [HTK.out] at oN
          obtain ⟨na, nl, nc, rfl⟩ : ∃ (a : Option Addr) (n c : Nat), v' = .slice a n c := (by obtain ⟨a, c, e⟩ := Js oN; exact ⟨a, _, c, e⟩)
          have m0 := YB.out
          have m1 := YX.out
          have m2 := YN.out
          have m3 := YX2.out
          have m4 := YNB0.out
          have m5 := Zz0.out
          have m6 := YNB1.out
          have m7 := Zz1.out
          have m8 := YNB2.out
          have m9 := Z_wr.out
          have m10 := Z_W7.out
          replace B0 := zB tN KB0 (fun h => by have := h.1; omega)
          replace BX := zB tN KBX (fun h => by have := h.1; omega)
          replace d := hd (Jr Kd.out tN (fun b h => by have := h.1; omega) Kd.out.size)
          have ON := hd oN; have TN := hd tN
          clear oN tN m0 m1 m2 m3 m4 m5 m6 m7 m8 m9 m10
          obtain ⟨p_B0_0, p_B0_1, p_B0_2, p_B0_3, p_B0_4, p_B0_5, p_B0_6, p_B0_7⟩ := Kh B0.out
          have p_X0 := cx d X0 BL
          have p_X1 := cx d X1 BL
          have p_X2 := cx d X2 BL
          have p_X3 := cx d X3 BL
          have p_X4 := cx d X4 BL
          refine hK.out _ _ ⟨p_B0_0, p_B0_1, p_B0_2, p_B0_3, p_B0_4, p_B0_5, p_B0_6, p_B0_7, p_X0, p_X1, p_X2, p_X3, p_X4⟩ (fun hHeld => ?_)
          clear p_B0_0 p_B0_1 p_B0_2 p_B0_3 p_B0_4 p_B0_5 p_B0_6 p_B0_7 p_X0 p_X1 p_X2 p_X3 p_X4
          clear hK K
          try simp only [Act.put, lA, lB, lC]
          refine tQ (i := 10) ?_
          try simp only [Act.put, lA, lB, lC]
          refine rA 11 (fun K hK => ?_)
          have cp_BX_0 := Kh BX.out
          have f_BX_0 := Ut W8 _ 0 _ _ BX.out
          have f_BX_1 := Ut W8 _ 1 _ _ BX.out
          have f_BX_2 := Ut W8 _ 2 _ _ BX.out
          have f_BX_3 := Ut W8 _ 3 _ _ BX.out
          have f_BX_4 := Ut W8 _ 4 _ _ BX.out
          have f_BX_5 := Ut W8 _ 5 _ _ BX.out
          have f_BX_6 := Ut W8 _ 6 _ _ BX.out
          have f_BX_7 := Ut W8 _ 7 _ _ BX.out
          go_simp
          clear cp_BX_0 f_BX_0 f_BX_1 f_BX_2 f_BX_3 f_BX_4 f_BX_5 f_BX_6 f_BX_7
          have m0 := YB.out
          have m1 := YX.out
          have m2 := YN.out
          have m3 := YX2.out
          have m4 := YNB0.out
          have m5 := Zz0.out
          have m6 := YNB1.out
          have m7 := Zz1.out
          have m8 := YNB2.out
          have m9 := Z_wr.out
          have m10 := Z_W7.out
          have tf : Jy (fun b => b = bx) W8 (W8.setCell ⟨bx, 6, none⟩ (.slice na nl nc)) := Jh (G := fun b => b = bx) (g := bx) (j := 6) (u := .slice na nl nc) rfl
          have rf := Uv W8 bx 6 _ _ (.slice na nl nc) BX.out
          simp at rf
          have oF := Ju Jj ON.out tf (fun b h1 h2 => by omega)
          have TF : Hid (Jy (fun b => b = bx) Wz1 (W8.setCell ⟨bx, 6, none⟩ (.slice na nl nc))) := hd ⟨tf.os.trans (TN.out.os.trans (kd.out.os.trans TW.out.os)), tf.tape.trans (TN.out.tape.trans (kd.out.tape.trans TW.out.tape)), tf.output.trans (TN.out.output.trans (kd.out.output.trans TW.out.output)), Nat.le_trans TW.out.size (Nat.le_trans kd.out.size (Nat.le_trans TN.out.size tf.size)), fun j hj hn => by have h0 := TW.out.size; have h1 := kd.out.size; have h2 := TN.out.size; have hb := YNB2.out; exact (tf.block j (by omega) hn).trans ((TN.out.block j (by omega) (fun h => by have h3 := h.1; omega)).trans ((kd.out.block j (by omega)).trans (TW.out.block j hj hn)))⟩
          replace B0 := zB tf B0 (fun h => by omega)
          replace d := hd (Jr d.out tf (fun b h => by omega) d.out.size)
          have OF := hd oF; have RF := hd rf
          clear BX oF tf rf m0 m1 m2 m3 m4 m5 m6 m7 m8 m9 m10
          generalize (W8.setCell ⟨bx, 6, none⟩ (.slice na nl nc)) = W9 at *
          have BX := RF
          obtain ⟨p_B0_0, p_B0_1, p_B0_2, p_B0_3, p_B0_4, p_B0_5, p_B0_6, p_B0_7⟩ := Kh B0.out
          have p_X0 := cx d X0 BL
          have p_X1 := cx d X1 BL
          have p_X2 := cx d X2 BL
          have p_X3 := cx d X3 BL
          have p_X4 := cx d X4 BL
          refine hK.out _ _ ⟨p_B0_0, p_B0_1, p_B0_2, p_B0_3, p_B0_4, p_B0_5, p_B0_6, p_B0_7, p_X0, p_X1, p_X2, p_X3, p_X4⟩ (fun hHeld => ?_)
          clear p_B0_0 p_B0_1 p_B0_2 p_B0_3 p_B0_4 p_B0_5 p_B0_6 p_B0_7 p_X0 p_X1 p_X2 p_X3 p_X4
          clear hK K
          try simp only [Act.put, lA, lB, lC]
          refine wpAnyH_done (by kernel_rfl) ?_ _
          clear hHeld
          go_wp2
          go_roundw
          case rel => exact ⟨k + 1, _, by omega, by go_num, RF, OF, TF.out⟩
          case measure => simp [intOf]; omega
       ·
        obtain rfl : k = ls.length := by omega
        rw [List.take_length] at PU
        have hln := PU.out
        obtain ⟨va2, vc2, hln2⟩ := Js hln
        clear hln
        subst hln2
        have PL2 := PU
        have QL2 : Hid (∀ b, (NB2 ≤ b ∧ b < wr.heap.size) → NB2 ≤ b ∧ b < wr.heap.size) := hd (fun b h => h)
        clear PU QU TW hk hlt
        obtain ⟨p_B0_0, p_B0_1, p_B0_2, p_B0_3, p_B0_4, p_B0_5, p_B0_6, p_B0_7⟩ := Kh B0.out
        obtain ⟨p_B1_0, p_B1_1, p_B1_2, p_B1_3, p_B1_4, p_B1_5, p_B1_6, p_B1_7⟩ := Kh B1.out
        obtain ⟨p_BX_0, p_BX_1, p_BX_2, p_BX_3, p_BX_4, p_BX_5, p_BX_6, p_BX_7⟩ := Kh BX.out
        have f_B1_0 := Ut wr _ 0 _ _ B1.out
        have f_B1_1 := Ut wr _ 1 _ _ B1.out
        have f_B1_2 := Ut wr _ 2 _ _ B1.out
        have f_B1_3 := Ut wr _ 3 _ _ B1.out
        have f_B1_4 := Ut wr _ 4 _ _ B1.out
        have f_B1_5 := Ut wr _ 5 _ _ B1.out
        have f_B1_6 := Ut wr _ 6 _ _ B1.out
        have f_B1_7 := Ut wr _ 7 _ _ B1.out
        have tt := ts8 wr (w.heap.size + 1) (.slice ua ss.length uc) (.int .i64 now) (.int .i64 cu) (.slice ub os.length ud) (.slice va0 qs.length vc0) (.slice va1 ds.length vc1) (.slice va2 ls.length vc2) (.int .i64 st)
        have r := st8 B1.out (.slice ua ss.length uc) (.int .i64 now) (.int .i64 cu) (.slice ub os.length ud) (.slice va0 qs.length vc0) (.slice va1 ds.length vc1) (.slice va2 ls.length vc2) (.int .i64 st)
        try simp at r
        have e0 := cr 0 (Value.slice ua ss.length uc) r
        have e1 := cr 1 (Value.int .i64 now) r
        have e2 := cr 2 (Value.int .i64 cu) r
        have e3 := cr 3 (Value.slice ub os.length ud) r
        have e4 := cr 4 (Value.slice va0 qs.length vc0) r
        have e5 := cr 5 (Value.slice va1 ds.length vc1) r
        have e6 := cr 6 (Value.slice va2 ls.length vc2) r
        have e7 := cr 7 (Value.int .i64 st) r
        have y0 := YB.out
        have y1 := YX.out
        have y2 := YN.out
        have y3 := YX2.out
        have y4 := YNB0.out
        have y5 := Zz0.out
        have y6 := YNB1.out
        have y7 := Zz1.out
        have y8 := YNB2.out
        have y9 := Z_wr.out
        have PFP0 := zt Jd P0 tt (fun b h1 h2 => by have r1 := Q0.out b h1; omega)
        have PFP3 := zt Jb P3 tt (fun b h1 h2 => by have r1 := Q3.out b h1; omega)
        have PFPL0 := zt Ji PL0 tt (fun b h1 h2 => by have r1 := QL0.out b h1; omega)
        have PFPL1 := zt Jg PL1 tt (fun b h1 h2 => by have r1 := QL1.out b h1; omega)
        have PFPL2 := zt Jj PL2 tt (fun b h1 h2 => by have r1 := QL2.out b h1; omega)
        have DF := hd (Jr d.out tt (fun b h => by omega) d.out.size)
        clear tt r y0 y1 y2 y3 y4 y5 y6 y7 y8 y9
        go_wp2
        refine bodyPost_ret (v := .agg #[.slice ua ss.length uc, .int .i64 now, .int .i64 cu, .slice ub os.length ud, .slice va0 qs.length vc0, .slice va1 ds.length vc1, .slice va2 ls.length vc2, .int .i64 st]) ?_ rfl ⟨[.slice ua ss.length uc, .int .i64 now, .int .i64 cu, .slice ub os.length ud, .slice va0 qs.length vc0, .slice va1 ds.length vc1, .slice va2 ls.length vc2, .int .i64 st], rfl, tEngine_mkO PFP0.out PFP3.out PFPL0.out PFPL1.out PFPL2.out (fun b h => by have r1 := Q0.out b h; have y0 := YB.out; have y1 := YX.out; have y2 := YN.out; have y3 := YX2.out; have y4 := YNB0.out; have y5 := Zz0.out; have y6 := YNB1.out; have y7 := Zz1.out; have y8 := YNB2.out; have y9 := Z_wr.out; show w.heap.size ≤ b; omega) (fun b h => by have r1 := Q3.out b h; have y0 := YB.out; have y1 := YX.out; have y2 := YN.out; have y3 := YX2.out; have y4 := YNB0.out; have y5 := Zz0.out; have y6 := YNB1.out; have y7 := Zz1.out; have y8 := YNB2.out; have y9 := Z_wr.out; show w.heap.size ≤ b; omega) (fun b h => by have r1 := QL0.out b h; have y0 := YB.out; have y1 := YX.out; have y2 := YN.out; have y3 := YX2.out; have y4 := YNB0.out; have y5 := Zz0.out; have y6 := YNB1.out; have y7 := Zz1.out; have y8 := YNB2.out; have y9 := Z_wr.out; show w.heap.size ≤ b; omega) (fun b h => by have r1 := QL1.out b h; have y0 := YB.out; have y1 := YX.out; have y2 := YN.out; have y3 := YX2.out; have y4 := YNB0.out; have y5 := Zz0.out; have y6 := YNB1.out; have y7 := Zz1.out; have y8 := YNB2.out; have y9 := Z_wr.out; show w.heap.size ≤ b; omega) (fun b h => by have r1 := QL2.out b h; have y0 := YB.out; have y1 := YX.out; have y2 := YN.out; have y3 := YX2.out; have y4 := YNB0.out; have y5 := Zz0.out; have y6 := YNB1.out; have y7 := Zz1.out; have y8 := YNB2.out; have y9 := Z_wr.out; show w.heap.size ≤ b; omega) DJ.out (fun b h1 h2 => by have r1 := Q0.out b h1; have r2 := QL0.out b h2; have y0 := YB.out; have y1 := YX.out; have y2 := YN.out; have y3 := YX2.out; have y4 := YNB0.out; have y5 := Zz0.out; have y6 := YNB1.out; have y7 := Zz1.out; have y8 := YNB2.out; have y9 := Z_wr.out; omega) (fun b h1 h2 => by have r1 := Q0.out b h1; have r2 := QL1.out b h2; have y0 := YB.out; have y1 := YX.out; have y2 := YN.out; have y3 := YX2.out; have y4 := YNB0.out; have y5 := Zz0.out; have y6 := YNB1.out; have y7 := Zz1.out; have y8 := YNB2.out; have y9 := Z_wr.out; omega) (fun b h1 h2 => by have r1 := Q0.out b h1; have r2 := QL2.out b h2; have y0 := YB.out; have y1 := YX.out; have y2 := YN.out; have y3 := YX2.out; have y4 := YNB0.out; have y5 := Zz0.out; have y6 := YNB1.out; have y7 := Zz1.out; have y8 := YNB2.out; have y9 := Z_wr.out; omega) (fun b h1 h2 => by have r1 := Q3.out b h1; have r2 := QL0.out b h2; have y0 := YB.out; have y1 := YX.out; have y2 := YN.out; have y3 := YX2.out; have y4 := YNB0.out; have y5 := Zz0.out; have y6 := YNB1.out; have y7 := Zz1.out; have y8 := YNB2.out; have y9 := Z_wr.out; omega) (fun b h1 h2 => by have r1 := Q3.out b h1; have r2 := QL1.out b h2; have y0 := YB.out; have y1 := YX.out; have y2 := YN.out; have y3 := YX2.out; have y4 := YNB0.out; have y5 := Zz0.out; have y6 := YNB1.out; have y7 := Zz1.out; have y8 := YNB2.out; have y9 := Z_wr.out; omega) (fun b h1 h2 => by have r1 := Q3.out b h1; have r2 := QL2.out b h2; have y0 := YB.out; have y1 := YX.out; have y2 := YN.out; have y3 := YX2.out; have y4 := YNB0.out; have y5 := Zz0.out; have y6 := YNB1.out; have y7 := Zz1.out; have y8 := YNB2.out; have y9 := Z_wr.out; omega) (fun b h1 h2 => by have r1 := QL0.out b h1; have r2 := QL1.out b h2; have y0 := YB.out; have y1 := YX.out; have y2 := YN.out; have y3 := YX2.out; have y4 := YNB0.out; have y5 := Zz0.out; have y6 := YNB1.out; have y7 := Zz1.out; have y8 := YNB2.out; have y9 := Z_wr.out; omega) (fun b h1 h2 => by have r1 := QL0.out b h1; have r2 := QL2.out b h2; have y0 := YB.out; have y1 := YX.out; have y2 := YN.out; have y3 := YX2.out; have y4 := YNB0.out; have y5 := Zz0.out; have y6 := YNB1.out; have y7 := Zz1.out; have y8 := YNB2.out; have y9 := Z_wr.out; omega) (fun b h1 h2 => by have r1 := QL1.out b h1; have r2 := QL2.out b h2; have y0 := YB.out; have y1 := YX.out; have y2 := YN.out; have y3 := YX2.out; have y4 := YNB0.out; have y5 := Zz0.out; have y6 := YNB1.out; have y7 := Zz1.out; have y8 := YNB2.out; have y9 := Z_wr.out; omega), DF.out⟩
        simp [results, Tryz.f37, go_sem, e0, e1, e2, e3, e4, e5, e6, e7]
end Go.Proofs.YtcolddalajoheaaGreatDoor
