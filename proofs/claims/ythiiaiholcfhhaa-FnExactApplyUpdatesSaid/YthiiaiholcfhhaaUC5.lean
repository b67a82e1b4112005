/-
 Texts of the proof, merged: UpdSpec4, UpdSpec1, Rec, RecLim, RecEq, RowIsP, VerP1, VerP2, VerP3, VerP4.
-/
import Derived.Test.YthiiaiholcfhhaaUC1
import Derived.Test.YthiiaiholcfhhaaUC2
import Derived.Test.YthiiaiholcfhhaaUC3
import Derived.Test.YthiiaiholcfhhaaUC4
import Derived.Laws.CopyOwn
import Derived.Lib.MinMax
import Derived.Laws.StructEq
namespace Go.Proofs.Ythiiaiholcfhhaa
open Go.RowKit
set_option linter.unusedVariables false
set_option linter.unusedSimpArgs false
set_option maxHeartbeats 16000000 in
set_option maxRecDepth 100000 in
theorem specCopy (v : Value) (ss : List (List VerD)) (now : Int) (w : World) (h : SlR tVersionS w v ss) (hs : zL tVersionS ss ≤ 1048576) :
  Calls Try.prog 48 #[.agg #[v, .int .i64 now]] w (FreshT tStore (fun cs => .agg cs.toArray) w (ss, now)) := by
 have hlen := zL_len hs
 have HS := Lib.hid hs
 obtain ⟨a, cap, rfl⟩ := slR_len h
 have d0 := Lib.hid (show Below w.heap.size w (((w.alloc (.cells #[.slice a ss.length cap, .int .i64 now] 41)).alloc (.cells #[.slice none 0 0, .int .i64 0] 41)).alloc (.cells #[.slice none 0 0, .int .i64 now] 41)) from (((Below.refl _ _).alloc (Nat.le_refl _) _).alloc (by simp <;> omega) _).alloc (by simp <;> omega) _)
 have k0 : (((w.alloc (.cells #[.slice a ss.length cap, .int .i64 now] 41)).alloc (.cells #[.slice none 0 0, .int .i64 0] 41)).alloc (.cells #[.slice none 0 0, .int .i64 now] 41)).heap[w.heap.size]? = some (.cells #[.slice a ss.length cap, .int .i64 now] 41 (0, 0)) := by
  rw [Below.heap_alloc _ _ _ (by simp <;> omega), Below.heap_alloc _ _ _ (by simp)]; exact heap_alloc_new w _
 have k1 : (((w.alloc (.cells #[.slice a ss.length cap, .int .i64 now] 41)).alloc (.cells #[.slice none 0 0, .int .i64 0] 41)).alloc (.cells #[.slice none 0 0, .int .i64 now] 41)).heap[w.heap.size + 1]? = some (.cells #[.slice none 0 0, .int .i64 0] 41 (0, 0)) := by
  rw [Below.heap_alloc _ _ _ (by simp)]
  have := heap_alloc_new (w.alloc (.cells #[.slice a ss.length cap, .int .i64 now] 41)) (.cells #[.slice none 0 0, .int .i64 0] 41)
  simpa only [World.size_alloc] using this
 have k2 : (((w.alloc (.cells #[.slice a ss.length cap, .int .i64 now] 41)).alloc (.cells #[.slice none 0 0, .int .i64 0] 41)).alloc (.cells #[.slice none 0 0, .int .i64 now] 41)).heap[w.heap.size + 2]? = some (.cells #[.slice none 0 0, .int .i64 now] 41 (0, 0)) := by
  have := heap_alloc_new ((w.alloc (.cells #[.slice a ss.length cap, .int .i64 now] 41)).alloc (.cells #[.slice none 0 0, .int .i64 0] 41)) (.cells #[.slice none 0 0, .int .i64 now] 41)
  simpa only [World.size_alloc] using this
 have K0 := Lib.hid k0
 have K1 := Lib.hid k1
 have K2 := Lib.hid k2
 have YW : Hid (w.heap.size + 2 < (((w.alloc (.cells #[.slice a ss.length cap, .int .i64 now] 41)).alloc (.cells #[.slice none 0 0, .int .i64 0] 41)).alloc (.cells #[.slice none 0 0, .int .i64 now] 41)).heap.size) := Lib.hid (by simp)
 have H := Lib.hid h
 clear h hs k0 k1 k2
 go_enter Try.func48, Try.ntmps48
 go_wp2
 generalize (((w.alloc (.cells #[.slice a ss.length cap, .int .i64 now] 41)).alloc (.cells #[.slice none 0 0, .int .i64 0] 41)).alloc (.cells #[.slice none 0 0, .int .i64 now] 41)) = W at *
 go_loopw [4] (fun i wr => ∃ (k : Nat) (fv : Value), k ≤ ss.length ∧ i = .int .i64 k ∧ wr.heap[w.heap.size]? = some (.cells #[.slice a ss.length cap, .int .i64 now] 41 (0, 0)) ∧ wr.heap[w.heap.size + 1]? = some (.cells #[.slice none 0 0, .int .i64 0] 41 (0, 0)) ∧ wr.heap[w.heap.size + 2]? = some (.cells #[fv, .int .i64 now] 41 (0, 0)) ∧ SlO 89 tVersionS wr (fun q => w.heap.size + 2 < q) fv (ss.take k) ∧ Below w.heap.size w wr ∧ w.heap.size + 2 < wr.heap.size) (fun i _ => ss.length - (intOf i).toNat)
 case atStart => exact ⟨0, .slice none 0 0, Nat.zero_le _, rfl, K0.out, K1.out, K2.out, slO_nil _ _ _ _, d0.out, YW.out⟩
 case round =>
  obtain ⟨k, fv, hk, rfl, r0, r1, r2, hown, hbel, hsz⟩ := hrel
  have hfl : (ss.take k).length = k := by rw [List.length_take]; omega
  obtain ⟨fa, fc, rfl⟩ := slO_len hown
  by_cases hlt : k < ss.length
  ·
   have i1 : (0 : Int) ≤ (k : Int) := by omega
   have i2 : (k : Int) < (ss.length : Int) := by omega
   obtain ⟨b, off, cap', cs, hv, hbl, hcs, hR⟩ := slR_at H.out hlt
   simp only [Value.slice.injEq] at hv
   obtain ⟨rfl, _, rfl⟩ := hv
   obtain ⟨u, rfl, hU⟩ := hR
   change SlR tVersion w u (ss.getD k []) at hU
   have pe : w.cell? ⟨b, off + k, none⟩ = some u := by have := hcs 0 Nat.one_pos; rw [show tVersionS.n = 1 from rfl, Nat.mul_one, Nat.add_zero] at this; exact this
   have hzl : zL tVersion (ss.getD k []) ≤ 1048576 := Nat.le_trans (zL_seg hlt) HS.out
   obtain ⟨ua, uc, rfl⟩ := slR_len hU
   have HC := Lib.hid (fun w h => specPart (.slice ua (ss.getD k []).length uc) (ss.getD k []) w h hzl)
   have HTK : Hid (ss.take k ++ [ss.getD k []] = ss.take (k + 1)) := Lib.hid (by rw [List.take_succ_eq_append_getElem hlt]; simp [List.getD, hlt])
   have HTL : Hid ((ss.take (k + 1)).length = k + 1) := Lib.hid (by rw [List.length_take]; omega)
   have HYL : Hid ((ss.take k).length ≤ 1048576) := Lib.hid (by omega)
   have HU := Lib.hid hU
   have C0 := Lib.hid pe
   have HBL := Lib.hid hbl
   have B0 := Lib.hid r0
   have BZ := Lib.hid r1
   have BX := Lib.hid r2
   have PF := Lib.hid (slO_lt tVersionS_law hown)
   have QF := Lib.hid (fun q (h : w.heap.size + 2 < q ∧ q < wr.heap.size) => h)
   have d := Lib.hid hbel
   have ZR := Lib.hid hsz
   have q0 := (cell_of_row wr _ 0 _ _ _ r0).trans (show _ = some (Value.slice (some ⟨b, off, none⟩) ss.length cap) from rfl)
   clear hcs pe hU hzl hbl r0 r1 r2 hown hbel hsz hfl
   generalize ss.getD k [] = l at *
   generalize ss.take k = ys at *
   go_wp2
   clear q0
   have p_B0_0 := (cell_of_row wr _ 0 _ _ _ B0.out).trans (show _ = some (Value.slice (some ⟨b, off, none⟩) ss.length cap) from rfl)
   have p_B0_1 := (cell_of_row wr _ 1 _ _ _ B0.out).trans (show _ = some (Value.int .i64 now) from rfl)
   have p_C0 := (d.out.cell (p := ⟨b, off + k, none⟩) HBL.out).trans C0.out
   refine wp_region_held_drew (S := fun w' => w'.cell? ⟨w.heap.size, 0, none⟩ = some (Value.slice (some ⟨b, off, none⟩) ss.length cap) ∧ w'.cell? ⟨w.heap.size, 1, none⟩ = some (Value.int .i64 now) ∧ w'.cell? ⟨b, off + k, none⟩ = some (Value.slice ua l.length uc)) (by kernel_rfl) ⟨p_B0_0, p_B0_1, p_C0⟩ (fun hHeld => ?_)
   clear p_B0_0 p_B0_1 p_C0
   have cdr : Below wr.heap.size wr wr.drew := below_drew (Below.refl _ _)
   replace B0 := Lib.hid ((cdr.block w.heap.size (Array.getElem?_eq_some_iff.1 B0.out).1).trans B0.out)
   replace BZ := Lib.hid ((cdr.block (w.heap.size + 1) (Array.getElem?_eq_some_iff.1 BZ.out).1).trans BZ.out)
   replace BX := Lib.hid ((cdr.block (w.heap.size + 2) (Array.getElem?_eq_some_iff.1 BX.out).1).trans BX.out)
   replace PF := Lib.hid (slO_fresh tVersionS_law PF.out cdr)
   replace d := Lib.hid (d.out.trans (cdr.mono d.out.size))
   clear cdr
   have Z_dr := Lib.hid (show wr.heap.size ≤ wr.drew.heap.size from Nat.le_refl _)
   generalize wr.drew = Wd at *
   refine tR (i := 0) (v := ?_) ?_ ?_; rotate_left
   ·
    intro w hSw; (try dsimp only at hSw); go_simp; try (with_reducible rfl)
   try simp only [Act.put, lA, lB, lC]
   refine tR (i := 2) (v := ?_) ?_ ?_; rotate_left
   ·
    intro w hSw; (try dsimp only at hSw); go_simp; try (with_reducible rfl)
   try simp only [Act.put, lA, lB, lC]
   refine tR (i := 3) (v := ?_) ?_ ?_; rotate_left
   ·
    intro w hSw; (try dsimp only at hSw); go_simp; try (with_reducible rfl)
   try simp only [Act.put, lA, lB, lC]
   refine tR (i := 4) (v := ?_) ?_ ?_; rotate_left
   ·
    intro w hSw; (try dsimp only at hSw); go_simp; try (with_reducible rfl)
   try simp only [Act.put, lA, lB, lC]
   refine tR (i := 5) (v := ?_) ?_ ?_; rotate_left
   ·
    intro w hSw; (try dsimp only at hSw); go_simp; try (with_reducible rfl)
   try simp only [Act.put, lA, lB, lC]
   refine tR (i := 6) (v := ?_) ?_ ?_; rotate_left
   ·
    intro w hSw; (try dsimp only at hSw); go_simp; try (with_reducible rfl)
   try simp only [Act.put, lA, lB, lC]
   refine wpAnyH_ready (rs := [1, 7]) (by kernel_rfl) (by simp) ?_
   refine (AllReadyH.cons (o := _) (by simp only [hA, hB, hC]; rfl) (fun K hK => ?_) (AllReadyH.cons (o := _) (by simp only [hA, hB, hC]; rfl) (fun K hK => ?_) AllReadyH.nil))
   ·
    have px := (cell_of_row Wd _ 0 _ _ _ BX.out).trans (show _ = some (Value.slice fa ys.length fc) from rfl)
    go_simp
    clear px
    have p_B0_0 := (cell_of_row Wd _ 0 _ _ _ B0.out).trans (show _ = some (Value.slice (some ⟨b, off, none⟩) ss.length cap) from rfl)
    have p_B0_1 := (cell_of_row Wd _ 1 _ _ _ B0.out).trans (show _ = some (Value.int .i64 now) from rfl)
    have p_C0 := (d.out.cell (p := ⟨b, off + k, none⟩) HBL.out).trans C0.out
    refine hK.out _ _ ⟨p_B0_0, p_B0_1, p_C0⟩ (fun hHeld => ?_)
    clear p_B0_0 p_B0_1 p_C0
    clear hK K
    try simp only [Act.put, lA, lB, lC]
    refine wpAnyH_ready (rs := [7]) (by kernel_rfl) (by simp) ?_
    refine (AllReadyH.cons (o := _) (by simp only [hA, hB, hC]; rfl) (fun K hK => ?_) AllReadyH.nil)
    go_simp
    refine (HC.out Wd (slR_below tVersion_law HU.out d.out)).mono ?_
    rintro e w5 ⟨pv, rfl, op, c5⟩
    have ox : SlO 88 tVersion w5 (fun q => wr.heap.size ≤ q) pv l := slO_mono op (fun q hq => Nat.le_trans Z_dr.out hq)
    obtain ⟨pa, pc, rfl⟩ := slO_len ox
    have PX := Lib.hid ox
    replace B0 := Lib.hid ((c5.block w.heap.size (Array.getElem?_eq_some_iff.1 B0.out).1).trans B0.out)
    replace BZ := Lib.hid ((c5.block (w.heap.size + 1) (Array.getElem?_eq_some_iff.1 BZ.out).1).trans BZ.out)
    replace BX := Lib.hid ((c5.block (w.heap.size + 2) (Array.getElem?_eq_some_iff.1 BX.out).1).trans BX.out)
    replace PF := Lib.hid (slO_fresh tVersionS_law PF.out c5)
    replace d := Lib.hid (d.out.trans (c5.mono d.out.size))
    have Z_w5 := Lib.hid (show Wd.heap.size ≤ w5.heap.size from c5.size)
    have QX := Lib.hid (fun q (h : wr.heap.size ≤ q) => h)
    clear c5 op ox
    have p_B0_0 := (cell_of_row w5 _ 0 _ _ _ B0.out).trans (show _ = some (Value.slice (some ⟨b, off, none⟩) ss.length cap) from rfl)
    have p_B0_1 := (cell_of_row w5 _ 1 _ _ _ B0.out).trans (show _ = some (Value.int .i64 now) from rfl)
    have p_C0 := (d.out.cell (p := ⟨b, off + k, none⟩) HBL.out).trans C0.out
    refine hK.out _ _ ⟨p_B0_0, p_B0_1, p_C0⟩ (fun hHeld => ?_)
    clear p_B0_0 p_B0_1 p_C0
    clear hK K
    try simp only [Act.put, lA, lB, lC]
    refine wpAnyH_ready (rs := [8]) (by kernel_rfl) (by simp) ?_
    refine (AllReadyH.cons (o := _) (by simp only [hA, hB, hC]; rfl) (fun K hK => ?_) AllReadyH.nil)
    go_simp
    have hal : Below w5.heap.size w5 (w5.alloc (.cells #[.slice pa l.length pc] 89)) := (Below.refl _ _).alloc (Nat.le_refl _) _
    have KB0 := B0
    have KBZ := BZ
    have KBX := BX
    have KPF := PF
    have KPX := PX
    have Kd := d
    replace B0 := Lib.hid ((hal.block w.heap.size (Array.getElem?_eq_some_iff.1 B0.out).1).trans B0.out)
    replace BZ := Lib.hid ((hal.block (w.heap.size + 1) (Array.getElem?_eq_some_iff.1 BZ.out).1).trans BZ.out)
    replace BX := Lib.hid ((hal.block (w.heap.size + 2) (Array.getElem?_eq_some_iff.1 BX.out).1).trans BX.out)
    replace PF := Lib.hid (slO_fresh tVersionS_law PF.out hal)
    replace PX := Lib.hid (slO_fresh tVersion_law PX.out hal)
    replace d := Lib.hid (d.out.trans (hal.mono d.out.size))
    clear hal
    have p_B0_0 := (cell_of_row (w5.alloc (.cells #[.slice pa l.length pc] 89)) _ 0 _ _ _ B0.out).trans (show _ = some (Value.slice (some ⟨b, off, none⟩) ss.length cap) from rfl)
    have p_B0_1 := (cell_of_row (w5.alloc (.cells #[.slice pa l.length pc] 89)) _ 1 _ _ _ B0.out).trans (show _ = some (Value.int .i64 now) from rfl)
    have p_C0 := (d.out.cell (p := ⟨b, off + k, none⟩) HBL.out).trans C0.out
    refine hK.out _ _ ⟨p_B0_0, p_B0_1, p_C0⟩ (fun hHeld => ?_)
    clear p_B0_0 p_B0_1 p_C0
    clear hK K
    try simp only [Act.put, lA, lB, lC]
    refine wpAnyH_ready (rs := [9]) (by kernel_rfl) (by simp) ?_
    refine (AllReadyH.cons (o := _) (by simp only [hA, hB, hC]; rfl) (fun K hK => ?_) AllReadyH.nil)
    have y0 := ZR.out
    have y1 := Z_dr.out
    have y2 := Z_w5.out
    have yd := Kd.out.size
    have hD : wr.heap.size ≤ w5.heap.size := by omega
    refine step_append_T tVersionS_law info_T_VersionS Try.underlying39 rfl rfl (.tmp 16) (.tmp 23) rfl (fun q => w.heap.size + 2 < q) wr.heap.size _ ys rfl KPF.out hD (fun q hq => by show w.heap.size + 2 < q; omega) HYL.out [.slice pa l.length pc] l ⟨_, rfl, KPX.out⟩ (by simp [Value.oneCell']) 1 _ rfl rfl ?_
    intro v' w7 oN tN
    replace B0 := Lib.hid ((tN.block w.heap.size (Array.getElem?_eq_some_iff.1 KB0.out).1 (fun h => by have r : w.heap.size + 2 < w.heap.size := h.1; omega)).trans KB0.out)
    replace BZ := Lib.hid ((tN.block (w.heap.size + 1) (Array.getElem?_eq_some_iff.1 KBZ.out).1 (fun h => by have r : w.heap.size + 2 < (w.heap.size + 1) := h.1; omega)).trans KBZ.out)
    replace BX := Lib.hid ((tN.block (w.heap.size + 2) (Array.getElem?_eq_some_iff.1 KBX.out).1 (fun h => by have r : w.heap.size + 2 < (w.heap.size + 2) := h.1; omega)).trans KBX.out)
    replace d := Lib.hid (below_turn Kd.out tN (fun q hq => by have r : w.heap.size + 2 < q := hq.1; omega) yd)
    have zN := Lib.hid (show w5.heap.size ≤ w7.heap.size from tN.size)
    rw [HTK.out] at oN
    obtain ⟨na, nc, rfl⟩ := slO_len oN
    rw [HTL.out] at oN
    have PN := Lib.hid oN
    clear hD oN tN yd PF PX KB0 KBZ KBX KPF KPX Kd y0 y1 y2
    have p_B0_0 := (cell_of_row w7 _ 0 _ _ _ B0.out).trans (show _ = some (Value.slice (some ⟨b, off, none⟩) ss.length cap) from rfl)
    have p_B0_1 := (cell_of_row w7 _ 1 _ _ _ B0.out).trans (show _ = some (Value.int .i64 now) from rfl)
    have p_C0 := (d.out.cell (p := ⟨b, off + k, none⟩) HBL.out).trans C0.out
    refine hK.out _ _ ⟨p_B0_0, p_B0_1, p_C0⟩ (fun hHeld => ?_)
    clear p_B0_0 p_B0_1 p_C0
    clear hK K
    try simp only [Act.put, lA, lB, lC]
    refine tR (i := 10) (v := ?_) ?_ ?_; rotate_left
    ·
     intro w hSw; (try dsimp only at hSw); go_simp; try (with_reducible rfl)
    try simp only [Act.put, lA, lB, lC]
    refine wpAnyH_ready (rs := [11]) (by kernel_rfl) (by simp) ?_
    refine (AllReadyH.cons (o := _) (by simp only [hA, hB, hC]; rfl) (fun K hK => ?_) AllReadyH.nil)
    have px := (cell_of_row w7 _ 0 _ _ _ BX.out).trans (show _ = some (Value.slice fa ys.length fc) from rfl)
    have fx := frozen_of_row w7 _ 0 _ _ BX.out
    rw [HTL.out]
    go_simp
    clear px fx
    have tt : Turn (fun q => q = w.heap.size + 2) w7 (w7.setCell ⟨w.heap.size + 2, 0, none⟩ (.slice na (k + 1) nc)) := turn_set (G := fun q => q = w.heap.size + 2) (g := w.heap.size + 2) (j := 0) (u := .slice na (k + 1) nc) rfl
    have r := heap_setCell_same w7 (w.heap.size + 2) 0 _ _ (.slice na (k + 1) nc) BX.out
    simp at r
    have y0 := ZR.out
    have y1 := Z_dr.out
    have y2 := Z_w5.out
    have y3 := zN.out
    replace BX : Hid ((w7.setCell ⟨w.heap.size + 2, 0, none⟩ (.slice na (k + 1) nc)).heap[w.heap.size + 2]? = some (.cells #[.slice na (k + 1) nc, .int .i64 now] 41 (0, 0))) := Lib.hid r
    replace B0 := Lib.hid ((tt.block w.heap.size (Array.getElem?_eq_some_iff.1 B0.out).1 (fun h => by omega)).trans B0.out)
    replace BZ := Lib.hid ((tt.block (w.heap.size + 1) (Array.getElem?_eq_some_iff.1 BZ.out).1 (fun h => by omega)).trans BZ.out)
    replace PN := Lib.hid (slO_turn tVersionS_law PN.out tt (fun q h1 h2 => by have r1 : w.heap.size + 2 < q := h1; omega))
    replace d := Lib.hid (below_turn d.out tt (fun q h => by omega) d.out.size)
    have zM := Lib.hid (show w7.heap.size ≤ (w7.setCell ⟨w.heap.size + 2, 0, none⟩ (.slice na (k + 1) nc)).heap.size from tt.size)
    clear tt r y0 y1 y2 y3
    generalize (w7.setCell ⟨w.heap.size + 2, 0, none⟩ (.slice na (k + 1) nc)) = w8 at *
    have p_B0_0 := (cell_of_row w8 _ 0 _ _ _ B0.out).trans (show _ = some (Value.slice (some ⟨b, off, none⟩) ss.length cap) from rfl)
    have p_B0_1 := (cell_of_row w8 _ 1 _ _ _ B0.out).trans (show _ = some (Value.int .i64 now) from rfl)
    have p_C0 := (d.out.cell (p := ⟨b, off + k, none⟩) HBL.out).trans C0.out
    refine hK.out _ _ ⟨p_B0_0, p_B0_1, p_C0⟩ (fun hHeld => ?_)
    clear p_B0_0 p_B0_1 p_C0
    clear hK K
    try simp only [Act.put, lA, lB, lC]
    refine wpAnyH_done (by kernel_rfl) ?_ _
    clear hHeld
    have y0 := ZR.out
    have y1 := Z_dr.out
    have y2 := Z_w5.out
    have y3 := zN.out
    have y4 := zM.out
    have zz : w.heap.size + 2 < w8.heap.size := by omega
    have ZZ := Lib.hid zz
    clear zz y0 y1 y2 y3 y4
    go_wp2
    go_roundw
    case rel => exact ⟨k + 1, _, by omega, by go_num, B0.out, BZ.out, BX.out, PN.out, d.out, ZZ.out⟩
    case measure => simp [intOf]; omega
   ·
    go_simp
    refine (HC.out Wd (slR_below tVersion_law HU.out d.out)).mono ?_
    rintro e w5 ⟨pv, rfl, op, c5⟩
    have ox : SlO 88 tVersion w5 (fun q => wr.heap.size ≤ q) pv l := slO_mono op (fun q hq => Nat.le_trans Z_dr.out hq)
    obtain ⟨pa, pc, rfl⟩ := slO_len ox
    have PX := Lib.hid ox
    replace B0 := Lib.hid ((c5.block w.heap.size (Array.getElem?_eq_some_iff.1 B0.out).1).trans B0.out)
    replace BZ := Lib.hid ((c5.block (w.heap.size + 1) (Array.getElem?_eq_some_iff.1 BZ.out).1).trans BZ.out)
    replace BX := Lib.hid ((c5.block (w.heap.size + 2) (Array.getElem?_eq_some_iff.1 BX.out).1).trans BX.out)
    replace PF := Lib.hid (slO_fresh tVersionS_law PF.out c5)
    replace d := Lib.hid (d.out.trans (c5.mono d.out.size))
    have Z_w5 := Lib.hid (show Wd.heap.size ≤ w5.heap.size from c5.size)
    have QX := Lib.hid (fun q (h : wr.heap.size ≤ q) => h)
    clear c5 op ox
    have p_B0_0 := (cell_of_row w5 _ 0 _ _ _ B0.out).trans (show _ = some (Value.slice (some ⟨b, off, none⟩) ss.length cap) from rfl)
    have p_B0_1 := (cell_of_row w5 _ 1 _ _ _ B0.out).trans (show _ = some (Value.int .i64 now) from rfl)
    have p_C0 := (d.out.cell (p := ⟨b, off + k, none⟩) HBL.out).trans C0.out
    refine hK.out _ _ ⟨p_B0_0, p_B0_1, p_C0⟩ (fun hHeld => ?_)
    clear p_B0_0 p_B0_1 p_C0
    clear hK K
    try simp only [Act.put, lA, lB, lC]
    refine wpAnyH_ready (rs := [1, 8]) (by kernel_rfl) (by simp) ?_
    refine (AllReadyH.cons (o := _) (by simp only [hA, hB, hC]; rfl) (fun K hK => ?_) (AllReadyH.cons (o := _) (by simp only [hA, hB, hC]; rfl) (fun K hK => ?_) AllReadyH.nil))
    ·
     have px := (cell_of_row w5 _ 0 _ _ _ BX.out).trans (show _ = some (Value.slice fa ys.length fc) from rfl)
     go_simp
     clear px
     have p_B0_0 := (cell_of_row w5 _ 0 _ _ _ B0.out).trans (show _ = some (Value.slice (some ⟨b, off, none⟩) ss.length cap) from rfl)
     have p_B0_1 := (cell_of_row w5 _ 1 _ _ _ B0.out).trans (show _ = some (Value.int .i64 now) from rfl)
     have p_C0 := (d.out.cell (p := ⟨b, off + k, none⟩) HBL.out).trans C0.out
     refine hK.out _ _ ⟨p_B0_0, p_B0_1, p_C0⟩ (fun hHeld => ?_)
     clear p_B0_0 p_B0_1 p_C0
     clear hK K
     try simp only [Act.put, lA, lB, lC]
     refine wpAnyH_ready (rs := [8]) (by kernel_rfl) (by simp) ?_
     refine (AllReadyH.cons (o := _) (by simp only [hA, hB, hC]; rfl) (fun K hK => ?_) AllReadyH.nil)
     go_simp
     have hal : Below w5.heap.size w5 (w5.alloc (.cells #[.slice pa l.length pc] 89)) := (Below.refl _ _).alloc (Nat.le_refl _) _
     have KB0 := B0
     have KBZ := BZ
     have KBX := BX
     have KPF := PF
     have KPX := PX
     have Kd := d
     replace B0 := Lib.hid ((hal.block w.heap.size (Array.getElem?_eq_some_iff.1 B0.out).1).trans B0.out)
     replace BZ := Lib.hid ((hal.block (w.heap.size + 1) (Array.getElem?_eq_some_iff.1 BZ.out).1).trans BZ.out)
     replace BX := Lib.hid ((hal.block (w.heap.size + 2) (Array.getElem?_eq_some_iff.1 BX.out).1).trans BX.out)
     replace PF := Lib.hid (slO_fresh tVersionS_law PF.out hal)
     replace PX := Lib.hid (slO_fresh tVersion_law PX.out hal)
     replace d := Lib.hid (d.out.trans (hal.mono d.out.size))
     clear hal
     have p_B0_0 := (cell_of_row (w5.alloc (.cells #[.slice pa l.length pc] 89)) _ 0 _ _ _ B0.out).trans (show _ = some (Value.slice (some ⟨b, off, none⟩) ss.length cap) from rfl)
     have p_B0_1 := (cell_of_row (w5.alloc (.cells #[.slice pa l.length pc] 89)) _ 1 _ _ _ B0.out).trans (show _ = some (Value.int .i64 now) from rfl)
     have p_C0 := (d.out.cell (p := ⟨b, off + k, none⟩) HBL.out).trans C0.out
     refine hK.out _ _ ⟨p_B0_0, p_B0_1, p_C0⟩ (fun hHeld => ?_)
     clear p_B0_0 p_B0_1 p_C0
     clear hK K
     try simp only [Act.put, lA, lB, lC]
     refine wpAnyH_ready (rs := [9]) (by kernel_rfl) (by simp) ?_
     refine (AllReadyH.cons (o := _) (by simp only [hA, hB, hC]; rfl) (fun K hK => ?_) AllReadyH.nil)
     have y0 := ZR.out
     have y1 := Z_dr.out
     have y2 := Z_w5.out
     have yd := Kd.out.size
     have hD : wr.heap.size ≤ w5.heap.size := by omega
     refine step_append_T tVersionS_law info_T_VersionS Try.underlying39 rfl rfl (.tmp 16) (.tmp 23) rfl (fun q => w.heap.size + 2 < q) wr.heap.size _ ys rfl KPF.out hD (fun q hq => by show w.heap.size + 2 < q; omega) HYL.out [.slice pa l.length pc] l ⟨_, rfl, KPX.out⟩ (by simp [Value.oneCell']) 1 _ rfl rfl ?_
     intro v' w7 oN tN
     replace B0 := Lib.hid ((tN.block w.heap.size (Array.getElem?_eq_some_iff.1 KB0.out).1 (fun h => by have r : w.heap.size + 2 < w.heap.size := h.1; omega)).trans KB0.out)
     replace BZ := Lib.hid ((tN.block (w.heap.size + 1) (Array.getElem?_eq_some_iff.1 KBZ.out).1 (fun h => by have r : w.heap.size + 2 < (w.heap.size + 1) := h.1; omega)).trans KBZ.out)
     replace BX := Lib.hid ((tN.block (w.heap.size + 2) (Array.getElem?_eq_some_iff.1 KBX.out).1 (fun h => by have r : w.heap.size + 2 < (w.heap.size + 2) := h.1; omega)).trans KBX.out)
     replace d := Lib.hid (below_turn Kd.out tN (fun q hq => by have r : w.heap.size + 2 < q := hq.1; omega) yd)
     have zN := Lib.hid (show w5.heap.size ≤ w7.heap.size from tN.size)
     rw [HTK.out] at oN
     obtain ⟨na, nc, rfl⟩ := slO_len oN
     rw [HTL.out] at oN
     have PN := Lib.hid oN
     clear hD oN tN yd PF PX KB0 KBZ KBX KPF KPX Kd y0 y1 y2
     have p_B0_0 := (cell_of_row w7 _ 0 _ _ _ B0.out).trans (show _ = some (Value.slice (some ⟨b, off, none⟩) ss.length cap) from rfl)
     have p_B0_1 := (cell_of_row w7 _ 1 _ _ _ B0.out).trans (show _ = some (Value.int .i64 now) from rfl)
     have p_C0 := (d.out.cell (p := ⟨b, off + k, none⟩) HBL.out).trans C0.out
     refine hK.out _ _ ⟨p_B0_0, p_B0_1, p_C0⟩ (fun hHeld => ?_)
     clear p_B0_0 p_B0_1 p_C0
     clear hK K
     try simp only [Act.put, lA, lB, lC]
     refine tR (i := 10) (v := ?_) ?_ ?_; rotate_left
     ·
      intro w hSw; (try dsimp only at hSw); go_simp; try (with_reducible rfl)
     try simp only [Act.put, lA, lB, lC]
     refine wpAnyH_ready (rs := [11]) (by kernel_rfl) (by simp) ?_
     refine (AllReadyH.cons (o := _) (by simp only [hA, hB, hC]; rfl) (fun K hK => ?_) AllReadyH.nil)
     have px := (cell_of_row w7 _ 0 _ _ _ BX.out).trans (show _ = some (Value.slice fa ys.length fc) from rfl)
     have fx := frozen_of_row w7 _ 0 _ _ BX.out
     rw [HTL.out]
     go_simp
     clear px fx
     have tt : Turn (fun q => q = w.heap.size + 2) w7 (w7.setCell ⟨w.heap.size + 2, 0, none⟩ (.slice na (k + 1) nc)) := turn_set (G := fun q => q = w.heap.size + 2) (g := w.heap.size + 2) (j := 0) (u := .slice na (k + 1) nc) rfl
     have r := heap_setCell_same w7 (w.heap.size + 2) 0 _ _ (.slice na (k + 1) nc) BX.out
     simp at r
     have y0 := ZR.out
     have y1 := Z_dr.out
     have y2 := Z_w5.out
     have y3 := zN.out
     replace BX : Hid ((w7.setCell ⟨w.heap.size + 2, 0, none⟩ (.slice na (k + 1) nc)).heap[w.heap.size + 2]? = some (.cells #[.slice na (k + 1) nc, .int .i64 now] 41 (0, 0))) := Lib.hid r
     replace B0 := Lib.hid ((tt.block w.heap.size (Array.getElem?_eq_some_iff.1 B0.out).1 (fun h => by omega)).trans B0.out)
     replace BZ := Lib.hid ((tt.block (w.heap.size + 1) (Array.getElem?_eq_some_iff.1 BZ.out).1 (fun h => by omega)).trans BZ.out)
     replace PN := Lib.hid (slO_turn tVersionS_law PN.out tt (fun q h1 h2 => by have r1 : w.heap.size + 2 < q := h1; omega))
     replace d := Lib.hid (below_turn d.out tt (fun q h => by omega) d.out.size)
     have zM := Lib.hid (show w7.heap.size ≤ (w7.setCell ⟨w.heap.size + 2, 0, none⟩ (.slice na (k + 1) nc)).heap.size from tt.size)
     clear tt r y0 y1 y2 y3
     generalize (w7.setCell ⟨w.heap.size + 2, 0, none⟩ (.slice na (k + 1) nc)) = w8 at *
     have p_B0_0 := (cell_of_row w8 _ 0 _ _ _ B0.out).trans (show _ = some (Value.slice (some ⟨b, off, none⟩) ss.length cap) from rfl)
     have p_B0_1 := (cell_of_row w8 _ 1 _ _ _ B0.out).trans (show _ = some (Value.int .i64 now) from rfl)
     have p_C0 := (d.out.cell (p := ⟨b, off + k, none⟩) HBL.out).trans C0.out
     refine hK.out _ _ ⟨p_B0_0, p_B0_1, p_C0⟩ (fun hHeld => ?_)
     clear p_B0_0 p_B0_1 p_C0
     clear hK K
     try simp only [Act.put, lA, lB, lC]
     refine wpAnyH_done (by kernel_rfl) ?_ _
     clear hHeld
     have y0 := ZR.out
     have y1 := Z_dr.out
     have y2 := Z_w5.out
     have y3 := zN.out
     have y4 := zM.out
     have zz : w.heap.size + 2 < w8.heap.size := by omega
     have ZZ := Lib.hid zz
     clear zz y0 y1 y2 y3 y4
     go_wp2
     go_roundw
     case rel => exact ⟨k + 1, _, by omega, by go_num, B0.out, BZ.out, BX.out, PN.out, d.out, ZZ.out⟩
     case measure => simp [intOf]; omega
    ·
     go_simp
     have hal : Below w5.heap.size w5 (w5.alloc (.cells #[.slice pa l.length pc] 89)) := (Below.refl _ _).alloc (Nat.le_refl _) _
     have KB0 := B0
     have KBZ := BZ
     have KBX := BX
     have KPF := PF
     have KPX := PX
     have Kd := d
     replace B0 := Lib.hid ((hal.block w.heap.size (Array.getElem?_eq_some_iff.1 B0.out).1).trans B0.out)
     replace BZ := Lib.hid ((hal.block (w.heap.size + 1) (Array.getElem?_eq_some_iff.1 BZ.out).1).trans BZ.out)
     replace BX := Lib.hid ((hal.block (w.heap.size + 2) (Array.getElem?_eq_some_iff.1 BX.out).1).trans BX.out)
     replace PF := Lib.hid (slO_fresh tVersionS_law PF.out hal)
     replace PX := Lib.hid (slO_fresh tVersion_law PX.out hal)
     replace d := Lib.hid (d.out.trans (hal.mono d.out.size))
     clear hal
     have p_B0_0 := (cell_of_row (w5.alloc (.cells #[.slice pa l.length pc] 89)) _ 0 _ _ _ B0.out).trans (show _ = some (Value.slice (some ⟨b, off, none⟩) ss.length cap) from rfl)
     have p_B0_1 := (cell_of_row (w5.alloc (.cells #[.slice pa l.length pc] 89)) _ 1 _ _ _ B0.out).trans (show _ = some (Value.int .i64 now) from rfl)
     have p_C0 := (d.out.cell (p := ⟨b, off + k, none⟩) HBL.out).trans C0.out
     refine hK.out _ _ ⟨p_B0_0, p_B0_1, p_C0⟩ (fun hHeld => ?_)
     clear p_B0_0 p_B0_1 p_C0
     clear hK K
     try simp only [Act.put, lA, lB, lC]
     refine wpAnyH_ready (rs := [1]) (by kernel_rfl) (by simp) ?_
     refine (AllReadyH.cons (o := _) (by simp only [hA, hB, hC]; rfl) (fun K hK => ?_) AllReadyH.nil)
     have px := (cell_of_row (w5.alloc (.cells #[.slice pa l.length pc] 89)) _ 0 _ _ _ BX.out).trans (show _ = some (Value.slice fa ys.length fc) from rfl)
     go_simp
     clear px
     have p_B0_0 := (cell_of_row (w5.alloc (.cells #[.slice pa l.length pc] 89)) _ 0 _ _ _ B0.out).trans (show _ = some (Value.slice (some ⟨b, off, none⟩) ss.length cap) from rfl)
     have p_B0_1 := (cell_of_row (w5.alloc (.cells #[.slice pa l.length pc] 89)) _ 1 _ _ _ B0.out).trans (show _ = some (Value.int .i64 now) from rfl)
     have p_C0 := (d.out.cell (p := ⟨b, off + k, none⟩) HBL.out).trans C0.out
     refine hK.out _ _ ⟨p_B0_0, p_B0_1, p_C0⟩ (fun hHeld => ?_)
     clear p_B0_0 p_B0_1 p_C0
     clear hK K
     try simp only [Act.put, lA, lB, lC]
     refine wpAnyH_ready (rs := [9]) (by kernel_rfl) (by simp) ?_
     refine (AllReadyH.cons (o := _) (by simp only [hA, hB, hC]; rfl) (fun K hK => ?_) AllReadyH.nil)
     have y0 := ZR.out
     have y1 := Z_dr.out
     have y2 := Z_w5.out
     have yd := Kd.out.size
     have hD : wr.heap.size ≤ w5.heap.size := by omega
     refine step_append_T tVersionS_law info_T_VersionS Try.underlying39 rfl rfl (.tmp 16) (.tmp 23) rfl (fun q => w.heap.size + 2 < q) wr.heap.size _ ys rfl KPF.out hD (fun q hq => by show w.heap.size + 2 < q; omega) HYL.out [.slice pa l.length pc] l ⟨_, rfl, KPX.out⟩ (by simp [Value.oneCell']) 1 _ rfl rfl ?_
     intro v' w7 oN tN
     replace B0 := Lib.hid ((tN.block w.heap.size (Array.getElem?_eq_some_iff.1 KB0.out).1 (fun h => by have r : w.heap.size + 2 < w.heap.size := h.1; omega)).trans KB0.out)
     replace BZ := Lib.hid ((tN.block (w.heap.size + 1) (Array.getElem?_eq_some_iff.1 KBZ.out).1 (fun h => by have r : w.heap.size + 2 < (w.heap.size + 1) := h.1; omega)).trans KBZ.out)
     replace BX := Lib.hid ((tN.block (w.heap.size + 2) (Array.getElem?_eq_some_iff.1 KBX.out).1 (fun h => by have r : w.heap.size + 2 < (w.heap.size + 2) := h.1; omega)).trans KBX.out)
     replace d := Lib.hid (below_turn Kd.out tN (fun q hq => by have r : w.heap.size + 2 < q := hq.1; omega) yd)
     have zN := Lib.hid (show w5.heap.size ≤ w7.heap.size from tN.size)
     rw [HTK.out] at oN
     obtain ⟨na, nc, rfl⟩ := slO_len oN
     rw [HTL.out] at oN
     have PN := Lib.hid oN
     clear hD oN tN yd PF PX KB0 KBZ KBX KPF KPX Kd y0 y1 y2
     have p_B0_0 := (cell_of_row w7 _ 0 _ _ _ B0.out).trans (show _ = some (Value.slice (some ⟨b, off, none⟩) ss.length cap) from rfl)
     have p_B0_1 := (cell_of_row w7 _ 1 _ _ _ B0.out).trans (show _ = some (Value.int .i64 now) from rfl)
     have p_C0 := (d.out.cell (p := ⟨b, off + k, none⟩) HBL.out).trans C0.out
     refine hK.out _ _ ⟨p_B0_0, p_B0_1, p_C0⟩ (fun hHeld => ?_)
     clear p_B0_0 p_B0_1 p_C0
     clear hK K
     try simp only [Act.put, lA, lB, lC]
     refine tR (i := 10) (v := ?_) ?_ ?_; rotate_left
     ·
      intro w hSw; (try dsimp only at hSw); go_simp; try (with_reducible rfl)
     try simp only [Act.put, lA, lB, lC]
     refine wpAnyH_ready (rs := [11]) (by kernel_rfl) (by simp) ?_
     refine (AllReadyH.cons (o := _) (by simp only [hA, hB, hC]; rfl) (fun K hK => ?_) AllReadyH.nil)
     have px := (cell_of_row w7 _ 0 _ _ _ BX.out).trans (show _ = some (Value.slice fa ys.length fc) from rfl)
     have fx := frozen_of_row w7 _ 0 _ _ BX.out
     rw [HTL.out]
     go_simp
     clear px fx
     have tt : Turn (fun q => q = w.heap.size + 2) w7 (w7.setCell ⟨w.heap.size + 2, 0, none⟩ (.slice na (k + 1) nc)) := turn_set (G := fun q => q = w.heap.size + 2) (g := w.heap.size + 2) (j := 0) (u := .slice na (k + 1) nc) rfl
     have r := heap_setCell_same w7 (w.heap.size + 2) 0 _ _ (.slice na (k + 1) nc) BX.out
     simp at r
     have y0 := ZR.out
     have y1 := Z_dr.out
     have y2 := Z_w5.out
     have y3 := zN.out
     replace BX : Hid ((w7.setCell ⟨w.heap.size + 2, 0, none⟩ (.slice na (k + 1) nc)).heap[w.heap.size + 2]? = some (.cells #[.slice na (k + 1) nc, .int .i64 now] 41 (0, 0))) := Lib.hid r
     replace B0 := Lib.hid ((tt.block w.heap.size (Array.getElem?_eq_some_iff.1 B0.out).1 (fun h => by omega)).trans B0.out)
     replace BZ := Lib.hid ((tt.block (w.heap.size + 1) (Array.getElem?_eq_some_iff.1 BZ.out).1 (fun h => by omega)).trans BZ.out)
     replace PN := Lib.hid (slO_turn tVersionS_law PN.out tt (fun q h1 h2 => by have r1 : w.heap.size + 2 < q := h1; omega))
     replace d := Lib.hid (below_turn d.out tt (fun q h => by omega) d.out.size)
     have zM := Lib.hid (show w7.heap.size ≤ (w7.setCell ⟨w.heap.size + 2, 0, none⟩ (.slice na (k + 1) nc)).heap.size from tt.size)
     clear tt r y0 y1 y2 y3
     generalize (w7.setCell ⟨w.heap.size + 2, 0, none⟩ (.slice na (k + 1) nc)) = w8 at *
     have p_B0_0 := (cell_of_row w8 _ 0 _ _ _ B0.out).trans (show _ = some (Value.slice (some ⟨b, off, none⟩) ss.length cap) from rfl)
     have p_B0_1 := (cell_of_row w8 _ 1 _ _ _ B0.out).trans (show _ = some (Value.int .i64 now) from rfl)
     have p_C0 := (d.out.cell (p := ⟨b, off + k, none⟩) HBL.out).trans C0.out
     refine hK.out _ _ ⟨p_B0_0, p_B0_1, p_C0⟩ (fun hHeld => ?_)
     clear p_B0_0 p_B0_1 p_C0
     clear hK K
     try simp only [Act.put, lA, lB, lC]
     refine wpAnyH_done (by kernel_rfl) ?_ _
     clear hHeld
     have y0 := ZR.out
     have y1 := Z_dr.out
     have y2 := Z_w5.out
     have y3 := zN.out
     have y4 := zM.out
     have zz : w.heap.size + 2 < w8.heap.size := by omega
     have ZZ := Lib.hid zz
     clear zz y0 y1 y2 y3 y4
     go_wp2
     go_roundw
     case rel => exact ⟨k + 1, _, by omega, by go_num, B0.out, BZ.out, BX.out, PN.out, d.out, ZZ.out⟩
     case measure => simp [intOf]; omega
  ·
   obtain rfl : k = ss.length := by omega
   rw [List.take_length] at hown
   have HFL := Lib.hid hfl
   rw [List.take_length] at r2
   have q0 := (cell_of_row wr _ 0 _ _ _ r0).trans (show _ = some (Value.slice a ss.length cap) from rfl)
   have x0 := (cell_of_row wr _ 0 _ _ _ r2).trans (show _ = some (Value.slice fa ss.length fc) from rfl)
   have x1 := (cell_of_row wr _ 1 _ _ _ r2).trans (show _ = some (Value.int .i64 now) from rfl)
   have z0 := (cell_of_row wr _ 0 _ _ _ r1).trans (show _ = some (Value.slice none 0 0) from rfl)
   have z1 := (cell_of_row wr _ 1 _ _ _ r1).trans (show _ = some (Value.int .i64 0) from rfl)
   have g0 := frozen_of_row wr _ 0 _ _ r1
   have g1 := frozen_of_row wr _ 1 _ _ r1
   have hd : Below w.heap.size w wr := hbel
   have DF := Lib.hid ((hd.setCell (p := ⟨w.heap.size + 1, 0, none⟩) (by simp) (.slice fa ss.length fc)).setCell (p := ⟨w.heap.size + 1, 1, none⟩) (by simp) (.int .i64 now))
   have r := (heap_setCell_same _ (w.heap.size + 1) 1 _ _ (.int .i64 now) (heap_setCell_same wr (w.heap.size + 1) 0 _ _ (.slice fa ss.length fc) r1))
   simp at r
   have e0 := (cell_of_row _ (w.heap.size + 1) 0 _ _ _ r).trans (show _ = some (Value.slice fa ss.length fc) from rfl)
   have e1 := (cell_of_row _ (w.heap.size + 1) 1 _ _ _ r).trans (show _ = some (Value.int .i64 now) from rfl)
   have tt : Turn (fun b => b = w.heap.size + 1) wr ((wr.setCell ⟨w.heap.size + 1, 0, none⟩ (.slice fa ss.length fc)).setCell ⟨w.heap.size + 1, 1, none⟩ (.int .i64 now)) := ((Turn.refl (fun b => b = w.heap.size + 1) _).trans (turn_set (G := fun b => b = w.heap.size + 1) (g := w.heap.size + 1) (j := 0) (u := .slice fa ss.length fc) rfl)).trans (turn_set (G := fun b => b = w.heap.size + 1) (g := w.heap.size + 1) (j := 1) (u := .int .i64 now) rfl)
   have PF1 := Lib.hid (slO_turn tVersionS_law hown tt (fun b h1 h2 => by have h3 : w.heap.size + 2 < b := h1; omega))
   clear r tt r0 r1 r2 hown hbel hd hfl
   go_wp2
   refine bodyPost_ret (v := .agg #[.slice fa ss.length fc, .int .i64 now]) ?_ rfl ⟨[.slice fa ss.length fc, .int .i64 now], rfl, tStore_mkO PF1.out (fun b h => by have h3 : w.heap.size + 2 < b := h; show w.heap.size ≤ b; omega), DF.out⟩
   simp [results, Try.f48, go_sem, e0, e1]
set_option maxHeartbeats 8000000 in
set_option maxRecDepth 100000 in
theorem specIsUpdate (k id f x : Int) (vv : Value) (xs : List Int) (w : World) (h : Ints w vv xs) (hn : xs.length ≤ 1048576) :
  Calls Try.prog 10 #[.agg #[.int .i64 k, .int .i64 id, vv, .int .i64 f, .int .i64 x]] w fun e w' => e = .returned (.bool (updB (k, (id, xs), f, x))) ∧ Below w.heap.size w w' := by
 have HR := Lib.hid (fun W g => specIsRow id vv xs W g hn)
 have H := Lib.hid h
 obtain ⟨va, vc, rfl⟩ := ints_len h
 clear h
 by_cases h1 : k = 1
 ·
  subst h1
  have d0 := Lib.hid ((Below.refl w.heap.size w).alloc (Nat.le_refl _) (.cells #[.int .i64 1, .int .i64 id, .slice va xs.length vc, .int .i64 f, .int .i64 x] 31))
  have B0 : Hid ((w.alloc (.cells #[.int .i64 1, .int .i64 id, .slice va xs.length vc, .int .i64 f, .int .i64 x] 31)).heap[w.heap.size]? = some (.cells #[.int .i64 1, .int .i64 id, .slice va xs.length vc, .int .i64 f, .int .i64 x] 31 (0, 0))) := Lib.hid (heap_alloc_new w _)
  have Y0 : Hid (w.heap.size < (w.alloc (.cells #[.int .i64 1, .int .i64 id, .slice va xs.length vc, .int .i64 f, .int .i64 x] 31)).heap.size) := Lib.hid (by simp [World.size_alloc])
  cases hr : rowB (id, xs) with
  | false =>
   rw [upd_no (by unfold insP; simp only; rw [hr]; simp) (by unfold delP; simp only; omega) (by unfold setP; simp only; omega)]
   rw [hr] at HR
   clear hr
   go_enter Try.func10, Try.ntmps10
   go_wp2_with fail
   generalize w.alloc (.cells #[.int .i64 1, .int .i64 id, .slice va xs.length vc, .int .i64 f, .int .i64 x] 31) = W at *
   refine (HR.out W (ints_below H.out d0.out)).mono ?_
   rintro e w1 ⟨rfl, b1⟩
   have k0 := (b1.block w.heap.size Y0.out).trans B0.out
   have b2 := d0.out.trans (b1.mono d0.out.size)
   have p0 := (cell_of_row w1 _ 0 _ _ _ k0).trans (show _ = some (Value.int .i64 1) from rfl)
   have p1 := (cell_of_row w1 _ 1 _ _ _ k0).trans (show _ = some (Value.int .i64 id) from rfl)
   have p2 := (cell_of_row w1 _ 2 _ _ _ k0).trans (show _ = some (Value.slice va xs.length vc) from rfl)
   have p3 := (cell_of_row w1 _ 3 _ _ _ k0).trans (show _ = some (Value.int .i64 f) from rfl)
   have p4 := (cell_of_row w1 _ 4 _ _ _ k0).trans (show _ = some (Value.int .i64 x) from rfl)
   clear k0 b1
   go_wp2
   go_ret
   exact ⟨rfl, b2⟩
  | true =>
   rw [hr] at HR
   by_cases hf : f = 0
   rotate_left
   ·
    rw [upd_no (by unfold insP; simp only; omega) (by unfold delP; simp only; omega) (by unfold setP; simp only; omega)]
    have ef : (f == 0) = false := by simp [hf]
    clear hf hr
    go_enter Try.func10, Try.ntmps10
    go_wp2_with fail
    generalize w.alloc (.cells #[.int .i64 1, .int .i64 id, .slice va xs.length vc, .int .i64 f, .int .i64 x] 31) = W at *
    refine (HR.out W (ints_below H.out d0.out)).mono ?_
    rintro e w1 ⟨rfl, b1⟩
    have k0 := (b1.block w.heap.size Y0.out).trans B0.out
    have b2 := d0.out.trans (b1.mono d0.out.size)
    have p0 := (cell_of_row w1 _ 0 _ _ _ k0).trans (show _ = some (Value.int .i64 1) from rfl)
    have p1 := (cell_of_row w1 _ 1 _ _ _ k0).trans (show _ = some (Value.int .i64 id) from rfl)
    have p2 := (cell_of_row w1 _ 2 _ _ _ k0).trans (show _ = some (Value.slice va xs.length vc) from rfl)
    have p3 := (cell_of_row w1 _ 3 _ _ _ k0).trans (show _ = some (Value.int .i64 f) from rfl)
    have p4 := (cell_of_row w1 _ 4 _ _ _ k0).trans (show _ = some (Value.int .i64 x) from rfl)
    clear k0 b1
    go_wp2
    go_ret
    exact ⟨rfl, b2⟩
   have ef : (f == 0) = true := by simp [hf]
   by_cases hx : x = 0
   rotate_left
   ·
    rw [upd_no (by unfold insP; simp only; omega) (by unfold delP; simp only; omega) (by unfold setP; simp only; omega)]
    have ex : (x == 0) = false := by simp [hx]
    clear hx hf hr
    go_enter Try.func10, Try.ntmps10
    go_wp2_with fail
    generalize w.alloc (.cells #[.int .i64 1, .int .i64 id, .slice va xs.length vc, .int .i64 f, .int .i64 x] 31) = W at *
    refine (HR.out W (ints_below H.out d0.out)).mono ?_
    rintro e w1 ⟨rfl, b1⟩
    have k0 := (b1.block w.heap.size Y0.out).trans B0.out
    have b2 := d0.out.trans (b1.mono d0.out.size)
    have p0 := (cell_of_row w1 _ 0 _ _ _ k0).trans (show _ = some (Value.int .i64 1) from rfl)
    have p1 := (cell_of_row w1 _ 1 _ _ _ k0).trans (show _ = some (Value.int .i64 id) from rfl)
    have p2 := (cell_of_row w1 _ 2 _ _ _ k0).trans (show _ = some (Value.slice va xs.length vc) from rfl)
    have p3 := (cell_of_row w1 _ 3 _ _ _ k0).trans (show _ = some (Value.int .i64 f) from rfl)
    have p4 := (cell_of_row w1 _ 4 _ _ _ k0).trans (show _ = some (Value.int .i64 x) from rfl)
    clear k0 b1
    go_wp2
    go_ret
    exact ⟨rfl, b2⟩
   have ex : (x == 0) = true := by simp [hx]
   rw [upd_ins ⟨rfl, hr, hf, hx⟩]
   clear hf hx hr
   go_enter Try.func10, Try.ntmps10
   go_wp2_with fail
   generalize w.alloc (.cells #[.int .i64 1, .int .i64 id, .slice va xs.length vc, .int .i64 f, .int .i64 x] 31) = W at *
   refine (HR.out W (ints_below H.out d0.out)).mono ?_
   rintro e w1 ⟨rfl, b1⟩
   have k0 := (b1.block w.heap.size Y0.out).trans B0.out
   have b2 := d0.out.trans (b1.mono d0.out.size)
   have p0 := (cell_of_row w1 _ 0 _ _ _ k0).trans (show _ = some (Value.int .i64 1) from rfl)
   have p1 := (cell_of_row w1 _ 1 _ _ _ k0).trans (show _ = some (Value.int .i64 id) from rfl)
   have p2 := (cell_of_row w1 _ 2 _ _ _ k0).trans (show _ = some (Value.slice va xs.length vc) from rfl)
   have p3 := (cell_of_row w1 _ 3 _ _ _ k0).trans (show _ = some (Value.int .i64 f) from rfl)
   have p4 := (cell_of_row w1 _ 4 _ _ _ k0).trans (show _ = some (Value.int .i64 x) from rfl)
   clear k0 b1
   go_wp2
   go_ret
   exact ⟨rfl, b2⟩
 by_cases h2 : k = 2
 ·
  subst h2
  clear h1
  have d0 := Lib.hid ((Below.refl w.heap.size w).alloc (Nat.le_refl _) (.cells #[.int .i64 2, .int .i64 id, .slice va xs.length vc, .int .i64 f, .int .i64 x] 31))
  have B0 : Hid ((w.alloc (.cells #[.int .i64 2, .int .i64 id, .slice va xs.length vc, .int .i64 f, .int .i64 x] 31)).heap[w.heap.size]? = some (.cells #[.int .i64 2, .int .i64 id, .slice va xs.length vc, .int .i64 f, .int .i64 x] 31 (0, 0))) := Lib.hid (heap_alloc_new w _)
  have Y0 : Hid (w.heap.size < (w.alloc (.cells #[.int .i64 2, .int .i64 id, .slice va xs.length vc, .int .i64 f, .int .i64 x] 31)).heap.size) := Lib.hid (by simp [World.size_alloc])
  by_cases hi : 0 ≤ id ∧ id ≤ 999
  rotate_left
  ·
   rw [upd_no (by unfold insP; simp only; omega) (by unfold delP; simp only; omega) (by unfold setP; simp only; omega)]
   have Hi := Lib.hid (fun W => in_no id 0 999 W hi)
   clear hi
   go_enter Try.func10, Try.ntmps10
   go_wp2_with fail
   refine (Hi.out _).mono ?_
   rintro e wx ⟨rfl, rfl⟩
   go_wp2
   go_ret
   exact ⟨rfl, d0.out⟩
  have Hi := Lib.hid (fun W => in_yes id 0 999 W hi.1 hi.2)
  by_cases hl : xs.length = 0
  rotate_left
  ·
   rw [upd_no (by unfold insP; simp only; omega) (by unfold delP; simp only; omega) (by unfold setP; simp only; omega)]
   have el : ((xs.length : Int) == 0) = false := by simp [hl]
   clear hl hi
   go_enter Try.func10, Try.ntmps10
   go_wp2_with fail
   refine (Hi.out _).mono ?_
   rintro e wx ⟨rfl, rfl⟩
   go_wp2
   go_ret
   exact ⟨rfl, d0.out⟩
  have el : ((xs.length : Int) == 0) = true := by simp [hl]
  by_cases hf : f = 0
  rotate_left
  ·
   rw [upd_no (by unfold insP; simp only; omega) (by unfold delP; simp only; omega) (by unfold setP; simp only; omega)]
   have ef : (f == 0) = false := by simp [hf]
   clear hf hi hl
   go_enter Try.func10, Try.ntmps10
   go_wp2_with fail
   refine (Hi.out _).mono ?_
   rintro e wx ⟨rfl, rfl⟩
   go_wp2
   go_ret
   exact ⟨rfl, d0.out⟩
  have ef : (f == 0) = true := by simp [hf]
  by_cases hx : x = 0
  rotate_left
  ·
   rw [upd_no (by unfold insP; simp only; omega) (by unfold delP; simp only; omega) (by unfold setP; simp only; omega)]
   have ex : (x == 0) = false := by simp [hx]
   clear hx hf hi hl
   go_enter Try.func10, Try.ntmps10
   go_wp2_with fail
   refine (Hi.out _).mono ?_
   rintro e wx ⟨rfl, rfl⟩
   go_wp2
   go_ret
   exact ⟨rfl, d0.out⟩
  have ex : (x == 0) = true := by simp [hx]
  rw [upd_del ⟨rfl, hi, hl, hf, hx⟩]
  clear hf hx hi hl
  go_enter Try.func10, Try.ntmps10
  go_wp2_with fail
  refine (Hi.out _).mono ?_
  rintro e wx ⟨rfl, rfl⟩
  go_wp2
  go_ret
  exact ⟨rfl, d0.out⟩
 by_cases h3 : k = 3
 ·
  subst h3
  clear h1 h2
  have d0 := Lib.hid ((Below.refl w.heap.size w).alloc (Nat.le_refl _) (.cells #[.int .i64 3, .int .i64 id, .slice va xs.length vc, .int .i64 f, .int .i64 x] 31))
  have B0 : Hid ((w.alloc (.cells #[.int .i64 3, .int .i64 id, .slice va xs.length vc, .int .i64 f, .int .i64 x] 31)).heap[w.heap.size]? = some (.cells #[.int .i64 3, .int .i64 id, .slice va xs.length vc, .int .i64 f, .int .i64 x] 31 (0, 0))) := Lib.hid (heap_alloc_new w _)
  have Y0 : Hid (w.heap.size < (w.alloc (.cells #[.int .i64 3, .int .i64 id, .slice va xs.length vc, .int .i64 f, .int .i64 x] 31)).heap.size) := Lib.hid (by simp [World.size_alloc])
  by_cases hi : 0 ≤ id ∧ id ≤ 999
  rotate_left
  ·
   rw [upd_no (by unfold insP; simp only; omega) (by unfold delP; simp only; omega) (by unfold setP; simp only; omega)]
   have Hi := Lib.hid (fun W => in_no id 0 999 W hi)
   clear hi
   go_enter Try.func10, Try.ntmps10
   go_wp2_with fail
   refine (Hi.out _).mono ?_
   rintro e wx ⟨rfl, rfl⟩
   go_wp2
   go_ret
   exact ⟨rfl, d0.out⟩
  have Hi := Lib.hid (fun W => in_yes id 0 999 W hi.1 hi.2)
  by_cases hl : xs.length = 0
  rotate_left
  ·
   rw [upd_no (by unfold insP; simp only; omega) (by unfold delP; simp only; omega) (by unfold setP; simp only; omega)]
   have el : ((xs.length : Int) == 0) = false := by simp [hl]
   clear hl hi
   go_enter Try.func10, Try.ntmps10
   go_wp2_with fail
   refine (Hi.out _).mono ?_
   rintro e wx ⟨rfl, rfl⟩
   go_wp2
   go_ret
   exact ⟨rfl, d0.out⟩
  have el : ((xs.length : Int) == 0) = true := by simp [hl]
  by_cases hf : 0 ≤ f ∧ f ≤ 2
  rotate_left
  ·
   rw [upd_no (by unfold insP; simp only; omega) (by unfold delP; simp only; omega) (by unfold setP; simp only; omega)]
   have Hf := Lib.hid (fun W => in_no f 0 2 W hf)
   clear hi hl hf
   go_enter Try.func10, Try.ntmps10
   go_wp2_with fail
   refine (Hi.out _).mono ?_
   rintro e wx ⟨rfl, rfl⟩
   go_wp2_with fail
   refine (Hf.out _).mono ?_
   rintro e wx ⟨rfl, rfl⟩
   go_wp2
   go_ret
   exact ⟨rfl, d0.out⟩
  have Hf := Lib.hid (fun W => in_yes f 0 2 W hf.1 hf.2)
  by_cases hx : 0 ≤ x ∧ x ≤ 99
  rotate_left
  ·
   rw [upd_no (by unfold insP; simp only; omega) (by unfold delP; simp only; omega) (by unfold setP; simp only; omega)]
   have Hx := Lib.hid (fun W => in_no x 0 99 W hx)
   clear hi hl hf hx
   go_enter Try.func10, Try.ntmps10
   go_wp2_with fail
   refine (Hi.out _).mono ?_
   rintro e wx ⟨rfl, rfl⟩
   go_wp2_with fail
   refine (Hf.out _).mono ?_
   rintro e wx ⟨rfl, rfl⟩
   go_wp2_with fail
   refine (Hx.out _).mono ?_
   rintro e wx ⟨rfl, rfl⟩
   go_wp2
   go_ret
   exact ⟨rfl, d0.out⟩
  have Hx := Lib.hid (fun W => in_yes x 0 99 W hx.1 hx.2)
  rw [upd_set ⟨rfl, hi, hl, hf, hx⟩]
  clear hf hx hi hl
  go_enter Try.func10, Try.ntmps10
  go_wp2_with fail
  refine (Hi.out _).mono ?_
  rintro e wx ⟨rfl, rfl⟩
  go_wp2_with fail
  refine (Hf.out _).mono ?_
  rintro e wx ⟨rfl, rfl⟩
  go_wp2_with fail
  refine (Hx.out _).mono ?_
  rintro e wx ⟨rfl, rfl⟩
  go_wp2
  go_ret
  exact ⟨rfl, d0.out⟩
 rw [upd_no (by unfold insP; simp only; omega) (by unfold delP; simp only; omega) (by unfold setP; simp only; omega)]
 have e1 : (k == 1) = false := by simp [h1]
 have e2 : (k == 2) = false := by simp [h2]
 have e3 : (k == 3) = false := by simp [h3]
 clear h1 h2 h3
 have d0 := Lib.hid ((Below.refl w.heap.size w).alloc (Nat.le_refl _) (.cells #[.int .i64 k, .int .i64 id, .slice va xs.length vc, .int .i64 f, .int .i64 x] 31))
 have B0 : Hid ((w.alloc (.cells #[.int .i64 k, .int .i64 id, .slice va xs.length vc, .int .i64 f, .int .i64 x] 31)).heap[w.heap.size]? = some (.cells #[.int .i64 k, .int .i64 id, .slice va xs.length vc, .int .i64 f, .int .i64 x] 31 (0, 0))) := Lib.hid (heap_alloc_new w _)
 have Y0 : Hid (w.heap.size < (w.alloc (.cells #[.int .i64 k, .int .i64 id, .slice va xs.length vc, .int .i64 f, .int .i64 x] 31)).heap.size) := Lib.hid (by simp [World.size_alloc])
 go_enter Try.func10, Try.ntmps10
 go_wp2
 go_ret
 exact ⟨rfl, d0.out⟩
/-- The record of a row. -/
def recV (id : Int) (xs : List Int) : Value := .agg #[.int .i64 id, .int .i64 xs.length, .int .i64 (xs.getD 0 0), .int .i64 (xs.getD 1 0), .int .i64 (xs.getD 2 0)]
theorem info_size {P : Program} {e : TypeId} {z : Option Value} {n b : Nat} (h : (P.info? e).map (fun i => (i.zero, i.size, i.bytes)) = some (z, n, b)) : (P.info? e).map (·.size) = some n := by
 cases hq : P.info? e with
 | none => rw [hq] at h; simp at h
 | some i => rw [hq] at h; simp at h; simp [h.2.1]
theorem copy_src {w : World} {a : Option Addr} {cap g : Nat} {xs : List Int} (h : Ints w (.slice a xs.length cap) xs) : 0 < ((xs.take 3).map (Value.int .i64)).length → (some ⟨g, 2, none⟩ : Option Addr) = some ⟨g, 2, none⟩ ∧ ∃ ad, a = some ad ∧ ∀ j v, ((xs.take 3).map (Value.int .i64))[j]? = some v → w.cell? (ad.add j) = some v := by
 intro h0
 refine ⟨rfl, ?_⟩
 rcases h with ⟨rfl, _⟩ | ⟨b, off, cap', e, _, _, hc⟩
 ·
  simp at h0
 ·
  simp only [Value.slice.injEq] at e
  obtain ⟨rfl, _, _⟩ := e
  refine ⟨_, rfl, fun j v hj => ?_⟩
  rw [Go.WideShapes.add_plain]
  rw [List.getElem?_map, List.getElem?_take] at hj
  by_cases hlt : j < 3
  ·
   rw [if_pos hlt] at hj
   by_cases hl : j < xs.length
   ·
    rw [hc j hl]
    rw [List.getElem?_eq_getElem hl] at hj
    simpa [List.getD, hl] using hj
   ·
    rw [List.getElem?_eq_none (by omega)] at hj
    simp at hj
  ·
   rw [if_neg hlt] at hj
   simp at hj
theorem splice_rec (a b : Value) (xs : List Int) : splice [a, b, .int .i64 0, .int .i64 0, .int .i64 0] 2 ((xs.take 3).map (Value.int .i64)) = [a, b, .int .i64 (xs.getD 0 0), .int .i64 (xs.getD 1 0), .int .i64 (xs.getD 2 0)] := by
 match xs with
 | [] => rfl
 | [x] => rfl
 | [x, y] => rfl
 | x :: y :: z :: r => rfl
set_option maxHeartbeats 4000000 in
set_option maxRecDepth 100000 in
theorem recordOf_any (id : Int) (vv : Value) (xs : List Int) (w : World) (h : Ints w vv xs) (hn : xs.length ≤ 1048576) :
  Calls Try.prog 106 #[.agg #[.int .i64 id, vv]] w fun e w' => e = .returned (recV id xs) ∧ Below w.heap.size w w' := by
 have H := Lib.hid h
 have HN := Lib.hid hn
 obtain ⟨va, vcap, rfl⟩ := ints_len h
 clear h hn
 go_enter Try.func106, Try.ntmps106
 go_wp2
 have hh : Below w.heap.size w (((w.alloc (.cells #[.int .i64 id, .slice va xs.length vcap] 29)).alloc (.cells #[.int .i64 0, .int .i64 0, .int .i64 0, .int .i64 0, .int .i64 0] 154)).alloc (.cells #[.int .i64 id, .int .i64 xs.length, .int .i64 0, .int .i64 0, .int .i64 0] 154)) := (((Below.refl _ w).alloc (Nat.le_refl _) _).alloc (by simp) _).alloc (by simp; omega) _
 have g2 : (((w.alloc (.cells #[.int .i64 id, .slice va xs.length vcap] 29)).alloc (.cells #[.int .i64 0, .int .i64 0, .int .i64 0, .int .i64 0, .int .i64 0] 154)).alloc (.cells #[.int .i64 id, .int .i64 xs.length, .int .i64 0, .int .i64 0, .int .i64 0] 154)).heap[w.heap.size + 2]? = some (.cells #[.int .i64 id, .int .i64 xs.length, .int .i64 0, .int .i64 0, .int .i64 0] 154 (0, 0)) := by
  have := heap_alloc_new ((w.alloc (.cells #[.int .i64 id, .slice va xs.length vcap] 29)).alloc (.cells #[.int .i64 0, .int .i64 0, .int .i64 0, .int .i64 0, .int .i64 0] 154)) (.cells #[.int .i64 id, .int .i64 xs.length, .int .i64 0, .int .i64 0, .int .i64 0] 154)
  simpa only [World.size_alloc] using this
 have g1 : (((w.alloc (.cells #[.int .i64 id, .slice va xs.length vcap] 29)).alloc (.cells #[.int .i64 0, .int .i64 0, .int .i64 0, .int .i64 0, .int .i64 0] 154)).alloc (.cells #[.int .i64 id, .int .i64 xs.length, .int .i64 0, .int .i64 0, .int .i64 0] 154)).heap[w.heap.size + 1]? = some (.cells #[.int .i64 0, .int .i64 0, .int .i64 0, .int .i64 0, .int .i64 0] 154 (0, 0)) := by
  rw [Below.heap_alloc _ _ _ (by simp)]
  have := heap_alloc_new (w.alloc (.cells #[.int .i64 id, .slice va xs.length vcap] 29)) (.cells #[.int .i64 0, .int .i64 0, .int .i64 0, .int .i64 0, .int .i64 0] 154)
  simpa only [World.size_alloc] using this
 have g0 : (((w.alloc (.cells #[.int .i64 id, .slice va xs.length vcap] 29)).alloc (.cells #[.int .i64 0, .int .i64 0, .int .i64 0, .int .i64 0, .int .i64 0] 154)).alloc (.cells #[.int .i64 id, .int .i64 xs.length, .int .i64 0, .int .i64 0, .int .i64 0] 154)).heap[w.heap.size]? = some (.cells #[.int .i64 id, .slice va xs.length vcap] 29 (0, 0)) := by
  rw [Below.heap_alloc _ _ _ (by simp; omega), Below.heap_alloc _ _ _ (by simp)]
  exact heap_alloc_new w _
 have hs : (((w.alloc (.cells #[.int .i64 id, .slice va xs.length vcap] 29)).alloc (.cells #[.int .i64 0, .int .i64 0, .int .i64 0, .int .i64 0, .int .i64 0] 154)).alloc (.cells #[.int .i64 id, .int .i64 xs.length, .int .i64 0, .int .i64 0, .int .i64 0] 154)).heap.size = w.heap.size + 3 := by simp [World.size_alloc]
 generalize (((w.alloc (.cells #[.int .i64 id, .slice va xs.length vcap] 29)).alloc (.cells #[.int .i64 0, .int .i64 0, .int .i64 0, .int .i64 0, .int .i64 0] 154)).alloc (.cells #[.int .i64 id, .int .i64 xs.length, .int .i64 0, .int .i64 0, .int .i64 0] 154)) = W at *
 have b0 := cell_of_row W _ 1 _ _ _ g0
 simp at b0
 have I2 := ints_below H.out hh
 refine wp_region_held_drew (S := fun w' => w'.cell? ⟨w.heap.size, 1, none⟩ = some (.slice va xs.length vcap)) (by kernel_rfl) b0 (fun hHeld => ?_)
 refine tR (i := 0) (v := ?_) ?_ ?_; rotate_left
 ·
  intro w hSw; (try dsimp only at hSw); go_simp; try (with_reducible rfl)
 try simp only [Act.put, lA, lB, lC]
 refine tR (i := 1) (v := ?_) ?_ ?_; rotate_left
 ·
  intro w hSw; (try dsimp only at hSw); go_simp; try (with_reducible rfl)
 try simp only [Act.put, lA, lB, lC]
 refine tR (i := 2) (v := ?_) ?_ ?_; rotate_left
 ·
  intro w hSw; (try dsimp only at hSw); go_simp; try (with_reducible rfl)
 try simp only [Act.put, lA, lB, lC]
 refine tR (i := 3) (v := ?_) ?_ ?_; rotate_left
 ·
  intro w hSw; (try dsimp only at hSw); go_simp; try (with_reducible rfl)
 try simp only [Act.put, lA, lB, lC]
 refine wpAnyH_ready (rs := [4]) (by kernel_rfl) (by simp) ?_
 refine AllReadyH.cons (o := _) (by simp only [hA, hB, hC]; rfl) (fun K hK => ?_) AllReadyH.nil
 refine step_copy_splice rfl (.tmp 11) (.tmp 13) 22 22 rfl 3 Try.underlying22 (info_size Try.infoI64) _ _ _ _ _ _ rfl rfl (w.heap.size + 2) 2 [.int .i64 id, .int .i64 xs.length, .int .i64 0, .int .i64 0, .int .i64 0] _ g2 ((xs.take 3).map (Value.int .i64)) (by simp [Nat.min_comm]) (copy_src I2) (by simp; omega) (fun u hu => by obtain ⟨y, _, rfl⟩ := List.mem_map.1 hu; rfl) (w.heap.size + 2) W (below_drew (Below.refl _ W)) (Nat.le_refl _) ?_
 intro W2 G2 bA
 rw [splice_rec] at G2
 have k0 := (bA.block w.heap.size (by omega)).trans g0
 have b1 := cell_of_row W2 _ 1 _ _ _ k0
 simp at b1
 refine hK.out _ _ b1 (fun hHeld2 => ?_)
 clear hK K hHeld
 try simp only [Act.put, lA, lB, lC]
 refine wpAnyH_done (by kernel_rfl) ?_ _
 have k1 := (bA.block (w.heap.size + 1) (by omega)).trans g1
 have k2 := G2.out
 have hbb := hh.trans (bA.mono (by omega))
 clear G2 bA g0 g1 g2 I2 hHeld2 b0 b1 k0 hh hs
 obtain ⟨n, hn2⟩ : ∃ n : Nat, n = xs.length := ⟨_, rfl⟩
 have c0 := cell_of_row W2 _ 0 _ _ _ k2
 have d0 := cell_of_row W2 _ 0 _ _ _ k1
 have f0 := frozen_of_row W2 _ 0 _ _ k1
 have c1 := cell_of_row W2 _ 1 _ _ _ k2
 have d1 := cell_of_row W2 _ 1 _ _ _ k1
 have f1 := frozen_of_row W2 _ 1 _ _ k1
 have c2 := cell_of_row W2 _ 2 _ _ _ k2
 have d2 := cell_of_row W2 _ 2 _ _ _ k1
 have f2 := frozen_of_row W2 _ 2 _ _ k1
 have c3 := cell_of_row W2 _ 3 _ _ _ k2
 have d3 := cell_of_row W2 _ 3 _ _ _ k1
 have f3 := frozen_of_row W2 _ 3 _ _ k1
 have c4 := cell_of_row W2 _ 4 _ _ _ k2
 have d4 := cell_of_row W2 _ 4 _ _ _ k1
 have f4 := frozen_of_row W2 _ 4 _ _ k1
 simp at c0 c1 c2 c3 c4 d0 d1 d2 d3 d4
 clear k2 hn2
 generalize hx0 : xs[0]?.getD 0 = x0 at c2
 generalize hx1 : xs[1]?.getD 0 = x1 at c3
 generalize hx2 : xs[2]?.getD 0 = x2 at c4
 have HX := Lib.hid (And.intro hx0 (And.intro hx1 hx2))
 clear hx0 hx1 hx2
 go_wp2
 have r0 := heap_setCell_same W2 (w.heap.size + 1) 0 _ _ (.int .i64 id) k1
 have r1 := heap_setCell_same _ (w.heap.size + 1) 1 _ _ (.int .i64 xs.length) r0
 have r2 := heap_setCell_same _ (w.heap.size + 1) 2 _ _ (.int .i64 x0) r1
 have r3 := heap_setCell_same _ (w.heap.size + 1) 3 _ _ (.int .i64 x1) r2
 have r4 := heap_setCell_same _ (w.heap.size + 1) 4 _ _ (.int .i64 x2) r3
 have B4 := (((((hbb.setCell (p := ⟨w.heap.size + 1, 0, none⟩) (by simp) (.int .i64 id)).setCell (p := ⟨w.heap.size + 1, 1, none⟩) (by simp) (.int .i64 xs.length)).setCell (p := ⟨w.heap.size + 1, 2, none⟩) (by simp) (.int .i64 x0)).setCell (p := ⟨w.heap.size + 1, 3, none⟩) (by simp) (.int .i64 x1)).setCell (p := ⟨w.heap.size + 1, 4, none⟩) (by simp) (.int .i64 x2))
 clear r0 r1 r2 r3 k1
 have e0 := cell_of_row _ _ 0 _ _ _ r4
 have e1 := cell_of_row _ _ 1 _ _ _ r4
 have e2 := cell_of_row _ _ 2 _ _ _ r4
 have e3 := cell_of_row _ _ 3 _ _ _ r4
 have e4 := cell_of_row _ _ 4 _ _ _ r4
 simp at e0 e1 e2 e3 e4
 clear r4
 refine bodyPost_ret (v := .agg #[.int .i64 id, .int .i64 xs.length, .int .i64 x0, .int .i64 x1, .int .i64 x2]) ?_ rfl ?_
 ·
  simp [results, Try.f106, go_sem, e0, e1, e2, e3, e4]
 ·
  obtain ⟨rfl, rfl, rfl⟩ := HX.out
  exact ⟨by simp [recV], B4⟩
/-- A value moved into the range. -/
def limI (x : Int) : Int := min (max x 0) 99
theorem idx0 (a b c : Int) (w : World) : Sem.run Try.prog (Instr.index 152 (.agg #[.int .i64 a, .int .i64 b, .int .i64 c]) (.int .i64 0)) w = .ok (.int .i64 a) w := by
 have u := Try.underlying152
 have z := Try.sizeOf3
 have g := Try.isAgg3
 unfold Instr.index
 go_simp
theorem idx1 (a b c : Int) (w : World) : Sem.run Try.prog (Instr.index 152 (.agg #[.int .i64 a, .int .i64 b, .int .i64 c]) (.int .i64 1)) w = .ok (.int .i64 b) w := by
 have u := Try.underlying152
 have z := Try.sizeOf3
 have g := Try.isAgg3
 unfold Instr.index
 go_simp
theorem idx2 (a b c : Int) (w : World) : Sem.run Try.prog (Instr.index 152 (.agg #[.int .i64 a, .int .i64 b, .int .i64 c]) (.int .i64 2)) w = .ok (.int .i64 c) w := by
 have u := Try.underlying152
 have z := Try.sizeOf3
 have g := Try.isAgg3
 unfold Instr.index
 go_simp
set_option maxHeartbeats 4000000 in
set_option maxRecDepth 100000 in
theorem limited_any (a b c : Int) (w : World) :
  Calls Try.prog 117 #[.agg #[.int .i64 a, .int .i64 b, .int .i64 c]] w fun e w' => e = .returned (.agg #[.int .i64 (limI a), .int .i64 (limI b), .int .i64 (limI c)]) ∧ Below w.heap.size w w' := by
 have i0 := idx0 a b c
 have i1 := idx1 a b c
 have i2 := idx2 a b c
 go_enter Try.func117, Try.ntmps117
 go_wp2
 refine wp_loop_rounds 4 ?_
 rw [rounds_succ]
 go_wp2
 rw [rounds_succ]
 go_wp2
 rw [rounds_succ]
 go_wp2
 rw [rounds_succ]
 go_wp2
 refine bodyPost_ret (v := .agg #[.int .i64 (limI a), .int .i64 (limI b), .int .i64 (limI c)]) ?_ rfl ?_
 ·
  simp [results, Try.f117, go_sem, limI]
 refine ⟨rfl, ?_⟩
 exact ((Below.refl _ w).alloc (Nat.le_refl _) _).alloc (by simp) _
theorem eqIn_arr (d : Nat) (a b c x y z : Int) (w : World) : (Op.equalIn (d + 2) 152 (.agg #[.int .i64 a, .int .i64 b, .int .i64 c]) (.agg #[.int .i64 x, .int .i64 y, .int .i64 z])).run Try.prog w = .ok (a == x && b == y && c == z) w := by
 have u := Try.underlying152
 have u3 := Try.underlying3
 have z3 := Try.sizeOf3
 have g := Try.isAgg3
 rw [Op.equalIn]
 simp only [Sem.run_bind, run_underlying u, Result.andThen_ok, z3]
 simp only [Std.Legacy.Range.forIn_eq_forIn_range', Std.Legacy.Range.size]
 simp [List.range', g, z3, go_sem, run_equalIn_int (P := Try.prog) _ d _ _ _ _ _ u3]
 by_cases h1 : a = x <;> by_cases h2 : b = y <;> by_cases h3 : c = z <;> simp [h1, h2, h3]
theorem eql_arr (a b c x y z : Int) (w : World) : Sem.run Try.prog (binOp .eql 152 (.agg #[.int .i64 a, .int .i64 b, .int .i64 c]) (.agg #[.int .i64 x, .int .i64 y, .int .i64 z])) w = .ok (.bool (a == x && b == y && c == z)) w := by
 rw [run_eql_struct, show (10000 : Nat) = 9998 + 2 from rfl, eqIn_arr]
 rfl
theorem guard_arr (o1 o2 : Operand) (xs ys : Array Value) (w : World) : Sem.run Try.prog (eqGuard .eql 152 o1 o2 (.agg xs) (.agg ys)) w = .ok () w := run_eqGuard_agg w _ _ _ _ _ _ (by kernel_rfl)
theorem guard_rec (o1 o2 : Operand) (xs ys : Array Value) (w : World) : Sem.run Try.prog (eqGuard .eql 154 o1 o2 (.agg xs) (.agg ys)) w = .ok () w := run_eqGuard_agg w _ _ _ _ _ _ (by kernel_rfl)
set_option maxHeartbeats 2000000 in
theorem eql_rec (i n a b c j m x y z : Int) (w : World) : Sem.run Try.prog (binOp .eql 154 (.agg #[.int .i64 i, .int .i64 n, .int .i64 a, .int .i64 b, .int .i64 c]) (.agg #[.int .i64 j, .int .i64 m, .int .i64 x, .int .i64 y, .int .i64 z])) w = .ok (.bool (i == j && n == m && (a == x && b == y && c == z))) w := by
 have hS : Try.prog.underlying 154 = some (.struct (Try.prog.fieldsOf 154)) := by kernel_rfl
 have hp : Try.prog.stoodInHeld 154 = false := by kernel_rfl
 have u := Try.underlying3
 have z3 := Try.sizeOf3
 have g := Try.isAgg3
 have ga := Try.isAgg152
 have za := Try.sizeOf152
 rw [run_eql_struct, show (10000 : Nat) = 9999 + 1 from rfl, run_equalIn_agg w 9999 154 _ _ hS hp]
 simp only [Program.fieldsOf, Try.underlying154]
 have hh := fun w => eqIn_arr 9997 a b c x y z w
 simp only [show 9997 + 2 = 9999 from rfl] at hh
 go_simp
 by_cases h1 : i = j <;> by_cases h2 : n = m <;> by_cases h3 : a = x <;> by_cases h4 : b = y <;> by_cases h5 : c = z <;> simp [h1, h2, h3, h4, h5]
theorem isRowId_yes (id : Int) (w : World) (h1 : 0 ≤ id) (h2 : id ≤ 999) : Calls Try.prog 116 #[.int .i64 id] w fun e w' => e = .returned (.bool true) ∧ w' = w := by
 go_enter Try.func116, Try.ntmps116
 go_wp2
 go_ret
 exact ⟨rfl, rfl⟩
theorem isRowId_no (id : Int) (w : World) (h : ¬ (0 ≤ id ∧ id ≤ 999)) : Calls Try.prog 116 #[.int .i64 id] w fun e w' => e = .returned (.bool false) ∧ w' = w := by
 by_cases h1 : 0 ≤ id
 ·
  have h2 : ¬ id ≤ 999 := fun g => h ⟨h1, g⟩
  clear h
  go_enter Try.func116, Try.ntmps116
  go_wp2
  go_ret
  exact ⟨rfl, rfl⟩
 ·
  clear h
  go_enter Try.func116, Try.ntmps116
  go_wp2
  go_ret
  exact ⟨rfl, rfl⟩
/-- Is a record valid? -/
def recB (id n a b c : Int) : Bool := decide (0 ≤ id ∧ id ≤ 999) && (decide (n = 3) && (a == limI a && b == limI b && c == limI c))
theorem lim_in (x : Int) : (x == limI x) = decide (0 ≤ x ∧ x ≤ 99) := by
 unfold limI
 by_cases h : 0 ≤ x ∧ x ≤ 99
 ·
  rw [decide_eq_true h, beq_iff_eq]; omega
 ·
  rw [decide_eq_false h, beq_eq_false_iff_ne]; omega
theorem recB_row (id : Int) (xs : List Int) : recB id xs.length (xs.getD 0 0) (xs.getD 1 0) (xs.getD 2 0) = rowB (id, xs) := by
 unfold recB rowB
 simp only [lim_in]
 match xs with
 | [] => simp
 | [x] => simp
 | [x, y] => simp
 | [x, y, z] => simp [List.all, Bool.and_assoc]
 | x :: y :: z :: u :: r =>
  have : ¬ ((r.length : Int) + 1 + 1 + 1 + 1 = 3) := by omega
  simp [this]
theorem below_from {W w8 w9 : World} (h : w8 = W.drew) (b : Below w8.heap.size w8 w9) : Below W.heap.size W w9 := by subst h; exact ⟨b.os, b.tape, b.output, b.size, b.block⟩
set_option maxHeartbeats 8000000 in
set_option maxRecDepth 100000 in
theorem isValid_id (id n a b c : Int) (w : World) (h : ¬ (0 ≤ id ∧ id ≤ 999)) :
  Calls Try.prog 107 #[.agg #[.int .i64 id, .int .i64 n, .int .i64 a, .int .i64 b, .int .i64 c]] w fun e w' => e = .returned (.bool (false)) ∧ Below w.heap.size w w' := by
 have HI := Lib.hid (fun w => isRowId_no id w h)
 clear h
 go_enter Try.func107, Try.ntmps107
 go_wp2
 have hh : Below w.heap.size w (w.alloc (.cells #[.int .i64 id, .int .i64 n, .int .i64 a, .int .i64 b, .int .i64 c] 154)) := (Below.refl _ w).alloc (Nat.le_refl _) _
 have g0 := heap_alloc_new w (.cells #[.int .i64 id, .int .i64 n, .int .i64 a, .int .i64 b, .int .i64 c] 154)
 have hlt : w.heap.size < (w.alloc (.cells #[.int .i64 id, .int .i64 n, .int .i64 a, .int .i64 b, .int .i64 c] 154)).heap.size := by simp
 generalize w.alloc (.cells #[.int .i64 id, .int .i64 n, .int .i64 a, .int .i64 b, .int .i64 c] 154) = W at *
 have q0 := cell_of_row W _ 0 _ _ _ g0
 have q1 := cell_of_row W _ 1 _ _ _ g0
 have q2 := cell_of_row W _ 2 _ _ _ g0
 have q3 := cell_of_row W _ 3 _ _ _ g0
 have q4 := cell_of_row W _ 4 _ _ _ g0
 simp at q0 q1 q2 q3 q4
 refine wp_region_held_drew (S := fun w' => w'.cell? ⟨w.heap.size, 0, none⟩ = some (.int .i64 id) ∧ w'.cell? ⟨w.heap.size, 1, none⟩ = some (.int .i64 n) ∧ w'.cell? ⟨w.heap.size, 2, none⟩ = some (.int .i64 a) ∧ w'.cell? ⟨w.heap.size, 3, none⟩ = some (.int .i64 b) ∧ w'.cell? ⟨w.heap.size, 4, none⟩ = some (.int .i64 c)) (by kernel_rfl) ⟨q0, q1, q2, q3, q4⟩ (fun hHeld => ?_)
 refine tR (i := 0) (v := ?_) ?_ ?_; rotate_left
 ·
  intro w hSw; (try dsimp only at hSw); go_simp; try (with_reducible rfl)
 try simp only [Act.put, lA, lB, lC]
 refine tR (i := 1) (v := ?_) ?_ ?_; rotate_left
 ·
  intro w hSw; (try dsimp only at hSw); go_simp; try (with_reducible rfl)
 try simp only [Act.put, lA, lB, lC]
 refine wpAnyH_ready (rs := [2]) (by kernel_rfl) (by simp) ?_
 refine AllReadyH.cons (o := _) (by simp only [hA, hB, hC]; rfl) (fun K hK => ?_) AllReadyH.nil
 go_simp
 refine (HI.out _).mono ?_
 rintro e w8 ⟨rfl, rfl⟩
 refine hK.out _ _ ⟨q0, q1, q2, q3, q4⟩ (fun hHeld => ?_)
 clear hK K
 try simp only [Act.put, lA, lB, lC]
 refine tR (i := 3) (v := ?_) ?_ ?_; rotate_left
 ·
  intro w hSw; (try dsimp only at hSw); go_simp; try (with_reducible rfl)
 try simp only [Act.put, lA, lB, lC]
 refine tO (i := 4) ?_
 try simp only [Act.put, lA, lB, lC]
 refine tO (i := 5) ?_
 try simp only [Act.put, lA, lB, lC]
 refine tO (i := 6) ?_
 try simp only [Act.put, lA, lB, lC]
 refine tR (i := 7) (v := ?_) ?_ ?_; rotate_left
 ·
  intro w hSw; (try dsimp only at hSw); go_simp; try (with_reducible rfl)
 try simp only [Act.put, lA, lB, lC]
 refine tR (i := 8) (v := ?_) ?_ ?_; rotate_left
 ·
  intro w hSw; (try dsimp only at hSw); go_simp; try (with_reducible rfl)
 try simp only [Act.put, lA, lB, lC]
 refine tO (i := 9) ?_
 try simp only [Act.put, lA, lB, lC]
 refine tO (i := 10) ?_
 try simp only [Act.put, lA, lB, lC]
 refine tO (i := 11) ?_
 try simp only [Act.put, lA, lB, lC]
 refine tO (i := 12) ?_
 try simp only [Act.put, lA, lB, lC]
 refine tO (i := 13) ?_
 try simp only [Act.put, lA, lB, lC]
 refine tO (i := 14) ?_
 try simp only [Act.put, lA, lB, lC]
 refine tR (i := 15) (v := ?_) ?_ ?_; rotate_left
 ·
  intro w hSw; (try dsimp only at hSw); go_simp; try (with_reducible rfl)
 try simp only [Act.put, lA, lB, lC]
 refine tR (i := 16) (v := ?_) ?_ ?_; rotate_left
 ·
  intro w hSw; (try dsimp only at hSw); go_simp; try (with_reducible rfl)
 try simp only [Act.put, lA, lB, lC]
 refine wpAnyH_done (by kernel_rfl) ?_ _
 have b11 : Below w.heap.size w W.drew := below_drew hh
 clear hHeld
 go_wp2
 go_ret
 exact ⟨rfl, b11⟩
set_option maxHeartbeats 8000000 in
set_option maxRecDepth 100000 in
theorem isValid_count (id n a b c : Int) (w : World) (h1 : 0 ≤ id) (h2 : id ≤ 999) (h3 : ¬ n = 3) :
  Calls Try.prog 107 #[.agg #[.int .i64 id, .int .i64 n, .int .i64 a, .int .i64 b, .int .i64 c]] w fun e w' => e = .returned (.bool (false)) ∧ Below w.heap.size w w' := by
 have HI := Lib.hid (fun w => isRowId_yes id w h1 h2)
 clear h1 h2
 have hd : (n == 3) = false := by simpa using h3
 clear h3
 go_enter Try.func107, Try.ntmps107
 go_wp2
 have hh : Below w.heap.size w (w.alloc (.cells #[.int .i64 id, .int .i64 n, .int .i64 a, .int .i64 b, .int .i64 c] 154)) := (Below.refl _ w).alloc (Nat.le_refl _) _
 have g0 := heap_alloc_new w (.cells #[.int .i64 id, .int .i64 n, .int .i64 a, .int .i64 b, .int .i64 c] 154)
 have hlt : w.heap.size < (w.alloc (.cells #[.int .i64 id, .int .i64 n, .int .i64 a, .int .i64 b, .int .i64 c] 154)).heap.size := by simp
 generalize w.alloc (.cells #[.int .i64 id, .int .i64 n, .int .i64 a, .int .i64 b, .int .i64 c] 154) = W at *
 have q0 := cell_of_row W _ 0 _ _ _ g0
 have q1 := cell_of_row W _ 1 _ _ _ g0
 have q2 := cell_of_row W _ 2 _ _ _ g0
 have q3 := cell_of_row W _ 3 _ _ _ g0
 have q4 := cell_of_row W _ 4 _ _ _ g0
 simp at q0 q1 q2 q3 q4
 refine wp_region_held_drew (S := fun w' => w'.cell? ⟨w.heap.size, 0, none⟩ = some (.int .i64 id) ∧ w'.cell? ⟨w.heap.size, 1, none⟩ = some (.int .i64 n) ∧ w'.cell? ⟨w.heap.size, 2, none⟩ = some (.int .i64 a) ∧ w'.cell? ⟨w.heap.size, 3, none⟩ = some (.int .i64 b) ∧ w'.cell? ⟨w.heap.size, 4, none⟩ = some (.int .i64 c)) (by kernel_rfl) ⟨q0, q1, q2, q3, q4⟩ (fun hHeld => ?_)
 refine tR (i := 0) (v := ?_) ?_ ?_; rotate_left
 ·
  intro w hSw; (try dsimp only at hSw); go_simp; try (with_reducible rfl)
 try simp only [Act.put, lA, lB, lC]
 refine tR (i := 1) (v := ?_) ?_ ?_; rotate_left
 ·
  intro w hSw; (try dsimp only at hSw); go_simp; try (with_reducible rfl)
 try simp only [Act.put, lA, lB, lC]
 refine wpAnyH_ready (rs := [2]) (by kernel_rfl) (by simp) ?_
 refine AllReadyH.cons (o := _) (by simp only [hA, hB, hC]; rfl) (fun K hK => ?_) AllReadyH.nil
 go_simp
 refine (HI.out _).mono ?_
 rintro e w8 ⟨rfl, rfl⟩
 refine hK.out _ _ ⟨q0, q1, q2, q3, q4⟩ (fun hHeld => ?_)
 clear hK K
 try simp only [Act.put, lA, lB, lC]
 refine tR (i := 3) (v := ?_) ?_ ?_; rotate_left
 ·
  intro w hSw; (try dsimp only at hSw); go_simp; try (with_reducible rfl)
 try simp only [Act.put, lA, lB, lC]
 refine tR (i := 4) (v := ?_) ?_ ?_; rotate_left
 ·
  intro w hSw; (try dsimp only at hSw); go_simp; try (with_reducible rfl)
 try simp only [Act.put, lA, lB, lC]
 refine tR (i := 5) (v := ?_) ?_ ?_; rotate_left
 ·
  intro w hSw; (try dsimp only at hSw); go_simp; try (with_reducible rfl)
 try simp only [Act.put, lA, lB, lC]
 refine tR (i := 6) (v := ?_) ?_ ?_; rotate_left
 ·
  intro w hSw; (try dsimp only at hSw); go_simp; try (with_reducible rfl)
 try simp only [Act.put, lA, lB, lC]
 refine tR (i := 7) (v := ?_) ?_ ?_; rotate_left
 ·
  intro w hSw; (try dsimp only at hSw); go_simp; try (with_reducible rfl)
 try simp only [Act.put, lA, lB, lC]
 refine tR (i := 8) (v := ?_) ?_ ?_; rotate_left
 ·
  intro w hSw; (try dsimp only at hSw); go_simp; try (with_reducible rfl)
 try simp only [Act.put, lA, lB, lC]
 refine tO (i := 9) ?_
 try simp only [Act.put, lA, lB, lC]
 refine tO (i := 10) ?_
 try simp only [Act.put, lA, lB, lC]
 refine tO (i := 11) ?_
 try simp only [Act.put, lA, lB, lC]
 refine tO (i := 12) ?_
 try simp only [Act.put, lA, lB, lC]
 refine tO (i := 13) ?_
 try simp only [Act.put, lA, lB, lC]
 refine tO (i := 14) ?_
 try simp only [Act.put, lA, lB, lC]
 refine tR (i := 15) (v := ?_) ?_ ?_; rotate_left
 ·
  intro w hSw; (try dsimp only at hSw); go_simp; try (with_reducible rfl)
 try simp only [Act.put, lA, lB, lC]
 refine tR (i := 16) (v := ?_) ?_ ?_; rotate_left
 ·
  intro w hSw; (try dsimp only at hSw); go_simp; try (with_reducible rfl)
 try simp only [Act.put, lA, lB, lC]
 refine wpAnyH_done (by kernel_rfl) ?_ _
 have b11 : Below w.heap.size w W.drew := below_drew hh
 clear hHeld
 go_wp2
 go_ret
 exact ⟨rfl, b11⟩
set_option maxHeartbeats 8000000 in
set_option maxRecDepth 100000 in
theorem isValid_all (id n a b c : Int) (w : World) (h1 : 0 ≤ id) (h2 : id ≤ 999) (h3 : n = 3) :
  Calls Try.prog 107 #[.agg #[.int .i64 id, .int .i64 n, .int .i64 a, .int .i64 b, .int .i64 c]] w fun e w' => e = .returned (.bool (a == limI a && b == limI b && c == limI c)) ∧ Below w.heap.size w w' := by
 have HI := Lib.hid (fun w => isRowId_yes id w h1 h2)
 clear h1 h2
 have hd : (n == 3) = true := by simpa using h3
 clear h3
 have HL := Lib.hid (fun w => limited_any a b c w)
 have he := fun w => eql_arr a b c (limI a) (limI b) (limI c) w
 have hgd := fun (o1 o2 : Operand) (xs ys : Array Value) (w : World) => guard_arr o1 o2 xs ys w
 generalize hr : (a == limI a && b == limI b && c == limI c) = r at he ⊢
 clear hr
 go_enter Try.func107, Try.ntmps107
 go_wp2
 have hh : Below w.heap.size w (w.alloc (.cells #[.int .i64 id, .int .i64 n, .int .i64 a, .int .i64 b, .int .i64 c] 154)) := (Below.refl _ w).alloc (Nat.le_refl _) _
 have g0 := heap_alloc_new w (.cells #[.int .i64 id, .int .i64 n, .int .i64 a, .int .i64 b, .int .i64 c] 154)
 have hlt : w.heap.size < (w.alloc (.cells #[.int .i64 id, .int .i64 n, .int .i64 a, .int .i64 b, .int .i64 c] 154)).heap.size := by simp
 generalize w.alloc (.cells #[.int .i64 id, .int .i64 n, .int .i64 a, .int .i64 b, .int .i64 c] 154) = W at *
 have q0 := cell_of_row W _ 0 _ _ _ g0
 have q1 := cell_of_row W _ 1 _ _ _ g0
 have q2 := cell_of_row W _ 2 _ _ _ g0
 have q3 := cell_of_row W _ 3 _ _ _ g0
 have q4 := cell_of_row W _ 4 _ _ _ g0
 simp at q0 q1 q2 q3 q4
 refine wp_region_held_drew (S := fun w' => w'.cell? ⟨w.heap.size, 0, none⟩ = some (.int .i64 id) ∧ w'.cell? ⟨w.heap.size, 1, none⟩ = some (.int .i64 n) ∧ w'.cell? ⟨w.heap.size, 2, none⟩ = some (.int .i64 a) ∧ w'.cell? ⟨w.heap.size, 3, none⟩ = some (.int .i64 b) ∧ w'.cell? ⟨w.heap.size, 4, none⟩ = some (.int .i64 c)) (by kernel_rfl) ⟨q0, q1, q2, q3, q4⟩ (fun hHeld => ?_)
 refine tR (i := 0) (v := ?_) ?_ ?_; rotate_left
 ·
  intro w hSw; (try dsimp only at hSw); go_simp; try (with_reducible rfl)
 try simp only [Act.put, lA, lB, lC]
 refine tR (i := 1) (v := ?_) ?_ ?_; rotate_left
 ·
  intro w hSw; (try dsimp only at hSw); go_simp; try (with_reducible rfl)
 try simp only [Act.put, lA, lB, lC]
 refine wpAnyH_ready (rs := [2]) (by kernel_rfl) (by simp) ?_
 refine AllReadyH.cons (o := _) (by simp only [hA, hB, hC]; rfl) (fun K hK => ?_) AllReadyH.nil
 go_simp
 refine (HI.out _).mono ?_
 rintro e w8 ⟨rfl, rfl⟩
 refine hK.out _ _ ⟨q0, q1, q2, q3, q4⟩ (fun hHeld => ?_)
 clear hK K
 try simp only [Act.put, lA, lB, lC]
 refine tR (i := 3) (v := ?_) ?_ ?_; rotate_left
 ·
  intro w hSw; (try dsimp only at hSw); go_simp; try (with_reducible rfl)
 try simp only [Act.put, lA, lB, lC]
 refine tR (i := 4) (v := ?_) ?_ ?_; rotate_left
 ·
  intro w hSw; (try dsimp only at hSw); go_simp; try (with_reducible rfl)
 try simp only [Act.put, lA, lB, lC]
 refine tR (i := 5) (v := ?_) ?_ ?_; rotate_left
 ·
  intro w hSw; (try dsimp only at hSw); go_simp; try (with_reducible rfl)
 try simp only [Act.put, lA, lB, lC]
 refine tR (i := 6) (v := ?_) ?_ ?_; rotate_left
 ·
  intro w hSw; (try dsimp only at hSw); go_simp; try (with_reducible rfl)
 try simp only [Act.put, lA, lB, lC]
 refine tR (i := 7) (v := ?_) ?_ ?_; rotate_left
 ·
  intro w hSw; (try dsimp only at hSw); go_simp; try (with_reducible rfl)
 try simp only [Act.put, lA, lB, lC]
 refine tR (i := 8) (v := ?_) ?_ ?_; rotate_left
 ·
  intro w hSw; (try dsimp only at hSw); go_simp; try (with_reducible rfl)
 try simp only [Act.put, lA, lB, lC]
 refine tR (i := 9) (v := ?_) ?_ ?_; rotate_left
 ·
  intro w hSw; (try dsimp only at hSw); go_simp; try (with_reducible rfl)
 try simp only [Act.put, lA, lB, lC]
 refine tR (i := 10) (v := ?_) ?_ ?_; rotate_left
 ·
  intro w hSw; (try dsimp only at hSw); go_simp; try (with_reducible rfl)
 try simp only [Act.put, lA, lB, lC]
 refine tR (i := 11) (v := ?_) ?_ ?_; rotate_left
 ·
  intro w hSw; (try dsimp only at hSw); go_simp; try (with_reducible rfl)
 try simp only [Act.put, lA, lB, lC]
 refine tR (i := 12) (v := ?_) ?_ ?_; rotate_left
 ·
  intro w hSw; (try dsimp only at hSw); go_simp; try (with_reducible rfl)
 try simp only [Act.put, lA, lB, lC]
 refine wpAnyH_ready (rs := [13]) (by kernel_rfl) (by simp) ?_
 refine AllReadyH.cons (o := _) (by simp only [hA, hB, hC]; rfl) (fun K hK => ?_) AllReadyH.nil
 go_simp
 refine (HL.out _).mono ?_
 rintro e w9 ⟨rfl, b9⟩
 have b10 : Below W.heap.size W w9 := below_from rfl b9
 have g2 := (b10.block w.heap.size hlt).trans g0
 have r0 := cell_of_row w9 _ 0 _ _ _ g2
 have r1 := cell_of_row w9 _ 1 _ _ _ g2
 have r2 := cell_of_row w9 _ 2 _ _ _ g2
 have r3 := cell_of_row w9 _ 3 _ _ _ g2
 have r4 := cell_of_row w9 _ 4 _ _ _ g2
 simp at r0 r1 r2 r3 r4
 refine hK.out _ _ ⟨r0, r1, r2, r3, r4⟩ (fun hHeld => ?_)
 clear hK K
 try simp only [Act.put, lA, lB, lC]
 refine tR (i := 14) (v := ?_) ?_ ?_; rotate_left
 ·
  intro w hSw; (try dsimp only at hSw); go_simp; try (with_reducible rfl)
 try simp only [Act.put, lA, lB, lC]
 refine tR (i := 15) (v := ?_) ?_ ?_; rotate_left
 ·
  intro w hSw; (try dsimp only at hSw); go_simp; try (with_reducible rfl)
 try simp only [Act.put, lA, lB, lC]
 refine tR (i := 16) (v := ?_) ?_ ?_; rotate_left
 ·
  intro w hSw; (try dsimp only at hSw); go_simp; try (with_reducible rfl)
 try simp only [Act.put, lA, lB, lC]
 refine wpAnyH_done (by kernel_rfl) ?_ _
 have b11 := hh.trans (b10.mono hh.size)
 clear hHeld b9 b10
 go_wp2
 go_ret
 exact ⟨rfl, b11⟩
theorem isValid_any (id n a b c : Int) (w : World) :
  Calls Try.prog 107 #[.agg #[.int .i64 id, .int .i64 n, .int .i64 a, .int .i64 b, .int .i64 c]] w fun e w' => e = .returned (.bool (recB id n a b c)) ∧ Below w.heap.size w w' := by
 by_cases h : 0 ≤ id ∧ id ≤ 999
 ·
  by_cases h3 : n = 3
  ·
   have e : recB id n a b c = (a == limI a && b == limI b && c == limI c) := by unfold recB; rw [decide_eq_true h, decide_eq_true h3]; simp
   rw [e]
   exact isValid_all id n a b c w h.1 h.2 h3
  ·
   have e : recB id n a b c = false := by unfold recB; rw [decide_eq_false h3]; simp
   rw [e]
   exact isValid_count id n a b c w h.1 h.2 h3
 ·
  have e : recB id n a b c = false := by unfold recB; rw [decide_eq_false h]; simp
  rw [e]
  exact isValid_id id n a b c w h
set_option maxHeartbeats 4000000 in
set_option maxRecDepth 100000 in
theorem implIsRow (id : Int) (vv : Value) (xs : List Int) (w : World) (h : Ints w vv xs) (hn : xs.length ≤ 1048576) :
  Calls Try.prog 88 #[.agg #[.int .i64 id, vv]] w fun e w' => e = .returned (.bool (rowB (id, xs))) ∧ Below w.heap.size w w' := by
 have HR := Lib.hid (fun w h => recordOf_any id vv xs w h hn)
 have HV := Lib.hid (fun w => isValid_any id xs.length (xs.getD 0 0) (xs.getD 1 0) (xs.getD 2 0) w)
 rw [recB_row] at HV
 have H := Lib.hid h
 unfold recV at HR
 clear h hn
 generalize xs.getD 0 0 = x0 at *
 generalize xs.getD 1 0 = x1 at *
 generalize xs.getD 2 0 = x2 at *
 generalize rowB (id, xs) = r at *
 go_enter Try.func88, Try.ntmps88
 go_wp2_with fail
 have hb : Below w.heap.size w (w.alloc (.cells #[.int .i64 id, vv] 29)) := (Below.refl _ w).alloc (Nat.le_refl _) _
 refine (HR.out _ (ints_below H.out hb)).mono ?_
 rintro e w1 ⟨rfl, b1⟩
 have b2 := hb.trans (b1.mono hb.size)
 clear hb b1
 go_wp2_with fail
 refine (HV.out _).mono ?_
 rintro e w2 ⟨rfl, b3⟩
 have b4 := b2.trans (b3.mono b2.size)
 clear b2 b3
 go_wp2
 go_ret
 exact ⟨rfl, b4⟩
set_option maxHeartbeats 4000000 in
set_option maxRecDepth 100000 in
theorem implVisible (id born died t : Int) (vv : Value) (w : World) :
  Calls Try.prog 105 #[.agg #[.int .i64 id, vv, .int .i64 born, .int .i64 died], .int .i64 t] w fun e w' => e = .returned (.bool (decide (visP born died t))) ∧ Below w.heap.size w w' := by
 have hb : Below w.heap.size w (w.alloc (.cells #[.int .i64 id, vv, .int .i64 born, .int .i64 died] 88)) := (Below.refl _ w).alloc (Nat.le_refl _) _
 by_cases h1 : born ≤ t
 ·
  by_cases h2 : died = -1
  ·
   have HD : Hid (decide (visP born died t) = true) := Lib.hid (decide_eq_true ⟨h1, Or.inl h2⟩)
   have e2 : (died == -1) = true := by simp [h2]
   clear h2
   rw [HD.out]
   go_enter Try.func105, Try.ntmps105
   go_wp2
   go_ret
   exact ⟨rfl, hb⟩
  ·
   have e2 : (died == -1) = false := by simp [h2]
   by_cases h3 : t < died
   ·
    have HD : Hid (decide (visP born died t) = true) := Lib.hid (decide_eq_true ⟨h1, Or.inr h3⟩)
    clear h2
    rw [HD.out]
    go_enter Try.func105, Try.ntmps105
    go_wp2
    go_ret
    exact ⟨ret_b (by simp [h3]), hb⟩
   ·
    have HD : Hid (decide (visP born died t) = false) := Lib.hid (decide_eq_false (fun g => by unfold visP at g; omega))
    have e3 : decide (t < died) = false := decide_eq_false h3
    clear h2
    rw [HD.out]
    go_enter Try.func105, Try.ntmps105
    go_wp2
    go_ret
    exact ⟨ret_b (by first | rfl | simp [h3]), hb⟩
 ·
  have HD : Hid (decide (visP born died t) = false) := Lib.hid (decide_eq_false (fun g => h1 g.1))
  rw [HD.out]
  go_enter Try.func105, Try.ntmps105
  go_wp2
  go_ret
  exact ⟨rfl, hb⟩
set_option maxHeartbeats 4000000 in
set_option maxRecDepth 100000 in
theorem verRow_any (id born died : Int) (va : Option Addr) (n vc : Nat) (w : World) :
  Calls Try.prog 120 #[.agg #[.int .i64 id, .slice va n vc, .int .i64 born, .int .i64 died]] w fun e w' => e = .returned (.agg #[.int .i64 id, .slice va n vc]) ∧ Below w.heap.size w w' := by
 have d0 := Lib.hid (show Below w.heap.size w ((w.alloc (.cells #[.int .i64 id, .slice va n vc, .int .i64 born, .int .i64 died] 88)).alloc (.cells #[.int .i64 id, .slice va n vc] 29)) from ((Below.refl _ w).alloc (Nat.le_refl _) _).alloc (by simp) _)
 have k1 : ((w.alloc (.cells #[.int .i64 id, .slice va n vc, .int .i64 born, .int .i64 died] 88)).alloc (.cells #[.int .i64 id, .slice va n vc] 29)).heap[w.heap.size + 1]? = some (.cells #[.int .i64 id, .slice va n vc] 29 (0, 0)) := by
  have := heap_alloc_new (w.alloc (.cells #[.int .i64 id, .slice va n vc, .int .i64 born, .int .i64 died] 88)) (.cells #[.int .i64 id, .slice va n vc] 29)
  simpa only [World.size_alloc] using this
 have e0 := cell_of_row _ _ 0 _ _ _ k1
 have e1 := cell_of_row _ _ 1 _ _ _ k1
 simp at e0 e1
 have E0 := Lib.hid e0
 have E1 := Lib.hid e1
 clear k1 e0 e1
 go_enter Try.func120, Try.ntmps120
 go_wp2
 refine bodyPost_ret (v := .agg #[.int .i64 id, .slice va n vc]) ?_ rfl ?_
 ·
  have e0 := E0.out
  have e1 := E1.out
  simp [results, Try.f120, go_sem, e0, e1]
 ·
  exact ⟨rfl, d0.out⟩
set_option maxHeartbeats 8000000 in
set_option maxRecDepth 100000 in
theorem isVersion_any (id born died now : Int) (vv : Value) (xs : List Int) (w : World) (h : Ints w vv xs) (hn : xs.length ≤ 1048576) :
  Calls Try.prog 112 #[.agg #[.int .i64 id, vv, .int .i64 born, .int .i64 died], .int .i64 now] w fun e w' => e = .returned (.bool (verB (id, xs, born, died) now)) ∧ Below w.heap.size w w' := by
 obtain ⟨va, vc, rfl⟩ := ints_len h
 have HR := Lib.hid (fun W g => implIsRow id (.slice va xs.length vc) xs W g hn)
 have H := Lib.hid h
 have d0 := Lib.hid (show Below w.heap.size w (w.alloc (.cells #[.int .i64 id, .slice va xs.length vc, .int .i64 born, .int .i64 died] 88)) from (Below.refl _ _).alloc (Nat.le_refl _) _)
 have B0 : Hid ((w.alloc (.cells #[.int .i64 id, .slice va xs.length vc, .int .i64 born, .int .i64 died] 88)).heap[w.heap.size]? = some (.cells #[.int .i64 id, .slice va xs.length vc, .int .i64 born, .int .i64 died] 88 (0, 0))) := Lib.hid (heap_alloc_new w _)
 have Y0 : Hid (w.heap.size < (w.alloc (.cells #[.int .i64 id, .slice va xs.length vc, .int .i64 born, .int .i64 died] 88)).heap.size) := Lib.hid (by simp [World.size_alloc])
 have HV : Hid (∀ r l, rowB (id, xs) = r → decide (lifeP born died now) = l → verB (id, xs, born, died) now = (r && l)) := Lib.hid (fun r l h1 h2 => by unfold verB; rw [h1]; show (r && decide (lifeP born died now)) = _; rw [h2])
 clear h hn
 cases hr : rowB (id, xs) with
 | false =>
  rw [hr] at HR
  rw [HV.out _ _ hr rfl, Bool.false_and]
  clear hr HV
  go_enter Try.func112, Try.ntmps112
  go_wp2_with fail
  generalize w.alloc (.cells #[.int .i64 id, .slice va xs.length vc, .int .i64 born, .int .i64 died] 88) = W at *
  refine (verRow_any id born died va xs.length vc W).mono ?_
  rintro e w0 ⟨rfl, b0⟩
  have D0 := Lib.hid (d0.out.trans (b0.mono d0.out.size))
  have K0 := Lib.hid ((b0.block w.heap.size Y0.out).trans B0.out)
  have YY := Lib.hid (Nat.lt_of_lt_of_le Y0.out b0.size)
  clear b0
  go_wp2_with fail
  refine (HR.out w0 (ints_below H.out D0.out)).mono ?_
  rintro e w1 ⟨rfl, b1⟩
  have k0 := (b1.block w.heap.size YY.out).trans K0.out
  have b2 := D0.out.trans (b1.mono D0.out.size)
  go_wp2
  go_ret
  exact ⟨rfl, b2⟩
 | true =>
  rw [hr] at HR
  have HV2 := Lib.hid (fun l => HV.out _ l hr)
  clear hr HV
  by_cases h1 : 0 ≤ born
  rotate_left
  ·
   have e1 : decide (0 ≤ born) = false := decide_eq_false h1
   have hl : decide (lifeP born died now) = false := decide_eq_false (fun g => by unfold lifeP at g; omega)
   rw [HV2.out _ hl]
   clear hl
   go_enter Try.func112, Try.ntmps112
   go_wp2_with fail
   generalize w.alloc (.cells #[.int .i64 id, .slice va xs.length vc, .int .i64 born, .int .i64 died] 88) = W at *
   refine (verRow_any id born died va xs.length vc W).mono ?_
   rintro e w0 ⟨rfl, b0⟩
   have D0 := Lib.hid (d0.out.trans (b0.mono d0.out.size))
   have K0 := Lib.hid ((b0.block w.heap.size Y0.out).trans B0.out)
   have YY := Lib.hid (Nat.lt_of_lt_of_le Y0.out b0.size)
   clear b0
   go_wp2_with fail
   refine (HR.out w0 (ints_below H.out D0.out)).mono ?_
   rintro e w1 ⟨rfl, b1⟩
   have k0 := (b1.block w.heap.size YY.out).trans K0.out
   have b2 := D0.out.trans (b1.mono D0.out.size)
   have p0 := (cell_of_row w1 _ 0 _ _ _ k0).trans (show _ = some (Value.int .i64 id) from rfl)
   have p1 := (cell_of_row w1 _ 1 _ _ _ k0).trans (show _ = some (Value.slice va xs.length vc) from rfl)
   have p2 := (cell_of_row w1 _ 2 _ _ _ k0).trans (show _ = some (Value.int .i64 born) from rfl)
   have p3 := (cell_of_row w1 _ 3 _ _ _ k0).trans (show _ = some (Value.int .i64 died) from rfl)
   clear k0
   go_wp2
   go_ret
   exact ⟨ret_b (by first | rfl | simp [*]), b2⟩
  by_cases h2 : born ≤ now
  rotate_left
  ·
   have e2 : decide (born ≤ now) = false := decide_eq_false h2
   have hl : decide (lifeP born died now) = false := decide_eq_false (fun g => by unfold lifeP at g; omega)
   rw [HV2.out _ hl]
   clear hl
   go_enter Try.func112, Try.ntmps112
   go_wp2_with fail
   generalize w.alloc (.cells #[.int .i64 id, .slice va xs.length vc, .int .i64 born, .int .i64 died] 88) = W at *
   refine (verRow_any id born died va xs.length vc W).mono ?_
   rintro e w0 ⟨rfl, b0⟩
   have D0 := Lib.hid (d0.out.trans (b0.mono d0.out.size))
   have K0 := Lib.hid ((b0.block w.heap.size Y0.out).trans B0.out)
   have YY := Lib.hid (Nat.lt_of_lt_of_le Y0.out b0.size)
   clear b0
   go_wp2_with fail
   refine (HR.out w0 (ints_below H.out D0.out)).mono ?_
   rintro e w1 ⟨rfl, b1⟩
   have k0 := (b1.block w.heap.size YY.out).trans K0.out
   have b2 := D0.out.trans (b1.mono D0.out.size)
   have p0 := (cell_of_row w1 _ 0 _ _ _ k0).trans (show _ = some (Value.int .i64 id) from rfl)
   have p1 := (cell_of_row w1 _ 1 _ _ _ k0).trans (show _ = some (Value.slice va xs.length vc) from rfl)
   have p2 := (cell_of_row w1 _ 2 _ _ _ k0).trans (show _ = some (Value.int .i64 born) from rfl)
   have p3 := (cell_of_row w1 _ 3 _ _ _ k0).trans (show _ = some (Value.int .i64 died) from rfl)
   clear k0
   go_wp2
   go_ret
   exact ⟨ret_b (by first | rfl | simp [*]), b2⟩
  by_cases h3 : died = -1
  ·
   have e3 : (died == -1) = true := by simp [h3]
   have hl : decide (lifeP born died now) = true := decide_eq_true ⟨h1, h2, Or.inl h3⟩
   rw [HV2.out _ hl]
   clear hl h3
   go_enter Try.func112, Try.ntmps112
   go_wp2_with fail
   generalize w.alloc (.cells #[.int .i64 id, .slice va xs.length vc, .int .i64 born, .int .i64 died] 88) = W at *
   refine (verRow_any id born died va xs.length vc W).mono ?_
   rintro e w0 ⟨rfl, b0⟩
   have D0 := Lib.hid (d0.out.trans (b0.mono d0.out.size))
   have K0 := Lib.hid ((b0.block w.heap.size Y0.out).trans B0.out)
   have YY := Lib.hid (Nat.lt_of_lt_of_le Y0.out b0.size)
   clear b0
   go_wp2_with fail
   refine (HR.out w0 (ints_below H.out D0.out)).mono ?_
   rintro e w1 ⟨rfl, b1⟩
   have k0 := (b1.block w.heap.size YY.out).trans K0.out
   have b2 := D0.out.trans (b1.mono D0.out.size)
   have p0 := (cell_of_row w1 _ 0 _ _ _ k0).trans (show _ = some (Value.int .i64 id) from rfl)
   have p1 := (cell_of_row w1 _ 1 _ _ _ k0).trans (show _ = some (Value.slice va xs.length vc) from rfl)
   have p2 := (cell_of_row w1 _ 2 _ _ _ k0).trans (show _ = some (Value.int .i64 born) from rfl)
   have p3 := (cell_of_row w1 _ 3 _ _ _ k0).trans (show _ = some (Value.int .i64 died) from rfl)
   clear k0
   go_wp2
   go_ret
   exact ⟨ret_b (by first | rfl | simp [*]), b2⟩
  have e3 : (died == -1) = false := by simp [h3]
  by_cases h4 : born < died
  rotate_left
  ·
   have e4 : decide (born < died) = false := decide_eq_false h4
   have hl : decide (lifeP born died now) = false := decide_eq_false (fun g => by unfold lifeP at g; omega)
   rw [HV2.out _ hl]
   clear hl h3
   go_enter Try.func112, Try.ntmps112
   go_wp2_with fail
   generalize w.alloc (.cells #[.int .i64 id, .slice va xs.length vc, .int .i64 born, .int .i64 died] 88) = W at *
   refine (verRow_any id born died va xs.length vc W).mono ?_
   rintro e w0 ⟨rfl, b0⟩
   have D0 := Lib.hid (d0.out.trans (b0.mono d0.out.size))
   have K0 := Lib.hid ((b0.block w.heap.size Y0.out).trans B0.out)
   have YY := Lib.hid (Nat.lt_of_lt_of_le Y0.out b0.size)
   clear b0
   go_wp2_with fail
   refine (HR.out w0 (ints_below H.out D0.out)).mono ?_
   rintro e w1 ⟨rfl, b1⟩
   have k0 := (b1.block w.heap.size YY.out).trans K0.out
   have b2 := D0.out.trans (b1.mono D0.out.size)
   have p0 := (cell_of_row w1 _ 0 _ _ _ k0).trans (show _ = some (Value.int .i64 id) from rfl)
   have p1 := (cell_of_row w1 _ 1 _ _ _ k0).trans (show _ = some (Value.slice va xs.length vc) from rfl)
   have p2 := (cell_of_row w1 _ 2 _ _ _ k0).trans (show _ = some (Value.int .i64 born) from rfl)
   have p3 := (cell_of_row w1 _ 3 _ _ _ k0).trans (show _ = some (Value.int .i64 died) from rfl)
   clear k0
   go_wp2
   go_ret
   exact ⟨ret_b (by first | rfl | simp [*]), b2⟩
  by_cases h5 : died ≤ now
  ·
   have hl : decide (lifeP born died now) = true := decide_eq_true ⟨h1, h2, Or.inr ⟨h4, h5⟩⟩
   rw [HV2.out _ hl]
   clear hl h3
   go_enter Try.func112, Try.ntmps112
   go_wp2_with fail
   generalize w.alloc (.cells #[.int .i64 id, .slice va xs.length vc, .int .i64 born, .int .i64 died] 88) = W at *
   refine (verRow_any id born died va xs.length vc W).mono ?_
   rintro e w0 ⟨rfl, b0⟩
   have D0 := Lib.hid (d0.out.trans (b0.mono d0.out.size))
   have K0 := Lib.hid ((b0.block w.heap.size Y0.out).trans B0.out)
   have YY := Lib.hid (Nat.lt_of_lt_of_le Y0.out b0.size)
   clear b0
   go_wp2_with fail
   refine (HR.out w0 (ints_below H.out D0.out)).mono ?_
   rintro e w1 ⟨rfl, b1⟩
   have k0 := (b1.block w.heap.size YY.out).trans K0.out
   have b2 := D0.out.trans (b1.mono D0.out.size)
   have p0 := (cell_of_row w1 _ 0 _ _ _ k0).trans (show _ = some (Value.int .i64 id) from rfl)
   have p1 := (cell_of_row w1 _ 1 _ _ _ k0).trans (show _ = some (Value.slice va xs.length vc) from rfl)
   have p2 := (cell_of_row w1 _ 2 _ _ _ k0).trans (show _ = some (Value.int .i64 born) from rfl)
   have p3 := (cell_of_row w1 _ 3 _ _ _ k0).trans (show _ = some (Value.int .i64 died) from rfl)
   clear k0
   go_wp2
   go_ret
   exact ⟨ret_b (by first | rfl | simp [*]), b2⟩
  ·
   have e5 : decide (died ≤ now) = false := decide_eq_false h5
   have hl : decide (lifeP born died now) = false := decide_eq_false (fun g => by unfold lifeP at g; omega)
   rw [HV2.out _ hl]
   clear hl h3
   go_enter Try.func112, Try.ntmps112
   go_wp2_with fail
   generalize w.alloc (.cells #[.int .i64 id, .slice va xs.length vc, .int .i64 born, .int .i64 died] 88) = W at *
   refine (verRow_any id born died va xs.length vc W).mono ?_
   rintro e w0 ⟨rfl, b0⟩
   have D0 := Lib.hid (d0.out.trans (b0.mono d0.out.size))
   have K0 := Lib.hid ((b0.block w.heap.size Y0.out).trans B0.out)
   have YY := Lib.hid (Nat.lt_of_lt_of_le Y0.out b0.size)
   clear b0
   go_wp2_with fail
   refine (HR.out w0 (ints_below H.out D0.out)).mono ?_
   rintro e w1 ⟨rfl, b1⟩
   have k0 := (b1.block w.heap.size YY.out).trans K0.out
   have b2 := D0.out.trans (b1.mono D0.out.size)
   have p0 := (cell_of_row w1 _ 0 _ _ _ k0).trans (show _ = some (Value.int .i64 id) from rfl)
   have p1 := (cell_of_row w1 _ 1 _ _ _ k0).trans (show _ = some (Value.slice va xs.length vc) from rfl)
   have p2 := (cell_of_row w1 _ 2 _ _ _ k0).trans (show _ = some (Value.int .i64 born) from rfl)
   have p3 := (cell_of_row w1 _ 3 _ _ _ k0).trans (show _ = some (Value.int .i64 died) from rfl)
   clear k0
   go_wp2
   go_ret
   exact ⟨ret_b (by first | rfl | simp [*]), b2⟩
set_option maxHeartbeats 8000000 in
set_option maxRecDepth 100000 in
theorem seenWith_any (i1 b1 d1 i2 b2 d2 : Int) (a1 a2 : Option Addr) (n1 c1 n2 c2 : Nat) (w : World) :
  Calls Try.prog 114 #[.agg #[.int .i64 i1, .slice a1 n1 c1, .int .i64 b1, .int .i64 d1], .agg #[.int .i64 i2, .slice a2 n2 c2, .int .i64 b2, .int .i64 d2]] w fun e w' => e = .returned (.bool (decide (seenP i1 b1 d1 i2 b2 d2))) ∧ Below w.heap.size w w' := by
 have d0 := Lib.hid (show Below w.heap.size w ((w.alloc (.cells #[.int .i64 i1, .slice a1 n1 c1, .int .i64 b1, .int .i64 d1] 88)).alloc (.cells #[.int .i64 i2, .slice a2 n2 c2, .int .i64 b2, .int .i64 d2] 88)) from ((Below.refl _ _).alloc (Nat.le_refl _) _).alloc (by simp) _)
 have B1 : Hid (((w.alloc (.cells #[.int .i64 i1, .slice a1 n1 c1, .int .i64 b1, .int .i64 d1] 88)).alloc (.cells #[.int .i64 i2, .slice a2 n2 c2, .int .i64 b2, .int .i64 d2] 88)).heap[w.heap.size + 1]? = some (.cells #[.int .i64 i2, .slice a2 n2 c2, .int .i64 b2, .int .i64 d2] 88 (0, 0))) := Lib.hid (by
  have := heap_alloc_new (w.alloc (.cells #[.int .i64 i1, .slice a1 n1 c1, .int .i64 b1, .int .i64 d1] 88)) (.cells #[.int .i64 i2, .slice a2 n2 c2, .int .i64 b2, .int .i64 d2] 88)
  simpa only [World.size_alloc] using this)
 have B0 : Hid (((w.alloc (.cells #[.int .i64 i1, .slice a1 n1 c1, .int .i64 b1, .int .i64 d1] 88)).alloc (.cells #[.int .i64 i2, .slice a2 n2 c2, .int .i64 b2, .int .i64 d2] 88)).heap[w.heap.size]? = some (.cells #[.int .i64 i1, .slice a1 n1 c1, .int .i64 b1, .int .i64 d1] 88 (0, 0))) := Lib.hid (by
  rw [Below.heap_alloc _ _ _ (by simp)]
  exact heap_alloc_new w _)
 have Y1 : Hid (w.heap.size + 1 < ((w.alloc (.cells #[.int .i64 i1, .slice a1 n1 c1, .int .i64 b1, .int .i64 d1] 88)).alloc (.cells #[.int .i64 i2, .slice a2 n2 c2, .int .i64 b2, .int .i64 d2] 88)).heap.size) := Lib.hid (by simp [World.size_alloc])
 by_cases q1 : i1 = i2
 rotate_left
 ·
  have e1 : (i1 == i2) = false := by simp [q1]
  have HD : Hid (decide (seenP i1 b1 d1 i2 b2 d2) = false) := Lib.hid (decide_eq_false (fun g => q1 g.1))
  rw [HD.out]
  clear q1
  go_enter Try.func114, Try.ntmps114
  go_wp2
  go_ret
  exact ⟨rfl, d0.out⟩
 have e1 : (i1 == i2) = true := by simp [q1]
 have Q1 := Lib.hid q1
 clear q1
 have HV1 := Lib.hid (fun W => implVisible i1 b1 d1 (max b1 b2) (.slice a1 n1 c1) W)
 have HV2 := Lib.hid (fun W => implVisible i2 b2 d2 (max b1 b2) (.slice a2 n2 c2) W)
 have HM : Hid (∃ t, t = max b1 b2) := Lib.hid ⟨_, rfl⟩
 cases h1 : decide (visP b1 d1 (max b1 b2)) with
 | false =>
  have HD : Hid (decide (seenP i1 b1 d1 i2 b2 d2) = false) := Lib.hid (decide_eq_false (fun g => by have := decide_eq_true g.2.1; rw [h1] at this; cases this))
  rw [HD.out]
  rw [h1] at HV1
  clear h1
  go_enter Try.func114, Try.ntmps114
  go_wp2_with fail
  generalize ((w.alloc (.cells #[.int .i64 i1, .slice a1 n1 c1, .int .i64 b1, .int .i64 d1] 88)).alloc (.cells #[.int .i64 i2, .slice a2 n2 c2, .int .i64 b2, .int .i64 d2] 88)) = W at *
  refine (HV1.out W).mono ?_
  rintro e w1 ⟨rfl, c1⟩
  have D1 := d0.out.trans (c1.mono d0.out.size)
  go_wp2
  go_ret
  exact ⟨rfl, D1⟩
 | true =>
  rw [h1] at HV1
  have H1 := Lib.hid (of_decide_eq_true h1)
  clear h1
  obtain ⟨r, hr⟩ : ∃ r, r = decide (visP b2 d2 (max b1 b2)) := ⟨_, rfl⟩
  have HD : Hid (decide (seenP i1 b1 d1 i2 b2 d2) = r) := Lib.hid (by
   rw [hr]
   by_cases g : visP b2 d2 (max b1 b2)
   ·
    rw [decide_eq_true g, decide_eq_true ⟨Q1.out, H1.out, g⟩]
   ·
    rw [decide_eq_false g, decide_eq_false (fun q => g q.2.2)])
  rw [← hr] at HV2
  rw [HD.out]
  clear hr
  go_enter Try.func114, Try.ntmps114
  go_wp2_with fail
  generalize ((w.alloc (.cells #[.int .i64 i1, .slice a1 n1 c1, .int .i64 b1, .int .i64 d1] 88)).alloc (.cells #[.int .i64 i2, .slice a2 n2 c2, .int .i64 b2, .int .i64 d2] 88)) = W at *
  refine (HV1.out W).mono ?_
  rintro e w1 ⟨rfl, e9⟩
  have D1 := Lib.hid (d0.out.trans (e9.mono d0.out.size))
  have k1 := (e9.block (w.heap.size + 1) Y1.out).trans B1.out
  have p0 := (cell_of_row w1 _ 0 _ _ _ k1).trans (show _ = some (Value.int .i64 i2) from rfl)
  have p1 := (cell_of_row w1 _ 1 _ _ _ k1).trans (show _ = some (Value.slice a2 n2 c2) from rfl)
  have p2 := (cell_of_row w1 _ 2 _ _ _ k1).trans (show _ = some (Value.int .i64 b2) from rfl)
  have p3 := (cell_of_row w1 _ 3 _ _ _ k1).trans (show _ = some (Value.int .i64 d2) from rfl)
  clear k1 e9
  go_wp2_with fail
  refine (HV2.out w1).mono ?_
  rintro e w2 ⟨rfl, e8⟩
  have D2 := D1.out.trans (e8.mono D1.out.size)
  clear p0 p1 p2 p3
  go_wp2
  go_ret
  exact ⟨rfl, D2⟩
set_option maxHeartbeats 8000000 in
set_option maxRecDepth 100000 in
theorem isSegmentCount_any (n : Int) (w : World) : Calls Try.prog 66 #[.int .i64 n] w fun e w' => e = .returned (.bool (decide (1 ≤ n ∧ n ≤ 8))) ∧ w' = w := by
 by_cases h1 : 1 ≤ n
 ·
  by_cases h2 : n ≤ 8
  ·
   rw [decide_eq_true ⟨h1, h2⟩]
   go_enter Try.func66, Try.ntmps66
   go_wp2
   go_ret
   exact ⟨ret_b (by first | rfl | simp [h2]), rfl⟩
  ·
   rw [decide_eq_false (fun g => h2 g.2)]
   go_enter Try.func66, Try.ntmps66
   go_wp2
   go_ret
   exact ⟨ret_b (by first | rfl | simp [h2] | (simp; omega)), rfl⟩
 ·
  rw [decide_eq_false (fun g => h1 g.1)]
  go_enter Try.func66, Try.ntmps66
  go_wp2
  go_ret
  exact ⟨rfl, rfl⟩
set_option maxHeartbeats 8000000 in
set_option maxRecDepth 100000 in
theorem isTime_any (n : Int) (w : World) : Calls Try.prog 59 #[.int .i64 n] w fun e w' => e = .returned (.bool (decide (0 ≤ n ∧ n ≤ 100000))) ∧ w' = w := by
 by_cases h1 : 0 ≤ n
 ·
  by_cases h2 : n ≤ 100000
  ·
   rw [decide_eq_true ⟨h1, h2⟩]
   go_enter Try.func59, Try.ntmps59
   go_wp2
   go_ret
   exact ⟨ret_b (by first | rfl | simp [h2]), rfl⟩
  ·
   rw [decide_eq_false (fun g => h2 g.2)]
   go_enter Try.func59, Try.ntmps59
   go_wp2
   go_ret
   exact ⟨ret_b (by first | rfl | simp [h2] | (simp; omega)), rfl⟩
 ·
  rw [decide_eq_false (fun g => h1 g.1)]
  go_enter Try.func59, Try.ntmps59
  go_wp2
  go_ret
  exact ⟨rfl, rfl⟩
/-- Some version of the slice is seen with this one. -/
def anyB (x : VerD) (l : List VerD) : Bool := l.any (fun y => seenB x y)
theorem any_yes {x : VerD} {l : List VerD} {j : Nat} (hj : j < l.length) (h : seenB x (l.getD j v0D) = true) : anyB x l = true := by
 unfold anyB
 rw [List.any_eq_true]
 have e : l.getD j v0D = l[j] := by simp [List.getD, hj]
 exact ⟨l[j], List.getElem_mem _, by rw [← e]; exact h⟩
theorem any_no {x : VerD} {l : List VerD} (h : ∀ j, j < l.length → seenB x (l.getD j v0D) = false) : anyB x l = false := by
 unfold anyB
 rw [List.any_eq_false]
 intro y hy
 obtain ⟨j, hj, rfl⟩ := List.getElem_of_mem hy
 have := h j hj
 have e : l.getD j v0D = l[j] := by simp [List.getD, hj]
 rw [e] at this
 rw [this]; simp
set_option maxHeartbeats 8000000 in
set_option maxRecDepth 100000 in
theorem indexSeen (v : Value) (l : List VerD) (i1 b1 d1 : Int) (xs1 : List Int) (a1 : Option Addr) (n1 cc1 : Nat) (w : World) (h : SlR tVersion w v l) (hs : l.length ≤ 1048576) :
  Calls Try.prog 121 #[v, .func (.func 114) #[.agg #[.int .i64 i1, .slice a1 n1 cc1, .int .i64 b1, .int .i64 d1]] #[]] w fun e w' => (∃ r : Int, e = .returned (.int .i64 r) ∧ decide (0 ≤ r) = anyB (i1, xs1, b1, d1) l) ∧ Below w.heap.size w w' := by
 have H := Lib.hid h
 obtain ⟨a, cap, rfl⟩ := slR_len h
 clear h
 go_enter Try.func121, Try.ntmps121
 go_wp2
 go_loopw [8] (fun i wr => ∃ k : Nat, k ≤ l.length ∧ i = .int .i64 k ∧ Hid (∀ j, j < k → seenB (i1, xs1, b1, d1) (l.getD j v0D) = false) ∧ Below w.heap.size w wr) (fun i _ => l.length - (intOf i).toNat)
 case atStart => exact ⟨0, Nat.zero_le _, rfl, Lib.hid (fun j hj => by omega), Below.refl _ _⟩
 case round =>
  obtain ⟨k, hk, rfl, hall, hbel⟩ := hrel
  by_cases hlt : k < l.length
  ·
   have i1' : (0 : Int) ≤ (k : Int) := by omega
   have i2' : (k : Int) < (l.length : Int) := by omega
   obtain ⟨b, off, cap', xa, xc, hv, hbl, c0, c1, c2, c3, hx⟩ := verR_at (slR_below tVersion_law H.out hbel) hlt
   simp only [Value.slice.injEq] at hv
   obtain ⟨rfl, _, rfl⟩ := hv
   have HYS := Lib.hid (fun g => any_yes (x := (i1, xs1, b1, d1)) hlt g)
   have HNO : Hid (seenB (i1, xs1, b1, d1) (l.getD k v0D) = false → ∀ j, j < k + 1 → seenB (i1, xs1, b1, d1) (l.getD j v0D) = false) := Lib.hid (fun g j hj => by
    by_cases e : j = k
    ·
     rw [e]; exact g
    ·
     exact hall.out j (by omega))
   have d := Lib.hid hbel
   clear hall hx hbel
   generalize l.getD k v0D = y at *
   obtain ⟨id2, ys, born2, died2⟩ := y
   simp only at c0 c1 c2 c3
   have HC := Lib.hid (fun W => seenWith_any i1 b1 d1 id2 born2 died2 a1 xa n1 cc1 ys.length xc W)
   cases hse : seenB (i1, xs1, b1, d1) (id2, ys, born2, died2) with
   | true =>
    have HT := Lib.hid (HYS.out hse)
    rw [show decide (seenP i1 b1 d1 id2 born2 died2) = true from hse] at HC
    clear hse HYS HNO
    go_wp2_with fail
    refine (HC.out _).mono ?_
    rintro e w2 ⟨rfl, b2⟩
    have d2 := Lib.hid (d.out.trans (b2.mono d.out.size))
    clear b2 c0 c1 c2 c3 d
    go_wp2
    go_ret
    exact ⟨⟨_, rfl, by rw [HT.out]; exact decide_eq_true i1'⟩, d2.out⟩
   | false =>
    have HN := Lib.hid (HNO.out hse)
    rw [show decide (seenP i1 b1 d1 id2 born2 died2) = false from hse] at HC
    clear hse HYS HNO
    go_wp2_with fail
    refine (HC.out _).mono ?_
    rintro e w2 ⟨rfl, b2⟩
    have d2 := Lib.hid (d.out.trans (b2.mono d.out.size))
    clear b2 c0 c1 c2 c3 d
    go_wp2
    go_roundw
    case rel => exact ⟨k + 1, by omega, by go_num, HN, d2.out⟩
    case measure => simp [intOf]; omega
  ·
   obtain rfl : k = l.length := by omega
   have HF := Lib.hid (any_no hall.out)
   clear hall
   go_wp2
   go_ret
   exact ⟨⟨-1, rfl, by rw [HF.out]; rfl⟩, hbel⟩
set_option maxHeartbeats 8000000 in
set_option maxRecDepth 100000 in
theorem containsSeen (v : Value) (l : List VerD) (i1 b1 d1 : Int) (xs1 : List Int) (a1 : Option Addr) (n1 c1 : Nat) (w : World) (h : SlR tVersion w v l) (hs : l.length ≤ 1048576) :
  Calls Try.prog 113 #[v, .func (.func 114) #[.agg #[.int .i64 i1, .slice a1 n1 c1, .int .i64 b1, .int .i64 d1]] #[]] w fun e w' => e = .returned (.bool (anyB (i1, xs1, b1, d1) l)) ∧ Below w.heap.size w w' := by
 have HC := Lib.hid (indexSeen v l i1 b1 d1 xs1 a1 n1 c1 w h hs)
 clear h hs
 go_enter Try.func113, Try.ntmps113
 go_wp2_with fail
 refine HC.out.mono ?_
 rintro e w1 ⟨⟨r, rfl, hr⟩, b1⟩
 have HR := Lib.hid hr
 clear hr
 go_wp2
 go_ret
 exact ⟨ret_b (by rw [← HR.out]), b1⟩
theorem info_R_ptr : ElemInfo (tRaw 1) 102 (.pointer none) := elemInfo_of (by kernel_rfl)
/-- A slice as a value: its address, length and capacity. -/
abbrev SegV := Option Addr × Nat × Nat
def s0V : SegV := (none, 0, 0)
def segV (u : SegV) : Value := .slice u.1 u.2.1 u.2.2
def cutV (u : SegV) : Value := .slice u.1 u.2.1 u.2.1
def ptrV (b : Nat) : Value := .pointer (some ⟨b, 0, none⟩)
/-- A slice of slices is read. -/
def LsR (w : World) (v : Value) (us : List SegV) : Prop := SlR (tRaw 1) w v (us.map (fun u => [segV u])) ∧ ∀ j, j < us.length → (us.getD j s0V).2.1 ≤ (us.getD j s0V).2.2
theorem lsR_below {W w : World} {v : Value} {us : List SegV} (h : LsR W v us) (hb : Below W.heap.size W w) : LsR w v us := ⟨slR_below (tRaw_law (by decide)) h.1 hb, h.2⟩
theorem lsR_len {w : World} {v : Value} {us : List SegV} (h : LsR w v us) : ∃ a cap, v = .slice a us.length cap := by
 obtain ⟨a, cap, e⟩ := slR_len h.1
 rw [List.length_map] at e
 exact ⟨a, cap, e⟩
theorem lsR_at {w : World} {v : Value} {us : List SegV} (h : LsR w v us) {k : Nat} (hk : k < us.length) : ∃ b off cap, v = .slice (some ⟨b, off, none⟩) us.length cap ∧ b < w.heap.size ∧ w.cell? ⟨b, off + k, none⟩ = some (segV (us.getD k s0V)) ∧ (us.getD k s0V).2.1 ≤ (us.getD k s0V).2.2 := by
 obtain ⟨b, off, cap, cs, hv, hb, hc, hR⟩ := slR_at h.1 (k := k) (by rw [List.length_map]; exact hk)
 rw [List.length_map] at hv
 obtain ⟨e, _⟩ := hR
 have e2 : (us.map (fun u => [segV u])).getD k (tRaw 1).d = [segV (us.getD k s0V)] := by simp [List.getD, hk]
 rw [e2] at e
 have := hc 0 (by decide)
 rw [show (tRaw 1).n = 1 from rfl, Nat.mul_one, Nat.add_zero, e] at this
 exact ⟨b, off, cap, hv, hb, this, h.2 k hk⟩
/-- The row of a segment's block. -/
def segRow (u : SegV) : Obj := .cells #[cutV u] 131 (0, 0)
/-- What tableOf answers: new pointers to new segments. -/
def TabN (B : Nat) (w : World) (g : Nat) (bs : List Nat) (us : List SegV) : Prop :=
 B ≤ g ∧ g < w.heap.size ∧ bs.length = us.length ∧ (∀ j, j < us.length → w.cell? ⟨g, j, none⟩ = some (ptrV (bs.getD j 0)) ∧ w.heap[bs.getD j 0]? = some (segRow (us.getD j s0V)) ∧ g < bs.getD j 0) ∧ ∀ i j, i < us.length → j < us.length → i ≠ j → bs.getD i 0 ≠ bs.getD j 0
def FreshTab (w : World) (us : List SegV) (e : Ending) (w' : World) : Prop := ∃ g bs, e = .returned (.slice (some ⟨g, 0, none⟩) us.length us.length) ∧ TabN w.heap.size w' g bs us ∧ Below w.heap.size w w'
def FreshTabO (w : World) (us : List SegV) (e : Ending) (w' : World) : Prop := ∃ g bs, e = .returned (.slice (some ⟨g, 0, none⟩) us.length us.length) ∧ w'.ownsRow w.heap.size 102 1 (.slice (some ⟨g, 0, none⟩) us.length us.length) us.length (bs.map ptrV) ∧ TabN w.heap.size w' g bs us ∧ Below w.heap.size w w'
theorem ptr_set {bs : List Nat} {n k b : Nat} (hb : bs.length = k) (hk : k < n) : (bs.map ptrV ++ List.replicate (n - k) (Value.pointer none)).set k (ptrV b) = (bs ++ [b]).map ptrV ++ List.replicate (n - (k + 1)) (Value.pointer none) := by
 have hl : (bs.map ptrV).length = k := by rw [List.length_map]; exact hb
 rw [List.set_append_right _ _ (by omega), hl, Nat.sub_self, show n - k = (n - (k + 1)) + 1 by omega, List.replicate_succ, List.set_cons_zero, List.map_append, List.append_assoc]
 rfl
theorem getD_app_lt {bs : List Nat} {b j : Nat} (h : j < bs.length) : (bs ++ [b]).getD j 0 = bs.getD j 0 := by simp [List.getD, List.getElem?_append_left h]
theorem getD_app_eq {bs : List Nat} {b j : Nat} (h : j = bs.length) : (bs ++ [b]).getD j 0 = b := by subst h; simp [List.getD]
set_option maxHeartbeats 8000000 in
set_option maxRecDepth 100000 in
theorem tableOf_own (v : Value) (us : List SegV) (w : World) (h : LsR w v us) (hn : us.length ≤ 1048576) :
  Calls Try.prog 67 #[v] w (FreshTabO w us) := by
 obtain ⟨i0, hi, hz0, hz1, hz2⟩ := info_R_ptr
 have HI := Lib.hid hi; have HZ0 := Lib.hid hz0; have HZ1 : Hid (i0.size = 1) := Lib.hid hz1; have HZ2 := Lib.hid hz2
 clear hi hz0 hz1 hz2
 have H := Lib.hid h
 obtain ⟨a, cap, rfl⟩ := lsR_len h
 clear h
 go_enter Try.func67, Try.ntmps67
 go_wp2_with (at_make; refine wpList_make_full _ rfl (.tmp 7) (.tmp 7) 95 rfl w.heap.size 102 i0 (.pointer none) 1 Try.underlying95 HI.out HZ0.out HZ1.out _ _ _ _ us.length rfl rfl rfl rfl (by have := Nat.mul_le_mul HZ2.out hn; omega) (by unfold maxLen; omega) (Nat.le_refl _) ?_)
 intro w1 hown0 hg0
 have hbel1 := (Below.refl w.heap.size w).grown hg0 (Nat.le_refl _) (fun k hk => by cases hk)
 have hz : (madeCells #[Value.pointer none] us.length).toList = List.replicate us.length (Value.pointer none) := by
  apply List.ext_getElem?
  intro i
  unfold madeCells
  rw [Array.getElem?_toList, Array.getElem?_map]
  by_cases q : i < us.length
  ·
   rw [Array.getElem?_range, if_pos q]
   simp [q, Nat.mod_one]
  ·
   rw [Array.getElem?_range, if_neg q]
   simp [q]
 rw [hz] at hown0
 clear hg0 hz
 go_wp2
 go_loopw [11] (fun i wr => ∃ (k : Nat) (bs : List Nat), k ≤ us.length ∧ i = .int .i64 k ∧ bs.length = k ∧ wr.ownsRow w.heap.size 102 1 (.slice (some ⟨w.heap.size, 0, none⟩) us.length us.length) us.length (bs.map ptrV ++ List.replicate (us.length - k) (Value.pointer none)) ∧ Hid (∀ j, j < k → wr.heap[bs.getD j 0]? = some (segRow (us.getD j s0V)) ∧ w.heap.size < bs.getD j 0 ∧ bs.getD j 0 < wr.heap.size) ∧ Hid (∀ i j, i < k → j < k → i ≠ j → bs.getD i 0 ≠ bs.getD j 0) ∧ Below w.heap.size w wr ∧ w.heap.size < wr.heap.size) (fun i _ => us.length - (intOf i).toNat)
 case atStart => exact ⟨0, [], Nat.zero_le _, rfl, rfl, hown0, Lib.hid (fun j hj => by omega), Lib.hid (fun i j hi => by omega), hbel1, (hown0.lt w.heap.size rfl).2⟩
 case round =>
  obtain ⟨k, bs, hk, rfl, hbs, hown, hrow, hdis, hbel, hsz⟩ := hrel
  clear hown0 hbel1
  by_cases hlt : k < us.length
  ·
   have i1 : (0 : Int) ≤ (k : Int) := by omega
   have i2 : (k : Int) < (us.length : Int) := by omega
   obtain ⟨b, off, cap', hv, hbl, c0, hle⟩ := lsR_at (lsR_below H.out hbel) hlt
   simp only [Value.slice.injEq] at hv
   obtain ⟨rfl, _, rfl⟩ := hv
   have hset := ptr_set (b := wr.heap.size) hbs hlt
   have r1 := (World.ownsRow.stored hown k (ptrV wr.heap.size)).1
   rw [hset] at r1
   have r2 := r1.alloc (.cells #[cutV (us.getD k s0V)] 131)
   have y0 : ∃ x, wr.cell? ⟨w.heap.size, k, none⟩ = some x := ⟨_, (World.ownsRow.cellAt hown k (by omega)).trans (List.getElem?_eq_getElem (by simp; omega))⟩
   obtain ⟨y, y0⟩ := y0
   have f0 := World.ownsRow.frozenAt hown k
   have tt : Turn (fun x => x = w.heap.size) wr (wr.setCell ⟨w.heap.size, k, none⟩ (ptrV wr.heap.size)) := turn_set (G := fun x => x = w.heap.size) (g := w.heap.size) (j := k) (u := ptrV wr.heap.size) rfl
   have hs0 : (wr.setCell ⟨w.heap.size, k, none⟩ (ptrV wr.heap.size)).heap.size = wr.heap.size := by simp [World.setCell]
   have hal : Below (wr.setCell ⟨w.heap.size, k, none⟩ (ptrV wr.heap.size)).heap.size (wr.setCell ⟨w.heap.size, k, none⟩ (ptrV wr.heap.size)) ((wr.setCell ⟨w.heap.size, k, none⟩ (ptrV wr.heap.size)).alloc (.cells #[cutV (us.getD k s0V)] 131)) := (Below.refl _ _).alloc (Nat.le_refl _) _
   have hnew : ((wr.setCell ⟨w.heap.size, k, none⟩ (ptrV wr.heap.size)).alloc (.cells #[cutV (us.getD k s0V)] 131)).heap[wr.heap.size]? = some (.cells #[cutV (us.getD k s0V)] 131 (0, 0)) := by
    have := heap_alloc_new (wr.setCell ⟨w.heap.size, k, none⟩ (ptrV wr.heap.size)) (.cells #[cutV (us.getD k s0V)] 131)
    rw [hs0] at this; exact this
   have hs1 : ((wr.setCell ⟨w.heap.size, k, none⟩ (ptrV wr.heap.size)).alloc (.cells #[cutV (us.getD k s0V)] 131)).heap.size = wr.heap.size + 1 := by rw [World.size_alloc, hs0]
   have R2 := Lib.hid r2
   have HROW : Hid (∀ j, j < k + 1 → ((wr.setCell ⟨w.heap.size, k, none⟩ (ptrV wr.heap.size)).alloc (.cells #[cutV (us.getD k s0V)] 131)).heap[(bs ++ [wr.heap.size]).getD j 0]? = some (segRow (us.getD j s0V)) ∧ w.heap.size < (bs ++ [wr.heap.size]).getD j 0 ∧ (bs ++ [wr.heap.size]).getD j 0 < ((wr.setCell ⟨w.heap.size, k, none⟩ (ptrV wr.heap.size)).alloc (.cells #[cutV (us.getD k s0V)] 131)).heap.size) := Lib.hid (fun j hj => by
    by_cases e : j = k
    ·
     rw [getD_app_eq (by omega), e]
     exact ⟨hnew, hsz, by omega⟩
    ·
     rw [getD_app_lt (by omega)]
     obtain ⟨g1, g2, g3⟩ := hrow.out j (by omega)
     exact ⟨(hal.block _ (by omega)).trans ((tt.block _ g3 (fun q => by omega)).trans g1), g2, by omega⟩)
   have HDIS : Hid (∀ i j, i < k + 1 → j < k + 1 → i ≠ j → (bs ++ [wr.heap.size]).getD i 0 ≠ (bs ++ [wr.heap.size]).getD j 0) := Lib.hid (fun i j hi hj hij => by
    by_cases e1 : i = k
    ·
     rw [getD_app_eq (by omega), getD_app_lt (by omega)]
     have := (hrow.out j (by omega)).2.2; omega
    ·
     by_cases e2 : j = k
     ·
      rw [getD_app_lt (by omega), getD_app_eq (by omega)]
      have := (hrow.out i (by omega)).2.2; omega
     ·
      rw [getD_app_lt (by omega), getD_app_lt (by omega)]
      exact hdis.out i j (by omega) (by omega) hij)
   have D2 : Hid (Below w.heap.size w ((wr.setCell ⟨w.heap.size, k, none⟩ (ptrV wr.heap.size)).alloc (.cells #[cutV (us.getD k s0V)] 131))) := Lib.hid ((below_turn hbel tt (fun x hx => by omega) (by omega)).trans (hal.mono (by omega)))
   have S2 : Hid (w.heap.size < ((wr.setCell ⟨w.heap.size, k, none⟩ (ptrV wr.heap.size)).alloc (.cells #[cutV (us.getD k s0V)] 131)).heap.size) := Lib.hid (by omega)
   have HBL : Hid ((bs ++ [wr.heap.size]).length = k + 1) := Lib.hid (by rw [List.length_append]; simp; omega)
   clear hset r1 r2 hal tt hnew hs0 hs1 hrow hdis hown hbel hbs
   generalize us.getD k s0V = u at *
   obtain ⟨ua, n, uc⟩ := u
   simp only [segV, cutV, ptrV] at *
   have j1 : (n : Int) ≤ (uc : Int) := by omega
   go_wp2
   go_roundw
   case rel => exact ⟨k + 1, _, by omega, by go_num, HBL.out, R2.out, HROW, HDIS, D2.out, S2.out⟩
   case measure => simp [intOf]; omega
  ·
   obtain rfl : k = us.length := by omega
   have HO := Lib.hid hown
   clear hown
   go_wp2
   go_ret
   have ho := HO.out
   refine ⟨w.heap.size, bs, rfl, by simpa using ho, ⟨Nat.le_refl _, hsz, hbs, fun j hj => ⟨?_, (hrow.out j hj).1, (hrow.out j hj).2.1⟩, hdis.out⟩, hbel⟩
   refine (World.ownsRow.cellAt ho j (by omega)).trans ?_
   rw [List.getElem?_append_left (by rw [List.length_map]; omega), List.getElem?_map]
   simp [List.getD, show j < bs.length by omega]
theorem tableOf_any (v : Value) (us : List SegV) (w : World) (h : LsR w v us) (hn : us.length ≤ 1048576) :
  Calls Try.prog 67 #[v] w (FreshTab w us) :=
 (tableOf_own v us w h hn).mono (by
  rintro e w1 ⟨g, bs, he, _, ht, hb⟩
  exact ⟨g, bs, he, ht, hb⟩)
theorem tabN_below {B : Nat} {w w' : World} {g : Nat} {bs : List Nat} {us : List SegV} (h : TabN B w g bs us) (hb : Below w.heap.size w w') : TabN B w' g bs us := by
 obtain ⟨h1, h2, h3, h4, h5⟩ := h
 refine ⟨h1, Nat.lt_of_lt_of_le h2 hb.size, h3, fun j hj => ?_, h5⟩
 obtain ⟨g1, g2, g3⟩ := h4 j hj
 exact ⟨(hb.cell (p := ⟨g, j, none⟩) h2).trans g1, (hb.block _ (Array.getElem?_eq_some_iff.1 g2).1).trans g2, g3⟩
theorem slR_cut {α : Type} {T : Ty α} {w : World} {a : Option Addr} {n c : Nat} {xs : List α} (h : SlR T w (.slice a n c) xs) : SlR T w (.slice a n n) xs ∧ n = xs.length ∧ n ≤ c := by
 rcases h with ⟨rfl, a', cap, e⟩ | ⟨b, off, cap, us, e, h2, h3, h4⟩
 ·
  simp only [Value.slice.injEq] at e
  obtain ⟨rfl, rfl, rfl⟩ := e
  exact ⟨Or.inl ⟨rfl, _, _, rfl⟩, rfl, Nat.zero_le _⟩
 ·
  simp only [Value.slice.injEq] at e
  obtain ⟨rfl, rfl, rfl⟩ := e
  exact ⟨Or.inr ⟨b, off, _, us, rfl, Nat.le_refl _, h3, h4⟩, rfl, h2⟩
/-- The segments as they are named by values. -/
def SegsR (w : World) (us : List SegV) (ss : List (List VerD)) : Prop := us.length = ss.length ∧ ∀ j, j < ss.length → SlR tVersion w (cutV (us.getD j s0V)) (ss.getD j []) ∧ (us.getD j s0V).2.1 = (ss.getD j []).length
theorem segsR_below {W w : World} {us : List SegV} {ss : List (List VerD)} (h : SegsR W us ss) (hb : Below W.heap.size W w) : SegsR w us ss := ⟨h.1, fun j hj => ⟨slR_below tVersion_law (h.2 j hj).1 hb, (h.2 j hj).2⟩⟩
theorem slR_ls {w : World} {v : Value} {ss : List (List VerD)} (h : SlR tVersionS w v ss) : ∃ us, LsR w v us ∧ SegsR w us ss := by
 rcases h with ⟨rfl, a, cap, rfl⟩ | ⟨b, off, cap, us, rfl, h2, h3, h4⟩
 ·
  exact ⟨[], ⟨Or.inl ⟨rfl, a, cap, rfl⟩, fun j hj => by simp at hj⟩, rfl, fun j hj => by simp at hj⟩
 ·
  haveI : Inhabited SegV := ⟨s0V⟩
  obtain ⟨f, hf⟩ := Go.Deep.choose_lt (α := SegV) (n := ss.length) (p := fun j u => w.cell? ⟨b, off + j, none⟩ = some (segV u) ∧ SlR tVersion w (cutV u) (ss.getD j []) ∧ u.2.1 = (ss.getD j []).length ∧ u.2.1 ≤ u.2.2) (fun j hj => by
   obtain ⟨hc, hR⟩ := h4 j hj
   obtain ⟨v, e, hv⟩ := hR
   have h0 := hc 0 (by decide)
   rw [show tVersionS.n = 1 from rfl, Nat.mul_one, Nat.add_zero, e] at h0
   obtain ⟨a, c, rfl⟩ := slR_len hv
   obtain ⟨k1, k2, k3⟩ := slR_cut hv
   exact ⟨(a, (ss.getD j []).length, c), h0, k1, rfl, k3⟩)
  have hg : ∀ j, j < ss.length → ((List.range ss.length).map f).getD j s0V = f j := fun j hj => by simp [List.getD, hj]
  refine ⟨(List.range ss.length).map f, ⟨Or.inr ⟨b, off, cap, fun j => [segV (f j)], by simp, by simpa using h2, h3, fun j hj => ?_⟩, fun j hj => ?_⟩, by simp, fun j hj => ?_⟩
  ·
   have hj' : j < ss.length := by simpa using hj
   refine ⟨fun i hi => ?_, ?_⟩
   ·
    have hi0 : i = 0 := by have : i < 1 := hi; omega
    subst hi0
    rw [show (tRaw 1).n = 1 from rfl, Nat.mul_one, Nat.add_zero]
    exact (hf j hj').1
   ·
    have e : (((List.range ss.length).map f).map (fun u => [segV u])).getD j (tRaw 1).d = [segV (f j)] := by simp [List.getD, hj']
    rw [e]
    exact ⟨rfl, rfl, fun u hu => by simp at hu; subst hu; rfl⟩
  ·
   have hj' : j < ss.length := by simpa using hj
   rw [hg j hj']; exact (hf j hj').2.2.2
  ·
   rw [hg j hj]; exact ⟨(hf j hj).2.1, (hf j hj).2.2.1⟩
end Go.Proofs.Ythiiaiholcfhhaa
