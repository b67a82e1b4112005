/-
  Texts of the proof, merged: UpdSpec4, Rec, RecLim, RecEq, RowIsP, VerP1, VerP2, VerP3, VerP4, VerP5, VerP6, CopyEachVersion, CopyStore, EngNew, VerSize.
-/
import Derived.Test.YtdhglmoanpkeoaaNE2
import Derived.Laws.CopyOwn
import Derived.Lib.MinMax
import Derived.Laws.StructEq
namespace Go.Proofs.Ytdhglmoanpkeoaa
open Go.RowKit
set_option linter.unusedVariables false
set_option linter.unusedSimpArgs false
set_option maxHeartbeats 16000000 in
set_option maxRecDepth 100000 in
theorem specCopy (v : Value) (ss : List (List VerD)) (now : Int) (w : World) (h : SlR tVersionS w v ss) (hs : zL tVersionS ss ≤ 1048576) :
    Calls Try.prog 41 #[.agg #[v, .int .i64 now]] w (FreshT tStore (fun cs => .agg cs.toArray) w (ss, now)) := by
  have hlen := zL_len hs
  have HS := Lib.hid hs
  obtain ⟨a, cap, rfl⟩ := slR_len h
  have d0 := Lib.hid (show Below w.heap.size w (((w.alloc (.cells #[.slice a ss.length cap, .int .i64 now] 30)).alloc (.cells #[.slice none 0 0, .int .i64 0] 30)).alloc (.cells #[.slice none 0 0, .int .i64 now] 30)) from (((Below.refl _ _).alloc (Nat.le_refl _) _).alloc (by simp <;> omega) _).alloc (by simp <;> omega) _)
  have k0 : (((w.alloc (.cells #[.slice a ss.length cap, .int .i64 now] 30)).alloc (.cells #[.slice none 0 0, .int .i64 0] 30)).alloc (.cells #[.slice none 0 0, .int .i64 now] 30)).heap[w.heap.size]? = some (.cells #[.slice a ss.length cap, .int .i64 now] 30 (0, 0)) := by
    rw [Below.heap_alloc _ _ _ (by simp <;> omega), Below.heap_alloc _ _ _ (by simp)]; exact heap_alloc_new w _
  have k1 : (((w.alloc (.cells #[.slice a ss.length cap, .int .i64 now] 30)).alloc (.cells #[.slice none 0 0, .int .i64 0] 30)).alloc (.cells #[.slice none 0 0, .int .i64 now] 30)).heap[w.heap.size + 1]? = some (.cells #[.slice none 0 0, .int .i64 0] 30 (0, 0)) := by
    rw [Below.heap_alloc _ _ _ (by simp)]
    have := heap_alloc_new (w.alloc (.cells #[.slice a ss.length cap, .int .i64 now] 30)) (.cells #[.slice none 0 0, .int .i64 0] 30)
    simpa only [World.size_alloc] using this
  have k2 : (((w.alloc (.cells #[.slice a ss.length cap, .int .i64 now] 30)).alloc (.cells #[.slice none 0 0, .int .i64 0] 30)).alloc (.cells #[.slice none 0 0, .int .i64 now] 30)).heap[w.heap.size + 2]? = some (.cells #[.slice none 0 0, .int .i64 now] 30 (0, 0)) := by
    have := heap_alloc_new ((w.alloc (.cells #[.slice a ss.length cap, .int .i64 now] 30)).alloc (.cells #[.slice none 0 0, .int .i64 0] 30)) (.cells #[.slice none 0 0, .int .i64 now] 30)
    simpa only [World.size_alloc] using this
  have K0 := Lib.hid k0
  have K1 := Lib.hid k1
  have K2 := Lib.hid k2
  have YW : Hid (w.heap.size + 2 < (((w.alloc (.cells #[.slice a ss.length cap, .int .i64 now] 30)).alloc (.cells #[.slice none 0 0, .int .i64 0] 30)).alloc (.cells #[.slice none 0 0, .int .i64 now] 30)).heap.size) := Lib.hid (by simp)
  have H := Lib.hid h
  clear h hs k0 k1 k2
  go_enter Try.func41, Try.ntmps41
  go_wp2
  generalize (((w.alloc (.cells #[.slice a ss.length cap, .int .i64 now] 30)).alloc (.cells #[.slice none 0 0, .int .i64 0] 30)).alloc (.cells #[.slice none 0 0, .int .i64 now] 30)) = W at *
  go_loopw [4] (fun i wr => ∃ (k : Nat) (fv : Value), k ≤ ss.length ∧ i = .int .i64 k ∧ wr.heap[w.heap.size]? = some (.cells #[.slice a ss.length cap, .int .i64 now] 30 (0, 0)) ∧ wr.heap[w.heap.size + 1]? = some (.cells #[.slice none 0 0, .int .i64 0] 30 (0, 0)) ∧ wr.heap[w.heap.size + 2]? = some (.cells #[fv, .int .i64 now] 30 (0, 0)) ∧ SlO 61 tVersionS wr (fun q => w.heap.size + 2 < q) fv (ss.take k) ∧ Below w.heap.size w wr ∧ w.heap.size + 2 < wr.heap.size) (fun i _ => ss.length - (intOf i).toNat)
  case atStart => exact ⟨0, .slice none 0 0, Nat.zero_le _, rfl, K0.out, K1.out, K2.out, slO_nil _ _ _ _, d0.out, YW.out⟩
  case round =>
    obtain ⟨k, fv, hk, rfl, r0, r1, r2, hown, hbel, hsz⟩ := hrel
    have hfl : (ss.take k).length = k := by rw [List.length_take]; omega
    obtain ⟨fa, fc, rfl⟩ := slO_len hown
    by_cases hlt : k < ss.length
    · have i1 : (0 : Int) ≤ (k : Int) := by omega
      have i2 : (k : Int) < (ss.length : Int) := by omega
      obtain ⟨b, off, cap', cs, hv, hbl, hcs, hR⟩ := slR_at H.out hlt
      simp only [Value.slice.injEq] at hv
      obtain ⟨rfl, _, rfl⟩ := hv
      obtain ⟨u, rfl, hU⟩ := hR
      change SlR tVersion w u (ss.getD k []) at hU
      have pe : w.cell? ⟨b, off + k, none⟩ = some u := by have := hcs 0 Nat.one_pos; rw [show tVersionS.n = 1 from rfl, Nat.mul_one, Nat.add_zero] at this; exact this
      have hzl : zL tVersion (ss.getD k []) ≤ 1048576 := Nat.le_trans (zL_seg hlt) HS.out
      obtain ⟨ua, uc, rfl⟩ := slR_len hU
      have HC := Lib.hid (fun w h => specPart (.slice ua (ss.getD k []).length uc) (ss.getD k []) w h hzl)
      have HTK : Hid (ss.take k ++ [ss.getD k []] = ss.take (k + 1)) := Lib.hid (by rw [List.take_succ_eq_append_getElem hlt]; simp [List.getD, hlt])
      have HTL : Hid ((ss.take (k + 1)).length = k + 1) := Lib.hid (by rw [List.length_take]; omega)
      have HYL : Hid ((ss.take k).length ≤ 1048576) := Lib.hid (by omega)
      have HU := Lib.hid hU
      have C0 := Lib.hid pe
      have HBL := Lib.hid hbl
      have B0 := Lib.hid r0
      have BZ := Lib.hid r1
      have BX := Lib.hid r2
      have PF := Lib.hid (slO_lt tVersionS_law hown)
      have QF := Lib.hid (fun q (h : w.heap.size + 2 < q ∧ q < wr.heap.size) => h)
      have d := Lib.hid hbel
      have ZR := Lib.hid hsz
      have q0 := (cell_of_row wr _ 0 _ _ _ r0).trans (show _ = some (Value.slice (some ⟨b, off, none⟩) ss.length cap) from rfl)
      clear hcs pe hU hzl hbl r0 r1 r2 hown hbel hsz hfl
      generalize ss.getD k [] = l at *
      generalize ss.take k = ys at *
      go_wp2
      clear q0
      have p_B0_0 := (cell_of_row wr _ 0 _ _ _ B0.out).trans (show _ = some (Value.slice (some ⟨b, off, none⟩) ss.length cap) from rfl)
      have p_B0_1 := (cell_of_row wr _ 1 _ _ _ B0.out).trans (show _ = some (Value.int .i64 now) from rfl)
      have p_C0 := (d.out.cell (p := ⟨b, off + k, none⟩) HBL.out).trans C0.out
      refine wp_region_held_drew (S := fun w' => w'.cell? ⟨w.heap.size, 0, none⟩ = some (Value.slice (some ⟨b, off, none⟩) ss.length cap) ∧ w'.cell? ⟨w.heap.size, 1, none⟩ = some (Value.int .i64 now) ∧ w'.cell? ⟨b, off + k, none⟩ = some (Value.slice ua l.length uc)) (by kernel_rfl) ⟨p_B0_0, p_B0_1, p_C0⟩ (fun hHeld => ?_)
      clear p_B0_0 p_B0_1 p_C0
      have cdr : Below wr.heap.size wr wr.drew := below_drew (Below.refl _ _)
      replace B0 := Lib.hid ((cdr.block w.heap.size (Array.getElem?_eq_some_iff.1 B0.out).1).trans B0.out)
      replace BZ := Lib.hid ((cdr.block (w.heap.size + 1) (Array.getElem?_eq_some_iff.1 BZ.out).1).trans BZ.out)
      replace BX := Lib.hid ((cdr.block (w.heap.size + 2) (Array.getElem?_eq_some_iff.1 BX.out).1).trans BX.out)
      replace PF := Lib.hid (slO_fresh tVersionS_law PF.out cdr)
      replace d := Lib.hid (d.out.trans (cdr.mono d.out.size))
      clear cdr
      have Z_dr := Lib.hid (show wr.heap.size ≤ wr.drew.heap.size from Nat.le_refl _)
      generalize wr.drew = Wd at *
      refine take_runs (i := 0) (v := ?_) (by simp only [List.getElem?_toArray, List.getElem?_cons_succ, List.getElem?_cons_zero]; rfl) (by kernel_rfl) (by kernel_rfl) (by kernel_rfl) rfl (by exact fun _ _ _ h => h) (by rfl) ?_ (by assumption) ?_
      rotate_left
      · intro w hSw; (try dsimp only at hSw); go_simp; try (with_reducible rfl)
      try simp only [Act.put, List.setIfInBounds_toArray, List.set_cons_zero, List.set_cons_succ]
      refine take_runs (i := 2) (v := ?_) (by simp only [List.getElem?_toArray, List.getElem?_cons_succ, List.getElem?_cons_zero]; rfl) (by kernel_rfl) (by kernel_rfl) (by kernel_rfl) rfl (by exact fun _ _ _ h => h) (by rfl) ?_ (by assumption) ?_
      rotate_left
      · intro w hSw; (try dsimp only at hSw); go_simp; try (with_reducible rfl)
      try simp only [Act.put, List.setIfInBounds_toArray, List.set_cons_zero, List.set_cons_succ]
      refine take_runs (i := 3) (v := ?_) (by simp only [List.getElem?_toArray, List.getElem?_cons_succ, List.getElem?_cons_zero]; rfl) (by kernel_rfl) (by kernel_rfl) (by kernel_rfl) rfl (by exact fun _ _ _ h => h) (by rfl) ?_ (by assumption) ?_
      rotate_left
      · intro w hSw; (try dsimp only at hSw); go_simp; try (with_reducible rfl)
      try simp only [Act.put, List.setIfInBounds_toArray, List.set_cons_zero, List.set_cons_succ]
      refine take_runs (i := 4) (v := ?_) (by simp only [List.getElem?_toArray, List.getElem?_cons_succ, List.getElem?_cons_zero]; rfl) (by kernel_rfl) (by kernel_rfl) (by kernel_rfl) rfl (by exact fun _ _ _ h => h) (by rfl) ?_ (by assumption) ?_
      rotate_left
      · intro w hSw; (try dsimp only at hSw); go_simp; try (with_reducible rfl)
      try simp only [Act.put, List.setIfInBounds_toArray, List.set_cons_zero, List.set_cons_succ]
      refine take_runs (i := 5) (v := ?_) (by simp only [List.getElem?_toArray, List.getElem?_cons_succ, List.getElem?_cons_zero]; rfl) (by kernel_rfl) (by kernel_rfl) (by kernel_rfl) rfl (by exact fun _ _ _ h => h) (by rfl) ?_ (by assumption) ?_
      rotate_left
      · intro w hSw; (try dsimp only at hSw); go_simp; try (with_reducible rfl)
      try simp only [Act.put, List.setIfInBounds_toArray, List.set_cons_zero, List.set_cons_succ]
      refine take_runs (i := 6) (v := ?_) (by simp only [List.getElem?_toArray, List.getElem?_cons_succ, List.getElem?_cons_zero]; rfl) (by kernel_rfl) (by kernel_rfl) (by kernel_rfl) rfl (by exact fun _ _ _ h => h) (by rfl) ?_ (by assumption) ?_
      rotate_left
      · intro w hSw; (try dsimp only at hSw); go_simp; try (with_reducible rfl)
      try simp only [Act.put, List.setIfInBounds_toArray, List.set_cons_zero, List.set_cons_succ]
      refine wpAnyH_ready (rs := [1, 7]) (by kernel_rfl) (by simp) ?_
      refine (AllReadyH.cons (o := _) (by simp only [List.getElem?_toArray, List.getElem?_cons_succ, List.getElem?_cons_zero]; rfl) (fun K hK => ?_) (AllReadyH.cons (o := _) (by simp only [List.getElem?_toArray, List.getElem?_cons_succ, List.getElem?_cons_zero]; rfl) (fun K hK => ?_) AllReadyH.nil))
      · have px := (cell_of_row Wd _ 0 _ _ _ BX.out).trans (show _ = some (Value.slice fa ys.length fc) from rfl)
        go_simp
        clear px
        have p_B0_0 := (cell_of_row Wd _ 0 _ _ _ B0.out).trans (show _ = some (Value.slice (some ⟨b, off, none⟩) ss.length cap) from rfl)
        have p_B0_1 := (cell_of_row Wd _ 1 _ _ _ B0.out).trans (show _ = some (Value.int .i64 now) from rfl)
        have p_C0 := (d.out.cell (p := ⟨b, off + k, none⟩) HBL.out).trans C0.out
        refine hK.out _ _ ⟨p_B0_0, p_B0_1, p_C0⟩ (fun hHeld => ?_)
        clear p_B0_0 p_B0_1 p_C0
        clear hK K
        try simp only [Act.put, List.setIfInBounds_toArray, List.set_cons_zero, List.set_cons_succ]
        refine wpAnyH_ready (rs := [7]) (by kernel_rfl) (by simp) ?_
        refine (AllReadyH.cons (o := _) (by simp only [List.getElem?_toArray, List.getElem?_cons_succ, List.getElem?_cons_zero]; rfl) (fun K hK => ?_) AllReadyH.nil)
        go_simp
        refine (HC.out Wd (slR_below tVersion_law HU.out d.out)).mono ?_
        rintro e w5 ⟨pv, rfl, op, c5⟩
        have ox : SlO 115 tVersion w5 (fun q => wr.heap.size ≤ q) pv l := slO_mono op (fun q hq => Nat.le_trans Z_dr.out hq)
        obtain ⟨pa, pc, rfl⟩ := slO_len ox
        have PX := Lib.hid ox
        replace B0 := Lib.hid ((c5.block w.heap.size (Array.getElem?_eq_some_iff.1 B0.out).1).trans B0.out)
        replace BZ := Lib.hid ((c5.block (w.heap.size + 1) (Array.getElem?_eq_some_iff.1 BZ.out).1).trans BZ.out)
        replace BX := Lib.hid ((c5.block (w.heap.size + 2) (Array.getElem?_eq_some_iff.1 BX.out).1).trans BX.out)
        replace PF := Lib.hid (slO_fresh tVersionS_law PF.out c5)
        replace d := Lib.hid (d.out.trans (c5.mono d.out.size))
        have Z_w5 := Lib.hid (show Wd.heap.size ≤ w5.heap.size from c5.size)
        have QX := Lib.hid (fun q (h : wr.heap.size ≤ q) => h)
        clear c5 op ox
        have p_B0_0 := (cell_of_row w5 _ 0 _ _ _ B0.out).trans (show _ = some (Value.slice (some ⟨b, off, none⟩) ss.length cap) from rfl)
        have p_B0_1 := (cell_of_row w5 _ 1 _ _ _ B0.out).trans (show _ = some (Value.int .i64 now) from rfl)
        have p_C0 := (d.out.cell (p := ⟨b, off + k, none⟩) HBL.out).trans C0.out
        refine hK.out _ _ ⟨p_B0_0, p_B0_1, p_C0⟩ (fun hHeld => ?_)
        clear p_B0_0 p_B0_1 p_C0
        clear hK K
        try simp only [Act.put, List.setIfInBounds_toArray, List.set_cons_zero, List.set_cons_succ]
        refine wpAnyH_ready (rs := [8]) (by kernel_rfl) (by simp) ?_
        refine (AllReadyH.cons (o := _) (by simp only [List.getElem?_toArray, List.getElem?_cons_succ, List.getElem?_cons_zero]; rfl) (fun K hK => ?_) AllReadyH.nil)
        go_simp
        have hal : Below w5.heap.size w5 (w5.alloc (.cells #[.slice pa l.length pc] 61)) := (Below.refl _ _).alloc (Nat.le_refl _) _
        have KB0 := B0
        have KBZ := BZ
        have KBX := BX
        have KPF := PF
        have KPX := PX
        have Kd := d
        replace B0 := Lib.hid ((hal.block w.heap.size (Array.getElem?_eq_some_iff.1 B0.out).1).trans B0.out)
        replace BZ := Lib.hid ((hal.block (w.heap.size + 1) (Array.getElem?_eq_some_iff.1 BZ.out).1).trans BZ.out)
        replace BX := Lib.hid ((hal.block (w.heap.size + 2) (Array.getElem?_eq_some_iff.1 BX.out).1).trans BX.out)
        replace PF := Lib.hid (slO_fresh tVersionS_law PF.out hal)
        replace PX := Lib.hid (slO_fresh tVersion_law PX.out hal)
        replace d := Lib.hid (d.out.trans (hal.mono d.out.size))
        clear hal
        have p_B0_0 := (cell_of_row (w5.alloc (.cells #[.slice pa l.length pc] 61)) _ 0 _ _ _ B0.out).trans (show _ = some (Value.slice (some ⟨b, off, none⟩) ss.length cap) from rfl)
        have p_B0_1 := (cell_of_row (w5.alloc (.cells #[.slice pa l.length pc] 61)) _ 1 _ _ _ B0.out).trans (show _ = some (Value.int .i64 now) from rfl)
        have p_C0 := (d.out.cell (p := ⟨b, off + k, none⟩) HBL.out).trans C0.out
        refine hK.out _ _ ⟨p_B0_0, p_B0_1, p_C0⟩ (fun hHeld => ?_)
        clear p_B0_0 p_B0_1 p_C0
        clear hK K
        try simp only [Act.put, List.setIfInBounds_toArray, List.set_cons_zero, List.set_cons_succ]
        refine wpAnyH_ready (rs := [9]) (by kernel_rfl) (by simp) ?_
        refine (AllReadyH.cons (o := _) (by simp only [List.getElem?_toArray, List.getElem?_cons_succ, List.getElem?_cons_zero]; rfl) (fun K hK => ?_) AllReadyH.nil)
        have y0 := ZR.out
        have y1 := Z_dr.out
        have y2 := Z_w5.out
        have yd := Kd.out.size
        have hD : wr.heap.size ≤ w5.heap.size := by omega
        refine step_append_T tVersionS_law info_T_VersionS Try.underlying28 rfl rfl (.tmp 16) (.tmp 23) rfl (fun q => w.heap.size + 2 < q) wr.heap.size _ ys rfl KPF.out hD (fun q hq => by show w.heap.size + 2 < q; omega) HYL.out [.slice pa l.length pc] l ⟨_, rfl, KPX.out⟩ (by simp [Value.oneCell']) 1 _ rfl rfl ?_
        intro v' w7 oN tN
        replace B0 := Lib.hid ((tN.block w.heap.size (Array.getElem?_eq_some_iff.1 KB0.out).1 (fun h => by have r : w.heap.size + 2 < w.heap.size := h.1; omega)).trans KB0.out)
        replace BZ := Lib.hid ((tN.block (w.heap.size + 1) (Array.getElem?_eq_some_iff.1 KBZ.out).1 (fun h => by have r : w.heap.size + 2 < (w.heap.size + 1) := h.1; omega)).trans KBZ.out)
        replace BX := Lib.hid ((tN.block (w.heap.size + 2) (Array.getElem?_eq_some_iff.1 KBX.out).1 (fun h => by have r : w.heap.size + 2 < (w.heap.size + 2) := h.1; omega)).trans KBX.out)
        replace d := Lib.hid (below_turn Kd.out tN (fun q hq => by have r : w.heap.size + 2 < q := hq.1; omega) yd)
        have zN := Lib.hid (show w5.heap.size ≤ w7.heap.size from tN.size)
        rw [HTK.out] at oN
        obtain ⟨na, nc, rfl⟩ := slO_len oN
        rw [HTL.out] at oN
        have PN := Lib.hid oN
        clear hD oN tN yd PF PX KB0 KBZ KBX KPF KPX Kd y0 y1 y2
        have p_B0_0 := (cell_of_row w7 _ 0 _ _ _ B0.out).trans (show _ = some (Value.slice (some ⟨b, off, none⟩) ss.length cap) from rfl)
        have p_B0_1 := (cell_of_row w7 _ 1 _ _ _ B0.out).trans (show _ = some (Value.int .i64 now) from rfl)
        have p_C0 := (d.out.cell (p := ⟨b, off + k, none⟩) HBL.out).trans C0.out
        refine hK.out _ _ ⟨p_B0_0, p_B0_1, p_C0⟩ (fun hHeld => ?_)
        clear p_B0_0 p_B0_1 p_C0
        clear hK K
        try simp only [Act.put, List.setIfInBounds_toArray, List.set_cons_zero, List.set_cons_succ]
        refine take_runs (i := 10) (v := ?_) (by simp only [List.getElem?_toArray, List.getElem?_cons_succ, List.getElem?_cons_zero]; rfl) (by kernel_rfl) (by kernel_rfl) (by kernel_rfl) rfl (by exact fun _ _ _ h => h) (by rfl) ?_ (by assumption) ?_
        rotate_left
        · intro w hSw; (try dsimp only at hSw); go_simp; try (with_reducible rfl)
        try simp only [Act.put, List.setIfInBounds_toArray, List.set_cons_zero, List.set_cons_succ]
        refine wpAnyH_ready (rs := [11]) (by kernel_rfl) (by simp) ?_
        refine (AllReadyH.cons (o := _) (by simp only [List.getElem?_toArray, List.getElem?_cons_succ, List.getElem?_cons_zero]; rfl) (fun K hK => ?_) AllReadyH.nil)
        have px := (cell_of_row w7 _ 0 _ _ _ BX.out).trans (show _ = some (Value.slice fa ys.length fc) from rfl)
        have fx := frozen_of_row w7 _ 0 _ _ BX.out
        rw [HTL.out]
        go_simp
        clear px fx
        have tt : Turn (fun q => q = w.heap.size + 2) w7 (w7.setCell ⟨w.heap.size + 2, 0, none⟩ (.slice na (k + 1) nc)) := turn_set (G := fun q => q = w.heap.size + 2) (g := w.heap.size + 2) (j := 0) (u := .slice na (k + 1) nc) rfl
        have r := heap_setCell_same w7 (w.heap.size + 2) 0 _ _ (.slice na (k + 1) nc) BX.out
        simp at r
        have y0 := ZR.out
        have y1 := Z_dr.out
        have y2 := Z_w5.out
        have y3 := zN.out
        replace BX : Hid ((w7.setCell ⟨w.heap.size + 2, 0, none⟩ (.slice na (k + 1) nc)).heap[w.heap.size + 2]? = some (.cells #[.slice na (k + 1) nc, .int .i64 now] 30 (0, 0))) := Lib.hid r
        replace B0 := Lib.hid ((tt.block w.heap.size (Array.getElem?_eq_some_iff.1 B0.out).1 (fun h => by omega)).trans B0.out)
        replace BZ := Lib.hid ((tt.block (w.heap.size + 1) (Array.getElem?_eq_some_iff.1 BZ.out).1 (fun h => by omega)).trans BZ.out)
        replace PN := Lib.hid (slO_turn tVersionS_law PN.out tt (fun q h1 h2 => by have r1 : w.heap.size + 2 < q := h1; omega))
        replace d := Lib.hid (below_turn d.out tt (fun q h => by omega) d.out.size)
        have zM := Lib.hid (show w7.heap.size ≤ (w7.setCell ⟨w.heap.size + 2, 0, none⟩ (.slice na (k + 1) nc)).heap.size from tt.size)
        clear tt r y0 y1 y2 y3
        generalize (w7.setCell ⟨w.heap.size + 2, 0, none⟩ (.slice na (k + 1) nc)) = w8 at *
        have p_B0_0 := (cell_of_row w8 _ 0 _ _ _ B0.out).trans (show _ = some (Value.slice (some ⟨b, off, none⟩) ss.length cap) from rfl)
        have p_B0_1 := (cell_of_row w8 _ 1 _ _ _ B0.out).trans (show _ = some (Value.int .i64 now) from rfl)
        have p_C0 := (d.out.cell (p := ⟨b, off + k, none⟩) HBL.out).trans C0.out
        refine hK.out _ _ ⟨p_B0_0, p_B0_1, p_C0⟩ (fun hHeld => ?_)
        clear p_B0_0 p_B0_1 p_C0
        clear hK K
        try simp only [Act.put, List.setIfInBounds_toArray, List.set_cons_zero, List.set_cons_succ]
        refine wpAnyH_done (by kernel_rfl) ?_ _
        clear hHeld
        have y0 := ZR.out
        have y1 := Z_dr.out
        have y2 := Z_w5.out
        have y3 := zN.out
        have y4 := zM.out
        have zz : w.heap.size + 2 < w8.heap.size := by omega
        have ZZ := Lib.hid zz
        clear zz y0 y1 y2 y3 y4
        go_wp2
        go_roundw
        case rel => exact ⟨k + 1, _, by omega, by go_num, B0.out, BZ.out, BX.out, PN.out, d.out, ZZ.out⟩
        case measure => simp [intOf]; omega
      · go_simp
        refine (HC.out Wd (slR_below tVersion_law HU.out d.out)).mono ?_
        rintro e w5 ⟨pv, rfl, op, c5⟩
        have ox : SlO 115 tVersion w5 (fun q => wr.heap.size ≤ q) pv l := slO_mono op (fun q hq => Nat.le_trans Z_dr.out hq)
        obtain ⟨pa, pc, rfl⟩ := slO_len ox
        have PX := Lib.hid ox
        replace B0 := Lib.hid ((c5.block w.heap.size (Array.getElem?_eq_some_iff.1 B0.out).1).trans B0.out)
        replace BZ := Lib.hid ((c5.block (w.heap.size + 1) (Array.getElem?_eq_some_iff.1 BZ.out).1).trans BZ.out)
        replace BX := Lib.hid ((c5.block (w.heap.size + 2) (Array.getElem?_eq_some_iff.1 BX.out).1).trans BX.out)
        replace PF := Lib.hid (slO_fresh tVersionS_law PF.out c5)
        replace d := Lib.hid (d.out.trans (c5.mono d.out.size))
        have Z_w5 := Lib.hid (show Wd.heap.size ≤ w5.heap.size from c5.size)
        have QX := Lib.hid (fun q (h : wr.heap.size ≤ q) => h)
        clear c5 op ox
        have p_B0_0 := (cell_of_row w5 _ 0 _ _ _ B0.out).trans (show _ = some (Value.slice (some ⟨b, off, none⟩) ss.length cap) from rfl)
        have p_B0_1 := (cell_of_row w5 _ 1 _ _ _ B0.out).trans (show _ = some (Value.int .i64 now) from rfl)
        have p_C0 := (d.out.cell (p := ⟨b, off + k, none⟩) HBL.out).trans C0.out
        refine hK.out _ _ ⟨p_B0_0, p_B0_1, p_C0⟩ (fun hHeld => ?_)
        clear p_B0_0 p_B0_1 p_C0
        clear hK K
        try simp only [Act.put, List.setIfInBounds_toArray, List.set_cons_zero, List.set_cons_succ]
        refine wpAnyH_ready (rs := [1, 8]) (by kernel_rfl) (by simp) ?_
        refine (AllReadyH.cons (o := _) (by simp only [List.getElem?_toArray, List.getElem?_cons_succ, List.getElem?_cons_zero]; rfl) (fun K hK => ?_) (AllReadyH.cons (o := _) (by simp only [List.getElem?_toArray, List.getElem?_cons_succ, List.getElem?_cons_zero]; rfl) (fun K hK => ?_) AllReadyH.nil))
        · have px := (cell_of_row w5 _ 0 _ _ _ BX.out).trans (show _ = some (Value.slice fa ys.length fc) from rfl)
          go_simp
          clear px
          have p_B0_0 := (cell_of_row w5 _ 0 _ _ _ B0.out).trans (show _ = some (Value.slice (some ⟨b, off, none⟩) ss.length cap) from rfl)
          have p_B0_1 := (cell_of_row w5 _ 1 _ _ _ B0.out).trans (show _ = some (Value.int .i64 now) from rfl)
          have p_C0 := (d.out.cell (p := ⟨b, off + k, none⟩) HBL.out).trans C0.out
          refine hK.out _ _ ⟨p_B0_0, p_B0_1, p_C0⟩ (fun hHeld => ?_)
          clear p_B0_0 p_B0_1 p_C0
          clear hK K
          try simp only [Act.put, List.setIfInBounds_toArray, List.set_cons_zero, List.set_cons_succ]
          refine wpAnyH_ready (rs := [8]) (by kernel_rfl) (by simp) ?_
          refine (AllReadyH.cons (o := _) (by simp only [List.getElem?_toArray, List.getElem?_cons_succ, List.getElem?_cons_zero]; rfl) (fun K hK => ?_) AllReadyH.nil)
          go_simp
          have hal : Below w5.heap.size w5 (w5.alloc (.cells #[.slice pa l.length pc] 61)) := (Below.refl _ _).alloc (Nat.le_refl _) _
          have KB0 := B0
          have KBZ := BZ
          have KBX := BX
          have KPF := PF
          have KPX := PX
          have Kd := d
          replace B0 := Lib.hid ((hal.block w.heap.size (Array.getElem?_eq_some_iff.1 B0.out).1).trans B0.out)
          replace BZ := Lib.hid ((hal.block (w.heap.size + 1) (Array.getElem?_eq_some_iff.1 BZ.out).1).trans BZ.out)
          replace BX := Lib.hid ((hal.block (w.heap.size + 2) (Array.getElem?_eq_some_iff.1 BX.out).1).trans BX.out)
          replace PF := Lib.hid (slO_fresh tVersionS_law PF.out hal)
          replace PX := Lib.hid (slO_fresh tVersion_law PX.out hal)
          replace d := Lib.hid (d.out.trans (hal.mono d.out.size))
          clear hal
          have p_B0_0 := (cell_of_row (w5.alloc (.cells #[.slice pa l.length pc] 61)) _ 0 _ _ _ B0.out).trans (show _ = some (Value.slice (some ⟨b, off, none⟩) ss.length cap) from rfl)
          have p_B0_1 := (cell_of_row (w5.alloc (.cells #[.slice pa l.length pc] 61)) _ 1 _ _ _ B0.out).trans (show _ = some (Value.int .i64 now) from rfl)
          have p_C0 := (d.out.cell (p := ⟨b, off + k, none⟩) HBL.out).trans C0.out
          refine hK.out _ _ ⟨p_B0_0, p_B0_1, p_C0⟩ (fun hHeld => ?_)
          clear p_B0_0 p_B0_1 p_C0
          clear hK K
          try simp only [Act.put, List.setIfInBounds_toArray, List.set_cons_zero, List.set_cons_succ]
          refine wpAnyH_ready (rs := [9]) (by kernel_rfl) (by simp) ?_
          refine (AllReadyH.cons (o := _) (by simp only [List.getElem?_toArray, List.getElem?_cons_succ, List.getElem?_cons_zero]; rfl) (fun K hK => ?_) AllReadyH.nil)
          have y0 := ZR.out
          have y1 := Z_dr.out
          have y2 := Z_w5.out
          have yd := Kd.out.size
          have hD : wr.heap.size ≤ w5.heap.size := by omega
          refine step_append_T tVersionS_law info_T_VersionS Try.underlying28 rfl rfl (.tmp 16) (.tmp 23) rfl (fun q => w.heap.size + 2 < q) wr.heap.size _ ys rfl KPF.out hD (fun q hq => by show w.heap.size + 2 < q; omega) HYL.out [.slice pa l.length pc] l ⟨_, rfl, KPX.out⟩ (by simp [Value.oneCell']) 1 _ rfl rfl ?_
          intro v' w7 oN tN
          replace B0 := Lib.hid ((tN.block w.heap.size (Array.getElem?_eq_some_iff.1 KB0.out).1 (fun h => by have r : w.heap.size + 2 < w.heap.size := h.1; omega)).trans KB0.out)
          replace BZ := Lib.hid ((tN.block (w.heap.size + 1) (Array.getElem?_eq_some_iff.1 KBZ.out).1 (fun h => by have r : w.heap.size + 2 < (w.heap.size + 1) := h.1; omega)).trans KBZ.out)
          replace BX := Lib.hid ((tN.block (w.heap.size + 2) (Array.getElem?_eq_some_iff.1 KBX.out).1 (fun h => by have r : w.heap.size + 2 < (w.heap.size + 2) := h.1; omega)).trans KBX.out)
          replace d := Lib.hid (below_turn Kd.out tN (fun q hq => by have r : w.heap.size + 2 < q := hq.1; omega) yd)
          have zN := Lib.hid (show w5.heap.size ≤ w7.heap.size from tN.size)
          rw [HTK.out] at oN
          obtain ⟨na, nc, rfl⟩ := slO_len oN
          rw [HTL.out] at oN
          have PN := Lib.hid oN
          clear hD oN tN yd PF PX KB0 KBZ KBX KPF KPX Kd y0 y1 y2
          have p_B0_0 := (cell_of_row w7 _ 0 _ _ _ B0.out).trans (show _ = some (Value.slice (some ⟨b, off, none⟩) ss.length cap) from rfl)
          have p_B0_1 := (cell_of_row w7 _ 1 _ _ _ B0.out).trans (show _ = some (Value.int .i64 now) from rfl)
          have p_C0 := (d.out.cell (p := ⟨b, off + k, none⟩) HBL.out).trans C0.out
          refine hK.out _ _ ⟨p_B0_0, p_B0_1, p_C0⟩ (fun hHeld => ?_)
          clear p_B0_0 p_B0_1 p_C0
          clear hK K
          try simp only [Act.put, List.setIfInBounds_toArray, List.set_cons_zero, List.set_cons_succ]
          refine take_runs (i := 10) (v := ?_) (by simp only [List.getElem?_toArray, List.getElem?_cons_succ, List.getElem?_cons_zero]; rfl) (by kernel_rfl) (by kernel_rfl) (by kernel_rfl) rfl (by exact fun _ _ _ h => h) (by rfl) ?_ (by assumption) ?_
          rotate_left
          · intro w hSw; (try dsimp only at hSw); go_simp; try (with_reducible rfl)
          try simp only [Act.put, List.setIfInBounds_toArray, List.set_cons_zero, List.set_cons_succ]
          refine wpAnyH_ready (rs := [11]) (by kernel_rfl) (by simp) ?_
          refine (AllReadyH.cons (o := _) (by simp only [List.getElem?_toArray, List.getElem?_cons_succ, List.getElem?_cons_zero]; rfl) (fun K hK => ?_) AllReadyH.nil)
          have px := (cell_of_row w7 _ 0 _ _ _ BX.out).trans (show _ = some (Value.slice fa ys.length fc) from rfl)
          have fx := frozen_of_row w7 _ 0 _ _ BX.out
          rw [HTL.out]
          go_simp
          clear px fx
          have tt : Turn (fun q => q = w.heap.size + 2) w7 (w7.setCell ⟨w.heap.size + 2, 0, none⟩ (.slice na (k + 1) nc)) := turn_set (G := fun q => q = w.heap.size + 2) (g := w.heap.size + 2) (j := 0) (u := .slice na (k + 1) nc) rfl
          have r := heap_setCell_same w7 (w.heap.size + 2) 0 _ _ (.slice na (k + 1) nc) BX.out
          simp at r
          have y0 := ZR.out
          have y1 := Z_dr.out
          have y2 := Z_w5.out
          have y3 := zN.out
          replace BX : Hid ((w7.setCell ⟨w.heap.size + 2, 0, none⟩ (.slice na (k + 1) nc)).heap[w.heap.size + 2]? = some (.cells #[.slice na (k + 1) nc, .int .i64 now] 30 (0, 0))) := Lib.hid r
          replace B0 := Lib.hid ((tt.block w.heap.size (Array.getElem?_eq_some_iff.1 B0.out).1 (fun h => by omega)).trans B0.out)
          replace BZ := Lib.hid ((tt.block (w.heap.size + 1) (Array.getElem?_eq_some_iff.1 BZ.out).1 (fun h => by omega)).trans BZ.out)
          replace PN := Lib.hid (slO_turn tVersionS_law PN.out tt (fun q h1 h2 => by have r1 : w.heap.size + 2 < q := h1; omega))
          replace d := Lib.hid (below_turn d.out tt (fun q h => by omega) d.out.size)
          have zM := Lib.hid (show w7.heap.size ≤ (w7.setCell ⟨w.heap.size + 2, 0, none⟩ (.slice na (k + 1) nc)).heap.size from tt.size)
          clear tt r y0 y1 y2 y3
          generalize (w7.setCell ⟨w.heap.size + 2, 0, none⟩ (.slice na (k + 1) nc)) = w8 at *
          have p_B0_0 := (cell_of_row w8 _ 0 _ _ _ B0.out).trans (show _ = some (Value.slice (some ⟨b, off, none⟩) ss.length cap) from rfl)
          have p_B0_1 := (cell_of_row w8 _ 1 _ _ _ B0.out).trans (show _ = some (Value.int .i64 now) from rfl)
          have p_C0 := (d.out.cell (p := ⟨b, off + k, none⟩) HBL.out).trans C0.out
          refine hK.out _ _ ⟨p_B0_0, p_B0_1, p_C0⟩ (fun hHeld => ?_)
          clear p_B0_0 p_B0_1 p_C0
          clear hK K
          try simp only [Act.put, List.setIfInBounds_toArray, List.set_cons_zero, List.set_cons_succ]
          refine wpAnyH_done (by kernel_rfl) ?_ _
          clear hHeld
          have y0 := ZR.out
          have y1 := Z_dr.out
          have y2 := Z_w5.out
          have y3 := zN.out
          have y4 := zM.out
          have zz : w.heap.size + 2 < w8.heap.size := by omega
          have ZZ := Lib.hid zz
          clear zz y0 y1 y2 y3 y4
          go_wp2
          go_roundw
          case rel => exact ⟨k + 1, _, by omega, by go_num, B0.out, BZ.out, BX.out, PN.out, d.out, ZZ.out⟩
          case measure => simp [intOf]; omega
        · go_simp
          have hal : Below w5.heap.size w5 (w5.alloc (.cells #[.slice pa l.length pc] 61)) := (Below.refl _ _).alloc (Nat.le_refl _) _
          have KB0 := B0
          have KBZ := BZ
          have KBX := BX
          have KPF := PF
          have KPX := PX
          have Kd := d
          replace B0 := Lib.hid ((hal.block w.heap.size (Array.getElem?_eq_some_iff.1 B0.out).1).trans B0.out)
          replace BZ := Lib.hid ((hal.block (w.heap.size + 1) (Array.getElem?_eq_some_iff.1 BZ.out).1).trans BZ.out)
          replace BX := Lib.hid ((hal.block (w.heap.size + 2) (Array.getElem?_eq_some_iff.1 BX.out).1).trans BX.out)
          replace PF := Lib.hid (slO_fresh tVersionS_law PF.out hal)
          replace PX := Lib.hid (slO_fresh tVersion_law PX.out hal)
          replace d := Lib.hid (d.out.trans (hal.mono d.out.size))
          clear hal
          have p_B0_0 := (cell_of_row (w5.alloc (.cells #[.slice pa l.length pc] 61)) _ 0 _ _ _ B0.out).trans (show _ = some (Value.slice (some ⟨b, off, none⟩) ss.length cap) from rfl)
          have p_B0_1 := (cell_of_row (w5.alloc (.cells #[.slice pa l.length pc] 61)) _ 1 _ _ _ B0.out).trans (show _ = some (Value.int .i64 now) from rfl)
          have p_C0 := (d.out.cell (p := ⟨b, off + k, none⟩) HBL.out).trans C0.out
          refine hK.out _ _ ⟨p_B0_0, p_B0_1, p_C0⟩ (fun hHeld => ?_)
          clear p_B0_0 p_B0_1 p_C0
          clear hK K
          try simp only [Act.put, List.setIfInBounds_toArray, List.set_cons_zero, List.set_cons_succ]
          refine wpAnyH_ready (rs := [1]) (by kernel_rfl) (by simp) ?_
          refine (AllReadyH.cons (o := _) (by simp only [List.getElem?_toArray, List.getElem?_cons_succ, List.getElem?_cons_zero]; rfl) (fun K hK => ?_) AllReadyH.nil)
          have px := (cell_of_row (w5.alloc (.cells #[.slice pa l.length pc] 61)) _ 0 _ _ _ BX.out).trans (show _ = some (Value.slice fa ys.length fc) from rfl)
          go_simp
          clear px
          have p_B0_0 := (cell_of_row (w5.alloc (.cells #[.slice pa l.length pc] 61)) _ 0 _ _ _ B0.out).trans (show _ = some (Value.slice (some ⟨b, off, none⟩) ss.length cap) from rfl)
          have p_B0_1 := (cell_of_row (w5.alloc (.cells #[.slice pa l.length pc] 61)) _ 1 _ _ _ B0.out).trans (show _ = some (Value.int .i64 now) from rfl)
          have p_C0 := (d.out.cell (p := ⟨b, off + k, none⟩) HBL.out).trans C0.out
          refine hK.out _ _ ⟨p_B0_0, p_B0_1, p_C0⟩ (fun hHeld => ?_)
          clear p_B0_0 p_B0_1 p_C0
          clear hK K
          try simp only [Act.put, List.setIfInBounds_toArray, List.set_cons_zero, List.set_cons_succ]
          refine wpAnyH_ready (rs := [9]) (by kernel_rfl) (by simp) ?_
          refine (AllReadyH.cons (o := _) (by simp only [List.getElem?_toArray, List.getElem?_cons_succ, List.getElem?_cons_zero]; rfl) (fun K hK => ?_) AllReadyH.nil)
          have y0 := ZR.out
          have y1 := Z_dr.out
          have y2 := Z_w5.out
          have yd := Kd.out.size
          have hD : wr.heap.size ≤ w5.heap.size := by omega
          refine step_append_T tVersionS_law info_T_VersionS Try.underlying28 rfl rfl (.tmp 16) (.tmp 23) rfl (fun q => w.heap.size + 2 < q) wr.heap.size _ ys rfl KPF.out hD (fun q hq => by show w.heap.size + 2 < q; omega) HYL.out [.slice pa l.length pc] l ⟨_, rfl, KPX.out⟩ (by simp [Value.oneCell']) 1 _ rfl rfl ?_
          intro v' w7 oN tN
          replace B0 := Lib.hid ((tN.block w.heap.size (Array.getElem?_eq_some_iff.1 KB0.out).1 (fun h => by have r : w.heap.size + 2 < w.heap.size := h.1; omega)).trans KB0.out)
          replace BZ := Lib.hid ((tN.block (w.heap.size + 1) (Array.getElem?_eq_some_iff.1 KBZ.out).1 (fun h => by have r : w.heap.size + 2 < (w.heap.size + 1) := h.1; omega)).trans KBZ.out)
          replace BX := Lib.hid ((tN.block (w.heap.size + 2) (Array.getElem?_eq_some_iff.1 KBX.out).1 (fun h => by have r : w.heap.size + 2 < (w.heap.size + 2) := h.1; omega)).trans KBX.out)
          replace d := Lib.hid (below_turn Kd.out tN (fun q hq => by have r : w.heap.size + 2 < q := hq.1; omega) yd)
          have zN := Lib.hid (show w5.heap.size ≤ w7.heap.size from tN.size)
          rw [HTK.out] at oN
          obtain ⟨na, nc, rfl⟩ := slO_len oN
          rw [HTL.out] at oN
          have PN := Lib.hid oN
          clear hD oN tN yd PF PX KB0 KBZ KBX KPF KPX Kd y0 y1 y2
          have p_B0_0 := (cell_of_row w7 _ 0 _ _ _ B0.out).trans (show _ = some (Value.slice (some ⟨b, off, none⟩) ss.length cap) from rfl)
          have p_B0_1 := (cell_of_row w7 _ 1 _ _ _ B0.out).trans (show _ = some (Value.int .i64 now) from rfl)
          have p_C0 := (d.out.cell (p := ⟨b, off + k, none⟩) HBL.out).trans C0.out
          refine hK.out _ _ ⟨p_B0_0, p_B0_1, p_C0⟩ (fun hHeld => ?_)
          clear p_B0_0 p_B0_1 p_C0
          clear hK K
          try simp only [Act.put, List.setIfInBounds_toArray, List.set_cons_zero, List.set_cons_succ]
          refine take_runs (i := 10) (v := ?_) (by simp only [List.getElem?_toArray, List.getElem?_cons_succ, List.getElem?_cons_zero]; rfl) (by kernel_rfl) (by kernel_rfl) (by kernel_rfl) rfl (by exact fun _ _ _ h => h) (by rfl) ?_ (by assumption) ?_
          rotate_left
          · intro w hSw; (try dsimp only at hSw); go_simp; try (with_reducible rfl)
          try simp only [Act.put, List.setIfInBounds_toArray, List.set_cons_zero, List.set_cons_succ]
          refine wpAnyH_ready (rs := [11]) (by kernel_rfl) (by simp) ?_
          refine (AllReadyH.cons (o := _) (by simp only [List.getElem?_toArray, List.getElem?_cons_succ, List.getElem?_cons_zero]; rfl) (fun K hK => ?_) AllReadyH.nil)
          have px := (cell_of_row w7 _ 0 _ _ _ BX.out).trans (show _ = some (Value.slice fa ys.length fc) from rfl)
          have fx := frozen_of_row w7 _ 0 _ _ BX.out
          rw [HTL.out]
          go_simp
          clear px fx
          have tt : Turn (fun q => q = w.heap.size + 2) w7 (w7.setCell ⟨w.heap.size + 2, 0, none⟩ (.slice na (k + 1) nc)) := turn_set (G := fun q => q = w.heap.size + 2) (g := w.heap.size + 2) (j := 0) (u := .slice na (k + 1) nc) rfl
          have r := heap_setCell_same w7 (w.heap.size + 2) 0 _ _ (.slice na (k + 1) nc) BX.out
          simp at r
          have y0 := ZR.out
          have y1 := Z_dr.out
          have y2 := Z_w5.out
          have y3 := zN.out
          replace BX : Hid ((w7.setCell ⟨w.heap.size + 2, 0, none⟩ (.slice na (k + 1) nc)).heap[w.heap.size + 2]? = some (.cells #[.slice na (k + 1) nc, .int .i64 now] 30 (0, 0))) := Lib.hid r
          replace B0 := Lib.hid ((tt.block w.heap.size (Array.getElem?_eq_some_iff.1 B0.out).1 (fun h => by omega)).trans B0.out)
          replace BZ := Lib.hid ((tt.block (w.heap.size + 1) (Array.getElem?_eq_some_iff.1 BZ.out).1 (fun h => by omega)).trans BZ.out)
          replace PN := Lib.hid (slO_turn tVersionS_law PN.out tt (fun q h1 h2 => by have r1 : w.heap.size + 2 < q := h1; omega))
          replace d := Lib.hid (below_turn d.out tt (fun q h => by omega) d.out.size)
          have zM := Lib.hid (show w7.heap.size ≤ (w7.setCell ⟨w.heap.size + 2, 0, none⟩ (.slice na (k + 1) nc)).heap.size from tt.size)
          clear tt r y0 y1 y2 y3
          generalize (w7.setCell ⟨w.heap.size + 2, 0, none⟩ (.slice na (k + 1) nc)) = w8 at *
          have p_B0_0 := (cell_of_row w8 _ 0 _ _ _ B0.out).trans (show _ = some (Value.slice (some ⟨b, off, none⟩) ss.length cap) from rfl)
          have p_B0_1 := (cell_of_row w8 _ 1 _ _ _ B0.out).trans (show _ = some (Value.int .i64 now) from rfl)
          have p_C0 := (d.out.cell (p := ⟨b, off + k, none⟩) HBL.out).trans C0.out
          refine hK.out _ _ ⟨p_B0_0, p_B0_1, p_C0⟩ (fun hHeld => ?_)
          clear p_B0_0 p_B0_1 p_C0
          clear hK K
          try simp only [Act.put, List.setIfInBounds_toArray, List.set_cons_zero, List.set_cons_succ]
          refine wpAnyH_done (by kernel_rfl) ?_ _
          clear hHeld
          have y0 := ZR.out
          have y1 := Z_dr.out
          have y2 := Z_w5.out
          have y3 := zN.out
          have y4 := zM.out
          have zz : w.heap.size + 2 < w8.heap.size := by omega
          have ZZ := Lib.hid zz
          clear zz y0 y1 y2 y3 y4
          go_wp2
          go_roundw
          case rel => exact ⟨k + 1, _, by omega, by go_num, B0.out, BZ.out, BX.out, PN.out, d.out, ZZ.out⟩
          case measure => simp [intOf]; omega
    · obtain rfl : k = ss.length := by omega
      rw [List.take_length] at hown
      have HFL := Lib.hid hfl
      rw [List.take_length] at r2
      have q0 := (cell_of_row wr _ 0 _ _ _ r0).trans (show _ = some (Value.slice a ss.length cap) from rfl)
      have x0 := (cell_of_row wr _ 0 _ _ _ r2).trans (show _ = some (Value.slice fa ss.length fc) from rfl)
      have x1 := (cell_of_row wr _ 1 _ _ _ r2).trans (show _ = some (Value.int .i64 now) from rfl)
      have z0 := (cell_of_row wr _ 0 _ _ _ r1).trans (show _ = some (Value.slice none 0 0) from rfl)
      have z1 := (cell_of_row wr _ 1 _ _ _ r1).trans (show _ = some (Value.int .i64 0) from rfl)
      have g0 := frozen_of_row wr _ 0 _ _ r1
      have g1 := frozen_of_row wr _ 1 _ _ r1
      have hd : Below w.heap.size w wr := hbel
      have DF := Lib.hid ((hd.setCell (p := ⟨w.heap.size + 1, 0, none⟩) (by simp) (.slice fa ss.length fc)).setCell (p := ⟨w.heap.size + 1, 1, none⟩) (by simp) (.int .i64 now))
      have r := (heap_setCell_same _ (w.heap.size + 1) 1 _ _ (.int .i64 now) (heap_setCell_same wr (w.heap.size + 1) 0 _ _ (.slice fa ss.length fc) r1))
      simp at r
      have e0 := (cell_of_row _ (w.heap.size + 1) 0 _ _ _ r).trans (show _ = some (Value.slice fa ss.length fc) from rfl)
      have e1 := (cell_of_row _ (w.heap.size + 1) 1 _ _ _ r).trans (show _ = some (Value.int .i64 now) from rfl)
      have tt : Turn (fun b => b = w.heap.size + 1) wr ((wr.setCell ⟨w.heap.size + 1, 0, none⟩ (.slice fa ss.length fc)).setCell ⟨w.heap.size + 1, 1, none⟩ (.int .i64 now)) := ((Turn.refl (fun b => b = w.heap.size + 1) _).trans (turn_set (G := fun b => b = w.heap.size + 1) (g := w.heap.size + 1) (j := 0) (u := .slice fa ss.length fc) rfl)).trans (turn_set (G := fun b => b = w.heap.size + 1) (g := w.heap.size + 1) (j := 1) (u := .int .i64 now) rfl)
      have PF1 := Lib.hid (slO_turn tVersionS_law hown tt (fun b h1 h2 => by have h3 : w.heap.size + 2 < b := h1; omega))
      clear r tt r0 r1 r2 hown hbel hd hfl
      go_wp2
      refine bodyPost_ret (v := .agg #[.slice fa ss.length fc, .int .i64 now]) ?_ rfl ⟨[.slice fa ss.length fc, .int .i64 now], rfl, tStore_mkO PF1.out (fun b h => by have h3 : w.heap.size + 2 < b := h; show w.heap.size ≤ b; omega), DF.out⟩
      simp [results, Try.f41, go_sem, e0, e1]
end Go.Proofs.Ytdhglmoanpkeoaa
namespace Go.Proofs.Ytdhglmoanpkeoaa
open Go.RowKit
set_option linter.unusedVariables false
set_option linter.unusedSimpArgs false
/-- The record of a row. -/
def recV (id : Int) (xs : List Int) : Value := .agg #[.int .i64 id, .int .i64 xs.length, .int .i64 (xs.getD 0 0), .int .i64 (xs.getD 1 0), .int .i64 (xs.getD 2 0)]
theorem info_size {P : Program} {e : TypeId} {z : Option Value} {n b : Nat} (h : (P.info? e).map (fun i => (i.zero, i.size, i.bytes)) = some (z, n, b)) : (P.info? e).map (·.size) = some n := by
  cases hq : P.info? e with
  | none => rw [hq] at h; simp at h
  | some i => rw [hq] at h; simp at h; simp [h.2.1]
theorem copy_src {w : World} {a : Option Addr} {cap g : Nat} {xs : List Int} (h : Ints w (.slice a xs.length cap) xs) : 0 < ((xs.take 3).map (Value.int .i64)).length → (some ⟨g, 2, none⟩ : Option Addr) = some ⟨g, 2, none⟩ ∧ ∃ ad, a = some ad ∧ ∀ j v, ((xs.take 3).map (Value.int .i64))[j]? = some v → w.cell? (ad.add j) = some v := by
  intro h0
  refine ⟨rfl, ?_⟩
  rcases h with ⟨rfl, _⟩ | ⟨b, off, cap', e, _, _, hc⟩
  · simp at h0
  · simp only [Value.slice.injEq] at e
    obtain ⟨rfl, _, _⟩ := e
    refine ⟨_, rfl, fun j v hj => ?_⟩
    rw [Go.WideShapes.add_plain]
    rw [List.getElem?_map, List.getElem?_take] at hj
    by_cases hlt : j < 3
    · rw [if_pos hlt] at hj
      by_cases hl : j < xs.length
      · rw [hc j hl]
        rw [List.getElem?_eq_getElem hl] at hj
        simpa [List.getD, hl] using hj
      · rw [List.getElem?_eq_none (by omega)] at hj
        simp at hj
    · rw [if_neg hlt] at hj
      simp at hj
theorem splice_rec (a b : Value) (xs : List Int) : splice [a, b, .int .i64 0, .int .i64 0, .int .i64 0] 2 ((xs.take 3).map (Value.int .i64)) = [a, b, .int .i64 (xs.getD 0 0), .int .i64 (xs.getD 1 0), .int .i64 (xs.getD 2 0)] := by
  match xs with
  | [] => rfl
  | [x] => rfl
  | [x, y] => rfl
  | x :: y :: z :: r => rfl
set_option maxHeartbeats 4000000 in
set_option maxRecDepth 100000 in
theorem recordOf_any (id : Int) (vv : Value) (xs : List Int) (w : World) (h : Ints w vv xs) (hn : xs.length ≤ 1048576) :
    Calls Try.prog 146 #[.agg #[.int .i64 id, vv]] w fun e w' => e = .returned (recV id xs) ∧ Below w.heap.size w w' := by
  have H := Lib.hid h
  have HN := Lib.hid hn
  obtain ⟨va, vcap, rfl⟩ := ints_len h
  clear h hn
  go_enter Try.func146, Try.ntmps146
  go_wp2
  have hh : Below w.heap.size w (((w.alloc (.cells #[.int .i64 id, .slice va xs.length vcap] 73)).alloc (.cells #[.int .i64 0, .int .i64 0, .int .i64 0, .int .i64 0, .int .i64 0] 174)).alloc (.cells #[.int .i64 id, .int .i64 xs.length, .int .i64 0, .int .i64 0, .int .i64 0] 174)) := (((Below.refl _ w).alloc (Nat.le_refl _) _).alloc (by simp) _).alloc (by simp; omega) _
  have g2 : (((w.alloc (.cells #[.int .i64 id, .slice va xs.length vcap] 73)).alloc (.cells #[.int .i64 0, .int .i64 0, .int .i64 0, .int .i64 0, .int .i64 0] 174)).alloc (.cells #[.int .i64 id, .int .i64 xs.length, .int .i64 0, .int .i64 0, .int .i64 0] 174)).heap[w.heap.size + 2]? = some (.cells #[.int .i64 id, .int .i64 xs.length, .int .i64 0, .int .i64 0, .int .i64 0] 174 (0, 0)) := by
    have := heap_alloc_new ((w.alloc (.cells #[.int .i64 id, .slice va xs.length vcap] 73)).alloc (.cells #[.int .i64 0, .int .i64 0, .int .i64 0, .int .i64 0, .int .i64 0] 174)) (.cells #[.int .i64 id, .int .i64 xs.length, .int .i64 0, .int .i64 0, .int .i64 0] 174)
    simpa only [World.size_alloc] using this
  have g1 : (((w.alloc (.cells #[.int .i64 id, .slice va xs.length vcap] 73)).alloc (.cells #[.int .i64 0, .int .i64 0, .int .i64 0, .int .i64 0, .int .i64 0] 174)).alloc (.cells #[.int .i64 id, .int .i64 xs.length, .int .i64 0, .int .i64 0, .int .i64 0] 174)).heap[w.heap.size + 1]? = some (.cells #[.int .i64 0, .int .i64 0, .int .i64 0, .int .i64 0, .int .i64 0] 174 (0, 0)) := by
    rw [Below.heap_alloc _ _ _ (by simp)]
    have := heap_alloc_new (w.alloc (.cells #[.int .i64 id, .slice va xs.length vcap] 73)) (.cells #[.int .i64 0, .int .i64 0, .int .i64 0, .int .i64 0, .int .i64 0] 174)
    simpa only [World.size_alloc] using this
  have g0 : (((w.alloc (.cells #[.int .i64 id, .slice va xs.length vcap] 73)).alloc (.cells #[.int .i64 0, .int .i64 0, .int .i64 0, .int .i64 0, .int .i64 0] 174)).alloc (.cells #[.int .i64 id, .int .i64 xs.length, .int .i64 0, .int .i64 0, .int .i64 0] 174)).heap[w.heap.size]? = some (.cells #[.int .i64 id, .slice va xs.length vcap] 73 (0, 0)) := by
    rw [Below.heap_alloc _ _ _ (by simp; omega), Below.heap_alloc _ _ _ (by simp)]
    exact heap_alloc_new w _
  have hs : (((w.alloc (.cells #[.int .i64 id, .slice va xs.length vcap] 73)).alloc (.cells #[.int .i64 0, .int .i64 0, .int .i64 0, .int .i64 0, .int .i64 0] 174)).alloc (.cells #[.int .i64 id, .int .i64 xs.length, .int .i64 0, .int .i64 0, .int .i64 0] 174)).heap.size = w.heap.size + 3 := by simp [World.size_alloc]
  generalize (((w.alloc (.cells #[.int .i64 id, .slice va xs.length vcap] 73)).alloc (.cells #[.int .i64 0, .int .i64 0, .int .i64 0, .int .i64 0, .int .i64 0] 174)).alloc (.cells #[.int .i64 id, .int .i64 xs.length, .int .i64 0, .int .i64 0, .int .i64 0] 174)) = W at *
  have b0 := cell_of_row W _ 1 _ _ _ g0
  simp at b0
  have I2 := ints_below H.out hh
  refine wp_region_held_drew (S := fun w' => w'.cell? ⟨w.heap.size, 1, none⟩ = some (.slice va xs.length vcap)) (by kernel_rfl) b0 (fun hHeld => ?_)
  refine take_runs (i := 0) (v := ?_) (by simp only [List.getElem?_toArray, List.getElem?_cons_succ, List.getElem?_cons_zero]; rfl) (by kernel_rfl) (by kernel_rfl) (by kernel_rfl) rfl (by exact fun _ _ _ h => h) (by rfl) ?_ (by assumption) ?_
  rotate_left
  · intro w hSw; (try dsimp only at hSw); go_simp; try (with_reducible rfl)
  try simp only [Act.put, List.setIfInBounds_toArray, List.set_cons_zero, List.set_cons_succ]
  refine take_runs (i := 1) (v := ?_) (by simp only [List.getElem?_toArray, List.getElem?_cons_succ, List.getElem?_cons_zero]; rfl) (by kernel_rfl) (by kernel_rfl) (by kernel_rfl) rfl (by exact fun _ _ _ h => h) (by rfl) ?_ (by assumption) ?_
  rotate_left
  · intro w hSw; (try dsimp only at hSw); go_simp; try (with_reducible rfl)
  try simp only [Act.put, List.setIfInBounds_toArray, List.set_cons_zero, List.set_cons_succ]
  refine take_runs (i := 2) (v := ?_) (by simp only [List.getElem?_toArray, List.getElem?_cons_succ, List.getElem?_cons_zero]; rfl) (by kernel_rfl) (by kernel_rfl) (by kernel_rfl) rfl (by exact fun _ _ _ h => h) (by rfl) ?_ (by assumption) ?_
  rotate_left
  · intro w hSw; (try dsimp only at hSw); go_simp; try (with_reducible rfl)
  try simp only [Act.put, List.setIfInBounds_toArray, List.set_cons_zero, List.set_cons_succ]
  refine take_runs (i := 3) (v := ?_) (by simp only [List.getElem?_toArray, List.getElem?_cons_succ, List.getElem?_cons_zero]; rfl) (by kernel_rfl) (by kernel_rfl) (by kernel_rfl) rfl (by exact fun _ _ _ h => h) (by rfl) ?_ (by assumption) ?_
  rotate_left
  · intro w hSw; (try dsimp only at hSw); go_simp; try (with_reducible rfl)
  try simp only [Act.put, List.setIfInBounds_toArray, List.set_cons_zero, List.set_cons_succ]
  refine wpAnyH_ready (rs := [4]) (by kernel_rfl) (by simp) ?_
  refine AllReadyH.cons (o := _) (by simp only [List.getElem?_toArray, List.getElem?_cons_succ, List.getElem?_cons_zero]; rfl) (fun K hK => ?_) AllReadyH.nil
  refine step_copy_splice rfl (.tmp 11) (.tmp 13) 37 37 rfl 3 Try.underlying37 (info_size Try.infoI64) _ _ _ _ _ _ rfl rfl (w.heap.size + 2) 2 [.int .i64 id, .int .i64 xs.length, .int .i64 0, .int .i64 0, .int .i64 0] _ g2 ((xs.take 3).map (Value.int .i64)) (by simp [Nat.min_comm]) (copy_src I2) (by simp; omega) (fun u hu => by obtain ⟨y, _, rfl⟩ := List.mem_map.1 hu; rfl) (w.heap.size + 2) W (below_drew (Below.refl _ W)) (Nat.le_refl _) ?_
  intro W2 G2 bA
  rw [splice_rec] at G2
  have k0 := (bA.block w.heap.size (by omega)).trans g0
  have b1 := cell_of_row W2 _ 1 _ _ _ k0
  simp at b1
  refine hK.out _ _ b1 (fun hHeld2 => ?_)
  clear hK K hHeld
  try simp only [Act.put, List.setIfInBounds_toArray, List.set_cons_zero, List.set_cons_succ]
  refine wpAnyH_done (by kernel_rfl) ?_ _
  have k1 := (bA.block (w.heap.size + 1) (by omega)).trans g1
  have k2 := G2.out
  have hbb := hh.trans (bA.mono (by omega))
  clear G2 bA g0 g1 g2 I2 hHeld2 b0 b1 k0 hh hs
  obtain ⟨n, hn2⟩ : ∃ n : Nat, n = xs.length := ⟨_, rfl⟩
  have c0 := cell_of_row W2 _ 0 _ _ _ k2
  have d0 := cell_of_row W2 _ 0 _ _ _ k1
  have f0 := frozen_of_row W2 _ 0 _ _ k1
  have c1 := cell_of_row W2 _ 1 _ _ _ k2
  have d1 := cell_of_row W2 _ 1 _ _ _ k1
  have f1 := frozen_of_row W2 _ 1 _ _ k1
  have c2 := cell_of_row W2 _ 2 _ _ _ k2
  have d2 := cell_of_row W2 _ 2 _ _ _ k1
  have f2 := frozen_of_row W2 _ 2 _ _ k1
  have c3 := cell_of_row W2 _ 3 _ _ _ k2
  have d3 := cell_of_row W2 _ 3 _ _ _ k1
  have f3 := frozen_of_row W2 _ 3 _ _ k1
  have c4 := cell_of_row W2 _ 4 _ _ _ k2
  have d4 := cell_of_row W2 _ 4 _ _ _ k1
  have f4 := frozen_of_row W2 _ 4 _ _ k1
  simp at c0 c1 c2 c3 c4 d0 d1 d2 d3 d4
  clear k2 hn2
  generalize hx0 : xs[0]?.getD 0 = x0 at c2
  generalize hx1 : xs[1]?.getD 0 = x1 at c3
  generalize hx2 : xs[2]?.getD 0 = x2 at c4
  have HX := Lib.hid (And.intro hx0 (And.intro hx1 hx2))
  clear hx0 hx1 hx2
  go_wp2
  have r0 := heap_setCell_same W2 (w.heap.size + 1) 0 _ _ (.int .i64 id) k1
  have r1 := heap_setCell_same _ (w.heap.size + 1) 1 _ _ (.int .i64 xs.length) r0
  have r2 := heap_setCell_same _ (w.heap.size + 1) 2 _ _ (.int .i64 x0) r1
  have r3 := heap_setCell_same _ (w.heap.size + 1) 3 _ _ (.int .i64 x1) r2
  have r4 := heap_setCell_same _ (w.heap.size + 1) 4 _ _ (.int .i64 x2) r3
  have B4 := (((((hbb.setCell (p := ⟨w.heap.size + 1, 0, none⟩) (by simp) (.int .i64 id)).setCell (p := ⟨w.heap.size + 1, 1, none⟩) (by simp) (.int .i64 xs.length)).setCell (p := ⟨w.heap.size + 1, 2, none⟩) (by simp) (.int .i64 x0)).setCell (p := ⟨w.heap.size + 1, 3, none⟩) (by simp) (.int .i64 x1)).setCell (p := ⟨w.heap.size + 1, 4, none⟩) (by simp) (.int .i64 x2))
  clear r0 r1 r2 r3 k1
  have e0 := cell_of_row _ _ 0 _ _ _ r4
  have e1 := cell_of_row _ _ 1 _ _ _ r4
  have e2 := cell_of_row _ _ 2 _ _ _ r4
  have e3 := cell_of_row _ _ 3 _ _ _ r4
  have e4 := cell_of_row _ _ 4 _ _ _ r4
  simp at e0 e1 e2 e3 e4
  clear r4
  refine bodyPost_ret (v := .agg #[.int .i64 id, .int .i64 xs.length, .int .i64 x0, .int .i64 x1, .int .i64 x2]) ?_ rfl ?_
  · simp [results, Try.f146, go_sem, e0, e1, e2, e3, e4]
  · obtain ⟨rfl, rfl, rfl⟩ := HX.out
    exact ⟨by simp [recV], B4⟩
end Go.Proofs.Ytdhglmoanpkeoaa
namespace Go.Proofs.Ytdhglmoanpkeoaa
open Go.RowKit
set_option linter.unusedVariables false
set_option linter.unusedSimpArgs false
/-- A value moved into the range. -/
def limI (x : Int) : Int := min (max x 0) 99
theorem idx0 (a b c : Int) (w : World) : Sem.run Try.prog (Instr.index 172 (.agg #[.int .i64 a, .int .i64 b, .int .i64 c]) (.int .i64 0)) w = .ok (.int .i64 a) w := by
  have u := Try.underlying172
  have z := Try.sizeOf3
  have g := Try.isAgg3
  unfold Instr.index
  go_simp
theorem idx1 (a b c : Int) (w : World) : Sem.run Try.prog (Instr.index 172 (.agg #[.int .i64 a, .int .i64 b, .int .i64 c]) (.int .i64 1)) w = .ok (.int .i64 b) w := by
  have u := Try.underlying172
  have z := Try.sizeOf3
  have g := Try.isAgg3
  unfold Instr.index
  go_simp
theorem idx2 (a b c : Int) (w : World) : Sem.run Try.prog (Instr.index 172 (.agg #[.int .i64 a, .int .i64 b, .int .i64 c]) (.int .i64 2)) w = .ok (.int .i64 c) w := by
  have u := Try.underlying172
  have z := Try.sizeOf3
  have g := Try.isAgg3
  unfold Instr.index
  go_simp
set_option maxHeartbeats 4000000 in
set_option maxRecDepth 100000 in
theorem limited_any (a b c : Int) (w : World) :
    Calls Try.prog 152 #[.agg #[.int .i64 a, .int .i64 b, .int .i64 c]] w fun e w' => e = .returned (.agg #[.int .i64 (limI a), .int .i64 (limI b), .int .i64 (limI c)]) ∧ Below w.heap.size w w' := by
  have i0 := idx0 a b c
  have i1 := idx1 a b c
  have i2 := idx2 a b c
  go_enter Try.func152, Try.ntmps152
  go_wp2
  refine wp_loop_rounds 4 ?_
  rw [rounds_succ]
  go_wp2
  rw [rounds_succ]
  go_wp2
  rw [rounds_succ]
  go_wp2
  rw [rounds_succ]
  go_wp2
  refine bodyPost_ret (v := .agg #[.int .i64 (limI a), .int .i64 (limI b), .int .i64 (limI c)]) ?_ rfl ?_
  · simp [results, Try.f152, go_sem, limI]
  refine ⟨rfl, ?_⟩
  exact ((Below.refl _ w).alloc (Nat.le_refl _) _).alloc (by simp) _
end Go.Proofs.Ytdhglmoanpkeoaa
namespace Go.Proofs.Ytdhglmoanpkeoaa
open Go.RowKit
set_option linter.unusedVariables false
set_option linter.unusedSimpArgs false
theorem eqIn_arr (d : Nat) (a b c x y z : Int) (w : World) : (Op.equalIn (d + 2) 172 (.agg #[.int .i64 a, .int .i64 b, .int .i64 c]) (.agg #[.int .i64 x, .int .i64 y, .int .i64 z])).run Try.prog w = .ok (a == x && b == y && c == z) w := by
  have u := Try.underlying172
  have u3 := Try.underlying3
  have z3 := Try.sizeOf3
  have g := Try.isAgg3
  rw [Op.equalIn]
  simp only [Sem.run_bind, run_underlying u, Result.andThen_ok, z3]
  simp only [Std.Legacy.Range.forIn_eq_forIn_range', Std.Legacy.Range.size]
  simp [List.range', g, z3, go_sem, run_equalIn_int (P := Try.prog) _ d _ _ _ _ _ u3]
  by_cases h1 : a = x <;> by_cases h2 : b = y <;> by_cases h3 : c = z <;> simp [h1, h2, h3]
theorem eql_arr (a b c x y z : Int) (w : World) : Sem.run Try.prog (binOp .eql 172 (.agg #[.int .i64 a, .int .i64 b, .int .i64 c]) (.agg #[.int .i64 x, .int .i64 y, .int .i64 z])) w = .ok (.bool (a == x && b == y && c == z)) w := by
  rw [run_eql_struct, show (10000 : Nat) = 9998 + 2 from rfl, eqIn_arr]
  rfl
theorem guard_arr (o1 o2 : Operand) (xs ys : Array Value) (w : World) : Sem.run Try.prog (eqGuard .eql 172 o1 o2 (.agg xs) (.agg ys)) w = .ok () w := run_eqGuard_agg w _ _ _ _ _ _ (by kernel_rfl)
end Go.Proofs.Ytdhglmoanpkeoaa
namespace Go.Proofs.Ytdhglmoanpkeoaa
open Go.RowKit
set_option linter.unusedVariables false
set_option linter.unusedSimpArgs false
theorem isRowId_yes (id : Int) (w : World) (h1 : 0 ≤ id) (h2 : id ≤ 999) : Calls Try.prog 151 #[.int .i64 id] w fun e w' => e = .returned (.bool true) ∧ w' = w := by
  go_enter Try.func151, Try.ntmps151
  go_wp2
  go_ret
  exact ⟨rfl, rfl⟩
theorem isRowId_no (id : Int) (w : World) (h : ¬ (0 ≤ id ∧ id ≤ 999)) : Calls Try.prog 151 #[.int .i64 id] w fun e w' => e = .returned (.bool false) ∧ w' = w := by
  by_cases h1 : 0 ≤ id
  · have h2 : ¬ id ≤ 999 := fun g => h ⟨h1, g⟩
    clear h
    go_enter Try.func151, Try.ntmps151
    go_wp2
    go_ret
    exact ⟨rfl, rfl⟩
  · clear h
    go_enter Try.func151, Try.ntmps151
    go_wp2
    go_ret
    exact ⟨rfl, rfl⟩
/-- Is a record valid? -/
def recB (id n a b c : Int) : Bool := decide (0 ≤ id ∧ id ≤ 999) && (decide (n = 3) && (a == limI a && b == limI b && c == limI c))
theorem lim_in (x : Int) : (x == limI x) = decide (0 ≤ x ∧ x ≤ 99) := by
  unfold limI
  by_cases h : 0 ≤ x ∧ x ≤ 99
  · rw [decide_eq_true h, beq_iff_eq]; omega
  · rw [decide_eq_false h, beq_eq_false_iff_ne]; omega
theorem recB_row (id : Int) (xs : List Int) : recB id xs.length (xs.getD 0 0) (xs.getD 1 0) (xs.getD 2 0) = rowB (id, xs) := by
  unfold recB rowB
  simp only [lim_in]
  match xs with
  | [] => simp
  | [x] => simp
  | [x, y] => simp
  | [x, y, z] => simp [List.all, Bool.and_assoc]
  | x :: y :: z :: u :: r =>
    have : ¬ ((r.length : Int) + 1 + 1 + 1 + 1 = 3) := by omega
    simp [this]
theorem below_from {W w8 w9 : World} (h : w8 = W.drew) (b : Below w8.heap.size w8 w9) : Below W.heap.size W w9 := by subst h; exact ⟨b.os, b.tape, b.output, b.size, b.block⟩
set_option maxHeartbeats 8000000 in
set_option maxRecDepth 100000 in
theorem isValid_id (id n a b c : Int) (w : World) (h : ¬ (0 ≤ id ∧ id ≤ 999)) :
    Calls Try.prog 148 #[.agg #[.int .i64 id, .int .i64 n, .int .i64 a, .int .i64 b, .int .i64 c]] w fun e w' => e = .returned (.bool (false)) ∧ Below w.heap.size w w' := by
  have HI := Lib.hid (fun w => isRowId_no id w h)
  clear h
  go_enter Try.func148, Try.ntmps148
  go_wp2
  have hh : Below w.heap.size w (w.alloc (.cells #[.int .i64 id, .int .i64 n, .int .i64 a, .int .i64 b, .int .i64 c] 174)) := (Below.refl _ w).alloc (Nat.le_refl _) _
  have g0 := heap_alloc_new w (.cells #[.int .i64 id, .int .i64 n, .int .i64 a, .int .i64 b, .int .i64 c] 174)
  have hlt : w.heap.size < (w.alloc (.cells #[.int .i64 id, .int .i64 n, .int .i64 a, .int .i64 b, .int .i64 c] 174)).heap.size := by simp
  generalize w.alloc (.cells #[.int .i64 id, .int .i64 n, .int .i64 a, .int .i64 b, .int .i64 c] 174) = W at *
  have q0 := cell_of_row W _ 0 _ _ _ g0
  have q1 := cell_of_row W _ 1 _ _ _ g0
  have q2 := cell_of_row W _ 2 _ _ _ g0
  have q3 := cell_of_row W _ 3 _ _ _ g0
  have q4 := cell_of_row W _ 4 _ _ _ g0
  simp at q0 q1 q2 q3 q4
  refine wp_region_held_drew (S := fun w' => w'.cell? ⟨w.heap.size, 0, none⟩ = some (.int .i64 id) ∧ w'.cell? ⟨w.heap.size, 1, none⟩ = some (.int .i64 n) ∧ w'.cell? ⟨w.heap.size, 2, none⟩ = some (.int .i64 a) ∧ w'.cell? ⟨w.heap.size, 3, none⟩ = some (.int .i64 b) ∧ w'.cell? ⟨w.heap.size, 4, none⟩ = some (.int .i64 c)) (by kernel_rfl) ⟨q0, q1, q2, q3, q4⟩ (fun hHeld => ?_)
  refine take_runs (i := 0) (v := ?_) (by simp only [List.getElem?_toArray, List.getElem?_cons_succ, List.getElem?_cons_zero]; rfl) (by kernel_rfl) (by kernel_rfl) (by kernel_rfl) rfl (by exact fun _ _ _ h => h) (by rfl) ?_ (by assumption) ?_
  rotate_left
  · intro w hSw; (try dsimp only at hSw); go_simp; try (with_reducible rfl)
  try simp only [Act.put, List.setIfInBounds_toArray, List.set_cons_zero, List.set_cons_succ]
  refine take_runs (i := 1) (v := ?_) (by simp only [List.getElem?_toArray, List.getElem?_cons_succ, List.getElem?_cons_zero]; rfl) (by kernel_rfl) (by kernel_rfl) (by kernel_rfl) rfl (by exact fun _ _ _ h => h) (by rfl) ?_ (by assumption) ?_
  rotate_left
  · intro w hSw; (try dsimp only at hSw); go_simp; try (with_reducible rfl)
  try simp only [Act.put, List.setIfInBounds_toArray, List.set_cons_zero, List.set_cons_succ]
  refine wpAnyH_ready (rs := [2]) (by kernel_rfl) (by simp) ?_
  refine AllReadyH.cons (o := _) (by simp only [List.getElem?_toArray, List.getElem?_cons_succ, List.getElem?_cons_zero]; rfl) (fun K hK => ?_) AllReadyH.nil
  go_simp
  refine (HI.out _).mono ?_
  rintro e w8 ⟨rfl, rfl⟩
  refine hK.out _ _ ⟨q0, q1, q2, q3, q4⟩ (fun hHeld => ?_)
  clear hK K
  try simp only [Act.put, List.setIfInBounds_toArray, List.set_cons_zero, List.set_cons_succ]
  refine take_runs (i := 3) (v := ?_) (by simp only [List.getElem?_toArray, List.getElem?_cons_succ, List.getElem?_cons_zero]; rfl) (by kernel_rfl) (by kernel_rfl) (by kernel_rfl) rfl (by exact fun _ _ _ h => h) (by rfl) ?_ (by assumption) ?_
  rotate_left
  · intro w hSw; (try dsimp only at hSw); go_simp; try (with_reducible rfl)
  try simp only [Act.put, List.setIfInBounds_toArray, List.set_cons_zero, List.set_cons_succ]
  refine take_over (i := 4) (by simp only [List.getElem?_toArray, List.getElem?_cons_succ, List.getElem?_cons_zero]; rfl) (by kernel_rfl) (by kernel_rfl) (by kernel_rfl) rfl (by exact fun _ _ _ h => h) (by rfl) (by assumption) ?_
  try simp only [Act.put, List.setIfInBounds_toArray, List.set_cons_zero, List.set_cons_succ]
  refine take_over (i := 5) (by simp only [List.getElem?_toArray, List.getElem?_cons_succ, List.getElem?_cons_zero]; rfl) (by kernel_rfl) (by kernel_rfl) (by kernel_rfl) rfl (by exact fun _ _ _ h => h) (by rfl) (by assumption) ?_
  try simp only [Act.put, List.setIfInBounds_toArray, List.set_cons_zero, List.set_cons_succ]
  refine take_over (i := 6) (by simp only [List.getElem?_toArray, List.getElem?_cons_succ, List.getElem?_cons_zero]; rfl) (by kernel_rfl) (by kernel_rfl) (by kernel_rfl) rfl (by exact fun _ _ _ h => h) (by rfl) (by assumption) ?_
  try simp only [Act.put, List.setIfInBounds_toArray, List.set_cons_zero, List.set_cons_succ]
  refine take_runs (i := 7) (v := ?_) (by simp only [List.getElem?_toArray, List.getElem?_cons_succ, List.getElem?_cons_zero]; rfl) (by kernel_rfl) (by kernel_rfl) (by kernel_rfl) rfl (by exact fun _ _ _ h => h) (by rfl) ?_ (by assumption) ?_
  rotate_left
  · intro w hSw; (try dsimp only at hSw); go_simp; try (with_reducible rfl)
  try simp only [Act.put, List.setIfInBounds_toArray, List.set_cons_zero, List.set_cons_succ]
  refine take_runs (i := 8) (v := ?_) (by simp only [List.getElem?_toArray, List.getElem?_cons_succ, List.getElem?_cons_zero]; rfl) (by kernel_rfl) (by kernel_rfl) (by kernel_rfl) rfl (by exact fun _ _ _ h => h) (by rfl) ?_ (by assumption) ?_
  rotate_left
  · intro w hSw; (try dsimp only at hSw); go_simp; try (with_reducible rfl)
  try simp only [Act.put, List.setIfInBounds_toArray, List.set_cons_zero, List.set_cons_succ]
  refine take_over (i := 9) (by simp only [List.getElem?_toArray, List.getElem?_cons_succ, List.getElem?_cons_zero]; rfl) (by kernel_rfl) (by kernel_rfl) (by kernel_rfl) rfl (by exact fun _ _ _ h => h) (by rfl) (by assumption) ?_
  try simp only [Act.put, List.setIfInBounds_toArray, List.set_cons_zero, List.set_cons_succ]
  refine take_over (i := 10) (by simp only [List.getElem?_toArray, List.getElem?_cons_succ, List.getElem?_cons_zero]; rfl) (by kernel_rfl) (by kernel_rfl) (by kernel_rfl) rfl (by exact fun _ _ _ h => h) (by rfl) (by assumption) ?_
  try simp only [Act.put, List.setIfInBounds_toArray, List.set_cons_zero, List.set_cons_succ]
  refine take_over (i := 11) (by simp only [List.getElem?_toArray, List.getElem?_cons_succ, List.getElem?_cons_zero]; rfl) (by kernel_rfl) (by kernel_rfl) (by kernel_rfl) rfl (by exact fun _ _ _ h => h) (by rfl) (by assumption) ?_
  try simp only [Act.put, List.setIfInBounds_toArray, List.set_cons_zero, List.set_cons_succ]
  refine take_over (i := 12) (by simp only [List.getElem?_toArray, List.getElem?_cons_succ, List.getElem?_cons_zero]; rfl) (by kernel_rfl) (by kernel_rfl) (by kernel_rfl) rfl (by exact fun _ _ _ h => h) (by rfl) (by assumption) ?_
  try simp only [Act.put, List.setIfInBounds_toArray, List.set_cons_zero, List.set_cons_succ]
  refine take_over (i := 13) (by simp only [List.getElem?_toArray, List.getElem?_cons_succ, List.getElem?_cons_zero]; rfl) (by kernel_rfl) (by kernel_rfl) (by kernel_rfl) rfl (by exact fun _ _ _ h => h) (by rfl) (by assumption) ?_
  try simp only [Act.put, List.setIfInBounds_toArray, List.set_cons_zero, List.set_cons_succ]
  refine take_over (i := 14) (by simp only [List.getElem?_toArray, List.getElem?_cons_succ, List.getElem?_cons_zero]; rfl) (by kernel_rfl) (by kernel_rfl) (by kernel_rfl) rfl (by exact fun _ _ _ h => h) (by rfl) (by assumption) ?_
  try simp only [Act.put, List.setIfInBounds_toArray, List.set_cons_zero, List.set_cons_succ]
  refine take_runs (i := 15) (v := ?_) (by simp only [List.getElem?_toArray, List.getElem?_cons_succ, List.getElem?_cons_zero]; rfl) (by kernel_rfl) (by kernel_rfl) (by kernel_rfl) rfl (by exact fun _ _ _ h => h) (by rfl) ?_ (by assumption) ?_
  rotate_left
  · intro w hSw; (try dsimp only at hSw); go_simp; try (with_reducible rfl)
  try simp only [Act.put, List.setIfInBounds_toArray, List.set_cons_zero, List.set_cons_succ]
  refine take_runs (i := 16) (v := ?_) (by simp only [List.getElem?_toArray, List.getElem?_cons_succ, List.getElem?_cons_zero]; rfl) (by kernel_rfl) (by kernel_rfl) (by kernel_rfl) rfl (by exact fun _ _ _ h => h) (by rfl) ?_ (by assumption) ?_
  rotate_left
  · intro w hSw; (try dsimp only at hSw); go_simp; try (with_reducible rfl)
  try simp only [Act.put, List.setIfInBounds_toArray, List.set_cons_zero, List.set_cons_succ]
  refine wpAnyH_done (by kernel_rfl) ?_ _
  have b11 : Below w.heap.size w W.drew := below_drew hh
  clear hHeld
  go_wp2
  go_ret
  exact ⟨rfl, b11⟩
set_option maxHeartbeats 8000000 in
set_option maxRecDepth 100000 in
theorem isValid_count (id n a b c : Int) (w : World) (h1 : 0 ≤ id) (h2 : id ≤ 999) (h3 : ¬ n = 3) :
    Calls Try.prog 148 #[.agg #[.int .i64 id, .int .i64 n, .int .i64 a, .int .i64 b, .int .i64 c]] w fun e w' => e = .returned (.bool (false)) ∧ Below w.heap.size w w' := by
  have HI := Lib.hid (fun w => isRowId_yes id w h1 h2)
  clear h1 h2
  have hd : (n == 3) = false := by simpa using h3
  clear h3
  go_enter Try.func148, Try.ntmps148
  go_wp2
  have hh : Below w.heap.size w (w.alloc (.cells #[.int .i64 id, .int .i64 n, .int .i64 a, .int .i64 b, .int .i64 c] 174)) := (Below.refl _ w).alloc (Nat.le_refl _) _
  have g0 := heap_alloc_new w (.cells #[.int .i64 id, .int .i64 n, .int .i64 a, .int .i64 b, .int .i64 c] 174)
  have hlt : w.heap.size < (w.alloc (.cells #[.int .i64 id, .int .i64 n, .int .i64 a, .int .i64 b, .int .i64 c] 174)).heap.size := by simp
  generalize w.alloc (.cells #[.int .i64 id, .int .i64 n, .int .i64 a, .int .i64 b, .int .i64 c] 174) = W at *
  have q0 := cell_of_row W _ 0 _ _ _ g0
  have q1 := cell_of_row W _ 1 _ _ _ g0
  have q2 := cell_of_row W _ 2 _ _ _ g0
  have q3 := cell_of_row W _ 3 _ _ _ g0
  have q4 := cell_of_row W _ 4 _ _ _ g0
  simp at q0 q1 q2 q3 q4
  refine wp_region_held_drew (S := fun w' => w'.cell? ⟨w.heap.size, 0, none⟩ = some (.int .i64 id) ∧ w'.cell? ⟨w.heap.size, 1, none⟩ = some (.int .i64 n) ∧ w'.cell? ⟨w.heap.size, 2, none⟩ = some (.int .i64 a) ∧ w'.cell? ⟨w.heap.size, 3, none⟩ = some (.int .i64 b) ∧ w'.cell? ⟨w.heap.size, 4, none⟩ = some (.int .i64 c)) (by kernel_rfl) ⟨q0, q1, q2, q3, q4⟩ (fun hHeld => ?_)
  refine take_runs (i := 0) (v := ?_) (by simp only [List.getElem?_toArray, List.getElem?_cons_succ, List.getElem?_cons_zero]; rfl) (by kernel_rfl) (by kernel_rfl) (by kernel_rfl) rfl (by exact fun _ _ _ h => h) (by rfl) ?_ (by assumption) ?_
  rotate_left
  · intro w hSw; (try dsimp only at hSw); go_simp; try (with_reducible rfl)
  try simp only [Act.put, List.setIfInBounds_toArray, List.set_cons_zero, List.set_cons_succ]
  refine take_runs (i := 1) (v := ?_) (by simp only [List.getElem?_toArray, List.getElem?_cons_succ, List.getElem?_cons_zero]; rfl) (by kernel_rfl) (by kernel_rfl) (by kernel_rfl) rfl (by exact fun _ _ _ h => h) (by rfl) ?_ (by assumption) ?_
  rotate_left
  · intro w hSw; (try dsimp only at hSw); go_simp; try (with_reducible rfl)
  try simp only [Act.put, List.setIfInBounds_toArray, List.set_cons_zero, List.set_cons_succ]
  refine wpAnyH_ready (rs := [2]) (by kernel_rfl) (by simp) ?_
  refine AllReadyH.cons (o := _) (by simp only [List.getElem?_toArray, List.getElem?_cons_succ, List.getElem?_cons_zero]; rfl) (fun K hK => ?_) AllReadyH.nil
  go_simp
  refine (HI.out _).mono ?_
  rintro e w8 ⟨rfl, rfl⟩
  refine hK.out _ _ ⟨q0, q1, q2, q3, q4⟩ (fun hHeld => ?_)
  clear hK K
  try simp only [Act.put, List.setIfInBounds_toArray, List.set_cons_zero, List.set_cons_succ]
  refine take_runs (i := 3) (v := ?_) (by simp only [List.getElem?_toArray, List.getElem?_cons_succ, List.getElem?_cons_zero]; rfl) (by kernel_rfl) (by kernel_rfl) (by kernel_rfl) rfl (by exact fun _ _ _ h => h) (by rfl) ?_ (by assumption) ?_
  rotate_left
  · intro w hSw; (try dsimp only at hSw); go_simp; try (with_reducible rfl)
  try simp only [Act.put, List.setIfInBounds_toArray, List.set_cons_zero, List.set_cons_succ]
  refine take_runs (i := 4) (v := ?_) (by simp only [List.getElem?_toArray, List.getElem?_cons_succ, List.getElem?_cons_zero]; rfl) (by kernel_rfl) (by kernel_rfl) (by kernel_rfl) rfl (by exact fun _ _ _ h => h) (by rfl) ?_ (by assumption) ?_
  rotate_left
  · intro w hSw; (try dsimp only at hSw); go_simp; try (with_reducible rfl)
  try simp only [Act.put, List.setIfInBounds_toArray, List.set_cons_zero, List.set_cons_succ]
  refine take_runs (i := 5) (v := ?_) (by simp only [List.getElem?_toArray, List.getElem?_cons_succ, List.getElem?_cons_zero]; rfl) (by kernel_rfl) (by kernel_rfl) (by kernel_rfl) rfl (by exact fun _ _ _ h => h) (by rfl) ?_ (by assumption) ?_
  rotate_left
  · intro w hSw; (try dsimp only at hSw); go_simp; try (with_reducible rfl)
  try simp only [Act.put, List.setIfInBounds_toArray, List.set_cons_zero, List.set_cons_succ]
  refine take_runs (i := 6) (v := ?_) (by simp only [List.getElem?_toArray, List.getElem?_cons_succ, List.getElem?_cons_zero]; rfl) (by kernel_rfl) (by kernel_rfl) (by kernel_rfl) rfl (by exact fun _ _ _ h => h) (by rfl) ?_ (by assumption) ?_
  rotate_left
  · intro w hSw; (try dsimp only at hSw); go_simp; try (with_reducible rfl)
  try simp only [Act.put, List.setIfInBounds_toArray, List.set_cons_zero, List.set_cons_succ]
  refine take_runs (i := 7) (v := ?_) (by simp only [List.getElem?_toArray, List.getElem?_cons_succ, List.getElem?_cons_zero]; rfl) (by kernel_rfl) (by kernel_rfl) (by kernel_rfl) rfl (by exact fun _ _ _ h => h) (by rfl) ?_ (by assumption) ?_
  rotate_left
  · intro w hSw; (try dsimp only at hSw); go_simp; try (with_reducible rfl)
  try simp only [Act.put, List.setIfInBounds_toArray, List.set_cons_zero, List.set_cons_succ]
  refine take_runs (i := 8) (v := ?_) (by simp only [List.getElem?_toArray, List.getElem?_cons_succ, List.getElem?_cons_zero]; rfl) (by kernel_rfl) (by kernel_rfl) (by kernel_rfl) rfl (by exact fun _ _ _ h => h) (by rfl) ?_ (by assumption) ?_
  rotate_left
  · intro w hSw; (try dsimp only at hSw); go_simp; try (with_reducible rfl)
  try simp only [Act.put, List.setIfInBounds_toArray, List.set_cons_zero, List.set_cons_succ]
  refine take_over (i := 9) (by simp only [List.getElem?_toArray, List.getElem?_cons_succ, List.getElem?_cons_zero]; rfl) (by kernel_rfl) (by kernel_rfl) (by kernel_rfl) rfl (by exact fun _ _ _ h => h) (by rfl) (by assumption) ?_
  try simp only [Act.put, List.setIfInBounds_toArray, List.set_cons_zero, List.set_cons_succ]
  refine take_over (i := 10) (by simp only [List.getElem?_toArray, List.getElem?_cons_succ, List.getElem?_cons_zero]; rfl) (by kernel_rfl) (by kernel_rfl) (by kernel_rfl) rfl (by exact fun _ _ _ h => h) (by rfl) (by assumption) ?_
  try simp only [Act.put, List.setIfInBounds_toArray, List.set_cons_zero, List.set_cons_succ]
  refine take_over (i := 11) (by simp only [List.getElem?_toArray, List.getElem?_cons_succ, List.getElem?_cons_zero]; rfl) (by kernel_rfl) (by kernel_rfl) (by kernel_rfl) rfl (by exact fun _ _ _ h => h) (by rfl) (by assumption) ?_
  try simp only [Act.put, List.setIfInBounds_toArray, List.set_cons_zero, List.set_cons_succ]
  refine take_over (i := 12) (by simp only [List.getElem?_toArray, List.getElem?_cons_succ, List.getElem?_cons_zero]; rfl) (by kernel_rfl) (by kernel_rfl) (by kernel_rfl) rfl (by exact fun _ _ _ h => h) (by rfl) (by assumption) ?_
  try simp only [Act.put, List.setIfInBounds_toArray, List.set_cons_zero, List.set_cons_succ]
  refine take_over (i := 13) (by simp only [List.getElem?_toArray, List.getElem?_cons_succ, List.getElem?_cons_zero]; rfl) (by kernel_rfl) (by kernel_rfl) (by kernel_rfl) rfl (by exact fun _ _ _ h => h) (by rfl) (by assumption) ?_
  try simp only [Act.put, List.setIfInBounds_toArray, List.set_cons_zero, List.set_cons_succ]
  refine take_over (i := 14) (by simp only [List.getElem?_toArray, List.getElem?_cons_succ, List.getElem?_cons_zero]; rfl) (by kernel_rfl) (by kernel_rfl) (by kernel_rfl) rfl (by exact fun _ _ _ h => h) (by rfl) (by assumption) ?_
  try simp only [Act.put, List.setIfInBounds_toArray, List.set_cons_zero, List.set_cons_succ]
  refine take_runs (i := 15) (v := ?_) (by simp only [List.getElem?_toArray, List.getElem?_cons_succ, List.getElem?_cons_zero]; rfl) (by kernel_rfl) (by kernel_rfl) (by kernel_rfl) rfl (by exact fun _ _ _ h => h) (by rfl) ?_ (by assumption) ?_
  rotate_left
  · intro w hSw; (try dsimp only at hSw); go_simp; try (with_reducible rfl)
  try simp only [Act.put, List.setIfInBounds_toArray, List.set_cons_zero, List.set_cons_succ]
  refine take_runs (i := 16) (v := ?_) (by simp only [List.getElem?_toArray, List.getElem?_cons_succ, List.getElem?_cons_zero]; rfl) (by kernel_rfl) (by kernel_rfl) (by kernel_rfl) rfl (by exact fun _ _ _ h => h) (by rfl) ?_ (by assumption) ?_
  rotate_left
  · intro w hSw; (try dsimp only at hSw); go_simp; try (with_reducible rfl)
  try simp only [Act.put, List.setIfInBounds_toArray, List.set_cons_zero, List.set_cons_succ]
  refine wpAnyH_done (by kernel_rfl) ?_ _
  have b11 : Below w.heap.size w W.drew := below_drew hh
  clear hHeld
  go_wp2
  go_ret
  exact ⟨rfl, b11⟩
set_option maxHeartbeats 8000000 in
set_option maxRecDepth 100000 in
theorem isValid_all (id n a b c : Int) (w : World) (h1 : 0 ≤ id) (h2 : id ≤ 999) (h3 : n = 3) :
    Calls Try.prog 148 #[.agg #[.int .i64 id, .int .i64 n, .int .i64 a, .int .i64 b, .int .i64 c]] w fun e w' => e = .returned (.bool (a == limI a && b == limI b && c == limI c)) ∧ Below w.heap.size w w' := by
  have HI := Lib.hid (fun w => isRowId_yes id w h1 h2)
  clear h1 h2
  have hd : (n == 3) = true := by simpa using h3
  clear h3
  have HL := Lib.hid (fun w => limited_any a b c w)
  have he := fun w => eql_arr a b c (limI a) (limI b) (limI c) w
  have hgd := fun (o1 o2 : Operand) (xs ys : Array Value) (w : World) => guard_arr o1 o2 xs ys w
  generalize hr : (a == limI a && b == limI b && c == limI c) = r at he ⊢
  clear hr
  go_enter Try.func148, Try.ntmps148
  go_wp2
  have hh : Below w.heap.size w (w.alloc (.cells #[.int .i64 id, .int .i64 n, .int .i64 a, .int .i64 b, .int .i64 c] 174)) := (Below.refl _ w).alloc (Nat.le_refl _) _
  have g0 := heap_alloc_new w (.cells #[.int .i64 id, .int .i64 n, .int .i64 a, .int .i64 b, .int .i64 c] 174)
  have hlt : w.heap.size < (w.alloc (.cells #[.int .i64 id, .int .i64 n, .int .i64 a, .int .i64 b, .int .i64 c] 174)).heap.size := by simp
  generalize w.alloc (.cells #[.int .i64 id, .int .i64 n, .int .i64 a, .int .i64 b, .int .i64 c] 174) = W at *
  have q0 := cell_of_row W _ 0 _ _ _ g0
  have q1 := cell_of_row W _ 1 _ _ _ g0
  have q2 := cell_of_row W _ 2 _ _ _ g0
  have q3 := cell_of_row W _ 3 _ _ _ g0
  have q4 := cell_of_row W _ 4 _ _ _ g0
  simp at q0 q1 q2 q3 q4
  refine wp_region_held_drew (S := fun w' => w'.cell? ⟨w.heap.size, 0, none⟩ = some (.int .i64 id) ∧ w'.cell? ⟨w.heap.size, 1, none⟩ = some (.int .i64 n) ∧ w'.cell? ⟨w.heap.size, 2, none⟩ = some (.int .i64 a) ∧ w'.cell? ⟨w.heap.size, 3, none⟩ = some (.int .i64 b) ∧ w'.cell? ⟨w.heap.size, 4, none⟩ = some (.int .i64 c)) (by kernel_rfl) ⟨q0, q1, q2, q3, q4⟩ (fun hHeld => ?_)
  refine take_runs (i := 0) (v := ?_) (by simp only [List.getElem?_toArray, List.getElem?_cons_succ, List.getElem?_cons_zero]; rfl) (by kernel_rfl) (by kernel_rfl) (by kernel_rfl) rfl (by exact fun _ _ _ h => h) (by rfl) ?_ (by assumption) ?_
  rotate_left
  · intro w hSw; (try dsimp only at hSw); go_simp; try (with_reducible rfl)
  try simp only [Act.put, List.setIfInBounds_toArray, List.set_cons_zero, List.set_cons_succ]
  refine take_runs (i := 1) (v := ?_) (by simp only [List.getElem?_toArray, List.getElem?_cons_succ, List.getElem?_cons_zero]; rfl) (by kernel_rfl) (by kernel_rfl) (by kernel_rfl) rfl (by exact fun _ _ _ h => h) (by rfl) ?_ (by assumption) ?_
  rotate_left
  · intro w hSw; (try dsimp only at hSw); go_simp; try (with_reducible rfl)
  try simp only [Act.put, List.setIfInBounds_toArray, List.set_cons_zero, List.set_cons_succ]
  refine wpAnyH_ready (rs := [2]) (by kernel_rfl) (by simp) ?_
  refine AllReadyH.cons (o := _) (by simp only [List.getElem?_toArray, List.getElem?_cons_succ, List.getElem?_cons_zero]; rfl) (fun K hK => ?_) AllReadyH.nil
  go_simp
  refine (HI.out _).mono ?_
  rintro e w8 ⟨rfl, rfl⟩
  refine hK.out _ _ ⟨q0, q1, q2, q3, q4⟩ (fun hHeld => ?_)
  clear hK K
  try simp only [Act.put, List.setIfInBounds_toArray, List.set_cons_zero, List.set_cons_succ]
  refine take_runs (i := 3) (v := ?_) (by simp only [List.getElem?_toArray, List.getElem?_cons_succ, List.getElem?_cons_zero]; rfl) (by kernel_rfl) (by kernel_rfl) (by kernel_rfl) rfl (by exact fun _ _ _ h => h) (by rfl) ?_ (by assumption) ?_
  rotate_left
  · intro w hSw; (try dsimp only at hSw); go_simp; try (with_reducible rfl)
  try simp only [Act.put, List.setIfInBounds_toArray, List.set_cons_zero, List.set_cons_succ]
  refine take_runs (i := 4) (v := ?_) (by simp only [List.getElem?_toArray, List.getElem?_cons_succ, List.getElem?_cons_zero]; rfl) (by kernel_rfl) (by kernel_rfl) (by kernel_rfl) rfl (by exact fun _ _ _ h => h) (by rfl) ?_ (by assumption) ?_
  rotate_left
  · intro w hSw; (try dsimp only at hSw); go_simp; try (with_reducible rfl)
  try simp only [Act.put, List.setIfInBounds_toArray, List.set_cons_zero, List.set_cons_succ]
  refine take_runs (i := 5) (v := ?_) (by simp only [List.getElem?_toArray, List.getElem?_cons_succ, List.getElem?_cons_zero]; rfl) (by kernel_rfl) (by kernel_rfl) (by kernel_rfl) rfl (by exact fun _ _ _ h => h) (by rfl) ?_ (by assumption) ?_
  rotate_left
  · intro w hSw; (try dsimp only at hSw); go_simp; try (with_reducible rfl)
  try simp only [Act.put, List.setIfInBounds_toArray, List.set_cons_zero, List.set_cons_succ]
  refine take_runs (i := 6) (v := ?_) (by simp only [List.getElem?_toArray, List.getElem?_cons_succ, List.getElem?_cons_zero]; rfl) (by kernel_rfl) (by kernel_rfl) (by kernel_rfl) rfl (by exact fun _ _ _ h => h) (by rfl) ?_ (by assumption) ?_
  rotate_left
  · intro w hSw; (try dsimp only at hSw); go_simp; try (with_reducible rfl)
  try simp only [Act.put, List.setIfInBounds_toArray, List.set_cons_zero, List.set_cons_succ]
  refine take_runs (i := 7) (v := ?_) (by simp only [List.getElem?_toArray, List.getElem?_cons_succ, List.getElem?_cons_zero]; rfl) (by kernel_rfl) (by kernel_rfl) (by kernel_rfl) rfl (by exact fun _ _ _ h => h) (by rfl) ?_ (by assumption) ?_
  rotate_left
  · intro w hSw; (try dsimp only at hSw); go_simp; try (with_reducible rfl)
  try simp only [Act.put, List.setIfInBounds_toArray, List.set_cons_zero, List.set_cons_succ]
  refine take_runs (i := 8) (v := ?_) (by simp only [List.getElem?_toArray, List.getElem?_cons_succ, List.getElem?_cons_zero]; rfl) (by kernel_rfl) (by kernel_rfl) (by kernel_rfl) rfl (by exact fun _ _ _ h => h) (by rfl) ?_ (by assumption) ?_
  rotate_left
  · intro w hSw; (try dsimp only at hSw); go_simp; try (with_reducible rfl)
  try simp only [Act.put, List.setIfInBounds_toArray, List.set_cons_zero, List.set_cons_succ]
  refine take_runs (i := 9) (v := ?_) (by simp only [List.getElem?_toArray, List.getElem?_cons_succ, List.getElem?_cons_zero]; rfl) (by kernel_rfl) (by kernel_rfl) (by kernel_rfl) rfl (by exact fun _ _ _ h => h) (by rfl) ?_ (by assumption) ?_
  rotate_left
  · intro w hSw; (try dsimp only at hSw); go_simp; try (with_reducible rfl)
  try simp only [Act.put, List.setIfInBounds_toArray, List.set_cons_zero, List.set_cons_succ]
  refine take_runs (i := 10) (v := ?_) (by simp only [List.getElem?_toArray, List.getElem?_cons_succ, List.getElem?_cons_zero]; rfl) (by kernel_rfl) (by kernel_rfl) (by kernel_rfl) rfl (by exact fun _ _ _ h => h) (by rfl) ?_ (by assumption) ?_
  rotate_left
  · intro w hSw; (try dsimp only at hSw); go_simp; try (with_reducible rfl)
  try simp only [Act.put, List.setIfInBounds_toArray, List.set_cons_zero, List.set_cons_succ]
  refine take_runs (i := 11) (v := ?_) (by simp only [List.getElem?_toArray, List.getElem?_cons_succ, List.getElem?_cons_zero]; rfl) (by kernel_rfl) (by kernel_rfl) (by kernel_rfl) rfl (by exact fun _ _ _ h => h) (by rfl) ?_ (by assumption) ?_
  rotate_left
  · intro w hSw; (try dsimp only at hSw); go_simp; try (with_reducible rfl)
  try simp only [Act.put, List.setIfInBounds_toArray, List.set_cons_zero, List.set_cons_succ]
  refine take_runs (i := 12) (v := ?_) (by simp only [List.getElem?_toArray, List.getElem?_cons_succ, List.getElem?_cons_zero]; rfl) (by kernel_rfl) (by kernel_rfl) (by kernel_rfl) rfl (by exact fun _ _ _ h => h) (by rfl) ?_ (by assumption) ?_
  rotate_left
  · intro w hSw; (try dsimp only at hSw); go_simp; try (with_reducible rfl)
  try simp only [Act.put, List.setIfInBounds_toArray, List.set_cons_zero, List.set_cons_succ]
  refine wpAnyH_ready (rs := [13]) (by kernel_rfl) (by simp) ?_
  refine AllReadyH.cons (o := _) (by simp only [List.getElem?_toArray, List.getElem?_cons_succ, List.getElem?_cons_zero]; rfl) (fun K hK => ?_) AllReadyH.nil
  go_simp
  refine (HL.out _).mono ?_
  rintro e w9 ⟨rfl, b9⟩
  have b10 : Below W.heap.size W w9 := below_from rfl b9
  have g2 := (b10.block w.heap.size hlt).trans g0
  have r0 := cell_of_row w9 _ 0 _ _ _ g2
  have r1 := cell_of_row w9 _ 1 _ _ _ g2
  have r2 := cell_of_row w9 _ 2 _ _ _ g2
  have r3 := cell_of_row w9 _ 3 _ _ _ g2
  have r4 := cell_of_row w9 _ 4 _ _ _ g2
  simp at r0 r1 r2 r3 r4
  refine hK.out _ _ ⟨r0, r1, r2, r3, r4⟩ (fun hHeld => ?_)
  clear hK K
  try simp only [Act.put, List.setIfInBounds_toArray, List.set_cons_zero, List.set_cons_succ]
  refine take_runs (i := 14) (v := ?_) (by simp only [List.getElem?_toArray, List.getElem?_cons_succ, List.getElem?_cons_zero]; rfl) (by kernel_rfl) (by kernel_rfl) (by kernel_rfl) rfl (by exact fun _ _ _ h => h) (by rfl) ?_ (by assumption) ?_
  rotate_left
  · intro w hSw; (try dsimp only at hSw); go_simp; try (with_reducible rfl)
  try simp only [Act.put, List.setIfInBounds_toArray, List.set_cons_zero, List.set_cons_succ]
  refine take_runs (i := 15) (v := ?_) (by simp only [List.getElem?_toArray, List.getElem?_cons_succ, List.getElem?_cons_zero]; rfl) (by kernel_rfl) (by kernel_rfl) (by kernel_rfl) rfl (by exact fun _ _ _ h => h) (by rfl) ?_ (by assumption) ?_
  rotate_left
  · intro w hSw; (try dsimp only at hSw); go_simp; try (with_reducible rfl)
  try simp only [Act.put, List.setIfInBounds_toArray, List.set_cons_zero, List.set_cons_succ]
  refine take_runs (i := 16) (v := ?_) (by simp only [List.getElem?_toArray, List.getElem?_cons_succ, List.getElem?_cons_zero]; rfl) (by kernel_rfl) (by kernel_rfl) (by kernel_rfl) rfl (by exact fun _ _ _ h => h) (by rfl) ?_ (by assumption) ?_
  rotate_left
  · intro w hSw; (try dsimp only at hSw); go_simp; try (with_reducible rfl)
  try simp only [Act.put, List.setIfInBounds_toArray, List.set_cons_zero, List.set_cons_succ]
  refine wpAnyH_done (by kernel_rfl) ?_ _
  have b11 := hh.trans (b10.mono hh.size)
  clear hHeld b9 b10
  go_wp2
  go_ret
  exact ⟨rfl, b11⟩
theorem isValid_any (id n a b c : Int) (w : World) :
    Calls Try.prog 148 #[.agg #[.int .i64 id, .int .i64 n, .int .i64 a, .int .i64 b, .int .i64 c]] w fun e w' => e = .returned (.bool (recB id n a b c)) ∧ Below w.heap.size w w' := by
  by_cases h : 0 ≤ id ∧ id ≤ 999
  · by_cases h3 : n = 3
    · have e : recB id n a b c = (a == limI a && b == limI b && c == limI c) := by unfold recB; rw [decide_eq_true h, decide_eq_true h3]; simp
      rw [e]
      exact isValid_all id n a b c w h.1 h.2 h3
    · have e : recB id n a b c = false := by unfold recB; rw [decide_eq_false h3]; simp
      rw [e]
      exact isValid_count id n a b c w h.1 h.2 h3
  · have e : recB id n a b c = false := by unfold recB; rw [decide_eq_false h]; simp
    rw [e]
    exact isValid_id id n a b c w h
set_option maxHeartbeats 4000000 in
set_option maxRecDepth 100000 in
theorem implIsRow (id : Int) (vv : Value) (xs : List Int) (w : World) (h : Ints w vv xs) (hn : xs.length ≤ 1048576) :
    Calls Try.prog 139 #[.agg #[.int .i64 id, vv]] w fun e w' => e = .returned (.bool (rowB (id, xs))) ∧ Below w.heap.size w w' := by
  have HR := Lib.hid (fun w h => recordOf_any id vv xs w h hn)
  have HV := Lib.hid (fun w => isValid_any id xs.length (xs.getD 0 0) (xs.getD 1 0) (xs.getD 2 0) w)
  rw [recB_row] at HV
  have H := Lib.hid h
  unfold recV at HR
  clear h hn
  generalize xs.getD 0 0 = x0 at *
  generalize xs.getD 1 0 = x1 at *
  generalize xs.getD 2 0 = x2 at *
  generalize rowB (id, xs) = r at *
  go_enter Try.func139, Try.ntmps139
  go_wp2_with fail
  have hb : Below w.heap.size w (w.alloc (.cells #[.int .i64 id, vv] 73)) := (Below.refl _ w).alloc (Nat.le_refl _) _
  refine (HR.out _ (ints_below H.out hb)).mono ?_
  rintro e w1 ⟨rfl, b1⟩
  have b2 := hb.trans (b1.mono hb.size)
  clear hb b1
  go_wp2_with fail
  refine (HV.out _).mono ?_
  rintro e w2 ⟨rfl, b3⟩
  have b4 := b2.trans (b3.mono b2.size)
  clear b2 b3
  go_wp2
  go_ret
  exact ⟨rfl, b4⟩
end Go.Proofs.Ytdhglmoanpkeoaa
namespace Go.Proofs.Ytdhglmoanpkeoaa
open Go.RowKit
set_option linter.unusedVariables false
set_option linter.unusedSimpArgs false
set_option maxHeartbeats 4000000 in
set_option maxRecDepth 100000 in
theorem implVisible (id born died t : Int) (vv : Value) (w : World) :
    Calls Try.prog 87 #[.agg #[.int .i64 id, vv, .int .i64 born, .int .i64 died], .int .i64 t] w fun e w' => e = .returned (.bool (decide (visP born died t))) ∧ Below w.heap.size w w' := by
  have hb : Below w.heap.size w (w.alloc (.cells #[.int .i64 id, vv, .int .i64 born, .int .i64 died] 115)) := (Below.refl _ w).alloc (Nat.le_refl _) _
  by_cases h1 : born ≤ t
  · by_cases h2 : died = -1
    · have HD : Hid (decide (visP born died t) = true) := Lib.hid (decide_eq_true ⟨h1, Or.inl h2⟩)
      have e2 : (died == -1) = true := by simp [h2]
      clear h2
      rw [HD.out]
      go_enter Try.func87, Try.ntmps87
      go_wp2
      go_ret
      exact ⟨rfl, hb⟩
    · have e2 : (died == -1) = false := by simp [h2]
      by_cases h3 : t < died
      · have HD : Hid (decide (visP born died t) = true) := Lib.hid (decide_eq_true ⟨h1, Or.inr h3⟩)
        clear h2
        rw [HD.out]
        go_enter Try.func87, Try.ntmps87
        go_wp2
        go_ret
        exact ⟨ret_b (by simp [h3]), hb⟩
      · have HD : Hid (decide (visP born died t) = false) := Lib.hid (decide_eq_false (fun g => by unfold visP at g; omega))
        have e3 : decide (t < died) = false := decide_eq_false h3
        clear h2
        rw [HD.out]
        go_enter Try.func87, Try.ntmps87
        go_wp2
        go_ret
        exact ⟨ret_b (by first | rfl | simp [h3]), hb⟩
  · have HD : Hid (decide (visP born died t) = false) := Lib.hid (decide_eq_false (fun g => h1 g.1))
    rw [HD.out]
    go_enter Try.func87, Try.ntmps87
    go_wp2
    go_ret
    exact ⟨rfl, hb⟩
set_option maxHeartbeats 4000000 in
set_option maxRecDepth 100000 in
theorem verRow_any (id born died : Int) (va : Option Addr) (n vc : Nat) (w : World) :
    Calls Try.prog 88 #[.agg #[.int .i64 id, .slice va n vc, .int .i64 born, .int .i64 died]] w fun e w' => e = .returned (.agg #[.int .i64 id, .slice va n vc]) ∧ Below w.heap.size w w' := by
  have d0 := Lib.hid (show Below w.heap.size w ((w.alloc (.cells #[.int .i64 id, .slice va n vc, .int .i64 born, .int .i64 died] 115)).alloc (.cells #[.int .i64 id, .slice va n vc] 73)) from ((Below.refl _ w).alloc (Nat.le_refl _) _).alloc (by simp) _)
  have k1 : ((w.alloc (.cells #[.int .i64 id, .slice va n vc, .int .i64 born, .int .i64 died] 115)).alloc (.cells #[.int .i64 id, .slice va n vc] 73)).heap[w.heap.size + 1]? = some (.cells #[.int .i64 id, .slice va n vc] 73 (0, 0)) := by
    have := heap_alloc_new (w.alloc (.cells #[.int .i64 id, .slice va n vc, .int .i64 born, .int .i64 died] 115)) (.cells #[.int .i64 id, .slice va n vc] 73)
    simpa only [World.size_alloc] using this
  have e0 := cell_of_row _ _ 0 _ _ _ k1
  have e1 := cell_of_row _ _ 1 _ _ _ k1
  simp at e0 e1
  have E0 := Lib.hid e0
  have E1 := Lib.hid e1
  clear k1 e0 e1
  go_enter Try.func88, Try.ntmps88
  go_wp2
  refine bodyPost_ret (v := .agg #[.int .i64 id, .slice va n vc]) ?_ rfl ?_
  · have e0 := E0.out
    have e1 := E1.out
    simp [results, Try.f88, go_sem, e0, e1]
  · exact ⟨rfl, d0.out⟩
set_option maxHeartbeats 8000000 in
set_option maxRecDepth 100000 in
theorem isVersion_any (id born died now : Int) (vv : Value) (xs : List Int) (w : World) (h : Ints w vv xs) (hn : xs.length ≤ 1048576) :
    Calls Try.prog 123 #[.agg #[.int .i64 id, vv, .int .i64 born, .int .i64 died], .int .i64 now] w fun e w' => e = .returned (.bool (verB (id, xs, born, died) now)) ∧ Below w.heap.size w w' := by
  obtain ⟨va, vc, rfl⟩ := ints_len h
  have HR := Lib.hid (fun W g => implIsRow id (.slice va xs.length vc) xs W g hn)
  have H := Lib.hid h
  have d0 := Lib.hid (show Below w.heap.size w (w.alloc (.cells #[.int .i64 id, .slice va xs.length vc, .int .i64 born, .int .i64 died] 115)) from (Below.refl _ _).alloc (Nat.le_refl _) _)
  have B0 : Hid ((w.alloc (.cells #[.int .i64 id, .slice va xs.length vc, .int .i64 born, .int .i64 died] 115)).heap[w.heap.size]? = some (.cells #[.int .i64 id, .slice va xs.length vc, .int .i64 born, .int .i64 died] 115 (0, 0))) := Lib.hid (heap_alloc_new w _)
  have Y0 : Hid (w.heap.size < (w.alloc (.cells #[.int .i64 id, .slice va xs.length vc, .int .i64 born, .int .i64 died] 115)).heap.size) := Lib.hid (by simp [World.size_alloc])
  have HV : Hid (∀ r l, rowB (id, xs) = r → decide (lifeP born died now) = l → verB (id, xs, born, died) now = (r && l)) := Lib.hid (fun r l h1 h2 => by unfold verB; rw [h1]; show (r && decide (lifeP born died now)) = _; rw [h2])
  clear h hn
  cases hr : rowB (id, xs) with
  | false =>
    rw [hr] at HR
    rw [HV.out _ _ hr rfl, Bool.false_and]
    clear hr HV
    go_enter Try.func123, Try.ntmps123
    go_wp2_with fail
    generalize w.alloc (.cells #[.int .i64 id, .slice va xs.length vc, .int .i64 born, .int .i64 died] 115) = W at *
    refine (verRow_any id born died va xs.length vc W).mono ?_
    rintro e w0 ⟨rfl, b0⟩
    have D0 := Lib.hid (d0.out.trans (b0.mono d0.out.size))
    have K0 := Lib.hid ((b0.block w.heap.size Y0.out).trans B0.out)
    have YY := Lib.hid (Nat.lt_of_lt_of_le Y0.out b0.size)
    clear b0
    go_wp2_with fail
    refine (HR.out w0 (ints_below H.out D0.out)).mono ?_
    rintro e w1 ⟨rfl, b1⟩
    have k0 := (b1.block w.heap.size YY.out).trans K0.out
    have b2 := D0.out.trans (b1.mono D0.out.size)
    go_wp2
    go_ret
    exact ⟨rfl, b2⟩
  | true =>
    rw [hr] at HR
    have HV2 := Lib.hid (fun l => HV.out _ l hr)
    clear hr HV
    by_cases h1 : 0 ≤ born
    rotate_left
    · have e1 : decide (0 ≤ born) = false := decide_eq_false h1
      have hl : decide (lifeP born died now) = false := decide_eq_false (fun g => by unfold lifeP at g; omega)
      rw [HV2.out _ hl]
      clear hl
      go_enter Try.func123, Try.ntmps123
      go_wp2_with fail
      generalize w.alloc (.cells #[.int .i64 id, .slice va xs.length vc, .int .i64 born, .int .i64 died] 115) = W at *
      refine (verRow_any id born died va xs.length vc W).mono ?_
      rintro e w0 ⟨rfl, b0⟩
      have D0 := Lib.hid (d0.out.trans (b0.mono d0.out.size))
      have K0 := Lib.hid ((b0.block w.heap.size Y0.out).trans B0.out)
      have YY := Lib.hid (Nat.lt_of_lt_of_le Y0.out b0.size)
      clear b0
      go_wp2_with fail
      refine (HR.out w0 (ints_below H.out D0.out)).mono ?_
      rintro e w1 ⟨rfl, b1⟩
      have k0 := (b1.block w.heap.size YY.out).trans K0.out
      have b2 := D0.out.trans (b1.mono D0.out.size)
      have p0 := (cell_of_row w1 _ 0 _ _ _ k0).trans (show _ = some (Value.int .i64 id) from rfl)
      have p1 := (cell_of_row w1 _ 1 _ _ _ k0).trans (show _ = some (Value.slice va xs.length vc) from rfl)
      have p2 := (cell_of_row w1 _ 2 _ _ _ k0).trans (show _ = some (Value.int .i64 born) from rfl)
      have p3 := (cell_of_row w1 _ 3 _ _ _ k0).trans (show _ = some (Value.int .i64 died) from rfl)
      clear k0
      go_wp2
      go_ret
      exact ⟨ret_b (by first | rfl | simp [*]), b2⟩
    by_cases h2 : born ≤ now
    rotate_left
    · have e2 : decide (born ≤ now) = false := decide_eq_false h2
      have hl : decide (lifeP born died now) = false := decide_eq_false (fun g => by unfold lifeP at g; omega)
      rw [HV2.out _ hl]
      clear hl
      go_enter Try.func123, Try.ntmps123
      go_wp2_with fail
      generalize w.alloc (.cells #[.int .i64 id, .slice va xs.length vc, .int .i64 born, .int .i64 died] 115) = W at *
      refine (verRow_any id born died va xs.length vc W).mono ?_
      rintro e w0 ⟨rfl, b0⟩
      have D0 := Lib.hid (d0.out.trans (b0.mono d0.out.size))
      have K0 := Lib.hid ((b0.block w.heap.size Y0.out).trans B0.out)
      have YY := Lib.hid (Nat.lt_of_lt_of_le Y0.out b0.size)
      clear b0
      go_wp2_with fail
      refine (HR.out w0 (ints_below H.out D0.out)).mono ?_
      rintro e w1 ⟨rfl, b1⟩
      have k0 := (b1.block w.heap.size YY.out).trans K0.out
      have b2 := D0.out.trans (b1.mono D0.out.size)
      have p0 := (cell_of_row w1 _ 0 _ _ _ k0).trans (show _ = some (Value.int .i64 id) from rfl)
      have p1 := (cell_of_row w1 _ 1 _ _ _ k0).trans (show _ = some (Value.slice va xs.length vc) from rfl)
      have p2 := (cell_of_row w1 _ 2 _ _ _ k0).trans (show _ = some (Value.int .i64 born) from rfl)
      have p3 := (cell_of_row w1 _ 3 _ _ _ k0).trans (show _ = some (Value.int .i64 died) from rfl)
      clear k0
      go_wp2
      go_ret
      exact ⟨ret_b (by first | rfl | simp [*]), b2⟩
    by_cases h3 : died = -1
    · have e3 : (died == -1) = true := by simp [h3]
      have hl : decide (lifeP born died now) = true := decide_eq_true ⟨h1, h2, Or.inl h3⟩
      rw [HV2.out _ hl]
      clear hl h3
      go_enter Try.func123, Try.ntmps123
      go_wp2_with fail
      generalize w.alloc (.cells #[.int .i64 id, .slice va xs.length vc, .int .i64 born, .int .i64 died] 115) = W at *
      refine (verRow_any id born died va xs.length vc W).mono ?_
      rintro e w0 ⟨rfl, b0⟩
      have D0 := Lib.hid (d0.out.trans (b0.mono d0.out.size))
      have K0 := Lib.hid ((b0.block w.heap.size Y0.out).trans B0.out)
      have YY := Lib.hid (Nat.lt_of_lt_of_le Y0.out b0.size)
      clear b0
      go_wp2_with fail
      refine (HR.out w0 (ints_below H.out D0.out)).mono ?_
      rintro e w1 ⟨rfl, b1⟩
      have k0 := (b1.block w.heap.size YY.out).trans K0.out
      have b2 := D0.out.trans (b1.mono D0.out.size)
      have p0 := (cell_of_row w1 _ 0 _ _ _ k0).trans (show _ = some (Value.int .i64 id) from rfl)
      have p1 := (cell_of_row w1 _ 1 _ _ _ k0).trans (show _ = some (Value.slice va xs.length vc) from rfl)
      have p2 := (cell_of_row w1 _ 2 _ _ _ k0).trans (show _ = some (Value.int .i64 born) from rfl)
      have p3 := (cell_of_row w1 _ 3 _ _ _ k0).trans (show _ = some (Value.int .i64 died) from rfl)
      clear k0
      go_wp2
      go_ret
      exact ⟨ret_b (by first | rfl | simp [*]), b2⟩
    have e3 : (died == -1) = false := by simp [h3]
    by_cases h4 : born < died
    rotate_left
    · have e4 : decide (born < died) = false := decide_eq_false h4
      have hl : decide (lifeP born died now) = false := decide_eq_false (fun g => by unfold lifeP at g; omega)
      rw [HV2.out _ hl]
      clear hl h3
      go_enter Try.func123, Try.ntmps123
      go_wp2_with fail
      generalize w.alloc (.cells #[.int .i64 id, .slice va xs.length vc, .int .i64 born, .int .i64 died] 115) = W at *
      refine (verRow_any id born died va xs.length vc W).mono ?_
      rintro e w0 ⟨rfl, b0⟩
      have D0 := Lib.hid (d0.out.trans (b0.mono d0.out.size))
      have K0 := Lib.hid ((b0.block w.heap.size Y0.out).trans B0.out)
      have YY := Lib.hid (Nat.lt_of_lt_of_le Y0.out b0.size)
      clear b0
      go_wp2_with fail
      refine (HR.out w0 (ints_below H.out D0.out)).mono ?_
      rintro e w1 ⟨rfl, b1⟩
      have k0 := (b1.block w.heap.size YY.out).trans K0.out
      have b2 := D0.out.trans (b1.mono D0.out.size)
      have p0 := (cell_of_row w1 _ 0 _ _ _ k0).trans (show _ = some (Value.int .i64 id) from rfl)
      have p1 := (cell_of_row w1 _ 1 _ _ _ k0).trans (show _ = some (Value.slice va xs.length vc) from rfl)
      have p2 := (cell_of_row w1 _ 2 _ _ _ k0).trans (show _ = some (Value.int .i64 born) from rfl)
      have p3 := (cell_of_row w1 _ 3 _ _ _ k0).trans (show _ = some (Value.int .i64 died) from rfl)
      clear k0
      go_wp2
      go_ret
      exact ⟨ret_b (by first | rfl | simp [*]), b2⟩
    by_cases h5 : died ≤ now
    · have hl : decide (lifeP born died now) = true := decide_eq_true ⟨h1, h2, Or.inr ⟨h4, h5⟩⟩
      rw [HV2.out _ hl]
      clear hl h3
      go_enter Try.func123, Try.ntmps123
      go_wp2_with fail
      generalize w.alloc (.cells #[.int .i64 id, .slice va xs.length vc, .int .i64 born, .int .i64 died] 115) = W at *
      refine (verRow_any id born died va xs.length vc W).mono ?_
      rintro e w0 ⟨rfl, b0⟩
      have D0 := Lib.hid (d0.out.trans (b0.mono d0.out.size))
      have K0 := Lib.hid ((b0.block w.heap.size Y0.out).trans B0.out)
      have YY := Lib.hid (Nat.lt_of_lt_of_le Y0.out b0.size)
      clear b0
      go_wp2_with fail
      refine (HR.out w0 (ints_below H.out D0.out)).mono ?_
      rintro e w1 ⟨rfl, b1⟩
      have k0 := (b1.block w.heap.size YY.out).trans K0.out
      have b2 := D0.out.trans (b1.mono D0.out.size)
      have p0 := (cell_of_row w1 _ 0 _ _ _ k0).trans (show _ = some (Value.int .i64 id) from rfl)
      have p1 := (cell_of_row w1 _ 1 _ _ _ k0).trans (show _ = some (Value.slice va xs.length vc) from rfl)
      have p2 := (cell_of_row w1 _ 2 _ _ _ k0).trans (show _ = some (Value.int .i64 born) from rfl)
      have p3 := (cell_of_row w1 _ 3 _ _ _ k0).trans (show _ = some (Value.int .i64 died) from rfl)
      clear k0
      go_wp2
      go_ret
      exact ⟨ret_b (by first | rfl | simp [*]), b2⟩
    · have e5 : decide (died ≤ now) = false := decide_eq_false h5
      have hl : decide (lifeP born died now) = false := decide_eq_false (fun g => by unfold lifeP at g; omega)
      rw [HV2.out _ hl]
      clear hl h3
      go_enter Try.func123, Try.ntmps123
      go_wp2_with fail
      generalize w.alloc (.cells #[.int .i64 id, .slice va xs.length vc, .int .i64 born, .int .i64 died] 115) = W at *
      refine (verRow_any id born died va xs.length vc W).mono ?_
      rintro e w0 ⟨rfl, b0⟩
      have D0 := Lib.hid (d0.out.trans (b0.mono d0.out.size))
      have K0 := Lib.hid ((b0.block w.heap.size Y0.out).trans B0.out)
      have YY := Lib.hid (Nat.lt_of_lt_of_le Y0.out b0.size)
      clear b0
      go_wp2_with fail
      refine (HR.out w0 (ints_below H.out D0.out)).mono ?_
      rintro e w1 ⟨rfl, b1⟩
      have k0 := (b1.block w.heap.size YY.out).trans K0.out
      have b2 := D0.out.trans (b1.mono D0.out.size)
      have p0 := (cell_of_row w1 _ 0 _ _ _ k0).trans (show _ = some (Value.int .i64 id) from rfl)
      have p1 := (cell_of_row w1 _ 1 _ _ _ k0).trans (show _ = some (Value.slice va xs.length vc) from rfl)
      have p2 := (cell_of_row w1 _ 2 _ _ _ k0).trans (show _ = some (Value.int .i64 born) from rfl)
      have p3 := (cell_of_row w1 _ 3 _ _ _ k0).trans (show _ = some (Value.int .i64 died) from rfl)
      clear k0
      go_wp2
      go_ret
      exact ⟨ret_b (by first | rfl | simp [*]), b2⟩
end Go.Proofs.Ytdhglmoanpkeoaa
namespace Go.Proofs.Ytdhglmoanpkeoaa
open Go.RowKit
set_option linter.unusedVariables false
set_option linter.unusedSimpArgs false
set_option maxHeartbeats 8000000 in
set_option maxRecDepth 100000 in
theorem seenWith_any (i1 b1 d1 i2 b2 d2 : Int) (a1 a2 : Option Addr) (n1 c1 n2 c2 : Nat) (w : World) :
    Calls Try.prog 125 #[.agg #[.int .i64 i1, .slice a1 n1 c1, .int .i64 b1, .int .i64 d1], .agg #[.int .i64 i2, .slice a2 n2 c2, .int .i64 b2, .int .i64 d2]] w fun e w' => e = .returned (.bool (decide (seenP i1 b1 d1 i2 b2 d2))) ∧ Below w.heap.size w w' := by
  have d0 := Lib.hid (show Below w.heap.size w ((w.alloc (.cells #[.int .i64 i1, .slice a1 n1 c1, .int .i64 b1, .int .i64 d1] 115)).alloc (.cells #[.int .i64 i2, .slice a2 n2 c2, .int .i64 b2, .int .i64 d2] 115)) from ((Below.refl _ _).alloc (Nat.le_refl _) _).alloc (by simp) _)
  have B1 : Hid (((w.alloc (.cells #[.int .i64 i1, .slice a1 n1 c1, .int .i64 b1, .int .i64 d1] 115)).alloc (.cells #[.int .i64 i2, .slice a2 n2 c2, .int .i64 b2, .int .i64 d2] 115)).heap[w.heap.size + 1]? = some (.cells #[.int .i64 i2, .slice a2 n2 c2, .int .i64 b2, .int .i64 d2] 115 (0, 0))) := Lib.hid (by
    have := heap_alloc_new (w.alloc (.cells #[.int .i64 i1, .slice a1 n1 c1, .int .i64 b1, .int .i64 d1] 115)) (.cells #[.int .i64 i2, .slice a2 n2 c2, .int .i64 b2, .int .i64 d2] 115)
    simpa only [World.size_alloc] using this)
  have B0 : Hid (((w.alloc (.cells #[.int .i64 i1, .slice a1 n1 c1, .int .i64 b1, .int .i64 d1] 115)).alloc (.cells #[.int .i64 i2, .slice a2 n2 c2, .int .i64 b2, .int .i64 d2] 115)).heap[w.heap.size]? = some (.cells #[.int .i64 i1, .slice a1 n1 c1, .int .i64 b1, .int .i64 d1] 115 (0, 0))) := Lib.hid (by
    rw [Below.heap_alloc _ _ _ (by simp)]
    exact heap_alloc_new w _)
  have Y1 : Hid (w.heap.size + 1 < ((w.alloc (.cells #[.int .i64 i1, .slice a1 n1 c1, .int .i64 b1, .int .i64 d1] 115)).alloc (.cells #[.int .i64 i2, .slice a2 n2 c2, .int .i64 b2, .int .i64 d2] 115)).heap.size) := Lib.hid (by simp [World.size_alloc])
  by_cases q1 : i1 = i2
  rotate_left
  · have e1 : (i1 == i2) = false := by simp [q1]
    have HD : Hid (decide (seenP i1 b1 d1 i2 b2 d2) = false) := Lib.hid (decide_eq_false (fun g => q1 g.1))
    rw [HD.out]
    clear q1
    go_enter Try.func125, Try.ntmps125
    go_wp2
    go_ret
    exact ⟨rfl, d0.out⟩
  have e1 : (i1 == i2) = true := by simp [q1]
  have Q1 := Lib.hid q1
  clear q1
  have HV1 := Lib.hid (fun W => implVisible i1 b1 d1 (max b1 b2) (.slice a1 n1 c1) W)
  have HV2 := Lib.hid (fun W => implVisible i2 b2 d2 (max b1 b2) (.slice a2 n2 c2) W)
  have HM : Hid (∃ t, t = max b1 b2) := Lib.hid ⟨_, rfl⟩
  cases h1 : decide (visP b1 d1 (max b1 b2)) with
  | false =>
    have HD : Hid (decide (seenP i1 b1 d1 i2 b2 d2) = false) := Lib.hid (decide_eq_false (fun g => by have := decide_eq_true g.2.1; rw [h1] at this; cases this))
    rw [HD.out]
    rw [h1] at HV1
    clear h1
    go_enter Try.func125, Try.ntmps125
    go_wp2_with fail
    generalize ((w.alloc (.cells #[.int .i64 i1, .slice a1 n1 c1, .int .i64 b1, .int .i64 d1] 115)).alloc (.cells #[.int .i64 i2, .slice a2 n2 c2, .int .i64 b2, .int .i64 d2] 115)) = W at *
    refine (HV1.out W).mono ?_
    rintro e w1 ⟨rfl, c1⟩
    have D1 := d0.out.trans (c1.mono d0.out.size)
    go_wp2
    go_ret
    exact ⟨rfl, D1⟩
  | true =>
    rw [h1] at HV1
    have H1 := Lib.hid (of_decide_eq_true h1)
    clear h1
    obtain ⟨r, hr⟩ : ∃ r, r = decide (visP b2 d2 (max b1 b2)) := ⟨_, rfl⟩
    have HD : Hid (decide (seenP i1 b1 d1 i2 b2 d2) = r) := Lib.hid (by
      rw [hr]
      by_cases g : visP b2 d2 (max b1 b2)
      · rw [decide_eq_true g, decide_eq_true ⟨Q1.out, H1.out, g⟩]
      · rw [decide_eq_false g, decide_eq_false (fun q => g q.2.2)])
    rw [← hr] at HV2
    rw [HD.out]
    clear hr
    go_enter Try.func125, Try.ntmps125
    go_wp2_with fail
    generalize ((w.alloc (.cells #[.int .i64 i1, .slice a1 n1 c1, .int .i64 b1, .int .i64 d1] 115)).alloc (.cells #[.int .i64 i2, .slice a2 n2 c2, .int .i64 b2, .int .i64 d2] 115)) = W at *
    refine (HV1.out W).mono ?_
    rintro e w1 ⟨rfl, e9⟩
    have D1 := Lib.hid (d0.out.trans (e9.mono d0.out.size))
    have k1 := (e9.block (w.heap.size + 1) Y1.out).trans B1.out
    have p0 := (cell_of_row w1 _ 0 _ _ _ k1).trans (show _ = some (Value.int .i64 i2) from rfl)
    have p1 := (cell_of_row w1 _ 1 _ _ _ k1).trans (show _ = some (Value.slice a2 n2 c2) from rfl)
    have p2 := (cell_of_row w1 _ 2 _ _ _ k1).trans (show _ = some (Value.int .i64 b2) from rfl)
    have p3 := (cell_of_row w1 _ 3 _ _ _ k1).trans (show _ = some (Value.int .i64 d2) from rfl)
    clear k1 e9
    go_wp2_with fail
    refine (HV2.out w1).mono ?_
    rintro e w2 ⟨rfl, e8⟩
    have D2 := D1.out.trans (e8.mono D1.out.size)
    clear p0 p1 p2 p3
    go_wp2
    go_ret
    exact ⟨rfl, D2⟩
set_option maxHeartbeats 8000000 in
set_option maxRecDepth 100000 in
theorem isSegmentCount_any (n : Int) (w : World) : Calls Try.prog 92 #[.int .i64 n] w fun e w' => e = .returned (.bool (decide (1 ≤ n ∧ n ≤ 8))) ∧ w' = w := by
  by_cases h1 : 1 ≤ n
  · by_cases h2 : n ≤ 8
    · rw [decide_eq_true ⟨h1, h2⟩]
      go_enter Try.func92, Try.ntmps92
      go_wp2
      go_ret
      exact ⟨ret_b (by first | rfl | simp [h2]), rfl⟩
    · rw [decide_eq_false (fun g => h2 g.2)]
      go_enter Try.func92, Try.ntmps92
      go_wp2
      go_ret
      exact ⟨ret_b (by first | rfl | simp [h2] | (simp; omega)), rfl⟩
  · rw [decide_eq_false (fun g => h1 g.1)]
    go_enter Try.func92, Try.ntmps92
    go_wp2
    go_ret
    exact ⟨rfl, rfl⟩
set_option maxHeartbeats 8000000 in
set_option maxRecDepth 100000 in
theorem isTime_any (n : Int) (w : World) : Calls Try.prog 93 #[.int .i64 n] w fun e w' => e = .returned (.bool (decide (0 ≤ n ∧ n ≤ 100000))) ∧ w' = w := by
  by_cases h1 : 0 ≤ n
  · by_cases h2 : n ≤ 100000
    · rw [decide_eq_true ⟨h1, h2⟩]
      go_enter Try.func93, Try.ntmps93
      go_wp2
      go_ret
      exact ⟨ret_b (by first | rfl | simp [h2]), rfl⟩
    · rw [decide_eq_false (fun g => h2 g.2)]
      go_enter Try.func93, Try.ntmps93
      go_wp2
      go_ret
      exact ⟨ret_b (by first | rfl | simp [h2] | (simp; omega)), rfl⟩
  · rw [decide_eq_false (fun g => h1 g.1)]
    go_enter Try.func93, Try.ntmps93
    go_wp2
    go_ret
    exact ⟨rfl, rfl⟩
/-- Some version of the slice is seen with this one. -/
def anyB (x : VerD) (l : List VerD) : Bool := l.any (fun y => seenB x y)
theorem any_yes {x : VerD} {l : List VerD} {j : Nat} (hj : j < l.length) (h : seenB x (l.getD j v0D) = true) : anyB x l = true := by
  unfold anyB
  rw [List.any_eq_true]
  have e : l.getD j v0D = l[j] := by simp [List.getD, hj]
  exact ⟨l[j], List.getElem_mem _, by rw [← e]; exact h⟩
theorem any_no {x : VerD} {l : List VerD} (h : ∀ j, j < l.length → seenB x (l.getD j v0D) = false) : anyB x l = false := by
  unfold anyB
  rw [List.any_eq_false]
  intro y hy
  obtain ⟨j, hj, rfl⟩ := List.getElem_of_mem hy
  have := h j hj
  have e : l.getD j v0D = l[j] := by simp [List.getD, hj]
  rw [e] at this
  rw [this]; simp
set_option maxHeartbeats 8000000 in
set_option maxRecDepth 100000 in
theorem indexSeen (v : Value) (l : List VerD) (i1 b1 d1 : Int) (xs1 : List Int) (a1 : Option Addr) (n1 cc1 : Nat) (w : World) (h : SlR tVersion w v l) (hs : l.length ≤ 1048576) :
    Calls Try.prog 140 #[v, .func (.func 125) #[.agg #[.int .i64 i1, .slice a1 n1 cc1, .int .i64 b1, .int .i64 d1]] #[]] w fun e w' => (∃ r : Int, e = .returned (.int .i64 r) ∧ decide (0 ≤ r) = anyB (i1, xs1, b1, d1) l) ∧ Below w.heap.size w w' := by
  have H := Lib.hid h
  obtain ⟨a, cap, rfl⟩ := slR_len h
  clear h
  go_enter Try.func140, Try.ntmps140
  go_wp2
  go_loopw [8] (fun i wr => ∃ k : Nat, k ≤ l.length ∧ i = .int .i64 k ∧ Hid (∀ j, j < k → seenB (i1, xs1, b1, d1) (l.getD j v0D) = false) ∧ Below w.heap.size w wr) (fun i _ => l.length - (intOf i).toNat)
  case atStart => exact ⟨0, Nat.zero_le _, rfl, Lib.hid (fun j hj => by omega), Below.refl _ _⟩
  case round =>
    obtain ⟨k, hk, rfl, hall, hbel⟩ := hrel
    by_cases hlt : k < l.length
    · have i1' : (0 : Int) ≤ (k : Int) := by omega
      have i2' : (k : Int) < (l.length : Int) := by omega
      obtain ⟨b, off, cap', xa, xc, hv, hbl, c0, c1, c2, c3, hx⟩ := verR_at (slR_below tVersion_law H.out hbel) hlt
      simp only [Value.slice.injEq] at hv
      obtain ⟨rfl, _, rfl⟩ := hv
      have HYS := Lib.hid (fun g => any_yes (x := (i1, xs1, b1, d1)) hlt g)
      have HNO : Hid (seenB (i1, xs1, b1, d1) (l.getD k v0D) = false → ∀ j, j < k + 1 → seenB (i1, xs1, b1, d1) (l.getD j v0D) = false) := Lib.hid (fun g j hj => by
        by_cases e : j = k
        · rw [e]; exact g
        · exact hall.out j (by omega))
      have d := Lib.hid hbel
      clear hall hx hbel
      generalize l.getD k v0D = y at *
      obtain ⟨id2, ys, born2, died2⟩ := y
      simp only at c0 c1 c2 c3
      have HC := Lib.hid (fun W => seenWith_any i1 b1 d1 id2 born2 died2 a1 xa n1 cc1 ys.length xc W)
      cases hse : seenB (i1, xs1, b1, d1) (id2, ys, born2, died2) with
      | true =>
        have HT := Lib.hid (HYS.out hse)
        rw [show decide (seenP i1 b1 d1 id2 born2 died2) = true from hse] at HC
        clear hse HYS HNO
        go_wp2_with fail
        refine (HC.out _).mono ?_
        rintro e w2 ⟨rfl, b2⟩
        have d2 := Lib.hid (d.out.trans (b2.mono d.out.size))
        clear b2 c0 c1 c2 c3 d
        go_wp2
        go_ret
        exact ⟨⟨_, rfl, by rw [HT.out]; exact decide_eq_true i1'⟩, d2.out⟩
      | false =>
        have HN := Lib.hid (HNO.out hse)
        rw [show decide (seenP i1 b1 d1 id2 born2 died2) = false from hse] at HC
        clear hse HYS HNO
        go_wp2_with fail
        refine (HC.out _).mono ?_
        rintro e w2 ⟨rfl, b2⟩
        have d2 := Lib.hid (d.out.trans (b2.mono d.out.size))
        clear b2 c0 c1 c2 c3 d
        go_wp2
        go_roundw
        case rel => exact ⟨k + 1, by omega, by go_num, HN, d2.out⟩
        case measure => simp [intOf]; omega
    · obtain rfl : k = l.length := by omega
      have HF := Lib.hid (any_no hall.out)
      clear hall
      go_wp2
      go_ret
      exact ⟨⟨-1, rfl, by rw [HF.out]; rfl⟩, hbel⟩
set_option maxHeartbeats 8000000 in
set_option maxRecDepth 100000 in
theorem containsSeen (v : Value) (l : List VerD) (i1 b1 d1 : Int) (xs1 : List Int) (a1 : Option Addr) (n1 c1 : Nat) (w : World) (h : SlR tVersion w v l) (hs : l.length ≤ 1048576) :
    Calls Try.prog 124 #[v, .func (.func 125) #[.agg #[.int .i64 i1, .slice a1 n1 c1, .int .i64 b1, .int .i64 d1]] #[]] w fun e w' => e = .returned (.bool (anyB (i1, xs1, b1, d1) l)) ∧ Below w.heap.size w w' := by
  have HC := Lib.hid (indexSeen v l i1 b1 d1 xs1 a1 n1 c1 w h hs)
  clear h hs
  go_enter Try.func124, Try.ntmps124
  go_wp2_with fail
  refine HC.out.mono ?_
  rintro e w1 ⟨⟨r, rfl, hr⟩, b1⟩
  have HR := Lib.hid hr
  clear hr
  go_wp2
  go_ret
  exact ⟨ret_b (by rw [← HR.out]), b1⟩
end Go.Proofs.Ytdhglmoanpkeoaa
namespace Go.Proofs.Ytdhglmoanpkeoaa
open Go.RowKit
set_option linter.unusedVariables false
set_option linter.unusedSimpArgs false
theorem info_R_ptr : ElemInfo (tRaw 1) 69 (.pointer none) := elemInfo_of (by kernel_rfl)
/-- A slice as a value: its address, length and capacity. -/
abbrev SegV := Option Addr × Nat × Nat
def s0V : SegV := (none, 0, 0)
def segV (u : SegV) : Value := .slice u.1 u.2.1 u.2.2
def cutV (u : SegV) : Value := .slice u.1 u.2.1 u.2.1
def ptrV (b : Nat) : Value := .pointer (some ⟨b, 0, none⟩)
/-- A slice of slices is read. -/
def LsR (w : World) (v : Value) (us : List SegV) : Prop := SlR (tRaw 1) w v (us.map (fun u => [segV u])) ∧ ∀ j, j < us.length → (us.getD j s0V).2.1 ≤ (us.getD j s0V).2.2
theorem lsR_below {W w : World} {v : Value} {us : List SegV} (h : LsR W v us) (hb : Below W.heap.size W w) : LsR w v us := ⟨slR_below (tRaw_law (by decide)) h.1 hb, h.2⟩
theorem lsR_len {w : World} {v : Value} {us : List SegV} (h : LsR w v us) : ∃ a cap, v = .slice a us.length cap := by
  obtain ⟨a, cap, e⟩ := slR_len h.1
  rw [List.length_map] at e
  exact ⟨a, cap, e⟩
theorem lsR_at {w : World} {v : Value} {us : List SegV} (h : LsR w v us) {k : Nat} (hk : k < us.length) : ∃ b off cap, v = .slice (some ⟨b, off, none⟩) us.length cap ∧ b < w.heap.size ∧ w.cell? ⟨b, off + k, none⟩ = some (segV (us.getD k s0V)) ∧ (us.getD k s0V).2.1 ≤ (us.getD k s0V).2.2 := by
  obtain ⟨b, off, cap, cs, hv, hb, hc, hR⟩ := slR_at h.1 (k := k) (by rw [List.length_map]; exact hk)
  rw [List.length_map] at hv
  obtain ⟨e, _⟩ := hR
  have e2 : (us.map (fun u => [segV u])).getD k (tRaw 1).d = [segV (us.getD k s0V)] := by simp [List.getD, hk]
  rw [e2] at e
  have := hc 0 (by decide)
  rw [show (tRaw 1).n = 1 from rfl, Nat.mul_one, Nat.add_zero, e] at this
  exact ⟨b, off, cap, hv, hb, this, h.2 k hk⟩
/-- The row of a segment's block. -/
def segRow (u : SegV) : Obj := .cells #[cutV u] 122 (0, 0)
/-- What tableOf answers: new pointers to new segments. -/
def TabN (B : Nat) (w : World) (g : Nat) (bs : List Nat) (us : List SegV) : Prop :=
  B ≤ g ∧ g < w.heap.size ∧ bs.length = us.length ∧ (∀ j, j < us.length → w.cell? ⟨g, j, none⟩ = some (ptrV (bs.getD j 0)) ∧ w.heap[bs.getD j 0]? = some (segRow (us.getD j s0V)) ∧ g < bs.getD j 0) ∧ ∀ i j, i < us.length → j < us.length → i ≠ j → bs.getD i 0 ≠ bs.getD j 0
def FreshTab (w : World) (us : List SegV) (e : Ending) (w' : World) : Prop := ∃ g bs, e = .returned (.slice (some ⟨g, 0, none⟩) us.length us.length) ∧ TabN w.heap.size w' g bs us ∧ Below w.heap.size w w'
def FreshTabO (w : World) (us : List SegV) (e : Ending) (w' : World) : Prop := ∃ g bs, e = .returned (.slice (some ⟨g, 0, none⟩) us.length us.length) ∧ w'.ownsRow w.heap.size 69 1 (.slice (some ⟨g, 0, none⟩) us.length us.length) us.length (bs.map ptrV) ∧ TabN w.heap.size w' g bs us ∧ Below w.heap.size w w'
theorem ptr_set {bs : List Nat} {n k b : Nat} (hb : bs.length = k) (hk : k < n) : (bs.map ptrV ++ List.replicate (n - k) (Value.pointer none)).set k (ptrV b) = (bs ++ [b]).map ptrV ++ List.replicate (n - (k + 1)) (Value.pointer none) := by
  have hl : (bs.map ptrV).length = k := by rw [List.length_map]; exact hb
  rw [List.set_append_right _ _ (by omega), hl, Nat.sub_self, show n - k = (n - (k + 1)) + 1 by omega, List.replicate_succ, List.set_cons_zero, List.map_append, List.append_assoc]
  rfl
theorem getD_app_lt {bs : List Nat} {b j : Nat} (h : j < bs.length) : (bs ++ [b]).getD j 0 = bs.getD j 0 := by simp [List.getD, List.getElem?_append_left h]
theorem getD_app_eq {bs : List Nat} {b j : Nat} (h : j = bs.length) : (bs ++ [b]).getD j 0 = b := by subst h; simp [List.getD]
set_option maxHeartbeats 8000000 in
set_option maxRecDepth 100000 in
theorem tableOf_own (v : Value) (us : List SegV) (w : World) (h : LsR w v us) (hn : us.length ≤ 1048576) :
    Calls Try.prog 84 #[v] w (FreshTabO w us) := by
  obtain ⟨i0, hi, hz0, hz1, hz2⟩ := info_R_ptr
  have HI := Lib.hid hi; have HZ0 := Lib.hid hz0; have HZ1 : Hid (i0.size = 1) := Lib.hid hz1; have HZ2 := Lib.hid hz2
  clear hi hz0 hz1 hz2
  have H := Lib.hid h
  obtain ⟨a, cap, rfl⟩ := lsR_len h
  clear h
  go_enter Try.func84, Try.ntmps84
  go_wp2_with (at_make; refine wpList_make_full _ rfl (.tmp 7) (.tmp 7) 64 rfl w.heap.size 69 i0 (.pointer none) 1 Try.underlying64 HI.out HZ0.out HZ1.out _ _ _ _ us.length rfl rfl rfl rfl (by have := Nat.mul_le_mul HZ2.out hn; omega) (by unfold maxLen; omega) (Nat.le_refl _) ?_)
  intro w1 hown0 hg0
  have hbel1 := (Below.refl w.heap.size w).grown hg0 (Nat.le_refl _) (fun k hk => by cases hk)
  have hz : (madeCells #[Value.pointer none] us.length).toList = List.replicate us.length (Value.pointer none) := by
    apply List.ext_getElem?
    intro i
    unfold madeCells
    rw [Array.getElem?_toList, Array.getElem?_map]
    by_cases q : i < us.length
    · rw [Array.getElem?_range, if_pos q]
      simp [q, Nat.mod_one]
    · rw [Array.getElem?_range, if_neg q]
      simp [q]
  rw [hz] at hown0
  clear hg0 hz
  go_wp2
  go_loopw [11] (fun i wr => ∃ (k : Nat) (bs : List Nat), k ≤ us.length ∧ i = .int .i64 k ∧ bs.length = k ∧ wr.ownsRow w.heap.size 69 1 (.slice (some ⟨w.heap.size, 0, none⟩) us.length us.length) us.length (bs.map ptrV ++ List.replicate (us.length - k) (Value.pointer none)) ∧ Hid (∀ j, j < k → wr.heap[bs.getD j 0]? = some (segRow (us.getD j s0V)) ∧ w.heap.size < bs.getD j 0 ∧ bs.getD j 0 < wr.heap.size) ∧ Hid (∀ i j, i < k → j < k → i ≠ j → bs.getD i 0 ≠ bs.getD j 0) ∧ Below w.heap.size w wr ∧ w.heap.size < wr.heap.size) (fun i _ => us.length - (intOf i).toNat)
  case atStart => exact ⟨0, [], Nat.zero_le _, rfl, rfl, hown0, Lib.hid (fun j hj => by omega), Lib.hid (fun i j hi => by omega), hbel1, (hown0.lt w.heap.size rfl).2⟩
  case round =>
    obtain ⟨k, bs, hk, rfl, hbs, hown, hrow, hdis, hbel, hsz⟩ := hrel
    clear hown0 hbel1
    by_cases hlt : k < us.length
    · have i1 : (0 : Int) ≤ (k : Int) := by omega
      have i2 : (k : Int) < (us.length : Int) := by omega
      obtain ⟨b, off, cap', hv, hbl, c0, hle⟩ := lsR_at (lsR_below H.out hbel) hlt
      simp only [Value.slice.injEq] at hv
      obtain ⟨rfl, _, rfl⟩ := hv
      have hset := ptr_set (b := wr.heap.size) hbs hlt
      have r1 := (World.ownsRow.stored hown k (ptrV wr.heap.size)).1
      rw [hset] at r1
      have r2 := r1.alloc (.cells #[cutV (us.getD k s0V)] 122)
      have y0 : ∃ x, wr.cell? ⟨w.heap.size, k, none⟩ = some x := ⟨_, (World.ownsRow.cellAt hown k (by omega)).trans (List.getElem?_eq_getElem (by simp; omega))⟩
      obtain ⟨y, y0⟩ := y0
      have f0 := World.ownsRow.frozenAt hown k
      have tt : Turn (fun x => x = w.heap.size) wr (wr.setCell ⟨w.heap.size, k, none⟩ (ptrV wr.heap.size)) := turn_set (G := fun x => x = w.heap.size) (g := w.heap.size) (j := k) (u := ptrV wr.heap.size) rfl
      have hs0 : (wr.setCell ⟨w.heap.size, k, none⟩ (ptrV wr.heap.size)).heap.size = wr.heap.size := by simp [World.setCell]
      have hal : Below (wr.setCell ⟨w.heap.size, k, none⟩ (ptrV wr.heap.size)).heap.size (wr.setCell ⟨w.heap.size, k, none⟩ (ptrV wr.heap.size)) ((wr.setCell ⟨w.heap.size, k, none⟩ (ptrV wr.heap.size)).alloc (.cells #[cutV (us.getD k s0V)] 122)) := (Below.refl _ _).alloc (Nat.le_refl _) _
      have hnew : ((wr.setCell ⟨w.heap.size, k, none⟩ (ptrV wr.heap.size)).alloc (.cells #[cutV (us.getD k s0V)] 122)).heap[wr.heap.size]? = some (.cells #[cutV (us.getD k s0V)] 122 (0, 0)) := by
        have := heap_alloc_new (wr.setCell ⟨w.heap.size, k, none⟩ (ptrV wr.heap.size)) (.cells #[cutV (us.getD k s0V)] 122)
        rw [hs0] at this; exact this
      have hs1 : ((wr.setCell ⟨w.heap.size, k, none⟩ (ptrV wr.heap.size)).alloc (.cells #[cutV (us.getD k s0V)] 122)).heap.size = wr.heap.size + 1 := by rw [World.size_alloc, hs0]
      have R2 := Lib.hid r2
      have HROW : Hid (∀ j, j < k + 1 → ((wr.setCell ⟨w.heap.size, k, none⟩ (ptrV wr.heap.size)).alloc (.cells #[cutV (us.getD k s0V)] 122)).heap[(bs ++ [wr.heap.size]).getD j 0]? = some (segRow (us.getD j s0V)) ∧ w.heap.size < (bs ++ [wr.heap.size]).getD j 0 ∧ (bs ++ [wr.heap.size]).getD j 0 < ((wr.setCell ⟨w.heap.size, k, none⟩ (ptrV wr.heap.size)).alloc (.cells #[cutV (us.getD k s0V)] 122)).heap.size) := Lib.hid (fun j hj => by
        by_cases e : j = k
        · rw [getD_app_eq (by omega), e]
          exact ⟨hnew, hsz, by omega⟩
        · rw [getD_app_lt (by omega)]
          obtain ⟨g1, g2, g3⟩ := hrow.out j (by omega)
          exact ⟨(hal.block _ (by omega)).trans ((tt.block _ g3 (fun q => by omega)).trans g1), g2, by omega⟩)
      have HDIS : Hid (∀ i j, i < k + 1 → j < k + 1 → i ≠ j → (bs ++ [wr.heap.size]).getD i 0 ≠ (bs ++ [wr.heap.size]).getD j 0) := Lib.hid (fun i j hi hj hij => by
        by_cases e1 : i = k
        · rw [getD_app_eq (by omega), getD_app_lt (by omega)]
          have := (hrow.out j (by omega)).2.2; omega
        · by_cases e2 : j = k
          · rw [getD_app_lt (by omega), getD_app_eq (by omega)]
            have := (hrow.out i (by omega)).2.2; omega
          · rw [getD_app_lt (by omega), getD_app_lt (by omega)]
            exact hdis.out i j (by omega) (by omega) hij)
      have D2 : Hid (Below w.heap.size w ((wr.setCell ⟨w.heap.size, k, none⟩ (ptrV wr.heap.size)).alloc (.cells #[cutV (us.getD k s0V)] 122))) := Lib.hid ((below_turn hbel tt (fun x hx => by omega) (by omega)).trans (hal.mono (by omega)))
      have S2 : Hid (w.heap.size < ((wr.setCell ⟨w.heap.size, k, none⟩ (ptrV wr.heap.size)).alloc (.cells #[cutV (us.getD k s0V)] 122)).heap.size) := Lib.hid (by omega)
      have HBL : Hid ((bs ++ [wr.heap.size]).length = k + 1) := Lib.hid (by rw [List.length_append]; simp; omega)
      clear hset r1 r2 hal tt hnew hs0 hs1 hrow hdis hown hbel hbs
      generalize us.getD k s0V = u at *
      obtain ⟨ua, n, uc⟩ := u
      simp only [segV, cutV, ptrV] at *
      have j1 : (n : Int) ≤ (uc : Int) := by omega
      go_wp2
      go_roundw
      case rel => exact ⟨k + 1, _, by omega, by go_num, HBL.out, R2.out, HROW, HDIS, D2.out, S2.out⟩
      case measure => simp [intOf]; omega
    · obtain rfl : k = us.length := by omega
      have HO := Lib.hid hown
      clear hown
      go_wp2
      go_ret
      have ho := HO.out
      refine ⟨w.heap.size, bs, rfl, by simpa using ho, ⟨Nat.le_refl _, hsz, hbs, fun j hj => ⟨?_, (hrow.out j hj).1, (hrow.out j hj).2.1⟩, hdis.out⟩, hbel⟩
      refine (World.ownsRow.cellAt ho j (by omega)).trans ?_
      rw [List.getElem?_append_left (by rw [List.length_map]; omega), List.getElem?_map]
      simp [List.getD, show j < bs.length by omega]
theorem tableOf_any (v : Value) (us : List SegV) (w : World) (h : LsR w v us) (hn : us.length ≤ 1048576) :
    Calls Try.prog 84 #[v] w (FreshTab w us) :=
  (tableOf_own v us w h hn).mono (by
    rintro e w1 ⟨g, bs, he, _, ht, hb⟩
    exact ⟨g, bs, he, ht, hb⟩)
end Go.Proofs.Ytdhglmoanpkeoaa
namespace Go.Proofs.Ytdhglmoanpkeoaa
open Go.RowKit
set_option linter.unusedVariables false
set_option linter.unusedSimpArgs false
theorem tabN_below {B : Nat} {w w' : World} {g : Nat} {bs : List Nat} {us : List SegV} (h : TabN B w g bs us) (hb : Below w.heap.size w w') : TabN B w' g bs us := by
  obtain ⟨h1, h2, h3, h4, h5⟩ := h
  refine ⟨h1, Nat.lt_of_lt_of_le h2 hb.size, h3, fun j hj => ?_, h5⟩
  obtain ⟨g1, g2, g3⟩ := h4 j hj
  exact ⟨(hb.cell (p := ⟨g, j, none⟩) h2).trans g1, (hb.block _ (Array.getElem?_eq_some_iff.1 g2).1).trans g2, g3⟩
theorem slR_cut {α : Type} {T : Ty α} {w : World} {a : Option Addr} {n c : Nat} {xs : List α} (h : SlR T w (.slice a n c) xs) : SlR T w (.slice a n n) xs ∧ n = xs.length ∧ n ≤ c := by
  rcases h with ⟨rfl, a', cap, e⟩ | ⟨b, off, cap, us, e, h2, h3, h4⟩
  · simp only [Value.slice.injEq] at e
    obtain ⟨rfl, rfl, rfl⟩ := e
    exact ⟨Or.inl ⟨rfl, _, _, rfl⟩, rfl, Nat.zero_le _⟩
  · simp only [Value.slice.injEq] at e
    obtain ⟨rfl, rfl, rfl⟩ := e
    exact ⟨Or.inr ⟨b, off, _, us, rfl, Nat.le_refl _, h3, h4⟩, rfl, h2⟩
/-- The segments as they are named by values. -/
def SegsR (w : World) (us : List SegV) (ss : List (List VerD)) : Prop := us.length = ss.length ∧ ∀ j, j < ss.length → SlR tVersion w (cutV (us.getD j s0V)) (ss.getD j []) ∧ (us.getD j s0V).2.1 = (ss.getD j []).length
theorem segsR_below {W w : World} {us : List SegV} {ss : List (List VerD)} (h : SegsR W us ss) (hb : Below W.heap.size W w) : SegsR w us ss := ⟨h.1, fun j hj => ⟨slR_below tVersion_law (h.2 j hj).1 hb, (h.2 j hj).2⟩⟩
theorem slR_ls {w : World} {v : Value} {ss : List (List VerD)} (h : SlR tVersionS w v ss) : ∃ us, LsR w v us ∧ SegsR w us ss := by
  rcases h with ⟨rfl, a, cap, rfl⟩ | ⟨b, off, cap, us, rfl, h2, h3, h4⟩
  · exact ⟨[], ⟨Or.inl ⟨rfl, a, cap, rfl⟩, fun j hj => by simp at hj⟩, rfl, fun j hj => by simp at hj⟩
  · haveI : Inhabited SegV := ⟨s0V⟩
    obtain ⟨f, hf⟩ := Go.Deep.choose_lt (α := SegV) (n := ss.length) (p := fun j u => w.cell? ⟨b, off + j, none⟩ = some (segV u) ∧ SlR tVersion w (cutV u) (ss.getD j []) ∧ u.2.1 = (ss.getD j []).length ∧ u.2.1 ≤ u.2.2) (fun j hj => by
      obtain ⟨hc, hR⟩ := h4 j hj
      obtain ⟨v, e, hv⟩ := hR
      have h0 := hc 0 (by decide)
      rw [show tVersionS.n = 1 from rfl, Nat.mul_one, Nat.add_zero, e] at h0
      obtain ⟨a, c, rfl⟩ := slR_len hv
      obtain ⟨k1, k2, k3⟩ := slR_cut hv
      exact ⟨(a, (ss.getD j []).length, c), h0, k1, rfl, k3⟩)
    have hg : ∀ j, j < ss.length → ((List.range ss.length).map f).getD j s0V = f j := fun j hj => by simp [List.getD, hj]
    refine ⟨(List.range ss.length).map f, ⟨Or.inr ⟨b, off, cap, fun j => [segV (f j)], by simp, by simpa using h2, h3, fun j hj => ?_⟩, fun j hj => ?_⟩, by simp, fun j hj => ?_⟩
    · have hj' : j < ss.length := by simpa using hj
      refine ⟨fun i hi => ?_, ?_⟩
      · have hi0 : i = 0 := by have : i < 1 := hi; omega
        subst hi0
        rw [show (tRaw 1).n = 1 from rfl, Nat.mul_one, Nat.add_zero]
        exact (hf j hj').1
      · have e : (((List.range ss.length).map f).map (fun u => [segV u])).getD j (tRaw 1).d = [segV (f j)] := by simp [List.getD, hj']
        rw [e]
        exact ⟨rfl, rfl, fun u hu => by simp at hu; subst hu; rfl⟩
    · have hj' : j < ss.length := by simpa using hj
      rw [hg j hj']; exact (hf j hj').2.2.2
    · rw [hg j hj]; exact ⟨(hf j hj).2.1, (hf j hj).2.2.1⟩
end Go.Proofs.Ytdhglmoanpkeoaa
namespace Go.Proofs.Ytdhglmoanpkeoaa
open Go.RowKit
set_option linter.unusedVariables false
set_option linter.unusedSimpArgs false
def possP (ss : List (List VerD)) (now : Int) : Prop := ShortP ss ss.length ∧ VersP ss.flatten now ss.flatten.length
instance (ss : List (List VerD)) (now : Int) : Decidable (possP ss now) := by unfold possP; infer_instance
def possB (ss : List (List VerD)) (now : Int) : Bool := decide (possP ss now)
theorem poss_short {ss : List (List VerD)} {now : Int} {i : Nat} (hi : i < ss.length) (h : ¬ (ss.getD i []).length ≤ 4) : possB ss now = false := decide_eq_false (fun g => h (g.1 i hi))
theorem poss_ver {ss : List (List VerD)} {now : Int} {i : Nat} (hi : i < ss.flatten.length) (h : verB (ss.flatten.getD i v0D) now = false) : possB ss now = false := decide_eq_false (fun g => by
  have := (g.2 i hi).1; rw [h] at this; cases this)
theorem take_get {l : List VerD} {i j : Nat} (h : j < (l.take i).length) : (l.take i)[j] = l.getD j v0D := by
  have h2 : j < i ∧ j < l.length := by rw [List.length_take] at h; omega
  simp [List.getD, h2.1, h2.2]
/-- One that is seen with an earlier one: the store is not possible. -/
theorem poss_seen {ss : List (List VerD)} {now : Int} {i : Nat} (hv : VersP ss.flatten now i) (hi : i < ss.flatten.length) (h1 : verB (ss.flatten.getD i v0D) now = true) (h : anyB (ss.flatten.getD i v0D) (ss.flatten.take i) = true) : possB ss now = false := decide_eq_false (fun g => by
  unfold anyB at h
  rw [List.any_eq_true] at h
  obtain ⟨y, hy, hs⟩ := h
  obtain ⟨j, hj, rfl⟩ := List.getElem_of_mem hy
  have hji : j < i := by rw [List.length_take] at hj; omega
  have e : (ss.flatten.take i)[j] = ss.flatten.getD j v0D := take_get hj
  rw [e, seenB_apart h1 (hv j hji).1, (g.2 i hi).2 j hji] at hs
  cases hs)
theorem poss_step {ss : List (List VerD)} {now : Int} {i : Nat} (hv : VersP ss.flatten now i) (hi : i < ss.flatten.length) (h1 : verB (ss.flatten.getD i v0D) now = true) (h : anyB (ss.flatten.getD i v0D) (ss.flatten.take i) = false) : VersP ss.flatten now (i + 1) := by
  refine vers_step hv h1 (fun k hk => ?_)
  unfold anyB at h
  rw [List.any_eq_false] at h
  have hkl : k < (ss.flatten.take i).length := by rw [List.length_take]; omega
  have := h _ (List.getElem_mem hkl)
  have e : (ss.flatten.take i)[k] = ss.flatten.getD k v0D := take_get hkl
  rw [e, seenB_apart h1 (hv k hk).1] at this
  simpa using this
theorem poss_yes {ss : List (List VerD)} {now : Int} (h1 : ShortP ss ss.length) (h2 : VersP ss.flatten now ss.flatten.length) : possB ss now = true := decide_eq_true ⟨h1, h2⟩
theorem store_poss (ss : List (List VerD)) (now : Int) : storeB ss now = (decide (1 ≤ (ss.length : Int) ∧ (ss.length : Int) ≤ 8) && decide (0 ≤ now ∧ now ≤ 100000) && possB ss now) := by
  unfold storeB possB
  by_cases h1 : 1 ≤ ss.length ∧ ss.length ≤ 8
  · by_cases h2 : 0 ≤ now ∧ now ≤ 100000
    · rw [decide_eq_true (show 1 ≤ (ss.length : Int) ∧ (ss.length : Int) ≤ 8 by omega), decide_eq_true h2]
      by_cases h3 : possP ss now
      · rw [decide_eq_true h3, decide_eq_true ⟨⟨h1, h2⟩, h3⟩]; rfl
      · rw [decide_eq_false h3, decide_eq_false (fun g => h3 g.2)]; rfl
    · rw [decide_eq_false h2, decide_eq_false (fun g => h2 g.1.2), Bool.and_false]; rfl
  · rw [decide_eq_false (show ¬ (1 ≤ (ss.length : Int) ∧ (ss.length : Int) ≤ 8) by omega), decide_eq_false (fun g => h1 g.1.1)]; rfl
theorem cat_take (ss : List (List VerD)) (k : Nat) : ss.flatten.take (cat ss k).length = cat ss k := by
  unfold cat
  have e : ss.flatten = (ss.take k).flatten ++ (ss.drop k).flatten := by rw [← List.flatten_append, List.take_append_drop]
  rw [e, List.take_left]
set_option maxHeartbeats 16000000 in
set_option maxRecDepth 100000 in
theorem isPossible_any (B g : Nat) (bs : List Nat) (us : List SegV) (ss : List (List VerD)) (now : Int) (w : World) (ht : TabN B w g bs us) (hr : SegsR w us ss) (hs : zL tVersionS ss ≤ 1048576) :
    Calls Try.prog 94 #[.slice (some ⟨g, 0, none⟩) us.length us.length, .int .i64 now] w (fun e w' => e = .returned (.bool (possB ss now)) ∧ Below w.heap.size w w') := by
  have hlen := zL_len hs
  have HZF : Hid (zL tVersion ss.flatten ≤ 1048576) := Lib.hid (by have := zL_all ss; omega)
  have HFL := Lib.hid (zL_len HZF.out)
  have HS := Lib.hid hs
  have hul := hr.1
  have HR := Lib.hid hr
  have HT := Lib.hid ht
  rw [hul]
  have HUL := Lib.hid hul
  clear ht hr hs hul
  go_enter Try.func94, Try.ntmps94
  go_wp2
  go_loopw [5, 12] (fun o i wr => ∃ (k : Nat) (L : List (List Value)), k ≤ ss.length ∧ i = .int .i64 k ∧ SlO 115 (tRaw 4) wr (since w) o L ∧ Hid (Sh tVersion w L (cat ss k)) ∧ Hid (ShortP ss k) ∧ Hid (VersP ss.flatten now (cat ss k).length) ∧ Below w.heap.size w wr) (fun _ i _ => ss.length - (intOf i).toNat)
  case atStart => exact ⟨0, [], Nat.zero_le _, rfl, slO_nil _ _ _ _, Lib.hid (by rw [cat_zero]; exact sh_nil w), Lib.hid (fun j hj => by omega), Lib.hid (by rw [cat_zero]; exact fun j hj => by simp at hj), Below.refl _ _⟩
  case round =>
    obtain ⟨k, L, hk, rfl, hown, hsh, hshort, hvers, hbel⟩ := hrel
    obtain ⟨oa, oc, rfl⟩ := slO_len hown
    by_cases hlt : k < ss.length
    · have i1 : (0 : Int) ≤ (k : Int) := by omega
      have i2 : (k : Int) < (ss.length : Int) := by omega
      obtain ⟨_, tg, tl, trow, _⟩ := tabN_below HT.out hbel
      obtain ⟨r0, r1, _⟩ := trow k (by have := HUL.out; omega)
      obtain ⟨s1, s2⟩ := HR.out.2 k hlt
      have HSM := Lib.hid (zL_seg hlt)
      have HCI := Lib.hid (fun j hj => cat_in (ss := ss) (k := k) (j := j) hlt hj)
      have HCL := Lib.hid (cat_len hlt)
      have HCF := Lib.hid (cat_le ss (k + 1))
      have HNS := Lib.hid (fun h => poss_short (ss := ss) (now := now) hlt h)
      have HYS : Hid ((ss.getD k []).length ≤ 4 → ShortP ss (k + 1)) := Lib.hid (fun g j hj => by
        by_cases e : j = k
        · rw [e]; exact g
        · exact hshort.out j (by omega))
      have HVS := hvers
      have HSH := hsh
      have HOW := Lib.hid hown
      have HB := Lib.hid hbel
      clear trow tg tl hown hbel hshort hvers hsh
      generalize us.getD k s0V = u at *
      generalize bs.getD k 0 = pb at *
      obtain ⟨ua, m0, uc⟩ := u
      simp only at s2
      subst s2
      have p1 := (cell_of_row wr _ 0 _ _ _ r1).trans (show _ = some (Value.slice ua (ss.getD k []).length (ss.getD k []).length) from rfl)
      have P1 := Lib.hid p1
      have RS : Hid (SlR tVersion w (.slice ua (ss.getD k []).length (ss.getD k []).length) (ss.getD k [])) := Lib.hid s1
      have RR := Lib.hid r0
      unfold ptrV at r0
      clear s1 r1
      have HML : Hid ((ss.getD k []).length ≤ 1048576) := Lib.hid (zL_len (T := tVersion) (Nat.le_trans HSM.out HS.out))
      generalize ss.getD k [] = seg at *
      obtain ⟨m, hm⟩ : ∃ m, m = seg.length := ⟨_, rfl⟩
      have HM := Lib.hid hm
      rw [← hm] at p1 P1 RS HCL HML HNS HYS
      clear hm
      by_cases h4 : m ≤ 4
      rotate_left
      · have HF := Lib.hid (HNS.out h4)
        have h5 : (4 : Int) < (m : Int) := by omega
        clear HNS HYS
        go_wp2
        go_ret
        exact ⟨ret_b HF.out.symm, HB.out⟩
      have HSK := Lib.hid (HYS.out h4)
      have h5 : ¬ (4 : Int) < (m : Int) := by omega
      clear HNS HYS
      go_wp2
      clear r0 p1 h5
      go_loopw [5, 27] (fun o i wi => ∃ (j : Nat) (L : List (List Value)), j ≤ m ∧ i = .int .i64 j ∧ SlO 115 (tRaw 4) wi (since w) o L ∧ Hid (Sh tVersion w L (ss.flatten.take ((cat ss k).length + j))) ∧ Hid (VersP ss.flatten now ((cat ss k).length + j)) ∧ Below w.heap.size w wi) (fun _ i _ => m - (intOf i).toNat)
      case atStart => exact ⟨0, L, Nat.zero_le _, rfl, HOW.out, Lib.hid (by rw [Nat.add_zero, cat_take]; exact HSH.out), Lib.hid (by rw [Nat.add_zero]; exact HVS.out), HB.out⟩
      case round =>
        obtain ⟨j, L2, hj, rfl, hown, hsh, hvers, hbel⟩ := hrel
        clear HOW HSH HVS HB
        obtain ⟨oa2, oc2, rfl⟩ := slO_len hown
        by_cases hjl : j < m
        · have j1 : (0 : Int) ≤ (j : Int) := by omega
          have j2 : (j : Int) < (m : Int) := by omega
          have hjs : j < seg.length := by have := HM.out; omega
          obtain ⟨b, off, cap', xa, xc, hv, hbl, c0, c1, c2, c3, hx⟩ := verR_at RS.out hjs
          simp only [Value.slice.injEq] at hv
          obtain ⟨rfl, hm1, hm2⟩ := hv
          clear hm1 hm2
          have hif : (cat ss k).length + j < ss.flatten.length := by have := HCL.out; have := HCF.out; omega
          have hci := HCI.out j hjs
          have HXL := Lib.hid (ver_len (l := ss.flatten) HZF.out hif)
          have HNV := Lib.hid (fun q => poss_ver (ss := ss) (now := now) hif q)
          have HNA := Lib.hid (fun q r => poss_seen (ss := ss) (now := now) hvers.out hif q r)
          have HST := Lib.hid (fun q r => poss_step (ss := ss) (now := now) hvers.out hif q r)
          have HTK := Lib.hid (take_getD hif)
          rw [hci] at HXL HNV HNA HST HTK
          have HLL : Hid (L2.length ≤ 1048576 ∧ (ss.flatten.take ((cat ss k).length + j)).length ≤ 1048576) := Lib.hid (by
            have h1 := sh_len hsh.out; have h2 := HFL.out; rw [List.length_take] at h1 ⊢; omega)
          clear hci hif hvers
          generalize seg.getD j v0D = x at *
          obtain ⟨id, xs, born, died⟩ := x
          simp only at c0 c1 c2 c3 HXL
          have e0 := (hbel.cell (p := ⟨b, off + j * 4, none⟩) hbl).trans c0
          have e1 := (hbel.cell (p := ⟨b, off + j * 4 + 1, none⟩) hbl).trans c1
          have e2 := (hbel.cell (p := ⟨b, off + j * 4 + 2, none⟩) hbl).trans c2
          have e3 := (hbel.cell (p := ⟨b, off + j * 4 + 3, none⟩) hbl).trans c3
          have hal : Below wr.heap.size wr (wr.alloc (.cells #[.int .i64 id, .slice xa xs.length xc, .int .i64 born, .int .i64 died] 115)) := (Below.refl _ _).alloc (Nat.le_refl _) _
          have BV : Hid ((wr.alloc (.cells #[.int .i64 id, .slice xa xs.length xc, .int .i64 born, .int .i64 died] 115)).heap[wr.heap.size]? = some (.cells #[.int .i64 id, .slice xa xs.length xc, .int .i64 born, .int .i64 died] 115 (0, 0))) := Lib.hid (heap_alloc_new wr _)
          have YV : Hid (wr.heap.size < (wr.alloc (.cells #[.int .i64 id, .slice xa xs.length xc, .int .i64 born, .int .i64 died] 115)).heap.size) := Lib.hid (by simp [World.size_alloc])
          have PF := Lib.hid (slO_fresh (tRaw_law (by decide)) (slO_lt (tRaw_law (by decide)) hown) hal)
          have d := Lib.hid (hbel.trans (hal.mono hbel.size))
          have DZ := Lib.hid hbel.size
          have HX : Hid (Ints w (.slice xa xs.length xc) xs) := Lib.hid hx
          have HSH := hsh
          have HIV := Lib.hid (fun W h => isVersion_any id born died now (.slice xa xs.length xc) xs W h HXL.out)
          clear hown hbel hal hx c0 c1 c2 c3 hbl hsh
          cases hver : verB (id, xs, born, died) now with
          | false =>
            have HF := Lib.hid (HNV.out hver)
            rw [hver] at HIV
            clear hver HNV HNA HST
            go_wp2_with fail
            clear e0 e1 e2 e3
            generalize wr.alloc (.cells #[.int .i64 id, .slice xa xs.length xc, .int .i64 born, .int .i64 died] 115) = W1 at *
            refine (HIV.out W1 (ints_below HX.out d.out)).mono ?_
            rintro e w2 ⟨rfl, b2⟩
            have d2 := d.out.trans (b2.mono d.out.size)
            go_wp2
            go_ret
            exact ⟨ret_b HF.out.symm, d2⟩
          | true =>
            have HNA2 := Lib.hid (fun r => HNA.out hver r)
            have HST2 := Lib.hid (fun r => HST.out hver r)
            rw [hver] at HIV
            clear hver HNV HNA HST
            go_wp2_with fail
            clear e0 e1 e2 e3
            generalize wr.alloc (.cells #[.int .i64 id, .slice xa xs.length xc, .int .i64 born, .int .i64 died] 115) = W1 at *
            refine (HIV.out W1 (ints_below HX.out d.out)).mono ?_
            rintro e w2 ⟨rfl, b2⟩
            have kv := (b2.block wr.heap.size YV.out).trans BV.out
            have p0 := (cell_of_row w2 _ 0 _ _ _ kv).trans (show _ = some (Value.int .i64 id) from rfl)
            have p1 := (cell_of_row w2 _ 1 _ _ _ kv).trans (show _ = some (Value.slice xa xs.length xc) from rfl)
            have p2 := (cell_of_row w2 _ 2 _ _ _ kv).trans (show _ = some (Value.int .i64 born) from rfl)
            have p3 := (cell_of_row w2 _ 3 _ _ _ kv).trans (show _ = some (Value.int .i64 died) from rfl)
            have KV := Lib.hid kv
            have PF2 := Lib.hid (slO_fresh (tRaw_law (by decide)) PF.out b2)
            have d2 := Lib.hid (d.out.trans (b2.mono d.out.size))
            have Z2 := Lib.hid (Nat.lt_of_lt_of_le YV.out b2.size)
            have HO := Lib.hid (raw_reads (T := tVersion) (by decide) PF2.out (sh_below tVersion_law HSH.out d2.out))
            have HCS := Lib.hid (fun W h => containsSeen (.slice oa2 L2.length oc2) (ss.flatten.take ((cat ss k).length + j)) id born died xs xa xs.length xc W h HLL.out.2)
            clear PF d b2 kv
            cases hany : anyB (id, xs, born, died) (ss.flatten.take ((cat ss k).length + j)) with
            | true =>
              have HF := Lib.hid (HNA2.out hany)
              rw [hany] at HCS
              clear hany HNA2 HST2
              go_wp2_with fail
              refine (HCS.out w2 HO.out).mono ?_
              rintro e w3 ⟨rfl, b3⟩
              have d3 := d2.out.trans (b3.mono d2.out.size)
              clear p0 p1 p2 p3
              go_wp2
              go_ret
              exact ⟨ret_b HF.out.symm, d3⟩
            | false =>
              have HV2 := Lib.hid (HST2.out hany)
              rw [hany] at HCS
              clear hany HNA2 HST2
              go_wp2_with fail
              refine (HCS.out w2 HO.out).mono ?_
              rintro e w3 ⟨rfl, b3⟩
              have kv := (b3.block wr.heap.size Z2.out).trans KV.out
              clear p0 p1 p2 p3
              have p0 := (cell_of_row w3 _ 0 _ _ _ kv).trans (show _ = some (Value.int .i64 id) from rfl)
              have p1 := (cell_of_row w3 _ 1 _ _ _ kv).trans (show _ = some (Value.slice xa xs.length xc) from rfl)
              have p2 := (cell_of_row w3 _ 2 _ _ _ kv).trans (show _ = some (Value.int .i64 born) from rfl)
              have p3 := (cell_of_row w3 _ 3 _ _ _ kv).trans (show _ = some (Value.int .i64 died) from rfl)
              have PF3 := Lib.hid (slO_fresh (tRaw_law (by decide)) PF2.out b3)
              have d3 := Lib.hid (d2.out.trans (b3.mono d2.out.size))
              have Z3 := Lib.hid (Nat.le_trans (Nat.le_of_lt Z2.out) b3.size)
              have ON : Hid ((tRaw 4).O w3 (fun b => wr.heap.size ≤ b) [.int .i64 id, .slice xa xs.length xc, .int .i64 born, .int .i64 died] [.int .i64 id, .slice xa xs.length xc, .int .i64 born, .int .i64 died]) := Lib.hid ⟨rfl, rfl, by simp [Value.oneCell']⟩
              clear PF2 d2 b3 kv KV HO
              go_wp2_with (at_builtin; refine append_T (tRaw_law (by decide)) info_R_Version Try.underlying61 rfl rfl (.tmp 41) (.tmp 43) rfl (since w) wr.heap.size _ L2 rfl PF3.out Z3.out (fun b hb => Nat.le_trans DZ.out hb) HLL.out.1 [.int .i64 id, .slice xa xs.length xc, .int .i64 born, .int .i64 died] [.int .i64 id, .slice xa xs.length xc, .int .i64 born, .int .i64 died] ON.out (by simp [Value.oneCell']) 1 _ rfl rfl ?_)
              intro v' w4 o4 t4
              have d4 := Lib.hid (below_turn d3.out t4 (fun b hb => hb.1) d3.out.size)
              have SH : Hid (Sh tVersion w (L2 ++ [[.int .i64 id, .slice xa xs.length xc, .int .i64 born, .int .i64 died]]) (ss.flatten.take ((cat ss k).length + (j + 1)))) := Lib.hid (by rw [← Nat.add_assoc, HTK.out]; exact sh_app HSH.out (sh_one (tVersion_mkR (ints_slR HX.out))))
              have O4 := Lib.hid o4
              clear PF3 d3 t4 o4 p0 p1 p2 p3
              go_wp2
              go_roundw
              case rel => exact ⟨j + 1, _, by omega, by go_num, O4.out, SH, HV2, d4.out⟩
              case measure => simp [intOf]; omega
        · obtain rfl : j = m := by omega
          have SH : Hid (Sh tVersion w L2 (cat ss (k + 1))) := Lib.hid (by have := hsh.out; rw [← HCL.out, cat_take] at this; exact this)
          have HV2 : Hid (VersP ss.flatten now (cat ss (k + 1)).length) := Lib.hid (by rw [HCL.out]; exact hvers.out)
          have O2 := Lib.hid hown
          have HB := Lib.hid hbel
          clear hsh hvers hown hbel
          go_wp2
          go_roundw
          case rel => exact ⟨k + 1, L2, by omega, by go_num, O2.out, SH, HSK, HV2, HB.out⟩
          case measure => simp [intOf]; omega
    · obtain rfl : k = ss.length := by omega
      have HY := Lib.hid (poss_yes hshort.out (by have := hvers.out; rw [cat_all] at this; exact this))
      clear hsh hshort hvers
      go_wp2
      go_ret
      exact ⟨ret_b HY.out.symm, hbel⟩
end Go.Proofs.Ytdhglmoanpkeoaa
namespace Go.Proofs.Ytdhglmoanpkeoaa
open Go.RowKit
set_option linter.unusedVariables false
set_option linter.unusedSimpArgs false
set_option maxHeartbeats 8000000 in
set_option maxRecDepth 100000 in
theorem implIsStore (sv : Value) (ss : List (List VerD)) (now : Int) (w : World) (h : SlR tVersionS w sv ss) (hs : zL tVersionS ss ≤ 1048576) :
    Calls Try.prog 42 #[.agg #[sv, .int .i64 now]] w (fun e w' => e = .returned (.bool (storeB ss now)) ∧ Below w.heap.size w w') := by
  obtain ⟨us, hls, hsr⟩ := slR_ls h
  have HUL := Lib.hid hsr.1
  obtain ⟨a, cap, rfl⟩ := slR_len h
  have hlen := zL_len hs
  have HSS := Lib.hid hs
  have H := Lib.hid h
  have HLS := Lib.hid hls
  have HSR := Lib.hid hsr
  have d0 := Lib.hid (show Below w.heap.size w (w.alloc (.cells #[.slice a ss.length cap, .int .i64 now] 30)) from (Below.refl _ _).alloc (Nat.le_refl _) _)
  have B0 : Hid ((w.alloc (.cells #[.slice a ss.length cap, .int .i64 now] 30)).heap[w.heap.size]? = some (.cells #[.slice a ss.length cap, .int .i64 now] 30 (0, 0))) := Lib.hid (heap_alloc_new w _)
  have Y0 : Hid (w.heap.size < (w.alloc (.cells #[.slice a ss.length cap, .int .i64 now] 30)).heap.size) := Lib.hid (by simp [World.size_alloc])
  clear hls hsr h hs
  rw [store_poss]
  have HC1 := Lib.hid (isSegmentCount_any (ss.length : Int))
  have HC2 := Lib.hid (isTime_any now)
  have HPS : Hid (∀ (B g : Nat) (bs : List Nat) (W : World), TabN B W g bs us → SegsR W us ss → Calls Try.prog 94 #[.slice (some ⟨g, 0, none⟩) us.length us.length, .int .i64 now] W (fun e w' => e = .returned (.bool (possB ss now)) ∧ Below W.heap.size W w')) := Lib.hid (fun B g bs W h1 h2 => isPossible_any B g bs us ss now W h1 h2 HSS.out)
  have HTB := Lib.hid (fun W h => tableOf_any (.slice a ss.length cap) us W h (by have := HUL.out; omega))
  generalize possB ss now = pb at *
  have B1 := B0
  have d := d0
  cases hc1 : decide (1 ≤ (ss.length : Int) ∧ (ss.length : Int) ≤ 8) with
  | false =>
    rw [hc1] at HC1
    rw [Bool.false_and, Bool.false_and]
    clear hc1
    go_enter Try.func42, Try.ntmps42
    go_wp2
    generalize w.alloc (.cells #[.slice a ss.length cap, .int .i64 now] 30) = W at *
    have p_B0_0 := (cell_of_row W _ 0 _ _ _ B0.out).trans (show _ = some (Value.slice a ss.length cap) from rfl)
    have p_B0_1 := (cell_of_row W _ 1 _ _ _ B0.out).trans (show _ = some (Value.int .i64 now) from rfl)
    refine wp_region_held_drew (S := fun w' => w'.cell? ⟨w.heap.size, 0, none⟩ = some (Value.slice a ss.length cap) ∧ w'.cell? ⟨w.heap.size, 1, none⟩ = some (Value.int .i64 now)) (by kernel_rfl) ⟨p_B0_0, p_B0_1⟩ (fun hHeld => ?_)
    clear p_B0_0 p_B0_1
    have cdr : Below W.heap.size W W.drew := below_drew (Below.refl _ _)
    replace B0 := Lib.hid ((cdr.block w.heap.size (Array.getElem?_eq_some_iff.1 B0.out).1).trans B0.out)
    replace d := Lib.hid (d.out.trans (cdr.mono d.out.size))
    clear cdr
    refine take_runs (i := 0) (v := ?_) (by simp only [List.getElem?_toArray, List.getElem?_cons_succ, List.getElem?_cons_zero]; rfl) (by kernel_rfl) (by kernel_rfl) (by kernel_rfl) rfl (by exact fun _ _ _ h => h) (by rfl) ?_ (by assumption) ?_
    rotate_left
    · intro w hSw; (try dsimp only at hSw); go_simp; try (with_reducible rfl)
    try simp only [Act.put, List.setIfInBounds_toArray, List.set_cons_zero, List.set_cons_succ]
    refine take_runs (i := 1) (v := ?_) (by simp only [List.getElem?_toArray, List.getElem?_cons_succ, List.getElem?_cons_zero]; rfl) (by kernel_rfl) (by kernel_rfl) (by kernel_rfl) rfl (by exact fun _ _ _ h => h) (by rfl) ?_ (by assumption) ?_
    rotate_left
    · intro w hSw; (try dsimp only at hSw); go_simp; try (with_reducible rfl)
    try simp only [Act.put, List.setIfInBounds_toArray, List.set_cons_zero, List.set_cons_succ]
    refine take_runs (i := 2) (v := ?_) (by simp only [List.getElem?_toArray, List.getElem?_cons_succ, List.getElem?_cons_zero]; rfl) (by kernel_rfl) (by kernel_rfl) (by kernel_rfl) rfl (by exact fun _ _ _ h => h) (by rfl) ?_ (by assumption) ?_
    rotate_left
    · intro w hSw; (try dsimp only at hSw); go_simp; try (with_reducible rfl)
    try simp only [Act.put, List.setIfInBounds_toArray, List.set_cons_zero, List.set_cons_succ]
    refine wpAnyH_ready (rs := [3]) (by kernel_rfl) (by simp) ?_
    refine (AllReadyH.cons (o := _) (by simp only [List.getElem?_toArray, List.getElem?_cons_succ, List.getElem?_cons_zero]; rfl) (fun K hK => ?_) AllReadyH.nil)
    go_simp
    refine (HC1.out (W.drew)).mono ?_
    rintro e wx ⟨rfl, rfl⟩
    have p_B0_0 := (cell_of_row (W.drew) _ 0 _ _ _ B0.out).trans (show _ = some (Value.slice a ss.length cap) from rfl)
    have p_B0_1 := (cell_of_row (W.drew) _ 1 _ _ _ B0.out).trans (show _ = some (Value.int .i64 now) from rfl)
    refine hK.out _ _ ⟨p_B0_0, p_B0_1⟩ (fun hHeld => ?_)
    clear p_B0_0 p_B0_1
    clear hK K
    try simp only [Act.put, List.setIfInBounds_toArray, List.set_cons_zero, List.set_cons_succ]
    refine take_runs (i := 4) (v := ?_) (by simp only [List.getElem?_toArray, List.getElem?_cons_succ, List.getElem?_cons_zero]; rfl) (by kernel_rfl) (by kernel_rfl) (by kernel_rfl) rfl (by exact fun _ _ _ h => h) (by rfl) ?_ (by assumption) ?_
    rotate_left
    · intro w hSw; (try dsimp only at hSw); go_simp; try (with_reducible rfl)
    try simp only [Act.put, List.setIfInBounds_toArray, List.set_cons_zero, List.set_cons_succ]
    refine take_over (i := 5) (by simp only [List.getElem?_toArray, List.getElem?_cons_succ, List.getElem?_cons_zero]; rfl) (by kernel_rfl) (by kernel_rfl) (by kernel_rfl) rfl (by exact fun _ _ _ h => h) (by rfl) (by assumption) ?_
    try simp only [Act.put, List.setIfInBounds_toArray, List.set_cons_zero, List.set_cons_succ]
    refine take_over (i := 6) (by simp only [List.getElem?_toArray, List.getElem?_cons_succ, List.getElem?_cons_zero]; rfl) (by kernel_rfl) (by kernel_rfl) (by kernel_rfl) rfl (by exact fun _ _ _ h => h) (by rfl) (by assumption) ?_
    try simp only [Act.put, List.setIfInBounds_toArray, List.set_cons_zero, List.set_cons_succ]
    refine take_over (i := 7) (by simp only [List.getElem?_toArray, List.getElem?_cons_succ, List.getElem?_cons_zero]; rfl) (by kernel_rfl) (by kernel_rfl) (by kernel_rfl) rfl (by exact fun _ _ _ h => h) (by rfl) (by assumption) ?_
    try simp only [Act.put, List.setIfInBounds_toArray, List.set_cons_zero, List.set_cons_succ]
    refine take_runs (i := 8) (v := ?_) (by simp only [List.getElem?_toArray, List.getElem?_cons_succ, List.getElem?_cons_zero]; rfl) (by kernel_rfl) (by kernel_rfl) (by kernel_rfl) rfl (by exact fun _ _ _ h => h) (by rfl) ?_ (by assumption) ?_
    rotate_left
    · intro w hSw; (try dsimp only at hSw); go_simp; try (with_reducible rfl)
    try simp only [Act.put, List.setIfInBounds_toArray, List.set_cons_zero, List.set_cons_succ]
    refine take_runs (i := 9) (v := ?_) (by simp only [List.getElem?_toArray, List.getElem?_cons_succ, List.getElem?_cons_zero]; rfl) (by kernel_rfl) (by kernel_rfl) (by kernel_rfl) rfl (by exact fun _ _ _ h => h) (by rfl) ?_ (by assumption) ?_
    rotate_left
    · intro w hSw; (try dsimp only at hSw); go_simp; try (with_reducible rfl)
    try simp only [Act.put, List.setIfInBounds_toArray, List.set_cons_zero, List.set_cons_succ]
    refine take_over (i := 10) (by simp only [List.getElem?_toArray, List.getElem?_cons_succ, List.getElem?_cons_zero]; rfl) (by kernel_rfl) (by kernel_rfl) (by kernel_rfl) rfl (by exact fun _ _ _ h => h) (by rfl) (by assumption) ?_
    try simp only [Act.put, List.setIfInBounds_toArray, List.set_cons_zero, List.set_cons_succ]
    refine take_over (i := 11) (by simp only [List.getElem?_toArray, List.getElem?_cons_succ, List.getElem?_cons_zero]; rfl) (by kernel_rfl) (by kernel_rfl) (by kernel_rfl) rfl (by exact fun _ _ _ h => h) (by rfl) (by assumption) ?_
    try simp only [Act.put, List.setIfInBounds_toArray, List.set_cons_zero, List.set_cons_succ]
    refine take_over (i := 12) (by simp only [List.getElem?_toArray, List.getElem?_cons_succ, List.getElem?_cons_zero]; rfl) (by kernel_rfl) (by kernel_rfl) (by kernel_rfl) rfl (by exact fun _ _ _ h => h) (by rfl) (by assumption) ?_
    try simp only [Act.put, List.setIfInBounds_toArray, List.set_cons_zero, List.set_cons_succ]
    refine take_over (i := 13) (by simp only [List.getElem?_toArray, List.getElem?_cons_succ, List.getElem?_cons_zero]; rfl) (by kernel_rfl) (by kernel_rfl) (by kernel_rfl) rfl (by exact fun _ _ _ h => h) (by rfl) (by assumption) ?_
    try simp only [Act.put, List.setIfInBounds_toArray, List.set_cons_zero, List.set_cons_succ]
    refine take_over (i := 14) (by simp only [List.getElem?_toArray, List.getElem?_cons_succ, List.getElem?_cons_zero]; rfl) (by kernel_rfl) (by kernel_rfl) (by kernel_rfl) rfl (by exact fun _ _ _ h => h) (by rfl) (by assumption) ?_
    try simp only [Act.put, List.setIfInBounds_toArray, List.set_cons_zero, List.set_cons_succ]
    refine take_over (i := 15) (by simp only [List.getElem?_toArray, List.getElem?_cons_succ, List.getElem?_cons_zero]; rfl) (by kernel_rfl) (by kernel_rfl) (by kernel_rfl) rfl (by exact fun _ _ _ h => h) (by rfl) (by assumption) ?_
    try simp only [Act.put, List.setIfInBounds_toArray, List.set_cons_zero, List.set_cons_succ]
    refine take_runs (i := 16) (v := ?_) (by simp only [List.getElem?_toArray, List.getElem?_cons_succ, List.getElem?_cons_zero]; rfl) (by kernel_rfl) (by kernel_rfl) (by kernel_rfl) rfl (by exact fun _ _ _ h => h) (by rfl) ?_ (by assumption) ?_
    rotate_left
    · intro w hSw; (try dsimp only at hSw); go_simp; try (with_reducible rfl)
    try simp only [Act.put, List.setIfInBounds_toArray, List.set_cons_zero, List.set_cons_succ]
    refine take_runs (i := 17) (v := ?_) (by simp only [List.getElem?_toArray, List.getElem?_cons_succ, List.getElem?_cons_zero]; rfl) (by kernel_rfl) (by kernel_rfl) (by kernel_rfl) rfl (by exact fun _ _ _ h => h) (by rfl) ?_ (by assumption) ?_
    rotate_left
    · intro w hSw; (try dsimp only at hSw); go_simp; try (with_reducible rfl)
    try simp only [Act.put, List.setIfInBounds_toArray, List.set_cons_zero, List.set_cons_succ]
    refine wpAnyH_done (by kernel_rfl) ?_ _
    clear hHeld
    go_wp2
    go_ret
    exact ⟨rfl, d.out⟩
  | true =>
    rw [hc1] at HC1
    rw [Bool.true_and]
    clear hc1
    cases hc2 : decide (0 ≤ now ∧ now ≤ 100000) with
    | false =>
      rw [hc2] at HC2
      rw [Bool.false_and]
      clear hc2
      go_enter Try.func42, Try.ntmps42
      go_wp2
      generalize w.alloc (.cells #[.slice a ss.length cap, .int .i64 now] 30) = W at *
      have p_B0_0 := (cell_of_row W _ 0 _ _ _ B0.out).trans (show _ = some (Value.slice a ss.length cap) from rfl)
      have p_B0_1 := (cell_of_row W _ 1 _ _ _ B0.out).trans (show _ = some (Value.int .i64 now) from rfl)
      refine wp_region_held_drew (S := fun w' => w'.cell? ⟨w.heap.size, 0, none⟩ = some (Value.slice a ss.length cap) ∧ w'.cell? ⟨w.heap.size, 1, none⟩ = some (Value.int .i64 now)) (by kernel_rfl) ⟨p_B0_0, p_B0_1⟩ (fun hHeld => ?_)
      clear p_B0_0 p_B0_1
      have cdr : Below W.heap.size W W.drew := below_drew (Below.refl _ _)
      replace B0 := Lib.hid ((cdr.block w.heap.size (Array.getElem?_eq_some_iff.1 B0.out).1).trans B0.out)
      replace d := Lib.hid (d.out.trans (cdr.mono d.out.size))
      clear cdr
      refine take_runs (i := 0) (v := ?_) (by simp only [List.getElem?_toArray, List.getElem?_cons_succ, List.getElem?_cons_zero]; rfl) (by kernel_rfl) (by kernel_rfl) (by kernel_rfl) rfl (by exact fun _ _ _ h => h) (by rfl) ?_ (by assumption) ?_
      rotate_left
      · intro w hSw; (try dsimp only at hSw); go_simp; try (with_reducible rfl)
      try simp only [Act.put, List.setIfInBounds_toArray, List.set_cons_zero, List.set_cons_succ]
      refine take_runs (i := 1) (v := ?_) (by simp only [List.getElem?_toArray, List.getElem?_cons_succ, List.getElem?_cons_zero]; rfl) (by kernel_rfl) (by kernel_rfl) (by kernel_rfl) rfl (by exact fun _ _ _ h => h) (by rfl) ?_ (by assumption) ?_
      rotate_left
      · intro w hSw; (try dsimp only at hSw); go_simp; try (with_reducible rfl)
      try simp only [Act.put, List.setIfInBounds_toArray, List.set_cons_zero, List.set_cons_succ]
      refine take_runs (i := 2) (v := ?_) (by simp only [List.getElem?_toArray, List.getElem?_cons_succ, List.getElem?_cons_zero]; rfl) (by kernel_rfl) (by kernel_rfl) (by kernel_rfl) rfl (by exact fun _ _ _ h => h) (by rfl) ?_ (by assumption) ?_
      rotate_left
      · intro w hSw; (try dsimp only at hSw); go_simp; try (with_reducible rfl)
      try simp only [Act.put, List.setIfInBounds_toArray, List.set_cons_zero, List.set_cons_succ]
      refine wpAnyH_ready (rs := [3]) (by kernel_rfl) (by simp) ?_
      refine (AllReadyH.cons (o := _) (by simp only [List.getElem?_toArray, List.getElem?_cons_succ, List.getElem?_cons_zero]; rfl) (fun K hK => ?_) AllReadyH.nil)
      go_simp
      refine (HC1.out (W.drew)).mono ?_
      rintro e wx ⟨rfl, rfl⟩
      have p_B0_0 := (cell_of_row (W.drew) _ 0 _ _ _ B0.out).trans (show _ = some (Value.slice a ss.length cap) from rfl)
      have p_B0_1 := (cell_of_row (W.drew) _ 1 _ _ _ B0.out).trans (show _ = some (Value.int .i64 now) from rfl)
      refine hK.out _ _ ⟨p_B0_0, p_B0_1⟩ (fun hHeld => ?_)
      clear p_B0_0 p_B0_1
      clear hK K
      try simp only [Act.put, List.setIfInBounds_toArray, List.set_cons_zero, List.set_cons_succ]
      refine take_runs (i := 4) (v := ?_) (by simp only [List.getElem?_toArray, List.getElem?_cons_succ, List.getElem?_cons_zero]; rfl) (by kernel_rfl) (by kernel_rfl) (by kernel_rfl) rfl (by exact fun _ _ _ h => h) (by rfl) ?_ (by assumption) ?_
      rotate_left
      · intro w hSw; (try dsimp only at hSw); go_simp; try (with_reducible rfl)
      try simp only [Act.put, List.setIfInBounds_toArray, List.set_cons_zero, List.set_cons_succ]
      refine take_runs (i := 5) (v := ?_) (by simp only [List.getElem?_toArray, List.getElem?_cons_succ, List.getElem?_cons_zero]; rfl) (by kernel_rfl) (by kernel_rfl) (by kernel_rfl) rfl (by exact fun _ _ _ h => h) (by rfl) ?_ (by assumption) ?_
      rotate_left
      · intro w hSw; (try dsimp only at hSw); go_simp; try (with_reducible rfl)
      try simp only [Act.put, List.setIfInBounds_toArray, List.set_cons_zero, List.set_cons_succ]
      refine take_runs (i := 6) (v := ?_) (by simp only [List.getElem?_toArray, List.getElem?_cons_succ, List.getElem?_cons_zero]; rfl) (by kernel_rfl) (by kernel_rfl) (by kernel_rfl) rfl (by exact fun _ _ _ h => h) (by rfl) ?_ (by assumption) ?_
      rotate_left
      · intro w hSw; (try dsimp only at hSw); go_simp; try (with_reducible rfl)
      try simp only [Act.put, List.setIfInBounds_toArray, List.set_cons_zero, List.set_cons_succ]
      refine wpAnyH_ready (rs := [7]) (by kernel_rfl) (by simp) ?_
      refine (AllReadyH.cons (o := _) (by simp only [List.getElem?_toArray, List.getElem?_cons_succ, List.getElem?_cons_zero]; rfl) (fun K hK => ?_) AllReadyH.nil)
      go_simp
      refine (HC2.out (W.drew)).mono ?_
      rintro e wx ⟨rfl, rfl⟩
      have p_B0_0 := (cell_of_row (W.drew) _ 0 _ _ _ B0.out).trans (show _ = some (Value.slice a ss.length cap) from rfl)
      have p_B0_1 := (cell_of_row (W.drew) _ 1 _ _ _ B0.out).trans (show _ = some (Value.int .i64 now) from rfl)
      refine hK.out _ _ ⟨p_B0_0, p_B0_1⟩ (fun hHeld => ?_)
      clear p_B0_0 p_B0_1
      clear hK K
      try simp only [Act.put, List.setIfInBounds_toArray, List.set_cons_zero, List.set_cons_succ]
      refine take_runs (i := 8) (v := ?_) (by simp only [List.getElem?_toArray, List.getElem?_cons_succ, List.getElem?_cons_zero]; rfl) (by kernel_rfl) (by kernel_rfl) (by kernel_rfl) rfl (by exact fun _ _ _ h => h) (by rfl) ?_ (by assumption) ?_
      rotate_left
      · intro w hSw; (try dsimp only at hSw); go_simp; try (with_reducible rfl)
      try simp only [Act.put, List.setIfInBounds_toArray, List.set_cons_zero, List.set_cons_succ]
      refine take_runs (i := 9) (v := ?_) (by simp only [List.getElem?_toArray, List.getElem?_cons_succ, List.getElem?_cons_zero]; rfl) (by kernel_rfl) (by kernel_rfl) (by kernel_rfl) rfl (by exact fun _ _ _ h => h) (by rfl) ?_ (by assumption) ?_
      rotate_left
      · intro w hSw; (try dsimp only at hSw); go_simp; try (with_reducible rfl)
      try simp only [Act.put, List.setIfInBounds_toArray, List.set_cons_zero, List.set_cons_succ]
      refine take_over (i := 10) (by simp only [List.getElem?_toArray, List.getElem?_cons_succ, List.getElem?_cons_zero]; rfl) (by kernel_rfl) (by kernel_rfl) (by kernel_rfl) rfl (by exact fun _ _ _ h => h) (by rfl) (by assumption) ?_
      try simp only [Act.put, List.setIfInBounds_toArray, List.set_cons_zero, List.set_cons_succ]
      refine take_over (i := 11) (by simp only [List.getElem?_toArray, List.getElem?_cons_succ, List.getElem?_cons_zero]; rfl) (by kernel_rfl) (by kernel_rfl) (by kernel_rfl) rfl (by exact fun _ _ _ h => h) (by rfl) (by assumption) ?_
      try simp only [Act.put, List.setIfInBounds_toArray, List.set_cons_zero, List.set_cons_succ]
      refine take_over (i := 12) (by simp only [List.getElem?_toArray, List.getElem?_cons_succ, List.getElem?_cons_zero]; rfl) (by kernel_rfl) (by kernel_rfl) (by kernel_rfl) rfl (by exact fun _ _ _ h => h) (by rfl) (by assumption) ?_
      try simp only [Act.put, List.setIfInBounds_toArray, List.set_cons_zero, List.set_cons_succ]
      refine take_over (i := 13) (by simp only [List.getElem?_toArray, List.getElem?_cons_succ, List.getElem?_cons_zero]; rfl) (by kernel_rfl) (by kernel_rfl) (by kernel_rfl) rfl (by exact fun _ _ _ h => h) (by rfl) (by assumption) ?_
      try simp only [Act.put, List.setIfInBounds_toArray, List.set_cons_zero, List.set_cons_succ]
      refine take_over (i := 14) (by simp only [List.getElem?_toArray, List.getElem?_cons_succ, List.getElem?_cons_zero]; rfl) (by kernel_rfl) (by kernel_rfl) (by kernel_rfl) rfl (by exact fun _ _ _ h => h) (by rfl) (by assumption) ?_
      try simp only [Act.put, List.setIfInBounds_toArray, List.set_cons_zero, List.set_cons_succ]
      refine take_over (i := 15) (by simp only [List.getElem?_toArray, List.getElem?_cons_succ, List.getElem?_cons_zero]; rfl) (by kernel_rfl) (by kernel_rfl) (by kernel_rfl) rfl (by exact fun _ _ _ h => h) (by rfl) (by assumption) ?_
      try simp only [Act.put, List.setIfInBounds_toArray, List.set_cons_zero, List.set_cons_succ]
      refine take_runs (i := 16) (v := ?_) (by simp only [List.getElem?_toArray, List.getElem?_cons_succ, List.getElem?_cons_zero]; rfl) (by kernel_rfl) (by kernel_rfl) (by kernel_rfl) rfl (by exact fun _ _ _ h => h) (by rfl) ?_ (by assumption) ?_
      rotate_left
      · intro w hSw; (try dsimp only at hSw); go_simp; try (with_reducible rfl)
      try simp only [Act.put, List.setIfInBounds_toArray, List.set_cons_zero, List.set_cons_succ]
      refine take_runs (i := 17) (v := ?_) (by simp only [List.getElem?_toArray, List.getElem?_cons_succ, List.getElem?_cons_zero]; rfl) (by kernel_rfl) (by kernel_rfl) (by kernel_rfl) rfl (by exact fun _ _ _ h => h) (by rfl) ?_ (by assumption) ?_
      rotate_left
      · intro w hSw; (try dsimp only at hSw); go_simp; try (with_reducible rfl)
      try simp only [Act.put, List.setIfInBounds_toArray, List.set_cons_zero, List.set_cons_succ]
      refine wpAnyH_done (by kernel_rfl) ?_ _
      clear hHeld
      go_wp2
      go_ret
      exact ⟨rfl, d.out⟩
    | true =>
      rw [hc2] at HC2
      rw [Bool.true_and]
      clear hc2
      go_enter Try.func42, Try.ntmps42
      go_wp2
      generalize w.alloc (.cells #[.slice a ss.length cap, .int .i64 now] 30) = W at *
      have p_B0_0 := (cell_of_row W _ 0 _ _ _ B0.out).trans (show _ = some (Value.slice a ss.length cap) from rfl)
      have p_B0_1 := (cell_of_row W _ 1 _ _ _ B0.out).trans (show _ = some (Value.int .i64 now) from rfl)
      refine wp_region_held_drew (S := fun w' => w'.cell? ⟨w.heap.size, 0, none⟩ = some (Value.slice a ss.length cap) ∧ w'.cell? ⟨w.heap.size, 1, none⟩ = some (Value.int .i64 now)) (by kernel_rfl) ⟨p_B0_0, p_B0_1⟩ (fun hHeld => ?_)
      clear p_B0_0 p_B0_1
      have cdr : Below W.heap.size W W.drew := below_drew (Below.refl _ _)
      replace B0 := Lib.hid ((cdr.block w.heap.size (Array.getElem?_eq_some_iff.1 B0.out).1).trans B0.out)
      replace d := Lib.hid (d.out.trans (cdr.mono d.out.size))
      clear cdr
      refine take_runs (i := 0) (v := ?_) (by simp only [List.getElem?_toArray, List.getElem?_cons_succ, List.getElem?_cons_zero]; rfl) (by kernel_rfl) (by kernel_rfl) (by kernel_rfl) rfl (by exact fun _ _ _ h => h) (by rfl) ?_ (by assumption) ?_
      rotate_left
      · intro w hSw; (try dsimp only at hSw); go_simp; try (with_reducible rfl)
      try simp only [Act.put, List.setIfInBounds_toArray, List.set_cons_zero, List.set_cons_succ]
      refine take_runs (i := 1) (v := ?_) (by simp only [List.getElem?_toArray, List.getElem?_cons_succ, List.getElem?_cons_zero]; rfl) (by kernel_rfl) (by kernel_rfl) (by kernel_rfl) rfl (by exact fun _ _ _ h => h) (by rfl) ?_ (by assumption) ?_
      rotate_left
      · intro w hSw; (try dsimp only at hSw); go_simp; try (with_reducible rfl)
      try simp only [Act.put, List.setIfInBounds_toArray, List.set_cons_zero, List.set_cons_succ]
      refine take_runs (i := 2) (v := ?_) (by simp only [List.getElem?_toArray, List.getElem?_cons_succ, List.getElem?_cons_zero]; rfl) (by kernel_rfl) (by kernel_rfl) (by kernel_rfl) rfl (by exact fun _ _ _ h => h) (by rfl) ?_ (by assumption) ?_
      rotate_left
      · intro w hSw; (try dsimp only at hSw); go_simp; try (with_reducible rfl)
      try simp only [Act.put, List.setIfInBounds_toArray, List.set_cons_zero, List.set_cons_succ]
      refine wpAnyH_ready (rs := [3]) (by kernel_rfl) (by simp) ?_
      refine (AllReadyH.cons (o := _) (by simp only [List.getElem?_toArray, List.getElem?_cons_succ, List.getElem?_cons_zero]; rfl) (fun K hK => ?_) AllReadyH.nil)
      go_simp
      refine (HC1.out (W.drew)).mono ?_
      rintro e wx ⟨rfl, rfl⟩
      have p_B0_0 := (cell_of_row (W.drew) _ 0 _ _ _ B0.out).trans (show _ = some (Value.slice a ss.length cap) from rfl)
      have p_B0_1 := (cell_of_row (W.drew) _ 1 _ _ _ B0.out).trans (show _ = some (Value.int .i64 now) from rfl)
      refine hK.out _ _ ⟨p_B0_0, p_B0_1⟩ (fun hHeld => ?_)
      clear p_B0_0 p_B0_1
      clear hK K
      try simp only [Act.put, List.setIfInBounds_toArray, List.set_cons_zero, List.set_cons_succ]
      refine take_runs (i := 4) (v := ?_) (by simp only [List.getElem?_toArray, List.getElem?_cons_succ, List.getElem?_cons_zero]; rfl) (by kernel_rfl) (by kernel_rfl) (by kernel_rfl) rfl (by exact fun _ _ _ h => h) (by rfl) ?_ (by assumption) ?_
      rotate_left
      · intro w hSw; (try dsimp only at hSw); go_simp; try (with_reducible rfl)
      try simp only [Act.put, List.setIfInBounds_toArray, List.set_cons_zero, List.set_cons_succ]
      refine take_runs (i := 5) (v := ?_) (by simp only [List.getElem?_toArray, List.getElem?_cons_succ, List.getElem?_cons_zero]; rfl) (by kernel_rfl) (by kernel_rfl) (by kernel_rfl) rfl (by exact fun _ _ _ h => h) (by rfl) ?_ (by assumption) ?_
      rotate_left
      · intro w hSw; (try dsimp only at hSw); go_simp; try (with_reducible rfl)
      try simp only [Act.put, List.setIfInBounds_toArray, List.set_cons_zero, List.set_cons_succ]
      refine take_runs (i := 6) (v := ?_) (by simp only [List.getElem?_toArray, List.getElem?_cons_succ, List.getElem?_cons_zero]; rfl) (by kernel_rfl) (by kernel_rfl) (by kernel_rfl) rfl (by exact fun _ _ _ h => h) (by rfl) ?_ (by assumption) ?_
      rotate_left
      · intro w hSw; (try dsimp only at hSw); go_simp; try (with_reducible rfl)
      try simp only [Act.put, List.setIfInBounds_toArray, List.set_cons_zero, List.set_cons_succ]
      refine wpAnyH_ready (rs := [7]) (by kernel_rfl) (by simp) ?_
      refine (AllReadyH.cons (o := _) (by simp only [List.getElem?_toArray, List.getElem?_cons_succ, List.getElem?_cons_zero]; rfl) (fun K hK => ?_) AllReadyH.nil)
      go_simp
      refine (HC2.out (W.drew)).mono ?_
      rintro e wx ⟨rfl, rfl⟩
      have p_B0_0 := (cell_of_row (W.drew) _ 0 _ _ _ B0.out).trans (show _ = some (Value.slice a ss.length cap) from rfl)
      have p_B0_1 := (cell_of_row (W.drew) _ 1 _ _ _ B0.out).trans (show _ = some (Value.int .i64 now) from rfl)
      refine hK.out _ _ ⟨p_B0_0, p_B0_1⟩ (fun hHeld => ?_)
      clear p_B0_0 p_B0_1
      clear hK K
      try simp only [Act.put, List.setIfInBounds_toArray, List.set_cons_zero, List.set_cons_succ]
      refine take_runs (i := 8) (v := ?_) (by simp only [List.getElem?_toArray, List.getElem?_cons_succ, List.getElem?_cons_zero]; rfl) (by kernel_rfl) (by kernel_rfl) (by kernel_rfl) rfl (by exact fun _ _ _ h => h) (by rfl) ?_ (by assumption) ?_
      rotate_left
      · intro w hSw; (try dsimp only at hSw); go_simp; try (with_reducible rfl)
      try simp only [Act.put, List.setIfInBounds_toArray, List.set_cons_zero, List.set_cons_succ]
      refine take_runs (i := 9) (v := ?_) (by simp only [List.getElem?_toArray, List.getElem?_cons_succ, List.getElem?_cons_zero]; rfl) (by kernel_rfl) (by kernel_rfl) (by kernel_rfl) rfl (by exact fun _ _ _ h => h) (by rfl) ?_ (by assumption) ?_
      rotate_left
      · intro w hSw; (try dsimp only at hSw); go_simp; try (with_reducible rfl)
      try simp only [Act.put, List.setIfInBounds_toArray, List.set_cons_zero, List.set_cons_succ]
      refine take_runs (i := 10) (v := ?_) (by simp only [List.getElem?_toArray, List.getElem?_cons_succ, List.getElem?_cons_zero]; rfl) (by kernel_rfl) (by kernel_rfl) (by kernel_rfl) rfl (by exact fun _ _ _ h => h) (by rfl) ?_ (by assumption) ?_
      rotate_left
      · intro w hSw; (try dsimp only at hSw); go_simp; try (with_reducible rfl)
      try simp only [Act.put, List.setIfInBounds_toArray, List.set_cons_zero, List.set_cons_succ]
      refine take_runs (i := 11) (v := ?_) (by simp only [List.getElem?_toArray, List.getElem?_cons_succ, List.getElem?_cons_zero]; rfl) (by kernel_rfl) (by kernel_rfl) (by kernel_rfl) rfl (by exact fun _ _ _ h => h) (by rfl) ?_ (by assumption) ?_
      rotate_left
      · intro w hSw; (try dsimp only at hSw); go_simp; try (with_reducible rfl)
      try simp only [Act.put, List.setIfInBounds_toArray, List.set_cons_zero, List.set_cons_succ]
      refine take_runs (i := 13) (v := ?_) (by simp only [List.getElem?_toArray, List.getElem?_cons_succ, List.getElem?_cons_zero]; rfl) (by kernel_rfl) (by kernel_rfl) (by kernel_rfl) rfl (by exact fun _ _ _ h => h) (by rfl) ?_ (by assumption) ?_
      rotate_left
      · intro w hSw; (try dsimp only at hSw); go_simp; try (with_reducible rfl)
      try simp only [Act.put, List.setIfInBounds_toArray, List.set_cons_zero, List.set_cons_succ]
      refine take_runs (i := 14) (v := ?_) (by simp only [List.getElem?_toArray, List.getElem?_cons_succ, List.getElem?_cons_zero]; rfl) (by kernel_rfl) (by kernel_rfl) (by kernel_rfl) rfl (by exact fun _ _ _ h => h) (by rfl) ?_ (by assumption) ?_
      rotate_left
      · intro w hSw; (try dsimp only at hSw); go_simp; try (with_reducible rfl)
      try simp only [Act.put, List.setIfInBounds_toArray, List.set_cons_zero, List.set_cons_succ]
      refine wpAnyH_ready (rs := [12]) (by kernel_rfl) (by simp) ?_
      refine (AllReadyH.cons (o := _) (by simp only [List.getElem?_toArray, List.getElem?_cons_succ, List.getElem?_cons_zero]; rfl) (fun K hK => ?_) AllReadyH.nil)
      go_simp
      refine (HTB.out (W.drew) (lsR_below HLS.out d.out)).mono ?_
      rintro e w5 ⟨g, bs, rfl, ht, c5⟩
      have HT5 := Lib.hid ht
      replace B0 := Lib.hid ((c5.block w.heap.size (Array.getElem?_eq_some_iff.1 B0.out).1).trans B0.out)
      replace d := Lib.hid (d.out.trans (c5.mono d.out.size))
      have Z_w5 := Lib.hid (show W.heap.size ≤ w5.heap.size from c5.size)
      clear c5 ht
      have p_B0_0 := (cell_of_row w5 _ 0 _ _ _ B0.out).trans (show _ = some (Value.slice a ss.length cap) from rfl)
      have p_B0_1 := (cell_of_row w5 _ 1 _ _ _ B0.out).trans (show _ = some (Value.int .i64 now) from rfl)
      refine hK.out _ _ ⟨p_B0_0, p_B0_1⟩ (fun hHeld => ?_)
      clear p_B0_0 p_B0_1
      clear hK K
      try simp only [Act.put, List.setIfInBounds_toArray, List.set_cons_zero, List.set_cons_succ]
      refine wpAnyH_ready (rs := [15]) (by kernel_rfl) (by simp) ?_
      refine (AllReadyH.cons (o := _) (by simp only [List.getElem?_toArray, List.getElem?_cons_succ, List.getElem?_cons_zero]; rfl) (fun K hK => ?_) AllReadyH.nil)
      go_simp
      refine (HPS.out _ g bs w5 HT5.out (segsR_below HSR.out d.out)).mono ?_
      rintro e w6 ⟨rfl, c6⟩
      replace B0 := Lib.hid ((c6.block w.heap.size (Array.getElem?_eq_some_iff.1 B0.out).1).trans B0.out)
      replace d := Lib.hid (d.out.trans (c6.mono d.out.size))
      have Z_w6 := Lib.hid (show w5.heap.size ≤ w6.heap.size from c6.size)
      clear c6
      have p_B0_0 := (cell_of_row w6 _ 0 _ _ _ B0.out).trans (show _ = some (Value.slice a ss.length cap) from rfl)
      have p_B0_1 := (cell_of_row w6 _ 1 _ _ _ B0.out).trans (show _ = some (Value.int .i64 now) from rfl)
      refine hK.out _ _ ⟨p_B0_0, p_B0_1⟩ (fun hHeld => ?_)
      clear p_B0_0 p_B0_1
      clear hK K
      try simp only [Act.put, List.setIfInBounds_toArray, List.set_cons_zero, List.set_cons_succ]
      refine take_runs (i := 16) (v := ?_) (by simp only [List.getElem?_toArray, List.getElem?_cons_succ, List.getElem?_cons_zero]; rfl) (by kernel_rfl) (by kernel_rfl) (by kernel_rfl) rfl (by exact fun _ _ _ h => h) (by rfl) ?_ (by assumption) ?_
      rotate_left
      · intro w hSw; (try dsimp only at hSw); go_simp; try (with_reducible rfl)
      try simp only [Act.put, List.setIfInBounds_toArray, List.set_cons_zero, List.set_cons_succ]
      refine take_runs (i := 17) (v := ?_) (by simp only [List.getElem?_toArray, List.getElem?_cons_succ, List.getElem?_cons_zero]; rfl) (by kernel_rfl) (by kernel_rfl) (by kernel_rfl) rfl (by exact fun _ _ _ h => h) (by rfl) ?_ (by assumption) ?_
      rotate_left
      · intro w hSw; (try dsimp only at hSw); go_simp; try (with_reducible rfl)
      try simp only [Act.put, List.setIfInBounds_toArray, List.set_cons_zero, List.set_cons_succ]
      refine wpAnyH_done (by kernel_rfl) ?_ _
      clear hHeld
      go_wp2
      go_ret
      exact ⟨rfl, d.out⟩
end Go.Proofs.Ytdhglmoanpkeoaa
namespace Go.Proofs.Ytdhglmoanpkeoaa
open Go.RowKit
set_option linter.unusedVariables false
set_option linter.unusedSimpArgs false
set_option maxHeartbeats 2000000 in
set_option maxRecDepth 100000 in
theorem copyLVersionint (v : Value) (xs : List Int) (w : World) (h : SlR tInt w v xs) (hn : xs.length ≤ 1048576) :
    Calls Try.prog 120 #[v] w (FreshS 3 tInt w xs) := by
  have H := Lib.hid h
  have HN := Lib.hid hn
  obtain ⟨a, cap, rfl⟩ := slR_len h
  clear h hn
  go_enter Try.func120, Try.ntmps120
  go_wp2_with (at_builtin; refine append_flat tInt_law flat_int info_T_int Try.underlying37 rfl rfl _ (.tmp 3) rfl (fun _ => False) (since w) _ _ [] xs rfl rfl (slO_nil _ _ _ _) H.out (fun _ h => h.elim) (Nat.le_refl _) (by have := HN.out; simp; omega) ?_)
  intro v' w1 o1 t1
  obtain ⟨va, vc, rfl⟩ := slO_len o1
  have b1 := below_turn (Below.refl w.heap.size w) t1 (fun _ h => h.elim) (Nat.le_refl _)
  go_wp2
  go_ret
  exact ⟨_, rfl, o1, b1⟩
set_option maxHeartbeats 8000000 in
set_option maxRecDepth 100000 in
theorem copyVersion_P (a0 : Int) (a2 : Int) (a3 : Int) (v1 : Value) (x1 : List Int) (w : World) (h1 : SlR tInt w v1 x1) (s1 : zL tInt x1 ≤ 1048576) :
    Calls Try.prog 127 #[.agg #[.int .i64 a0, v1, .int .i64 a2, .int .i64 a3]] w (FreshT tVersion (fun cs => .agg cs.toArray) w (a0, x1, a2, a3)) := by
  obtain ⟨sa1, sc1, rfl⟩ := slR_len h1
  have H1 := Lib.hid h1; have N1 := Lib.hid (zL_len s1)
  clear h1 s1
  have d := Lib.hid (((Below.refl w.heap.size w).alloc (Nat.le_refl _) (.cells #[.int .i64 a0, .slice sa1 x1.length sc1, .int .i64 a2, .int .i64 a3] 115)).alloc (by simp) (.cells #[.int .i64 0, .slice none 0 0, .int .i64 0, .int .i64 0] 115))
  have B0 : Hid (((w.alloc (.cells #[.int .i64 a0, .slice sa1 x1.length sc1, .int .i64 a2, .int .i64 a3] 115)).alloc (.cells #[.int .i64 0, .slice none 0 0, .int .i64 0, .int .i64 0] 115)).heap[w.heap.size]? = some (.cells #[.int .i64 a0, .slice sa1 x1.length sc1, .int .i64 a2, .int .i64 a3] 115 (0, 0))) := Lib.hid (by rw [Below.heap_alloc _ _ _ (by simp)]; exact heap_alloc_new w _)
  have B1 : Hid (((w.alloc (.cells #[.int .i64 a0, .slice sa1 x1.length sc1, .int .i64 a2, .int .i64 a3] 115)).alloc (.cells #[.int .i64 0, .slice none 0 0, .int .i64 0, .int .i64 0] 115)).heap[(w.heap.size + 1)]? = some (.cells #[.int .i64 0, .slice none 0 0, .int .i64 0, .int .i64 0] 115 (0, 0))) := Lib.hid (by
    have := heap_alloc_new (w.alloc (.cells #[.int .i64 a0, .slice sa1 x1.length sc1, .int .i64 a2, .int .i64 a3] 115)) (.cells #[.int .i64 0, .slice none 0 0, .int .i64 0, .int .i64 0] 115)
    simpa only [World.size_alloc] using this)
  have YW : Hid (w.heap.size + 1 < ((w.alloc (.cells #[.int .i64 a0, .slice sa1 x1.length sc1, .int .i64 a2, .int .i64 a3] 115)).alloc (.cells #[.int .i64 0, .slice none 0 0, .int .i64 0, .int .i64 0] 115)).heap.size) := Lib.hid (by simp)
  go_enter Try.func127, Try.ntmps127
  go_wp2_with fail
  generalize ((w.alloc (.cells #[.int .i64 a0, .slice sa1 x1.length sc1, .int .i64 a2, .int .i64 a3] 115)).alloc (.cells #[.int .i64 0, .slice none 0 0, .int .i64 0, .int .i64 0] 115)) = W at *
  refine (copyLVersionint (.slice sa1 x1.length sc1) x1 W (slR_below tInt_law H1.out d.out) N1.out).mono ?_
  rintro e wq1 ⟨u, rfl, o1, c1⟩
  replace o1 := slO_lt tInt_law o1
  obtain ⟨ua1, uc1, rfl⟩ := slO_len o1
  replace B0 := Lib.hid ((c1.block w.heap.size (Array.getElem?_eq_some_iff.1 B0.out).1).trans B0.out)
  replace B1 := Lib.hid ((c1.block (w.heap.size + 1) (Array.getElem?_eq_some_iff.1 B1.out).1).trans B1.out)
  have P1 := Lib.hid o1
  have y0 := YW.out; have yd := d.out.size; have yc := c1.size
  have Q1 : Hid (∀ b, (since W b ∧ b < wq1.heap.size) → w.heap.size + 1 < b ∧ W.heap.size ≤ b ∧ b < wq1.heap.size) := Lib.hid (fun b h => ⟨Nat.lt_of_lt_of_le y0 h.1, h.1, h.2⟩)
  have Zq1 : Hid (W.heap.size ≤ wq1.heap.size) := Lib.hid yc
  replace d := Lib.hid (d.out.trans (c1.mono d.out.size))
  replace YW : Hid (w.heap.size + 1 < wq1.heap.size) := Lib.hid (Nat.lt_of_lt_of_le y0 yc)
  clear o1 c1 y0 yd yc
  have p0 := (cell_of_row wq1 _ 1 _ _ _ B0.out).trans (show _ = some (Value.slice sa1 x1.length sc1) from rfl)
  have f0 := frozen_of_row wq1 _ 1 _ _ B0.out
  skip
  have tt : Turn (fun b => b = w.heap.size) wq1 (wq1.setCell ⟨w.heap.size, 1, none⟩ (.slice ua1 x1.length uc1)) := turn_set (G := fun b => b = w.heap.size) (g := w.heap.size) (j := 1) (u := .slice ua1 x1.length uc1) rfl
  have r := heap_setCell_same wq1 w.heap.size 1 _ _ (.slice ua1 x1.length uc1) B0.out
  simp at r
  have y1 := YW.out
  have K0 : Hid ((wq1.setCell ⟨w.heap.size, 1, none⟩ (.slice ua1 x1.length uc1)).heap[w.heap.size]? = some (.cells #[.int .i64 a0, .slice ua1 x1.length uc1, .int .i64 a2, .int .i64 a3] 115 (0, 0))) := Lib.hid r
  have K1 := Lib.hid ((tt.block (w.heap.size + 1) (Array.getElem?_eq_some_iff.1 B1.out).1 (fun h => by omega)).trans B1.out)
  have KP1 := Lib.hid (slO_turn tInt_law P1.out tt (fun b h1 h2 => by have := Q1.out b h1; omega))
  have kd := Lib.hid (below_turn d.out tt (fun b h => by omega) d.out.size)
  have KY : Hid (w.heap.size + 1 < (wq1.setCell ⟨w.heap.size, 1, none⟩ (.slice ua1 x1.length uc1)).heap.size) := Lib.hid (Nat.lt_of_lt_of_le y1 tt.size)
  have Zs1 : Hid (wq1.heap.size ≤ (wq1.setCell ⟨w.heap.size, 1, none⟩ (.slice ua1 x1.length uc1)).heap.size) := Lib.hid tt.size
  clear tt r y1 B0 B1 d YW P1
  generalize hW : (wq1.setCell ⟨w.heap.size, 1, none⟩ (.slice ua1 x1.length uc1)) = WF at *
  have c0 := (cell_of_row WF _ 0 _ _ _ K0.out).trans (show _ = some (Value.int .i64 a0) from rfl)
  have c1 := (cell_of_row WF _ 1 _ _ _ K0.out).trans (show _ = some (Value.slice ua1 x1.length uc1) from rfl)
  have c2 := (cell_of_row WF _ 2 _ _ _ K0.out).trans (show _ = some (Value.int .i64 a2) from rfl)
  have c3 := (cell_of_row WF _ 3 _ _ _ K0.out).trans (show _ = some (Value.int .i64 a3) from rfl)
  have z0 := (cell_of_row WF _ 0 _ _ _ K1.out).trans (show _ = some (Value.int .i64 0) from rfl)
  have g0 := frozen_of_row WF _ 0 _ _ K1.out
  have z1 := (cell_of_row WF _ 1 _ _ _ K1.out).trans (show _ = some (Value.slice none 0 0) from rfl)
  have g1 := frozen_of_row WF _ 1 _ _ K1.out
  have z2 := (cell_of_row WF _ 2 _ _ _ K1.out).trans (show _ = some (Value.int .i64 0) from rfl)
  have g2 := frozen_of_row WF _ 2 _ _ K1.out
  have z3 := (cell_of_row WF _ 3 _ _ _ K1.out).trans (show _ = some (Value.int .i64 0) from rfl)
  have g3 := frozen_of_row WF _ 3 _ _ K1.out
  have y1 := KY.out
  have DF := Lib.hid ((((kd.out.setCell (p := ⟨w.heap.size + 1, 0, none⟩) (by simp) (.int .i64 a0)).setCell (p := ⟨w.heap.size + 1, 1, none⟩) (by simp) (.slice ua1 x1.length uc1)).setCell (p := ⟨w.heap.size + 1, 2, none⟩) (by simp) (.int .i64 a2)).setCell (p := ⟨w.heap.size + 1, 3, none⟩) (by simp) (.int .i64 a3))
  have r := (heap_setCell_same _ (w.heap.size + 1) 3 _ _ (.int .i64 a3) (heap_setCell_same _ (w.heap.size + 1) 2 _ _ (.int .i64 a2) (heap_setCell_same _ (w.heap.size + 1) 1 _ _ (.slice ua1 x1.length uc1) (heap_setCell_same WF (w.heap.size + 1) 0 _ _ (.int .i64 a0) K1.out))))
  simp at r
  have e0 := (cell_of_row _ (w.heap.size + 1) 0 _ _ _ r).trans (show _ = some (Value.int .i64 a0) from rfl)
  have e1 := (cell_of_row _ (w.heap.size + 1) 1 _ _ _ r).trans (show _ = some (Value.slice ua1 x1.length uc1) from rfl)
  have e2 := (cell_of_row _ (w.heap.size + 1) 2 _ _ _ r).trans (show _ = some (Value.int .i64 a2) from rfl)
  have e3 := (cell_of_row _ (w.heap.size + 1) 3 _ _ _ r).trans (show _ = some (Value.int .i64 a3) from rfl)
  have tt : Turn (fun b => b = w.heap.size + 1) WF ((((WF.setCell ⟨w.heap.size + 1, 0, none⟩ (.int .i64 a0)).setCell ⟨w.heap.size + 1, 1, none⟩ (.slice ua1 x1.length uc1)).setCell ⟨w.heap.size + 1, 2, none⟩ (.int .i64 a2)).setCell ⟨w.heap.size + 1, 3, none⟩ (.int .i64 a3)) := (((((Turn.refl (fun b => b = w.heap.size + 1) _).trans (turn_set (G := fun b => b = w.heap.size + 1) (g := w.heap.size + 1) (j := 0) (u := .int .i64 a0) rfl)).trans (turn_set (G := fun b => b = w.heap.size + 1) (g := w.heap.size + 1) (j := 1) (u := .slice ua1 x1.length uc1) rfl)).trans (turn_set (G := fun b => b = w.heap.size + 1) (g := w.heap.size + 1) (j := 2) (u := .int .i64 a2) rfl)).trans (turn_set (G := fun b => b = w.heap.size + 1) (g := w.heap.size + 1) (j := 3) (u := .int .i64 a3) rfl))
  have PF1 := Lib.hid (slO_turn tInt_law KP1.out tt (fun b h1 h2 => by have := Q1.out b h1; omega))
  clear r tt KY K1 kd y1 K0 KP1
  subst hW
  go_wp2
  refine bodyPost_ret (v := .agg #[.int .i64 a0, .slice ua1 x1.length uc1, .int .i64 a2, .int .i64 a3]) ?_ rfl ⟨[.int .i64 a0, .slice ua1 x1.length uc1, .int .i64 a2, .int .i64 a3], rfl, tVersion_mkO PF1.out (fun b h => by have := Q1.out b h; show w.heap.size ≤ b; omega) , DF.out⟩
  simp [results, Try.f127, go_sem, e0, e1, e2, e3]
set_option maxHeartbeats 8000000 in
set_option maxRecDepth 100000 in
theorem copyEachVersion (v : Value) (xs : List (Int × List Int × Int × Int)) (w : World) (h : SlR tVersion w v xs) (hs : zL tVersion xs ≤ 1048576) :
    Calls Try.prog 126 #[v, .func (.func 127) #[] #[]] w (FreshS 115 tVersion w xs) := by
  obtain ⟨i0, hi, hz0, hz1⟩ : ∃ i0, Try.prog.info? 115 = some i0 ∧ i0.zero = some (.agg #[.int .i64 0, .slice none 0 0, .int .i64 0, .int .i64 0]) ∧ i0.size = 4 := by
    have h0 := Try.info_Version
    cases q : Try.prog.info? 115 with
    | none => rw [q] at h0; simp at h0
    | some i => rw [q] at h0; simp only [Option.map_some, Option.some.injEq, Prod.mk.injEq] at h0; exact ⟨i, rfl, h0.1, h0.2⟩
  have hz2 : i0.bytes ≤ 512 := by
    have h0 := Try.bytes_Version
    rw [hi] at h0
    simpa using h0
  have HI := Lib.hid hi; have HZ0 := Lib.hid hz0; have HZ1 := Lib.hid hz1; have HZ2 := Lib.hid hz2
  clear hi hz0 hz1 hz2
  have H := Lib.hid h
  have hlen := zL_len hs
  have HS := Lib.hid hs
  obtain ⟨a, cap, rfl⟩ := slR_len h
  clear h hs
  go_enter Try.func126, Try.ntmps126
  go_wp2_with (at_make; refine wpList_make_full _ rfl (.tmp 9) (.tmp 9) 61 rfl w.heap.size 115 i0 (.agg #[.int .i64 0, .slice none 0 0, .int .i64 0, .int .i64 0]) 4 Try.underlying61 HI.out HZ0.out HZ1.out _ _ _ _ xs.length rfl rfl rfl rfl (by have h9 := Nat.mul_le_mul HZ2.out hlen; have h8 := Nat.mul_le_mul hlen HZ2.out; omega) (by unfold maxLen; omega) (Nat.le_refl _) ?_)
  intro w1 hown0 hg0
  have hown1 : SlO 115 tVersion w1 (since w) (.slice (some ⟨w.heap.size, 0, none⟩) xs.length xs.length) (List.replicate xs.length tVersion.d) := slO_made (z := #[.int .i64 0, .slice none 0 0, .int .i64 0, .int .i64 0]) tVersion_law rfl (tVersion_zero w1) (Nat.le_refl _) hown0
  have hbel1 := (Below.refl w.heap.size w).grown hg0 (Nat.le_refl _) (fun k hk => by cases hk)
  clear hown0 hg0
  go_wp2
  go_loopw [13] (fun i wr => ∃ k : Nat, k ≤ xs.length ∧ i = .int .i64 k ∧ SlO 115 tVersion wr (since w) (.slice (some ⟨w.heap.size, 0, none⟩) xs.length xs.length) (xs.take k ++ List.replicate (xs.length - k) tVersion.d) ∧ Below w.heap.size w wr) (fun i _ => xs.length - (intOf i).toNat)
  case atStart => exact ⟨0, Nat.zero_le _, rfl, by simpa using hown1, hbel1⟩
  case round =>
    obtain ⟨k, hk, rfl, hown, hbel⟩ := hrel
    by_cases hlt : k < xs.length
    · have HSET := Lib.hid (cTo_step (d := tVersion.d) hlt)
      have HKL : Hid (k < (xs.take k ++ List.replicate (xs.length - k) tVersion.d).length) := Lib.hid (by rw [cTo_len hk]; exact hlt)
      have HLL := Lib.hid (cTo_len (d := tVersion.d) hk)
      have i1 : (0 : Int) ≤ (k : Int) := by omega
      have i2 : (k : Int) < (xs.length : Int) := by omega
      have hzx := zL_at HS.out hlt
      obtain ⟨b, off, cap', cs, hv, hbl, hcs, hR⟩ := slR_at (slR_below tVersion_law H.out hbel) hlt
      simp only [Value.slice.injEq] at hv
      obtain ⟨rfl, _, rfl⟩ := hv
      obtain ⟨hme, hFg, hgl, cj, Fj, Lc, hrow, hLc, hO, hFj, hput⟩ := slO_open tVersion_law hown HKL.out
      clear hme
      clear hown1 hbel1
      generalize xs.getD k tVersion.d = x at *
      generalize xs.take k ++ List.replicate (xs.length - k) tVersion.d = ys at *
      obtain ⟨a0, x1, a2, a3⟩ := x
      obtain ⟨v1, hR'⟩ := tVersion_R hR
      obtain ⟨rfl, h1⟩ := hR'
      have p0 : wr.cell? ⟨b, off + k * 4, none⟩ = some (Value.int .i64 a0) := hcs 0 (by decide)
      have p1 : wr.cell? ⟨b, off + k * 4 + 1, none⟩ = some (v1) := hcs 1 (by decide)
      have p2 : wr.cell? ⟨b, off + k * 4 + 2, none⟩ = some (Value.int .i64 a2) := hcs 2 (by decide)
      have p3 : wr.cell? ⟨b, off + k * 4 + 3, none⟩ = some (Value.int .i64 a3) := hcs 3 (by decide)
      rw [tVersion_sz] at hzx
      have S1 := Lib.hid (show zL tInt x1 ≤ 1048576 by omega)
      obtain ⟨sa1, sc1, rfl⟩ := slR_len h1
      have HC := Lib.hid (fun w g1 => copyVersion_P a0 a2 a3 (.slice sa1 x1.length sc1) x1 w g1 S1.out)
      have G1 := Lib.hid h1
      clear hcs hzx h1
      have hal : Below wr.heap.size wr (wr.alloc (.cells #[.int .i64 a0, .slice sa1 x1.length sc1, .int .i64 a2, .int .i64 a3] 115)) := (Below.refl _ _).alloc (Nat.le_refl _) _
      go_wp2_with fail
      generalize wr.alloc (.cells #[.int .i64 a0, .slice sa1 x1.length sc1, .int .i64 a2, .int .i64 a3] 115) = W2 at *
      refine (HC.out _ (slR_below tInt_law G1.out hal)).mono ?_
      rintro e w2 ⟨cv, rfl, ow0, b20⟩
      have ow : tVersion.O w2 (since wr) cv _ := tVersion_law.mono ow0 (fun b hb => Nat.le_trans hal.size hb)
      have b2 := hal.trans (b20.mono hal.size)
      clear ow0 b20 hal
      replace ow := tVersion_law.lt ow
      have ow2 := ow
      obtain ⟨u1, K1, rfl, o1, _⟩ := tVersion_O ow2
      obtain ⟨ua1, uc1, rfl⟩ := slO_len o1
      clear o1
      have r0 := row_turn (G := fun _ => False) hrow (turn_below b2) (fun _ _ => not_false)
      rw [HLL.out] at r0
      have q0 : ∃ x, w2.cell? ⟨w.heap.size, k * 4, none⟩ = some x := ⟨_, (World.ownsRow.cellAt r0 (k * 4) (by have := HKL.out; rw [HLL.out] at this; show _ < xs.length * 4; omega)).trans (List.getElem?_eq_getElem (by have h1 : Lc.length = xs.length * 4 := r0.1; omega))⟩
      obtain ⟨y0, q0⟩ := q0
      have f0 := World.ownsRow.frozenAt r0 (k * 4)
      have q1 : ∃ x, w2.cell? ⟨w.heap.size, k * 4 + 1, none⟩ = some x := ⟨_, (World.ownsRow.cellAt r0 (k * 4 + 1) (by have := HKL.out; rw [HLL.out] at this; show _ < xs.length * 4; omega)).trans (List.getElem?_eq_getElem (by have h1 : Lc.length = xs.length * 4 := r0.1; omega))⟩
      obtain ⟨y1, q1⟩ := q1
      have f1 := World.ownsRow.frozenAt r0 (k * 4 + 1)
      have q2 : ∃ x, w2.cell? ⟨w.heap.size, k * 4 + 2, none⟩ = some x := ⟨_, (World.ownsRow.cellAt r0 (k * 4 + 2) (by have := HKL.out; rw [HLL.out] at this; show _ < xs.length * 4; omega)).trans (List.getElem?_eq_getElem (by have h1 : Lc.length = xs.length * 4 := r0.1; omega))⟩
      obtain ⟨y2, q2⟩ := q2
      have f2 := World.ownsRow.frozenAt r0 (k * 4 + 2)
      have q3 : ∃ x, w2.cell? ⟨w.heap.size, k * 4 + 3, none⟩ = some x := ⟨_, (World.ownsRow.cellAt r0 (k * 4 + 3) (by have := HKL.out; rw [HLL.out] at this; show _ < xs.length * 4; omega)).trans (List.getElem?_eq_getElem (by have h1 : Lc.length = xs.length * 4 := r0.1; omega))⟩
      obtain ⟨y3, q3⟩ := q3
      have f3 := World.ownsRow.frozenAt r0 (k * 4 + 3)
      have b3 := hbel.trans (b2.mono hbel.size)
      have B3 := Lib.hid ((((b3.setCell (p := ⟨w.heap.size, k * 4, none⟩) (Nat.le_refl _) (.int .i64 a0)).setCell (p := ⟨w.heap.size, k * 4 + 1, none⟩) (Nat.le_refl _) (.slice ua1 x1.length uc1)).setCell (p := ⟨w.heap.size, k * 4 + 2, none⟩) (Nat.le_refl _) (.int .i64 a2)).setCell (p := ⟨w.heap.size, k * 4 + 3, none⟩) (Nat.le_refl _) (.int .i64 a3))
      have hT : Turn (fun b => b = w.heap.size ∨ Fj b ∨ wr.heap.size ≤ b) wr ((((w2.setCell ⟨w.heap.size, k * 4, none⟩ (.int .i64 a0)).setCell ⟨w.heap.size, k * 4 + 1, none⟩ (.slice ua1 x1.length uc1)).setCell ⟨w.heap.size, k * 4 + 2, none⟩ (.int .i64 a2)).setCell ⟨w.heap.size, k * 4 + 3, none⟩ (.int .i64 a3)) := (((((turn_below b2).trans (turn_set (j := k * 4) (u := .int .i64 a0) (Or.inl rfl))).trans (turn_set (j := k * 4 + 1) (u := .slice ua1 x1.length uc1) (Or.inl rfl))).trans (turn_set (j := k * 4 + 2) (u := .int .i64 a2) (Or.inl rfl))).trans (turn_set (j := k * 4 + 3) (u := .int .i64 a3) (Or.inl rfl)))
      have hT2 : Turn (fun b => b = w.heap.size) w2 ((((w2.setCell ⟨w.heap.size, k * 4, none⟩ (.int .i64 a0)).setCell ⟨w.heap.size, k * 4 + 1, none⟩ (.slice ua1 x1.length uc1)).setCell ⟨w.heap.size, k * 4 + 2, none⟩ (.int .i64 a2)).setCell ⟨w.heap.size, k * 4 + 3, none⟩ (.int .i64 a3)) := (((((Turn.refl (fun b => b = w.heap.size) _).trans (turn_set (G := fun b => b = w.heap.size) (j := k * 4) (u := .int .i64 a0) rfl)).trans (turn_set (G := fun b => b = w.heap.size) (j := k * 4 + 1) (u := .slice ua1 x1.length uc1) rfl)).trans (turn_set (G := fun b => b = w.heap.size) (j := k * 4 + 2) (u := .int .i64 a2) rfl)).trans (turn_set (G := fun b => b = w.heap.size) (j := k * 4 + 3) (u := .int .i64 a3) rfl))
      have hO2 := tVersion_law.turn ow hT2 (fun b h1 h2 => by have := h1.1; simp only [since] at this; omega)
      have r9 := (World.ownsRow.stored (World.ownsRow.stored (World.ownsRow.stored (World.ownsRow.stored r0 (k * 4) (.int .i64 a0)).1 (k * 4 + 1) (.slice ua1 x1.length uc1)).1 (k * 4 + 2) (.int .i64 a2)).1 (k * 4 + 3) (.int .i64 a3)).1
      have hLl : Lc.length = xs.length * 4 := r0.1
      have hst := Lib.hid (hput ((((w2.setCell ⟨w.heap.size, k * 4, none⟩ (.int .i64 a0)).setCell ⟨w.heap.size, k * 4 + 1, none⟩ (.slice ua1 x1.length uc1)).setCell ⟨w.heap.size, k * 4 + 2, none⟩ (.int .i64 a2)).setCell ⟨w.heap.size, k * 4 + 3, none⟩ (.int .i64 a3)) ((((Lc.set (k * 4) (.int .i64 a0)).set (k * 4 + 1) (.slice ua1 x1.length uc1)).set (k * 4 + 2) (.int .i64 a2)).set (k * 4 + 3) (.int .i64 a3)) [.int .i64 a0, .slice ua1 x1.length uc1, .int .i64 a2, .int .i64 a3] _ (a0, x1, a2, a3) (by rw [HLL.out]; exact r9) (fun p hp => by have hp2 : p < k * 4 ∨ k * 4 + 4 ≤ p := hp; rw [List.getElem?_set_ne (by omega)]; rw [List.getElem?_set_ne (by omega)]; rw [List.getElem?_set_ne (by omega)]; rw [List.getElem?_set_ne (by omega)]) (fun i hi => by have hi' : i < 4 := hi; match i, hi' with | 0, _ => (show (((((Lc.set (k * 4) (.int .i64 a0)).set (k * 4 + 1) (.slice ua1 x1.length uc1)).set (k * 4 + 2) (.int .i64 a2)).set (k * 4 + 3) (.int .i64 a3)))[k * 4]? = _; rw [List.getElem?_set_ne (by omega)]; rw [List.getElem?_set_ne (by omega)]; rw [List.getElem?_set_ne (by omega)]; rw [List.getElem?_set_self (by first | omega | (simp only [List.length_set]; omega))]; rfl) | 1, _ => (show (((((Lc.set (k * 4) (.int .i64 a0)).set (k * 4 + 1) (.slice ua1 x1.length uc1)).set (k * 4 + 2) (.int .i64 a2)).set (k * 4 + 3) (.int .i64 a3)))[k * 4 + 1]? = _; rw [List.getElem?_set_ne (by omega)]; rw [List.getElem?_set_ne (by omega)]; rw [List.getElem?_set_self (by first | omega | (simp only [List.length_set]; omega))]; rfl) | 2, _ => (show (((((Lc.set (k * 4) (.int .i64 a0)).set (k * 4 + 1) (.slice ua1 x1.length uc1)).set (k * 4 + 2) (.int .i64 a2)).set (k * 4 + 3) (.int .i64 a3)))[k * 4 + 2]? = _; rw [List.getElem?_set_ne (by omega)]; rw [List.getElem?_set_self (by first | omega | (simp only [List.length_set]; omega))]; rfl) | 3, _ => (show (((((Lc.set (k * 4) (.int .i64 a0)).set (k * 4 + 1) (.slice ua1 x1.length uc1)).set (k * 4 + 2) (.int .i64 a2)).set (k * 4 + 3) (.int .i64 a3)))[k * 4 + 3]? = _; rw [List.getElem?_set_self (by first | omega | (simp only [List.length_set]; omega))]; rfl)) hO2 (fun b hb => ⟨Nat.le_trans hbel.size hb.1, Or.inr hb.1⟩) hT)
      have hst2 : SlO 115 tVersion ((((w2.setCell ⟨w.heap.size, k * 4, none⟩ (.int .i64 a0)).setCell ⟨w.heap.size, k * 4 + 1, none⟩ (.slice ua1 x1.length uc1)).setCell ⟨w.heap.size, k * 4 + 2, none⟩ (.int .i64 a2)).setCell ⟨w.heap.size, k * 4 + 3, none⟩ (.int .i64 a3)) (since w) (.slice (some ⟨w.heap.size, 0, none⟩) xs.length xs.length) (xs.take (k + 1) ++ List.replicate (xs.length - (k + 1)) tVersion.d) := by have := hst.out; rw [HSET.out] at this; exact this
      have HST := Lib.hid hst2
      clear hst hst2 hT hT2 hO2 r9 r0 hrow hO hput hown hbel b2 ow b3 hLl hLc hFj
      go_wp2
      go_roundw
      case rel => exact ⟨k + 1, by omega, by go_num, HST.out, B3.out⟩
      case measure => simp [intOf]; omega
    · obtain rfl : k = xs.length := by omega
      have HE : Hid (xs.take xs.length ++ List.replicate (xs.length - xs.length) tVersion.d = xs) := Lib.hid (by simp)
      rw [HE.out] at hown
      go_wp2
      go_ret
      exact ⟨_, rfl, hown, hbel⟩
set_option maxHeartbeats 2000000 in
set_option maxRecDepth 100000 in
theorem copyVersions_any (v : Value) (xs : List (Int × List Int × Int × Int)) (w : World) (h : SlR tVersion w v xs) (hs : zL tVersion xs ≤ 1048576) :
    Calls Try.prog 96 #[v] w (FreshS 115 tVersion w xs) := by
  have H := Lib.hid (fun w h => copyEachVersion v xs w h hs)
  have HV := Lib.hid h
  clear h hs
  go_enter Try.func96, Try.ntmps96
  go_wp2_with fail
  refine (H.out _ HV.out).mono ?_
  rintro e w1 ⟨u, rfl, o1, b1⟩
  obtain ⟨ua, uc, rfl⟩ := slO_len o1
  go_wp2
  go_ret
  exact ⟨_, rfl, o1, b1⟩
end Go.Proofs.Ytdhglmoanpkeoaa
namespace Go.Proofs.Ytdhglmoanpkeoaa
open Go.RowKit
set_option linter.unusedVariables false
set_option linter.unusedSimpArgs false
set_option maxHeartbeats 8000000 in
set_option maxRecDepth 100000 in
theorem copyEachVersionS (v : Value) (xs : List (List (Int × List Int × Int × Int))) (w : World) (h : SlR tVersionS w v xs) (hs : zL tVersionS xs ≤ 1048576) :
    Calls Try.prog 95 #[v, .func (.func 96) #[] #[]] w (FreshS 61 tVersionS w xs) := by
  obtain ⟨i0, hi, hz0, hz1⟩ : ∃ i0, Try.prog.info? 61 = some i0 ∧ i0.zero = some (.slice none 0 0) ∧ i0.size = 1 := by
    have h0 := Try.info_VersionS
    cases q : Try.prog.info? 61 with
    | none => rw [q] at h0; simp at h0
    | some i => rw [q] at h0; simp only [Option.map_some, Option.some.injEq, Prod.mk.injEq] at h0; exact ⟨i, rfl, h0.1, h0.2⟩
  have hz2 : i0.bytes ≤ 512 := by
    have h0 := Try.bytes_VersionS
    rw [hi] at h0
    simpa using h0
  have HI := Lib.hid hi; have HZ0 := Lib.hid hz0; have HZ1 := Lib.hid hz1; have HZ2 := Lib.hid hz2
  clear hi hz0 hz1 hz2
  have H := Lib.hid h
  have hlen := zL_len hs
  have HS := Lib.hid hs
  obtain ⟨a, cap, rfl⟩ := slR_len h
  clear h hs
  go_enter Try.func95, Try.ntmps95
  go_wp2_with (at_make; refine wpList_make_full _ rfl (.tmp 9) (.tmp 9) 28 rfl w.heap.size 61 i0 (.slice none 0 0) 1 Try.underlying28 HI.out HZ0.out HZ1.out _ _ _ _ xs.length rfl rfl rfl rfl (by have h9 := Nat.mul_le_mul HZ2.out hlen; have h8 := Nat.mul_le_mul hlen HZ2.out; omega) (by unfold maxLen; omega) (Nat.le_refl _) ?_)
  intro w1 hown0 hg0
  have hown1 : SlO 61 tVersionS w1 (since w) (.slice (some ⟨w.heap.size, 0, none⟩) xs.length xs.length) (List.replicate xs.length tVersionS.d) := slO_made (z := #[.slice none 0 0]) tVersionS_law rfl (tVersionS_zero w1) (Nat.le_refl _) (by rw [show xs.length * tVersionS.n = xs.length from Nat.mul_one _]; exact hown0)
  have hbel1 := (Below.refl w.heap.size w).grown hg0 (Nat.le_refl _) (fun k hk => by cases hk)
  clear hown0 hg0
  go_wp2
  go_loopw [13] (fun i wr => ∃ k : Nat, k ≤ xs.length ∧ i = .int .i64 k ∧ SlO 61 tVersionS wr (since w) (.slice (some ⟨w.heap.size, 0, none⟩) xs.length xs.length) (xs.take k ++ List.replicate (xs.length - k) tVersionS.d) ∧ Below w.heap.size w wr) (fun i _ => xs.length - (intOf i).toNat)
  case atStart => exact ⟨0, Nat.zero_le _, rfl, by simpa using hown1, hbel1⟩
  case round =>
    obtain ⟨k, hk, rfl, hown, hbel⟩ := hrel
    by_cases hlt : k < xs.length
    · have HSET := Lib.hid (cTo_step (d := tVersionS.d) hlt)
      have HKL : Hid (k < (xs.take k ++ List.replicate (xs.length - k) tVersionS.d).length) := Lib.hid (by rw [cTo_len hk]; exact hlt)
      have HLL := Lib.hid (cTo_len (d := tVersionS.d) hk)
      have i1 : (0 : Int) ≤ (k : Int) := by omega
      have i2 : (k : Int) < (xs.length : Int) := by omega
      have hzx := zL_at HS.out hlt
      obtain ⟨b, off, cap', cs, hv, hbl, hcs, hR⟩ := slR_at (slR_below tVersionS_law H.out hbel) hlt
      simp only [Value.slice.injEq] at hv
      obtain ⟨rfl, _, rfl⟩ := hv
      obtain ⟨hme, hFg, hgl, cj, Fj, Lc, hrow, hLc, hO, hFj, hput⟩ := slO_open tVersionS_law hown HKL.out
      clear hme
      clear hown1 hbel1
      generalize xs.getD k tVersionS.d = x at *
      generalize xs.take k ++ List.replicate (xs.length - k) tVersionS.d = ys at *
      obtain ⟨u, rfl, h0⟩ := hR
      have p0 : wr.cell? ⟨b, off + k, none⟩ = some u := by have := hcs 0 Nat.one_pos; rw [show tVersionS.n = 1 from rfl, Nat.mul_one, Nat.add_zero] at this; exact this
      have HC := Lib.hid (fun w g => copyVersions_any u x w g hzx)
      have G0 := Lib.hid h0
      clear hcs h0
      go_wp2_with fail
      refine (HC.out _ G0.out).mono ?_
      rintro e w2 ⟨u2, rfl, ow0, b2⟩
      replace ow0 := slO_lt tVersion_law ow0
      obtain ⟨ua, uc, rfl⟩ := slO_len ow0
      have ow : tVersionS.O w2 (fun b => since wr b ∧ b < w2.heap.size) [.slice ua x.length uc] x := ⟨_, rfl, ow0⟩
      have r0 := row_turn (G := fun _ => False) hrow (turn_below b2) (fun _ _ => not_false)
      rw [HLL.out] at r0
      have q0 : ∃ x, w2.cell? ⟨w.heap.size, k, none⟩ = some x := ⟨_, (World.ownsRow.cellAt r0 (k) (by have := HKL.out; rw [HLL.out] at this; show _ < xs.length * 1; omega)).trans (List.getElem?_eq_getElem (by have h1 : Lc.length = xs.length * 1 := r0.1; omega))⟩
      obtain ⟨y0, q0⟩ := q0
      have f0 := World.ownsRow.frozenAt r0 (k)
      have b3 := hbel.trans (b2.mono hbel.size)
      have B3 := Lib.hid (b3.setCell (p := ⟨w.heap.size, k, none⟩) (Nat.le_refl _) (.slice ua x.length uc))
      have hT : Turn (fun b => b = w.heap.size ∨ Fj b ∨ wr.heap.size ≤ b) wr (w2.setCell ⟨w.heap.size, k, none⟩ (.slice ua x.length uc)) := ((turn_below b2).trans (turn_set (j := k) (u := .slice ua x.length uc) (Or.inl rfl)))
      have hT2 : Turn (fun b => b = w.heap.size) w2 (w2.setCell ⟨w.heap.size, k, none⟩ (.slice ua x.length uc)) := ((Turn.refl (fun b => b = w.heap.size) _).trans (turn_set (G := fun b => b = w.heap.size) (j := k) (u := .slice ua x.length uc) rfl))
      have hO2 := tVersionS_law.turn ow hT2 (fun b h1 h2 => by have := h1.1; simp only [since] at this; omega)
      have r9 := (World.ownsRow.stored r0 (k) (.slice ua x.length uc)).1
      have hLl : Lc.length = xs.length * 1 := r0.1
      have hst := Lib.hid (hput (w2.setCell ⟨w.heap.size, k, none⟩ (.slice ua x.length uc)) (Lc.set (k) (.slice ua x.length uc)) [.slice ua x.length uc] _ x (by rw [HLL.out]; exact r9) (fun p hp => by have hp2 : p < k * 1 ∨ k * 1 + 1 ≤ p := hp; rw [List.getElem?_set_ne (by omega)]) (fun i hi => by have hi2 : i < 1 := hi; obtain rfl : i = 0 := (by omega); have e0 : k * tVersionS.n + 0 = k := (by show k * 1 + 0 = k; omega); rw [e0]; exact List.getElem?_set_self (by omega)) hO2 (fun b hb => ⟨Nat.le_trans hbel.size hb.1, Or.inr hb.1⟩) hT)
      have hst2 : SlO 61 tVersionS (w2.setCell ⟨w.heap.size, k, none⟩ (.slice ua x.length uc)) (since w) (.slice (some ⟨w.heap.size, 0, none⟩) xs.length xs.length) (xs.take (k + 1) ++ List.replicate (xs.length - (k + 1)) tVersionS.d) := by have := hst.out; rw [HSET.out] at this; exact this
      have HST := Lib.hid hst2
      clear hst hst2 hT hT2 hO2 r9 r0 hrow hO hput hown hbel b2 ow b3 hLl hLc hFj
      go_wp2
      go_roundw
      case rel => exact ⟨k + 1, by omega, by go_num, HST.out, B3.out⟩
      case measure => simp [intOf]; omega
    · obtain rfl : k = xs.length := by omega
      have HE : Hid (xs.take xs.length ++ List.replicate (xs.length - xs.length) tVersionS.d = xs) := Lib.hid (by simp)
      rw [HE.out] at hown
      go_wp2
      go_ret
      exact ⟨_, rfl, hown, hbel⟩
set_option maxHeartbeats 8000000 in
set_option maxRecDepth 100000 in
theorem copyStore_P (a1 : Int) (v0 : Value) (x0 : List (List (Int × List Int × Int × Int))) (w : World) (h0 : SlR tVersionS w v0 x0) (s0 : zL tVersionS x0 ≤ 1048576) :
    Calls Try.prog 43 #[.agg #[v0, .int .i64 a1]] w (FreshT tStore (fun cs => .agg cs.toArray) w (x0, a1)) := by
  obtain ⟨sa0, sc0, rfl⟩ := slR_len h0
  have H := Lib.hid (fun w h => copyEachVersionS (.slice sa0 x0.length sc0) x0 w h s0)
  have HV := Lib.hid h0
  clear h0 s0
  have d := Lib.hid (((Below.refl w.heap.size w).alloc (Nat.le_refl _) (.cells #[.slice sa0 x0.length sc0, .int .i64 a1] 30)).alloc (by simp) (.cells #[.slice none 0 0, .int .i64 0] 30))
  have B0 : Hid (((w.alloc (.cells #[.slice sa0 x0.length sc0, .int .i64 a1] 30)).alloc (.cells #[.slice none 0 0, .int .i64 0] 30)).heap[w.heap.size]? = some (.cells #[.slice sa0 x0.length sc0, .int .i64 a1] 30 (0, 0))) := Lib.hid (by rw [Below.heap_alloc _ _ _ (by simp)]; exact heap_alloc_new w _)
  have B1 : Hid (((w.alloc (.cells #[.slice sa0 x0.length sc0, .int .i64 a1] 30)).alloc (.cells #[.slice none 0 0, .int .i64 0] 30)).heap[(w.heap.size + 1)]? = some (.cells #[.slice none 0 0, .int .i64 0] 30 (0, 0))) := Lib.hid (by
    have := heap_alloc_new (w.alloc (.cells #[.slice sa0 x0.length sc0, .int .i64 a1] 30)) (.cells #[.slice none 0 0, .int .i64 0] 30)
    simpa only [World.size_alloc] using this)
  have YW : Hid (w.heap.size + 1 < ((w.alloc (.cells #[.slice sa0 x0.length sc0, .int .i64 a1] 30)).alloc (.cells #[.slice none 0 0, .int .i64 0] 30)).heap.size) := Lib.hid (by simp)
  go_enter Try.func43, Try.ntmps43
  go_wp2_with fail
  generalize ((w.alloc (.cells #[.slice sa0 x0.length sc0, .int .i64 a1] 30)).alloc (.cells #[.slice none 0 0, .int .i64 0] 30)) = W at *
  refine (H.out W (slR_below tVersionS_law HV.out d.out)).mono ?_
  rintro e w1 ⟨u, rfl, o1, c1⟩
  replace o1 := slO_lt tVersionS_law o1
  obtain ⟨ua, uc, rfl⟩ := slO_len o1
  replace B0 := Lib.hid ((c1.block w.heap.size (Array.getElem?_eq_some_iff.1 B0.out).1).trans B0.out)
  replace B1 := Lib.hid ((c1.block (w.heap.size + 1) (Array.getElem?_eq_some_iff.1 B1.out).1).trans B1.out)
  have P1 := Lib.hid o1
  have y0 := YW.out; have yc := c1.size
  have Q1 : Hid (∀ b, (since W b ∧ b < w1.heap.size) → w.heap.size + 1 < b) := Lib.hid (fun b h => Nat.lt_of_lt_of_le y0 h.1)
  replace d := Lib.hid (d.out.trans (c1.mono d.out.size))
  replace YW : Hid (w.heap.size + 1 < w1.heap.size) := Lib.hid (Nat.lt_of_lt_of_le y0 yc)
  clear o1 c1 y0 yc
  have p0 := (cell_of_row w1 _ 0 _ _ _ B0.out).trans (show _ = some (Value.slice sa0 x0.length sc0) from rfl)
  have f0 := frozen_of_row w1 _ 0 _ _ B0.out
  have tt : Turn (fun b => b = w.heap.size) w1 (w1.setCell ⟨w.heap.size, 0, none⟩ (.slice ua x0.length uc)) := turn_set (G := fun b => b = w.heap.size) (g := w.heap.size) (j := 0) (u := .slice ua x0.length uc) rfl
  have r := heap_setCell_same w1 w.heap.size 0 _ _ (.slice ua x0.length uc) B0.out
  simp at r
  have y1 := YW.out
  have K0 : Hid ((w1.setCell ⟨w.heap.size, 0, none⟩ (.slice ua x0.length uc)).heap[w.heap.size]? = some (.cells #[.slice ua x0.length uc, .int .i64 a1] 30 (0, 0))) := Lib.hid r
  have K1 := Lib.hid ((tt.block (w.heap.size + 1) (Array.getElem?_eq_some_iff.1 B1.out).1 (fun h => by omega)).trans B1.out)
  have KP1 := Lib.hid (slO_turn tVersionS_law P1.out tt (fun b h1 h2 => by have := Q1.out b h1; omega))
  have kd := Lib.hid (below_turn d.out tt (fun b h => by omega) d.out.size)
  have KY : Hid (w.heap.size + 1 < (w1.setCell ⟨w.heap.size, 0, none⟩ (.slice ua x0.length uc)).heap.size) := Lib.hid (Nat.lt_of_lt_of_le y1 tt.size)
  clear tt r y1 B0 B1 d YW P1
  generalize hW : (w1.setCell ⟨w.heap.size, 0, none⟩ (.slice ua x0.length uc)) = WF at *
  have c0 := (cell_of_row WF _ 0 _ _ _ K0.out).trans (show _ = some (Value.slice ua x0.length uc) from rfl)
  have c1 := (cell_of_row WF _ 1 _ _ _ K0.out).trans (show _ = some (Value.int .i64 a1) from rfl)
  have z0 := (cell_of_row WF _ 0 _ _ _ K1.out).trans (show _ = some (Value.slice none 0 0) from rfl)
  have g0 := frozen_of_row WF _ 0 _ _ K1.out
  have z1 := (cell_of_row WF _ 1 _ _ _ K1.out).trans (show _ = some (Value.int .i64 0) from rfl)
  have g1 := frozen_of_row WF _ 1 _ _ K1.out
  have y1 := KY.out
  have DF := Lib.hid ((kd.out.setCell (p := ⟨w.heap.size + 1, 0, none⟩) (by simp) (.slice ua x0.length uc)).setCell (p := ⟨w.heap.size + 1, 1, none⟩) (by simp) (.int .i64 a1))
  have r := (heap_setCell_same _ (w.heap.size + 1) 1 _ _ (.int .i64 a1) (heap_setCell_same WF (w.heap.size + 1) 0 _ _ (.slice ua x0.length uc) K1.out))
  simp at r
  have e0 := (cell_of_row _ (w.heap.size + 1) 0 _ _ _ r).trans (show _ = some (Value.slice ua x0.length uc) from rfl)
  have e1 := (cell_of_row _ (w.heap.size + 1) 1 _ _ _ r).trans (show _ = some (Value.int .i64 a1) from rfl)
  have tt : Turn (fun b => b = w.heap.size + 1) WF ((WF.setCell ⟨w.heap.size + 1, 0, none⟩ (.slice ua x0.length uc)).setCell ⟨w.heap.size + 1, 1, none⟩ (.int .i64 a1)) := ((Turn.refl (fun b => b = w.heap.size + 1) _).trans (turn_set (G := fun b => b = w.heap.size + 1) (g := w.heap.size + 1) (j := 0) (u := .slice ua x0.length uc) rfl)).trans (turn_set (G := fun b => b = w.heap.size + 1) (g := w.heap.size + 1) (j := 1) (u := .int .i64 a1) rfl)
  have PF1 := Lib.hid (slO_turn tVersionS_law KP1.out tt (fun b h1 h2 => by have := Q1.out b h1; omega))
  clear r tt KY K1 kd y1 K0 KP1
  subst hW
  go_wp2
  refine bodyPost_ret (v := .agg #[.slice ua x0.length uc, .int .i64 a1]) ?_ rfl ⟨[.slice ua x0.length uc, .int .i64 a1], rfl, tStore_mkO PF1.out (fun b h => by have := Q1.out b h; show w.heap.size ≤ b; omega), DF.out⟩
  simp [results, Try.f43, go_sem, e0, e1]
end Go.Proofs.Ytdhglmoanpkeoaa
namespace Go.Proofs.Ytdhglmoanpkeoaa
open Go.RowKit
set_option linter.unusedVariables false
set_option linter.unusedSimpArgs false
theorem slO_three {w : World} {b : Nat} {x y z : Int} (h : w.heap[b]? = some (.cells #[.int .i64 x, .int .i64 y, .int .i64 z] 3 (0, 0))) : SlO 3 tInt w (fun k => k = b) (.slice (some ⟨b, 0, none⟩) 3 3) [x, y, z] := by
  refine ⟨[.int .i64 x, .int .i64 y, .int .i64 z], fun j => [.int .i64 ([x, y, z].getD j 0)], fun _ _ => False, ⟨rfl, Or.inr ⟨b, 3, _, rfl, Nat.zero_le _, h, Nat.le_refl 3, by show 3 ≤ 9223372036854775807; decide, rfl, rfl⟩⟩, fun k hk => by simp [Value.ownBlock] at hk; exact hk.symm, fun j hj => ?_, fun i j hi hj hij k h => h.elim⟩
  have hj' : j < 3 := hj
  match j, hj' with
  | 0, _ => exact ⟨fun i hi => by have : i = 0 := by have : i < 1 := hi; omega
                                  subst this; rfl, rfl, fun k h => h.elim⟩
  | 1, _ => exact ⟨fun i hi => by have : i = 0 := by have : i < 1 := hi; omega
                                  subst this; rfl, rfl, fun k h => h.elim⟩
  | 2, _ => exact ⟨fun i hi => by have : i = 0 := by have : i < 1 := hi; omega
                                  subst this; rfl, rfl, fun k h => h.elim⟩
set_option maxHeartbeats 8000000 in
set_option maxRecDepth 100000 in
theorem specNewEngine (sv : Value) (ss : List (List VerD)) (now : Int) (w : World) (h : SlR tVersionS w sv ss) (hs : zL tVersionS ss ≤ 1048576) :
    Calls Try.prog 16 #[.agg #[sv, .int .i64 now]] w (FreshEB w (newE (ss, now))) := by
  obtain ⟨sa, sc, rfl⟩ := slR_len h
  have H0 := Lib.hid h
  have S0 := Lib.hid hs
  clear h hs
  have d := Lib.hid (show Below w.heap.size w ((w.alloc (.cells #[.slice sa ss.length sc, .int .i64 now] 30)).alloc (.cells #[.slice none 0 0, .int .i64 0, .int .i64 0, .slice none 0 0, .slice none 0 0, .slice none 0 0, .slice none 0 0, .int .i64 0] 42)) from (((Below.refl _ w).alloc (Nat.le_refl _) _).alloc (by simp) _))
  have B0 : Hid (((w.alloc (.cells #[.slice sa ss.length sc, .int .i64 now] 30)).alloc (.cells #[.slice none 0 0, .int .i64 0, .int .i64 0, .slice none 0 0, .slice none 0 0, .slice none 0 0, .slice none 0 0, .int .i64 0] 42)).heap[w.heap.size]? = some (.cells #[.slice sa ss.length sc, .int .i64 now] 30 (0, 0))) := Lib.hid (by
    rw [Below.heap_alloc _ _ _ (by simp)]
    exact heap_alloc_new w _)
  have B1 : Hid (((w.alloc (.cells #[.slice sa ss.length sc, .int .i64 now] 30)).alloc (.cells #[.slice none 0 0, .int .i64 0, .int .i64 0, .slice none 0 0, .slice none 0 0, .slice none 0 0, .slice none 0 0, .int .i64 0] 42)).heap[(w.heap.size + 1)]? = some (.cells #[.slice none 0 0, .int .i64 0, .int .i64 0, .slice none 0 0, .slice none 0 0, .slice none 0 0, .slice none 0 0, .int .i64 0] 42 (0, 0))) := Lib.hid (by
    have := heap_alloc_new (w.alloc (.cells #[.slice sa ss.length sc, .int .i64 now] 30)) (.cells #[.slice none 0 0, .int .i64 0, .int .i64 0, .slice none 0 0, .slice none 0 0, .slice none 0 0, .slice none 0 0, .int .i64 0] 42)
    simpa only [World.size_alloc] using this)
  have YW : Hid (w.heap.size + 2 ≤ ((w.alloc (.cells #[.slice sa ss.length sc, .int .i64 now] 30)).alloc (.cells #[.slice none 0 0, .int .i64 0, .int .i64 0, .slice none 0 0, .slice none 0 0, .slice none 0 0, .slice none 0 0, .int .i64 0] 42)).heap.size) := Lib.hid (by simp [World.size_alloc])
  go_enter Try.func16, Try.ntmps16
  go_wp2_with fail
  generalize ((w.alloc (.cells #[.slice sa ss.length sc, .int .i64 now] 30)).alloc (.cells #[.slice none 0 0, .int .i64 0, .int .i64 0, .slice none 0 0, .slice none 0 0, .slice none 0 0, .slice none 0 0, .int .i64 0] 42)) = W at *
  refine (specIsStore (.slice sa ss.length sc) ss now W (slR_below tVersionS_law H0.out d.out) S0.out).mono ?_
  rintro e W1 ⟨rfl, c⟩
  replace B0 := Lib.hid ((c.block w.heap.size (Array.getElem?_eq_some_iff.1 B0.out).1).trans B0.out)
  replace B1 := Lib.hid ((c.block (w.heap.size + 1) (Array.getElem?_eq_some_iff.1 B1.out).1).trans B1.out)
  replace d := Lib.hid (d.out.trans (c.mono d.out.size))
  have Z_W1 := Lib.hid (show W.heap.size ≤ W1.heap.size from c.size)
  clear c
  rcases Bool.eq_false_or_eq_true (storeB ss now) with hst | hst
  rotate_left
  · rw [hst]
    have HF : Hid (newE (ss, now) = ((([], 0), 0, [], [], [], [], 0), false)) := Lib.hid (by unfold newE; rw [hst]; rfl)
    clear hst
    have p_B0_0 := (cell_of_row W1 _ 0 _ _ _ B0.out).trans (show _ = some (Value.slice sa ss.length sc) from rfl)
    have p_B0_1 := (cell_of_row W1 _ 1 _ _ _ B0.out).trans (show _ = some (Value.int .i64 now) from rfl)
    have p_B1_0 := (cell_of_row W1 _ 0 _ _ _ B1.out).trans (show _ = some (Value.slice none 0 0) from rfl)
    have p_B1_1 := (cell_of_row W1 _ 1 _ _ _ B1.out).trans (show _ = some (Value.int .i64 0) from rfl)
    have p_B1_2 := (cell_of_row W1 _ 2 _ _ _ B1.out).trans (show _ = some (Value.int .i64 0) from rfl)
    have p_B1_3 := (cell_of_row W1 _ 3 _ _ _ B1.out).trans (show _ = some (Value.slice none 0 0) from rfl)
    have p_B1_4 := (cell_of_row W1 _ 4 _ _ _ B1.out).trans (show _ = some (Value.slice none 0 0) from rfl)
    have p_B1_5 := (cell_of_row W1 _ 5 _ _ _ B1.out).trans (show _ = some (Value.slice none 0 0) from rfl)
    have p_B1_6 := (cell_of_row W1 _ 6 _ _ _ B1.out).trans (show _ = some (Value.slice none 0 0) from rfl)
    have p_B1_7 := (cell_of_row W1 _ 7 _ _ _ B1.out).trans (show _ = some (Value.int .i64 0) from rfl)
    have f_B1_0 := frozen_of_row W1 _ 0 _ _ B1.out
    have f_B1_1 := frozen_of_row W1 _ 1 _ _ B1.out
    have f_B1_2 := frozen_of_row W1 _ 2 _ _ B1.out
    have f_B1_3 := frozen_of_row W1 _ 3 _ _ B1.out
    have f_B1_4 := frozen_of_row W1 _ 4 _ _ B1.out
    have f_B1_5 := frozen_of_row W1 _ 5 _ _ B1.out
    have f_B1_6 := frozen_of_row W1 _ 6 _ _ B1.out
    have f_B1_7 := frozen_of_row W1 _ 7 _ _ B1.out
    have tt : Turn (fun b => b = (w.heap.size + 1)) W1 ((((((((W1.setCell ⟨(w.heap.size + 1), 0, none⟩ (.slice none 0 0)).setCell ⟨(w.heap.size + 1), 1, none⟩ (.int .i64 0)).setCell ⟨(w.heap.size + 1), 2, none⟩ (.int .i64 0)).setCell ⟨(w.heap.size + 1), 3, none⟩ (.slice none 0 0)).setCell ⟨(w.heap.size + 1), 4, none⟩ (.slice none 0 0)).setCell ⟨(w.heap.size + 1), 5, none⟩ (.slice none 0 0)).setCell ⟨(w.heap.size + 1), 6, none⟩ (.slice none 0 0)).setCell ⟨(w.heap.size + 1), 7, none⟩ (.int .i64 0)) := (((((((((Turn.refl (fun b => b = (w.heap.size + 1)) W1).trans (turn_set (G := fun b => b = (w.heap.size + 1)) (g := (w.heap.size + 1)) (j := 0) (u := .slice none 0 0) rfl)).trans (turn_set (G := fun b => b = (w.heap.size + 1)) (g := (w.heap.size + 1)) (j := 1) (u := .int .i64 0) rfl)).trans (turn_set (G := fun b => b = (w.heap.size + 1)) (g := (w.heap.size + 1)) (j := 2) (u := .int .i64 0) rfl)).trans (turn_set (G := fun b => b = (w.heap.size + 1)) (g := (w.heap.size + 1)) (j := 3) (u := .slice none 0 0) rfl)).trans (turn_set (G := fun b => b = (w.heap.size + 1)) (g := (w.heap.size + 1)) (j := 4) (u := .slice none 0 0) rfl)).trans (turn_set (G := fun b => b = (w.heap.size + 1)) (g := (w.heap.size + 1)) (j := 5) (u := .slice none 0 0) rfl)).trans (turn_set (G := fun b => b = (w.heap.size + 1)) (g := (w.heap.size + 1)) (j := 6) (u := .slice none 0 0) rfl)).trans (turn_set (G := fun b => b = (w.heap.size + 1)) (g := (w.heap.size + 1)) (j := 7) (u := .int .i64 0) rfl))
    have r := (heap_setCell_same _ (w.heap.size + 1) 7 _ _ (.int .i64 0) (heap_setCell_same _ (w.heap.size + 1) 6 _ _ (.slice none 0 0) (heap_setCell_same _ (w.heap.size + 1) 5 _ _ (.slice none 0 0) (heap_setCell_same _ (w.heap.size + 1) 4 _ _ (.slice none 0 0) (heap_setCell_same _ (w.heap.size + 1) 3 _ _ (.slice none 0 0) (heap_setCell_same _ (w.heap.size + 1) 2 _ _ (.int .i64 0) (heap_setCell_same _ (w.heap.size + 1) 1 _ _ (.int .i64 0) (heap_setCell_same _ (w.heap.size + 1) 0 _ _ (.slice none 0 0) B1.out))))))))
    simp at r
    have e0 := (cell_of_row _ _ 0 _ _ _ r).trans (show _ = some (Value.slice none 0 0) from rfl)
    have e1 := (cell_of_row _ _ 1 _ _ _ r).trans (show _ = some (Value.int .i64 0) from rfl)
    have e2 := (cell_of_row _ _ 2 _ _ _ r).trans (show _ = some (Value.int .i64 0) from rfl)
    have e3 := (cell_of_row _ _ 3 _ _ _ r).trans (show _ = some (Value.slice none 0 0) from rfl)
    have e4 := (cell_of_row _ _ 4 _ _ _ r).trans (show _ = some (Value.slice none 0 0) from rfl)
    have e5 := (cell_of_row _ _ 5 _ _ _ r).trans (show _ = some (Value.slice none 0 0) from rfl)
    have e6 := (cell_of_row _ _ 6 _ _ _ r).trans (show _ = some (Value.slice none 0 0) from rfl)
    have e7 := (cell_of_row _ _ 7 _ _ _ r).trans (show _ = some (Value.int .i64 0) from rfl)
    have y0 := YW.out
    have y1 := Z_W1.out
    have DF := Lib.hid (below_turn d.out tt (fun b h => by omega) d.out.size)
    clear tt r y0 y1
    go_wp2
    refine bodyPost_ret (v := .tuple #[.agg #[.slice none 0 0, .int .i64 0, .int .i64 0, .slice none 0 0, .slice none 0 0, .slice none 0 0, .slice none 0 0, .int .i64 0], .bool false]) ?_ rfl ?_
    · simp [results, Try.f16, go_sem, e0, e1, e2, e3, e4, e5, e6, e7]
    · rw [HF.out]
      exact ⟨[.slice none 0 0, .int .i64 0, .int .i64 0, .slice none 0 0, .slice none 0 0, .slice none 0 0, .slice none 0 0, .int .i64 0], (fun _ => False), rfl, tEngine_mkO (F := fun _ => False) (slO_nil _ _ _ (fun _ => False)) (slO_nil _ _ _ (fun _ => False)) (slO_nil _ _ _ (fun _ => False)) (slO_nil _ _ _ (fun _ => False)) (slO_nil _ _ _ (fun _ => False)) (fun b h => h) (fun b h => h) (fun b h => h) (fun b h => h) (fun b h => h) (fun b h _ => h) (fun b h _ => h) (fun b h _ => h) (fun b h _ => h) (fun b h _ => h) (fun b h _ => h) (fun b h _ => h) (fun b h _ => h) (fun b h _ => h) (fun b h _ => h), (fun b h => h.elim), DF.out⟩
  have HF : Hid (newE (ss, now) = (((ss, now), 0, [0, 1, 2], [], [], [], 0), true)) := Lib.hid (by unfold newE; rw [hst]; rfl)
  rw [hst]
  clear hst
  have p_B0_0 := (cell_of_row W1 _ 0 _ _ _ B0.out).trans (show _ = some (Value.slice sa ss.length sc) from rfl)
  have p_B0_1 := (cell_of_row W1 _ 1 _ _ _ B0.out).trans (show _ = some (Value.int .i64 now) from rfl)
  have p_B1_0 := (cell_of_row W1 _ 0 _ _ _ B1.out).trans (show _ = some (Value.slice none 0 0) from rfl)
  have p_B1_1 := (cell_of_row W1 _ 1 _ _ _ B1.out).trans (show _ = some (Value.int .i64 0) from rfl)
  have p_B1_2 := (cell_of_row W1 _ 2 _ _ _ B1.out).trans (show _ = some (Value.int .i64 0) from rfl)
  have p_B1_3 := (cell_of_row W1 _ 3 _ _ _ B1.out).trans (show _ = some (Value.slice none 0 0) from rfl)
  have p_B1_4 := (cell_of_row W1 _ 4 _ _ _ B1.out).trans (show _ = some (Value.slice none 0 0) from rfl)
  have p_B1_5 := (cell_of_row W1 _ 5 _ _ _ B1.out).trans (show _ = some (Value.slice none 0 0) from rfl)
  have p_B1_6 := (cell_of_row W1 _ 6 _ _ _ B1.out).trans (show _ = some (Value.slice none 0 0) from rfl)
  have p_B1_7 := (cell_of_row W1 _ 7 _ _ _ B1.out).trans (show _ = some (Value.int .i64 0) from rfl)
  have d1 := d
  go_wp2_with fail
  clear p_B0_0 p_B0_1 p_B1_0 p_B1_1 p_B1_2 p_B1_3 p_B1_4 p_B1_5 p_B1_6 p_B1_7
  refine (specCopy (.slice sa ss.length sc) ss now W1 (slR_below tVersionS_law H0.out d.out) S0.out).mono ?_
  rintro e W8 ⟨cs, rfl, ow, c⟩
  replace ow := tStore_law.lt ow
  obtain ⟨u0, K0, rfl, o0, q0⟩ := tStore_O ow
  obtain ⟨ua, uc, rfl⟩ := slO_len o0
  have Q0 : Hid (∀ b, K0 b → W1.heap.size ≤ b ∧ b < W8.heap.size) := Lib.hid (fun b h => q0 b h)
  have P0 := Lib.hid o0
  clear ow o0 q0
  replace B0 := Lib.hid ((c.block w.heap.size (Array.getElem?_eq_some_iff.1 B0.out).1).trans B0.out)
  replace B1 := Lib.hid ((c.block (w.heap.size + 1) (Array.getElem?_eq_some_iff.1 B1.out).1).trans B1.out)
  replace d := Lib.hid (d.out.trans (c.mono d.out.size))
  have Z_W8 := Lib.hid (show W1.heap.size ≤ W8.heap.size from c.size)
  clear c
  have d8 := d
  have hal : Below W8.heap.size W8 (W8.alloc (.cells #[.int .i64 0, .int .i64 1, .int .i64 2] 3)) := (Below.refl _ _).alloc (Nat.le_refl _) _
  have p3 := heap_alloc_new W8 (.cells #[.int .i64 0, .int .i64 1, .int .i64 2] 3)
  have P3 : Hid (SlO 3 tInt (W8.alloc (.cells #[.int .i64 0, .int .i64 1, .int .i64 2] 3)) (fun b => b = W8.heap.size) (.slice (some ⟨W8.heap.size, 0, none⟩) 3 3) [0, 1, 2]) := Lib.hid (slO_three p3)
  have Q3 : Hid (∀ b, b = W8.heap.size → W8.heap.size ≤ b ∧ b < (W8.alloc (.cells #[.int .i64 0, .int .i64 1, .int .i64 2] 3)).heap.size) := Lib.hid (fun b h => ⟨Nat.le_of_eq h.symm, by rw [h]; simp [World.size_alloc]⟩)
  clear p3
  replace B0 := Lib.hid ((hal.block w.heap.size (Array.getElem?_eq_some_iff.1 B0.out).1).trans B0.out)
  replace B1 := Lib.hid ((hal.block (w.heap.size + 1) (Array.getElem?_eq_some_iff.1 B1.out).1).trans B1.out)
  replace P0 := Lib.hid (slO_fresh tVersionS_law P0.out hal)
  replace d := Lib.hid (d.out.trans (hal.mono d.out.size))
  clear hal
  have Z_3 := Lib.hid (show W8.heap.size < (W8.alloc (.cells #[.int .i64 0, .int .i64 1, .int .i64 2] 3)).heap.size by simp [World.size_alloc])
  have p_B0_0 := (cell_of_row (W8.alloc (.cells #[.int .i64 0, .int .i64 1, .int .i64 2] 3)) _ 0 _ _ _ B0.out).trans (show _ = some (Value.slice sa ss.length sc) from rfl)
  have p_B0_1 := (cell_of_row (W8.alloc (.cells #[.int .i64 0, .int .i64 1, .int .i64 2] 3)) _ 1 _ _ _ B0.out).trans (show _ = some (Value.int .i64 now) from rfl)
  have p_B1_0 := (cell_of_row (W8.alloc (.cells #[.int .i64 0, .int .i64 1, .int .i64 2] 3)) _ 0 _ _ _ B1.out).trans (show _ = some (Value.slice none 0 0) from rfl)
  have p_B1_1 := (cell_of_row (W8.alloc (.cells #[.int .i64 0, .int .i64 1, .int .i64 2] 3)) _ 1 _ _ _ B1.out).trans (show _ = some (Value.int .i64 0) from rfl)
  have p_B1_2 := (cell_of_row (W8.alloc (.cells #[.int .i64 0, .int .i64 1, .int .i64 2] 3)) _ 2 _ _ _ B1.out).trans (show _ = some (Value.int .i64 0) from rfl)
  have p_B1_3 := (cell_of_row (W8.alloc (.cells #[.int .i64 0, .int .i64 1, .int .i64 2] 3)) _ 3 _ _ _ B1.out).trans (show _ = some (Value.slice none 0 0) from rfl)
  have p_B1_4 := (cell_of_row (W8.alloc (.cells #[.int .i64 0, .int .i64 1, .int .i64 2] 3)) _ 4 _ _ _ B1.out).trans (show _ = some (Value.slice none 0 0) from rfl)
  have p_B1_5 := (cell_of_row (W8.alloc (.cells #[.int .i64 0, .int .i64 1, .int .i64 2] 3)) _ 5 _ _ _ B1.out).trans (show _ = some (Value.slice none 0 0) from rfl)
  have p_B1_6 := (cell_of_row (W8.alloc (.cells #[.int .i64 0, .int .i64 1, .int .i64 2] 3)) _ 6 _ _ _ B1.out).trans (show _ = some (Value.slice none 0 0) from rfl)
  have p_B1_7 := (cell_of_row (W8.alloc (.cells #[.int .i64 0, .int .i64 1, .int .i64 2] 3)) _ 7 _ _ _ B1.out).trans (show _ = some (Value.int .i64 0) from rfl)
  have f_B1_0 := frozen_of_row (W8.alloc (.cells #[.int .i64 0, .int .i64 1, .int .i64 2] 3)) _ 0 _ _ B1.out
  have f_B1_1 := frozen_of_row (W8.alloc (.cells #[.int .i64 0, .int .i64 1, .int .i64 2] 3)) _ 1 _ _ B1.out
  have f_B1_2 := frozen_of_row (W8.alloc (.cells #[.int .i64 0, .int .i64 1, .int .i64 2] 3)) _ 2 _ _ B1.out
  have f_B1_3 := frozen_of_row (W8.alloc (.cells #[.int .i64 0, .int .i64 1, .int .i64 2] 3)) _ 3 _ _ B1.out
  have f_B1_4 := frozen_of_row (W8.alloc (.cells #[.int .i64 0, .int .i64 1, .int .i64 2] 3)) _ 4 _ _ B1.out
  have f_B1_5 := frozen_of_row (W8.alloc (.cells #[.int .i64 0, .int .i64 1, .int .i64 2] 3)) _ 5 _ _ B1.out
  have f_B1_6 := frozen_of_row (W8.alloc (.cells #[.int .i64 0, .int .i64 1, .int .i64 2] 3)) _ 6 _ _ B1.out
  have f_B1_7 := frozen_of_row (W8.alloc (.cells #[.int .i64 0, .int .i64 1, .int .i64 2] 3)) _ 7 _ _ B1.out
  have tt : Turn (fun b => b = (w.heap.size + 1)) (W8.alloc (.cells #[.int .i64 0, .int .i64 1, .int .i64 2] 3)) (((((((((W8.alloc (.cells #[.int .i64 0, .int .i64 1, .int .i64 2] 3)).setCell ⟨(w.heap.size + 1), 0, none⟩ (.slice ua ss.length uc)).setCell ⟨(w.heap.size + 1), 1, none⟩ (.int .i64 now)).setCell ⟨(w.heap.size + 1), 2, none⟩ (.int .i64 0)).setCell ⟨(w.heap.size + 1), 3, none⟩ (.slice (some ⟨W8.heap.size, 0, none⟩) 3 3)).setCell ⟨(w.heap.size + 1), 4, none⟩ (.slice none 0 0)).setCell ⟨(w.heap.size + 1), 5, none⟩ (.slice none 0 0)).setCell ⟨(w.heap.size + 1), 6, none⟩ (.slice none 0 0)).setCell ⟨(w.heap.size + 1), 7, none⟩ (.int .i64 0)) := (((((((((Turn.refl (fun b => b = (w.heap.size + 1)) (W8.alloc (.cells #[.int .i64 0, .int .i64 1, .int .i64 2] 3))).trans (turn_set (G := fun b => b = (w.heap.size + 1)) (g := (w.heap.size + 1)) (j := 0) (u := .slice ua ss.length uc) rfl)).trans (turn_set (G := fun b => b = (w.heap.size + 1)) (g := (w.heap.size + 1)) (j := 1) (u := .int .i64 now) rfl)).trans (turn_set (G := fun b => b = (w.heap.size + 1)) (g := (w.heap.size + 1)) (j := 2) (u := .int .i64 0) rfl)).trans (turn_set (G := fun b => b = (w.heap.size + 1)) (g := (w.heap.size + 1)) (j := 3) (u := .slice (some ⟨W8.heap.size, 0, none⟩) 3 3) rfl)).trans (turn_set (G := fun b => b = (w.heap.size + 1)) (g := (w.heap.size + 1)) (j := 4) (u := .slice none 0 0) rfl)).trans (turn_set (G := fun b => b = (w.heap.size + 1)) (g := (w.heap.size + 1)) (j := 5) (u := .slice none 0 0) rfl)).trans (turn_set (G := fun b => b = (w.heap.size + 1)) (g := (w.heap.size + 1)) (j := 6) (u := .slice none 0 0) rfl)).trans (turn_set (G := fun b => b = (w.heap.size + 1)) (g := (w.heap.size + 1)) (j := 7) (u := .int .i64 0) rfl))
  have r := (heap_setCell_same _ (w.heap.size + 1) 7 _ _ (.int .i64 0) (heap_setCell_same _ (w.heap.size + 1) 6 _ _ (.slice none 0 0) (heap_setCell_same _ (w.heap.size + 1) 5 _ _ (.slice none 0 0) (heap_setCell_same _ (w.heap.size + 1) 4 _ _ (.slice none 0 0) (heap_setCell_same _ (w.heap.size + 1) 3 _ _ (.slice (some ⟨W8.heap.size, 0, none⟩) 3 3) (heap_setCell_same _ (w.heap.size + 1) 2 _ _ (.int .i64 0) (heap_setCell_same _ (w.heap.size + 1) 1 _ _ (.int .i64 now) (heap_setCell_same _ (w.heap.size + 1) 0 _ _ (.slice ua ss.length uc) B1.out))))))))
  simp at r
  have e0 := (cell_of_row _ _ 0 _ _ _ r).trans (show _ = some (Value.slice ua ss.length uc) from rfl)
  have e1 := (cell_of_row _ _ 1 _ _ _ r).trans (show _ = some (Value.int .i64 now) from rfl)
  have e2 := (cell_of_row _ _ 2 _ _ _ r).trans (show _ = some (Value.int .i64 0) from rfl)
  have e3 := (cell_of_row _ _ 3 _ _ _ r).trans (show _ = some (Value.slice (some ⟨W8.heap.size, 0, none⟩) 3 3) from rfl)
  have e4 := (cell_of_row _ _ 4 _ _ _ r).trans (show _ = some (Value.slice none 0 0) from rfl)
  have e5 := (cell_of_row _ _ 5 _ _ _ r).trans (show _ = some (Value.slice none 0 0) from rfl)
  have e6 := (cell_of_row _ _ 6 _ _ _ r).trans (show _ = some (Value.slice none 0 0) from rfl)
  have e7 := (cell_of_row _ _ 7 _ _ _ r).trans (show _ = some (Value.int .i64 0) from rfl)
  have y0 := YW.out
  have y1 := Z_W1.out
  have y2 := Z_W8.out
  have y3 := Z_3.out
  have PFP0 := Lib.hid (slO_turn tVersionS_law P0.out tt (fun b h1 h2 => by have r1 := Q0.out b h1; omega))
  have PFP3 := Lib.hid (slO_turn tInt_law P3.out tt (fun b h1 h2 => by have r1 := Q3.out b h1; omega))
  have DF := Lib.hid (below_turn d.out tt (fun b h => by omega) d.out.size)
  clear tt r y0 y1 y2 y3
  go_wp2
  refine bodyPost_ret (v := .tuple #[.agg #[.slice ua ss.length uc, .int .i64 now, .int .i64 0, .slice (some ⟨W8.heap.size, 0, none⟩) 3 3, .slice none 0 0, .slice none 0 0, .slice none 0 0, .int .i64 0], .bool true]) ?_ rfl ?_
  · simp [results, Try.f16, go_sem, e0, e1, e2, e3, e4, e5, e6, e7]
  · rw [HF.out]
    exact ⟨[.slice ua ss.length uc, .int .i64 now, .int .i64 0, .slice (some ⟨W8.heap.size, 0, none⟩) 3 3, .slice none 0 0, .slice none 0 0, .slice none 0 0, .int .i64 0], (fun b => w.heap.size ≤ b), rfl, tEngine_mkO (F := fun b => w.heap.size ≤ b) PFP0.out PFP3.out (slO_nil _ _ _ (fun _ => False)) (slO_nil _ _ _ (fun _ => False)) (slO_nil _ _ _ (fun _ => False)) (fun b h => by have r1 := Q0.out b h; have := d1.out.size; show w.heap.size ≤ b; omega) (fun b h => by have r1 := Q3.out b h; have := d8.out.size; show w.heap.size ≤ b; omega) (fun b h => h.elim) (fun b h => h.elim) (fun b h => h.elim) (fun b h1 h2 => by have r1 := Q0.out b h1; have r2 := Q3.out b h2; omega) (fun b _ h => h) (fun b _ h => h) (fun b _ h => h) (fun b _ h => h) (fun b _ h => h) (fun b _ h => h) (fun b _ h => h) (fun b _ h => h) (fun b _ h => h), (fun b h => h), DF.out⟩
set_option maxHeartbeats 8000000 in
set_option maxRecDepth 100000 in
theorem implNewEngine (sv : Value) (ss : List (List VerD)) (now : Int) (w : World) (h : SlR tVersionS w sv ss) (hs : zL tVersionS ss ≤ 1048576) :
    Calls Try.prog 17 #[.agg #[sv, .int .i64 now]] w (FreshEB w (newE (ss, now))) := by
  obtain ⟨sa, sc, rfl⟩ := slR_len h
  have H0 := Lib.hid h
  have S0 := Lib.hid hs
  clear h hs
  have d := Lib.hid (show Below w.heap.size w ((w.alloc (.cells #[.slice sa ss.length sc, .int .i64 now] 30)).alloc (.cells #[.slice none 0 0, .int .i64 0, .int .i64 0, .slice none 0 0, .slice none 0 0, .slice none 0 0, .slice none 0 0, .int .i64 0] 42)) from (((Below.refl _ w).alloc (Nat.le_refl _) _).alloc (by simp) _))
  have B0 : Hid (((w.alloc (.cells #[.slice sa ss.length sc, .int .i64 now] 30)).alloc (.cells #[.slice none 0 0, .int .i64 0, .int .i64 0, .slice none 0 0, .slice none 0 0, .slice none 0 0, .slice none 0 0, .int .i64 0] 42)).heap[w.heap.size]? = some (.cells #[.slice sa ss.length sc, .int .i64 now] 30 (0, 0))) := Lib.hid (by
    rw [Below.heap_alloc _ _ _ (by simp)]
    exact heap_alloc_new w _)
  have B1 : Hid (((w.alloc (.cells #[.slice sa ss.length sc, .int .i64 now] 30)).alloc (.cells #[.slice none 0 0, .int .i64 0, .int .i64 0, .slice none 0 0, .slice none 0 0, .slice none 0 0, .slice none 0 0, .int .i64 0] 42)).heap[(w.heap.size + 1)]? = some (.cells #[.slice none 0 0, .int .i64 0, .int .i64 0, .slice none 0 0, .slice none 0 0, .slice none 0 0, .slice none 0 0, .int .i64 0] 42 (0, 0))) := Lib.hid (by
    have := heap_alloc_new (w.alloc (.cells #[.slice sa ss.length sc, .int .i64 now] 30)) (.cells #[.slice none 0 0, .int .i64 0, .int .i64 0, .slice none 0 0, .slice none 0 0, .slice none 0 0, .slice none 0 0, .int .i64 0] 42)
    simpa only [World.size_alloc] using this)
  have YW : Hid (w.heap.size + 2 ≤ ((w.alloc (.cells #[.slice sa ss.length sc, .int .i64 now] 30)).alloc (.cells #[.slice none 0 0, .int .i64 0, .int .i64 0, .slice none 0 0, .slice none 0 0, .slice none 0 0, .slice none 0 0, .int .i64 0] 42)).heap.size) := Lib.hid (by simp [World.size_alloc])
  go_enter Try.func17, Try.ntmps17
  go_wp2_with fail
  generalize ((w.alloc (.cells #[.slice sa ss.length sc, .int .i64 now] 30)).alloc (.cells #[.slice none 0 0, .int .i64 0, .int .i64 0, .slice none 0 0, .slice none 0 0, .slice none 0 0, .slice none 0 0, .int .i64 0] 42)) = W at *
  refine (implIsStore (.slice sa ss.length sc) ss now W (slR_below tVersionS_law H0.out d.out) S0.out).mono ?_
  rintro e W1 ⟨rfl, c⟩
  replace B0 := Lib.hid ((c.block w.heap.size (Array.getElem?_eq_some_iff.1 B0.out).1).trans B0.out)
  replace B1 := Lib.hid ((c.block (w.heap.size + 1) (Array.getElem?_eq_some_iff.1 B1.out).1).trans B1.out)
  replace d := Lib.hid (d.out.trans (c.mono d.out.size))
  have Z_W1 := Lib.hid (show W.heap.size ≤ W1.heap.size from c.size)
  clear c
  rcases Bool.eq_false_or_eq_true (storeB ss now) with hst | hst
  rotate_left
  · rw [hst]
    have HF : Hid (newE (ss, now) = ((([], 0), 0, [], [], [], [], 0), false)) := Lib.hid (by unfold newE; rw [hst]; rfl)
    clear hst
    have p_B0_0 := (cell_of_row W1 _ 0 _ _ _ B0.out).trans (show _ = some (Value.slice sa ss.length sc) from rfl)
    have p_B0_1 := (cell_of_row W1 _ 1 _ _ _ B0.out).trans (show _ = some (Value.int .i64 now) from rfl)
    have p_B1_0 := (cell_of_row W1 _ 0 _ _ _ B1.out).trans (show _ = some (Value.slice none 0 0) from rfl)
    have p_B1_1 := (cell_of_row W1 _ 1 _ _ _ B1.out).trans (show _ = some (Value.int .i64 0) from rfl)
    have p_B1_2 := (cell_of_row W1 _ 2 _ _ _ B1.out).trans (show _ = some (Value.int .i64 0) from rfl)
    have p_B1_3 := (cell_of_row W1 _ 3 _ _ _ B1.out).trans (show _ = some (Value.slice none 0 0) from rfl)
    have p_B1_4 := (cell_of_row W1 _ 4 _ _ _ B1.out).trans (show _ = some (Value.slice none 0 0) from rfl)
    have p_B1_5 := (cell_of_row W1 _ 5 _ _ _ B1.out).trans (show _ = some (Value.slice none 0 0) from rfl)
    have p_B1_6 := (cell_of_row W1 _ 6 _ _ _ B1.out).trans (show _ = some (Value.slice none 0 0) from rfl)
    have p_B1_7 := (cell_of_row W1 _ 7 _ _ _ B1.out).trans (show _ = some (Value.int .i64 0) from rfl)
    have f_B1_0 := frozen_of_row W1 _ 0 _ _ B1.out
    have f_B1_1 := frozen_of_row W1 _ 1 _ _ B1.out
    have f_B1_2 := frozen_of_row W1 _ 2 _ _ B1.out
    have f_B1_3 := frozen_of_row W1 _ 3 _ _ B1.out
    have f_B1_4 := frozen_of_row W1 _ 4 _ _ B1.out
    have f_B1_5 := frozen_of_row W1 _ 5 _ _ B1.out
    have f_B1_6 := frozen_of_row W1 _ 6 _ _ B1.out
    have f_B1_7 := frozen_of_row W1 _ 7 _ _ B1.out
    have tt : Turn (fun b => b = (w.heap.size + 1)) W1 ((((((((W1.setCell ⟨(w.heap.size + 1), 0, none⟩ (.slice none 0 0)).setCell ⟨(w.heap.size + 1), 1, none⟩ (.int .i64 0)).setCell ⟨(w.heap.size + 1), 2, none⟩ (.int .i64 0)).setCell ⟨(w.heap.size + 1), 3, none⟩ (.slice none 0 0)).setCell ⟨(w.heap.size + 1), 4, none⟩ (.slice none 0 0)).setCell ⟨(w.heap.size + 1), 5, none⟩ (.slice none 0 0)).setCell ⟨(w.heap.size + 1), 6, none⟩ (.slice none 0 0)).setCell ⟨(w.heap.size + 1), 7, none⟩ (.int .i64 0)) := (((((((((Turn.refl (fun b => b = (w.heap.size + 1)) W1).trans (turn_set (G := fun b => b = (w.heap.size + 1)) (g := (w.heap.size + 1)) (j := 0) (u := .slice none 0 0) rfl)).trans (turn_set (G := fun b => b = (w.heap.size + 1)) (g := (w.heap.size + 1)) (j := 1) (u := .int .i64 0) rfl)).trans (turn_set (G := fun b => b = (w.heap.size + 1)) (g := (w.heap.size + 1)) (j := 2) (u := .int .i64 0) rfl)).trans (turn_set (G := fun b => b = (w.heap.size + 1)) (g := (w.heap.size + 1)) (j := 3) (u := .slice none 0 0) rfl)).trans (turn_set (G := fun b => b = (w.heap.size + 1)) (g := (w.heap.size + 1)) (j := 4) (u := .slice none 0 0) rfl)).trans (turn_set (G := fun b => b = (w.heap.size + 1)) (g := (w.heap.size + 1)) (j := 5) (u := .slice none 0 0) rfl)).trans (turn_set (G := fun b => b = (w.heap.size + 1)) (g := (w.heap.size + 1)) (j := 6) (u := .slice none 0 0) rfl)).trans (turn_set (G := fun b => b = (w.heap.size + 1)) (g := (w.heap.size + 1)) (j := 7) (u := .int .i64 0) rfl))
    have r := (heap_setCell_same _ (w.heap.size + 1) 7 _ _ (.int .i64 0) (heap_setCell_same _ (w.heap.size + 1) 6 _ _ (.slice none 0 0) (heap_setCell_same _ (w.heap.size + 1) 5 _ _ (.slice none 0 0) (heap_setCell_same _ (w.heap.size + 1) 4 _ _ (.slice none 0 0) (heap_setCell_same _ (w.heap.size + 1) 3 _ _ (.slice none 0 0) (heap_setCell_same _ (w.heap.size + 1) 2 _ _ (.int .i64 0) (heap_setCell_same _ (w.heap.size + 1) 1 _ _ (.int .i64 0) (heap_setCell_same _ (w.heap.size + 1) 0 _ _ (.slice none 0 0) B1.out))))))))
    simp at r
    have e0 := (cell_of_row _ _ 0 _ _ _ r).trans (show _ = some (Value.slice none 0 0) from rfl)
    have e1 := (cell_of_row _ _ 1 _ _ _ r).trans (show _ = some (Value.int .i64 0) from rfl)
    have e2 := (cell_of_row _ _ 2 _ _ _ r).trans (show _ = some (Value.int .i64 0) from rfl)
    have e3 := (cell_of_row _ _ 3 _ _ _ r).trans (show _ = some (Value.slice none 0 0) from rfl)
    have e4 := (cell_of_row _ _ 4 _ _ _ r).trans (show _ = some (Value.slice none 0 0) from rfl)
    have e5 := (cell_of_row _ _ 5 _ _ _ r).trans (show _ = some (Value.slice none 0 0) from rfl)
    have e6 := (cell_of_row _ _ 6 _ _ _ r).trans (show _ = some (Value.slice none 0 0) from rfl)
    have e7 := (cell_of_row _ _ 7 _ _ _ r).trans (show _ = some (Value.int .i64 0) from rfl)
    have y0 := YW.out
    have y1 := Z_W1.out
    have DF := Lib.hid (below_turn d.out tt (fun b h => by omega) d.out.size)
    clear tt r y0 y1
    go_wp2
    refine bodyPost_ret (v := .tuple #[.agg #[.slice none 0 0, .int .i64 0, .int .i64 0, .slice none 0 0, .slice none 0 0, .slice none 0 0, .slice none 0 0, .int .i64 0], .bool false]) ?_ rfl ?_
    · simp [results, Try.f17, go_sem, e0, e1, e2, e3, e4, e5, e6, e7]
    · rw [HF.out]
      exact ⟨[.slice none 0 0, .int .i64 0, .int .i64 0, .slice none 0 0, .slice none 0 0, .slice none 0 0, .slice none 0 0, .int .i64 0], (fun _ => False), rfl, tEngine_mkO (F := fun _ => False) (slO_nil _ _ _ (fun _ => False)) (slO_nil _ _ _ (fun _ => False)) (slO_nil _ _ _ (fun _ => False)) (slO_nil _ _ _ (fun _ => False)) (slO_nil _ _ _ (fun _ => False)) (fun b h => h) (fun b h => h) (fun b h => h) (fun b h => h) (fun b h => h) (fun b h _ => h) (fun b h _ => h) (fun b h _ => h) (fun b h _ => h) (fun b h _ => h) (fun b h _ => h) (fun b h _ => h) (fun b h _ => h) (fun b h _ => h) (fun b h _ => h), (fun b h => h.elim), DF.out⟩
  have HF : Hid (newE (ss, now) = (((ss, now), 0, [0, 1, 2], [], [], [], 0), true)) := Lib.hid (by unfold newE; rw [hst]; rfl)
  rw [hst]
  clear hst
  have p_B0_0 := (cell_of_row W1 _ 0 _ _ _ B0.out).trans (show _ = some (Value.slice sa ss.length sc) from rfl)
  have p_B0_1 := (cell_of_row W1 _ 1 _ _ _ B0.out).trans (show _ = some (Value.int .i64 now) from rfl)
  have p_B1_0 := (cell_of_row W1 _ 0 _ _ _ B1.out).trans (show _ = some (Value.slice none 0 0) from rfl)
  have p_B1_1 := (cell_of_row W1 _ 1 _ _ _ B1.out).trans (show _ = some (Value.int .i64 0) from rfl)
  have p_B1_2 := (cell_of_row W1 _ 2 _ _ _ B1.out).trans (show _ = some (Value.int .i64 0) from rfl)
  have p_B1_3 := (cell_of_row W1 _ 3 _ _ _ B1.out).trans (show _ = some (Value.slice none 0 0) from rfl)
  have p_B1_4 := (cell_of_row W1 _ 4 _ _ _ B1.out).trans (show _ = some (Value.slice none 0 0) from rfl)
  have p_B1_5 := (cell_of_row W1 _ 5 _ _ _ B1.out).trans (show _ = some (Value.slice none 0 0) from rfl)
  have p_B1_6 := (cell_of_row W1 _ 6 _ _ _ B1.out).trans (show _ = some (Value.slice none 0 0) from rfl)
  have p_B1_7 := (cell_of_row W1 _ 7 _ _ _ B1.out).trans (show _ = some (Value.int .i64 0) from rfl)
  have d1 := d
  go_wp2_with fail
  clear p_B0_0 p_B0_1 p_B1_0 p_B1_1 p_B1_2 p_B1_3 p_B1_4 p_B1_5 p_B1_6 p_B1_7
  refine (copyStore_P now (.slice sa ss.length sc) ss W1 (slR_below tVersionS_law H0.out d.out) S0.out).mono ?_
  rintro e W8 ⟨cs, rfl, ow, c⟩
  replace ow := tStore_law.lt ow
  obtain ⟨u0, K0, rfl, o0, q0⟩ := tStore_O ow
  obtain ⟨ua, uc, rfl⟩ := slO_len o0
  have Q0 : Hid (∀ b, K0 b → W1.heap.size ≤ b ∧ b < W8.heap.size) := Lib.hid (fun b h => q0 b h)
  have P0 := Lib.hid o0
  clear ow o0 q0
  replace B0 := Lib.hid ((c.block w.heap.size (Array.getElem?_eq_some_iff.1 B0.out).1).trans B0.out)
  replace B1 := Lib.hid ((c.block (w.heap.size + 1) (Array.getElem?_eq_some_iff.1 B1.out).1).trans B1.out)
  replace d := Lib.hid (d.out.trans (c.mono d.out.size))
  have Z_W8 := Lib.hid (show W1.heap.size ≤ W8.heap.size from c.size)
  clear c
  have d8 := d
  have hal : Below W8.heap.size W8 (W8.alloc (.cells #[.int .i64 0, .int .i64 1, .int .i64 2] 3)) := (Below.refl _ _).alloc (Nat.le_refl _) _
  have p3 := heap_alloc_new W8 (.cells #[.int .i64 0, .int .i64 1, .int .i64 2] 3)
  have P3 : Hid (SlO 3 tInt (W8.alloc (.cells #[.int .i64 0, .int .i64 1, .int .i64 2] 3)) (fun b => b = W8.heap.size) (.slice (some ⟨W8.heap.size, 0, none⟩) 3 3) [0, 1, 2]) := Lib.hid (slO_three p3)
  have Q3 : Hid (∀ b, b = W8.heap.size → W8.heap.size ≤ b ∧ b < (W8.alloc (.cells #[.int .i64 0, .int .i64 1, .int .i64 2] 3)).heap.size) := Lib.hid (fun b h => ⟨Nat.le_of_eq h.symm, by rw [h]; simp [World.size_alloc]⟩)
  clear p3
  replace B0 := Lib.hid ((hal.block w.heap.size (Array.getElem?_eq_some_iff.1 B0.out).1).trans B0.out)
  replace B1 := Lib.hid ((hal.block (w.heap.size + 1) (Array.getElem?_eq_some_iff.1 B1.out).1).trans B1.out)
  replace P0 := Lib.hid (slO_fresh tVersionS_law P0.out hal)
  replace d := Lib.hid (d.out.trans (hal.mono d.out.size))
  clear hal
  have Z_3 := Lib.hid (show W8.heap.size < (W8.alloc (.cells #[.int .i64 0, .int .i64 1, .int .i64 2] 3)).heap.size by simp [World.size_alloc])
  have p_B0_0 := (cell_of_row (W8.alloc (.cells #[.int .i64 0, .int .i64 1, .int .i64 2] 3)) _ 0 _ _ _ B0.out).trans (show _ = some (Value.slice sa ss.length sc) from rfl)
  have p_B0_1 := (cell_of_row (W8.alloc (.cells #[.int .i64 0, .int .i64 1, .int .i64 2] 3)) _ 1 _ _ _ B0.out).trans (show _ = some (Value.int .i64 now) from rfl)
  have p_B1_0 := (cell_of_row (W8.alloc (.cells #[.int .i64 0, .int .i64 1, .int .i64 2] 3)) _ 0 _ _ _ B1.out).trans (show _ = some (Value.slice none 0 0) from rfl)
  have p_B1_1 := (cell_of_row (W8.alloc (.cells #[.int .i64 0, .int .i64 1, .int .i64 2] 3)) _ 1 _ _ _ B1.out).trans (show _ = some (Value.int .i64 0) from rfl)
  have p_B1_2 := (cell_of_row (W8.alloc (.cells #[.int .i64 0, .int .i64 1, .int .i64 2] 3)) _ 2 _ _ _ B1.out).trans (show _ = some (Value.int .i64 0) from rfl)
  have p_B1_3 := (cell_of_row (W8.alloc (.cells #[.int .i64 0, .int .i64 1, .int .i64 2] 3)) _ 3 _ _ _ B1.out).trans (show _ = some (Value.slice none 0 0) from rfl)
  have p_B1_4 := (cell_of_row (W8.alloc (.cells #[.int .i64 0, .int .i64 1, .int .i64 2] 3)) _ 4 _ _ _ B1.out).trans (show _ = some (Value.slice none 0 0) from rfl)
  have p_B1_5 := (cell_of_row (W8.alloc (.cells #[.int .i64 0, .int .i64 1, .int .i64 2] 3)) _ 5 _ _ _ B1.out).trans (show _ = some (Value.slice none 0 0) from rfl)
  have p_B1_6 := (cell_of_row (W8.alloc (.cells #[.int .i64 0, .int .i64 1, .int .i64 2] 3)) _ 6 _ _ _ B1.out).trans (show _ = some (Value.slice none 0 0) from rfl)
  have p_B1_7 := (cell_of_row (W8.alloc (.cells #[.int .i64 0, .int .i64 1, .int .i64 2] 3)) _ 7 _ _ _ B1.out).trans (show _ = some (Value.int .i64 0) from rfl)
  have f_B1_0 := frozen_of_row (W8.alloc (.cells #[.int .i64 0, .int .i64 1, .int .i64 2] 3)) _ 0 _ _ B1.out
  have f_B1_1 := frozen_of_row (W8.alloc (.cells #[.int .i64 0, .int .i64 1, .int .i64 2] 3)) _ 1 _ _ B1.out
  have f_B1_2 := frozen_of_row (W8.alloc (.cells #[.int .i64 0, .int .i64 1, .int .i64 2] 3)) _ 2 _ _ B1.out
  have f_B1_3 := frozen_of_row (W8.alloc (.cells #[.int .i64 0, .int .i64 1, .int .i64 2] 3)) _ 3 _ _ B1.out
  have f_B1_4 := frozen_of_row (W8.alloc (.cells #[.int .i64 0, .int .i64 1, .int .i64 2] 3)) _ 4 _ _ B1.out
  have f_B1_5 := frozen_of_row (W8.alloc (.cells #[.int .i64 0, .int .i64 1, .int .i64 2] 3)) _ 5 _ _ B1.out
  have f_B1_6 := frozen_of_row (W8.alloc (.cells #[.int .i64 0, .int .i64 1, .int .i64 2] 3)) _ 6 _ _ B1.out
  have f_B1_7 := frozen_of_row (W8.alloc (.cells #[.int .i64 0, .int .i64 1, .int .i64 2] 3)) _ 7 _ _ B1.out
  have tt : Turn (fun b => b = (w.heap.size + 1)) (W8.alloc (.cells #[.int .i64 0, .int .i64 1, .int .i64 2] 3)) (((((((((W8.alloc (.cells #[.int .i64 0, .int .i64 1, .int .i64 2] 3)).setCell ⟨(w.heap.size + 1), 0, none⟩ (.slice ua ss.length uc)).setCell ⟨(w.heap.size + 1), 1, none⟩ (.int .i64 now)).setCell ⟨(w.heap.size + 1), 2, none⟩ (.int .i64 0)).setCell ⟨(w.heap.size + 1), 3, none⟩ (.slice (some ⟨W8.heap.size, 0, none⟩) 3 3)).setCell ⟨(w.heap.size + 1), 4, none⟩ (.slice none 0 0)).setCell ⟨(w.heap.size + 1), 5, none⟩ (.slice none 0 0)).setCell ⟨(w.heap.size + 1), 6, none⟩ (.slice none 0 0)).setCell ⟨(w.heap.size + 1), 7, none⟩ (.int .i64 0)) := (((((((((Turn.refl (fun b => b = (w.heap.size + 1)) (W8.alloc (.cells #[.int .i64 0, .int .i64 1, .int .i64 2] 3))).trans (turn_set (G := fun b => b = (w.heap.size + 1)) (g := (w.heap.size + 1)) (j := 0) (u := .slice ua ss.length uc) rfl)).trans (turn_set (G := fun b => b = (w.heap.size + 1)) (g := (w.heap.size + 1)) (j := 1) (u := .int .i64 now) rfl)).trans (turn_set (G := fun b => b = (w.heap.size + 1)) (g := (w.heap.size + 1)) (j := 2) (u := .int .i64 0) rfl)).trans (turn_set (G := fun b => b = (w.heap.size + 1)) (g := (w.heap.size + 1)) (j := 3) (u := .slice (some ⟨W8.heap.size, 0, none⟩) 3 3) rfl)).trans (turn_set (G := fun b => b = (w.heap.size + 1)) (g := (w.heap.size + 1)) (j := 4) (u := .slice none 0 0) rfl)).trans (turn_set (G := fun b => b = (w.heap.size + 1)) (g := (w.heap.size + 1)) (j := 5) (u := .slice none 0 0) rfl)).trans (turn_set (G := fun b => b = (w.heap.size + 1)) (g := (w.heap.size + 1)) (j := 6) (u := .slice none 0 0) rfl)).trans (turn_set (G := fun b => b = (w.heap.size + 1)) (g := (w.heap.size + 1)) (j := 7) (u := .int .i64 0) rfl))
  have r := (heap_setCell_same _ (w.heap.size + 1) 7 _ _ (.int .i64 0) (heap_setCell_same _ (w.heap.size + 1) 6 _ _ (.slice none 0 0) (heap_setCell_same _ (w.heap.size + 1) 5 _ _ (.slice none 0 0) (heap_setCell_same _ (w.heap.size + 1) 4 _ _ (.slice none 0 0) (heap_setCell_same _ (w.heap.size + 1) 3 _ _ (.slice (some ⟨W8.heap.size, 0, none⟩) 3 3) (heap_setCell_same _ (w.heap.size + 1) 2 _ _ (.int .i64 0) (heap_setCell_same _ (w.heap.size + 1) 1 _ _ (.int .i64 now) (heap_setCell_same _ (w.heap.size + 1) 0 _ _ (.slice ua ss.length uc) B1.out))))))))
  simp at r
  have e0 := (cell_of_row _ _ 0 _ _ _ r).trans (show _ = some (Value.slice ua ss.length uc) from rfl)
  have e1 := (cell_of_row _ _ 1 _ _ _ r).trans (show _ = some (Value.int .i64 now) from rfl)
  have e2 := (cell_of_row _ _ 2 _ _ _ r).trans (show _ = some (Value.int .i64 0) from rfl)
  have e3 := (cell_of_row _ _ 3 _ _ _ r).trans (show _ = some (Value.slice (some ⟨W8.heap.size, 0, none⟩) 3 3) from rfl)
  have e4 := (cell_of_row _ _ 4 _ _ _ r).trans (show _ = some (Value.slice none 0 0) from rfl)
  have e5 := (cell_of_row _ _ 5 _ _ _ r).trans (show _ = some (Value.slice none 0 0) from rfl)
  have e6 := (cell_of_row _ _ 6 _ _ _ r).trans (show _ = some (Value.slice none 0 0) from rfl)
  have e7 := (cell_of_row _ _ 7 _ _ _ r).trans (show _ = some (Value.int .i64 0) from rfl)
  have y0 := YW.out
  have y1 := Z_W1.out
  have y2 := Z_W8.out
  have y3 := Z_3.out
  have PFP0 := Lib.hid (slO_turn tVersionS_law P0.out tt (fun b h1 h2 => by have r1 := Q0.out b h1; omega))
  have PFP3 := Lib.hid (slO_turn tInt_law P3.out tt (fun b h1 h2 => by have r1 := Q3.out b h1; omega))
  have DF := Lib.hid (below_turn d.out tt (fun b h => by omega) d.out.size)
  clear tt r y0 y1 y2 y3
  go_wp2
  refine bodyPost_ret (v := .tuple #[.agg #[.slice ua ss.length uc, .int .i64 now, .int .i64 0, .slice (some ⟨W8.heap.size, 0, none⟩) 3 3, .slice none 0 0, .slice none 0 0, .slice none 0 0, .int .i64 0], .bool true]) ?_ rfl ?_
  · simp [results, Try.f17, go_sem, e0, e1, e2, e3, e4, e5, e6, e7]
  · rw [HF.out]
    exact ⟨[.slice ua ss.length uc, .int .i64 now, .int .i64 0, .slice (some ⟨W8.heap.size, 0, none⟩) 3 3, .slice none 0 0, .slice none 0 0, .slice none 0 0, .int .i64 0], (fun b => w.heap.size ≤ b), rfl, tEngine_mkO (F := fun b => w.heap.size ≤ b) PFP0.out PFP3.out (slO_nil _ _ _ (fun _ => False)) (slO_nil _ _ _ (fun _ => False)) (slO_nil _ _ _ (fun _ => False)) (fun b h => by have r1 := Q0.out b h; have := d1.out.size; show w.heap.size ≤ b; omega) (fun b h => by have r1 := Q3.out b h; have := d8.out.size; show w.heap.size ≤ b; omega) (fun b h => h.elim) (fun b h => h.elim) (fun b h => h.elim) (fun b h1 h2 => by have r1 := Q0.out b h1; have r2 := Q3.out b h2; omega) (fun b _ h => h) (fun b _ h => h) (fun b _ h => h) (fun b _ h => h) (fun b _ h => h) (fun b _ h => h) (fun b _ h => h) (fun b _ h => h) (fun b _ h => h), (fun b h => h), DF.out⟩
end Go.Proofs.Ytdhglmoanpkeoaa
namespace Go.Proofs.Ytdhglmoanpkeoaa
open Go.RowKit
set_option linter.unusedVariables false
set_option linter.unusedSimpArgs false
theorem rowB_three {r : RowD} (h : rowB r = true) : r.2.length = 3 := by
  unfold rowB at h
  rw [Bool.and_eq_true, Bool.and_eq_true] at h
  exact of_decide_eq_true h.2.2
theorem verB_three {v : VerD} {now : Int} (h : verB v now = true) : v.2.1.length = 3 := by
  unfold verB at h
  rw [Bool.and_eq_true] at h
  exact rowB_three h.1
theorem sum_le_mul {c : Nat} : ∀ {l : List Nat}, (∀ x ∈ l, x ≤ c) → l.sum ≤ c * l.length
  | [], _ => by simp
  | x :: l, h => by
    have h1 := h x (by simp)
    have h2 := sum_le_mul (l := l) (c := c) (fun y hy => h y (by simp [hy]))
    simp only [List.sum_cons, List.length_cons, Nat.mul_add, Nat.mul_one]
    omega
theorem zL_threes {l : List VerD} (h : ∀ j, j < l.length → (l.getD j v0D).2.1.length ≤ 3) : zL tVersion l ≤ 4 * l.length := by
  rw [zL_sum]
  have := sum_le_mul (c := 3) (l := l.map tVersion.sz) (fun x hx => by
    obtain ⟨v, hv, rfl⟩ := List.mem_map.1 hx
    obtain ⟨j, hj, rfl⟩ := List.getElem_of_mem hv
    rw [ver_sz]
    have := h j hj
    simpa [List.getD, hj] using this)
  rw [List.length_map] at this
  omega
theorem flat_short {ss : List (List VerD)} (h : ShortP ss ss.length) : ss.flatten.length ≤ 4 * ss.length := by
  rw [List.length_flatten]
  have := sum_le_mul (c := 4) (l := ss.map List.length) (fun x hx => by
    obtain ⟨s, hs, rfl⟩ := List.mem_map.1 hx
    obtain ⟨j, hj, rfl⟩ := List.getElem_of_mem hs
    have := h j hj
    simpa [List.getD, hj] using this)
  rw [List.length_map] at this
  exact this
theorem store_small {ss : List (List VerD)} {now : Int} (h : storeB ss now = true) : zL tVersionS ss ≤ 136 := by
  obtain ⟨⟨h1, _⟩, h2, h3⟩ := store_iff h
  have g1 := flat_short h2
  have g2 := zL_threes (l := ss.flatten) (fun j hj => Nat.le_of_eq (verB_three (h3 j hj).1))
  have g3 := zL_all ss
  omega
end Go.Proofs.Ytdhglmoanpkeoaa
