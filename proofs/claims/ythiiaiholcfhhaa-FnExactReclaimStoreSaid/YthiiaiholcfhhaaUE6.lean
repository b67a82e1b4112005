/-
 Texts of the proof, merged: UpdSpec8, VerP5, VerP6, CopyVersX, CopyStoreX, UpdP3, UpdP4, RowEqP, UpdP1, UpdP1u, UpdEqP, UpdP2, UpdP5.
-/
import Derived.Test.YthiiaiholcfhhaaUE1
import Derived.Test.YthiiaiholcfhhaaUE2
import Derived.Test.YthiiaiholcfhhaaUE3
import Derived.Test.YthiiaiholcfhhaaUE4
import Derived.Test.YthiiaiholcfhhaaUE5
import Derived.Deep.Cut
namespace Go.Proofs.Ythiiaiholcfhhaa
open Go.RowKit
set_option linter.unusedVariables false
set_option linter.unusedSimpArgs false
theorem flat_le {ss : List (List VerD)} (hs : zL tVersionS ss ≤ 1048576) : ss.flatten.length ≤ 1048576 := by
 rw [← zL_all, zL_sum] at hs; omega
theorem seg_le {ss : List (List VerD)} (hs : zL tVersionS ss ≤ 1048576) {k : Nat} (hk : k < ss.length) : (ss.getD k []).length ≤ 1048576 := by
 have h1 := flat_le hs
 have h2 := cat_len hk
 have h3 := cat_le ss (k + 1)
 omega
set_option maxHeartbeats 16000000 in
set_option maxRecDepth 100000 in
theorem specReclaimStore (now : Int) (sv kv : Value) (ss : List (List VerD)) (keep : List Int) (w : World) (h : SlR tVersionS w sv ss) (hs : zL tVersionS ss ≤ 1048576) (g : SlR tInt w kv keep) (hkn : keep.length ≤ 1048576) :
  Calls Try.prog 28 #[.agg #[sv, .int .i64 now], kv] w (FreshNI w (reclaimB (ss, now) keep)) := by
 obtain ⟨a, cap, rfl⟩ := slR_len h
 have HSL := Lib.hid (zL_len hs)
 have HZS := Lib.hid hs
 have H := Lib.hid h
 have G := Lib.hid g
 have HKN := Lib.hid hkn
 have HC := Lib.hid (fun W h => specCopy (.slice a ss.length cap) ss now W h hs)
 have HIS := Lib.hid (fun W h => specIsStore (.slice a ss.length cap) ss now W h hs)
 obtain ⟨ka, kc, rfl⟩ := slR_len g
 clear h g hs hkn
 cases hst : storeB ss now with
 | false =>
  have HE : Hid (reclaimB (ss, now) keep = ((ss, now), 0)) := Lib.hid (reclaim_no hst)
  rw [hst] at HIS
  clear hst
  have d := Lib.hid (show Below w.heap.size w ((w.alloc (.cells #[.slice a ss.length cap, .int .i64 now] 41)).alloc (.cells #[.slice none 0 0, .int .i64 0] 41)) from ((Below.refl _ _).alloc (Nat.le_refl _) _).alloc (by simp <;> omega) _)
  have B0 : Hid (((w.alloc (.cells #[.slice a ss.length cap, .int .i64 now] 41)).alloc (.cells #[.slice none 0 0, .int .i64 0] 41)).heap[w.heap.size]? = some (.cells #[.slice a ss.length cap, .int .i64 now] 41 (0, 0))) := Lib.hid (by
   rw [Below.heap_alloc _ _ _ (by simp <;> omega)]; exact heap_alloc_new w (.cells #[.slice a ss.length cap, .int .i64 now] 41))
  have BZ : Hid (((w.alloc (.cells #[.slice a ss.length cap, .int .i64 now] 41)).alloc (.cells #[.slice none 0 0, .int .i64 0] 41)).heap[(w.heap.size + 1)]? = some (.cells #[.slice none 0 0, .int .i64 0] 41 (0, 0))) := Lib.hid (by
   have := heap_alloc_new (w.alloc (.cells #[.slice a ss.length cap, .int .i64 now] 41)) (.cells #[.slice none 0 0, .int .i64 0] 41)
   simpa only [World.size_alloc] using this)
  have YW : Hid (w.heap.size + 1 < ((w.alloc (.cells #[.slice a ss.length cap, .int .i64 now] 41)).alloc (.cells #[.slice none 0 0, .int .i64 0] 41)).heap.size) := Lib.hid (by simp)
  go_enter Try.func28, Try.ntmps28
  go_wp2_with fail
  generalize ((w.alloc (.cells #[.slice a ss.length cap, .int .i64 now] 41)).alloc (.cells #[.slice none 0 0, .int .i64 0] 41)) = W at *
  refine (HC.out W (slR_below tVersionS_law H.out d.out)).mono ?_
  rintro e w4 ⟨cs, rfl, oc, c4⟩
  obtain ⟨fv, F4, rfl, of, q4⟩ := tStore_O (tStore_law.lt oc)
  obtain ⟨fa, fc, rfl⟩ := slO_len of
  have PF := Lib.hid (slO_mono of q4)
  replace B0 := Lib.hid ((c4.block w.heap.size (Array.getElem?_eq_some_iff.1 B0.out).1).trans B0.out)
  replace BZ := Lib.hid ((c4.block (w.heap.size + 1) (Array.getElem?_eq_some_iff.1 BZ.out).1).trans BZ.out)
  replace d := Lib.hid (d.out.trans (c4.mono d.out.size))
  have Z_w4 := Lib.hid (show W.heap.size ≤ w4.heap.size from c4.size)
  have QF := Lib.hid (fun q (h : since W q ∧ q < w4.heap.size) => (show W.heap.size ≤ q ∧ q < w4.heap.size from h))
  clear oc of q4 c4
  have hal : Below w4.heap.size w4 (w4.alloc (.cells #[.slice fa ss.length fc, .int .i64 now] 41)) := (Below.refl _ _).alloc (Nat.le_refl _) _
  have BX := Lib.hid (heap_alloc_new w4 (.cells #[.slice fa ss.length fc, .int .i64 now] 41))
  have Y_X := Lib.hid (show w4.heap.size < (w4.alloc (.cells #[.slice fa ss.length fc, .int .i64 now] 41)).heap.size by simp [World.size_alloc])
  replace B0 := Lib.hid ((hal.block w.heap.size (Array.getElem?_eq_some_iff.1 B0.out).1).trans B0.out)
  replace BZ := Lib.hid ((hal.block (w.heap.size + 1) (Array.getElem?_eq_some_iff.1 BZ.out).1).trans BZ.out)
  replace PF := Lib.hid (slO_fresh tVersionS_law PF.out hal)
  replace d := Lib.hid (d.out.trans (hal.mono d.out.size))
  clear hal
  have p_B0_0 := (cell_of_row (w4.alloc (.cells #[.slice fa ss.length fc, .int .i64 now] 41)) _ 0 _ _ _ B0.out).trans (show _ = some (Value.slice a ss.length cap) from rfl)
  have p_B0_1 := (cell_of_row (w4.alloc (.cells #[.slice fa ss.length fc, .int .i64 now] 41)) _ 1 _ _ _ B0.out).trans (show _ = some (Value.int .i64 now) from rfl)
  go_wp2_with fail
  clear p_B0_0 p_B0_1
  generalize w4.alloc (.cells #[.slice fa ss.length fc, .int .i64 now] 41) = w5 at *
  refine (HIS.out w5 (slR_below tVersionS_law H.out d.out)).mono ?_
  rintro e w6 ⟨rfl, c6⟩
  replace B0 := Lib.hid ((c6.block w.heap.size (Array.getElem?_eq_some_iff.1 B0.out).1).trans B0.out)
  replace BZ := Lib.hid ((c6.block (w.heap.size + 1) (Array.getElem?_eq_some_iff.1 BZ.out).1).trans BZ.out)
  replace BX := Lib.hid ((c6.block w4.heap.size (Array.getElem?_eq_some_iff.1 BX.out).1).trans BX.out)
  replace PF := Lib.hid (slO_fresh tVersionS_law PF.out c6)
  replace d := Lib.hid (d.out.trans (c6.mono d.out.size))
  have Z_w6 := Lib.hid (show w5.heap.size ≤ w6.heap.size from c6.size)
  clear c6
  have p_BX_0 := (cell_of_row w6 _ 0 _ _ _ BX.out).trans (show _ = some (Value.slice fa ss.length fc) from rfl)
  have p_BX_1 := (cell_of_row w6 _ 1 _ _ _ BX.out).trans (show _ = some (Value.int .i64 now) from rfl)
  have p_BZ_0 := (cell_of_row w6 _ 0 _ _ _ BZ.out).trans (show _ = some (Value.slice none 0 0) from rfl)
  have p_BZ_1 := (cell_of_row w6 _ 1 _ _ _ BZ.out).trans (show _ = some (Value.int .i64 0) from rfl)
  have f_BZ_0 := frozen_of_row w6 _ 0 _ _ BZ.out
  have f_BZ_1 := frozen_of_row w6 _ 1 _ _ BZ.out
  have tt : Turn (fun q => q = w.heap.size + 1) w6 ((w6.setCell ⟨w.heap.size + 1, 0, none⟩ (.slice fa ss.length fc)).setCell ⟨w.heap.size + 1, 1, none⟩ (.int .i64 now)) := ((Turn.refl (fun q => q = w.heap.size + 1) _).trans (turn_set (G := fun q => q = w.heap.size + 1) (g := w.heap.size + 1) (j := 0) (u := .slice fa ss.length fc) rfl)).trans (turn_set (G := fun q => q = w.heap.size + 1) (g := w.heap.size + 1) (j := 1) (u := .int .i64 now) rfl)
  have r := heap_setCell_same _ (w.heap.size + 1) 1 _ _ (.int .i64 now) (heap_setCell_same w6 (w.heap.size + 1) 0 _ _ (.slice fa ss.length fc) BZ.out)
  have e0 := cell_of_row _ _ 0 _ _ _ r
  have e1 := cell_of_row _ _ 1 _ _ _ r
  simp at e0 e1
  have y0 := YW.out
  have y1 := Z_w4.out
  have y2 := Y_X.out
  have y3 := Z_w6.out
  have DF := Lib.hid (below_turn d.out tt (fun q h => by omega) d.out.size)
  have PE := Lib.hid (slO_turn tVersionS_law PF.out tt (fun q h1 h2 => by have r1 := QF.out q h1; omega))
  have QE := Lib.hid (fun q h => (show w.heap.size ≤ q by have r1 := QF.out q h; omega))
  clear tt r y0 y1 y2 y3
  go_wp2
  refine bodyPost_ret (v := .tuple #[.agg #[.slice fa ss.length fc, .int .i64 now], .int .i64 0]) ?_ rfl ?_
  ·
   simp [results, Try.f28, go_sem, e0, e1]
  ·
   show FreshNI _ _ _ _; rw [HE.out]; exact ⟨[.slice fa ss.length fc, .int .i64 now], _, rfl, tStore_mkO PE.out (fun q h => h), QE.out, DF.out⟩
 | true =>
  have HST := Lib.hid hst
  rw [hst] at HIS
  clear hst
  have d := Lib.hid (show Below w.heap.size w ((w.alloc (.cells #[.slice a ss.length cap, .int .i64 now] 41)).alloc (.cells #[.slice none 0 0, .int .i64 0] 41)) from ((Below.refl _ _).alloc (Nat.le_refl _) _).alloc (by simp <;> omega) _)
  have B0 : Hid (((w.alloc (.cells #[.slice a ss.length cap, .int .i64 now] 41)).alloc (.cells #[.slice none 0 0, .int .i64 0] 41)).heap[w.heap.size]? = some (.cells #[.slice a ss.length cap, .int .i64 now] 41 (0, 0))) := Lib.hid (by
   rw [Below.heap_alloc _ _ _ (by simp <;> omega)]; exact heap_alloc_new w (.cells #[.slice a ss.length cap, .int .i64 now] 41))
  have BZ : Hid (((w.alloc (.cells #[.slice a ss.length cap, .int .i64 now] 41)).alloc (.cells #[.slice none 0 0, .int .i64 0] 41)).heap[(w.heap.size + 1)]? = some (.cells #[.slice none 0 0, .int .i64 0] 41 (0, 0))) := Lib.hid (by
   have := heap_alloc_new (w.alloc (.cells #[.slice a ss.length cap, .int .i64 now] 41)) (.cells #[.slice none 0 0, .int .i64 0] 41)
   simpa only [World.size_alloc] using this)
  have YW : Hid (w.heap.size + 1 < ((w.alloc (.cells #[.slice a ss.length cap, .int .i64 now] 41)).alloc (.cells #[.slice none 0 0, .int .i64 0] 41)).heap.size) := Lib.hid (by simp)
  go_enter Try.func28, Try.ntmps28
  go_wp2_with fail
  generalize ((w.alloc (.cells #[.slice a ss.length cap, .int .i64 now] 41)).alloc (.cells #[.slice none 0 0, .int .i64 0] 41)) = W at *
  refine (HC.out W (slR_below tVersionS_law H.out d.out)).mono ?_
  rintro e w4 ⟨cs, rfl, oc, c4⟩
  obtain ⟨fv, F4, rfl, of, q4⟩ := tStore_O (tStore_law.lt oc)
  obtain ⟨fa, fc, rfl⟩ := slO_len of
  have PF := Lib.hid (slO_mono of q4)
  replace B0 := Lib.hid ((c4.block w.heap.size (Array.getElem?_eq_some_iff.1 B0.out).1).trans B0.out)
  replace BZ := Lib.hid ((c4.block (w.heap.size + 1) (Array.getElem?_eq_some_iff.1 BZ.out).1).trans BZ.out)
  replace d := Lib.hid (d.out.trans (c4.mono d.out.size))
  have Z_w4 := Lib.hid (show W.heap.size ≤ w4.heap.size from c4.size)
  have QF := Lib.hid (fun q (h : since W q ∧ q < w4.heap.size) => (show W.heap.size ≤ q ∧ q < w4.heap.size from h))
  clear oc of q4 c4
  have hal : Below w4.heap.size w4 (w4.alloc (.cells #[.slice fa ss.length fc, .int .i64 now] 41)) := (Below.refl _ _).alloc (Nat.le_refl _) _
  have BX := Lib.hid (heap_alloc_new w4 (.cells #[.slice fa ss.length fc, .int .i64 now] 41))
  have Y_X := Lib.hid (show w4.heap.size < (w4.alloc (.cells #[.slice fa ss.length fc, .int .i64 now] 41)).heap.size by simp [World.size_alloc])
  replace B0 := Lib.hid ((hal.block w.heap.size (Array.getElem?_eq_some_iff.1 B0.out).1).trans B0.out)
  replace BZ := Lib.hid ((hal.block (w.heap.size + 1) (Array.getElem?_eq_some_iff.1 BZ.out).1).trans BZ.out)
  replace PF := Lib.hid (slO_fresh tVersionS_law PF.out hal)
  replace d := Lib.hid (d.out.trans (hal.mono d.out.size))
  clear hal
  have p_B0_0 := (cell_of_row (w4.alloc (.cells #[.slice fa ss.length fc, .int .i64 now] 41)) _ 0 _ _ _ B0.out).trans (show _ = some (Value.slice a ss.length cap) from rfl)
  have p_B0_1 := (cell_of_row (w4.alloc (.cells #[.slice fa ss.length fc, .int .i64 now] 41)) _ 1 _ _ _ B0.out).trans (show _ = some (Value.int .i64 now) from rfl)
  go_wp2_with fail
  clear p_B0_0 p_B0_1
  generalize w4.alloc (.cells #[.slice fa ss.length fc, .int .i64 now] 41) = w5 at *
  refine (HIS.out w5 (slR_below tVersionS_law H.out d.out)).mono ?_
  rintro e w6 ⟨rfl, c6⟩
  replace B0 := Lib.hid ((c6.block w.heap.size (Array.getElem?_eq_some_iff.1 B0.out).1).trans B0.out)
  replace BZ := Lib.hid ((c6.block (w.heap.size + 1) (Array.getElem?_eq_some_iff.1 BZ.out).1).trans BZ.out)
  replace BX := Lib.hid ((c6.block w4.heap.size (Array.getElem?_eq_some_iff.1 BX.out).1).trans BX.out)
  replace PF := Lib.hid (slO_fresh tVersionS_law PF.out c6)
  replace d := Lib.hid (d.out.trans (c6.mono d.out.size))
  have Z_w6 := Lib.hid (show w5.heap.size ≤ w6.heap.size from c6.size)
  clear c6
  have y0 := YW.out
  have y1 := Z_w4.out
  have y2 := Y_X.out
  have y3 := Z_w6.out
  have PS := Lib.hid (slO_mono PF.out (F' := fun q => w.heap.size + 1 < q ∧ q ≠ w4.heap.size) (fun q h => by have r := QF.out q h; exact ⟨by omega, by omega⟩))
  have zz : w.heap.size + 1 < w4.heap.size ∧ w4.heap.size < w6.heap.size := ⟨by omega, by omega⟩
  have ZZ := Lib.hid zz
  clear PF QF zz YW Z_w4 Y_X Z_w6 y0 y1 y2 y3
  generalize w4.heap.size = R at *
  go_wp2
  go_loopw [7, 8] (fun c i wr => ∃ k : Nat, k ≤ ss.length ∧ i = .int .i64 k ∧ c = .int .i64 ((cntTo keep ss k : Nat) : Int) ∧ wr.heap[w.heap.size]? = some (.cells #[.slice a ss.length cap, .int .i64 now] 41 (0, 0)) ∧ wr.heap[w.heap.size + 1]? = some (.cells #[.slice none 0 0, .int .i64 0] 41 (0, 0)) ∧ wr.heap[R]? = some (.cells #[.slice fa ss.length fc, .int .i64 now] 41 (0, 0)) ∧ SlO 89 tVersionS wr (fun q => w.heap.size + 1 < q ∧ q ≠ R) (.slice fa ss.length fc) (recTo keep ss k) ∧ Below w.heap.size w wr ∧ R < wr.heap.size) (fun _ i _ => ss.length - (intOf i).toNat)
  case atStart => exact ⟨0, Nat.zero_le _, rfl, by rw [cnt_zero]; rfl, B0.out, BZ.out, BX.out, by rw [rec_zero]; exact PS.out, d.out, ZZ.out.2⟩
  case round =>
   obtain ⟨k, hk, rfl, rfl, r0, r1, r2, hown, hbel, hsz⟩ := hrel
   generalize wr = w1 at *
   clear B0 BZ BX PS d
   have B0 := Lib.hid r0
   have BZ := Lib.hid r1
   have BX := Lib.hid r2
   have d := Lib.hid hbel
   have ZR := Lib.hid hsz
   have hsl := HSL.out
   have c0 := (cell_of_row w1 _ 0 _ _ _ r0).trans (show _ = some (Value.slice a ss.length cap) from rfl)
   clear r0 r1 r2 hbel hsz
   by_cases hlt : k < ss.length
   ·
    have i1 : (0 : Int) ≤ (k : Int) := by omega
    have i2 : (k : Int) < (ss.length : Int) := by omega
    obtain ⟨g, gcap, u, Fj, hv, hFg, hg, hcell, hu, hFj, hput⟩ := segs_put (slO_lt tVersionS_law hown) (Nat.le_refl _) (fun q hq => by have z1 := ZR.out; have z2 := ZZ.out.1; exact ⟨by omega, by omega⟩) (r := k) (by rw [rec_len]; exact hlt)
    rw [rec_at hlt] at hu
    simp only [Value.slice.injEq] at hv
    have hgg := hv.1
    have hgc := hv.2.2
    clear hv
    subst hgg
    subst hgc
    have HPUT := Lib.hid hput
    have HFG : Hid (w.heap.size + 1 < g ∧ g ≠ R) := Lib.hid hFg
    have HG := Lib.hid hg
    have HCELL := Lib.hid hcell
    have HSET := Lib.hid (rec_step (keep := keep) hlt)
    have HCN := Lib.hid (cnt_step (keep := keep) hlt)
    have hcb : cntTo keep ss k ≤ 1048576 := Nat.le_trans (cnt_le hk) (flat_le HZS.out)
    have HLL := Lib.hid (seg_le HZS.out hlt)
    generalize cntTo keep ss k = cc at *
    generalize ss.getD k [] = l at *
    obtain ⟨us, Fs, he, hd⟩ := slO_each tVersion_law hu
    have HFORM := Lib.hid (slO_form hu)
    obtain ⟨ua, uc, rfl⟩ := slO_len hu
    have HE := Lib.hid he
    have HKO := Lib.hid (fun (wz : World) (pv : Value) (h : SlO 88 (tRaw 4) wz (fun b => w1.heap.size ≤ b) pv ((keptI keep l l.length).map us)) (hb : Below w1.heap.size w1 wz) => kept_own (u := .bool false) (Fj := Fj) h (fun j hj => ⟨(he j hj).1, (he j hj).2.1⟩) hd hb)
    clear hown hFg hg hcell hput he hd hu hFj
    have E0 := Lib.hid (slO_empty (T := tRaw 4) w1 88 (fun q => w1.heap.size ≤ q) (Nat.le_refl _))
    have DE := Lib.hid ((Below.refl w1.heap.size w1).alloc (Nat.le_refl _) (.cells #[] 88))
    go_wp2
    clear c0
    generalize w1.alloc (.cells #[] 88) = we at *
    go_loopw [7, 9, 10] (fun c nv i wm => ∃ j : Nat, j ≤ l.length ∧ i = .int .i64 j ∧ c = .int .i64 ((cc + (j - (keptI keep l j).length) : Nat) : Int) ∧ SlO 88 (tRaw 4) wm (fun q => w1.heap.size ≤ q) nv ((keptI keep l j).map us) ∧ Below w1.heap.size w1 wm) (fun _ _ i _ => l.length - (intOf i).toNat)
    case atStart => exact ⟨0, Nat.zero_le _, rfl, rfl, E0.out, DE.out⟩
    case round =>
     obtain ⟨j, hj, rfl, rfl, hon, hb⟩ := hrel
     generalize wr = wm at *
     clear E0 DE
     have hll := HLL.out
     have hkj := kept_len_le keep l j
     obtain ⟨n0, hn0⟩ : ∃ n0, n0 = cc + (j - (keptI keep l j).length) := ⟨_, rfl⟩
     rw [← hn0]
     have hnb : n0 ≤ 2097152 := by omega
     have HN0C := Lib.hid hn0
     have HKJ := Lib.hid hkj
     clear hn0 hkj
     have BXm := Lib.hid ((hb.block R ZR.out).trans BX.out)
     have b0 := (cell_of_row wm _ 0 _ _ _ BXm.out).trans (show _ = some (Value.slice (some ⟨g, 0, none⟩) ss.length fc) from rfl)
     have hce := (hb.cell (p := ⟨g, k, none⟩) HG.out).trans HCELL.out
     obtain ⟨oa, oc, hov⟩ := slO_len hon
     obtain ⟨m, hm⟩ : ∃ m, m = (List.map us (keptI keep l j)).length := ⟨_, rfl⟩
     rw [← hm] at hov
     subst hov
     have HM := Lib.hid hm
     clear hm
     by_cases hjt : j < l.length
     ·
      have j1 : (0 : Int) ≤ (j : Int) := by omega
      have j2 : (j : Int) < (l.length : Int) := by omega
      obtain ⟨gv, gc, hgv, hgvl⟩ : ∃ gv gc, Value.slice ua l.length uc = .slice (some ⟨gv, 0, none⟩) l.length gc ∧ gv < w1.heap.size := by
       rcases HFORM.out with ⟨_, e⟩ | ⟨gv, gc, e, _, e2⟩
       ·
        rw [e] at hjt; simp at hjt
       ·
        exact ⟨gv, gc, e, e2⟩
      simp only [Value.slice.injEq] at hgv
      have hgg := hgv.1
      have hgc := hgv.2.2
      clear hgv
      subst hgg
      subst hgc
      obtain ⟨h1, _, h3⟩ := HE.out j hjt
      have h4 := h3 gv _ _ rfl
      have HKY := Lib.hid (fun q => kept_yes (keep := keep) (l := l) (k := j) q)
      have HKN2 := Lib.hid (fun q => kept_no (keep := keep) (l := l) (k := j) q)
      have e3 : l.getD j tVersion.d = l.getD j v0D := rfl
      rw [e3] at h1
      generalize l.getD j v0D = x at *
      obtain ⟨id, xs, born, died⟩ := x
      obtain ⟨v1, F2, hcs, hv1, _⟩ := tVersion_O h1
      obtain ⟨xa, xc, rfl⟩ := slO_len hv1
      have HUS := Lib.hid hcs
      rw [hcs] at h4
      have c0 := (hb.cell (p := ⟨gv, j * 4 + 0, none⟩) hgvl).trans ((h4 0 (by decide)).trans (show _ = some (Value.int .i64 id) from rfl))
      have c1 := (hb.cell (p := ⟨gv, j * 4 + 1, none⟩) hgvl).trans ((h4 1 (by decide)).trans (show _ = some (Value.slice xa xs.length xc) from rfl))
      have c2 := (hb.cell (p := ⟨gv, j * 4 + 2, none⟩) hgvl).trans ((h4 2 (by decide)).trans (show _ = some (Value.int .i64 born) from rfl))
      have c3 := (hb.cell (p := ⟨gv, j * 4 + 3, none⟩) hgvl).trans ((h4 3 (by decide)).trans (show _ = some (Value.int .i64 died) from rfl))
      rw [Nat.add_zero] at c0
      have hal : Below wm.heap.size wm (wm.alloc (.cells #[.int .i64 id, .slice xa xs.length xc, .int .i64 born, .int .i64 died] 88)) := (Below.refl _ _).alloc (Nat.le_refl _) _
      have BV := Lib.hid (heap_alloc_new wm (.cells #[.int .i64 id, .slice xa xs.length xc, .int .i64 born, .int .i64 died] 88))
      have p3 := (cell_of_row _ _ 3 _ _ _ BV.out).trans (show _ = some (Value.int .i64 died) from rfl)
      have dm := Lib.hid (hb.trans (hal.mono hb.size))
      have OW := Lib.hid (slO_fresh (tRaw_law (by decide)) (slO_lt (tRaw_law (by decide)) hon) hal)
      have YM : Hid (wm.heap.size < (wm.alloc (.cells #[.int .i64 id, .slice xa xs.length xc, .int .i64 born, .int .i64 died] 88)).heap.size) := Lib.hid (by simp [World.size_alloc])
      clear h1 h3 h4 hcs hv1 hon hal e3 BXm hb
      have HN0 := Lib.hid (needT_zero keep (id, xs, born, died))
      have HB0 := Lib.hid (d.out.trans (dm.out.mono d.out.size))
      go_wp2
      clear c0 c1 c2 c3 p3 b0 hce
      generalize wm.alloc (.cells #[.int .i64 id, .slice xa xs.length xc, .int .i64 born, .int .i64 died] 88) = wb at *
      go_loopw [12, 13] (fun nd i wi => ∃ q : Nat, q ≤ keep.length ∧ i = .int .i64 q ∧ nd = .bool (needT keep (id, xs, born, died) q) ∧ Below wb.heap.size wb wi) (fun _ i _ => keep.length - (intOf i).toNat)
      case atStart => exact ⟨0, Nat.zero_le _, rfl, by rw [HN0.out]; rfl, Below.refl _ _⟩
      case round =>
       obtain ⟨q, hq, rfl, rfl, hi⟩ := hrel
       generalize wr = wi at *
       have hkn := HKN.out
       by_cases hqt : q < keep.length
       ·
        have q1 : (0 : Int) ≤ (q : Int) := by omega
        have q2 : (q : Int) < (keep.length : Int) := by omega
        obtain ⟨kb, koff, kcap, kcs, hkv, hkbl, hkcs, hkR⟩ := slR_at G.out hqt
        simp only [Value.slice.injEq] at hkv
        have hkk := hkv.1
        have hkc := hkv.2.2
        clear hkv
        subst hkk
        subst hkc
        have hkR2 : kcs = [.int .i64 (keep.getD q 0)] := hkR
        have hk0 := hkcs 0 (by decide)
        rw [show tInt.n = 1 from rfl, Nat.mul_one, Nat.add_zero, hkR2] at hk0
        have KC : Hid (wb.cell? ⟨kb, koff + q, none⟩ = some (.int .i64 (keep.getD q 0))) := Lib.hid ((HB0.out.cell (p := ⟨kb, koff + q, none⟩) hkbl).trans (hk0.trans rfl))
        have HKBL : Hid (kb < wb.heap.size) := Lib.hid (Nat.lt_of_lt_of_le hkbl HB0.out.size)
        have HTS : Hid (needT keep (id, xs, born, died) (q + 1) = (needT keep (id, xs, born, died) q || decide (visP born died (keep.getD q 0)))) := Lib.hid (needT_step hqt)
        have BVi := Lib.hid ((hi.block wm.heap.size YM.out).trans BV.out)
        have di := Lib.hid hi
        clear hkcs hkR hkR2 hk0 hkbl hi
        generalize keep.getD q 0 = t at *
        cases hnd : needT keep (id, xs, born, died) q with
        | true =>
         have HT2 : Hid (needT keep (id, xs, born, died) (q + 1) = true) := Lib.hid (by rw [HTS.out, hnd]; rfl)
         clear hnd HTS
         go_wp2
         have p_BVi_0 := (cell_of_row wi _ 0 _ _ _ BVi.out).trans (show _ = some (Value.int .i64 id) from rfl)
         have p_BVi_1 := (cell_of_row wi _ 1 _ _ _ BVi.out).trans (show _ = some (Value.slice xa xs.length xc) from rfl)
         have p_BVi_2 := (cell_of_row wi _ 2 _ _ _ BVi.out).trans (show _ = some (Value.int .i64 born) from rfl)
         have p_BVi_3 := (cell_of_row wi _ 3 _ _ _ BVi.out).trans (show _ = some (Value.int .i64 died) from rfl)
         have p_KC := (di.out.cell (p := ⟨kb, koff + q, none⟩) HKBL.out).trans KC.out
         refine wp_region_held_drew (S := fun w' => w'.cell? ⟨wm.heap.size, 0, none⟩ = some (Value.int .i64 id) ∧ w'.cell? ⟨wm.heap.size, 1, none⟩ = some (Value.slice xa xs.length xc) ∧ w'.cell? ⟨wm.heap.size, 2, none⟩ = some (Value.int .i64 born) ∧ w'.cell? ⟨wm.heap.size, 3, none⟩ = some (Value.int .i64 died) ∧ w'.cell? ⟨kb, koff + q, none⟩ = some (Value.int .i64 t)) (by kernel_rfl) ⟨p_BVi_0, p_BVi_1, p_BVi_2, p_BVi_3, p_KC⟩ (fun hHeld => ?_)
         clear p_BVi_0 p_BVi_1 p_BVi_2 p_BVi_3 p_KC
         have cdr : Below wi.heap.size wi wi.drew := below_drew (Below.refl _ _)
         replace BVi := Lib.hid ((cdr.block wm.heap.size (Array.getElem?_eq_some_iff.1 BVi.out).1).trans BVi.out)
         replace di := Lib.hid (di.out.trans (cdr.mono di.out.size))
         clear cdr
         have Z_dr := Lib.hid (show wi.heap.size ≤ wi.drew.heap.size from Nat.le_refl _)
         generalize wi.drew = Wd at *
         refine tR (i := 0) (v := ?_) ?_ ?_; rotate_left
         ·
          intro w hSw; (try dsimp only at hSw); go_simp; try (with_reducible rfl)
         try simp only [Act.put, lA, lB, lC]
         refine tR (i := 1) (v := ?_) ?_ ?_; rotate_left
         ·
          intro w hSw; (try dsimp only at hSw); go_simp; try (with_reducible rfl)
         try simp only [Act.put, lA, lB, lC]
         refine tO (i := 2) ?_
         try simp only [Act.put, lA, lB, lC]
         refine tO (i := 3) ?_
         try simp only [Act.put, lA, lB, lC]
         refine tO (i := 4) ?_
         try simp only [Act.put, lA, lB, lC]
         refine tO (i := 5) ?_
         try simp only [Act.put, lA, lB, lC]
         refine tO (i := 6) ?_
         try simp only [Act.put, lA, lB, lC]
         refine tO (i := 7) ?_
         try simp only [Act.put, lA, lB, lC]
         refine tR (i := 8) (v := ?_) ?_ ?_; rotate_left
         ·
          intro w hSw; (try dsimp only at hSw); go_simp; try (with_reducible rfl)
         try simp only [Act.put, lA, lB, lC]
         refine tR (i := 9) (v := ?_) ?_ ?_; rotate_left
         ·
          intro w hSw; (try dsimp only at hSw); go_simp; try (with_reducible rfl)
         try simp only [Act.put, lA, lB, lC]
         refine wpAnyH_done (by kernel_rfl) ?_ _
         clear hHeld
         go_wp2
         go_roundw
         case rel => exact ⟨q + 1, by omega, by go_num, by rw [HT2.out], di.out⟩
         case measure => simp [intOf]; omega
        | false =>
         have HT2 : Hid (needT keep (id, xs, born, died) (q + 1) = decide (visP born died t)) := Lib.hid (by rw [HTS.out, hnd]; rfl)
         clear hnd HTS
         go_wp2
         have p_BVi_0 := (cell_of_row wi _ 0 _ _ _ BVi.out).trans (show _ = some (Value.int .i64 id) from rfl)
         have p_BVi_1 := (cell_of_row wi _ 1 _ _ _ BVi.out).trans (show _ = some (Value.slice xa xs.length xc) from rfl)
         have p_BVi_2 := (cell_of_row wi _ 2 _ _ _ BVi.out).trans (show _ = some (Value.int .i64 born) from rfl)
         have p_BVi_3 := (cell_of_row wi _ 3 _ _ _ BVi.out).trans (show _ = some (Value.int .i64 died) from rfl)
         have p_KC := (di.out.cell (p := ⟨kb, koff + q, none⟩) HKBL.out).trans KC.out
         refine wp_region_held_drew (S := fun w' => w'.cell? ⟨wm.heap.size, 0, none⟩ = some (Value.int .i64 id) ∧ w'.cell? ⟨wm.heap.size, 1, none⟩ = some (Value.slice xa xs.length xc) ∧ w'.cell? ⟨wm.heap.size, 2, none⟩ = some (Value.int .i64 born) ∧ w'.cell? ⟨wm.heap.size, 3, none⟩ = some (Value.int .i64 died) ∧ w'.cell? ⟨kb, koff + q, none⟩ = some (Value.int .i64 t)) (by kernel_rfl) ⟨p_BVi_0, p_BVi_1, p_BVi_2, p_BVi_3, p_KC⟩ (fun hHeld => ?_)
         clear p_BVi_0 p_BVi_1 p_BVi_2 p_BVi_3 p_KC
         have cdr : Below wi.heap.size wi wi.drew := below_drew (Below.refl _ _)
         replace BVi := Lib.hid ((cdr.block wm.heap.size (Array.getElem?_eq_some_iff.1 BVi.out).1).trans BVi.out)
         replace di := Lib.hid (di.out.trans (cdr.mono di.out.size))
         clear cdr
         have Z_dr := Lib.hid (show wi.heap.size ≤ wi.drew.heap.size from Nat.le_refl _)
         generalize wi.drew = Wd at *
         refine tR (i := 0) (v := ?_) ?_ ?_; rotate_left
         ·
          intro w hSw; (try dsimp only at hSw); go_simp; try (with_reducible rfl)
         try simp only [Act.put, lA, lB, lC]
         refine tR (i := 1) (v := ?_) ?_ ?_; rotate_left
         ·
          intro w hSw; (try dsimp only at hSw); go_simp; try (with_reducible rfl)
         try simp only [Act.put, lA, lB, lC]
         refine tR (i := 2) (v := ?_) ?_ ?_; rotate_left
         ·
          intro w hSw; (try dsimp only at hSw); go_simp; try (with_reducible rfl)
         try simp only [Act.put, lA, lB, lC]
         refine tR (i := 3) (v := ?_) ?_ ?_; rotate_left
         ·
          intro w hSw; (try dsimp only at hSw); go_simp; try (with_reducible rfl)
         try simp only [Act.put, lA, lB, lC]
         refine tR (i := 4) (v := ?_) ?_ ?_; rotate_left
         ·
          intro w hSw; (try dsimp only at hSw); go_simp; try (with_reducible rfl)
         try simp only [Act.put, lA, lB, lC]
         refine tR (i := 5) (v := ?_) ?_ ?_; rotate_left
         ·
          intro w hSw; (try dsimp only at hSw); go_simp; try (with_reducible rfl)
         try simp only [Act.put, lA, lB, lC]
         refine tR (i := 6) (v := ?_) ?_ ?_; rotate_left
         ·
          intro w hSw; (try dsimp only at hSw); go_simp; try (with_reducible rfl)
         try simp only [Act.put, lA, lB, lC]
         refine wpAnyH_ready (rs := [7]) (by kernel_rfl) (by simp) ?_
         refine (AllReadyH.cons (o := _) (by simp only [hA, hB, hC]; rfl) (fun K hK => ?_) AllReadyH.nil)
         go_simp
         refine (specVisible id born died t (.slice xa xs.length xc) Wd).mono ?_
         rintro e wv ⟨rfl, cv⟩
         replace BVi := Lib.hid ((cv.block wm.heap.size (Array.getElem?_eq_some_iff.1 BVi.out).1).trans BVi.out)
         replace di := Lib.hid (di.out.trans (cv.mono di.out.size))
         have Z_wv := Lib.hid (show Wd.heap.size ≤ wv.heap.size from cv.size)
         clear cv
         have p_BVi_0 := (cell_of_row wv _ 0 _ _ _ BVi.out).trans (show _ = some (Value.int .i64 id) from rfl)
         have p_BVi_1 := (cell_of_row wv _ 1 _ _ _ BVi.out).trans (show _ = some (Value.slice xa xs.length xc) from rfl)
         have p_BVi_2 := (cell_of_row wv _ 2 _ _ _ BVi.out).trans (show _ = some (Value.int .i64 born) from rfl)
         have p_BVi_3 := (cell_of_row wv _ 3 _ _ _ BVi.out).trans (show _ = some (Value.int .i64 died) from rfl)
         have p_KC := (di.out.cell (p := ⟨kb, koff + q, none⟩) HKBL.out).trans KC.out
         refine hK.out _ _ ⟨p_BVi_0, p_BVi_1, p_BVi_2, p_BVi_3, p_KC⟩ (fun hHeld => ?_)
         clear p_BVi_0 p_BVi_1 p_BVi_2 p_BVi_3 p_KC
         clear hK K
         try simp only [Act.put, lA, lB, lC]
         refine tR (i := 8) (v := ?_) ?_ ?_; rotate_left
         ·
          intro w hSw; (try dsimp only at hSw); go_simp; try (with_reducible rfl)
         try simp only [Act.put, lA, lB, lC]
         refine tR (i := 9) (v := ?_) ?_ ?_; rotate_left
         ·
          intro w hSw; (try dsimp only at hSw); go_simp; try (with_reducible rfl)
         try simp only [Act.put, lA, lB, lC]
         refine wpAnyH_done (by kernel_rfl) ?_ _
         clear hHeld
         go_wp2
         go_roundw
         case rel => exact ⟨q + 1, by omega, by go_num, by rw [HT2.out], di.out⟩
         case measure => simp [intOf]; omega
       ·
        obtain rfl : q = keep.length := by omega
        rw [needT_all]
        have BVi := Lib.hid ((hi.block wm.heap.size YM.out).trans BV.out)
        have OW2 := Lib.hid (slO_fresh (tRaw_law (by decide)) OW.out hi)
        have d2 := Lib.hid (dm.out.trans (hi.mono dm.out.size))
        have Z2 : Hid (wm.heap.size ≤ wi.heap.size) := Lib.hid (Nat.le_trans (Nat.le_of_lt YM.out) hi.size)
        have e0 := (cell_of_row wi _ 0 _ _ _ BVi.out).trans (show _ = some (Value.int .i64 id) from rfl)
        have e1 := (cell_of_row wi _ 1 _ _ _ BVi.out).trans (show _ = some (Value.slice xa xs.length xc) from rfl)
        have e2 := (cell_of_row wi _ 2 _ _ _ BVi.out).trans (show _ = some (Value.int .i64 born) from rfl)
        have e3 := (cell_of_row wi _ 3 _ _ _ BVi.out).trans (show _ = some (Value.int .i64 died) from rfl)
        clear hi BVi dm OW BV HN0
        cases hne : needB keep (id, xs, born, died) with
        | true =>
         have HK1 := Lib.hid (HKY.out hne)
         have HC1 : Hid (n0 = cc + (j + 1 - (keptI keep l (j + 1)).length)) := Lib.hid (by rw [HK1.out, List.length_append]; have := HN0C.out; have := HKJ.out; simp only [List.length_cons, List.length_nil]; omega)
         have hal : Below wi.heap.size wi (wi.alloc (.cells #[.int .i64 id, .slice xa xs.length xc, .int .i64 born, .int .i64 died] 88)) := (Below.refl _ _).alloc (Nat.le_refl _) _
         have BO := Lib.hid (heap_alloc_new wi (.cells #[.int .i64 id, .slice xa xs.length xc, .int .i64 born, .int .i64 died] 88))
         have OW3 := Lib.hid (slO_mono (slO_fresh (tRaw_law (by decide)) (slO_lt (tRaw_law (by decide)) OW2.out) hal) (F' := fun q => w1.heap.size ≤ q ∧ q < wi.heap.size) (fun q h => ⟨h.1.1, h.2⟩))
         have d3 := Lib.hid (d2.out.trans (hal.mono d2.out.size))
         clear hne HKY HKN2 hal d2 OW2
         go_wp2_with (at_builtin; refine append_flat (tRaw_law (by decide)) (flat_raw 4) info_R_Version Try.underlying89 rfl rfl (.tmp 65) (.tmp 67) rfl (fun q => w1.heap.size ≤ q ∧ q < wi.heap.size) (fun q => w1.heap.size ≤ q) _ _ ((keptI keep l j).map us) [[.int .i64 id, .slice xa xs.length xc, .int .i64 born, .int .i64 died]] rfl rfl OW3.out (raw_one BO.out rfl rfl rfl rfl) (fun b h => h.1) d3.out.size (by have := HKJ.out; rw [List.length_map]; simp only [List.length_cons, List.length_nil]; omega) ?_)
         intro v' w4 o4 t4
         clear e0 e1 e2 e3
         have O4 : Hid (SlO 88 (tRaw 4) w4 (fun q => w1.heap.size ≤ q) v' ((keptI keep l (j + 1)).map us)) := Lib.hid (by
          rw [HK1.out, List.map_append, List.map_cons, List.map_nil, HUS.out]; exact o4)
         have D4 := Lib.hid (below_turn d3.out t4 (fun q h => h.1) d3.out.size)
         clear o4 t4 d3 OW3
         go_wp2
         go_roundw
         case rel => exact ⟨j + 1, by omega, by go_num, by rw [← HC1.out], O4.out, D4.out⟩
         case measure => simp [intOf]; omega
        | false =>
         have HC0 : Hid (n0 + 1 = cc + (j + 1 - (keptI keep l (j + 1)).length)) := Lib.hid (by rw [HKN2.out hne]; have := HN0C.out; have := HKJ.out; omega)
         have O4 : Hid (SlO 88 (tRaw 4) wi (fun q => w1.heap.size ≤ q) (.slice oa m oc) ((keptI keep l (j + 1)).map us)) := Lib.hid (by
          rw [HKN2.out hne]
          exact slO_mono OW2.out (fun q h => h.1))
         clear hne HKY HKN2 OW2 e0 e1 e2 e3
         go_wp2
         go_roundw
         case rel => exact ⟨j + 1, by omega, by go_num, by rw [← HC0.out]; go_num, O4.out, d2.out⟩
         case measure => simp [intOf]; omega
     ·
      obtain rfl : j = l.length := by omega
      have PK := HKO.out wm _ hon hb
      obtain ⟨⟨x0, x1⟩, PN0⟩ := HPUT.out wm (.slice oa m oc) (needL keep l) (turn_below hb) PK
      rw [HSET.out] at PN0
      have PN := Lib.hid PN0
      have HCE : Hid (n0 = cntTo keep ss (k + 1)) := Lib.hid (by rw [HCN.out, HN0C.out, kept_len])
      have z1 := ZR.out
      have z2 := ZZ.out.1
      have z3 := HFG.out
      have z4 := HG.out
      have tt : Turn (fun q => q = g) wm (wm.setCell ⟨g, k, none⟩ (.slice oa m oc)) := turn_set (G := fun q => q = g) (g := g) (j := k) (u := .slice oa m oc) rfl
      have y0 := (hb.block w.heap.size (by omega)).trans B0.out
      have y1 := (hb.block (w.heap.size + 1) (by omega)).trans BZ.out
      have y2 := (hb.block R (by omega)).trans BX.out
      have A0 := Lib.hid ((tt.block w.heap.size (Array.getElem?_eq_some_iff.1 y0).1 (fun h => by have h5 : w.heap.size = g := h; omega)).trans y0)
      have AZ := Lib.hid ((tt.block (w.heap.size + 1) (Array.getElem?_eq_some_iff.1 y1).1 (fun h => by have h5 : w.heap.size + 1 = g := h; omega)).trans y1)
      have AX := Lib.hid ((tt.block R (Array.getElem?_eq_some_iff.1 y2).1 (fun h => by have h5 : R = g := h; omega)).trans y2)
      have dn := d.out.trans (hb.mono d.out.size)
      have DN := Lib.hid (below_turn dn tt (fun q h => by have h5 : q = g := h; omega) dn.size)
      have ZN := Lib.hid (Nat.lt_of_lt_of_le (Nat.lt_of_lt_of_le ZR.out hb.size) tt.size)
      clear PK PN0 z1 z2 z3 z4 tt y0 y1 y2 dn hon hb HPUT HKO B0 BZ BX d HM
      go_wp2
      go_roundw
      case rel => exact ⟨k + 1, by omega, by go_num, by rw [← HCE.out], A0.out, AZ.out, AX.out, PN.out, DN.out, ZN.out⟩
      case measure => simp [intOf]; omega
   ·
    obtain rfl : k = ss.length := by omega
    rw [rec_all] at hown
    have HE : Hid (reclaimB (ss, now) keep = ((reclaimL keep ss, now), ((cntTo keep ss ss.length : Nat) : Int))) := Lib.hid (by rw [reclaim_yes HST.out, cnt_all])
    have PF := Lib.hid (slO_lt tVersionS_law hown)
    have QF := Lib.hid (fun q (h : (w.heap.size + 1 < q ∧ q ≠ R) ∧ q < w1.heap.size) => h)
    have ZR2 := Lib.hid ZZ.out.1
    clear hown hlt
    generalize cntTo keep ss ss.length = cc at *
    have p_BX_0 := (cell_of_row w1 _ 0 _ _ _ BX.out).trans (show _ = some (Value.slice fa ss.length fc) from rfl)
    have p_BX_1 := (cell_of_row w1 _ 1 _ _ _ BX.out).trans (show _ = some (Value.int .i64 now) from rfl)
    have p_BZ_0 := (cell_of_row w1 _ 0 _ _ _ BZ.out).trans (show _ = some (Value.slice none 0 0) from rfl)
    have p_BZ_1 := (cell_of_row w1 _ 1 _ _ _ BZ.out).trans (show _ = some (Value.int .i64 0) from rfl)
    have f_BZ_0 := frozen_of_row w1 _ 0 _ _ BZ.out
    have f_BZ_1 := frozen_of_row w1 _ 1 _ _ BZ.out
    have tt : Turn (fun q => q = w.heap.size + 1) w1 ((w1.setCell ⟨w.heap.size + 1, 0, none⟩ (.slice fa ss.length fc)).setCell ⟨w.heap.size + 1, 1, none⟩ (.int .i64 now)) := ((Turn.refl (fun q => q = w.heap.size + 1) _).trans (turn_set (G := fun q => q = w.heap.size + 1) (g := w.heap.size + 1) (j := 0) (u := .slice fa ss.length fc) rfl)).trans (turn_set (G := fun q => q = w.heap.size + 1) (g := w.heap.size + 1) (j := 1) (u := .int .i64 now) rfl)
    have r := heap_setCell_same _ (w.heap.size + 1) 1 _ _ (.int .i64 now) (heap_setCell_same w1 (w.heap.size + 1) 0 _ _ (.slice fa ss.length fc) BZ.out)
    have e0 := cell_of_row _ _ 0 _ _ _ r
    have e1 := cell_of_row _ _ 1 _ _ _ r
    simp at e0 e1
    have y0 := ZR.out
    have y1 := ZR2.out
    have DF := Lib.hid (below_turn d.out tt (fun q h => by omega) d.out.size)
    have PE := Lib.hid (slO_turn tVersionS_law PF.out tt (fun q h1 h2 => by have r1 := QF.out q h1; omega))
    have QE := Lib.hid (fun q h => (show w.heap.size ≤ q by have r1 := QF.out q h; omega))
    clear tt r y0 y1
    go_wp2
    refine bodyPost_ret (v := .tuple #[.agg #[.slice fa ss.length fc, .int .i64 now], .int .i64 ((cc : Nat) : Int)]) ?_ rfl ?_
    ·
     simp [results, Try.f28, go_sem, e0, e1]
    ·
     show FreshNI _ _ _ _; rw [HE.out]; exact ⟨[.slice fa ss.length fc, .int .i64 now], _, rfl, tStore_mkO PE.out (fun q h => h), QE.out, DF.out⟩
def possP (ss : List (List VerD)) (now : Int) : Prop := ShortP ss ss.length ∧ VersP ss.flatten now ss.flatten.length
instance (ss : List (List VerD)) (now : Int) : Decidable (possP ss now) := by unfold possP; infer_instance
def possB (ss : List (List VerD)) (now : Int) : Bool := decide (possP ss now)
theorem poss_short {ss : List (List VerD)} {now : Int} {i : Nat} (hi : i < ss.length) (h : ¬ (ss.getD i []).length ≤ 4) : possB ss now = false := decide_eq_false (fun g => h (g.1 i hi))
theorem poss_ver {ss : List (List VerD)} {now : Int} {i : Nat} (hi : i < ss.flatten.length) (h : verB (ss.flatten.getD i v0D) now = false) : possB ss now = false := decide_eq_false (fun g => by
 have := (g.2 i hi).1; rw [h] at this; cases this)
theorem take_get {l : List VerD} {i j : Nat} (h : j < (l.take i).length) : (l.take i)[j] = l.getD j v0D := by
 have h2 : j < i ∧ j < l.length := by rw [List.length_take] at h; omega
 simp [List.getD, h2.1, h2.2]
/-- One that is seen with an earlier one: the store is not possible. -/
theorem poss_seen {ss : List (List VerD)} {now : Int} {i : Nat} (hv : VersP ss.flatten now i) (hi : i < ss.flatten.length) (h1 : verB (ss.flatten.getD i v0D) now = true) (h : anyB (ss.flatten.getD i v0D) (ss.flatten.take i) = true) : possB ss now = false := decide_eq_false (fun g => by
 unfold anyB at h
 rw [List.any_eq_true] at h
 obtain ⟨y, hy, hs⟩ := h
 obtain ⟨j, hj, rfl⟩ := List.getElem_of_mem hy
 have hji : j < i := by rw [List.length_take] at hj; omega
 have e : (ss.flatten.take i)[j] = ss.flatten.getD j v0D := take_get hj
 rw [e, seenB_apart h1 (hv j hji).1, (g.2 i hi).2 j hji] at hs
 cases hs)
theorem poss_step {ss : List (List VerD)} {now : Int} {i : Nat} (hv : VersP ss.flatten now i) (hi : i < ss.flatten.length) (h1 : verB (ss.flatten.getD i v0D) now = true) (h : anyB (ss.flatten.getD i v0D) (ss.flatten.take i) = false) : VersP ss.flatten now (i + 1) := by
 refine vers_step hv h1 (fun k hk => ?_)
 unfold anyB at h
 rw [List.any_eq_false] at h
 have hkl : k < (ss.flatten.take i).length := by rw [List.length_take]; omega
 have := h _ (List.getElem_mem hkl)
 have e : (ss.flatten.take i)[k] = ss.flatten.getD k v0D := take_get hkl
 rw [e, seenB_apart h1 (hv k hk).1] at this
 simpa using this
theorem poss_yes {ss : List (List VerD)} {now : Int} (h1 : ShortP ss ss.length) (h2 : VersP ss.flatten now ss.flatten.length) : possB ss now = true := decide_eq_true ⟨h1, h2⟩
theorem store_poss (ss : List (List VerD)) (now : Int) : storeB ss now = (decide (1 ≤ (ss.length : Int) ∧ (ss.length : Int) ≤ 8) && decide (0 ≤ now ∧ now ≤ 100000) && possB ss now) := by
 unfold storeB possB
 by_cases h1 : 1 ≤ ss.length ∧ ss.length ≤ 8
 ·
  by_cases h2 : 0 ≤ now ∧ now ≤ 100000
  ·
   rw [decide_eq_true (show 1 ≤ (ss.length : Int) ∧ (ss.length : Int) ≤ 8 by omega), decide_eq_true h2]
   by_cases h3 : possP ss now
   ·
    rw [decide_eq_true h3, decide_eq_true ⟨⟨h1, h2⟩, h3⟩]; rfl
   ·
    rw [decide_eq_false h3, decide_eq_false (fun g => h3 g.2)]; rfl
  ·
   rw [decide_eq_false h2, decide_eq_false (fun g => h2 g.1.2), Bool.and_false]; rfl
 ·
  rw [decide_eq_false (show ¬ (1 ≤ (ss.length : Int) ∧ (ss.length : Int) ≤ 8) by omega), decide_eq_false (fun g => h1 g.1.1)]; rfl
theorem cat_take (ss : List (List VerD)) (k : Nat) : ss.flatten.take (cat ss k).length = cat ss k := by
 unfold cat
 have e : ss.flatten = (ss.take k).flatten ++ (ss.drop k).flatten := by rw [← List.flatten_append, List.take_append_drop]
 rw [e, List.take_left]
set_option maxHeartbeats 16000000 in
set_option maxRecDepth 100000 in
theorem isPossible_any (B g : Nat) (bs : List Nat) (us : List SegV) (ss : List (List VerD)) (now : Int) (w : World) (ht : TabN B w g bs us) (hr : SegsR w us ss) (hs : zL tVersionS ss ≤ 1048576) :
  Calls Try.prog 102 #[.slice (some ⟨g, 0, none⟩) us.length us.length, .int .i64 now] w (fun e w' => e = .returned (.bool (possB ss now)) ∧ Below w.heap.size w w') := by
 have hlen := zL_len hs
 have HZF : Hid (zL tVersion ss.flatten ≤ 1048576) := Lib.hid (by have := zL_all ss; omega)
 have HFL := Lib.hid (zL_len HZF.out)
 have HS := Lib.hid hs
 have hul := hr.1
 have HR := Lib.hid hr
 have HT := Lib.hid ht
 rw [hul]
 have HUL := Lib.hid hul
 clear ht hr hs hul
 go_enter Try.func102, Try.ntmps102
 go_wp2
 go_loopw [5, 12] (fun o i wr => ∃ (k : Nat) (L : List (List Value)), k ≤ ss.length ∧ i = .int .i64 k ∧ SlO 88 (tRaw 4) wr (since w) o L ∧ Hid (Sh tVersion w L (cat ss k)) ∧ Hid (ShortP ss k) ∧ Hid (VersP ss.flatten now (cat ss k).length) ∧ Below w.heap.size w wr) (fun _ i _ => ss.length - (intOf i).toNat)
 case atStart => exact ⟨0, [], Nat.zero_le _, rfl, slO_nil _ _ _ _, Lib.hid (by rw [cat_zero]; exact sh_nil w), Lib.hid (fun j hj => by omega), Lib.hid (by rw [cat_zero]; exact fun j hj => by simp at hj), Below.refl _ _⟩
 case round =>
  obtain ⟨k, L, hk, rfl, hown, hsh, hshort, hvers, hbel⟩ := hrel
  obtain ⟨oa, oc, rfl⟩ := slO_len hown
  by_cases hlt : k < ss.length
  ·
   have i1 : (0 : Int) ≤ (k : Int) := by omega
   have i2 : (k : Int) < (ss.length : Int) := by omega
   obtain ⟨_, tg, tl, trow, _⟩ := tabN_below HT.out hbel
   obtain ⟨r0, r1, _⟩ := trow k (by have := HUL.out; omega)
   obtain ⟨s1, s2⟩ := HR.out.2 k hlt
   have HSM := Lib.hid (zL_seg hlt)
   have HCI := Lib.hid (fun j hj => cat_in (ss := ss) (k := k) (j := j) hlt hj)
   have HCL := Lib.hid (cat_len hlt)
   have HCF := Lib.hid (cat_le ss (k + 1))
   have HNS := Lib.hid (fun h => poss_short (ss := ss) (now := now) hlt h)
   have HYS : Hid ((ss.getD k []).length ≤ 4 → ShortP ss (k + 1)) := Lib.hid (fun g j hj => by
    by_cases e : j = k
    ·
     rw [e]; exact g
    ·
     exact hshort.out j (by omega))
   have HVS := hvers
   have HSH := hsh
   have HOW := Lib.hid hown
   have HB := Lib.hid hbel
   clear trow tg tl hown hbel hshort hvers hsh
   generalize us.getD k s0V = u at *
   generalize bs.getD k 0 = pb at *
   obtain ⟨ua, m0, uc⟩ := u
   simp only at s2
   subst s2
   have p1 := (cell_of_row wr _ 0 _ _ _ r1).trans (show _ = some (Value.slice ua (ss.getD k []).length (ss.getD k []).length) from rfl)
   have P1 := Lib.hid p1
   have RS : Hid (SlR tVersion w (.slice ua (ss.getD k []).length (ss.getD k []).length) (ss.getD k [])) := Lib.hid s1
   have RR := Lib.hid r0
   unfold ptrV at r0
   clear s1 r1
   have HML : Hid ((ss.getD k []).length ≤ 1048576) := Lib.hid (zL_len (T := tVersion) (Nat.le_trans HSM.out HS.out))
   generalize ss.getD k [] = seg at *
   obtain ⟨m, hm⟩ : ∃ m, m = seg.length := ⟨_, rfl⟩
   have HM := Lib.hid hm
   rw [← hm] at p1 P1 RS HCL HML HNS HYS
   clear hm
   by_cases h4 : m ≤ 4
   rotate_left
   ·
    have HF := Lib.hid (HNS.out h4)
    have h5 : (4 : Int) < (m : Int) := by omega
    clear HNS HYS
    go_wp2
    go_ret
    exact ⟨ret_b HF.out.symm, HB.out⟩
   have HSK := Lib.hid (HYS.out h4)
   have h5 : ¬ (4 : Int) < (m : Int) := by omega
   clear HNS HYS
   go_wp2
   clear r0 p1 h5
   go_loopw [5, 27] (fun o i wi => ∃ (j : Nat) (L : List (List Value)), j ≤ m ∧ i = .int .i64 j ∧ SlO 88 (tRaw 4) wi (since w) o L ∧ Hid (Sh tVersion w L (ss.flatten.take ((cat ss k).length + j))) ∧ Hid (VersP ss.flatten now ((cat ss k).length + j)) ∧ Below w.heap.size w wi) (fun _ i _ => m - (intOf i).toNat)
   case atStart => exact ⟨0, L, Nat.zero_le _, rfl, HOW.out, Lib.hid (by rw [Nat.add_zero, cat_take]; exact HSH.out), Lib.hid (by rw [Nat.add_zero]; exact HVS.out), HB.out⟩
   case round =>
    obtain ⟨j, L2, hj, rfl, hown, hsh, hvers, hbel⟩ := hrel
    clear HOW HSH HVS HB
    obtain ⟨oa2, oc2, rfl⟩ := slO_len hown
    by_cases hjl : j < m
    ·
     have j1 : (0 : Int) ≤ (j : Int) := by omega
     have j2 : (j : Int) < (m : Int) := by omega
     have hjs : j < seg.length := by have := HM.out; omega
     obtain ⟨b, off, cap', xa, xc, hv, hbl, c0, c1, c2, c3, hx⟩ := verR_at RS.out hjs
     simp only [Value.slice.injEq] at hv
     obtain ⟨rfl, hm1, hm2⟩ := hv
     clear hm1 hm2
     have hif : (cat ss k).length + j < ss.flatten.length := by have := HCL.out; have := HCF.out; omega
     have hci := HCI.out j hjs
     have HXL := Lib.hid (ver_len (l := ss.flatten) HZF.out hif)
     have HNV := Lib.hid (fun q => poss_ver (ss := ss) (now := now) hif q)
     have HNA := Lib.hid (fun q r => poss_seen (ss := ss) (now := now) hvers.out hif q r)
     have HST := Lib.hid (fun q r => poss_step (ss := ss) (now := now) hvers.out hif q r)
     have HTK := Lib.hid (take_getD hif)
     rw [hci] at HXL HNV HNA HST HTK
     have HLL : Hid (L2.length ≤ 1048576 ∧ (ss.flatten.take ((cat ss k).length + j)).length ≤ 1048576) := Lib.hid (by
      have h1 := sh_len hsh.out; have h2 := HFL.out; rw [List.length_take] at h1 ⊢; omega)
     clear hci hif hvers
     generalize seg.getD j v0D = x at *
     obtain ⟨id, xs, born, died⟩ := x
     simp only at c0 c1 c2 c3 HXL
     have e0 := (hbel.cell (p := ⟨b, off + j * 4, none⟩) hbl).trans c0
     have e1 := (hbel.cell (p := ⟨b, off + j * 4 + 1, none⟩) hbl).trans c1
     have e2 := (hbel.cell (p := ⟨b, off + j * 4 + 2, none⟩) hbl).trans c2
     have e3 := (hbel.cell (p := ⟨b, off + j * 4 + 3, none⟩) hbl).trans c3
     have hal : Below wr.heap.size wr (wr.alloc (.cells #[.int .i64 id, .slice xa xs.length xc, .int .i64 born, .int .i64 died] 88)) := (Below.refl _ _).alloc (Nat.le_refl _) _
     have BV : Hid ((wr.alloc (.cells #[.int .i64 id, .slice xa xs.length xc, .int .i64 born, .int .i64 died] 88)).heap[wr.heap.size]? = some (.cells #[.int .i64 id, .slice xa xs.length xc, .int .i64 born, .int .i64 died] 88 (0, 0))) := Lib.hid (heap_alloc_new wr _)
     have YV : Hid (wr.heap.size < (wr.alloc (.cells #[.int .i64 id, .slice xa xs.length xc, .int .i64 born, .int .i64 died] 88)).heap.size) := Lib.hid (by simp [World.size_alloc])
     have PF := Lib.hid (slO_fresh (tRaw_law (by decide)) (slO_lt (tRaw_law (by decide)) hown) hal)
     have d := Lib.hid (hbel.trans (hal.mono hbel.size))
     have DZ := Lib.hid hbel.size
     have HX : Hid (Ints w (.slice xa xs.length xc) xs) := Lib.hid hx
     have HSH := hsh
     have HIV := Lib.hid (fun W h => isVersion_any id born died now (.slice xa xs.length xc) xs W h HXL.out)
     clear hown hbel hal hx c0 c1 c2 c3 hbl hsh
     cases hver : verB (id, xs, born, died) now with
     | false =>
      have HF := Lib.hid (HNV.out hver)
      rw [hver] at HIV
      clear hver HNV HNA HST
      go_wp2_with fail
      clear e0 e1 e2 e3
      generalize wr.alloc (.cells #[.int .i64 id, .slice xa xs.length xc, .int .i64 born, .int .i64 died] 88) = W1 at *
      refine (HIV.out W1 (ints_below HX.out d.out)).mono ?_
      rintro e w2 ⟨rfl, b2⟩
      have d2 := d.out.trans (b2.mono d.out.size)
      go_wp2
      go_ret
      exact ⟨ret_b HF.out.symm, d2⟩
     | true =>
      have HNA2 := Lib.hid (fun r => HNA.out hver r)
      have HST2 := Lib.hid (fun r => HST.out hver r)
      rw [hver] at HIV
      clear hver HNV HNA HST
      go_wp2_with fail
      clear e0 e1 e2 e3
      generalize wr.alloc (.cells #[.int .i64 id, .slice xa xs.length xc, .int .i64 born, .int .i64 died] 88) = W1 at *
      refine (HIV.out W1 (ints_below HX.out d.out)).mono ?_
      rintro e w2 ⟨rfl, b2⟩
      have kv := (b2.block wr.heap.size YV.out).trans BV.out
      have p0 := (cell_of_row w2 _ 0 _ _ _ kv).trans (show _ = some (Value.int .i64 id) from rfl)
      have p1 := (cell_of_row w2 _ 1 _ _ _ kv).trans (show _ = some (Value.slice xa xs.length xc) from rfl)
      have p2 := (cell_of_row w2 _ 2 _ _ _ kv).trans (show _ = some (Value.int .i64 born) from rfl)
      have p3 := (cell_of_row w2 _ 3 _ _ _ kv).trans (show _ = some (Value.int .i64 died) from rfl)
      have KV := Lib.hid kv
      have PF2 := Lib.hid (slO_fresh (tRaw_law (by decide)) PF.out b2)
      have d2 := Lib.hid (d.out.trans (b2.mono d.out.size))
      have Z2 := Lib.hid (Nat.lt_of_lt_of_le YV.out b2.size)
      have HO := Lib.hid (raw_reads (T := tVersion) (by decide) PF2.out (sh_below tVersion_law HSH.out d2.out))
      have HCS := Lib.hid (fun W h => containsSeen (.slice oa2 L2.length oc2) (ss.flatten.take ((cat ss k).length + j)) id born died xs xa xs.length xc W h HLL.out.2)
      clear PF d b2 kv
      cases hany : anyB (id, xs, born, died) (ss.flatten.take ((cat ss k).length + j)) with
      | true =>
       have HF := Lib.hid (HNA2.out hany)
       rw [hany] at HCS
       clear hany HNA2 HST2
       go_wp2_with fail
       refine (HCS.out w2 HO.out).mono ?_
       rintro e w3 ⟨rfl, b3⟩
       have d3 := d2.out.trans (b3.mono d2.out.size)
       clear p0 p1 p2 p3
       go_wp2
       go_ret
       exact ⟨ret_b HF.out.symm, d3⟩
      | false =>
       have HV2 := Lib.hid (HST2.out hany)
       rw [hany] at HCS
       clear hany HNA2 HST2
       go_wp2_with fail
       refine (HCS.out w2 HO.out).mono ?_
       rintro e w3 ⟨rfl, b3⟩
       have kv := (b3.block wr.heap.size Z2.out).trans KV.out
       clear p0 p1 p2 p3
       have p0 := (cell_of_row w3 _ 0 _ _ _ kv).trans (show _ = some (Value.int .i64 id) from rfl)
       have p1 := (cell_of_row w3 _ 1 _ _ _ kv).trans (show _ = some (Value.slice xa xs.length xc) from rfl)
       have p2 := (cell_of_row w3 _ 2 _ _ _ kv).trans (show _ = some (Value.int .i64 born) from rfl)
       have p3 := (cell_of_row w3 _ 3 _ _ _ kv).trans (show _ = some (Value.int .i64 died) from rfl)
       have PF3 := Lib.hid (slO_fresh (tRaw_law (by decide)) PF2.out b3)
       have d3 := Lib.hid (d2.out.trans (b3.mono d2.out.size))
       have Z3 := Lib.hid (Nat.le_trans (Nat.le_of_lt Z2.out) b3.size)
       have ON : Hid ((tRaw 4).O w3 (fun b => wr.heap.size ≤ b) [.int .i64 id, .slice xa xs.length xc, .int .i64 born, .int .i64 died] [.int .i64 id, .slice xa xs.length xc, .int .i64 born, .int .i64 died]) := Lib.hid ⟨rfl, rfl, by simp [Value.oneCell']⟩
       clear PF2 d2 b3 kv KV HO
       go_wp2_with (at_builtin; refine append_T (tRaw_law (by decide)) info_R_Version Try.underlying89 rfl rfl (.tmp 41) (.tmp 43) rfl (since w) wr.heap.size _ L2 rfl PF3.out Z3.out (fun b hb => Nat.le_trans DZ.out hb) HLL.out.1 [.int .i64 id, .slice xa xs.length xc, .int .i64 born, .int .i64 died] [.int .i64 id, .slice xa xs.length xc, .int .i64 born, .int .i64 died] ON.out (by simp [Value.oneCell']) 1 _ rfl rfl ?_)
       intro v' w4 o4 t4
       have d4 := Lib.hid (below_turn d3.out t4 (fun b hb => hb.1) d3.out.size)
       have SH : Hid (Sh tVersion w (L2 ++ [[.int .i64 id, .slice xa xs.length xc, .int .i64 born, .int .i64 died]]) (ss.flatten.take ((cat ss k).length + (j + 1)))) := Lib.hid (by rw [← Nat.add_assoc, HTK.out]; exact sh_app HSH.out (sh_one (tVersion_mkR (ints_slR HX.out))))
       have O4 := Lib.hid o4
       clear PF3 d3 t4 o4 p0 p1 p2 p3
       go_wp2
       go_roundw
       case rel => exact ⟨j + 1, _, by omega, by go_num, O4.out, SH, HV2, d4.out⟩
       case measure => simp [intOf]; omega
    ·
     obtain rfl : j = m := by omega
     have SH : Hid (Sh tVersion w L2 (cat ss (k + 1))) := Lib.hid (by have := hsh.out; rw [← HCL.out, cat_take] at this; exact this)
     have HV2 : Hid (VersP ss.flatten now (cat ss (k + 1)).length) := Lib.hid (by rw [HCL.out]; exact hvers.out)
     have O2 := Lib.hid hown
     have HB := Lib.hid hbel
     clear hsh hvers hown hbel
     go_wp2
     go_roundw
     case rel => exact ⟨k + 1, L2, by omega, by go_num, O2.out, SH, HSK, HV2, HB.out⟩
     case measure => simp [intOf]; omega
  ·
   obtain rfl : k = ss.length := by omega
   have HY := Lib.hid (poss_yes hshort.out (by have := hvers.out; rw [cat_all] at this; exact this))
   clear hsh hshort hvers
   go_wp2
   go_ret
   exact ⟨ret_b HY.out.symm, hbel⟩
set_option maxHeartbeats 8000000 in
set_option maxRecDepth 100000 in
theorem implIsStore (sv : Value) (ss : List (List VerD)) (now : Int) (w : World) (h : SlR tVersionS w sv ss) (hs : zL tVersionS ss ≤ 1048576) :
  Calls Try.prog 86 #[.agg #[sv, .int .i64 now]] w (fun e w' => e = .returned (.bool (storeB ss now)) ∧ Below w.heap.size w w') := by
 obtain ⟨us, hls, hsr⟩ := slR_ls h
 have HUL := Lib.hid hsr.1
 obtain ⟨a, cap, rfl⟩ := slR_len h
 have hlen := zL_len hs
 have HSS := Lib.hid hs
 have H := Lib.hid h
 have HLS := Lib.hid hls
 have HSR := Lib.hid hsr
 have d0 := Lib.hid (show Below w.heap.size w (w.alloc (.cells #[.slice a ss.length cap, .int .i64 now] 41)) from (Below.refl _ _).alloc (Nat.le_refl _) _)
 have B0 : Hid ((w.alloc (.cells #[.slice a ss.length cap, .int .i64 now] 41)).heap[w.heap.size]? = some (.cells #[.slice a ss.length cap, .int .i64 now] 41 (0, 0))) := Lib.hid (heap_alloc_new w _)
 have Y0 : Hid (w.heap.size < (w.alloc (.cells #[.slice a ss.length cap, .int .i64 now] 41)).heap.size) := Lib.hid (by simp [World.size_alloc])
 clear hls hsr h hs
 rw [store_poss]
 have HC1 := Lib.hid (isSegmentCount_any (ss.length : Int))
 have HC2 := Lib.hid (isTime_any now)
 have HPS : Hid (∀ (B g : Nat) (bs : List Nat) (W : World), TabN B W g bs us → SegsR W us ss → Calls Try.prog 102 #[.slice (some ⟨g, 0, none⟩) us.length us.length, .int .i64 now] W (fun e w' => e = .returned (.bool (possB ss now)) ∧ Below W.heap.size W w')) := Lib.hid (fun B g bs W h1 h2 => isPossible_any B g bs us ss now W h1 h2 HSS.out)
 have HTB := Lib.hid (fun W h => tableOf_any (.slice a ss.length cap) us W h (by have := HUL.out; omega))
 generalize possB ss now = pb at *
 have B1 := B0
 have d := d0
 cases hc1 : decide (1 ≤ (ss.length : Int) ∧ (ss.length : Int) ≤ 8) with
 | false =>
  rw [hc1] at HC1
  rw [Bool.false_and, Bool.false_and]
  clear hc1
  go_enter Try.func86, Try.ntmps86
  go_wp2
  generalize w.alloc (.cells #[.slice a ss.length cap, .int .i64 now] 41) = W at *
  have p_B0_0 := (cell_of_row W _ 0 _ _ _ B0.out).trans (show _ = some (Value.slice a ss.length cap) from rfl)
  have p_B0_1 := (cell_of_row W _ 1 _ _ _ B0.out).trans (show _ = some (Value.int .i64 now) from rfl)
  refine wp_region_held_drew (S := fun w' => w'.cell? ⟨w.heap.size, 0, none⟩ = some (Value.slice a ss.length cap) ∧ w'.cell? ⟨w.heap.size, 1, none⟩ = some (Value.int .i64 now)) (by kernel_rfl) ⟨p_B0_0, p_B0_1⟩ (fun hHeld => ?_)
  clear p_B0_0 p_B0_1
  have cdr : Below W.heap.size W W.drew := below_drew (Below.refl _ _)
  replace B0 := Lib.hid ((cdr.block w.heap.size (Array.getElem?_eq_some_iff.1 B0.out).1).trans B0.out)
  replace d := Lib.hid (d.out.trans (cdr.mono d.out.size))
  clear cdr
  refine tR (i := 0) (v := ?_) ?_ ?_; rotate_left
  ·
   intro w hSw; (try dsimp only at hSw); go_simp; try (with_reducible rfl)
  try simp only [Act.put, lA, lB, lC]
  refine tR (i := 1) (v := ?_) ?_ ?_; rotate_left
  ·
   intro w hSw; (try dsimp only at hSw); go_simp; try (with_reducible rfl)
  try simp only [Act.put, lA, lB, lC]
  refine tR (i := 2) (v := ?_) ?_ ?_; rotate_left
  ·
   intro w hSw; (try dsimp only at hSw); go_simp; try (with_reducible rfl)
  try simp only [Act.put, lA, lB, lC]
  refine wpAnyH_ready (rs := [3]) (by kernel_rfl) (by simp) ?_
  refine (AllReadyH.cons (o := _) (by simp only [hA, hB, hC]; rfl) (fun K hK => ?_) AllReadyH.nil)
  go_simp
  refine (HC1.out (W.drew)).mono ?_
  rintro e wx ⟨rfl, rfl⟩
  have p_B0_0 := (cell_of_row (W.drew) _ 0 _ _ _ B0.out).trans (show _ = some (Value.slice a ss.length cap) from rfl)
  have p_B0_1 := (cell_of_row (W.drew) _ 1 _ _ _ B0.out).trans (show _ = some (Value.int .i64 now) from rfl)
  refine hK.out _ _ ⟨p_B0_0, p_B0_1⟩ (fun hHeld => ?_)
  clear p_B0_0 p_B0_1
  clear hK K
  try simp only [Act.put, lA, lB, lC]
  refine tR (i := 4) (v := ?_) ?_ ?_; rotate_left
  ·
   intro w hSw; (try dsimp only at hSw); go_simp; try (with_reducible rfl)
  try simp only [Act.put, lA, lB, lC]
  refine tO (i := 5) ?_
  try simp only [Act.put, lA, lB, lC]
  refine tO (i := 6) ?_
  try simp only [Act.put, lA, lB, lC]
  refine tO (i := 7) ?_
  try simp only [Act.put, lA, lB, lC]
  refine tR (i := 8) (v := ?_) ?_ ?_; rotate_left
  ·
   intro w hSw; (try dsimp only at hSw); go_simp; try (with_reducible rfl)
  try simp only [Act.put, lA, lB, lC]
  refine tR (i := 9) (v := ?_) ?_ ?_; rotate_left
  ·
   intro w hSw; (try dsimp only at hSw); go_simp; try (with_reducible rfl)
  try simp only [Act.put, lA, lB, lC]
  refine tO (i := 10) ?_
  try simp only [Act.put, lA, lB, lC]
  refine tO (i := 11) ?_
  try simp only [Act.put, lA, lB, lC]
  refine tO (i := 12) ?_
  try simp only [Act.put, lA, lB, lC]
  refine tO (i := 13) ?_
  try simp only [Act.put, lA, lB, lC]
  refine tO (i := 14) ?_
  try simp only [Act.put, lA, lB, lC]
  refine tO (i := 15) ?_
  try simp only [Act.put, lA, lB, lC]
  refine tR (i := 16) (v := ?_) ?_ ?_; rotate_left
  ·
   intro w hSw; (try dsimp only at hSw); go_simp; try (with_reducible rfl)
  try simp only [Act.put, lA, lB, lC]
  refine tR (i := 17) (v := ?_) ?_ ?_; rotate_left
  ·
   intro w hSw; (try dsimp only at hSw); go_simp; try (with_reducible rfl)
  try simp only [Act.put, lA, lB, lC]
  refine wpAnyH_done (by kernel_rfl) ?_ _
  clear hHeld
  go_wp2
  go_ret
  exact ⟨rfl, d.out⟩
 | true =>
  rw [hc1] at HC1
  rw [Bool.true_and]
  clear hc1
  cases hc2 : decide (0 ≤ now ∧ now ≤ 100000) with
  | false =>
   rw [hc2] at HC2
   rw [Bool.false_and]
   clear hc2
   go_enter Try.func86, Try.ntmps86
   go_wp2
   generalize w.alloc (.cells #[.slice a ss.length cap, .int .i64 now] 41) = W at *
   have p_B0_0 := (cell_of_row W _ 0 _ _ _ B0.out).trans (show _ = some (Value.slice a ss.length cap) from rfl)
   have p_B0_1 := (cell_of_row W _ 1 _ _ _ B0.out).trans (show _ = some (Value.int .i64 now) from rfl)
   refine wp_region_held_drew (S := fun w' => w'.cell? ⟨w.heap.size, 0, none⟩ = some (Value.slice a ss.length cap) ∧ w'.cell? ⟨w.heap.size, 1, none⟩ = some (Value.int .i64 now)) (by kernel_rfl) ⟨p_B0_0, p_B0_1⟩ (fun hHeld => ?_)
   clear p_B0_0 p_B0_1
   have cdr : Below W.heap.size W W.drew := below_drew (Below.refl _ _)
   replace B0 := Lib.hid ((cdr.block w.heap.size (Array.getElem?_eq_some_iff.1 B0.out).1).trans B0.out)
   replace d := Lib.hid (d.out.trans (cdr.mono d.out.size))
   clear cdr
   refine tR (i := 0) (v := ?_) ?_ ?_; rotate_left
   ·
    intro w hSw; (try dsimp only at hSw); go_simp; try (with_reducible rfl)
   try simp only [Act.put, lA, lB, lC]
   refine tR (i := 1) (v := ?_) ?_ ?_; rotate_left
   ·
    intro w hSw; (try dsimp only at hSw); go_simp; try (with_reducible rfl)
   try simp only [Act.put, lA, lB, lC]
   refine tR (i := 2) (v := ?_) ?_ ?_; rotate_left
   ·
    intro w hSw; (try dsimp only at hSw); go_simp; try (with_reducible rfl)
   try simp only [Act.put, lA, lB, lC]
   refine wpAnyH_ready (rs := [3]) (by kernel_rfl) (by simp) ?_
   refine (AllReadyH.cons (o := _) (by simp only [hA, hB, hC]; rfl) (fun K hK => ?_) AllReadyH.nil)
   go_simp
   refine (HC1.out (W.drew)).mono ?_
   rintro e wx ⟨rfl, rfl⟩
   have p_B0_0 := (cell_of_row (W.drew) _ 0 _ _ _ B0.out).trans (show _ = some (Value.slice a ss.length cap) from rfl)
   have p_B0_1 := (cell_of_row (W.drew) _ 1 _ _ _ B0.out).trans (show _ = some (Value.int .i64 now) from rfl)
   refine hK.out _ _ ⟨p_B0_0, p_B0_1⟩ (fun hHeld => ?_)
   clear p_B0_0 p_B0_1
   clear hK K
   try simp only [Act.put, lA, lB, lC]
   refine tR (i := 4) (v := ?_) ?_ ?_; rotate_left
   ·
    intro w hSw; (try dsimp only at hSw); go_simp; try (with_reducible rfl)
   try simp only [Act.put, lA, lB, lC]
   refine tR (i := 5) (v := ?_) ?_ ?_; rotate_left
   ·
    intro w hSw; (try dsimp only at hSw); go_simp; try (with_reducible rfl)
   try simp only [Act.put, lA, lB, lC]
   refine tR (i := 6) (v := ?_) ?_ ?_; rotate_left
   ·
    intro w hSw; (try dsimp only at hSw); go_simp; try (with_reducible rfl)
   try simp only [Act.put, lA, lB, lC]
   refine wpAnyH_ready (rs := [7]) (by kernel_rfl) (by simp) ?_
   refine (AllReadyH.cons (o := _) (by simp only [hA, hB, hC]; rfl) (fun K hK => ?_) AllReadyH.nil)
   go_simp
   refine (HC2.out (W.drew)).mono ?_
   rintro e wx ⟨rfl, rfl⟩
   have p_B0_0 := (cell_of_row (W.drew) _ 0 _ _ _ B0.out).trans (show _ = some (Value.slice a ss.length cap) from rfl)
   have p_B0_1 := (cell_of_row (W.drew) _ 1 _ _ _ B0.out).trans (show _ = some (Value.int .i64 now) from rfl)
   refine hK.out _ _ ⟨p_B0_0, p_B0_1⟩ (fun hHeld => ?_)
   clear p_B0_0 p_B0_1
   clear hK K
   try simp only [Act.put, lA, lB, lC]
   refine tR (i := 8) (v := ?_) ?_ ?_; rotate_left
   ·
    intro w hSw; (try dsimp only at hSw); go_simp; try (with_reducible rfl)
   try simp only [Act.put, lA, lB, lC]
   refine tR (i := 9) (v := ?_) ?_ ?_; rotate_left
   ·
    intro w hSw; (try dsimp only at hSw); go_simp; try (with_reducible rfl)
   try simp only [Act.put, lA, lB, lC]
   refine tO (i := 10) ?_
   try simp only [Act.put, lA, lB, lC]
   refine tO (i := 11) ?_
   try simp only [Act.put, lA, lB, lC]
   refine tO (i := 12) ?_
   try simp only [Act.put, lA, lB, lC]
   refine tO (i := 13) ?_
   try simp only [Act.put, lA, lB, lC]
   refine tO (i := 14) ?_
   try simp only [Act.put, lA, lB, lC]
   refine tO (i := 15) ?_
   try simp only [Act.put, lA, lB, lC]
   refine tR (i := 16) (v := ?_) ?_ ?_; rotate_left
   ·
    intro w hSw; (try dsimp only at hSw); go_simp; try (with_reducible rfl)
   try simp only [Act.put, lA, lB, lC]
   refine tR (i := 17) (v := ?_) ?_ ?_; rotate_left
   ·
    intro w hSw; (try dsimp only at hSw); go_simp; try (with_reducible rfl)
   try simp only [Act.put, lA, lB, lC]
   refine wpAnyH_done (by kernel_rfl) ?_ _
   clear hHeld
   go_wp2
   go_ret
   exact ⟨rfl, d.out⟩
  | true =>
   rw [hc2] at HC2
   rw [Bool.true_and]
   clear hc2
   go_enter Try.func86, Try.ntmps86
   go_wp2
   generalize w.alloc (.cells #[.slice a ss.length cap, .int .i64 now] 41) = W at *
   have p_B0_0 := (cell_of_row W _ 0 _ _ _ B0.out).trans (show _ = some (Value.slice a ss.length cap) from rfl)
   have p_B0_1 := (cell_of_row W _ 1 _ _ _ B0.out).trans (show _ = some (Value.int .i64 now) from rfl)
   refine wp_region_held_drew (S := fun w' => w'.cell? ⟨w.heap.size, 0, none⟩ = some (Value.slice a ss.length cap) ∧ w'.cell? ⟨w.heap.size, 1, none⟩ = some (Value.int .i64 now)) (by kernel_rfl) ⟨p_B0_0, p_B0_1⟩ (fun hHeld => ?_)
   clear p_B0_0 p_B0_1
   have cdr : Below W.heap.size W W.drew := below_drew (Below.refl _ _)
   replace B0 := Lib.hid ((cdr.block w.heap.size (Array.getElem?_eq_some_iff.1 B0.out).1).trans B0.out)
   replace d := Lib.hid (d.out.trans (cdr.mono d.out.size))
   clear cdr
   refine tR (i := 0) (v := ?_) ?_ ?_; rotate_left
   ·
    intro w hSw; (try dsimp only at hSw); go_simp; try (with_reducible rfl)
   try simp only [Act.put, lA, lB, lC]
   refine tR (i := 1) (v := ?_) ?_ ?_; rotate_left
   ·
    intro w hSw; (try dsimp only at hSw); go_simp; try (with_reducible rfl)
   try simp only [Act.put, lA, lB, lC]
   refine tR (i := 2) (v := ?_) ?_ ?_; rotate_left
   ·
    intro w hSw; (try dsimp only at hSw); go_simp; try (with_reducible rfl)
   try simp only [Act.put, lA, lB, lC]
   refine wpAnyH_ready (rs := [3]) (by kernel_rfl) (by simp) ?_
   refine (AllReadyH.cons (o := _) (by simp only [hA, hB, hC]; rfl) (fun K hK => ?_) AllReadyH.nil)
   go_simp
   refine (HC1.out (W.drew)).mono ?_
   rintro e wx ⟨rfl, rfl⟩
   have p_B0_0 := (cell_of_row (W.drew) _ 0 _ _ _ B0.out).trans (show _ = some (Value.slice a ss.length cap) from rfl)
   have p_B0_1 := (cell_of_row (W.drew) _ 1 _ _ _ B0.out).trans (show _ = some (Value.int .i64 now) from rfl)
   refine hK.out _ _ ⟨p_B0_0, p_B0_1⟩ (fun hHeld => ?_)
   clear p_B0_0 p_B0_1
   clear hK K
   try simp only [Act.put, lA, lB, lC]
   refine tR (i := 4) (v := ?_) ?_ ?_; rotate_left
   ·
    intro w hSw; (try dsimp only at hSw); go_simp; try (with_reducible rfl)
   try simp only [Act.put, lA, lB, lC]
   refine tR (i := 5) (v := ?_) ?_ ?_; rotate_left
   ·
    intro w hSw; (try dsimp only at hSw); go_simp; try (with_reducible rfl)
   try simp only [Act.put, lA, lB, lC]
   refine tR (i := 6) (v := ?_) ?_ ?_; rotate_left
   ·
    intro w hSw; (try dsimp only at hSw); go_simp; try (with_reducible rfl)
   try simp only [Act.put, lA, lB, lC]
   refine wpAnyH_ready (rs := [7]) (by kernel_rfl) (by simp) ?_
   refine (AllReadyH.cons (o := _) (by simp only [hA, hB, hC]; rfl) (fun K hK => ?_) AllReadyH.nil)
   go_simp
   refine (HC2.out (W.drew)).mono ?_
   rintro e wx ⟨rfl, rfl⟩
   have p_B0_0 := (cell_of_row (W.drew) _ 0 _ _ _ B0.out).trans (show _ = some (Value.slice a ss.length cap) from rfl)
   have p_B0_1 := (cell_of_row (W.drew) _ 1 _ _ _ B0.out).trans (show _ = some (Value.int .i64 now) from rfl)
   refine hK.out _ _ ⟨p_B0_0, p_B0_1⟩ (fun hHeld => ?_)
   clear p_B0_0 p_B0_1
   clear hK K
   try simp only [Act.put, lA, lB, lC]
   refine tR (i := 8) (v := ?_) ?_ ?_; rotate_left
   ·
    intro w hSw; (try dsimp only at hSw); go_simp; try (with_reducible rfl)
   try simp only [Act.put, lA, lB, lC]
   refine tR (i := 9) (v := ?_) ?_ ?_; rotate_left
   ·
    intro w hSw; (try dsimp only at hSw); go_simp; try (with_reducible rfl)
   try simp only [Act.put, lA, lB, lC]
   refine tR (i := 10) (v := ?_) ?_ ?_; rotate_left
   ·
    intro w hSw; (try dsimp only at hSw); go_simp; try (with_reducible rfl)
   try simp only [Act.put, lA, lB, lC]
   refine tR (i := 11) (v := ?_) ?_ ?_; rotate_left
   ·
    intro w hSw; (try dsimp only at hSw); go_simp; try (with_reducible rfl)
   try simp only [Act.put, lA, lB, lC]
   refine tR (i := 13) (v := ?_) ?_ ?_; rotate_left
   ·
    intro w hSw; (try dsimp only at hSw); go_simp; try (with_reducible rfl)
   try simp only [Act.put, lA, lB, lC]
   refine tR (i := 14) (v := ?_) ?_ ?_; rotate_left
   ·
    intro w hSw; (try dsimp only at hSw); go_simp; try (with_reducible rfl)
   try simp only [Act.put, lA, lB, lC]
   refine wpAnyH_ready (rs := [12]) (by kernel_rfl) (by simp) ?_
   refine (AllReadyH.cons (o := _) (by simp only [hA, hB, hC]; rfl) (fun K hK => ?_) AllReadyH.nil)
   go_simp
   refine (HTB.out (W.drew) (lsR_below HLS.out d.out)).mono ?_
   rintro e w5 ⟨g, bs, rfl, ht, c5⟩
   have HT5 := Lib.hid ht
   replace B0 := Lib.hid ((c5.block w.heap.size (Array.getElem?_eq_some_iff.1 B0.out).1).trans B0.out)
   replace d := Lib.hid (d.out.trans (c5.mono d.out.size))
   have Z_w5 := Lib.hid (show W.heap.size ≤ w5.heap.size from c5.size)
   clear c5 ht
   have p_B0_0 := (cell_of_row w5 _ 0 _ _ _ B0.out).trans (show _ = some (Value.slice a ss.length cap) from rfl)
   have p_B0_1 := (cell_of_row w5 _ 1 _ _ _ B0.out).trans (show _ = some (Value.int .i64 now) from rfl)
   refine hK.out _ _ ⟨p_B0_0, p_B0_1⟩ (fun hHeld => ?_)
   clear p_B0_0 p_B0_1
   clear hK K
   try simp only [Act.put, lA, lB, lC]
   refine wpAnyH_ready (rs := [15]) (by kernel_rfl) (by simp) ?_
   refine (AllReadyH.cons (o := _) (by simp only [hA, hB, hC]; rfl) (fun K hK => ?_) AllReadyH.nil)
   go_simp
   refine (HPS.out _ g bs w5 HT5.out (segsR_below HSR.out d.out)).mono ?_
   rintro e w6 ⟨rfl, c6⟩
   replace B0 := Lib.hid ((c6.block w.heap.size (Array.getElem?_eq_some_iff.1 B0.out).1).trans B0.out)
   replace d := Lib.hid (d.out.trans (c6.mono d.out.size))
   have Z_w6 := Lib.hid (show w5.heap.size ≤ w6.heap.size from c6.size)
   clear c6
   have p_B0_0 := (cell_of_row w6 _ 0 _ _ _ B0.out).trans (show _ = some (Value.slice a ss.length cap) from rfl)
   have p_B0_1 := (cell_of_row w6 _ 1 _ _ _ B0.out).trans (show _ = some (Value.int .i64 now) from rfl)
   refine hK.out _ _ ⟨p_B0_0, p_B0_1⟩ (fun hHeld => ?_)
   clear p_B0_0 p_B0_1
   clear hK K
   try simp only [Act.put, lA, lB, lC]
   refine tR (i := 16) (v := ?_) ?_ ?_; rotate_left
   ·
    intro w hSw; (try dsimp only at hSw); go_simp; try (with_reducible rfl)
   try simp only [Act.put, lA, lB, lC]
   refine tR (i := 17) (v := ?_) ?_ ?_; rotate_left
   ·
    intro w hSw; (try dsimp only at hSw); go_simp; try (with_reducible rfl)
   try simp only [Act.put, lA, lB, lC]
   refine wpAnyH_done (by kernel_rfl) ?_ _
   clear hHeld
   go_wp2
   go_ret
   exact ⟨rfl, d.out⟩
set_option maxHeartbeats 8000000 in
set_option maxRecDepth 100000 in
theorem checkStore_no (sv : Value) (ss : List (List VerD)) (now : Int) (w : World) (h : SlR tVersionS w sv ss) (hs : zL tVersionS ss ≤ 1048576) (hst : storeB ss now = false) :
  Calls Try.prog 58 #[.agg #[sv, .int .i64 now]] w (fun e w' => e = .returned (.tuple #[.slice none 0 0, .bool false]) ∧ Below w.heap.size w w') := by
 obtain ⟨us, hls, hsr⟩ := slR_ls h
 have HUL := Lib.hid hsr.1
 obtain ⟨a, cap, rfl⟩ := slR_len h
 have hlen := zL_len hs
 have HSS := Lib.hid hs
 have H := Lib.hid h
 have HLS := Lib.hid hls
 have HSR := Lib.hid hsr
 have d0 := Lib.hid (show Below w.heap.size w (w.alloc (.cells #[.slice a ss.length cap, .int .i64 now] 41)) from (Below.refl _ _).alloc (Nat.le_refl _) _)
 have B0 : Hid ((w.alloc (.cells #[.slice a ss.length cap, .int .i64 now] 41)).heap[w.heap.size]? = some (.cells #[.slice a ss.length cap, .int .i64 now] 41 (0, 0))) := Lib.hid (heap_alloc_new w _)
 have Y0 : Hid (w.heap.size < (w.alloc (.cells #[.slice a ss.length cap, .int .i64 now] 41)).heap.size) := Lib.hid (by simp [World.size_alloc])
 have HI := Lib.hid (fun W g => implIsStore (.slice a ss.length cap) ss now W g HSS.out)
 rw [hst] at HI
 clear hls hsr h hs hst
 go_enter Try.func58, Try.ntmps58
 go_wp2_with fail
 generalize w.alloc (.cells #[.slice a ss.length cap, .int .i64 now] 41) = W at *
 refine (HI.out W (slR_below tVersionS_law H.out d0.out)).mono ?_
 rintro e w1 ⟨rfl, b1⟩
 have D1 := Lib.hid (d0.out.trans (b1.mono d0.out.size))
 have k0 := (b1.block w.heap.size Y0.out).trans B0.out
 have p0 := (cell_of_row w1 _ 0 _ _ _ k0).trans (show _ = some (Value.slice a ss.length cap) from rfl)
 clear b1 k0
 go_wp2
 go_ret2
 exact ⟨rfl, D1.out⟩
set_option maxHeartbeats 8000000 in
set_option maxRecDepth 100000 in
theorem implCountVersions (sv : Value) (ss : List (List VerD)) (now : Int) (w : World) (h : SlR tVersionS w sv ss) (hs : zL tVersionS ss ≤ 1048576) :
  Calls Try.prog 63 #[.agg #[sv, .int .i64 now]] w (fun e w' => e = .returned (.int .i64 ss.flatten.length) ∧ Below w.heap.size w w') := by
 obtain ⟨us, hls, hsr⟩ := slR_ls h
 have HUL := Lib.hid hsr.1
 obtain ⟨a, cap, rfl⟩ := slR_len h
 have hlen := zL_len hs
 have HSS := Lib.hid hs
 have H := Lib.hid h
 have HLS := Lib.hid hls
 have HSR := Lib.hid hsr
 have d0 := Lib.hid (show Below w.heap.size w (w.alloc (.cells #[.slice a ss.length cap, .int .i64 now] 41)) from (Below.refl _ _).alloc (Nat.le_refl _) _)
 have B0 : Hid ((w.alloc (.cells #[.slice a ss.length cap, .int .i64 now] 41)).heap[w.heap.size]? = some (.cells #[.slice a ss.length cap, .int .i64 now] 41 (0, 0))) := Lib.hid (heap_alloc_new w _)
 have Y0 : Hid (w.heap.size < (w.alloc (.cells #[.slice a ss.length cap, .int .i64 now] 41)).heap.size) := Lib.hid (by simp [World.size_alloc])
 have HFL : Hid (ss.flatten.length ≤ 1048576) := Lib.hid (by have h1 := zL_all ss; have h2 := zL_len (T := tVersion) (xs := ss.flatten) (M := 1048576) (by omega); omega)
 clear hls hsr h hs
 go_enter Try.func63, Try.ntmps63
 go_wp2
 generalize w.alloc (.cells #[.slice a ss.length cap, .int .i64 now] 41) = W at *
 go_loopw [3, 9] (fun c i wr => ∃ k : Nat, k ≤ ss.length ∧ i = .int .i64 k ∧ c = .int .i64 ((cat ss k).length : Int) ∧ Below w.heap.size w wr) (fun _ i _ => ss.length - (intOf i).toNat)
 case atStart => exact ⟨0, Nat.zero_le _, rfl, by rw [cat_zero]; rfl, d0.out⟩
 case round =>
  obtain ⟨k, hk, rfl, rfl, hbel⟩ := hrel
  by_cases hlt : k < ss.length
  ·
   have i1 : (0 : Int) ≤ (k : Int) := by omega
   have i2 : (k : Int) < (ss.length : Int) := by omega
   obtain ⟨b, off, cap', cs, hv, hbl, hcs, hR⟩ := slR_at H.out hlt
   simp only [Value.slice.injEq] at hv
   obtain ⟨rfl, _, rfl⟩ := hv
   obtain ⟨u, rfl, hU⟩ := hR
   change SlR tVersion w u (ss.getD k []) at hU
   have pe : w.cell? ⟨b, off + k, none⟩ = some u := by have := hcs 0 Nat.one_pos; rw [show tVersionS.n = 1 from rfl, Nat.mul_one, Nat.add_zero] at this; exact this
   have he := (hbel.cell (p := ⟨b, off + k, none⟩) hbl).trans pe
   have HCL := Lib.hid (cat_len hlt)
   have hcf := cat_le ss (k + 1)
   have hfl := HFL.out
   have hcl := HCL.out
   obtain ⟨ua, uc, rfl⟩ := slR_len hU
   have HB := Lib.hid hbel
   clear hcs pe hU hbel
   generalize (ss.getD k []).length = m at *
   have h0 : ((cat ss k).length : Int) + (m : Int) ≤ 1048576 := by omega
   generalize (cat ss k).length = q at *
   clear hcf hfl hcl
   go_wp2
   go_roundw
   case rel => exact ⟨k + 1, by omega, by go_num, by rw [HCL.out]; go_num, HB.out⟩
   case measure => simp [intOf]; omega
  ·
   obtain rfl : k = ss.length := by omega
   have HCA : Hid (cat ss ss.length = ss.flatten) := Lib.hid (cat_all ss)
   rw [HCA.out]
   go_wp2
   go_ret
   exact ⟨rfl, hbel⟩
/-- A slice in new memory without room beyond its length. -/
def FreshE {α : Type} (t : TypeId) (T : Ty α) (w : World) (xs : List α) (e : Ending) (w' : World) : Prop := ∃ g : Nat, e = .returned (.slice (some ⟨g, 0, none⟩) xs.length xs.length) ∧ SlO t T w' (since w) (.slice (some ⟨g, 0, none⟩) xs.length xs.length) xs ∧ Below w.heap.size w w'
/-- A segment as a slice without room beyond its length. -/
def tX : Ty (List VerD) := { tVersionS with
 R := fun w cs xs => ∃ a, cs = [.slice a xs.length xs.length] ∧ SlR tVersion w (.slice a xs.length xs.length) xs
 O := fun w F cs xs => ∃ a, cs = [.slice a xs.length xs.length] ∧ SlO 88 tVersion w F (.slice a xs.length xs.length) xs }
theorem tX_law : tX.Law where
 pos := Nat.one_pos
 len := fun {w cs x} h => by obtain ⟨v, rfl, _⟩ := h; rfl
 below := fun {W w cs x} h hb => by obtain ⟨v, e, h⟩ := h; exact ⟨v, e, slR_below tVersion_law h hb⟩
 reads := fun {w F cs x} h => by obtain ⟨v, e, h⟩ := h; exact ⟨v, e, slO_reads tVersion_law h⟩
 turn := fun {w w' F G cs x} h k hd => by obtain ⟨v, e, h⟩ := h; exact ⟨v, e, slO_turn tVersion_law h k hd⟩
 mono := fun {w F F' cs x} h hf => by obtain ⟨v, e, h⟩ := h; exact ⟨v, e, slO_mono h hf⟩
 lt := fun {w F cs x} h => by obtain ⟨v, e, h⟩ := h; exact ⟨v, e, slO_lt tVersion_law h⟩
 nd_le := fun x => tVersionS_law.nd_le x
 nv_le := fun x => tVersionS_law.nv_le x
theorem tX_zero (w : World) : tX.O w (fun _ => False) #[.slice none 0 0].toList tX.d := ⟨none, rfl, slO_nil _ _ _ _⟩
theorem tX_O {w : World} {F : Nat → Prop} {cs : List Value} {xs : List VerD} (h : tX.O w F cs xs) : tVersionS.O w F cs xs := by obtain ⟨a, e, h⟩ := h; exact ⟨_, e, h⟩
theorem slO_X {e : TypeId} {w : World} {F : Nat → Prop} {v : Value} {ss : List (List VerD)} (h : SlO e tX w F v ss) : SlO e tVersionS w F v ss := by
 obtain ⟨L, us, Fs, h1, h2, h3, h4⟩ := h
 exact ⟨L, us, Fs, h1, h2, fun j hj => ⟨(h3 j hj).1, tX_O (h3 j hj).2.1, (h3 j hj).2.2⟩, h4⟩
set_option maxHeartbeats 8000000 in
set_option maxRecDepth 100000 in
theorem copyEachVersionX (v : Value) (xs : List (Int × List Int × Int × Int)) (w : World) (h : SlR tVersion w v xs) (hs : zL tVersion xs ≤ 1048576) :
  Calls Try.prog 100 #[v, .func (.func 101) #[] #[]] w (FreshE 88 tVersion w xs) := by
 obtain ⟨i0, hi, hz0, hz1⟩ : ∃ i0, Try.prog.info? 88 = some i0 ∧ i0.zero = some (.agg #[.int .i64 0, .slice none 0 0, .int .i64 0, .int .i64 0]) ∧ i0.size = 4 := by
  have h0 := Try.info_Version
  cases q : Try.prog.info? 88 with
  | none => rw [q] at h0; simp at h0
  | some i => rw [q] at h0; simp only [Option.map_some, Option.some.injEq, Prod.mk.injEq] at h0; exact ⟨i, rfl, h0.1, h0.2⟩
 have hz2 : i0.bytes ≤ 512 := by
  have h0 := Try.bytes_Version
  rw [hi] at h0
  simpa using h0
 have HI := Lib.hid hi; have HZ0 := Lib.hid hz0; have HZ1 := Lib.hid hz1; have HZ2 := Lib.hid hz2
 clear hi hz0 hz1 hz2
 have H := Lib.hid h
 have hlen := zL_len hs
 have HS := Lib.hid hs
 obtain ⟨a, cap, rfl⟩ := slR_len h
 clear h hs
 go_enter Try.func100, Try.ntmps100
 go_wp2_with (at_make; refine wpList_make_full _ rfl (.tmp 9) (.tmp 9) 89 rfl w.heap.size 88 i0 (.agg #[.int .i64 0, .slice none 0 0, .int .i64 0, .int .i64 0]) 4 Try.underlying89 HI.out HZ0.out HZ1.out _ _ _ _ xs.length rfl rfl rfl rfl (by have h9 := Nat.mul_le_mul HZ2.out hlen; have h8 := Nat.mul_le_mul hlen HZ2.out; omega) (by unfold maxLen; omega) (Nat.le_refl _) ?_)
 intro w1 hown0 hg0
 have hown1 : SlO 88 tVersion w1 (since w) (.slice (some ⟨w.heap.size, 0, none⟩) xs.length xs.length) (List.replicate xs.length tVersion.d) := slO_made (z := #[.int .i64 0, .slice none 0 0, .int .i64 0, .int .i64 0]) tVersion_law rfl (tVersion_zero w1) (Nat.le_refl _) hown0
 have hbel1 := (Below.refl w.heap.size w).grown hg0 (Nat.le_refl _) (fun k hk => by cases hk)
 clear hown0 hg0
 go_wp2
 go_loopw [13] (fun i wr => ∃ k : Nat, k ≤ xs.length ∧ i = .int .i64 k ∧ SlO 88 tVersion wr (since w) (.slice (some ⟨w.heap.size, 0, none⟩) xs.length xs.length) (xs.take k ++ List.replicate (xs.length - k) tVersion.d) ∧ Below w.heap.size w wr) (fun i _ => xs.length - (intOf i).toNat)
 case atStart => exact ⟨0, Nat.zero_le _, rfl, by simpa using hown1, hbel1⟩
 case round =>
  obtain ⟨k, hk, rfl, hown, hbel⟩ := hrel
  by_cases hlt : k < xs.length
  ·
   have HSET := Lib.hid (cTo_step (d := tVersion.d) hlt)
   have HKL : Hid (k < (xs.take k ++ List.replicate (xs.length - k) tVersion.d).length) := Lib.hid (by rw [cTo_len hk]; exact hlt)
   have HLL := Lib.hid (cTo_len (d := tVersion.d) hk)
   have i1 : (0 : Int) ≤ (k : Int) := by omega
   have i2 : (k : Int) < (xs.length : Int) := by omega
   have hzx := zL_at HS.out hlt
   obtain ⟨b, off, cap', cs, hv, hbl, hcs, hR⟩ := slR_at (slR_below tVersion_law H.out hbel) hlt
   simp only [Value.slice.injEq] at hv
   obtain ⟨rfl, _, rfl⟩ := hv
   obtain ⟨hme, hFg, hgl, cj, Fj, Lc, hrow, hLc, hO, hFj, hput⟩ := slO_open tVersion_law hown HKL.out
   clear hme
   clear hown1 hbel1
   generalize xs.getD k tVersion.d = x at *
   generalize xs.take k ++ List.replicate (xs.length - k) tVersion.d = ys at *
   obtain ⟨a0, x1, a2, a3⟩ := x
   obtain ⟨v1, hR'⟩ := tVersion_R hR
   obtain ⟨rfl, h1⟩ := hR'
   have p0 : wr.cell? ⟨b, off + k * 4, none⟩ = some (Value.int .i64 a0) := hcs 0 (by decide)
   have p1 : wr.cell? ⟨b, off + k * 4 + 1, none⟩ = some (v1) := hcs 1 (by decide)
   have p2 : wr.cell? ⟨b, off + k * 4 + 2, none⟩ = some (Value.int .i64 a2) := hcs 2 (by decide)
   have p3 : wr.cell? ⟨b, off + k * 4 + 3, none⟩ = some (Value.int .i64 a3) := hcs 3 (by decide)
   rw [tVersion_sz] at hzx
   have S1 := Lib.hid (show zL tInt x1 ≤ 1048576 by omega)
   obtain ⟨sa1, sc1, rfl⟩ := slR_len h1
   have HC := Lib.hid (fun w g1 => copyVersion_P a0 a2 a3 (.slice sa1 x1.length sc1) x1 w g1 S1.out)
   have G1 := Lib.hid h1
   clear hcs hzx h1
   have hal : Below wr.heap.size wr (wr.alloc (.cells #[.int .i64 a0, .slice sa1 x1.length sc1, .int .i64 a2, .int .i64 a3] 88)) := (Below.refl _ _).alloc (Nat.le_refl _) _
   go_wp2_with fail
   generalize wr.alloc (.cells #[.int .i64 a0, .slice sa1 x1.length sc1, .int .i64 a2, .int .i64 a3] 88) = W2 at *
   refine (HC.out _ (slR_below tInt_law G1.out hal)).mono ?_
   rintro e w2 ⟨cv, rfl, ow0, b20⟩
   have ow : tVersion.O w2 (since wr) cv _ := tVersion_law.mono ow0 (fun b hb => Nat.le_trans hal.size hb)
   have b2 := hal.trans (b20.mono hal.size)
   clear ow0 b20 hal
   replace ow := tVersion_law.lt ow
   have ow2 := ow
   obtain ⟨u1, K1, rfl, o1, _⟩ := tVersion_O ow2
   obtain ⟨ua1, uc1, rfl⟩ := slO_len o1
   clear o1
   have r0 := row_turn (G := fun _ => False) hrow (turn_below b2) (fun _ _ => not_false)
   rw [HLL.out] at r0
   have q0 : ∃ x, w2.cell? ⟨w.heap.size, k * 4, none⟩ = some x := ⟨_, (World.ownsRow.cellAt r0 (k * 4) (by have := HKL.out; rw [HLL.out] at this; show _ < xs.length * 4; omega)).trans (List.getElem?_eq_getElem (by have h1 : Lc.length = xs.length * 4 := r0.1; omega))⟩
   obtain ⟨y0, q0⟩ := q0
   have f0 := World.ownsRow.frozenAt r0 (k * 4)
   have q1 : ∃ x, w2.cell? ⟨w.heap.size, k * 4 + 1, none⟩ = some x := ⟨_, (World.ownsRow.cellAt r0 (k * 4 + 1) (by have := HKL.out; rw [HLL.out] at this; show _ < xs.length * 4; omega)).trans (List.getElem?_eq_getElem (by have h1 : Lc.length = xs.length * 4 := r0.1; omega))⟩
   obtain ⟨y1, q1⟩ := q1
   have f1 := World.ownsRow.frozenAt r0 (k * 4 + 1)
   have q2 : ∃ x, w2.cell? ⟨w.heap.size, k * 4 + 2, none⟩ = some x := ⟨_, (World.ownsRow.cellAt r0 (k * 4 + 2) (by have := HKL.out; rw [HLL.out] at this; show _ < xs.length * 4; omega)).trans (List.getElem?_eq_getElem (by have h1 : Lc.length = xs.length * 4 := r0.1; omega))⟩
   obtain ⟨y2, q2⟩ := q2
   have f2 := World.ownsRow.frozenAt r0 (k * 4 + 2)
   have q3 : ∃ x, w2.cell? ⟨w.heap.size, k * 4 + 3, none⟩ = some x := ⟨_, (World.ownsRow.cellAt r0 (k * 4 + 3) (by have := HKL.out; rw [HLL.out] at this; show _ < xs.length * 4; omega)).trans (List.getElem?_eq_getElem (by have h1 : Lc.length = xs.length * 4 := r0.1; omega))⟩
   obtain ⟨y3, q3⟩ := q3
   have f3 := World.ownsRow.frozenAt r0 (k * 4 + 3)
   have b3 := hbel.trans (b2.mono hbel.size)
   have B3 := Lib.hid ((((b3.setCell (p := ⟨w.heap.size, k * 4, none⟩) (Nat.le_refl _) (.int .i64 a0)).setCell (p := ⟨w.heap.size, k * 4 + 1, none⟩) (Nat.le_refl _) (.slice ua1 x1.length uc1)).setCell (p := ⟨w.heap.size, k * 4 + 2, none⟩) (Nat.le_refl _) (.int .i64 a2)).setCell (p := ⟨w.heap.size, k * 4 + 3, none⟩) (Nat.le_refl _) (.int .i64 a3))
   have hT : Turn (fun b => b = w.heap.size ∨ Fj b ∨ wr.heap.size ≤ b) wr ((((w2.setCell ⟨w.heap.size, k * 4, none⟩ (.int .i64 a0)).setCell ⟨w.heap.size, k * 4 + 1, none⟩ (.slice ua1 x1.length uc1)).setCell ⟨w.heap.size, k * 4 + 2, none⟩ (.int .i64 a2)).setCell ⟨w.heap.size, k * 4 + 3, none⟩ (.int .i64 a3)) := (((((turn_below b2).trans (turn_set (j := k * 4) (u := .int .i64 a0) (Or.inl rfl))).trans (turn_set (j := k * 4 + 1) (u := .slice ua1 x1.length uc1) (Or.inl rfl))).trans (turn_set (j := k * 4 + 2) (u := .int .i64 a2) (Or.inl rfl))).trans (turn_set (j := k * 4 + 3) (u := .int .i64 a3) (Or.inl rfl)))
   have hT2 : Turn (fun b => b = w.heap.size) w2 ((((w2.setCell ⟨w.heap.size, k * 4, none⟩ (.int .i64 a0)).setCell ⟨w.heap.size, k * 4 + 1, none⟩ (.slice ua1 x1.length uc1)).setCell ⟨w.heap.size, k * 4 + 2, none⟩ (.int .i64 a2)).setCell ⟨w.heap.size, k * 4 + 3, none⟩ (.int .i64 a3)) := (((((Turn.refl (fun b => b = w.heap.size) _).trans (turn_set (G := fun b => b = w.heap.size) (j := k * 4) (u := .int .i64 a0) rfl)).trans (turn_set (G := fun b => b = w.heap.size) (j := k * 4 + 1) (u := .slice ua1 x1.length uc1) rfl)).trans (turn_set (G := fun b => b = w.heap.size) (j := k * 4 + 2) (u := .int .i64 a2) rfl)).trans (turn_set (G := fun b => b = w.heap.size) (j := k * 4 + 3) (u := .int .i64 a3) rfl))
   have hO2 := tVersion_law.turn ow hT2 (fun b h1 h2 => by have := h1.1; simp only [since] at this; omega)
   have r9 := (World.ownsRow.stored (World.ownsRow.stored (World.ownsRow.stored (World.ownsRow.stored r0 (k * 4) (.int .i64 a0)).1 (k * 4 + 1) (.slice ua1 x1.length uc1)).1 (k * 4 + 2) (.int .i64 a2)).1 (k * 4 + 3) (.int .i64 a3)).1
   have hLl : Lc.length = xs.length * 4 := r0.1
   have hst := Lib.hid (hput ((((w2.setCell ⟨w.heap.size, k * 4, none⟩ (.int .i64 a0)).setCell ⟨w.heap.size, k * 4 + 1, none⟩ (.slice ua1 x1.length uc1)).setCell ⟨w.heap.size, k * 4 + 2, none⟩ (.int .i64 a2)).setCell ⟨w.heap.size, k * 4 + 3, none⟩ (.int .i64 a3)) ((((Lc.set (k * 4) (.int .i64 a0)).set (k * 4 + 1) (.slice ua1 x1.length uc1)).set (k * 4 + 2) (.int .i64 a2)).set (k * 4 + 3) (.int .i64 a3)) [.int .i64 a0, .slice ua1 x1.length uc1, .int .i64 a2, .int .i64 a3] _ (a0, x1, a2, a3) (by rw [HLL.out]; exact r9) (fun p hp => by have hp2 : p < k * 4 ∨ k * 4 + 4 ≤ p := hp; rw [List.getElem?_set_ne (by omega)]; rw [List.getElem?_set_ne (by omega)]; rw [List.getElem?_set_ne (by omega)]; rw [List.getElem?_set_ne (by omega)]) (fun i hi => by have hi' : i < 4 := hi; match i, hi' with | 0, _ => (show (((((Lc.set (k * 4) (.int .i64 a0)).set (k * 4 + 1) (.slice ua1 x1.length uc1)).set (k * 4 + 2) (.int .i64 a2)).set (k * 4 + 3) (.int .i64 a3)))[k * 4]? = _; rw [List.getElem?_set_ne (by omega)]; rw [List.getElem?_set_ne (by omega)]; rw [List.getElem?_set_ne (by omega)]; rw [List.getElem?_set_self (by first | omega | (simp only [List.length_set]; omega))]; rfl) | 1, _ => (show (((((Lc.set (k * 4) (.int .i64 a0)).set (k * 4 + 1) (.slice ua1 x1.length uc1)).set (k * 4 + 2) (.int .i64 a2)).set (k * 4 + 3) (.int .i64 a3)))[k * 4 + 1]? = _; rw [List.getElem?_set_ne (by omega)]; rw [List.getElem?_set_ne (by omega)]; rw [List.getElem?_set_self (by first | omega | (simp only [List.length_set]; omega))]; rfl) | 2, _ => (show (((((Lc.set (k * 4) (.int .i64 a0)).set (k * 4 + 1) (.slice ua1 x1.length uc1)).set (k * 4 + 2) (.int .i64 a2)).set (k * 4 + 3) (.int .i64 a3)))[k * 4 + 2]? = _; rw [List.getElem?_set_ne (by omega)]; rw [List.getElem?_set_self (by first | omega | (simp only [List.length_set]; omega))]; rfl) | 3, _ => (show (((((Lc.set (k * 4) (.int .i64 a0)).set (k * 4 + 1) (.slice ua1 x1.length uc1)).set (k * 4 + 2) (.int .i64 a2)).set (k * 4 + 3) (.int .i64 a3)))[k * 4 + 3]? = _; rw [List.getElem?_set_self (by first | omega | (simp only [List.length_set]; omega))]; rfl)) hO2 (fun b hb => ⟨Nat.le_trans hbel.size hb.1, Or.inr hb.1⟩) hT)
   have hst2 : SlO 88 tVersion ((((w2.setCell ⟨w.heap.size, k * 4, none⟩ (.int .i64 a0)).setCell ⟨w.heap.size, k * 4 + 1, none⟩ (.slice ua1 x1.length uc1)).setCell ⟨w.heap.size, k * 4 + 2, none⟩ (.int .i64 a2)).setCell ⟨w.heap.size, k * 4 + 3, none⟩ (.int .i64 a3)) (since w) (.slice (some ⟨w.heap.size, 0, none⟩) xs.length xs.length) (xs.take (k + 1) ++ List.replicate (xs.length - (k + 1)) tVersion.d) := by have := hst.out; rw [HSET.out] at this; exact this
   have HST := Lib.hid hst2
   clear hst hst2 hT hT2 hO2 r9 r0 hrow hO hput hown hbel b2 ow b3 hLl hLc hFj
   go_wp2
   go_roundw
   case rel => exact ⟨k + 1, by omega, by go_num, HST.out, B3.out⟩
   case measure => simp [intOf]; omega
  ·
   obtain rfl : k = xs.length := by omega
   have HE : Hid (xs.take xs.length ++ List.replicate (xs.length - xs.length) tVersion.d = xs) := Lib.hid (by simp)
   rw [HE.out] at hown
   go_wp2
   go_ret
   exact ⟨_, rfl, hown, hbel⟩
set_option maxHeartbeats 2000000 in
set_option maxRecDepth 100000 in
theorem copyVersions_X (v : Value) (xs : List (Int × List Int × Int × Int)) (w : World) (h : SlR tVersion w v xs) (hs : zL tVersion xs ≤ 1048576) :
  Calls Try.prog 85 #[v] w (FreshE 88 tVersion w xs) := by
 have H := Lib.hid (fun w h => copyEachVersionX v xs w h hs)
 have HV := Lib.hid h
 clear h hs
 go_enter Try.func85, Try.ntmps85
 go_wp2_with fail
 refine (H.out _ HV.out).mono ?_
 rintro e w1 ⟨u, rfl, o1, b1⟩
 go_wp2
 go_ret
 exact ⟨_, rfl, o1, b1⟩
def FreshSX (w : World) (ss : List (List VerD)) (now : Int) (e : Ending) (w' : World) : Prop := ∃ (a : Option Addr) (c : Nat), e = .returned (.agg #[.slice a ss.length c, .int .i64 now]) ∧ SlO 89 tX w' (since w) (.slice a ss.length c) ss ∧ Below w.heap.size w w'
set_option maxHeartbeats 8000000 in
set_option maxRecDepth 100000 in
theorem copyEachVersionSX (v : Value) (xs : List (List (Int × List Int × Int × Int))) (w : World) (h : SlR tVersionS w v xs) (hs : zL tVersionS xs ≤ 1048576) :
  Calls Try.prog 84 #[v, .func (.func 85) #[] #[]] w (FreshS 89 tX w xs) := by
 obtain ⟨i0, hi, hz0, hz1⟩ : ∃ i0, Try.prog.info? 89 = some i0 ∧ i0.zero = some (.slice none 0 0) ∧ i0.size = 1 := by
  have h0 := Try.info_VersionS
  cases q : Try.prog.info? 89 with
  | none => rw [q] at h0; simp at h0
  | some i => rw [q] at h0; simp only [Option.map_some, Option.some.injEq, Prod.mk.injEq] at h0; exact ⟨i, rfl, h0.1, h0.2⟩
 have hz2 : i0.bytes ≤ 512 := by
  have h0 := Try.bytes_VersionS
  rw [hi] at h0
  simpa using h0
 have HI := Lib.hid hi; have HZ0 := Lib.hid hz0; have HZ1 := Lib.hid hz1; have HZ2 := Lib.hid hz2
 clear hi hz0 hz1 hz2
 have H := Lib.hid h
 have hlen := zL_len hs
 have HS := Lib.hid hs
 obtain ⟨a, cap, rfl⟩ := slR_len h
 clear h hs
 go_enter Try.func84, Try.ntmps84
 go_wp2_with (at_make; refine wpList_make_full _ rfl (.tmp 9) (.tmp 9) 39 rfl w.heap.size 89 i0 (.slice none 0 0) 1 Try.underlying39 HI.out HZ0.out HZ1.out _ _ _ _ xs.length rfl rfl rfl rfl (by have h9 := Nat.mul_le_mul HZ2.out hlen; have h8 := Nat.mul_le_mul hlen HZ2.out; omega) (by unfold maxLen; omega) (Nat.le_refl _) ?_)
 intro w1 hown0 hg0
 have hown1 : SlO 89 tX w1 (since w) (.slice (some ⟨w.heap.size, 0, none⟩) xs.length xs.length) (List.replicate xs.length tVersionS.d) := slO_made (z := #[.slice none 0 0]) tX_law rfl (tX_zero w1) (Nat.le_refl _) (by rw [show xs.length * tX.n = xs.length from Nat.mul_one _]; exact hown0)
 have hbel1 := (Below.refl w.heap.size w).grown hg0 (Nat.le_refl _) (fun k hk => by cases hk)
 clear hown0 hg0
 go_wp2
 go_loopw [13] (fun i wr => ∃ k : Nat, k ≤ xs.length ∧ i = .int .i64 k ∧ SlO 89 tX wr (since w) (.slice (some ⟨w.heap.size, 0, none⟩) xs.length xs.length) (xs.take k ++ List.replicate (xs.length - k) tVersionS.d) ∧ Below w.heap.size w wr) (fun i _ => xs.length - (intOf i).toNat)
 case atStart => exact ⟨0, Nat.zero_le _, rfl, by simpa using hown1, hbel1⟩
 case round =>
  obtain ⟨k, hk, rfl, hown, hbel⟩ := hrel
  by_cases hlt : k < xs.length
  ·
   have HSET := Lib.hid (cTo_step (d := tVersionS.d) hlt)
   have HKL : Hid (k < (xs.take k ++ List.replicate (xs.length - k) tVersionS.d).length) := Lib.hid (by rw [cTo_len hk]; exact hlt)
   have HLL := Lib.hid (cTo_len (d := tVersionS.d) hk)
   have i1 : (0 : Int) ≤ (k : Int) := by omega
   have i2 : (k : Int) < (xs.length : Int) := by omega
   have hzx := zL_at HS.out hlt
   obtain ⟨b, off, cap', cs, hv, hbl, hcs, hR⟩ := slR_at (slR_below tVersionS_law H.out hbel) hlt
   simp only [Value.slice.injEq] at hv
   obtain ⟨rfl, _, rfl⟩ := hv
   obtain ⟨hme, hFg, hgl, cj, Fj, Lc, hrow, hLc, hO, hFj, hput⟩ := slO_open tX_law hown HKL.out
   clear hme
   clear hown1 hbel1
   generalize xs.getD k tVersionS.d = x at *
   generalize xs.take k ++ List.replicate (xs.length - k) tVersionS.d = ys at *
   obtain ⟨u, rfl, h0⟩ := hR
   have p0 : wr.cell? ⟨b, off + k, none⟩ = some u := by have := hcs 0 Nat.one_pos; rw [show tVersionS.n = 1 from rfl, Nat.mul_one, Nat.add_zero] at this; exact this
   have HC := Lib.hid (fun w g => copyVersions_X u x w g hzx)
   have G0 := Lib.hid h0
   clear hcs h0
   go_wp2_with fail
   refine (HC.out _ G0.out).mono ?_
   rintro e w2 ⟨g2, rfl, ow0, b2⟩
   replace ow0 := slO_lt tVersion_law ow0
   have ow : tX.O w2 (fun b => since wr b ∧ b < w2.heap.size) [.slice (some ⟨g2, 0, none⟩) x.length x.length] x := ⟨_, rfl, ow0⟩
   have r0 := row_turn (G := fun _ => False) hrow (turn_below b2) (fun _ _ => not_false)
   rw [HLL.out] at r0
   have q0 : ∃ x, w2.cell? ⟨w.heap.size, k, none⟩ = some x := ⟨_, (World.ownsRow.cellAt r0 (k) (by have := HKL.out; rw [HLL.out] at this; show _ < xs.length * 1; omega)).trans (List.getElem?_eq_getElem (by have h1 : Lc.length = xs.length * 1 := r0.1; omega))⟩
   obtain ⟨y0, q0⟩ := q0
   have f0 := World.ownsRow.frozenAt r0 (k)
   have b3 := hbel.trans (b2.mono hbel.size)
   have B3 := Lib.hid (b3.setCell (p := ⟨w.heap.size, k, none⟩) (Nat.le_refl _) (.slice (some ⟨g2, 0, none⟩) x.length x.length))
   have hT : Turn (fun b => b = w.heap.size ∨ Fj b ∨ wr.heap.size ≤ b) wr (w2.setCell ⟨w.heap.size, k, none⟩ (.slice (some ⟨g2, 0, none⟩) x.length x.length)) := ((turn_below b2).trans (turn_set (j := k) (u := .slice (some ⟨g2, 0, none⟩) x.length x.length) (Or.inl rfl)))
   have hT2 : Turn (fun b => b = w.heap.size) w2 (w2.setCell ⟨w.heap.size, k, none⟩ (.slice (some ⟨g2, 0, none⟩) x.length x.length)) := ((Turn.refl (fun b => b = w.heap.size) _).trans (turn_set (G := fun b => b = w.heap.size) (j := k) (u := .slice (some ⟨g2, 0, none⟩) x.length x.length) rfl))
   have hO2 := tX_law.turn ow hT2 (fun b h1 h2 => by have := h1.1; simp only [since] at this; omega)
   have r9 := (World.ownsRow.stored r0 (k) (.slice (some ⟨g2, 0, none⟩) x.length x.length)).1
   have hLl : Lc.length = xs.length * 1 := r0.1
   have hst := Lib.hid (hput (w2.setCell ⟨w.heap.size, k, none⟩ (.slice (some ⟨g2, 0, none⟩) x.length x.length)) (Lc.set (k) (.slice (some ⟨g2, 0, none⟩) x.length x.length)) [.slice (some ⟨g2, 0, none⟩) x.length x.length] _ x (by rw [HLL.out]; exact r9) (fun p hp => by have hp2 : p < k * 1 ∨ k * 1 + 1 ≤ p := hp; rw [List.getElem?_set_ne (by omega)]) (fun i hi => by have hi2 : i < 1 := hi; obtain rfl : i = 0 := (by omega); have e0 : k * tX.n + 0 = k := (by show k * 1 + 0 = k; omega); rw [e0]; exact List.getElem?_set_self (by omega)) hO2 (fun b hb => ⟨Nat.le_trans hbel.size hb.1, Or.inr hb.1⟩) hT)
   have hst2 : SlO 89 tX (w2.setCell ⟨w.heap.size, k, none⟩ (.slice (some ⟨g2, 0, none⟩) x.length x.length)) (since w) (.slice (some ⟨w.heap.size, 0, none⟩) xs.length xs.length) (xs.take (k + 1) ++ List.replicate (xs.length - (k + 1)) tVersionS.d) := by have := hst.out; rw [HSET.out] at this; exact this
   have HST := Lib.hid hst2
   clear hst hst2 hT hT2 hO2 r9 r0 hrow hO hput hown hbel b2 ow b3 hLl hLc hFj
   go_wp2
   go_roundw
   case rel => exact ⟨k + 1, by omega, by go_num, HST.out, B3.out⟩
   case measure => simp [intOf]; omega
  ·
   obtain rfl : k = xs.length := by omega
   have HE : Hid (xs.take xs.length ++ List.replicate (xs.length - xs.length) tVersionS.d = xs) := Lib.hid (by simp)
   rw [HE.out] at hown
   go_wp2
   go_ret
   exact ⟨_, rfl, hown, hbel⟩
set_option maxHeartbeats 8000000 in
set_option maxRecDepth 100000 in
theorem copyStore_X (a1 : Int) (v0 : Value) (x0 : List (List (Int × List Int × Int × Int))) (w : World) (h0 : SlR tVersionS w v0 x0) (s0 : zL tVersionS x0 ≤ 1048576) :
  Calls Try.prog 57 #[.agg #[v0, .int .i64 a1]] w (FreshSX w x0 a1) := by
 obtain ⟨sa0, sc0, rfl⟩ := slR_len h0
 have H := Lib.hid (fun w h => copyEachVersionSX (.slice sa0 x0.length sc0) x0 w h s0)
 have HV := Lib.hid h0
 clear h0 s0
 have d := Lib.hid (((Below.refl w.heap.size w).alloc (Nat.le_refl _) (.cells #[.slice sa0 x0.length sc0, .int .i64 a1] 41)).alloc (by simp) (.cells #[.slice none 0 0, .int .i64 0] 41))
 have B0 : Hid (((w.alloc (.cells #[.slice sa0 x0.length sc0, .int .i64 a1] 41)).alloc (.cells #[.slice none 0 0, .int .i64 0] 41)).heap[w.heap.size]? = some (.cells #[.slice sa0 x0.length sc0, .int .i64 a1] 41 (0, 0))) := Lib.hid (by rw [Below.heap_alloc _ _ _ (by simp)]; exact heap_alloc_new w _)
 have B1 : Hid (((w.alloc (.cells #[.slice sa0 x0.length sc0, .int .i64 a1] 41)).alloc (.cells #[.slice none 0 0, .int .i64 0] 41)).heap[(w.heap.size + 1)]? = some (.cells #[.slice none 0 0, .int .i64 0] 41 (0, 0))) := Lib.hid (by
  have := heap_alloc_new (w.alloc (.cells #[.slice sa0 x0.length sc0, .int .i64 a1] 41)) (.cells #[.slice none 0 0, .int .i64 0] 41)
  simpa only [World.size_alloc] using this)
 have YW : Hid (w.heap.size + 1 < ((w.alloc (.cells #[.slice sa0 x0.length sc0, .int .i64 a1] 41)).alloc (.cells #[.slice none 0 0, .int .i64 0] 41)).heap.size) := Lib.hid (by simp)
 go_enter Try.func57, Try.ntmps57
 go_wp2_with fail
 generalize ((w.alloc (.cells #[.slice sa0 x0.length sc0, .int .i64 a1] 41)).alloc (.cells #[.slice none 0 0, .int .i64 0] 41)) = W at *
 refine (H.out W (slR_below tVersionS_law HV.out d.out)).mono ?_
 rintro e w1 ⟨u, rfl, o1, c1⟩
 replace o1 := slO_lt tX_law o1
 obtain ⟨ua, uc, rfl⟩ := slO_len o1
 replace B0 := Lib.hid ((c1.block w.heap.size (Array.getElem?_eq_some_iff.1 B0.out).1).trans B0.out)
 replace B1 := Lib.hid ((c1.block (w.heap.size + 1) (Array.getElem?_eq_some_iff.1 B1.out).1).trans B1.out)
 have P1 := Lib.hid o1
 have y0 := YW.out; have yc := c1.size
 have Q1 : Hid (∀ b, (since W b ∧ b < w1.heap.size) → w.heap.size + 1 < b) := Lib.hid (fun b h => Nat.lt_of_lt_of_le y0 h.1)
 replace d := Lib.hid (d.out.trans (c1.mono d.out.size))
 replace YW : Hid (w.heap.size + 1 < w1.heap.size) := Lib.hid (Nat.lt_of_lt_of_le y0 yc)
 clear o1 c1 y0 yc
 have p0 := (cell_of_row w1 _ 0 _ _ _ B0.out).trans (show _ = some (Value.slice sa0 x0.length sc0) from rfl)
 have f0 := frozen_of_row w1 _ 0 _ _ B0.out
 have tt : Turn (fun b => b = w.heap.size) w1 (w1.setCell ⟨w.heap.size, 0, none⟩ (.slice ua x0.length uc)) := turn_set (G := fun b => b = w.heap.size) (g := w.heap.size) (j := 0) (u := .slice ua x0.length uc) rfl
 have r := heap_setCell_same w1 w.heap.size 0 _ _ (.slice ua x0.length uc) B0.out
 simp at r
 have y1 := YW.out
 have K0 : Hid ((w1.setCell ⟨w.heap.size, 0, none⟩ (.slice ua x0.length uc)).heap[w.heap.size]? = some (.cells #[.slice ua x0.length uc, .int .i64 a1] 41 (0, 0))) := Lib.hid r
 have K1 := Lib.hid ((tt.block (w.heap.size + 1) (Array.getElem?_eq_some_iff.1 B1.out).1 (fun h => by omega)).trans B1.out)
 have KP1 := Lib.hid (slO_turn tX_law P1.out tt (fun b h1 h2 => by have := Q1.out b h1; omega))
 have kd := Lib.hid (below_turn d.out tt (fun b h => by omega) d.out.size)
 have KY : Hid (w.heap.size + 1 < (w1.setCell ⟨w.heap.size, 0, none⟩ (.slice ua x0.length uc)).heap.size) := Lib.hid (Nat.lt_of_lt_of_le y1 tt.size)
 clear tt r y1 B0 B1 d YW P1
 generalize hW : (w1.setCell ⟨w.heap.size, 0, none⟩ (.slice ua x0.length uc)) = WF at *
 have c0 := (cell_of_row WF _ 0 _ _ _ K0.out).trans (show _ = some (Value.slice ua x0.length uc) from rfl)
 have c1 := (cell_of_row WF _ 1 _ _ _ K0.out).trans (show _ = some (Value.int .i64 a1) from rfl)
 have z0 := (cell_of_row WF _ 0 _ _ _ K1.out).trans (show _ = some (Value.slice none 0 0) from rfl)
 have g0 := frozen_of_row WF _ 0 _ _ K1.out
 have z1 := (cell_of_row WF _ 1 _ _ _ K1.out).trans (show _ = some (Value.int .i64 0) from rfl)
 have g1 := frozen_of_row WF _ 1 _ _ K1.out
 have y1 := KY.out
 have DF := Lib.hid ((kd.out.setCell (p := ⟨w.heap.size + 1, 0, none⟩) (by simp) (.slice ua x0.length uc)).setCell (p := ⟨w.heap.size + 1, 1, none⟩) (by simp) (.int .i64 a1))
 have r := (heap_setCell_same _ (w.heap.size + 1) 1 _ _ (.int .i64 a1) (heap_setCell_same WF (w.heap.size + 1) 0 _ _ (.slice ua x0.length uc) K1.out))
 simp at r
 have e0 := (cell_of_row _ (w.heap.size + 1) 0 _ _ _ r).trans (show _ = some (Value.slice ua x0.length uc) from rfl)
 have e1 := (cell_of_row _ (w.heap.size + 1) 1 _ _ _ r).trans (show _ = some (Value.int .i64 a1) from rfl)
 have tt : Turn (fun b => b = w.heap.size + 1) WF ((WF.setCell ⟨w.heap.size + 1, 0, none⟩ (.slice ua x0.length uc)).setCell ⟨w.heap.size + 1, 1, none⟩ (.int .i64 a1)) := ((Turn.refl (fun b => b = w.heap.size + 1) _).trans (turn_set (G := fun b => b = w.heap.size + 1) (g := w.heap.size + 1) (j := 0) (u := .slice ua x0.length uc) rfl)).trans (turn_set (G := fun b => b = w.heap.size + 1) (g := w.heap.size + 1) (j := 1) (u := .int .i64 a1) rfl)
 have PF1 := Lib.hid (slO_turn tX_law KP1.out tt (fun b h1 h2 => by have := Q1.out b h1; omega))
 clear r tt KY K1 kd y1 K0 KP1
 subst hW
 go_wp2
 refine bodyPost_ret (v := .agg #[.slice ua x0.length uc, .int .i64 a1]) ?_ rfl ⟨ua, uc, rfl, slO_mono PF1.out (fun b h => by have := Q1.out b h; show w.heap.size ≤ b; omega), DF.out⟩
 simp [results, Try.f57, go_sem, e0, e1]
theorem ls_X {w : World} {F : Nat → Prop} {v : Value} {ss : List (List VerD)} (h : SlO 89 tX w F v ss) :
  ∃ (us : List SegV) (Fs : Nat → Nat → Prop), LsR w v us ∧ SegsR w us ss ∧ (∀ j, j < ss.length → SlO 88 tVersion w (Fs j) (cutV (us.getD j s0V)) (ss.getD j []) ∧ ∀ b, Fs j b → F b ∧ b < w.heap.size) ∧ ∀ i j, i < ss.length → j < ss.length → i ≠ j → ∀ b, Fs i b → ¬ Fs j b := by
 obtain ⟨us, hls, hsr⟩ := slR_ls (slO_reads tVersionS_law (slO_X h))
 obtain ⟨cs, Fs, he, hd⟩ := slO_each tX_law h
 refine ⟨us, Fs, hls, hsr, fun j hj => ⟨?_, (he j hj).2.1⟩, hd⟩
 obtain ⟨b, off, cap, hv, _, hc, _⟩ := lsR_at hls (k := j) (by rw [hsr.1]; exact hj)
 rcases slO_form h with ⟨_, e0⟩ | ⟨g, cap', hg, _, _⟩
 ·
  rw [e0] at hj; simp at hj
 ·
  obtain ⟨h1, _, h3⟩ := he j hj
  obtain ⟨a, e, h2⟩ := h1
  rw [hg] at hv
  simp only [Value.slice.injEq, Option.some.injEq, Addr.mk.injEq] at hv
  obtain ⟨⟨rfl, rfl, _⟩, _, _⟩ := hv
  have h4 := h3 g _ _ hg 0 (by decide)
  rw [show tX.n = 1 from rfl, Nat.mul_one, Nat.add_zero, e] at h4
  rw [Nat.zero_add, h4] at hc
  have h5 : Value.slice a (ss.getD j []).length (ss.getD j []).length = segV (us.getD j s0V) := Option.some.inj hc
  have h6 : cutV (us.getD j s0V) = Value.slice a (ss.getD j []).length (ss.getD j []).length := by
   unfold segV at h5
   unfold cutV
   simp only [Value.slice.injEq] at h5
   obtain ⟨q1, q2, q3⟩ := h5
   rw [← q1, ← q2]
  rw [h6]
  exact h2
theorem tab_of {w0 w : World} {F : Nat → Prop} {B g : Nat} {bs : List Nat} {us : List SegV} {ss : List (List VerD)} {Fs : Nat → Nat → Prop} (ho : w.ownsRow B 102 1 (.slice (some ⟨g, 0, none⟩) us.length us.length) us.length (bs.map ptrV)) (ht : TabN B w g bs us) (hl : us.length = ss.length)
  (hX : ∀ j, j < ss.length → SlO 88 tVersion w0 (Fs j) (cutV (us.getD j s0V)) (ss.getD j []) ∧ ∀ b, Fs j b → F b ∧ b < w0.heap.size) (hd : ∀ i j, i < ss.length → j < ss.length → i ≠ j → ∀ b, Fs i b → ¬ Fs j b) (hb : Below w0.heap.size w0 w) (hB : w0.heap.size ≤ B) :
  SlO 102 tSegP w (fun b => (F b ∧ b < w0.heap.size) ∨ B ≤ b) (.slice (some ⟨g, 0, none⟩) ss.length ss.length) ss := by
 obtain ⟨h1, h2, h3, h4, h5⟩ := ht
 rw [hl] at ho h3 h4 h5
 refine ⟨bs.map ptrV, fun j => [ptrV (bs.getD j 0)], fun j b => b = bs.getD j 0 ∨ Fs j b, row_low ho (Nat.zero_le _), fun b hb => ?_, fun j hj => ?_, fun i j hi hj hij b q1 q2 => ?_⟩
 ·
  simp [Value.ownBlock] at hb; right; omega
 ·
  obtain ⟨_, g2, g3⟩ := h4 j hj
  obtain ⟨x1, x2⟩ := hX j hj
  refine ⟨fun i hi => ?_, ⟨bs.getD j 0, cutV (us.getD j s0V), Fs j, rfl, Or.inl rfl, g2, slO_fresh tVersion_law x1 hb, fun k q => Or.inr q, fun q => by have := (x2 _ q).2; omega⟩, fun b hb => ?_⟩
  ·
   have hi0 : i = 0 := by have : i < 1 := hi; omega
   subst hi0
   rw [show tSegP.n = 1 from rfl, Nat.mul_one, Nat.add_zero, List.getElem?_map]
   simp [List.getD, show j < bs.length by omega]
  ·
   rcases hb with rfl | hb
   ·
    refine ⟨Or.inr (by omega), fun q => ?_⟩
    simp only [Value.ownBlock, Option.some.injEq] at q
    omega
   ·
    refine ⟨Or.inl (x2 b hb), fun q => ?_⟩
    simp only [Value.ownBlock, Option.some.injEq] at q
    have := (x2 b hb).2
    omega
 ·
  obtain ⟨_, _, gi⟩ := h4 i hi
  obtain ⟨_, _, gj⟩ := h4 j hj
  rcases q1 with q1 | q1 <;> rcases q2 with q2 | q2
  ·
   exact h5 i j hi hj hij (by rw [← q1, ← q2])
  ·
   have := ((hX j hj).2 b q2).2; omega
  ·
   have := ((hX i hi).2 b q1).2; omega
  ·
   exact hd i j hi hj hij b q1 q2
def CheckNO (w : World) (us : List SegV) (e : Ending) (w' : World) : Prop := ∃ g bs, e = .returned (.tuple #[.slice (some ⟨g, 0, none⟩) us.length us.length, .bool true]) ∧ w'.ownsRow w.heap.size 102 1 (.slice (some ⟨g, 0, none⟩) us.length us.length) us.length (bs.map ptrV) ∧ TabN w.heap.size w' g bs us ∧ Below w.heap.size w w'
set_option maxHeartbeats 8000000 in
set_option maxRecDepth 100000 in
theorem checkStore_own (sv : Value) (ss : List (List VerD)) (now : Int) (us : List SegV) (w : World) (h : SlR tVersionS w sv ss) (hs : zL tVersionS ss ≤ 1048576) (hst : storeB ss now = true) (hls : LsR w sv us) (hsr : SegsR w us ss) :
  Calls Try.prog 58 #[.agg #[sv, .int .i64 now]] w (CheckNO w us) := by
 have HUL := Lib.hid hsr.1
 obtain ⟨a, cap, rfl⟩ := slR_len h
 have hlen := zL_len hs
 have HSS := Lib.hid hs
 have H := Lib.hid h
 have HLS := Lib.hid hls
 have HSR := Lib.hid hsr
 have d0 := Lib.hid (show Below w.heap.size w (w.alloc (.cells #[.slice a ss.length cap, .int .i64 now] 41)) from (Below.refl _ _).alloc (Nat.le_refl _) _)
 have B0 : Hid ((w.alloc (.cells #[.slice a ss.length cap, .int .i64 now] 41)).heap[w.heap.size]? = some (.cells #[.slice a ss.length cap, .int .i64 now] 41 (0, 0))) := Lib.hid (heap_alloc_new w _)
 have Y0 : Hid (w.heap.size < (w.alloc (.cells #[.slice a ss.length cap, .int .i64 now] 41)).heap.size) := Lib.hid (by simp [World.size_alloc])
 have HI := Lib.hid (fun W g => implIsStore (.slice a ss.length cap) ss now W g HSS.out)
 rw [hst] at HI
 clear hls hsr h hs hst
 go_enter Try.func58, Try.ntmps58
 go_wp2_with fail
 generalize w.alloc (.cells #[.slice a ss.length cap, .int .i64 now] 41) = W at *
 refine (HI.out W (slR_below tVersionS_law H.out d0.out)).mono ?_
 rintro e w1 ⟨rfl, b1⟩
 have D1 := Lib.hid (d0.out.trans (b1.mono d0.out.size))
 have k0 := (b1.block w.heap.size Y0.out).trans B0.out
 have p0 := (cell_of_row w1 _ 0 _ _ _ k0).trans (show _ = some (Value.slice a ss.length cap) from rfl)
 clear b1 k0
 go_wp2_with fail
 refine (tableOf_own (.slice a ss.length cap) us w1 (lsR_below HLS.out D1.out) (by have := HUL.out; omega)).mono ?_
 rintro e w2 ⟨g, bs, rfl, ho, ht, b2⟩
 have HO : Hid (w2.ownsRow w.heap.size 102 1 (.slice (some ⟨g, 0, none⟩) us.length us.length) us.length (bs.map ptrV)) := Lib.hid (by
  refine ⟨ho.1, ?_⟩
  rcases ho.2 with q | ⟨g9, cap9, cur9, e9, hb9, rest9⟩
  ·
   exact .inl q
  ·
   exact .inr ⟨g9, cap9, cur9, e9, Nat.le_trans D1.out.size hb9, rest9⟩)
 have D2 := Lib.hid (D1.out.trans (b2.mono D1.out.size))
 have HT := Lib.hid ht
 clear ho ht b2 p0
 go_wp2
 go_ret2
 exact ⟨g, bs, rfl, HO.out, ⟨Nat.le_trans D1.out.size HT.out.1, HT.out.2⟩, D2.out⟩
theorem short_segs {ss : List (List VerD)} {now : Int} (h : storeB ss now = true) : ss.length ≤ 1048576 ∧ ∀ j, j < ss.length → (ss.getD j []).length ≤ 1048576 := by
 obtain ⟨⟨h1, _⟩, h2, _⟩ := store_iff h
 exact ⟨by omega, fun j hj => by have := h2 j hj; omega⟩
end Go.Proofs.Ythiiaiholcfhhaa
