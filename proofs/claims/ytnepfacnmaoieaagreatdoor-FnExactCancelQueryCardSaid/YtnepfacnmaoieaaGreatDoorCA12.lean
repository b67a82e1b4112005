/-
 Texts of the proof, merged: UpdSpec8, VerP5, VerP6, CopyVersX, CopyStoreX, UpdP3, UpdP4, RowEqP, UpdP1, UpdP1u, UpdEqP, UpdP2, UpdP5, UpdP7, UpdP8.
-/
import Derived.Test.YtnepfacnmaoieaaGreatDoorCA1
import Derived.Test.YtnepfacnmaoieaaGreatDoorCA3
import Derived.Test.YtnepfacnmaoieaaGreatDoorCA5
import Derived.Test.YtnepfacnmaoieaaGreatDoorCA6
import Derived.Test.YtnepfacnmaoieaaGreatDoorCA10
import Derived.Deep.Cut
namespace Go.Proofs.YtnepfacnmaoieaaGreatDoor
open Go.RowKit
open Go renaming frozen_of_row → Ez, cell_of_row → Ia, heap_setCell_same → Ib, heap_alloc_new → Ic
open Go.World renaming size_alloc → Ie
open List renaming getElem?_set_ne → Ig
open Nat renaming le_refl → Ii, zero_le → Ij
open Go.Value.slice renaming injEq → Ik
open Go.RowKit.Below renaming refl → Il
open ZD0
set_option maxRecDepth 100000
set_option linter.unusedVariables false
set_option linter.unusedSimpArgs false
theorem flat_le {ss : List (List Kj)} (hs : zL Jd ss ≤ 1048576) : ss.flatten.length ≤ 1048576 := by
 rw [← zL_all, zL_sum] at hs; omega
theorem seg_le {ss : List (List Kj)} (hs : zL Jd ss ≤ 1048576) {k : Nat} (hk : k < ss.length) : (ss.getD k []).length ≤ 1048576 := by
 have h1 := flat_le hs
 have h2 := cat_len hk
 have h3 := cat_le ss (k + 1)
 omega
set_option maxHeartbeats 16000000 in
theorem specReclaimStore (now : Int) (sv kv : Value) (ss : List (List Kj)) (keep : List Int) (w : World) (h : Ko Jd w sv ss) (hs : zL Jd ss ≤ 1048576) (g : Ko Je w kv keep) (hkn : keep.length ≤ 1048576) :
  Calls Tryz.prog 167 #[.agg #[sv, .int .i64 now], kv] w (FreshNI w (Xj (ss, now) keep)) := by
 obtain ⟨a, cap, rfl⟩ := Jl h
 have HSL := zh (Jz hs)
 have HZS := zh hs
 have H := zh h
 have G := zh g
 have HKN := zh hkn
 have HC := zh (fun W h => specCopy (.slice a ss.length cap) ss now W h hs)
 have HIS := zh (fun W h => specIsStore (.slice a ss.length cap) ss now W h hs)
 obtain ⟨ka, kc, rfl⟩ := Jl g
 clear h g hs hkn
 cases hst : Yb ss now with
 | false =>
  have HE : Hid (Xj (ss, now) keep = ((ss, now), 0)) := zh (reclaim_no hst)
  rw [hst] at HIS
  clear hst
  have d := zh (show Below w w ((w.alloc (.cells #[.slice a ss.length cap, .int .i64 now] 35)).alloc (.cells #[(), Ja] 35)) from ((Il _ _).alloc (Ii _) _).alloc (by simp <;> omega) _)
  have B0 : Hid (((w.alloc (.cells #[.slice a ss.length cap, .int .i64 now] 35)).alloc (.cells #[(), Ja] 35)).heap[w.heap.size]? = some (.cells #[.slice a ss.length cap, .int .i64 now] 35 (0, 0))) := zh (by
   rw [Below.heap_alloc _ _ _ (by simp <;> omega)]; exact Ic w (.cells #[.slice a ss.length cap, .int .i64 now] 35))
  have BZ : Hid (((w.alloc (.cells #[.slice a ss.length cap, .int .i64 now] 35)).alloc (.cells #[(), Ja] 35)).heap[(w.heap.size + 1)]? = some (.cells #[(), Ja] 35 (0, 0))) := zh (by
   have := Ic (w.alloc (.cells #[.slice a ss.length cap, .int .i64 now] 35)) (.cells #[(), Ja] 35)
   simpa only [Ie] using this)
  have YW : Hid (w.heap.size + 1 < ((w.alloc (.cells #[.slice a ss.length cap, .int .i64 now] 35)).alloc (.cells #[(), Ja] 35)).heap.size) := zh (by simp)
  go_enter Tryz.func167, Tryz.ntmps167
  go_wp2_with fail
  generalize ((w.alloc (.cells #[.slice a ss.length cap, .int .i64 now] 35)).alloc (.cells #[(), Ja] 35)) = W at *
  refine (HC.out W (Jb Jf H.out d.out)).mono ?_
  rintro e w4 ⟨cs, rfl, oc, c4⟩
  obtain ⟨fv, F4, rfl, of, q4⟩ := tStore_O (Vu.lt oc)
  obtain ⟨fa, fc, rfl⟩ := Ju of
  have PF := zh (Ky of q4)
  replace B0 := zb c4 B0
  replace BZ := zb c4 BZ
  replace d := zD d c4
  have Z_w4 := zh (show W.heap.size ≤ w4.heap.size from c4.size)
  have QF := zh (fun q (h : Kw W q ∧ q < w4.heap.size) => (show W.heap.size ≤ q ∧ q < w4.heap.size from h))
  clear oc of q4 c4
  have hal : Below w4 w4 (w4.alloc (.cells #[.slice fa ss.length fc, .int .i64 now] 35)) := (Il _ _).alloc (Ii _) _
  have BX := zh (Ic w4 (.cells #[.slice fa ss.length fc, .int .i64 now] 35))
  have Y_X := zh (show w4.heap.size < (w4.alloc (.cells #[.slice fa ss.length fc, .int .i64 now] 35)).heap.size by simp [Ie])
  replace B0 := zb hal B0
  replace BZ := zb hal BZ
  replace PF := zf Jf PF hal
  replace d := zD d hal
  clear hal
  have cp_B0_0 := Vl B0.out
  go_wp2_with fail
  clear cp_B0_0
  generalize w4.alloc (.cells #[.slice fa ss.length fc, .int .i64 now] 35) = w5 at *
  refine (HIS.out w5 (Jb Jf H.out d.out)).mono ?_
  rintro e w6 ⟨rfl, c6⟩
  replace B0 := zb c6 B0
  replace BZ := zb c6 BZ
  replace BX := zb c6 BX
  replace PF := zf Jf PF c6
  replace d := zD d c6
  have Z_w6 := zh (show w5.heap.size ≤ w6.heap.size from c6.size)
  clear c6
  obtain ⟨p_BX_0, p_BX_1⟩ := Vl BX.out
  obtain ⟨p_BZ_0, p_BZ_1⟩ := Vl BZ.out
  have f_BZ_0 := Ez w6 _ 0 _ _ BZ.out
  have f_BZ_1 := Ez w6 _ 1 _ _ BZ.out
  have tt : Kb (fun q => q = w.heap.size + 1) w6 ((w6.setCell ⟨w.heap.size + 1, 0, none⟩ (.slice fa ss.length fc)).setCell ⟨w.heap.size + 1, 1, none⟩ (.int .i64 now)) := ((Kb.refl (fun q => q = w.heap.size + 1) _).trans (Jm (G := fun q => q = w.heap.size + 1) (g := w.heap.size + 1) (j := 0) (u := .slice fa ss.length fc) rfl)).trans (Jm (G := fun q => q = w.heap.size + 1) (g := w.heap.size + 1) (j := 1) (u := .int .i64 now) rfl)
  have r := st2 BZ.out (.slice fa ss.length fc) (.int .i64 now)
  have e0 := Ia _ _ 0 _ _ _ r
  have e1 := Ia _ _ 1 _ _ _ r
  simp at e0 e1
  have y0 := YW.out
  have y1 := Z_w4.out
  have y2 := Y_X.out
  have y3 := Z_w6.out
  have DF := zh (Js d.out tt (fun q h => by omega) d.out.size)
  have PE := zt Jf PF tt (fun q h1 h2 => by have r1 := QF.out q h1; omega)
  have QE := zh (fun q h => (show w.heap.size ≤ q by have r1 := QF.out q h; omega))
  clear tt r y0 y1 y2 y3
  go_wp2
  refine bodyPost_ret (v := .tuple #[.agg #[.slice fa ss.length fc, .int .i64 now], Ja]) ?_ rfl ?_
  ·
   simp [results, Tryz.f167, go_sem, e0, e1]
  ·
   show FreshNI _ _ _ _; rw [HE.out]; exact ⟨[.slice fa ss.length fc, .int .i64 now], _, rfl, tStore_mkO PE.out (fun q h => h), QE.out, DF.out⟩
 | true =>
  have HST := zh hst
  rw [hst] at HIS
  clear hst
  have d := zh (show Below w w ((w.alloc (.cells #[.slice a ss.length cap, .int .i64 now] 35)).alloc (.cells #[(), Ja] 35)) from ((Il _ _).alloc (Ii _) _).alloc (by simp <;> omega) _)
  have B0 : Hid (((w.alloc (.cells #[.slice a ss.length cap, .int .i64 now] 35)).alloc (.cells #[(), Ja] 35)).heap[w.heap.size]? = some (.cells #[.slice a ss.length cap, .int .i64 now] 35 (0, 0))) := zh (by
   rw [Below.heap_alloc _ _ _ (by simp <;> omega)]; exact Ic w (.cells #[.slice a ss.length cap, .int .i64 now] 35))
  have BZ : Hid (((w.alloc (.cells #[.slice a ss.length cap, .int .i64 now] 35)).alloc (.cells #[(), Ja] 35)).heap[(w.heap.size + 1)]? = some (.cells #[(), Ja] 35 (0, 0))) := zh (by
   have := Ic (w.alloc (.cells #[.slice a ss.length cap, .int .i64 now] 35)) (.cells #[(), Ja] 35)
   simpa only [Ie] using this)
  have YW : Hid (w.heap.size + 1 < ((w.alloc (.cells #[.slice a ss.length cap, .int .i64 now] 35)).alloc (.cells #[(), Ja] 35)).heap.size) := zh (by simp)
  go_enter Tryz.func167, Tryz.ntmps167
  go_wp2_with fail
  generalize ((w.alloc (.cells #[.slice a ss.length cap, .int .i64 now] 35)).alloc (.cells #[(), Ja] 35)) = W at *
  refine (HC.out W (Jb Jf H.out d.out)).mono ?_
  rintro e w4 ⟨cs, rfl, oc, c4⟩
  obtain ⟨fv, F4, rfl, of, q4⟩ := tStore_O (Vu.lt oc)
  obtain ⟨fa, fc, rfl⟩ := Ju of
  have PF := zh (Ky of q4)
  replace B0 := zb c4 B0
  replace BZ := zb c4 BZ
  replace d := zD d c4
  have Z_w4 := zh (show W.heap.size ≤ w4.heap.size from c4.size)
  have QF := zh (fun q (h : Kw W q ∧ q < w4.heap.size) => (show W.heap.size ≤ q ∧ q < w4.heap.size from h))
  clear oc of q4 c4
  have hal : Below w4 w4 (w4.alloc (.cells #[.slice fa ss.length fc, .int .i64 now] 35)) := (Il _ _).alloc (Ii _) _
  have BX := zh (Ic w4 (.cells #[.slice fa ss.length fc, .int .i64 now] 35))
  have Y_X := zh (show w4.heap.size < (w4.alloc (.cells #[.slice fa ss.length fc, .int .i64 now] 35)).heap.size by simp [Ie])
  replace B0 := zb hal B0
  replace BZ := zb hal BZ
  replace PF := zf Jf PF hal
  replace d := zD d hal
  clear hal
  have cp_B0_0 := Vl B0.out
  go_wp2_with fail
  clear cp_B0_0
  generalize w4.alloc (.cells #[.slice fa ss.length fc, .int .i64 now] 35) = w5 at *
  refine (HIS.out w5 (Jb Jf H.out d.out)).mono ?_
  rintro e w6 ⟨rfl, c6⟩
  replace B0 := zb c6 B0
  replace BZ := zb c6 BZ
  replace BX := zb c6 BX
  replace PF := zf Jf PF c6
  replace d := zD d c6
  have Z_w6 := zh (show w5.heap.size ≤ w6.heap.size from c6.size)
  clear c6
  have y0 := YW.out
  have y1 := Z_w4.out
  have y2 := Y_X.out
  have y3 := Z_w6.out
  have PS := zh (Ky PF.out (F' := fun q => w.heap.size + 1 < q ∧ q ≠ w4.heap.size) (fun q h => by have r := QF.out q h; exact ⟨by omega, by omega⟩))
  have zz : w.heap.size + 1 < w4.heap.size ∧ w4.heap.size < w6.heap.size := ⟨by omega, by omega⟩
  have ZZ := zh zz
  clear PF QF zz YW Z_w4 Y_X Z_w6 y0 y1 y2 y3
  generalize w4.heap.size = R at *
  go_wp2
  go_loopw [7, 8] (fun c i wr => ∃ k : Nat, k ≤ ss.length ∧ i = .int .i64 k ∧ c = .int .i64 ((cntTo keep ss k : Nat) : Int) ∧ wr.heap[w.heap.size]? = some (.cells #[.slice a ss.length cap, .int .i64 now] 35 (0, 0)) ∧ wr.heap[w.heap.size + 1]? = some (.cells #[(), Ja] 35 (0, 0)) ∧ wr.heap[R]? = some (.cells #[.slice fa ss.length fc, .int .i64 now] 35 (0, 0)) ∧ Kp 213 Jd wr (fun q => w.heap.size + 1 < q ∧ q ≠ R) (.slice fa ss.length fc) (recTo keep ss k) ∧ Below w w wr ∧ R < wr.heap.size) (fun _ i _ => ss.length - (intOf i).toNat)
  case atStart => exact ⟨0, Ij _, rfl, by rw [cnt_zero]; rfl, B0.out, BZ.out, BX.out, by rw [rec_zero]; exact PS.out, d.out, ZZ.out.2⟩
  case round =>
   obtain ⟨k, hk, rfl, rfl, r0, r1, r2, hown, hbel, hsz⟩ := hrel
   generalize wr = w1 at *
   clear B0 BZ BX PS d
   have B0 := zh r0
   have BZ := zh r1
   have BX := zh r2
   have d := zh hbel
   have ZR := zh hsz
   have hsl := HSL.out
   have c0 := cr 0 (Value.slice a ss.length cap) r0
   clear r0 r1 r2 hbel hsz
   by_cases hlt : k < ss.length
   ·
    have i1 : (0 : Int) ≤ (k : Int) := by omega
    have i2 : (k : Int) < (ss.length : Int) := by omega
    obtain ⟨g, gcap, u, Fj, hv, hFg, hg, hcell, hu, hFj, hput⟩ := segs_put (Kn Jf hown) (Ii _) (fun q hq => by have z1 := ZR.out; have z2 := ZZ.out.1; exact ⟨by omega, by omega⟩) (r := k) (by rw [rec_len]; exact hlt)
    rw [rec_at hlt] at hu
    simp only [Ik] at hv
    have hgg := hv.1
    have hgc := hv.2.2
    clear hv
    subst hgg
    subst hgc
    have HPUT := zh hput
    have HFG : Hid (w.heap.size + 1 < g ∧ g ≠ R) := zh hFg
    have HG := zh hg
    have HCELL := zh hcell
    have HSET := zh (rec_step (keep := keep) hlt)
    have HCN := zh (cnt_step (keep := keep) hlt)
    have hcb : cntTo keep ss k ≤ 1048576 := Nat.le_trans (cnt_le hk) (flat_le HZS.out)
    have HLL := zh (seg_le HZS.out hlt)
    generalize cntTo keep ss k = cc at *
    generalize ss.getD k [] = l at *
    obtain ⟨us, Fs, he, hd⟩ := slO_each Jp hu
    have HFORM := zh (Xi hu)
    obtain ⟨ua, uc, rfl⟩ := Ju hu
    have HE := zh he
    have HKO := zh (fun (wz : World) (pv : Value) (h : Kp 212 (Ub 4) wz (fun b => w1.heap.size ≤ b) pv ((Vp keep l l.length).map us)) (hb : Below w1 w1 wz) => kept_own (u := .bool false) (Fj := Fj) h (fun j hj => ⟨(he j hj).1, (he j hj).2.1⟩) hd hb)
    clear hown hFg hg hcell hput he hd hu hFj
    have E0 := zh (Ye (T := Ub 4) w1 212 (fun q => w1.heap.size ≤ q) (Ii _))
    have DE := zh ((Il w1.heap.size w1).alloc (Ii _) (.cells #[] 212))
    go_wp2
    clear c0
    generalize w1.alloc (.cells #[] 212) = we at *
    go_loopw [7, 9, 10] (fun c nv i wm => ∃ j : Nat, j ≤ l.length ∧ i = .int .i64 j ∧ c = .int .i64 ((cc + (j - (Vp keep l j).length) : Nat) : Int) ∧ Kp 212 (Ub 4) wm (fun q => w1.heap.size ≤ q) nv ((Vp keep l j).map us) ∧ Below w1 w1 wm) (fun _ _ i _ => l.length - (intOf i).toNat)
    case atStart => exact ⟨0, Ij _, rfl, rfl, E0.out, DE.out⟩
    case round =>
     obtain ⟨j, hj, rfl, rfl, hon, hb⟩ := hrel
     generalize wr = wm at *
     clear E0 DE
     have hll := HLL.out
     have hkj := kept_len_le keep l j
     obtain ⟨n0, hn0⟩ : ∃ n0, n0 = cc + (j - (Vp keep l j).length) := ⟨_, rfl⟩
     rw [← hn0]
     have hnb : n0 ≤ 2097152 := by omega
     have HN0C := zh hn0
     have HKJ := zh hkj
     clear hn0 hkj
     have BXm := zh ((hb.block R ZR.out).trans BX.out)
     have b0 := cr 0 (Value.slice (some ⟨g, 0, none⟩) ss.length fc) BXm.out
     have hce := (hb.cell (p := ⟨g, k, none⟩) HG.out).trans HCELL.out
     obtain ⟨oa, oc, hov⟩ := Ju hon
     obtain ⟨m, hm⟩ : ∃ m, m = (List.map us (Vp keep l j)).length := ⟨_, rfl⟩
     rw [← hm] at hov
     subst hov
     have HM := zh hm
     clear hm
     by_cases hjt : j < l.length
     ·
      have j1 : (0 : Int) ≤ (j : Int) := by omega
      have j2 : (j : Int) < (l.length : Int) := by omega
      obtain ⟨gv, gc, hgv, hgvl⟩ : ∃ gv gc, Value.slice ua l.length uc = .slice (some ⟨gv, 0, none⟩) l.length gc ∧ gv < w1.heap.size := by
       rcases HFORM.out with ⟨_, e⟩ | ⟨gv, gc, e, _, e2⟩
       ·
        rw [e] at hjt; simp at hjt
       ·
        exact ⟨gv, gc, e, e2⟩
      simp only [Ik] at hgv
      have hgg := hgv.1
      have hgc := hgv.2.2
      clear hgv
      subst hgg
      subst hgc
      obtain ⟨h1, _, h3⟩ := HE.out j hjt
      have h4 := h3 gv _ _ rfl
      have HKY := zh (fun q => kept_yes (keep := keep) (l := l) (k := j) q)
      have HKN2 := zh (fun q => kept_no (keep := keep) (l := l) (k := j) q)
      have e3 : l.getD j Jh.d = l.getD j Uq := rfl
      rw [e3] at h1
      generalize l.getD j Uq = x at *
      obtain ⟨id, xs, born, died⟩ := x
      obtain ⟨v1, F2, hcs, hv1, _⟩ := tVersion_O h1
      obtain ⟨xa, xc, rfl⟩ := Ju hv1
      have HUS := zh hcs
      rw [hcs] at h4
      have c0 := (hb.cell (p := ⟨gv, j * 4 + 0, none⟩) hgvl).trans ((h4 0 (by decide)).trans (show _ = some (Value.int .i64 id) from rfl))
      have c1 := (hb.cell (p := ⟨gv, j * 4 + 1, none⟩) hgvl).trans ((h4 1 (by decide)).trans (show _ = some (Value.slice xa xs.length xc) from rfl))
      have c2 := (hb.cell (p := ⟨gv, j * 4 + 2, none⟩) hgvl).trans ((h4 2 (by decide)).trans (show _ = some (Value.int .i64 born) from rfl))
      have c3 := (hb.cell (p := ⟨gv, j * 4 + 3, none⟩) hgvl).trans ((h4 3 (by decide)).trans (show _ = some (Value.int .i64 died) from rfl))
      rw [Nat.add_zero] at c0
      have hal : Below wm wm (wm.alloc (.cells #[.int .i64 id, .slice xa xs.length xc, .int .i64 born, .int .i64 died] 212)) := (Il _ _).alloc (Ii _) _
      have BV := zh (Ic wm (.cells #[.int .i64 id, .slice xa xs.length xc, .int .i64 born, .int .i64 died] 212))
      have p3 := cr 3 (Value.int .i64 died) BV.out
      have dm := zh (hb.trans (hal.mono hb.size))
      have OW := zh (Yi (Vs (by decide)) (Kn (Vs (by decide)) hon) hal)
      have YM : Hid (wm.heap.size < (wm.alloc (.cells #[.int .i64 id, .slice xa xs.length xc, .int .i64 born, .int .i64 died] 212)).heap.size) := zh (by simp [Ie])
      clear h1 h3 h4 hcs hv1 hon hal e3 BXm hb
      have HN0 := zh (needT_zero keep (id, xs, born, died))
      have HB0 := zh (d.out.trans (dm.out.mono d.out.size))
      go_wp2
      clear c0 c1 c2 c3 p3 b0 hce
      generalize wm.alloc (.cells #[.int .i64 id, .slice xa xs.length xc, .int .i64 born, .int .i64 died] 212) = wb at *
      go_loopw [12, 13] (fun nd i wi => ∃ q : Nat, q ≤ keep.length ∧ i = .int .i64 q ∧ nd = .bool (needT keep (id, xs, born, died) q) ∧ Below wb wb wi) (fun _ i _ => keep.length - (intOf i).toNat)
      case atStart => exact ⟨0, Ij _, rfl, by rw [HN0.out]; rfl, Il _ _⟩
      case round =>
       obtain ⟨q, hq, rfl, rfl, hi⟩ := hrel
       generalize wr = wi at *
       have hkn := HKN.out
       by_cases hqt : q < keep.length
       ·
        have q1 : (0 : Int) ≤ (q : Int) := by omega
        have q2 : (q : Int) < (keep.length : Int) := by omega
        obtain ⟨kb, koff, kcap, kcs, hkv, hkbl, hkcs, hkR⟩ := Ku G.out hqt
        simp only [Ik] at hkv
        have hkk := hkv.1
        have hkc := hkv.2.2
        clear hkv
        subst hkk
        subst hkc
        have hkR2 : kcs = [.int .i64 (keep.getD q 0)] := hkR
        have hk0 := hkcs 0 (by decide)
        rw [show Je.n = 1 from rfl, Nat.mul_one, Nat.add_zero, hkR2] at hk0
        have KC : Hid (wb.cell? ⟨kb, koff + q, none⟩ = some (.int .i64 (keep.getD q 0))) := zh ((HB0.out.cell (p := ⟨kb, koff + q, none⟩) hkbl).trans (hk0.trans rfl))
        have HKBL : Hid (kb < wb.heap.size) := zh (Nat.lt_of_lt_of_le hkbl HB0.out.size)
        have HTS : Hid (needT keep (id, xs, born, died) (q + 1) = (needT keep (id, xs, born, died) q || decide (Uz born died (keep.getD q 0)))) := zh (needT_step hqt)
        have BVi := zh ((hi.block wm.heap.size YM.out).trans BV.out)
        have di := zh hi
        clear hkcs hkR hkR2 hk0 hkbl hi
        generalize keep.getD q 0 = t at *
        cases hnd : needT keep (id, xs, born, died) q with
        | true =>
         have HT2 : Hid (needT keep (id, xs, born, died) (q + 1) = true) := zh (by rw [HTS.out, hnd]; rfl)
         clear hnd HTS
         go_wp2
         obtain ⟨p_BVi_0, p_BVi_1, p_BVi_2, p_BVi_3⟩ := cls4 BVi.out
         have p_KC := cx di KC HKBL
         refine wp_region_held_drew (S := fun w' => w'.cell? ⟨wm, 0, none⟩ = some (Value.int .i64 id) ∧ w'.cell? ⟨wm, 1, none⟩ = some (Value.slice xa xs.length xc) ∧ w'.cell? ⟨wm, 2, none⟩ = some (Value.int .i64 born) ∧ w'.cell? ⟨wm, 3, none⟩ = some (Value.int .i64 died) ∧ w'.cell? ⟨kb, koff + q, none⟩ = some (Value.int .i64 t)) (by kernel_rfl) ⟨p_BVi_0, p_BVi_1, p_BVi_2, p_BVi_3, p_KC⟩ (fun hHeld => ?_)
         clear p_BVi_0 p_BVi_1 p_BVi_2 p_BVi_3 p_KC
         have cdr : Below wi wi wi.drew := Kc (Il _ _)
         replace BVi := zb cdr BVi
         replace di := zD di cdr
         clear cdr
         have Z_dr := zh (show wi.heap.size ≤ wi.drew.heap.size from Ii _)
         generalize wi.drew = Wd at *
         refine tQ (i := 0) ?_
         try simp only [Act.put, lA, lB, lC]
         refine tQ (i := 1) ?_
         try simp only [Act.put, lA, lB, lC]
         refine tO (i := 2) ?_
         try simp only [Act.put, lA, lB, lC]
         refine tO (i := 3) ?_
         try simp only [Act.put, lA, lB, lC]
         refine tO (i := 4) ?_
         try simp only [Act.put, lA, lB, lC]
         refine tO (i := 5) ?_
         try simp only [Act.put, lA, lB, lC]
         refine tO (i := 6) ?_
         try simp only [Act.put, lA, lB, lC]
         refine tO (i := 7) ?_
         try simp only [Act.put, lA, lB, lC]
         refine tQ (i := 8) ?_
         try simp only [Act.put, lA, lB, lC]
         refine tQ (i := 9) ?_
         try simp only [Act.put, lA, lB, lC]
         refine wpAnyH_done (by kernel_rfl) ?_ _
         clear hHeld
         go_wp2
         go_roundw
         case rel => exact ⟨q + 1, by omega, by go_num, by rw [HT2.out], di.out⟩
         case measure => simp [intOf]; omega
        | false =>
         have HT2 : Hid (needT keep (id, xs, born, died) (q + 1) = decide (Uz born died t)) := zh (by rw [HTS.out, hnd]; rfl)
         clear hnd HTS
         go_wp2
         obtain ⟨p_BVi_0, p_BVi_1, p_BVi_2, p_BVi_3⟩ := cls4 BVi.out
         have p_KC := cx di KC HKBL
         refine wp_region_held_drew (S := fun w' => w'.cell? ⟨wm, 0, none⟩ = some (Value.int .i64 id) ∧ w'.cell? ⟨wm, 1, none⟩ = some (Value.slice xa xs.length xc) ∧ w'.cell? ⟨wm, 2, none⟩ = some (Value.int .i64 born) ∧ w'.cell? ⟨wm, 3, none⟩ = some (Value.int .i64 died) ∧ w'.cell? ⟨kb, koff + q, none⟩ = some (Value.int .i64 t)) (by kernel_rfl) ⟨p_BVi_0, p_BVi_1, p_BVi_2, p_BVi_3, p_KC⟩ (fun hHeld => ?_)
         clear p_BVi_0 p_BVi_1 p_BVi_2 p_BVi_3 p_KC
         have cdr : Below wi wi wi.drew := Kc (Il _ _)
         replace BVi := zb cdr BVi
         replace di := zD di cdr
         clear cdr
         have Z_dr := zh (show wi.heap.size ≤ wi.drew.heap.size from Ii _)
         generalize wi.drew = Wd at *
         refine tQ (i := 0) ?_
         try simp only [Act.put, lA, lB, lC]
         refine tQ (i := 1) ?_
         try simp only [Act.put, lA, lB, lC]
         refine tQ (i := 2) ?_
         try simp only [Act.put, lA, lB, lC]
         refine tQ (i := 3) ?_
         try simp only [Act.put, lA, lB, lC]
         refine tQ (i := 4) ?_
         try simp only [Act.put, lA, lB, lC]
         refine tQ (i := 5) ?_
         try simp only [Act.put, lA, lB, lC]
         refine tQ (i := 6) ?_
         try simp only [Act.put, lA, lB, lC]
         refine rA 7 (fun K hK => ?_)
         go_simp
         refine (specVisible id born died t (.slice xa xs.length xc) Wd).mono ?_
         rintro e wv ⟨rfl, cv⟩
         replace BVi := zb cv BVi
         replace di := zD di cv
         have Z_wv := zh (show Wd.heap.size ≤ wv.heap.size from cv.size)
         clear cv
         obtain ⟨p_BVi_0, p_BVi_1, p_BVi_2, p_BVi_3⟩ := cls4 BVi.out
         have p_KC := cx di KC HKBL
         refine hK.out _ _ ⟨p_BVi_0, p_BVi_1, p_BVi_2, p_BVi_3, p_KC⟩ (fun hHeld => ?_)
         clear p_BVi_0 p_BVi_1 p_BVi_2 p_BVi_3 p_KC
         clear hK K
         try simp only [Act.put, lA, lB, lC]
         refine tQ (i := 8) ?_
         try simp only [Act.put, lA, lB, lC]
         refine tQ (i := 9) ?_
         try simp only [Act.put, lA, lB, lC]
         refine wpAnyH_done (by kernel_rfl) ?_ _
         clear hHeld
         go_wp2
         go_roundw
         case rel => exact ⟨q + 1, by omega, by go_num, by rw [HT2.out], di.out⟩
         case measure => simp [intOf]; omega
       ·
        obtain rfl : q = keep.length := by omega
        rw [needT_all]
        have BVi := zh ((hi.block wm.heap.size YM.out).trans BV.out)
        have OW2 := zh (Yi (Vs (by decide)) OW.out hi)
        have d2 := zh (dm.out.trans (hi.mono dm.out.size))
        have Z2 : Hid (wm.heap.size ≤ wi.heap.size) := zh (Nat.le_trans (Nat.le_of_lt YM.out) hi.size)
        have e0 := cr 0 (Value.int .i64 id) BVi.out
        have e1 := cr 1 (Value.slice xa xs.length xc) BVi.out
        have e2 := cr 2 (Value.int .i64 born) BVi.out
        have e3 := cr 3 (Value.int .i64 died) BVi.out
        clear hi BVi dm OW BV HN0
        cases hne : needB keep (id, xs, born, died) with
        | true =>
         have HK1 := zh (HKY.out hne)
         have HC1 : Hid (n0 = cc + (j + 1 - (Vp keep l (j + 1)).length)) := zh (by rw [HK1.out, List.length_append]; have := HN0C.out; have := HKJ.out; simp only [List.length_cons, List.length_nil]; omega)
         have hal : Below wi wi (wi.alloc (.cells #[.int .i64 id, .slice xa xs.length xc, .int .i64 born, .int .i64 died] 212)) := (Il _ _).alloc (Ii _) _
         have BO := zh (Ic wi (.cells #[.int .i64 id, .slice xa xs.length xc, .int .i64 born, .int .i64 died] 212))
         have OW3 := zh (Ky (Yi (Vs (by decide)) (Kn (Vs (by decide)) OW2.out) hal) (F' := fun q => w1.heap.size ≤ q ∧ q < wi.heap.size) (fun q h => ⟨h.1.1, h.2⟩))
         have d3 := zh (d2.out.trans (hal.mono d2.out.size))
         clear hne HKY HKN2 hal d2 OW2
         go_wp2_with (at_builtin; refine Xt (Vs (by decide)) (flat_raw 4) Ew Tryz.underlying213 rfl rfl (.tmp 65) (.tmp 67) rfl (fun q => w1.heap.size ≤ q ∧ q < wi.heap.size) (fun q => w1.heap.size ≤ q) _ _ ((Vp keep l j).map us) [[.int .i64 id, .slice xa xs.length xc, .int .i64 born, .int .i64 died]] rfl rfl OW3.out (raw_one BO.out rfl rfl rfl rfl) (fun b h => h.1) d3.out.size (by have := HKJ.out; rw [List.length_map]; simp only [List.length_cons, List.length_nil]; omega) ?_)
         intro v' w4 o4 t4
         clear e0 e1 e2 e3
         have O4 : Hid (Kp 212 (Ub 4) w4 (fun q => w1.heap.size ≤ q) v' ((Vp keep l (j + 1)).map us)) := zh (by
          rw [HK1.out, List.map_append, List.map_cons, List.map_nil, HUS.out]; exact o4)
         have D4 := zh (Js d3.out t4 (fun q h => h.1) d3.out.size)
         clear o4 t4 d3 OW3
         go_wp2
         go_roundw
         case rel => exact ⟨j + 1, by omega, by go_num, by rw [← HC1.out], O4.out, D4.out⟩
         case measure => simp [intOf]; omega
        | false =>
         have HC0 : Hid (n0 + 1 = cc + (j + 1 - (Vp keep l (j + 1)).length)) := zh (by rw [HKN2.out hne]; have := HN0C.out; have := HKJ.out; omega)
         have O4 : Hid (Kp 212 (Ub 4) wi (fun q => w1.heap.size ≤ q) (.slice oa m oc) ((Vp keep l (j + 1)).map us)) := zh (by
          rw [HKN2.out hne]
          exact Ky OW2.out (fun q h => h.1))
         clear hne HKY HKN2 OW2 e0 e1 e2 e3
         go_wp2
         go_roundw
         case rel => exact ⟨j + 1, by omega, by go_num, by rw [← HC0.out]; go_num, O4.out, d2.out⟩
         case measure => simp [intOf]; omega
     ·
      obtain rfl : j = l.length := by omega
      have PK := HKO.out wm _ hon hb
      obtain ⟨⟨x0, x1⟩, PN0⟩ := HPUT.out wm (.slice oa m oc) (Xa keep l) (Yo hb) PK
      rw [HSET.out] at PN0
      have PN := zh PN0
      have HCE : Hid (n0 = cntTo keep ss (k + 1)) := zh (by rw [HCN.out, HN0C.out, kept_len])
      have z1 := ZR.out
      have z2 := ZZ.out.1
      have z3 := HFG.out
      have z4 := HG.out
      have tt : Kb (fun q => q = g) wm (wm.setCell ⟨g, k, none⟩ (.slice oa m oc)) := Jm (G := fun q => q = g) (g := g) (j := k) (u := .slice oa m oc) rfl
      have y0 := (hb.block w.heap.size (by omega)).trans B0.out
      have y1 := (hb.block (w.heap.size + 1) (by omega)).trans BZ.out
      have y2 := (hb.block R (by omega)).trans BX.out
      have A0 := zh ((tt.block w.heap.size (Array.getElem?_eq_some_iff.1 y0).1 (fun h => by have h5 : w.heap.size = g := h; omega)).trans y0)
      have AZ := zh ((tt.block (w.heap.size + 1) (Array.getElem?_eq_some_iff.1 y1).1 (fun h => by have h5 : w.heap.size + 1 = g := h; omega)).trans y1)
      have AX := zh ((tt.block R (Array.getElem?_eq_some_iff.1 y2).1 (fun h => by have h5 : R = g := h; omega)).trans y2)
      have dn := d.out.trans (hb.mono d.out.size)
      have DN := zh (Js dn tt (fun q h => by have h5 : q = g := h; omega) dn.size)
      have ZN := zh (Nat.lt_of_lt_of_le (Nat.lt_of_lt_of_le ZR.out hb.size) tt.size)
      clear PK PN0 z1 z2 z3 z4 tt y0 y1 y2 dn hon hb HPUT HKO B0 BZ BX d HM
      go_wp2
      go_roundw
      case rel => exact ⟨k + 1, by omega, by go_num, by rw [← HCE.out], A0.out, AZ.out, AX.out, PN.out, DN.out, ZN.out⟩
      case measure => simp [intOf]; omega
   ·
    obtain rfl : k = ss.length := by omega
    rw [rec_all] at hown
    have HE : Hid (Xj (ss, now) keep = ((Vn keep ss, now), ((cntTo keep ss ss.length : Nat) : Int))) := zh (by rw [reclaim_yes HST.out, cnt_all])
    have PF := zh (Kn Jf hown)
    have QF := zh (fun q (h : (w.heap.size + 1 < q ∧ q ≠ R) ∧ q < w1.heap.size) => h)
    have ZR2 := zh ZZ.out.1
    clear hown hlt
    generalize cntTo keep ss ss.length = cc at *
    obtain ⟨p_BX_0, p_BX_1⟩ := Vl BX.out
    obtain ⟨p_BZ_0, p_BZ_1⟩ := Vl BZ.out
    have f_BZ_0 := Ez w1 _ 0 _ _ BZ.out
    have f_BZ_1 := Ez w1 _ 1 _ _ BZ.out
    have tt : Kb (fun q => q = w.heap.size + 1) w1 ((w1.setCell ⟨w.heap.size + 1, 0, none⟩ (.slice fa ss.length fc)).setCell ⟨w.heap.size + 1, 1, none⟩ (.int .i64 now)) := ((Kb.refl (fun q => q = w.heap.size + 1) _).trans (Jm (G := fun q => q = w.heap.size + 1) (g := w.heap.size + 1) (j := 0) (u := .slice fa ss.length fc) rfl)).trans (Jm (G := fun q => q = w.heap.size + 1) (g := w.heap.size + 1) (j := 1) (u := .int .i64 now) rfl)
    have r := st2 BZ.out (.slice fa ss.length fc) (.int .i64 now)
    have e0 := Ia _ _ 0 _ _ _ r
    have e1 := Ia _ _ 1 _ _ _ r
    simp at e0 e1
    have y0 := ZR.out
    have y1 := ZR2.out
    have DF := zh (Js d.out tt (fun q h => by omega) d.out.size)
    have PE := zt Jf PF tt (fun q h1 h2 => by have r1 := QF.out q h1; omega)
    have QE := zh (fun q h => (show w.heap.size ≤ q by have r1 := QF.out q h; omega))
    clear tt r y0 y1
    go_wp2
    refine bodyPost_ret (v := .tuple #[.agg #[.slice fa ss.length fc, .int .i64 now], .int .i64 ((cc : Nat) : Int)]) ?_ rfl ?_
    ·
     simp [results, Tryz.f167, go_sem, e0, e1]
    ·
     show FreshNI _ _ _ _; rw [HE.out]; exact ⟨[.slice fa ss.length fc, .int .i64 now], _, rfl, tStore_mkO PE.out (fun q h => h), QE.out, DF.out⟩
def possP (ss : List (List Kj)) (now : Int) : Prop := ShortP ss ss.length ∧ VersP ss.flatten now ss.flatten.length
instance (ss : List (List Kj)) (now : Int) : Decidable (possP ss now) := by unfold possP; infer_instance
def possB (ss : List (List Kj)) (now : Int) : Bool := decide (possP ss now)
theorem poss_short {ss : List (List Kj)} {now : Int} {i : Nat} (hi : i < ss.length) (h : ¬ (ss.getD i []).length ≤ 4) : possB ss now = false := decide_eq_false (fun g => h (g.1 i hi))
theorem poss_ver {ss : List (List Kj)} {now : Int} {i : Nat} (hi : i < ss.flatten.length) (h : verB (ss.flatten.getD i Uq) now = false) : possB ss now = false := decide_eq_false (fun g => by
 have := (g.2 i hi).1; rw [h] at this; cases this)
theorem take_get {l : List Kj} {i j : Nat} (h : j < (l.take i).length) : (l.take i)[j] = l.getD j Uq := by
 have h2 : j < i ∧ j < l.length := by rw [List.length_take] at h; omega
 simp [List.getD, h2.1, h2.2]
/-- One that is seen with an earlier one: the store is not possible. -/
theorem poss_seen {ss : List (List Kj)} {now : Int} {i : Nat} (hv : VersP ss.flatten now i) (hi : i < ss.flatten.length) (h1 : verB (ss.flatten.getD i Uq) now = true) (h : anyB (ss.flatten.getD i Uq) (ss.flatten.take i) = true) : possB ss now = false := decide_eq_false (fun g => by
 unfold anyB at h
 rw [List.any_eq_true] at h
 obtain ⟨y, hy, hs⟩ := h
 obtain ⟨j, hj, rfl⟩ := List.getElem_of_mem hy
 have hji : j < i := by rw [List.length_take] at hj; omega
 have e : (ss.flatten.take i)[j] = ss.flatten.getD j Uq := take_get hj
 rw [e, seenB_apart h1 (hv j hji).1, (g.2 i hi).2 j hji] at hs
 cases hs)
theorem poss_step {ss : List (List Kj)} {now : Int} {i : Nat} (hv : VersP ss.flatten now i) (hi : i < ss.flatten.length) (h1 : verB (ss.flatten.getD i Uq) now = true) (h : anyB (ss.flatten.getD i Uq) (ss.flatten.take i) = false) : VersP ss.flatten now (i + 1) := by
 refine vers_step hv h1 (fun k hk => ?_)
 unfold anyB at h
 rw [List.any_eq_false] at h
 have hkl : k < (ss.flatten.take i).length := by rw [List.length_take]; omega
 have := h _ (List.getElem_mem hkl)
 have e : (ss.flatten.take i)[k] = ss.flatten.getD k Uq := take_get hkl
 rw [e, seenB_apart h1 (hv k hk).1] at this
 simpa using this
theorem poss_yes {ss : List (List Kj)} {now : Int} (h1 : ShortP ss ss.length) (h2 : VersP ss.flatten now ss.flatten.length) : possB ss now = true := decide_eq_true ⟨h1, h2⟩
theorem store_poss (ss : List (List Kj)) (now : Int) : Yb ss now = (decide (1 ≤ (ss.length : Int) ∧ (ss.length : Int) ≤ 8) && decide (0 ≤ now ∧ now ≤ 100000) && possB ss now) := by
 unfold Yb possB
 by_cases h1 : 1 ≤ ss.length ∧ ss.length ≤ 8
 ·
  by_cases h2 : 0 ≤ now ∧ now ≤ 100000
  ·
   rw [decide_eq_true (show 1 ≤ (ss.length : Int) ∧ (ss.length : Int) ≤ 8 by omega), decide_eq_true h2]
   by_cases h3 : possP ss now
   ·
    rw [decide_eq_true h3, decide_eq_true ⟨⟨h1, h2⟩, h3⟩]; rfl
   ·
    rw [decide_eq_false h3, decide_eq_false (fun g => h3 g.2)]; rfl
  ·
   rw [decide_eq_false h2, decide_eq_false (fun g => h2 g.1.2), Bool.and_false]; rfl
 ·
  rw [decide_eq_false (show ¬ (1 ≤ (ss.length : Int) ∧ (ss.length : Int) ≤ 8) by omega), decide_eq_false (fun g => h1 g.1.1)]; rfl
theorem cat_take (ss : List (List Kj)) (k : Nat) : ss.flatten.take (cat ss k).length = cat ss k := by
 unfold cat
 have e : ss.flatten = (ss.take k).flatten ++ (ss.drop k).flatten := by rw [← List.flatten_append, List.take_append_drop]
 rw [e, List.take_left]
set_option maxHeartbeats 16000000 in
theorem isPossible_any (B g : Nat) (bs : List Nat) (us : List SegV) (ss : List (List Kj)) (now : Int) (w : World) (ht : TabN B w g bs us) (hr : SegsR w us ss) (hs : zL Jd ss ≤ 1048576) :
  Calls Tryz.prog 196 #[.slice (some ⟨g, 0, none⟩) us.length us.length, .int .i64 now] w (fun e w' => e = .returned (.bool (possB ss now)) ∧ Below w w w') := by
 have hlen := Jz hs
 have HZF : Hid (zL Jh ss.flatten ≤ 1048576) := zh (by have := zL_all ss; omega)
 have HFL := zh (Jz HZF.out)
 have HS := zh hs
 have hul := hr.1
 have HR := zh hr
 have HT := zh ht
 rw [hul]
 have HUL := zh hul
 clear ht hr hs hul
 go_enter Tryz.func196, Tryz.ntmps196
 go_wp2
 go_loopw [5, 12] (fun o i wr => ∃ (k : Nat) (L : List (List Value)), k ≤ ss.length ∧ i = .int .i64 k ∧ Kp 212 (Ub 4) wr (Kw w) o L ∧ Hid (Sh Jh w L (cat ss k)) ∧ Hid (ShortP ss k) ∧ Hid (VersP ss.flatten now (cat ss k).length) ∧ Below w w wr) (fun _ i _ => ss.length - (intOf i).toNat)
 case atStart => exact ⟨0, [], Ij _, rfl, Ya _ _ _ _, zh (by rw [cat_zero]; exact sh_nil w), zh (fun j hj => by omega), zh (by rw [cat_zero]; exact fun j hj => by simp at hj), Il _ _⟩
 case round =>
  obtain ⟨k, L, hk, rfl, hown, hsh, hshort, hvers, hbel⟩ := hrel
  obtain ⟨oa, oc, rfl⟩ := Ju hown
  by_cases hlt : k < ss.length
  ·
   have i1 : (0 : Int) ≤ (k : Int) := by omega
   have i2 : (k : Int) < (ss.length : Int) := by omega
   obtain ⟨_, tg, tl, trow, _⟩ := tabN_below HT.out hbel
   obtain ⟨r0, r1, _⟩ := trow k (by have := HUL.out; omega)
   obtain ⟨s1, s2⟩ := HR.out.2 k hlt
   have HSM := zh (zL_seg hlt)
   have HCI := zh (fun j hj => cat_in (ss := ss) (k := k) (j := j) hlt hj)
   have HCL := zh (cat_len hlt)
   have HCF := zh (cat_le ss (k + 1))
   have HNS := zh (fun h => poss_short (ss := ss) (now := now) hlt h)
   have HYS : Hid ((ss.getD k []).length ≤ 4 → ShortP ss (k + 1)) := zh (fun g j hj => by
    by_cases e : j = k
    ·
     rw [e]; exact g
    ·
     exact hshort.out j (by omega))
   have HVS := hvers
   have HSH := hsh
   have HOW := zh hown
   have HB := zh hbel
   clear trow tg tl hown hbel hshort hvers hsh
   generalize us.getD k s0V = u at *
   generalize bs.getD k 0 = pb at *
   obtain ⟨ua, m0, uc⟩ := u
   simp only at s2
   subst s2
   have p1 := cr 0 (Value.slice ua (ss.getD k []).length (ss.getD k []).length) r1
   have P1 := zh p1
   have RS : Hid (Ko Jh w (.slice ua (ss.getD k []).length (ss.getD k []).length) (ss.getD k [])) := zh s1
   have RR := zh r0
   unfold Un at r0
   clear s1 r1
   have HML : Hid ((ss.getD k []).length ≤ 1048576) := zh (Jz (T := Jh) (Nat.le_trans HSM.out HS.out))
   generalize ss.getD k [] = seg at *
   obtain ⟨m, hm⟩ : ∃ m, m = seg.length := ⟨_, rfl⟩
   have HM := zh hm
   rw [← hm] at p1 P1 RS HCL HML HNS HYS
   clear hm
   by_cases h4 : m ≤ 4
   rotate_left
   ·
    have HF := zh (HNS.out h4)
    have h5 : (4 : Int) < (m : Int) := by omega
    clear HNS HYS
    go_wp2
    go_ret
    exact ⟨Jy HF.out.symm, HB.out⟩
   have HSK := zh (HYS.out h4)
   have h5 : ¬ (4 : Int) < (m : Int) := by omega
   clear HNS HYS
   go_wp2
   clear r0 p1 h5
   go_loopw [5, 27] (fun o i wi => ∃ (j : Nat) (L : List (List Value)), j ≤ m ∧ i = .int .i64 j ∧ Kp 212 (Ub 4) wi (Kw w) o L ∧ Hid (Sh Jh w L (ss.flatten.take ((cat ss k).length + j))) ∧ Hid (VersP ss.flatten now ((cat ss k).length + j)) ∧ Below w w wi) (fun _ i _ => m - (intOf i).toNat)
   case atStart => exact ⟨0, L, Ij _, rfl, HOW.out, zh (by rw [Nat.add_zero, cat_take]; exact HSH.out), zh (by rw [Nat.add_zero]; exact HVS.out), HB.out⟩
   case round =>
    obtain ⟨j, L2, hj, rfl, hown, hsh, hvers, hbel⟩ := hrel
    clear HOW HSH HVS HB
    obtain ⟨oa2, oc2, rfl⟩ := Ju hown
    by_cases hjl : j < m
    ·
     have j1 : (0 : Int) ≤ (j : Int) := by omega
     have j2 : (j : Int) < (m : Int) := by omega
     have hjs : j < seg.length := by have := HM.out; omega
     obtain ⟨b, off, cap', xa, xc, hv, hbl, c0, c1, c2, c3, hx⟩ := verR_at RS.out hjs
     simp only [Ik] at hv
     obtain ⟨rfl, hm1, hm2⟩ := hv
     clear hm1 hm2
     have hif : (cat ss k).length + j < ss.flatten.length := by have := HCL.out; have := HCF.out; omega
     have hci := HCI.out j hjs
     have HXL := zh (ver_len (l := ss.flatten) HZF.out hif)
     have HNV := zh (fun q => poss_ver (ss := ss) (now := now) hif q)
     have HNA := zh (fun q r => poss_seen (ss := ss) (now := now) hvers.out hif q r)
     have HST := zh (fun q r => poss_step (ss := ss) (now := now) hvers.out hif q r)
     have HTK := zh (take_getD hif)
     rw [hci] at HXL HNV HNA HST HTK
     have HLL : Hid (L2.length ≤ 1048576 ∧ (ss.flatten.take ((cat ss k).length + j)).length ≤ 1048576) := zh (by
      have h1 := sh_len hsh.out; have h2 := HFL.out; rw [List.length_take] at h1 ⊢; omega)
     clear hci hif hvers
     generalize seg.getD j Uq = x at *
     obtain ⟨id, xs, born, died⟩ := x
     simp only at c0 c1 c2 c3 HXL
     have e0 := (hbel.cell (p := ⟨b, off + j * 4, none⟩) hbl).trans c0
     have e1 := (hbel.cell (p := ⟨b, off + j * 4 + 1, none⟩) hbl).trans c1
     have e2 := (hbel.cell (p := ⟨b, off + j * 4 + 2, none⟩) hbl).trans c2
     have e3 := (hbel.cell (p := ⟨b, off + j * 4 + 3, none⟩) hbl).trans c3
     have hal : Below wr wr (wr.alloc (.cells #[.int .i64 id, .slice xa xs.length xc, .int .i64 born, .int .i64 died] 212)) := (Il _ _).alloc (Ii _) _
     have BV : Hid ((wr.alloc (.cells #[.int .i64 id, .slice xa xs.length xc, .int .i64 born, .int .i64 died] 212)).heap[wr.heap.size]? = some (.cells #[.int .i64 id, .slice xa xs.length xc, .int .i64 born, .int .i64 died] 212 (0, 0))) := zh (Ic wr _)
     have YV : Hid (wr.heap.size < (wr.alloc (.cells #[.int .i64 id, .slice xa xs.length xc, .int .i64 born, .int .i64 died] 212)).heap.size) := zh (by simp [Ie])
     have PF := zh (Yi (Vs (by decide)) (Kn (Vs (by decide)) hown) hal)
     have d := zh (hbel.trans (hal.mono hbel.size))
     have DZ := zh hbel.size
     have HX : Hid (Uc w (.slice xa xs.length xc) xs) := zh hx
     have HSH := hsh
     have HIV := zh (fun W h => isVersion_any id born died now (.slice xa xs.length xc) xs W h HXL.out)
     clear hown hbel hal hx c0 c1 c2 c3 hbl hsh
     cases hver : verB (id, xs, born, died) now with
     | false =>
      have HF := zh (HNV.out hver)
      rw [hver] at HIV
      clear hver HNV HNA HST
      go_wp2_with fail
      clear e0 e1 e2 e3
      generalize wr.alloc (.cells #[.int .i64 id, .slice xa xs.length xc, .int .i64 born, .int .i64 died] 212) = W1 at *
      refine (HIV.out W1 (Kx HX.out d.out)).mono ?_
      rintro e w2 ⟨rfl, b2⟩
      have d2 := d.out.trans (b2.mono d.out.size)
      go_wp2
      go_ret
      exact ⟨Jy HF.out.symm, d2⟩
     | true =>
      have HNA2 := zh (fun r => HNA.out hver r)
      have HST2 := zh (fun r => HST.out hver r)
      rw [hver] at HIV
      clear hver HNV HNA HST
      go_wp2_with fail
      clear e0 e1 e2 e3
      generalize wr.alloc (.cells #[.int .i64 id, .slice xa xs.length xc, .int .i64 born, .int .i64 died] 212) = W1 at *
      refine (HIV.out W1 (Kx HX.out d.out)).mono ?_
      rintro e w2 ⟨rfl, b2⟩
      have kv := (b2.block wr.heap.size YV.out).trans BV.out
      have p0 := cr 0 (Value.int .i64 id) kv
      have p1 := cr 1 (Value.slice xa xs.length xc) kv
      have p2 := cr 2 (Value.int .i64 born) kv
      have p3 := cr 3 (Value.int .i64 died) kv
      have KV := zh kv
      have PF2 := zh (Yi (Vs (by decide)) PF.out b2)
      have d2 := zh (d.out.trans (b2.mono d.out.size))
      have Z2 := zh (Nat.lt_of_lt_of_le YV.out b2.size)
      have HO := zh (raw_reads (T := Jh) (by decide) PF2.out (sh_below Jp HSH.out d2.out))
      have HCS := zh (fun W h => containsSeen (.slice oa2 L2.length oc2) (ss.flatten.take ((cat ss k).length + j)) id born died xs xa xs.length xc W h HLL.out.2)
      clear PF d b2 kv
      cases hany : anyB (id, xs, born, died) (ss.flatten.take ((cat ss k).length + j)) with
      | true =>
       have HF := zh (HNA2.out hany)
       rw [hany] at HCS
       clear hany HNA2 HST2
       go_wp2_with fail
       refine (HCS.out w2 HO.out).mono ?_
       rintro e w3 ⟨rfl, b3⟩
       have d3 := d2.out.trans (b3.mono d2.out.size)
       clear p0 p1 p2 p3
       go_wp2
       go_ret
       exact ⟨Jy HF.out.symm, d3⟩
      | false =>
       have HV2 := zh (HST2.out hany)
       rw [hany] at HCS
       clear hany HNA2 HST2
       go_wp2_with fail
       refine (HCS.out w2 HO.out).mono ?_
       rintro e w3 ⟨rfl, b3⟩
       have kv := (b3.block wr.heap.size Z2.out).trans KV.out
       clear p0 p1 p2 p3
       have p0 := cr 0 (Value.int .i64 id) kv
       have p1 := cr 1 (Value.slice xa xs.length xc) kv
       have p2 := cr 2 (Value.int .i64 born) kv
       have p3 := cr 3 (Value.int .i64 died) kv
       have PF3 := zh (Yi (Vs (by decide)) PF2.out b3)
       have d3 := zh (d2.out.trans (b3.mono d2.out.size))
       have Z3 := zh (Nat.le_trans (Nat.le_of_lt Z2.out) b3.size)
       have ON : Hid ((Ub 4).O w3 (fun b => wr.heap.size ≤ b) [.int .i64 id, .slice xa xs.length xc, .int .i64 born, .int .i64 died] [.int .i64 id, .slice xa xs.length xc, .int .i64 born, .int .i64 died]) := zh ⟨rfl, rfl, by simp [Value.oneCell']⟩
       clear PF2 d2 b3 kv KV HO
       go_wp2_with (at_builtin; refine append_T (Vs (by decide)) Ew Tryz.underlying213 rfl rfl (.tmp 41) (.tmp 43) rfl (Kw w) wr.heap.size _ L2 rfl PF3.out Z3.out (fun b hb => Nat.le_trans DZ.out hb) HLL.out.1 [.int .i64 id, .slice xa xs.length xc, .int .i64 born, .int .i64 died] [.int .i64 id, .slice xa xs.length xc, .int .i64 born, .int .i64 died] ON.out (by simp [Value.oneCell']) 1 _ rfl rfl ?_)
       intro v' w4 o4 t4
       have d4 := zh (Js d3.out t4 (fun b hb => hb.1) d3.out.size)
       have SH : Hid (Sh Jh w (L2 ++ [[.int .i64 id, .slice xa xs.length xc, .int .i64 born, .int .i64 died]]) (ss.flatten.take ((cat ss k).length + (j + 1)))) := zh (by rw [← Nat.add_assoc, HTK.out]; exact sh_app HSH.out (sh_one (tVersion_mkR (ints_slR HX.out))))
       have O4 := zh o4
       clear PF3 d3 t4 o4 p0 p1 p2 p3
       go_wp2
       go_roundw
       case rel => exact ⟨j + 1, _, by omega, by go_num, O4.out, SH, HV2, d4.out⟩
       case measure => simp [intOf]; omega
    ·
     obtain rfl : j = m := by omega
     have SH : Hid (Sh Jh w L2 (cat ss (k + 1))) := zh (by have := hsh.out; rw [← HCL.out, cat_take] at this; exact this)
     have HV2 : Hid (VersP ss.flatten now (cat ss (k + 1)).length) := zh (by rw [HCL.out]; exact hvers.out)
     have O2 := zh hown
     have HB := zh hbel
     clear hsh hvers hown hbel
     go_wp2
     go_roundw
     case rel => exact ⟨k + 1, L2, by omega, by go_num, O2.out, SH, HSK, HV2, HB.out⟩
     case measure => simp [intOf]; omega
  ·
   obtain rfl : k = ss.length := by omega
   have HY := zh (poss_yes hshort.out (by have := hvers.out; rw [cat_all] at this; exact this))
   clear hsh hshort hvers
   go_wp2
   go_ret
   exact ⟨Jy HY.out.symm, hbel⟩
set_option maxHeartbeats 8000000 in
theorem implIsStore (sv : Value) (ss : List (List Kj)) (now : Int) (w : World) (h : Ko Jd w sv ss) (hs : zL Jd ss ≤ 1048576) :
  Calls Tryz.prog 131 #[.agg #[sv, .int .i64 now]] w (fun e w' => e = .returned (.bool (Yb ss now)) ∧ Below w w w') := by
 obtain ⟨us, hls, hsr⟩ := slR_ls h
 have HUL := zh hsr.1
 obtain ⟨a, cap, rfl⟩ := Jl h
 have hlen := Jz hs
 have HSS := zh hs
 have H := zh h
 have HLS := zh hls
 have HSR := zh hsr
 have d0 := zh (show Below w w (w.alloc (.cells #[.slice a ss.length cap, .int .i64 now] 35)) from (Il _ _).alloc (Ii _) _)
 have B0 : Hid ((w.alloc (.cells #[.slice a ss.length cap, .int .i64 now] 35)).heap[w.heap.size]? = some (.cells #[.slice a ss.length cap, .int .i64 now] 35 (0, 0))) := zh (Ic w _)
 have Y0 : Hid (w.heap.size < (w.alloc (.cells #[.slice a ss.length cap, .int .i64 now] 35)).heap.size) := zh (by simp [Ie])
 clear hls hsr h hs
 rw [store_poss]
 have HC1 := zh (isSegmentCount_any (ss.length : Int))
 have HC2 := zh (isTime_any now)
 have HPS : Hid (∀ (B g : Nat) (bs : List Nat) (W : World), TabN B W g bs us → SegsR W us ss → Calls Tryz.prog 196 #[.slice (some ⟨g, 0, none⟩) us.length us.length, .int .i64 now] W (fun e w' => e = .returned (.bool (possB ss now)) ∧ Below W W w')) := zh (fun B g bs W h1 h2 => isPossible_any B g bs us ss now W h1 h2 HSS.out)
 have HTB := zh (fun W h => tableOf_any (.slice a ss.length cap) us W h (by have := HUL.out; omega))
 generalize possB ss now = pb at *
 have B1 := B0
 have d := d0
 cases hc1 : decide (1 ≤ (ss.length : Int) ∧ (ss.length : Int) ≤ 8) with
 | false =>
  rw [hc1] at HC1
  rw [Bool.false_and, Bool.false_and]
  clear hc1
  go_enter Tryz.func131, Tryz.ntmps131
  go_wp2
  generalize w.alloc (.cells #[.slice a ss.length cap, .int .i64 now] 35) = W at *
  have cp_B0_0 := Vl B0.out
  refine wp_region_held_drew (S := fun w' => w'.cell? ⟨w, 0, none⟩ = some (Value.slice a ss.length cap) ∧ w'.cell? ⟨w, 1, none⟩ = some (Value.int .i64 now)) (by kernel_rfl) cp_B0_0 (fun hHeld => ?_)
  clear cp_B0_0
  have cdr : Below W W W.drew := Kc (Il _ _)
  replace B0 := zb cdr B0
  replace d := zD d cdr
  clear cdr
  refine tQ (i := 0) ?_
  try simp only [Act.put, lA, lB, lC]
  refine tQ (i := 1) ?_
  try simp only [Act.put, lA, lB, lC]
  refine tQ (i := 2) ?_
  try simp only [Act.put, lA, lB, lC]
  refine rA 3 (fun K hK => ?_)
  go_simp
  refine (HC1.out (W.drew)).mono ?_
  rintro e wx ⟨rfl, rfl⟩
  refine hK.out _ _ (Vl B0.out) (fun hHeld => ?_)
  clear hK K
  try simp only [Act.put, lA, lB, lC]
  refine tQ (i := 4) ?_
  try simp only [Act.put, lA, lB, lC]
  refine tO (i := 5) ?_
  try simp only [Act.put, lA, lB, lC]
  refine tO (i := 6) ?_
  try simp only [Act.put, lA, lB, lC]
  refine tO (i := 7) ?_
  try simp only [Act.put, lA, lB, lC]
  refine tQ (i := 8) ?_
  try simp only [Act.put, lA, lB, lC]
  refine tQ (i := 9) ?_
  try simp only [Act.put, lA, lB, lC]
  refine tO (i := 10) ?_
  try simp only [Act.put, lA, lB, lC]
  refine tO (i := 11) ?_
  try simp only [Act.put, lA, lB, lC]
  refine tO (i := 12) ?_
  try simp only [Act.put, lA, lB, lC]
  refine tO (i := 13) ?_
  try simp only [Act.put, lA, lB, lC]
  refine tO (i := 14) ?_
  try simp only [Act.put, lA, lB, lC]
  refine tO (i := 15) ?_
  try simp only [Act.put, lA, lB, lC]
  refine tQ (i := 16) ?_
  try simp only [Act.put, lA, lB, lC]
  refine tQ (i := 17) ?_
  try simp only [Act.put, lA, lB, lC]
  refine wpAnyH_done (by kernel_rfl) ?_ _
  clear hHeld
  go_wp2
  go_ret
  exact ⟨rfl, d.out⟩
 | true =>
  rw [hc1] at HC1
  rw [Bool.true_and]
  clear hc1
  cases hc2 : decide (0 ≤ now ∧ now ≤ 100000) with
  | false =>
   rw [hc2] at HC2
   rw [Bool.false_and]
   clear hc2
   go_enter Tryz.func131, Tryz.ntmps131
   go_wp2
   generalize w.alloc (.cells #[.slice a ss.length cap, .int .i64 now] 35) = W at *
   have cp_B0_0 := Vl B0.out
   refine wp_region_held_drew (S := fun w' => w'.cell? ⟨w, 0, none⟩ = some (Value.slice a ss.length cap) ∧ w'.cell? ⟨w, 1, none⟩ = some (Value.int .i64 now)) (by kernel_rfl) cp_B0_0 (fun hHeld => ?_)
   clear cp_B0_0
   have cdr : Below W W W.drew := Kc (Il _ _)
   replace B0 := zb cdr B0
   replace d := zD d cdr
   clear cdr
   refine tQ (i := 0) ?_
   try simp only [Act.put, lA, lB, lC]
   refine tQ (i := 1) ?_
   try simp only [Act.put, lA, lB, lC]
   refine tQ (i := 2) ?_
   try simp only [Act.put, lA, lB, lC]
   refine rA 3 (fun K hK => ?_)
   go_simp
   refine (HC1.out (W.drew)).mono ?_
   rintro e wx ⟨rfl, rfl⟩
   refine hK.out _ _ (Vl B0.out) (fun hHeld => ?_)
   clear hK K
   try simp only [Act.put, lA, lB, lC]
   refine tQ (i := 4) ?_
   try simp only [Act.put, lA, lB, lC]
   refine tQ (i := 5) ?_
   try simp only [Act.put, lA, lB, lC]
   refine tQ (i := 6) ?_
   try simp only [Act.put, lA, lB, lC]
   refine rA 7 (fun K hK => ?_)
   go_simp
   refine (HC2.out (W.drew)).mono ?_
   rintro e wx ⟨rfl, rfl⟩
   refine hK.out _ _ (Vl B0.out) (fun hHeld => ?_)
   clear hK K
   try simp only [Act.put, lA, lB, lC]
   refine tQ (i := 8) ?_
   try simp only [Act.put, lA, lB, lC]
   refine tQ (i := 9) ?_
   try simp only [Act.put, lA, lB, lC]
   refine tO (i := 10) ?_
   try simp only [Act.put, lA, lB, lC]
   refine tO (i := 11) ?_
   try simp only [Act.put, lA, lB, lC]
   refine tO (i := 12) ?_
   try simp only [Act.put, lA, lB, lC]
   refine tO (i := 13) ?_
   try simp only [Act.put, lA, lB, lC]
   refine tO (i := 14) ?_
   try simp only [Act.put, lA, lB, lC]
   refine tO (i := 15) ?_
   try simp only [Act.put, lA, lB, lC]
   refine tQ (i := 16) ?_
   try simp only [Act.put, lA, lB, lC]
   refine tQ (i := 17) ?_
   try simp only [Act.put, lA, lB, lC]
   refine wpAnyH_done (by kernel_rfl) ?_ _
   clear hHeld
   go_wp2
   go_ret
   exact ⟨rfl, d.out⟩
  | true =>
   rw [hc2] at HC2
   rw [Bool.true_and]
   clear hc2
   go_enter Tryz.func131, Tryz.ntmps131
   go_wp2
   generalize w.alloc (.cells #[.slice a ss.length cap, .int .i64 now] 35) = W at *
   have cp_B0_0 := Vl B0.out
   refine wp_region_held_drew (S := fun w' => w'.cell? ⟨w, 0, none⟩ = some (Value.slice a ss.length cap) ∧ w'.cell? ⟨w, 1, none⟩ = some (Value.int .i64 now)) (by kernel_rfl) cp_B0_0 (fun hHeld => ?_)
   clear cp_B0_0
   have cdr : Below W W W.drew := Kc (Il _ _)
   replace B0 := zb cdr B0
   replace d := zD d cdr
   clear cdr
   refine tQ (i := 0) ?_
   try simp only [Act.put, lA, lB, lC]
   refine tQ (i := 1) ?_
   try simp only [Act.put, lA, lB, lC]
   refine tQ (i := 2) ?_
   try simp only [Act.put, lA, lB, lC]
   refine rA 3 (fun K hK => ?_)
   go_simp
   refine (HC1.out (W.drew)).mono ?_
   rintro e wx ⟨rfl, rfl⟩
   refine hK.out _ _ (Vl B0.out) (fun hHeld => ?_)
   clear hK K
   try simp only [Act.put, lA, lB, lC]
   refine tQ (i := 4) ?_
   try simp only [Act.put, lA, lB, lC]
   refine tQ (i := 5) ?_
   try simp only [Act.put, lA, lB, lC]
   refine tQ (i := 6) ?_
   try simp only [Act.put, lA, lB, lC]
   refine rA 7 (fun K hK => ?_)
   go_simp
   refine (HC2.out (W.drew)).mono ?_
   rintro e wx ⟨rfl, rfl⟩
   refine hK.out _ _ (Vl B0.out) (fun hHeld => ?_)
   clear hK K
   try simp only [Act.put, lA, lB, lC]
   refine tQ (i := 8) ?_
   try simp only [Act.put, lA, lB, lC]
   refine tQ (i := 9) ?_
   try simp only [Act.put, lA, lB, lC]
   refine tQ (i := 10) ?_
   try simp only [Act.put, lA, lB, lC]
   refine tQ (i := 11) ?_
   try simp only [Act.put, lA, lB, lC]
   refine tQ (i := 13) ?_
   try simp only [Act.put, lA, lB, lC]
   refine tQ (i := 14) ?_
   try simp only [Act.put, lA, lB, lC]
   refine rA 12 (fun K hK => ?_)
   go_simp
   refine (HTB.out (W.drew) (lsR_below HLS.out d.out)).mono ?_
   rintro e w5 ⟨g, bs, rfl, ht, c5⟩
   have HT5 := zh ht
   replace B0 := zb c5 B0
   replace d := zD d c5
   have Z_w5 := zh (show W.heap.size ≤ w5.heap.size from c5.size)
   clear c5 ht
   refine hK.out _ _ (Vl B0.out) (fun hHeld => ?_)
   clear hK K
   try simp only [Act.put, lA, lB, lC]
   refine rA 15 (fun K hK => ?_)
   go_simp
   refine (HPS.out _ g bs w5 HT5.out (segsR_below HSR.out d.out)).mono ?_
   rintro e w6 ⟨rfl, c6⟩
   replace B0 := zb c6 B0
   replace d := zD d c6
   have Z_w6 := zh (show w5.heap.size ≤ w6.heap.size from c6.size)
   clear c6
   refine hK.out _ _ (Vl B0.out) (fun hHeld => ?_)
   clear hK K
   try simp only [Act.put, lA, lB, lC]
   refine tQ (i := 16) ?_
   try simp only [Act.put, lA, lB, lC]
   refine tQ (i := 17) ?_
   try simp only [Act.put, lA, lB, lC]
   refine wpAnyH_done (by kernel_rfl) ?_ _
   clear hHeld
   go_wp2
   go_ret
   exact ⟨rfl, d.out⟩
set_option maxHeartbeats 8000000 in
theorem checkStore_no (sv : Value) (ss : List (List Kj)) (now : Int) (w : World) (h : Ko Jd w sv ss) (hs : zL Jd ss ≤ 1048576) (hst : Yb ss now = false) :
  Calls Tryz.prog 222 #[.agg #[sv, .int .i64 now]] w (fun e w' => e = .returned (.tuple #[(), .bool false]) ∧ Below w w w') := by
 obtain ⟨us, hls, hsr⟩ := slR_ls h
 have HUL := zh hsr.1
 obtain ⟨a, cap, rfl⟩ := Jl h
 have hlen := Jz hs
 have HSS := zh hs
 have H := zh h
 have HLS := zh hls
 have HSR := zh hsr
 have d0 := zh (show Below w w (w.alloc (.cells #[.slice a ss.length cap, .int .i64 now] 35)) from (Il _ _).alloc (Ii _) _)
 have B0 : Hid ((w.alloc (.cells #[.slice a ss.length cap, .int .i64 now] 35)).heap[w.heap.size]? = some (.cells #[.slice a ss.length cap, .int .i64 now] 35 (0, 0))) := zh (Ic w _)
 have Y0 : Hid (w.heap.size < (w.alloc (.cells #[.slice a ss.length cap, .int .i64 now] 35)).heap.size) := zh (by simp [Ie])
 have HI := zh (fun W g => implIsStore (.slice a ss.length cap) ss now W g HSS.out)
 rw [hst] at HI
 clear hls hsr h hs hst
 go_enter Tryz.func222, Tryz.ntmps222
 go_wp2_with fail
 generalize w.alloc (.cells #[.slice a ss.length cap, .int .i64 now] 35) = W at *
 refine (HI.out W (Jb Jf H.out d0.out)).mono ?_
 rintro e w1 ⟨rfl, b1⟩
 have D1 := zh (d0.out.trans (b1.mono d0.out.size))
 have k0 := (b1.block w.heap.size Y0.out).trans B0.out
 have p0 := cr 0 (Value.slice a ss.length cap) k0
 clear b1 k0
 go_wp2
 go_ret2
 exact ⟨rfl, D1.out⟩
set_option maxHeartbeats 8000000 in
theorem implCountVersions (sv : Value) (ss : List (List Kj)) (now : Int) (w : World) (h : Ko Jd w sv ss) (hs : zL Jd ss ≤ 1048576) :
  Calls Tryz.prog 225 #[.agg #[sv, .int .i64 now]] w (fun e w' => e = .returned (.int .i64 ss.flatten.length) ∧ Below w w w') := by
 obtain ⟨us, hls, hsr⟩ := slR_ls h
 have HUL := zh hsr.1
 obtain ⟨a, cap, rfl⟩ := Jl h
 have hlen := Jz hs
 have HSS := zh hs
 have H := zh h
 have HLS := zh hls
 have HSR := zh hsr
 have d0 := zh (show Below w w (w.alloc (.cells #[.slice a ss.length cap, .int .i64 now] 35)) from (Il _ _).alloc (Ii _) _)
 have B0 : Hid ((w.alloc (.cells #[.slice a ss.length cap, .int .i64 now] 35)).heap[w.heap.size]? = some (.cells #[.slice a ss.length cap, .int .i64 now] 35 (0, 0))) := zh (Ic w _)
 have Y0 : Hid (w.heap.size < (w.alloc (.cells #[.slice a ss.length cap, .int .i64 now] 35)).heap.size) := zh (by simp [Ie])
 have HFL : Hid (ss.flatten.length ≤ 1048576) := zh (by have h1 := zL_all ss; have h2 := Jz (T := Jh) (xs := ss.flatten) (M := 1048576) (by omega); omega)
 clear hls hsr h hs
 go_enter Tryz.func225, Tryz.ntmps225
 go_wp2
 generalize w.alloc (.cells #[.slice a ss.length cap, .int .i64 now] 35) = W at *
 go_loopw [3, 9] (fun c i wr => ∃ k : Nat, k ≤ ss.length ∧ i = .int .i64 k ∧ c = .int .i64 ((cat ss k).length : Int) ∧ Below w w wr) (fun _ i _ => ss.length - (intOf i).toNat)
 case atStart => exact ⟨0, Ij _, rfl, by rw [cat_zero]; rfl, d0.out⟩
 case round =>
  obtain ⟨k, hk, rfl, rfl, hbel⟩ := hrel
  by_cases hlt : k < ss.length
  ·
   have i1 : (0 : Int) ≤ (k : Int) := by omega
   have i2 : (k : Int) < (ss.length : Int) := by omega
   obtain ⟨b, off, cap', cs, hv, hbl, hcs, hR⟩ := Ku H.out hlt
   simp only [Ik] at hv
   obtain ⟨rfl, _, rfl⟩ := hv
   obtain ⟨u, rfl, hU⟩ := hR
   change Ko Jh w u (ss.getD k []) at hU
   have pe : w.cell? ⟨b, off + k, none⟩ = some u := by have := hcs 0 Nat.one_pos; rw [show Jd.n = 1 from rfl, Nat.mul_one, Nat.add_zero] at this; exact this
   have he := (hbel.cell (p := ⟨b, off + k, none⟩) hbl).trans pe
   have HCL := zh (cat_len hlt)
   have hcf := cat_le ss (k + 1)
   have hfl := HFL.out
   have hcl := HCL.out
   obtain ⟨ua, uc, rfl⟩ := Jl hU
   have HB := zh hbel
   clear hcs pe hU hbel
   generalize (ss.getD k []).length = m at *
   have h0 : ((cat ss k).length : Int) + (m : Int) ≤ 1048576 := by omega
   generalize (cat ss k).length = q at *
   clear hcf hfl hcl
   go_wp2
   go_roundw
   case rel => exact ⟨k + 1, by omega, by go_num, by rw [HCL.out]; go_num, HB.out⟩
   case measure => simp [intOf]; omega
  ·
   obtain rfl : k = ss.length := by omega
   have HCA : Hid (cat ss ss.length = ss.flatten) := zh (cat_all ss)
   rw [HCA.out]
   go_wp2
   go_ret
   exact ⟨rfl, hbel⟩
/-- A slice in new memory without room beyond its length. -/
def FreshE {α : Type} (t : TypeId) (T : Ty α) (w : World) (xs : List α) (e : Ending) (w' : World) : Prop := ∃ g : Nat, e = .returned (.slice (some ⟨g, 0, none⟩) xs.length xs.length) ∧ Kp t T w' (Kw w) (.slice (some ⟨g, 0, none⟩) xs.length xs.length) xs ∧ Below w w w'
/-- A segment as a slice without room beyond its length. -/
def tX : Ty (List Kj) := { Jd with
 R := fun w cs xs => ∃ a, cs = [.slice a xs.length xs.length] ∧ Ko Jh w (.slice a xs.length xs.length) xs
 O := fun w F cs xs => ∃ a, cs = [.slice a xs.length xs.length] ∧ Kp 212 Jh w F (.slice a xs.length xs.length) xs }
theorem tX_law : tX.Law where
 pos := Nat.one_pos
 len := fun {w cs x} h => by obtain ⟨v, rfl, _⟩ := h; rfl
 below := fun {W w cs x} h hb => by obtain ⟨v, e, h⟩ := h; exact ⟨v, e, Jb Jp h hb⟩
 reads := fun {w F cs x} h => by obtain ⟨v, e, h⟩ := h; exact ⟨v, e, Up Jp h⟩
 turn := fun {w w' F G cs x} h k hd => by obtain ⟨v, e, h⟩ := h; exact ⟨v, e, Ka Jp h k hd⟩
 mono := fun {w F F' cs x} h hf => by obtain ⟨v, e, h⟩ := h; exact ⟨v, e, Ky h hf⟩
 lt := fun {w F cs x} h => by obtain ⟨v, e, h⟩ := h; exact ⟨v, e, Kn Jp h⟩
 nd_le := fun x => Jf.nd_le x
 nv_le := fun x => Jf.nv_le x
theorem tX_zero (w : World) : tX.O w (fun _ => False) #[.slice none 0 0].toList tX.d := ⟨none, rfl, Ya _ _ _ _⟩
theorem tX_O {w : World} {F : Nat → Prop} {cs : List Value} {xs : List Kj} (h : tX.O w F cs xs) : Jd.O w F cs xs := by obtain ⟨a, e, h⟩ := h; exact ⟨_, e, h⟩
theorem slO_X {e : TypeId} {w : World} {F : Nat → Prop} {v : Value} {ss : List (List Kj)} (h : Kp e tX w F v ss) : Kp e Jd w F v ss := by
 obtain ⟨L, us, Fs, h1, h2, h3, h4⟩ := h
 exact ⟨L, us, Fs, h1, h2, fun j hj => ⟨(h3 j hj).1, tX_O (h3 j hj).2.1, (h3 j hj).2.2⟩, h4⟩
set_option maxHeartbeats 8000000 in
theorem copyEachVersionX (v : Value) (xs : List (Int × List Int × Int × Int)) (w : World) (h : Ko Jh w v xs) (hs : zL Jh xs ≤ 1048576) :
  Calls Tryz.prog 246 #[v, .func (.func 247) #[] #[]] w (FreshE 212 Jh w xs) := by
 obtain ⟨i0, hi, hz0, hz1⟩ : ∃ i0, Tryz.prog.info? 212 = some i0 ∧ i0.zero = some (.agg #[Ja, (), Ja, Ja]) ∧ i0.size = 4 := by
  have h0 := Tryz.info_Version
  cases q : Tryz.prog.info? 212 with
  | none => rw [q] at h0; simp at h0
  | some i => rw [q] at h0; simp only [Option.map_some, Option.some.injEq, Prod.mk.injEq] at h0; exact ⟨i, rfl, h0.1, h0.2⟩
 have hz2 : i0.bytes ≤ 512 := by
  have h0 := Tryz.bytes_Version
  rw [hi] at h0
  simpa using h0
 have HI := zh hi; have HZ0 := zh hz0; have HZ1 := zh hz1; have HZ2 := zh hz2
 clear hi hz0 hz1 hz2
 have H := zh h
 have hlen := Jz hs
 have HS := zh hs
 obtain ⟨a, cap, rfl⟩ := Jl h
 clear h hs
 go_enter Tryz.func246, Tryz.ntmps246
 go_wp2_with (at_make; refine wpList_make_full _ rfl (.tmp 9) (.tmp 9) 213 rfl w.heap.size 212 i0 (.agg #[Ja, (), Ja, Ja]) 4 Tryz.underlying213 HI.out HZ0.out HZ1.out _ _ _ _ xs.length rfl rfl rfl rfl (by have h9 := Nat.mul_le_mul HZ2.out hlen; have h8 := Nat.mul_le_mul hlen HZ2.out; omega) (by unfold maxLen; omega) (Ii _) ?_)
 intro w1 hown0 hg0
 have hown1 : Kp 212 Jh w1 (Kw w) (.slice (some ⟨w, 0, none⟩) xs.length xs.length) (List.replicate xs.length Jh.d) := Yz (z := #[.int .i64 0, .slice none 0 0, .int .i64 0, .int .i64 0]) Jp rfl (tVersion_zero w1) (Ii _) hown0
 have hbel1 := (Il w.heap.size w).grown hg0 (Ii _) (fun k hk => by cases hk)
 clear hown0 hg0
 go_wp2
 go_loopw [13] (fun i wr => ∃ k : Nat, k ≤ xs.length ∧ i = .int .i64 k ∧ Kp 212 Jh wr (Kw w) (.slice (some ⟨w, 0, none⟩) xs.length xs.length) (xs.take k ++ List.replicate (xs.length - k) Jh.d) ∧ Below w w wr) (fun i _ => xs.length - (intOf i).toNat)
 case atStart => exact ⟨0, Ij _, rfl, by simpa using hown1, hbel1⟩
 case round =>
  obtain ⟨k, hk, rfl, hown, hbel⟩ := hrel
  by_cases hlt : k < xs.length
  ·
   have HSET := zh (Xb (d := Jh.d) hlt)
   have HKL : Hid (k < (xs.take k ++ List.replicate (xs.length - k) Jh.d).length) := zh (by rw [Xn hk]; exact hlt)
   have HLL := zh (Xn (d := Jh.d) hk)
   have i1 : (0 : Int) ≤ (k : Int) := by omega
   have i2 : (k : Int) < (xs.length : Int) := by omega
   have hzx := Vj HS.out hlt
   obtain ⟨b, off, cap', cs, hv, hbl, hcs, hR⟩ := Ku (Jb Jp H.out hbel) hlt
   simp only [Ik] at hv
   obtain ⟨rfl, _, rfl⟩ := hv
   obtain ⟨hme, hFg, hgl, cj, Fj, Lc, hrow, hLc, hO, hFj, hput⟩ := Eb Jp hown HKL.out
   clear hme
   clear hown1 hbel1
   generalize xs.getD k Jh.d = x at *
   generalize xs.take k ++ List.replicate (xs.length - k) Jh.d = ys at *
   obtain ⟨a0, x1, a2, a3⟩ := x
   obtain ⟨v1, hR'⟩ := tVersion_R hR
   obtain ⟨rfl, h1⟩ := hR'
   have p0 : wr.cell? ⟨b, off + k * 4, none⟩ = some (Value.int .i64 a0) := hcs 0 (by decide)
   have p1 : wr.cell? ⟨b, off + k * 4 + 1, none⟩ = some (v1) := hcs 1 (by decide)
   have p2 : wr.cell? ⟨b, off + k * 4 + 2, none⟩ = some (Value.int .i64 a2) := hcs 2 (by decide)
   have p3 : wr.cell? ⟨b, off + k * 4 + 3, none⟩ = some (Value.int .i64 a3) := hcs 3 (by decide)
   rw [tVersion_sz] at hzx
   have S1 := zh (show zL Je x1 ≤ 1048576 by omega)
   obtain ⟨sa1, sc1, rfl⟩ := Jl h1
   have HC := zh (fun w g1 => copyVersion_P a0 a2 a3 (.slice sa1 x1.length sc1) x1 w g1 S1.out)
   have G1 := zh h1
   clear hcs hzx h1
   have hal : Below wr wr (wr.alloc (.cells #[a0, .slice sa1 x1.length sc1, a2, a3] 212)) := (Il _ _).alloc (Ii _) _
   go_wp2_with fail
   generalize wr.alloc (.cells #[a0, .slice sa1 x1.length sc1, a2, a3] 212) = W2 at *
   refine (HC.out _ (Jb Jc G1.out hal)).mono ?_
   rintro e w2 ⟨cv, rfl, ow0, b20⟩
   have ow : Jh.O w2 (Kw wr) cv _ := Jp.mono ow0 (fun b hb => Nat.le_trans hal.size hb)
   have b2 := hal.trans (b20.mono hal.size)
   clear ow0 b20 hal
   replace ow := Jp.lt ow
   have ow2 := ow
   obtain ⟨u1, K1, rfl, o1, _⟩ := tVersion_O ow2
   obtain ⟨ua1, uc1, rfl⟩ := Ju o1
   clear o1
   have r0 := Ym (G := fun _ => False) hrow (Yo b2) (fun _ _ => not_false)
   rw [HLL.out] at r0
   have q0 : ∃ x, w2.cell? ⟨w, k * 4, none⟩ = some x := zq r0 (k * 4) (by have := HKL.out; rw [HLL.out] at this; show _ < xs.length * 4; omega)
   obtain ⟨y0, q0⟩ := q0
   have f0 := World.ownsRow.frozenAt r0 (k * 4)
   have q1 : ∃ x, w2.cell? ⟨w, k * 4 + 1, none⟩ = some x := zq r0 (k * 4 + 1) (by have := HKL.out; rw [HLL.out] at this; show _ < xs.length * 4; omega)
   obtain ⟨y1, q1⟩ := q1
   have f1 := World.ownsRow.frozenAt r0 (k * 4 + 1)
   have q2 : ∃ x, w2.cell? ⟨w, k * 4 + 2, none⟩ = some x := zq r0 (k * 4 + 2) (by have := HKL.out; rw [HLL.out] at this; show _ < xs.length * 4; omega)
   obtain ⟨y2, q2⟩ := q2
   have f2 := World.ownsRow.frozenAt r0 (k * 4 + 2)
   have q3 : ∃ x, w2.cell? ⟨w, k * 4 + 3, none⟩ = some x := zq r0 (k * 4 + 3) (by have := HKL.out; rw [HLL.out] at this; show _ < xs.length * 4; omega)
   obtain ⟨y3, q3⟩ := q3
   have f3 := World.ownsRow.frozenAt r0 (k * 4 + 3)
   have b3 := hbel.trans (b2.mono hbel.size)
   have B3 := zh ((((b3.setCell (p := ⟨w, k * 4, none⟩) (Ii _) a0).setCell (p := ⟨w, k * 4 + 1, none⟩) (Ii _) (.slice ua1 x1.length uc1)).setCell (p := ⟨w, k * 4 + 2, none⟩) (Ii _) a2).setCell (p := ⟨w, k * 4 + 3, none⟩) (Ii _) a3)
   have hT : Kb (fun b => b = w.heap.size ∨ Fj b ∨ wr.heap.size ≤ b) wr ((((w2.setCell ⟨w, k * 4, none⟩ a0).setCell ⟨w, k * 4 + 1, none⟩ (.slice ua1 x1.length uc1)).setCell ⟨w, k * 4 + 2, none⟩ a2).setCell ⟨w, k * 4 + 3, none⟩ a3) := (((((Yo b2).trans (Jm (j := k * 4) (u := .int .i64 a0) (Or.inl rfl))).trans (Jm (j := k * 4 + 1) (u := .slice ua1 x1.length uc1) (Or.inl rfl))).trans (Jm (j := k * 4 + 2) (u := .int .i64 a2) (Or.inl rfl))).trans (Jm (j := k * 4 + 3) (u := .int .i64 a3) (Or.inl rfl)))
   have hT2 : Kb (fun b => b = w.heap.size) w2 ((((w2.setCell ⟨w, k * 4, none⟩ a0).setCell ⟨w, k * 4 + 1, none⟩ (.slice ua1 x1.length uc1)).setCell ⟨w, k * 4 + 2, none⟩ a2).setCell ⟨w, k * 4 + 3, none⟩ a3) := (((((Kb.refl (fun b => b = w.heap.size) _).trans (Jm (G := fun b => b = w.heap.size) (j := k * 4) (u := .int .i64 a0) rfl)).trans (Jm (G := fun b => b = w.heap.size) (j := k * 4 + 1) (u := .slice ua1 x1.length uc1) rfl)).trans (Jm (G := fun b => b = w.heap.size) (j := k * 4 + 2) (u := .int .i64 a2) rfl)).trans (Jm (G := fun b => b = w.heap.size) (j := k * 4 + 3) (u := .int .i64 a3) rfl))
   have hO2 := Jp.turn ow hT2 (fun b h1 h2 => by have := h1.1; simp only [Kw] at this; omega)
   have r9 := (World.ownsRow.stored (World.ownsRow.stored (World.ownsRow.stored (World.ownsRow.stored r0 (k * 4) a0).1 (k * 4 + 1) (.slice ua1 x1.length uc1)).1 (k * 4 + 2) a2).1 (k * 4 + 3) a3).1
   have hLl : Lc.length = xs.length * 4 := r0.1
   have hst := zh (hput ((((w2.setCell ⟨w, k * 4, none⟩ a0).setCell ⟨w, k * 4 + 1, none⟩ (.slice ua1 x1.length uc1)).setCell ⟨w, k * 4 + 2, none⟩ a2).setCell ⟨w, k * 4 + 3, none⟩ a3) ((((Lc.set (k * 4) a0).set (k * 4 + 1) (.slice ua1 x1.length uc1)).set (k * 4 + 2) a2).set (k * 4 + 3) a3) [a0, .slice ua1 x1.length uc1, a2, a3] _ (a0, x1, a2, a3) (by rw [HLL.out]; exact r9) (fun p hp => by have hp2 : p < k * 4 ∨ k * 4 + 4 ≤ p := hp; rw [Ig (by omega)]; rw [Ig (by omega)]; rw [Ig (by omega)]; rw [Ig (by omega)]) (fun i hi => by have hi' : i < 4 := hi; match i, hi' with | 0, _ => (show (((((Lc.set (k * 4) a0).set (k * 4 + 1) (.slice ua1 x1.length uc1)).set (k * 4 + 2) a2).set (k * 4 + 3) a3))[k * 4]? = _; rw [Ig (by omega)]; rw [Ig (by omega)]; rw [Ig (by omega)]; rw [List.getElem?_set_self (by first | omega | (simp only [List.length_set]; omega))]; rfl) | 1, _ => (show (((((Lc.set (k * 4) a0).set (k * 4 + 1) (.slice ua1 x1.length uc1)).set (k * 4 + 2) a2).set (k * 4 + 3) a3))[k * 4 + 1]? = _; rw [Ig (by omega)]; rw [Ig (by omega)]; rw [List.getElem?_set_self (by first | omega | (simp only [List.length_set]; omega))]; rfl) | 2, _ => (show (((((Lc.set (k * 4) a0).set (k * 4 + 1) (.slice ua1 x1.length uc1)).set (k * 4 + 2) a2).set (k * 4 + 3) a3))[k * 4 + 2]? = _; rw [Ig (by omega)]; rw [List.getElem?_set_self (by first | omega | (simp only [List.length_set]; omega))]; rfl) | 3, _ => (show (((((Lc.set (k * 4) a0).set (k * 4 + 1) (.slice ua1 x1.length uc1)).set (k * 4 + 2) a2).set (k * 4 + 3) a3))[k * 4 + 3]? = _; rw [List.getElem?_set_self (by first | omega | (simp only [List.length_set]; omega))]; rfl)) hO2 (fun b hb => ⟨Nat.le_trans hbel.size hb.1, Or.inr hb.1⟩) hT)
   have hst2 : Kp 212 Jh ((((w2.setCell ⟨w, k * 4, none⟩ a0).setCell ⟨w, k * 4 + 1, none⟩ (.slice ua1 x1.length uc1)).setCell ⟨w, k * 4 + 2, none⟩ a2).setCell ⟨w, k * 4 + 3, none⟩ a3) (Kw w) (.slice (some ⟨w, 0, none⟩) xs.length xs.length) (xs.take (k + 1) ++ List.replicate (xs.length - (k + 1)) Jh.d) := by have := hst.out; rw [HSET.out] at this; exact this
   have HST := zh hst2
   clear hst hst2 hT hT2 hO2 r9 r0 hrow hO hput hown hbel b2 ow b3 hLl hLc hFj
   go_wp2
   go_roundw
   case rel => exact ⟨k + 1, by omega, by go_num, HST.out, B3.out⟩
   case measure => simp [intOf]; omega
  ·
   obtain rfl : k = xs.length := by omega
   have HE : Hid (xs.take xs.length ++ List.replicate (xs.length - xs.length) Jh.d = xs) := zh (by simp)
   rw [HE.out] at hown
   go_wp2
   go_ret
   exact ⟨_, rfl, hown, hbel⟩
set_option maxHeartbeats 2000000 in
theorem copyVersions_X (v : Value) (xs : List (Int × List Int × Int × Int)) (w : World) (h : Ko Jh w v xs) (hs : zL Jh xs ≤ 1048576) :
  Calls Tryz.prog 214 #[v] w (FreshE 212 Jh w xs) := by
 have H := zh (fun w h => copyEachVersionX v xs w h hs)
 have HV := zh h
 clear h hs
 go_enter Tryz.func214, Tryz.ntmps214
 go_wp2_with fail
 refine (H.out _ HV.out).mono ?_
 rintro e w1 ⟨u, rfl, o1, b1⟩
 go_wp2
 go_ret
 exact ⟨_, rfl, o1, b1⟩
def FreshSX (w : World) (ss : List (List Kj)) (now : Int) (e : Ending) (w' : World) : Prop := ∃ (a : Option Addr) (c : Nat), e = .returned (.agg #[.slice a ss.length c, .int .i64 now]) ∧ Kp 213 tX w' (Kw w) (.slice a ss.length c) ss ∧ Below w w w'
set_option maxHeartbeats 8000000 in
theorem copyEachVersionSX (v : Value) (xs : List (List (Int × List Int × Int × Int))) (w : World) (h : Ko Jd w v xs) (hs : zL Jd xs ≤ 1048576) :
  Calls Tryz.prog 213 #[v, .func (.func 214) #[] #[]] w (Xg 213 tX w xs) := by
 obtain ⟨i0, hi, hz0, hz1⟩ : ∃ i0, Tryz.prog.info? 213 = some i0 ∧ i0.zero = some (.slice none 0 0) ∧ i0.size = 1 := by
  have h0 := Tryz.info_VersionS
  cases q : Tryz.prog.info? 213 with
  | none => rw [q] at h0; simp at h0
  | some i => rw [q] at h0; simp only [Option.map_some, Option.some.injEq, Prod.mk.injEq] at h0; exact ⟨i, rfl, h0.1, h0.2⟩
 have hz2 : i0.bytes ≤ 512 := by
  have h0 := Tryz.bytes_VersionS
  rw [hi] at h0
  simpa using h0
 have HI := zh hi; have HZ0 := zh hz0; have HZ1 := zh hz1; have HZ2 := zh hz2
 clear hi hz0 hz1 hz2
 have H := zh h
 have hlen := Jz hs
 have HS := zh hs
 obtain ⟨a, cap, rfl⟩ := Jl h
 clear h hs
 go_enter Tryz.func213, Tryz.ntmps213
 go_wp2_with (at_make; refine wpList_make_full _ rfl (.tmp 9) (.tmp 9) 33 rfl w.heap.size 213 i0 () 1 Tryz.underlying33 HI.out HZ0.out HZ1.out _ _ _ _ xs.length rfl rfl rfl rfl (by have h9 := Nat.mul_le_mul HZ2.out hlen; have h8 := Nat.mul_le_mul hlen HZ2.out; omega) (by unfold maxLen; omega) (Ii _) ?_)
 intro w1 hown0 hg0
 have hown1 : Kp 213 tX w1 (Kw w) (.slice (some ⟨w, 0, none⟩) xs.length xs.length) (List.replicate xs.length Jd.d) := Yz (z := #[.slice none 0 0]) tX_law rfl (tX_zero w1) (Ii _) (by rw [show xs.length * tX.n = xs.length from Nat.mul_one _]; exact hown0)
 have hbel1 := (Il w.heap.size w).grown hg0 (Ii _) (fun k hk => by cases hk)
 clear hown0 hg0
 go_wp2
 go_loopw [13] (fun i wr => ∃ k : Nat, k ≤ xs.length ∧ i = .int .i64 k ∧ Kp 213 tX wr (Kw w) (.slice (some ⟨w, 0, none⟩) xs.length xs.length) (xs.take k ++ List.replicate (xs.length - k) Jd.d) ∧ Below w w wr) (fun i _ => xs.length - (intOf i).toNat)
 case atStart => exact ⟨0, Ij _, rfl, by simpa using hown1, hbel1⟩
 case round =>
  obtain ⟨k, hk, rfl, hown, hbel⟩ := hrel
  by_cases hlt : k < xs.length
  ·
   have HSET := zh (Xb (d := Jd.d) hlt)
   have HKL : Hid (k < (xs.take k ++ List.replicate (xs.length - k) Jd.d).length) := zh (by rw [Xn hk]; exact hlt)
   have HLL := zh (Xn (d := Jd.d) hk)
   have i1 : (0 : Int) ≤ (k : Int) := by omega
   have i2 : (k : Int) < (xs.length : Int) := by omega
   have hzx := Vj HS.out hlt
   obtain ⟨b, off, cap', cs, hv, hbl, hcs, hR⟩ := Ku (Jb Jf H.out hbel) hlt
   simp only [Ik] at hv
   obtain ⟨rfl, _, rfl⟩ := hv
   obtain ⟨hme, hFg, hgl, cj, Fj, Lc, hrow, hLc, hO, hFj, hput⟩ := Eb tX_law hown HKL.out
   clear hme
   clear hown1 hbel1
   generalize xs.getD k Jd.d = x at *
   generalize xs.take k ++ List.replicate (xs.length - k) Jd.d = ys at *
   obtain ⟨u, rfl, h0⟩ := hR
   have p0 : wr.cell? ⟨b, off + k, none⟩ = some u := by have := hcs 0 Nat.one_pos; rw [show Jd.n = 1 from rfl, Nat.mul_one, Nat.add_zero] at this; exact this
   have HC := zh (fun w g => copyVersions_X u x w g hzx)
   have G0 := zh h0
   clear hcs h0
   go_wp2_with fail
   refine (HC.out _ G0.out).mono ?_
   rintro e w2 ⟨g2, rfl, ow0, b2⟩
   replace ow0 := Kn Jp ow0
   have ow : tX.O w2 (fun b => Kw wr b ∧ b < w2.heap.size) [.slice (some ⟨g2, 0, none⟩) x.length x.length] x := ⟨_, rfl, ow0⟩
   have r0 := Ym (G := fun _ => False) hrow (Yo b2) (fun _ _ => not_false)
   rw [HLL.out] at r0
   have q0 : ∃ x, w2.cell? ⟨w, k, none⟩ = some x := zq r0 (k) (by have := HKL.out; rw [HLL.out] at this; show _ < xs.length * 1; omega)
   obtain ⟨y0, q0⟩ := q0
   have f0 := World.ownsRow.frozenAt r0 (k)
   have b3 := hbel.trans (b2.mono hbel.size)
   have B3 := zh (b3.setCell (p := ⟨w, k, none⟩) (Ii _) (.slice (some ⟨g2, 0, none⟩) x.length x.length))
   have hT : Kb (fun b => b = w.heap.size ∨ Fj b ∨ wr.heap.size ≤ b) wr (w2.setCell ⟨w, k, none⟩ (.slice (some ⟨g2, 0, none⟩) x.length x.length)) := ((Yo b2).trans (Jm (j := k) (u := .slice (some ⟨g2, 0, none⟩) x.length x.length) (Or.inl rfl)))
   have hT2 : Kb (fun b => b = w.heap.size) w2 (w2.setCell ⟨w, k, none⟩ (.slice (some ⟨g2, 0, none⟩) x.length x.length)) := ((Kb.refl (fun b => b = w.heap.size) _).trans (Jm (G := fun b => b = w.heap.size) (j := k) (u := .slice (some ⟨g2, 0, none⟩) x.length x.length) rfl))
   have hO2 := tX_law.turn ow hT2 (fun b h1 h2 => by have := h1.1; simp only [Kw] at this; omega)
   have r9 := (World.ownsRow.stored r0 (k) (.slice (some ⟨g2, 0, none⟩) x.length x.length)).1
   have hLl : Lc.length = xs.length * 1 := r0.1
   have hst := zh (hput (w2.setCell ⟨w, k, none⟩ (.slice (some ⟨g2, 0, none⟩) x.length x.length)) (Lc.set (k) (.slice (some ⟨g2, 0, none⟩) x.length x.length)) [.slice (some ⟨g2, 0, none⟩) x.length x.length] _ x (by rw [HLL.out]; exact r9) (fun p hp => by have hp2 : p < k * 1 ∨ k * 1 + 1 ≤ p := hp; rw [Ig (by omega)]) (fun i hi => by have hi2 : i < 1 := hi; obtain rfl : i = 0 := (by omega); have e0 : k * tX.n + 0 = k := (by show k * 1 + 0 = k; omega); rw [e0]; exact List.getElem?_set_self (by omega)) hO2 (fun b hb => ⟨Nat.le_trans hbel.size hb.1, Or.inr hb.1⟩) hT)
   have hst2 : Kp 213 tX (w2.setCell ⟨w, k, none⟩ (.slice (some ⟨g2, 0, none⟩) x.length x.length)) (Kw w) (.slice (some ⟨w, 0, none⟩) xs.length xs.length) (xs.take (k + 1) ++ List.replicate (xs.length - (k + 1)) Jd.d) := by have := hst.out; rw [HSET.out] at this; exact this
   have HST := zh hst2
   clear hst hst2 hT hT2 hO2 r9 r0 hrow hO hput hown hbel b2 ow b3 hLl hLc hFj
   go_wp2
   go_roundw
   case rel => exact ⟨k + 1, by omega, by go_num, HST.out, B3.out⟩
   case measure => simp [intOf]; omega
  ·
   obtain rfl : k = xs.length := by omega
   have HE : Hid (xs.take xs.length ++ List.replicate (xs.length - xs.length) Jd.d = xs) := zh (by simp)
   rw [HE.out] at hown
   go_wp2
   go_ret
   exact ⟨_, rfl, hown, hbel⟩
set_option maxHeartbeats 8000000 in
theorem copyStore_X (a1 : Int) (v0 : Value) (x0 : List (List (Int × List Int × Int × Int))) (w : World) (h0 : Ko Jd w v0 x0) (s0 : zL Jd x0 ≤ 1048576) :
  Calls Tryz.prog 157 #[.agg #[v0, a1]] w (FreshSX w x0 a1) := by
 obtain ⟨sa0, sc0, rfl⟩ := Jl h0
 have H := zh (fun w h => copyEachVersionSX (.slice sa0 x0.length sc0) x0 w h s0)
 have HV := zh h0
 clear h0 s0
 have d := zh (((Il w.heap.size w).alloc (Ii _) (.cells #[.slice sa0 x0.length sc0, a1] 35)).alloc (by simp) (.cells #[(), Ja] 35))
 have B0 : Hid (((w.alloc (.cells #[.slice sa0 x0.length sc0, a1] 35)).alloc (.cells #[(), Ja] 35)).heap[w.heap.size]? = some (.cells #[.slice sa0 x0.length sc0, a1] 35 (0, 0))) := zh (by rw [Below.heap_alloc _ _ _ (by simp)]; exact Ic w _)
 have B1 : Hid (((w.alloc (.cells #[.slice sa0 x0.length sc0, a1] 35)).alloc (.cells #[(), Ja] 35)).heap[(w.heap.size + 1)]? = some (.cells #[(), Ja] 35 (0, 0))) := zh (by
  have := Ic (w.alloc (.cells #[.slice sa0 x0.length sc0, a1] 35)) (.cells #[(), Ja] 35)
  simpa only [Ie] using this)
 have YW : Hid (w.heap.size + 1 < ((w.alloc (.cells #[.slice sa0 x0.length sc0, a1] 35)).alloc (.cells #[(), Ja] 35)).heap.size) := zh (by simp)
 go_enter Tryz.func157, Tryz.ntmps157
 go_wp2_with fail
 generalize ((w.alloc (.cells #[.slice sa0 x0.length sc0, a1] 35)).alloc (.cells #[(), Ja] 35)) = W at *
 refine (H.out W (Jb Jf HV.out d.out)).mono ?_
 rintro e w1 ⟨u, rfl, o1, c1⟩
 replace o1 := Kn tX_law o1
 obtain ⟨ua, uc, rfl⟩ := Ju o1
 replace B0 := zb c1 B0
 replace B1 := zb c1 B1
 have P1 := zh o1
 have y0 := YW.out; have yc := c1.size
 have Q1 : Hid (∀ b, (Kw W b ∧ b < w1.heap.size) → w.heap.size + 1 < b) := zh (fun b h => Nat.lt_of_lt_of_le y0 h.1)
 replace d := zD d c1
 replace YW : Hid (w.heap.size + 1 < w1.heap.size) := zh (Nat.lt_of_lt_of_le y0 yc)
 clear o1 c1 y0 yc
 have p0 := cr 0 (Value.slice sa0 x0.length sc0) B0.out
 have f0 := Ez w1 _ 0 _ _ B0.out
 have tt : Kb (fun b => b = w.heap.size) w1 (w1.setCell ⟨w, 0, none⟩ (.slice ua x0.length uc)) := Jm (G := fun b => b = w.heap.size) (g := w.heap.size) (j := 0) (u := .slice ua x0.length uc) rfl
 have r := Ib w1 w.heap.size 0 _ _ (.slice ua x0.length uc) B0.out
 simp at r
 have y1 := YW.out
 have K0 : Hid ((w1.setCell ⟨w, 0, none⟩ (.slice ua x0.length uc)).heap[w.heap.size]? = some (.cells #[.slice ua x0.length uc, a1] 35 (0, 0))) := zh r
 have K1 := zh ((tt.block (w.heap.size + 1) (Array.getElem?_eq_some_iff.1 B1.out).1 (fun h => by omega)).trans B1.out)
 have KP1 := zt tX_law P1 tt (fun b h1 h2 => by have := Q1.out b h1; omega)
 have kd := zh (Js d.out tt (fun b h => by omega) d.out.size)
 have KY : Hid (w.heap.size + 1 < (w1.setCell ⟨w, 0, none⟩ (.slice ua x0.length uc)).heap.size) := zh (Nat.lt_of_lt_of_le y1 tt.size)
 clear tt r y1 B0 B1 d YW P1
 generalize hW : (w1.setCell ⟨w, 0, none⟩ (.slice ua x0.length uc)) = WF at *
 have c0 := cr 0 (Value.slice ua x0.length uc) K0.out
 have c1 := cr 1 a1 K0.out
 have z0 := cr 0 () K1.out
 have g0 := Ez WF _ 0 _ _ K1.out
 have z1 := cr 1 Ja K1.out
 have g1 := Ez WF _ 1 _ _ K1.out
 have y1 := KY.out
 have DF := zh ((kd.out.setCell (p := ⟨w.heap.size + 1, 0, none⟩) (by simp) (.slice ua x0.length uc)).setCell (p := ⟨w.heap.size + 1, 1, none⟩) (by simp) a1)
 have r := st2 K1.out (.slice ua x0.length uc) a1
 try simp at r
 have e0 := (Ia _ (w.heap.size + 1) 0 _ _ _ r).trans (show _ = some (Value.slice ua x0.length uc) from rfl)
 have e1 := (Ia _ (w.heap.size + 1) 1 _ _ _ r).trans (show _ = some (Value.int .i64 a1) from rfl)
 have tt := ts2 WF (w.heap.size + 1) (.slice ua x0.length uc) a1
 have PF1 := zt tX_law KP1 tt (fun b h1 h2 => by have := Q1.out b h1; omega)
 clear r tt KY K1 kd y1 K0 KP1
 subst hW
 go_wp2
 refine bodyPost_ret (v := .agg #[.slice ua x0.length uc, a1]) ?_ rfl ⟨ua, uc, rfl, Ky PF1.out (fun b h => by have := Q1.out b h; show w.heap.size ≤ b; omega), DF.out⟩
 simp [results, Tryz.f157, go_sem, e0, e1]
theorem ls_X {w : World} {F : Nat → Prop} {v : Value} {ss : List (List Kj)} (h : Kp 213 tX w F v ss) :
  ∃ (us : List SegV) (Fs : Nat → Nat → Prop), LsR w v us ∧ SegsR w us ss ∧ (∀ j, j < ss.length → Kp 212 Jh w (Fs j) (cutV (us.getD j s0V)) (ss.getD j []) ∧ ∀ b, Fs j b → F b ∧ b < w.heap.size) ∧ ∀ i j, i < ss.length → j < ss.length → i ≠ j → ∀ b, Fs i b → ¬ Fs j b := by
 obtain ⟨us, hls, hsr⟩ := slR_ls (Up Jf (slO_X h))
 obtain ⟨cs, Fs, he, hd⟩ := slO_each tX_law h
 refine ⟨us, Fs, hls, hsr, fun j hj => ⟨?_, (he j hj).2.1⟩, hd⟩
 obtain ⟨b, off, cap, hv, _, hc, _⟩ := lsR_at hls (k := j) (by rw [hsr.1]; exact hj)
 rcases Xi h with ⟨_, e0⟩ | ⟨g, cap', hg, _, _⟩
 ·
  rw [e0] at hj; simp at hj
 ·
  obtain ⟨h1, _, h3⟩ := he j hj
  obtain ⟨a, e, h2⟩ := h1
  rw [hg] at hv
  simp only [Ik, Option.some.injEq, Addr.mk.injEq] at hv
  obtain ⟨⟨rfl, rfl, _⟩, _, _⟩ := hv
  have h4 := h3 g _ _ hg 0 (by decide)
  rw [show tX.n = 1 from rfl, Nat.mul_one, Nat.add_zero, e] at h4
  rw [Nat.zero_add, h4] at hc
  have h5 : Value.slice a (ss.getD j []).length (ss.getD j []).length = segV (us.getD j s0V) := Option.some.inj hc
  have h6 : cutV (us.getD j s0V) = Value.slice a (ss.getD j []).length (ss.getD j []).length := by
   unfold segV at h5
   unfold cutV
   simp only [Ik] at h5
   obtain ⟨q1, q2, q3⟩ := h5
   rw [← q1, ← q2]
  rw [h6]
  exact h2
theorem tab_of {w0 w : World} {F : Nat → Prop} {B g : Nat} {bs : List Nat} {us : List SegV} {ss : List (List Kj)} {Fs : Nat → Nat → Prop} (ho : w.ownsRow B 264 1 (.slice (some ⟨g, 0, none⟩) us.length us.length) us.length (bs.map Un)) (ht : TabN B w g bs us) (hl : us.length = ss.length)
  (hX : ∀ j, j < ss.length → Kp 212 Jh w0 (Fs j) (cutV (us.getD j s0V)) (ss.getD j []) ∧ ∀ b, Fs j b → F b ∧ b < w0.heap.size) (hd : ∀ i j, i < ss.length → j < ss.length → i ≠ j → ∀ b, Fs i b → ¬ Fs j b) (hb : Below w0 w0 w) (hB : w0.heap.size ≤ B) :
  Kp 264 tSegP w (fun b => (F b ∧ b < w0.heap.size) ∨ B ≤ b) (.slice (some ⟨g, 0, none⟩) ss.length ss.length) ss := by
 obtain ⟨h1, h2, h3, h4, h5⟩ := ht
 rw [hl] at ho h3 h4 h5
 refine ⟨bs.map Un, fun j => [Un (bs.getD j 0)], fun j b => b = bs.getD j 0 ∨ Fs j b, row_low ho (Ij _), fun b hb => ?_, fun j hj => ?_, fun i j hi hj hij b q1 q2 => ?_⟩
 ·
  simp [Value.ownBlock] at hb; right; omega
 ·
  obtain ⟨_, g2, g3⟩ := h4 j hj
  obtain ⟨x1, x2⟩ := hX j hj
  refine ⟨fun i hi => ?_, ⟨bs.getD j 0, cutV (us.getD j s0V), Fs j, rfl, Or.inl rfl, g2, Yi Jp x1 hb, fun k q => Or.inr q, fun q => by have := (x2 _ q).2; omega⟩, fun b hb => ?_⟩
  ·
   have hi0 : i = 0 := by have : i < 1 := hi; omega
   subst hi0
   rw [show tSegP.n = 1 from rfl, Nat.mul_one, Nat.add_zero, List.getElem?_map]
   simp [List.getD, show j < bs.length by omega]
  ·
   rcases hb with rfl | hb
   ·
    refine ⟨Or.inr (by omega), fun q => ?_⟩
    simp only [Value.ownBlock, Option.some.injEq] at q
    omega
   ·
    refine ⟨Or.inl (x2 b hb), fun q => ?_⟩
    simp only [Value.ownBlock, Option.some.injEq] at q
    have := (x2 b hb).2
    omega
 ·
  obtain ⟨_, _, gi⟩ := h4 i hi
  obtain ⟨_, _, gj⟩ := h4 j hj
  rcases q1 with q1 | q1 <;> rcases q2 with q2 | q2
  ·
   exact h5 i j hi hj hij (by rw [← q1, ← q2])
  ·
   have := ((hX j hj).2 b q2).2; omega
  ·
   have := ((hX i hi).2 b q1).2; omega
  ·
   exact hd i j hi hj hij b q1 q2
def CheckNO (w : World) (us : List SegV) (e : Ending) (w' : World) : Prop := ∃ g bs, e = .returned (.tuple #[.slice (some ⟨g, 0, none⟩) us.length us.length, .bool true]) ∧ w'.ownsRow w.heap.size 264 1 (.slice (some ⟨g, 0, none⟩) us.length us.length) us.length (bs.map Un) ∧ TabN w.heap.size w' g bs us ∧ Below w w w'
set_option maxHeartbeats 8000000 in
theorem checkStore_own (sv : Value) (ss : List (List Kj)) (now : Int) (us : List SegV) (w : World) (h : Ko Jd w sv ss) (hs : zL Jd ss ≤ 1048576) (hst : Yb ss now = true) (hls : LsR w sv us) (hsr : SegsR w us ss) :
  Calls Tryz.prog 222 #[.agg #[sv, .int .i64 now]] w (CheckNO w us) := by
 have HUL := zh hsr.1
 obtain ⟨a, cap, rfl⟩ := Jl h
 have hlen := Jz hs
 have HSS := zh hs
 have H := zh h
 have HLS := zh hls
 have HSR := zh hsr
 have d0 := zh (show Below w w (w.alloc (.cells #[.slice a ss.length cap, .int .i64 now] 35)) from (Il _ _).alloc (Ii _) _)
 have B0 : Hid ((w.alloc (.cells #[.slice a ss.length cap, .int .i64 now] 35)).heap[w.heap.size]? = some (.cells #[.slice a ss.length cap, .int .i64 now] 35 (0, 0))) := zh (Ic w _)
 have Y0 : Hid (w.heap.size < (w.alloc (.cells #[.slice a ss.length cap, .int .i64 now] 35)).heap.size) := zh (by simp [Ie])
 have HI := zh (fun W g => implIsStore (.slice a ss.length cap) ss now W g HSS.out)
 rw [hst] at HI
 clear hls hsr h hs hst
 go_enter Tryz.func222, Tryz.ntmps222
 go_wp2_with fail
 generalize w.alloc (.cells #[.slice a ss.length cap, .int .i64 now] 35) = W at *
 refine (HI.out W (Jb Jf H.out d0.out)).mono ?_
 rintro e w1 ⟨rfl, b1⟩
 have D1 := zh (d0.out.trans (b1.mono d0.out.size))
 have k0 := (b1.block w.heap.size Y0.out).trans B0.out
 have p0 := cr 0 (Value.slice a ss.length cap) k0
 clear b1 k0
 go_wp2_with fail
 refine (tableOf_own (.slice a ss.length cap) us w1 (lsR_below HLS.out D1.out) (by have := HUL.out; omega)).mono ?_
 rintro e w2 ⟨g, bs, rfl, ho, ht, b2⟩
 have HO : Hid (w2.ownsRow w.heap.size 264 1 (.slice (some ⟨g, 0, none⟩) us.length us.length) us.length (bs.map Un)) := zh (by
  refine ⟨ho.1, ?_⟩
  rcases ho.2 with q | ⟨g9, cap9, cur9, e9, hb9, rest9⟩
  ·
   exact .inl q
  ·
   exact .inr ⟨g9, cap9, cur9, e9, Nat.le_trans D1.out.size hb9, rest9⟩)
 have D2 := zh (D1.out.trans (b2.mono D1.out.size))
 have HT := zh ht
 clear ho ht b2 p0
 go_wp2
 go_ret2
 exact ⟨g, bs, rfl, HO.out, ⟨Nat.le_trans D1.out.size HT.out.1, HT.out.2⟩, D2.out⟩
theorem short_segs {ss : List (List Kj)} {now : Int} (h : Yb ss now = true) : ss.length ≤ 1048576 ∧ ∀ j, j < ss.length → (ss.getD j []).length ≤ 1048576 := by
 obtain ⟨⟨h1, _⟩, h2, _⟩ := store_iff h
 exact ⟨by omega, fun j hj => by have := h2 j hj; omega⟩
theorem anyT_yes {f : Int → Bool} {l : List Int} {j : Nat} (hj : j < l.length) (h : f (l.getD j 0) = true) : l.any f = true := by
 rw [List.any_eq_true]
 have e : l.getD j 0 = l[j] := by simp [List.getD, hj]
 exact ⟨l[j], List.getElem_mem _, by rw [← e]; exact h⟩
theorem anyT_no {f : Int → Bool} {l : List Int} (h : ∀ j, j < l.length → f (l.getD j 0) = false) : l.any f = false := by
 rw [List.any_eq_false]
 intro y hy
 obtain ⟨j, hj, rfl⟩ := List.getElem_of_mem hy
 have := h j hj
 have e : l.getD j 0 = l[j] := by simp [List.getD, hj]
 rw [e] at this
 rw [this]; simp
set_option maxHeartbeats 16000000 in
theorem needClos (id born died t : Int) (va : Option Addr) (n vc B : Nat) (w : World) (h : w.heap[B]? = some (.cells #[.int .i64 id, .slice va n vc, .int .i64 born, .int .i64 died] 212 (0, 0))) :
  Calls Tryz.prog 274 #[.int .i64 t, .pointer (some ⟨B, 0, none⟩)] w fun e w' => e = .returned (.bool (decide (Uz born died t))) ∧ Below w w w' := by
 have HV := zh (fun W => implVisible id born died t (.slice va n vc) W)
 have c0 := cr 0 (Value.int .i64 id) h
 have c1 := cr 1 (Value.slice va n vc) h
 have c2 := cr 2 (Value.int .i64 born) h
 have c3 := cr 3 (Value.int .i64 died) h
 clear h
 go_enter Tryz.func274, Tryz.ntmps274
 go_wp2_with fail
 refine (HV.out _).mono ?_
 rintro e w1 ⟨rfl, b1⟩
 clear c0 c1 c2 c3 HV
 go_wp2
 go_ret
 exact ⟨rfl, b1⟩
set_option maxHeartbeats 16000000 in
theorem needIndex (kv : Value) (keep : List Int) (id born died : Int) (va : Option Addr) (n vc B : Nat) (w : World) (h : Ko Je w kv keep) (hs : keep.length ≤ 1048576) (hB : w.heap[B]? = some (.cells #[.int .i64 id, .slice va n vc, .int .i64 born, .int .i64 died] 212 (0, 0))) :
  Calls Tryz.prog 282 #[kv, .func (.func 274) #[] #[.pointer (some ⟨B, 0, none⟩)]] w fun e w' => (∃ r : Int, e = .returned (.int .i64 r) ∧ decide (0 ≤ r) = keep.any (fun t => decide (Uz born died t))) ∧ Below w w w' := by
 have H := zh h
 obtain ⟨a, cap, rfl⟩ := Jl h
 have BB := zh hB
 clear h hB
 go_enter Tryz.func282, Tryz.ntmps282
 go_wp2
 go_loopw [8] (fun i wr => ∃ k : Nat, k ≤ keep.length ∧ i = .int .i64 k ∧ Hid (∀ j, j < k → decide (Uz born died (keep.getD j 0)) = false) ∧ Below w w wr) (fun i _ => keep.length - (intOf i).toNat)
 case atStart => exact ⟨0, Ij _, rfl, zh (fun j hj => by omega), Il _ _⟩
 case round =>
  obtain ⟨k, hk, rfl, hall, hbel⟩ := hrel
  by_cases hlt : k < keep.length
  ·
   have i1' : (0 : Int) ≤ (k : Int) := by omega
   have i2' : (k : Int) < (keep.length : Int) := by omega
   obtain ⟨b, off, cap', cs, hv, hbl, hcs, hR⟩ := Ku H.out hlt
   simp only [Ik] at hv
   obtain ⟨rfl, _, rfl⟩ := hv
   have hR2 : cs = [.int .i64 (keep.getD k 0)] := hR
   have q0 := hcs 0 (by decide)
   rw [show Je.n = 1 from rfl, Nat.mul_one, Nat.add_zero, hR2] at q0
   have c0 := (hbel.cell (p := ⟨b, off + k, none⟩) hbl).trans (q0.trans (show _ = some (Value.int .i64 (keep.getD k 0)) from rfl))
   have HYS := zh (fun g => anyT_yes (f := fun t => decide (Uz born died t)) hlt g)
   have HNO : Hid (decide (Uz born died (keep.getD k 0)) = false → ∀ j, j < k + 1 → decide (Uz born died (keep.getD j 0)) = false) := zh (fun g j hj => by
    by_cases e : j = k
    ·
     rw [e]; exact g
    ·
     exact hall.out j (by omega))
   have d := zh hbel
   have HC := zh (needClos id born died (keep.getD k 0) va n vc B wr ((hbel.block B (Array.getElem?_eq_some_iff.1 BB.out).1).trans BB.out))
   clear hall hbel hcs hR hR2 q0
   generalize keep.getD k 0 = y at *
   cases hse : decide (Uz born died y) with
   | true =>
    have HT := zh (HYS.out hse)
    rw [hse] at HC
    clear hse HYS HNO
    go_wp2_with fail
    refine HC.out.mono ?_
    rintro e w2 ⟨rfl, b2⟩
    have d2 := zh (d.out.trans (b2.mono d.out.size))
    clear b2 c0 d HC
    go_wp2
    go_ret
    exact ⟨⟨_, rfl, by rw [HT.out]; exact decide_eq_true i1'⟩, d2.out⟩
   | false =>
    have HN := zh (HNO.out hse)
    rw [hse] at HC
    clear hse HYS HNO
    go_wp2_with fail
    refine HC.out.mono ?_
    rintro e w2 ⟨rfl, b2⟩
    have d2 := zh (d.out.trans (b2.mono d.out.size))
    clear b2 c0 d HC
    go_wp2
    go_roundw
    case rel => exact ⟨k + 1, by omega, by go_num, HN, d2.out⟩
    case measure => simp [intOf]; omega
  ·
   obtain rfl : k = keep.length := by omega
   have HF := zh (anyT_no (f := fun t => decide (Uz born died t)) hall.out)
   clear hall
   go_wp2
   go_ret
   exact ⟨⟨-1, rfl, by rw [HF.out]; rfl⟩, hbel⟩
set_option maxHeartbeats 16000000 in
theorem needContains (kv : Value) (keep : List Int) (id born died : Int) (va : Option Addr) (n vc B : Nat) (w : World) (h : Ko Je w kv keep) (hs : keep.length ≤ 1048576) (hB : w.heap[B]? = some (.cells #[.int .i64 id, .slice va n vc, .int .i64 born, .int .i64 died] 212 (0, 0))) :
  Calls Tryz.prog 273 #[kv, .func (.func 274) #[] #[.pointer (some ⟨B, 0, none⟩)]] w fun e w' => e = .returned (.bool (keep.any (fun t => decide (Uz born died t)))) ∧ Below w w w' := by
 have HC := zh (needIndex kv keep id born died va n vc B w h hs hB)
 clear h hs hB
 go_enter Tryz.func273, Tryz.ntmps273
 go_wp2_with fail
 refine HC.out.mono ?_
 rintro e w1 ⟨⟨r, rfl, hr⟩, b1⟩
 have HR := zh hr
 clear hr
 go_wp2
 go_ret
 exact ⟨Jy (by rw [← HR.out]), b1⟩
set_option maxHeartbeats 16000000 in
theorem isNeeded_any (id born died : Int) (va : Option Addr) (vc : Nat) (xs : List Int) (kv : Value) (keep : List Int) (w : World) (h : Ko Je w kv keep) (hs : keep.length ≤ 1048576) :
  Calls Tryz.prog 250 #[.agg #[.int .i64 id, .slice va xs.length vc, .int .i64 born, .int .i64 died], kv] w fun e w' => e = .returned (.bool (needB keep (id, xs, born, died))) ∧ Below w w w' := by
 have hal : Below w w (w.alloc (.cells #[.int .i64 id, .slice va xs.length vc, .int .i64 born, .int .i64 died] 212)) := (Il _ _).alloc (Ii _) _
 have d := zh hal
 have hB := Ic w (.cells #[.int .i64 id, .slice va xs.length vc, .int .i64 born, .int .i64 died] 212)
 have HC := zh (needContains kv keep id born died va xs.length vc w.heap.size _ (Jb Jc h hal) hs hB)
 have c3 := cr 3 (Value.int .i64 died) hB
 have hmf : ∀ (fn : Fn) (first cap : Array Value) (w : World), (Instr.makeFunc fn first cap).run Tryz.prog w = .ok (.func fn first cap) w := fun _ _ _ _ => rfl
 obtain ⟨a, cap, rfl⟩ := Jl h
 have e : needB keep (id, xs, born, died) = (decide (died = -1) || keep.any (fun t => decide (Uz born died t))) := rfl
 rw [e]
 clear hal hB h e
 by_cases hdd : died = -1
 ·
  subst hdd
  clear HC hmf
  go_enter Tryz.func250, Tryz.ntmps250
  go_wp2
  go_ret
  exact ⟨Jy (by simp), d.out⟩
 ·
  rw [decide_eq_false hdd, Bool.false_or]
  go_enter Tryz.func250, Tryz.ntmps250
  go_wp2_with fail
  generalize w.alloc (.cells #[.int .i64 id, .slice va xs.length vc, .int .i64 born, .int .i64 died] 212) = W at *
  refine HC.out.mono ?_
  rintro e w1 ⟨rfl, b1⟩
  have D1 := zh (d.out.trans (b1.mono d.out.size))
  clear b1 c3 d HC hmf
  go_wp2
  go_ret
  exact ⟨Jy (by simp [hdd]), D1.out⟩
def Reclaimed (w : World) (b : Nat) (F1 : Nat → Prop) (ys : List Kj) (e : Ending) (w' : World) : Prop := ∃ u', e = .returned (.tuple #[]) ∧ w'.heap[b]? = some (segCells u') ∧ Kp 212 Jh w' (fun q => F1 q ∨ w.heap.size ≤ q) u' ys ∧ Kb (fun q => q = b) w w'
set_option maxHeartbeats 16000000 in
theorem reclaim_any (b : Nat) (F1 : Nat → Prop) (u kv : Value) (l : List Kj) (keep : List Int) (w : World) (hb : w.heap[b]? = some (segCells u)) (hu : Kp 212 Jh w F1 u l) (hnb : ¬ F1 b) (hn : l.length ≤ 1048576) (hk : Ko Je w kv keep) (hkn : keep.length ≤ 1048576) :
  Calls Tryz.prog 223 #[Un b, kv] w (Reclaimed w b F1 (Xa keep l)) := by
 obtain ⟨us, Fs, he, hd⟩ := slO_each Jp hu
 have HFORM := zh (Xi hu)
 obtain ⟨ua, uc, rfl⟩ := Ju hu
 have HE := zh he
 have HKO := zh (fun (w1 : World) (pv : Value) (h : Kp 212 (Ub 4) w1 (fun b => w.heap.size ≤ b) pv ((Vp keep l l.length).map us)) (hb : Below w w w1) => kept_own (u := .bool false) (Fj := F1) h (fun j hj => ⟨(he j hj).1, (he j hj).2.1⟩) hd hb)
 have BS := zh hb
 have HNE := zh (fun W id born died va vc xs (g : Below w w W) => isNeeded_any id born died va vc xs kv keep W (Jb Jc hk g) hkn)
 have HNB := zh hnb
 obtain ⟨ka, kc, rfl⟩ := Jl hk
 have p0 := (Ia w b 0 _ _ _ hb).trans (show _ = some (Value.slice ua l.length uc) from rfl)
 clear hu he hd hb hnb hk
 unfold Un
 go_enter Tryz.func223, Tryz.ntmps223
 go_wp2
 clear p0
 go_loopw [4, 12] (fun nv i wr => ∃ k : Nat, k ≤ l.length ∧ i = .int .i64 k ∧ Kp 212 (Ub 4) wr (fun q => w.heap.size ≤ q) nv ((Vp keep l k).map us) ∧ Below w w wr) (fun _ i _ => l.length - (intOf i).toNat)
 case atStart => exact ⟨0, Ij _, rfl, Ya _ _ _ _, Il _ _⟩
 case round =>
  obtain ⟨k, hkl, rfl, hown, hbel⟩ := hrel
  by_cases hlt : k < l.length
  ·
   have i1 : (0 : Int) ≤ (k : Int) := by omega
   have i2 : (k : Int) < (l.length : Int) := by omega
   obtain ⟨g, cap, hg, hgl⟩ : ∃ g cap, Value.slice ua l.length uc = .slice (some ⟨g, 0, none⟩) l.length cap ∧ g < w.heap.size := by
    rcases HFORM.out with ⟨_, e⟩ | ⟨g, cap, e, _, e2⟩
    ·
     rw [e] at hlt; simp at hlt
    ·
     exact ⟨g, cap, e, e2⟩
   simp only [Ik] at hg
   obtain ⟨rfl, _, rfl⟩ := hg
   obtain ⟨h1, _, h3⟩ := HE.out k hlt
   have h4 := h3 g _ _ rfl
   have HKY := zh (fun q => kept_yes (keep := keep) (l := l) (k := k) q)
   have HKN := zh (fun q => kept_no (keep := keep) (l := l) (k := k) q)
   have e3 : l.getD k Jh.d = l.getD k Uq := rfl
   rw [e3] at h1
   generalize l.getD k Uq = x at *
   obtain ⟨id, xs, born, died⟩ := x
   obtain ⟨v1, F2, hcs, hv1, _⟩ := tVersion_O h1
   obtain ⟨xa, xc, rfl⟩ := Ju hv1
   have HUS := zh hcs
   rw [hcs] at h4
   have c0 := (hbel.cell (p := ⟨g, k * 4 + 0, none⟩) hgl).trans (h4 0 (by decide))
   have c1 := (hbel.cell (p := ⟨g, k * 4 + 1, none⟩) hgl).trans (h4 1 (by decide))
   have c2 := (hbel.cell (p := ⟨g, k * 4 + 2, none⟩) hgl).trans (h4 2 (by decide))
   have c3 := (hbel.cell (p := ⟨g, k * 4 + 3, none⟩) hgl).trans (h4 3 (by decide))
   replace c0 := c0.trans (show _ = some (Value.int .i64 id) from rfl)
   replace c1 := c1.trans (show _ = some (Value.slice xa xs.length xc) from rfl)
   replace c2 := c2.trans (show _ = some (Value.int .i64 born) from rfl)
   replace c3 := c3.trans (show _ = some (Value.int .i64 died) from rfl)
   rw [Nat.add_zero] at c0
   have hal : Below wr wr (wr.alloc (.cells #[.int .i64 id, .slice xa xs.length xc, .int .i64 born, .int .i64 died] 212)) := (Il _ _).alloc (Ii _) _
   have BV := zh (Ic wr (.cells #[.int .i64 id, .slice xa xs.length xc, .int .i64 born, .int .i64 died] 212))
   have d := zh (hbel.trans (hal.mono hbel.size))
   obtain ⟨oa, oc, hv⟩ := Ju hown
   obtain ⟨m, hm⟩ : ∃ m, m = (List.map us (Vp keep l k)).length := ⟨_, rfl⟩
   rw [← hm] at hv
   subst hv
   have HM := zh hm
   clear hm
   have OW := zh (Yi (Vs (by decide)) (Kn (Vs (by decide)) hown) hal)
   have HKL := zh (kept_len_le keep l k)
   clear h1 h3 h4 hcs hv1 hown hbel hal e3
   have HNX := zh (HNE.out (wr.alloc (.cells #[.int .i64 id, .slice xa xs.length xc, .int .i64 born, .int .i64 died] 212)) id born died xa xc xs d.out)
   go_wp2_with fail
   generalize wr.alloc (.cells #[.int .i64 id, .slice xa xs.length xc, .int .i64 born, .int .i64 died] 212) = W1 at *
   refine HNX.out.mono ?_
   rintro e w2 ⟨rfl, b2⟩
   replace BV := zb b2 BV
   have OW2 := zh (Yi (Vs (by decide)) OW.out b2)
   have d2 := zh (d.out.trans (b2.mono d.out.size))
   clear OW d b2 HNX c0 c1 c2 c3
   generalize wr.heap.size = R at *
   cases hne : needB keep (id, xs, born, died) with
   | true =>
    have HK1 := zh (HKY.out hne)
    have hal : Below w2 w2 (w2.alloc (.cells #[.int .i64 id, .slice xa xs.length xc, .int .i64 born, .int .i64 died] 212)) := (Il _ _).alloc (Ii _) _
    have BO := zh (Ic w2 (.cells #[.int .i64 id, .slice xa xs.length xc, .int .i64 born, .int .i64 died] 212))
    have OW3 := zh (Ky (Yi (Vs (by decide)) (Kn (Vs (by decide)) OW2.out) hal) (F' := fun q => w.heap.size ≤ q ∧ q < w2.heap.size) (fun q h => ⟨h.1.1, h.2⟩))
    have d3 := zh (d2.out.trans (hal.mono d2.out.size))
    have Y3 : Hid (w2.heap.size < (w2.alloc (.cells #[.int .i64 id, .slice xa xs.length xc, .int .i64 born, .int .i64 died] 212)).heap.size) := zh (by simp [Ie])
    have c0 := cr 0 (Value.int .i64 id) BV.out
    have c1 := cr 1 (Value.slice xa xs.length xc) BV.out
    have c2 := cr 2 (Value.int .i64 born) BV.out
    have c3 := cr 3 (Value.int .i64 died) BV.out
    have Y2 := zh d2.out.size
    clear hne HKY HKN BV hal d2 OW2
    go_wp2_with (at_builtin; refine Xt (Vs (by decide)) (flat_raw 4) Ew Tryz.underlying213 rfl rfl (.tmp 19) (.tmp 21) rfl (fun q => w.heap.size ≤ q ∧ q < w2.heap.size) (fun q => w.heap.size ≤ q) _ _ ((Vp keep l k).map us) [[.int .i64 id, .slice xa xs.length xc, .int .i64 born, .int .i64 died]] rfl rfl OW3.out (raw_one BO.out rfl rfl rfl rfl) (fun b h => h.1) d3.out.size (by have := HKL.out; rw [List.length_map]; simp only [List.length_cons, List.length_nil]; omega) ?_)
    intro v' w4 o4 t4
    clear c0 c1 c2 c3
    have O4 : Hid (Kp 212 (Ub 4) w4 (fun q => w.heap.size ≤ q) v' ((Vp keep l (k + 1)).map us)) := zh (by
     rw [HK1.out, List.map_append, List.map_cons, List.map_nil, HUS.out]; exact o4)
    have D4 := zh (Js d3.out t4 (fun q h => h.1) d3.out.size)
    clear o4 t4 d3 OW3
    go_wp2
    go_roundw
    case rel => exact ⟨k + 1, by omega, by go_num, O4.out, D4.out⟩
    case measure => simp [intOf]; omega
   | false =>
    have O4 : Hid (Kp 212 (Ub 4) w2 (fun q => w.heap.size ≤ q) (.slice oa m oc) ((Vp keep l (k + 1)).map us)) := zh (by
     rw [HKN.out hne]
     exact Ky OW2.out (fun q h => h.1))
    clear hne HKY HKN BV OW2
    go_wp2
    go_roundw
    case rel => exact ⟨k + 1, by omega, by go_num, O4.out, d2.out⟩
    case measure => simp [intOf]; omega
  ·
   obtain rfl : k = l.length := by omega
   have PF := zh (HKO.out wr _ hown hbel)
   obtain ⟨oa, oc, rfl⟩ := Ju hown
   rw [List.length_map, kept_len] at PF
   rw [List.length_map, kept_len]
   have B2 := zh ((hbel.block b (Array.getElem?_eq_some_iff.1 BS.out).1).trans BS.out)
   have p0 := (Ia wr b 0 _ _ _ B2.out).trans (show _ = some (Value.slice ua l.length uc) from rfl)
   have f0 := Ez wr b 0 _ _ B2.out
   have hbl := (Array.getElem?_eq_some_iff.1 BS.out).1
   have tt : Kb (fun q => q = b) wr (wr.setCell ⟨b, 0, none⟩ (.slice oa (Xa keep l).length oc)) := Jm (G := fun q => q = b) (g := b) (j := 0) (u := .slice oa (Xa keep l).length oc) rfl
   have r := Ib wr b 0 _ _ (.slice oa (Xa keep l).length oc) B2.out
   simp at r
   have RR := zh r
   have PE := zt Jp PF tt (fun q h1 h2 => by have r2 : q = b := h2; subst r2; rcases h1 with h3 | h3; exact HNB.out h3; omega)
   have TT := zh ((Yo (G := fun q => q = b) hbel).trans tt)
   clear hown hbel tt r PF
   go_wp2
   refine bodyPost_ret (v := .tuple #[]) ?_ rfl ?_
   ·
    simp [results, Tryz.f223, go_sem]
   ·
    exact ⟨_, rfl, RR.out, PE.out, TT.out⟩
theorem flat_small {ss : List (List Kj)} (hs : zL Jd ss ≤ 1048576) : ss.flatten.length ≤ 1048576 := by
 rw [← zL_all, zL_sum] at hs; omega
theorem rec_zL {ss : List (List Kj)} {now : Int} {keep : List Int} (hst : Yb ss now = true) (hs : zL Jd ss ≤ 1048576) : zL Jd (Vn keep ss) ≤ 1048576 := by
 have r := rec_small (now := now) (keep := keep) hs
 rw [reclaim_yes hst] at r
 change Ks.sz (Vn keep ss, now) ≤ 1048576 at r
 rw [tStore_sz] at r
 exact r
set_option maxHeartbeats 16000000 in
theorem implReclaimStore (now : Int) (sv kv : Value) (ss : List (List Kj)) (keep : List Int) (w : World) (h : Ko Jd w sv ss) (hs : zL Jd ss ≤ 1048576) (g : Ko Je w kv keep) (hkn : keep.length ≤ 1048576) :
  Calls Tryz.prog 169 #[.agg #[sv, .int .i64 now], kv] w (FreshNI w (Xj (ss, now) keep)) := by
 obtain ⟨a, cap, rfl⟩ := Jl h
 have HSL := zh (Jz hs)
 have HZS := zh hs
 have H := zh h
 have G := zh g
 have HKN := zh hkn
 have HC := zh (fun W h => copyStore_X now (.slice a ss.length cap) ss W h hs)
 obtain ⟨ka, kc, rfl⟩ := Jl g
 clear h g hs hkn
 cases hst : Yb ss now with
 | false =>
  have HE : Hid (Xj (ss, now) keep = ((ss, now), 0)) := zh (reclaim_no hst)
  have HST := zh hst
  clear hst
  have d := zh (show Below w w ((w.alloc (.cells #[.slice a ss.length cap, .int .i64 now] 35)).alloc (.cells #[(), Ja] 35)) from ((Il _ _).alloc (Ii _) _).alloc (by simp <;> omega) _)
  have B0 : Hid (((w.alloc (.cells #[.slice a ss.length cap, .int .i64 now] 35)).alloc (.cells #[(), Ja] 35)).heap[w.heap.size]? = some (.cells #[.slice a ss.length cap, .int .i64 now] 35 (0, 0))) := zh (by
   rw [Below.heap_alloc _ _ _ (by simp <;> omega)]; exact Ic w (.cells #[.slice a ss.length cap, .int .i64 now] 35))
  have BZ : Hid (((w.alloc (.cells #[.slice a ss.length cap, .int .i64 now] 35)).alloc (.cells #[(), Ja] 35)).heap[(w.heap.size + 1)]? = some (.cells #[(), Ja] 35 (0, 0))) := zh (by
   have := Ic (w.alloc (.cells #[.slice a ss.length cap, .int .i64 now] 35)) (.cells #[(), Ja] 35)
   simpa only [Ie] using this)
  have YW : Hid (w.heap.size + 1 < ((w.alloc (.cells #[.slice a ss.length cap, .int .i64 now] 35)).alloc (.cells #[(), Ja] 35)).heap.size) := zh (by simp)
  go_enter Tryz.func169, Tryz.ntmps169
  go_wp2_with fail
  generalize ((w.alloc (.cells #[.slice a ss.length cap, .int .i64 now] 35)).alloc (.cells #[(), Ja] 35)) = W at *
  refine (HC.out W (Jb Jf H.out d.out)).mono ?_
  rintro e w4 ⟨fa, fc, rfl, of, c4⟩
  have PF := zh (Kn tX_law of)
  replace B0 := zb c4 B0
  replace BZ := zb c4 BZ
  replace d := zD d c4
  have Z_w4 := zh (show W.heap.size ≤ w4.heap.size from c4.size)
  have QF := zh (fun q (h : Kw W q ∧ q < w4.heap.size) => (show W.heap.size ≤ q ∧ q < w4.heap.size from h))
  clear of c4
  have hal : Below w4 w4 (w4.alloc (.cells #[.slice fa ss.length fc, .int .i64 now] 35)) := (Il _ _).alloc (Ii _) _
  have BX := zh (Ic w4 (.cells #[.slice fa ss.length fc, .int .i64 now] 35))
  have Y_X := zh (show w4.heap.size < (w4.alloc (.cells #[.slice fa ss.length fc, .int .i64 now] 35)).heap.size by simp [Ie])
  replace B0 := zb hal B0
  replace BZ := zb hal BZ
  replace PF := zf tX_law PF hal
  replace d := zD d hal
  clear hal
  have cp_BX_0 := Vl BX.out
  go_wp2_with fail
  clear cp_BX_0
  generalize w4.alloc (.cells #[.slice fa ss.length fc, .int .i64 now] 35) = w5 at *
  refine (checkStore_no (.slice fa ss.length fc) ss now w5 (Up Jf (slO_X PF.out)) HZS.out HST.out).mono ?_
  rintro e w6 ⟨rfl, c6⟩
  replace B0 := zb c6 B0
  replace BZ := zb c6 BZ
  replace BX := zb c6 BX
  replace PF := zf tX_law PF c6
  replace d := zD d c6
  have Z_w6 := zh (show w5.heap.size ≤ w6.heap.size from c6.size)
  clear c6
  have cp_BX_0 := Vl BX.out
  have cp_BZ_0 := Vl BZ.out
  have f_BZ_0 := Ez w6 _ 0 _ _ BZ.out
  have f_BZ_1 := Ez w6 _ 1 _ _ BZ.out
  have tt : Kb (fun q => q = w.heap.size + 1) w6 ((w6.setCell ⟨w.heap.size + 1, 0, none⟩ (.slice fa ss.length fc)).setCell ⟨w.heap.size + 1, 1, none⟩ (.int .i64 now)) := ((Kb.refl (fun q => q = w.heap.size + 1) _).trans (Jm (G := fun q => q = w.heap.size + 1) (g := w.heap.size + 1) (j := 0) (u := .slice fa ss.length fc) rfl)).trans (Jm (G := fun q => q = w.heap.size + 1) (g := w.heap.size + 1) (j := 1) (u := .int .i64 now) rfl)
  have r := st2 BZ.out (.slice fa ss.length fc) (.int .i64 now)
  have e0 := Ia _ _ 0 _ _ _ r
  have e1 := Ia _ _ 1 _ _ _ r
  simp at e0 e1
  have y0 := YW.out
  have y1 := Z_w4.out
  have y2 := Y_X.out
  have y3 := Z_w6.out
  have DF := zh (Js d.out tt (fun q h => by omega) d.out.size)
  have PE := zt tX_law PF tt (fun q h1 h2 => by have r1 := QF.out q h1; omega)
  have QE := zh (fun q h => (show w.heap.size ≤ q by have r1 := QF.out q h; omega))
  clear tt r y0 y1 y2 y3
  go_wp2
  refine bodyPost_ret (v := .tuple #[.agg #[.slice fa ss.length fc, .int .i64 now], Ja]) ?_ rfl ?_
  ·
   simp [results, Tryz.f169, go_sem, e0, e1]
  ·
   show FreshNI _ _ _ _; rw [HE.out]; exact ⟨[.slice fa ss.length fc, .int .i64 now], _, rfl, tStore_mkO (slO_X PE.out) (fun q h => h), QE.out, DF.out⟩
 | true =>
  have HST := zh hst
  clear hst
  have d := zh (show Below w w ((w.alloc (.cells #[.slice a ss.length cap, .int .i64 now] 35)).alloc (.cells #[(), Ja] 35)) from ((Il _ _).alloc (Ii _) _).alloc (by simp <;> omega) _)
  have B0 : Hid (((w.alloc (.cells #[.slice a ss.length cap, .int .i64 now] 35)).alloc (.cells #[(), Ja] 35)).heap[w.heap.size]? = some (.cells #[.slice a ss.length cap, .int .i64 now] 35 (0, 0))) := zh (by
   rw [Below.heap_alloc _ _ _ (by simp <;> omega)]; exact Ic w (.cells #[.slice a ss.length cap, .int .i64 now] 35))
  have BZ : Hid (((w.alloc (.cells #[.slice a ss.length cap, .int .i64 now] 35)).alloc (.cells #[(), Ja] 35)).heap[(w.heap.size + 1)]? = some (.cells #[(), Ja] 35 (0, 0))) := zh (by
   have := Ic (w.alloc (.cells #[.slice a ss.length cap, .int .i64 now] 35)) (.cells #[(), Ja] 35)
   simpa only [Ie] using this)
  have YW : Hid (w.heap.size + 1 < ((w.alloc (.cells #[.slice a ss.length cap, .int .i64 now] 35)).alloc (.cells #[(), Ja] 35)).heap.size) := zh (by simp)
  go_enter Tryz.func169, Tryz.ntmps169
  go_wp2_with fail
  generalize ((w.alloc (.cells #[.slice a ss.length cap, .int .i64 now] 35)).alloc (.cells #[(), Ja] 35)) = W at *
  refine (HC.out W (Jb Jf H.out d.out)).mono ?_
  rintro e w4 ⟨fa, fc, rfl, of, c4⟩
  have PF := zh (Kn tX_law of)
  replace B0 := zb c4 B0
  replace BZ := zb c4 BZ
  replace d := zD d c4
  have Z_w4 := zh (show W.heap.size ≤ w4.heap.size from c4.size)
  have QF := zh (fun q (h : Kw W q ∧ q < w4.heap.size) => (show W.heap.size ≤ q ∧ q < w4.heap.size from h))
  clear of c4
  have hal : Below w4 w4 (w4.alloc (.cells #[.slice fa ss.length fc, .int .i64 now] 35)) := (Il _ _).alloc (Ii _) _
  have BX := zh (Ic w4 (.cells #[.slice fa ss.length fc, .int .i64 now] 35))
  have Y_X := zh (show w4.heap.size < (w4.alloc (.cells #[.slice fa ss.length fc, .int .i64 now] 35)).heap.size by simp [Ie])
  replace B0 := zb hal B0
  replace BZ := zb hal BZ
  replace PF := zf tX_law PF hal
  replace d := zD d hal
  clear hal
  obtain cp_BX_0 := Vl BX.out
  go_wp2_with fail
  clear cp_BX_0
  generalize w4.alloc (.cells #[.slice fa ss.length fc, .int .i64 now] 35) = w5 at *
  obtain ⟨us, Fs, hls, hsr, hX, hdj⟩ := ls_X PF.out
  have HUL := zh hsr.1
  refine (checkStore_own (.slice fa ss.length fc) ss now us w5 (Up Jf (slO_X PF.out)) HZS.out HST.out hls hsr).mono ?_
  rintro e w6 ⟨tg, tbs, rfl, ho, htb, c6⟩
  have PT0 := tab_of ho htb HUL.out hX hdj c6 (Ii _)
  rw [HUL.out]
  have y0 := YW.out
  have y1 := Z_w4.out
  have y2 := Y_X.out
  have PT := zh (Ky PT0 (F' := fun q => w.heap.size + 1 < q ∧ q ≠ w4.heap.size) (fun q h => by
   rcases h with h | h
   ·
    have r := QF.out q h.1; exact ⟨by omega, by omega⟩
   ·
    exact ⟨by omega, by omega⟩))
  replace B0 := zb c6 B0
  replace BZ := zb c6 BZ
  replace BX := zb c6 BX
  replace d := zD d c6
  have Z_w6 := zh (show w5.heap.size ≤ w6.heap.size from c6.size)
  have zz : w.heap.size + 1 < w4.heap.size ∧ w4.heap.size < w6.heap.size := ⟨by omega, by have := c6.size; omega⟩
  have ZZ := zh zz
  clear PF QF PT0 hls hsr hX hdj ho htb c6 zz HUL YW Z_w4 Y_X Z_w6 y0 y1 y2
  generalize w4.heap.size = R at *
  go_wp2
  go_loopw [23] (fun i wr => ∃ k : Nat, k ≤ ss.length ∧ i = .int .i64 k ∧ wr.heap[w.heap.size]? = some (.cells #[.slice a ss.length cap, .int .i64 now] 35 (0, 0)) ∧ wr.heap[w.heap.size + 1]? = some (.cells #[(), Ja] 35 (0, 0)) ∧ wr.heap[R]? = some (.cells #[.slice fa ss.length fc, .int .i64 now] 35 (0, 0)) ∧ Kp 264 tSegP wr (fun q => w.heap.size + 1 < q ∧ q ≠ R) (.slice (some ⟨tg, 0, none⟩) ss.length ss.length) (recTo keep ss k) ∧ Below w w wr ∧ R < wr.heap.size) (fun i _ => ss.length - (intOf i).toNat)
  case atStart => exact ⟨0, Ij _, rfl, B0.out, BZ.out, BX.out, by rw [rec_zero]; exact PT.out, d.out, ZZ.out.2⟩
  case round =>
   obtain ⟨k, hk, rfl, r0, r1, r2, hown, hbel, hsz⟩ := hrel
   clear B0 BZ BX PT d
   by_cases hlt : k < ss.length
   ·
    have i1 : (0 : Int) ≤ (k : Int) := by omega
    have i2 : (k : Int) < (ss.length : Int) := by omega
    have hsl := HSL.out
    obtain ⟨g, gcap, b, u, F1, Fj, hv, hFg, hg, hc, hb, hu, h0, h1, h2, hput⟩ := tab_at (Kn tSegP_law hown) (Ii _) (j := k) (by rw [rec_len]; exact hlt)
    simp only [Ik, Option.some.injEq, Addr.mk.injEq] at hv
    have hgg := hv.1.1
    clear hv
    subst hgg
    rw [rec_at hlt] at hu
    have HPUT := zh hput
    have HSET := zh (rec_step (keep := keep) hlt)
    have hll : (ss.getD k []).length ≤ 1048576 := (short_segs HST.out).2 k hlt
    have HBB := zh (h2 b h0)
    have HB0 := zh h0
    have HF1 := zh h1
    have HFJ := zh h2
    have HRC := zh (reclaim_any b F1 u (.slice ka keep.length kc) (ss.getD k []) keep wr hb hu (fun q => (h1 b q).2 rfl) hll (Jb Jc G.out hbel) HKN.out)
    have B0 := zh r0
    have BZ := zh r1
    have BX := zh r2
    have d := zh hbel
    have ZR := zh hsz
    have ZR2 := zh ZZ.out.1
    unfold Un at hc
    unfold Un at HRC
    clear hput h0 h1 h2 hu hb hown r0 r1 r2 hbel hsz hFg hg hll
    go_wp2_with fail
    refine HRC.out.mono ?_
    rintro e w7 ⟨u7, rfl, q7, o7, t7⟩
    have hb3 := HBB.out
    have y0 := ZR.out
    have y1 := ZR2.out
    have PN := zh (HPUT.out w7 u7 (fun q => F1 q ∨ wr.heap.size ≤ q) _ q7 o7 (fun q h => by
     rcases h with h | h
     ·
      obtain ⟨h3, h4⟩ := HF1.out q h
      exact ⟨(HFJ.out q h3).1, h4, Or.inl h3⟩
     ·
      exact ⟨⟨by omega, by omega⟩, by have := hb3.2.2; omega, Or.inr h⟩) (t7.mono (fun q h => Or.inl (by have h5 : q = b := h; rw [h5]; exact HB0.out))))
    rw [HSET.out] at PN
    have hq : w.heap.size + 1 < b ∧ b ≠ R := hb3.1
    replace B0 := zB t7 B0 (fun h => by have h5 : w.heap.size = b := h; omega)
    replace BZ := zB t7 BZ (fun h => by have h5 : w.heap.size + 1 = b := h; omega)
    replace BX := zB t7 BX (fun h => by have h5 : R = b := h; omega)
    replace d := zh (Js d.out t7 (fun q h => by have h5 : q = b := h; omega) d.out.size)
    have ZN := zh (Nat.lt_of_lt_of_le ZR.out t7.size)
    clear hb3 y0 y1 hq q7 o7 t7 HPUT HSET HBB HB0 HF1 HFJ HRC hc
    go_wp2
    go_roundw
    case rel =>
     exact ⟨k + 1, by omega, by go_num, B0.out, BZ.out, BX.out, PN.out, d.out, ZN.out⟩
    case measure => simp [intOf]; omega
   ·
    obtain rfl : k = ss.length := by omega
    rw [rec_all] at hown
    have HKL : Hid ((Vn keep ss).length = ss.length) := zh (by simp [Vn])
    have HE : Hid (Xj (ss, now) keep = ((Vn keep ss, now), (ss.flatten.length : Int) - ((Vn keep ss).flatten.length : Int))) := zh (reclaim_yes HST.out)
    have HZR := zh (rec_zL (keep := keep) HST.out HZS.out)
    have f1 := flat_small HZS.out
    have f2 := flat_small HZR.out
    have B0 := zh r0
    have BZ := zh r1
    have BX := zh r2
    have d := zh hbel
    have HLI := zh (lists_any tg ss.length (fun q => w.heap.size + 1 < q ∧ q ≠ R) (Vn keep ss) wr hown HKL.out.symm HSL.out)
    have HCS := zh (fun W h => implCountVersions (.slice a ss.length cap) ss now W h HZS.out)
    have HCR := zh (fun sv W h => implCountVersions sv (Vn keep ss) now W h HZR.out)
    have ZR := zh hsz
    have ZR2 := zh ZZ.out.1
    clear r0 r1 r2 hown hbel hsz hlt
    generalize ss.flatten.length = p at *
    generalize (Vn keep ss).flatten.length = p2 at *
    go_wp2_with fail
    refine HLI.out.mono ?_
    rintro e w9 ⟨lv2, rfl, ol, c9⟩
    obtain ⟨va9, vc9, rfl⟩ := Ju ol
    rw [HKL.out] at ol
    rw [HKL.out]
    have PF0 := zh ol
    replace B0 := zb c9 B0
    replace BZ := zb c9 BZ
    replace BX := zb c9 BX
    replace d := zD d c9
    have Z_w9 := zh (show wr.heap.size ≤ w9.heap.size from c9.size)
    clear c9 ol HLI
    have cp_BX_0 := Vl BX.out
    have f_BX_0 := Ez w9 _ 0 _ _ BX.out
    have f_BX_1 := Ez w9 _ 1 _ _ BX.out
    have y0 := ZR.out
    have y1 := ZR2.out
    have y2 := Z_w9.out
    have tt : Kb (fun q => q = R) w9 (w9.setCell ⟨R, 0, none⟩ (.slice va9 ss.length vc9)) := Jm (G := fun q => q = R) (g := R) (j := 0) (u := .slice va9 ss.length vc9) rfl
    have r := Ib w9 R 0 _ _ (.slice va9 ss.length vc9) BX.out
    simp at r
    go_upto_region 11 with fail
    clear cp_BX_0 f_BX_0 f_BX_1
    generalize (w9.setCell ⟨R, 0, none⟩ (.slice va9 ss.length vc9)) = w10 at *
    replace BX : Hid (w10.heap[R]? = some (.cells #[.slice va9 ss.length vc9, .int .i64 now] 35 (0, 0))) := zh r
    replace BZ := zB tt BZ (fun h => by have r2 : _ = R := h; omega)
    replace B0 := zB tt B0 (fun h => by have r2 : _ = R := h; omega)
    have PF := zh (Kn Jf (Ka Jf PF0.out tt (fun q h1 h2 => by have r2 : q = R := h2; rcases h1 with r3 | r3; exact r3.2 r2; omega)))
    replace d := zh (Js d.out tt (fun q h => by have r2 : q = R := h; omega) d.out.size)
    have QF := zh (fun q (h : ((w.heap.size + 1 < q ∧ q ≠ R) ∨ wr.heap.size ≤ q) ∧ q < w10.heap.size) => (show w.heap.size + 1 < q by rcases h.1 with h | h; exact h.1; omega))
    clear r tt PF0 y0 y1 y2
    obtain ⟨p_B0_0, p_B0_1⟩ := Vl B0.out
    have cp_BX_0 := Vl BX.out
    refine wp_region_held_drew (S := fun w' => w'.cell? ⟨w, 0, none⟩ = some (Value.slice a ss.length cap) ∧ w'.cell? ⟨w, 1, none⟩ = some (Value.int .i64 now) ∧ w'.cell? ⟨R, 0, none⟩ = some (Value.slice va9 ss.length vc9) ∧ w'.cell? ⟨R, 1, none⟩ = some (Value.int .i64 now)) (by kernel_rfl) ⟨p_B0_0, p_B0_1, cp_BX_0⟩ (fun hHeld => ?_)
    clear p_B0_0 p_B0_1 cp_BX_0
    have cdr : Below w10 w10 w10.drew := Kc (Il _ _)
    replace B0 := zb cdr B0
    replace BZ := zb cdr BZ
    replace BX := zb cdr BX
    replace PF := zf Jf PF cdr
    replace d := zD d cdr
    clear cdr
    have Z_dr := zh (show w10.heap.size ≤ w10.drew.heap.size from Ii _)
    generalize w10.drew = Wd at *
    refine tQ (i := 0) ?_
    try simp only [Act.put, lA, lB, lC]
    refine tQ (i := 1) ?_
    try simp only [Act.put, lA, lB, lC]
    refine tQ (i := 3) ?_
    try simp only [Act.put, lA, lB, lC]
    refine rA 2 (fun K hK => ?_)
    go_simp
    refine (HCS.out Wd (Jb Jf H.out d.out)).mono ?_
    rintro e w11 ⟨rfl, c11⟩
    replace B0 := zb c11 B0
    replace BZ := zb c11 BZ
    replace BX := zb c11 BX
    replace PF := zf Jf PF c11
    replace d := zD d c11
    have Z_w11 := zh (show Wd.heap.size ≤ w11.heap.size from c11.size)
    clear c11
    obtain ⟨p_B0_0, p_B0_1⟩ := Vl B0.out
    have cp_BX_0 := Vl BX.out
    refine hK.out _ _ ⟨p_B0_0, p_B0_1, cp_BX_0⟩ (fun hHeld => ?_)
    clear p_B0_0 p_B0_1 cp_BX_0
    clear hK K
    try simp only [Act.put, lA, lB, lC]
    refine rA 4 (fun K hK => ?_)
    go_simp
    refine (HCR.out (.slice va9 ss.length vc9) w11 (Up Jf PF.out)).mono ?_
    rintro e w12 ⟨rfl, c12⟩
    replace B0 := zb c12 B0
    replace BZ := zb c12 BZ
    replace BX := zb c12 BX
    replace PF := zf Jf PF c12
    replace d := zD d c12
    have Z_w12 := zh (show w11.heap.size ≤ w12.heap.size from c12.size)
    clear c12
    obtain ⟨p_B0_0, p_B0_1⟩ := Vl B0.out
    have cp_BX_0 := Vl BX.out
    refine hK.out _ _ ⟨p_B0_0, p_B0_1, cp_BX_0⟩ (fun hHeld => ?_)
    clear p_B0_0 p_B0_1 cp_BX_0
    clear hK K
    try simp only [Act.put, lA, lB, lC]
    refine tQ (i := 5) ?_
    try simp only [Act.put, lA, lB, lC]
    refine rA 6 (fun K hK => ?_)
    obtain cp_BZ_0 := Vl BZ.out
    have f_BZ_0 := Ez w12 _ 0 _ _ BZ.out
    have f_BZ_1 := Ez w12 _ 1 _ _ BZ.out
    go_simp
    clear cp_BZ_0 f_BZ_0 f_BZ_1
    have tt : Kb (fun q => q = w.heap.size + 1) w12 ((w12.setCell ⟨w.heap.size + 1, 0, none⟩ (.slice va9 ss.length vc9)).setCell ⟨w.heap.size + 1, 1, none⟩ (.int .i64 now)) := ((Kb.refl (fun q => q = w.heap.size + 1) _).trans (Jm (G := fun q => q = w.heap.size + 1) (g := w.heap.size + 1) (j := 0) (u := .slice va9 ss.length vc9) rfl)).trans (Jm (G := fun q => q = w.heap.size + 1) (g := w.heap.size + 1) (j := 1) (u := .int .i64 now) rfl)
    have r := st2 BZ.out (.slice va9 ss.length vc9) (.int .i64 now)
    try simp at r
    have y0 := ZR.out
    have y1 := ZR2.out
    have y2 := Z_w9.out
    have y3 := Z_dr.out
    have y4 := Z_w11.out
    have y5 := Z_w12.out
    generalize ((w12.setCell ⟨w.heap.size + 1, 0, none⟩ (.slice va9 ss.length vc9)).setCell ⟨w.heap.size + 1, 1, none⟩ (.int .i64 now)) = w13 at *
    replace B0 := zB tt B0 (fun h => by have r2 : _ = w.heap.size + 1 := h; omega)
    replace BX := zB tt BX (fun h => by have r2 : _ = w.heap.size + 1 := h; omega)
    replace BZ : Hid (w13.heap[w.heap.size + 1]? = some (.cells #[.slice va9 ss.length vc9, .int .i64 now] 35 (0, 0))) := zh r
    replace d := zh (Js d.out tt (fun q h => by omega) d.out.size)
    have PE := zt Jf PF tt (fun q h1 h2 => by have r1 := QF.out q h1; omega)
    have QE := zh (fun q h => (show w.heap.size ≤ q by have r1 := QF.out q h; omega))
    clear tt r PF y0 y1 y2 y3 y4 y5
    obtain ⟨p_B0_0, p_B0_1⟩ := Vl B0.out
    have cp_BX_0 := Vl BX.out
    refine hK.out _ _ ⟨p_B0_0, p_B0_1, cp_BX_0⟩ (fun hHeld => ?_)
    clear p_B0_0 p_B0_1 cp_BX_0
    clear hK K
    try simp only [Act.put, lA, lB, lC]
    refine tQ (i := 7) ?_
    try simp only [Act.put, lA, lB, lC]
    refine wpAnyH_done (by kernel_rfl) ?_ _
    clear hHeld
    have e0 := Ia _ _ 0 _ _ _ BZ.out
    have e1 := Ia _ _ 1 _ _ _ BZ.out
    simp at e0 e1
    go_wp2
    refine bodyPost_ret (v := .tuple #[.agg #[.slice va9 ss.length vc9, .int .i64 now], .int .i64 ((p : Int) - (p2 : Int))]) ?_ rfl ?_
    ·
     simp [results, Tryz.f169, go_sem, e0, e1]; exact IntWalk.i64_in _ (by omega)
    ·
     show FreshNI _ _ _ _; rw [HE.out]; exact ⟨[.slice va9 ss.length vc9, .int .i64 now], _, rfl, tStore_mkO PE.out (fun q h => h), QE.out, d.out⟩
end Go.Proofs.YtnepfacnmaoieaaGreatDoor
