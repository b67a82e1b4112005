/-
 Texts of the proof, merged: EngOrdP.
-/
import Derived.Test.YtcolddalajoheaaGreatDoorSO1
import Derived.Test.YtcolddalajoheaaGreatDoorSO13
import Derived.Test.YtcolddalajoheaaGreatDoorSO15
import Derived.Deep.Cut
namespace Go.Proofs.YtcolddalajoheaaGreatDoor
open Go.RowKit
open Go renaming frozen_of_row → Ut, heap_setCell_same → Uv, heap_alloc_new → Uw
open Go.World renaming size_alloc → Ux
open Nat renaming le_refl → Ed
open Go.RowKit.Below renaming refl → Eh
open ZD0
set_option linter.unusedVariables false
set_option linter.unusedSimpArgs false
theorem order_three {ks : List Int} (h : Vd ks = true) : [ks.getD 0 0, ks.getD 1 0, ks.getD 2 0] = ks := by
 unfold Vd at h
 simp only [Bool.and_eq_true, decide_eq_true_eq] at h
 match ks, h.1 with
 | [a, b, c], _ => rfl
set_option maxHeartbeats 16000000 in
set_option maxRecDepth 100000 in
theorem implSetOrder (now cu st : Int) (sv ov av dv lv : Value) (ss : List (List Kw)) (os : List Int) (qs : List Us) (ds : List FinD) (ls : List Vz) (kv : Value) (ks : List Int) (w : World) (hT : OrdT w)
  (h0 : Kc Je w sv ss) (h3 : Kc Jf w ov os) (h4 : Kc Jm w av qs) (h5 : Kc Jk w dv ds) (h6 : Kc Jp w lv ls) (hs : zL Je ss + zL Jf os + zL Jm qs + zL Jk ds + zL Jp ls ≤ 1048576) (hk : Kc Jf w kv ks) (nk : ks.length ≤ 1048576) :
  Calls Tryz.prog 28 #[.agg #[sv, .int .i64 now, .int .i64 cu, ov, av, dv, lv, .int .i64 st], kv] w (FreshEB w (Yf ((ss, now), cu, os, qs, ds, ls, st) ks)) := by
 have S0 : Hid (zL Je ss ≤ 1048576) := hd (by omega)
 have S3 : Hid (zL Jf os ≤ 1048576) := hd (by omega)
 have S4 : Hid (zL Jm qs ≤ 1048576) := hd (by omega)
 have S5 : Hid (zL Jk ds ≤ 1048576) := hd (by omega)
 have S6 : Hid (zL Jp ls ≤ 1048576) := hd (by omega)
 have HS := hd hs
 clear hs
 obtain ⟨e0, n0, rfl⟩ := Jo h0
 have H0 := hd h0
 obtain ⟨e3, n3, rfl⟩ := Jo h3
 have H3 := hd h3
 obtain ⟨e4, n4, rfl⟩ := Jo h4
 have H4 := hd h4
 obtain ⟨e5, n5, rfl⟩ := Jo h5
 have H5 := hd h5
 obtain ⟨e6, n6, rfl⟩ := Jo h6
 have H6 := hd h6
 clear h0 h3 h4 h5 h6
 obtain ⟨ka, kc, rfl⟩ := Jo hk
 have HK := hd hk
 clear hk
 have HTB := hd hT
 clear hT
 have d := hd (show Below w w ((w.alloc (.cells #[.slice e0 ss.length n0, .int .i64 now, .int .i64 cu, .slice e3 os.length n3, .slice e4 qs.length n4, .slice e5 ds.length n5, .slice e6 ls.length n6, .int .i64 st] 43)).alloc (.cells #[(), Ja, Ja, (), (), (), (), Ja] 43)) from (((Eh _ w).alloc (Ed _) _).alloc (by simp) _))
 have B0 : Hid (((w.alloc (.cells #[.slice e0 ss.length n0, .int .i64 now, .int .i64 cu, .slice e3 os.length n3, .slice e4 qs.length n4, .slice e5 ds.length n5, .slice e6 ls.length n6, .int .i64 st] 43)).alloc (.cells #[(), Ja, Ja, (), (), (), (), Ja] 43)).heap[w.heap.size]? = some (.cells #[.slice e0 ss.length n0, .int .i64 now, .int .i64 cu, .slice e3 os.length n3, .slice e4 qs.length n4, .slice e5 ds.length n5, .slice e6 ls.length n6, .int .i64 st] 43 (0, 0))) := hd (by
  rw [Below.heap_alloc _ _ _ (by simp)]
  exact Uw w _)
 have BR : Hid (((w.alloc (.cells #[.slice e0 ss.length n0, .int .i64 now, .int .i64 cu, .slice e3 os.length n3, .slice e4 qs.length n4, .slice e5 ds.length n5, .slice e6 ls.length n6, .int .i64 st] 43)).alloc (.cells #[(), Ja, Ja, (), (), (), (), Ja] 43)).heap[(w.heap.size + 1)]? = some (.cells #[(), Ja, Ja, (), (), (), (), Ja] 43 (0, 0))) := hd (by
  have := Uw (w.alloc (.cells #[.slice e0 ss.length n0, .int .i64 now, .int .i64 cu, .slice e3 os.length n3, .slice e4 qs.length n4, .slice e5 ds.length n5, .slice e6 ls.length n6, .int .i64 st] 43)) (.cells #[(), Ja, Ja, (), (), (), (), Ja] 43)
  simpa only [Ux] using this)
 have YW : Hid (w.heap.size + 2 ≤ ((w.alloc (.cells #[.slice e0 ss.length n0, .int .i64 now, .int .i64 cu, .slice e3 os.length n3, .slice e4 qs.length n4, .slice e5 ds.length n5, .slice e6 ls.length n6, .int .i64 st] 43)).alloc (.cells #[(), Ja, Ja, (), (), (), (), Ja] 43)).heap.size) := hd (by simp [Ux])
 go_enter Tryz.func28, Tryz.ntmps28
 go_wp2_with fail
 generalize ((w.alloc (.cells #[.slice e0 ss.length n0, .int .i64 now, .int .i64 cu, .slice e3 os.length n3, .slice e4 qs.length n4, .slice e5 ds.length n5, .slice e6 ls.length n6, .int .i64 st] 43)).alloc (.cells #[(), Ja, Ja, (), (), (), (), Ja] 43)) = W at *
 refine (copyEngine_P now cu st (.slice e0 ss.length n0) (.slice e3 os.length n3) (.slice e4 qs.length n4) (.slice e5 ds.length n5) (.slice e6 ls.length n6) ss os qs ds ls W (Jc Jd H0.out d.out) (Jc Jb H3.out d.out) (Jc Ji H4.out d.out) (Jc Jg H5.out d.out) (Jc Jj H6.out d.out) S0.out S3.out S4.out S5.out S6.out).mono ?_
 rintro e W1 ⟨cs, rfl, ow, c⟩
 have Q : Hid (∀ b, Kg W b ∧ b < W1.heap.size → W.heap.size ≤ b ∧ b < W1.heap.size) := hd (fun b h => h)
 have OW := hd (Kf.lt ow)
 clear ow
 replace B0 := zb c B0
 replace BR := zb c BR
 replace d := zD d c
 have Z_W1 := hd (show W.heap.size ≤ W1.heap.size from c.size)
 clear c
 obtain ⟨w0, w3, w4, w5, w6, hcs, r0, r3, r4, r5, r6⟩ := tEngine_R (Kf.reads OW.out)
 subst hcs
 obtain ⟨u0, m0, rfl⟩ := Jo r0
 obtain ⟨u3, m3, rfl⟩ := Jo r3
 obtain ⟨u4, m4, rfl⟩ := Jo r4
 obtain ⟨u5, m5, rfl⟩ := Jo r5
 obtain ⟨u6, m6, rfl⟩ := Jo r6
 clear r0 r3 r4 r5 r6
 have hal : Below W1 W1 (W1.alloc (.cells #[.slice u0 ss.length m0, .int .i64 now, .int .i64 cu, .slice u3 os.length m3, .slice u4 qs.length m4, .slice u5 ds.length m5, .slice u6 ls.length m6, .int .i64 st] 43)) := (Eh _ _).alloc (Ed _) _
 have Y_X := hd (show W1.heap.size < (W1.alloc (.cells #[.slice u0 ss.length m0, .int .i64 now, .int .i64 cu, .slice u3 os.length m3, .slice u4 qs.length m4, .slice u5 ds.length m5, .slice u6 ls.length m6, .int .i64 st] 43)).heap.size by show W1.heap.size < (W1.alloc (.cells #[.slice u0 ss.length m0, .int .i64 now, .int .i64 cu, .slice u3 os.length m3, .slice u4 qs.length m4, .slice u5 ds.length m5, .slice u6 ls.length m6, .int .i64 st] 43)).heap.size; simp [Ux])
 have X := hd (Uw W1 (.cells #[.slice u0 ss.length m0, .int .i64 now, .int .i64 cu, .slice u3 os.length m3, .slice u4 qs.length m4, .slice u5 ds.length m5, .slice u6 ls.length m6, .int .i64 st] 43))
 replace OW := hd (Kf.fresh OW.out hal)
 replace B0 := zb hal B0
 replace BR := zb hal BR
 replace d := zD d hal
 clear hal
 go_wp2_with fail
 generalize (W1.alloc (.cells #[.slice u0 ss.length m0, .int .i64 now, .int .i64 cu, .slice u3 os.length m3, .slice u4 qs.length m4, .slice u5 ds.length m5, .slice u6 ls.length m6, .int .i64 st] 43)) = W2 at *
 have HO0 := hd (implOrderOf (.slice ka ks.length kc) ks W2 (Va (Jc Jb HK.out d.out)) nk (HTB.out.on d.out))
 refine HO0.out.mono ?_
 rintro e W3 ⟨hor, c⟩
 replace OW := hd (Kf.fresh OW.out c)
 replace B0 := zb c B0
 replace BR := zb c BR
 replace X := zb c X
 replace d := zD d c
 have Z_W3 := hd (show W2.heap.size ≤ W3.heap.size from c.size)
 clear c HO0
 rcases hor with ⟨ho, rfl⟩ | ⟨ho, rfl⟩
 ·
  have HO := hd ho
  clear ho
  obtain ⟨z0, z1, z2, hz⟩ : ∃ z0 z1 z2 : Int, z0 = ks.getD 0 0 ∧ z1 = ks.getD 1 0 ∧ z2 = ks.getD 2 0 := ⟨_, _, _, rfl, rfl, rfl⟩
  rw [← hz.1, ← hz.2.1, ← hz.2.2]
  have HZ : Hid ([z0, z1, z2] = ks) := hd (by rw [hz.1, hz.2.1, hz.2.2]; exact order_three HO.out)
  clear hz
  have hal : Below W3 W3 (W3.alloc (.cells #[.int .i64 z0, .int .i64 z1, .int .i64 z2] 119)) := (Eh _ _).alloc (Ed _) _
  have Y_BF := hd (show W3.heap.size < (W3.alloc (.cells #[.int .i64 z0, .int .i64 z1, .int .i64 z2] 119)).heap.size by show W3.heap.size < (W3.alloc (.cells #[.int .i64 z0, .int .i64 z1, .int .i64 z2] 119)).heap.size; simp [Ux])
  have BF := hd (Uw W3 (.cells #[.int .i64 z0, .int .i64 z1, .int .i64 z2] 119))
  replace OW := hd (Kf.fresh OW.out hal)
  replace B0 := zb hal B0
  replace BR := zb hal BR
  replace X := zb hal X
  replace d := zD d hal
  clear hal
  have cp_B0_0 := Kh B0.out
  go_wp2_with fail
  clear cp_B0_0
  generalize (W3.alloc (.cells #[.int .i64 z0, .int .i64 z1, .int .i64 z2] 119)) = W4 at *
  refine (implIsEngine now cu st (.slice e0 ss.length n0) (.slice e3 os.length n3) (.slice e4 qs.length n4) (.slice e5 ds.length n5) (.slice e6 ls.length n6) ss os qs ds ls W4 (HTB.out.on d.out) (Jc Jd H0.out d.out) (Jc Jb H3.out d.out) (Jc Ji H4.out d.out) (Jc Jg H5.out d.out) (Jc Jj H6.out d.out) HS.out).mono ?_
  rintro e W5 ⟨rfl, c⟩
  replace OW := hd (Kf.fresh OW.out c)
  replace B0 := zb c B0
  replace BR := zb c BR
  replace X := zb c X
  replace BF := zb c BF
  replace d := zD d c
  have Z_W5 := hd (show W4.heap.size ≤ W5.heap.size from c.size)
  clear c
  rcases Bool.eq_false_or_eq_true (Uj ((ss, now), cu, os, qs, ds, ls, st)) with he | he
  rotate_left
  ·
   rw [he]
   have HN : Hid (Yf ((ss, now), cu, os, qs, ds, ls, st) ks = (((ss, now), cu, os, qs, ds, ls, st), false)) := hd (by unfold Yf; rw [if_neg (fun g => by rw [he] at g; cases g.1)])
   clear he
   obtain ⟨p_BR_0, p_BR_1, p_BR_2, p_BR_3, p_BR_4, p_BR_5, p_BR_6, p_BR_7⟩ := Kh BR.out
   have cp_X_0 := Kh X.out
   have f_BR_0 := Ut W5 _ 0 _ _ BR.out
   have f_BR_1 := Ut W5 _ 1 _ _ BR.out
   have f_BR_2 := Ut W5 _ 2 _ _ BR.out
   have f_BR_3 := Ut W5 _ 3 _ _ BR.out
   have f_BR_4 := Ut W5 _ 4 _ _ BR.out
   have f_BR_5 := Ut W5 _ 5 _ _ BR.out
   have f_BR_6 := Ut W5 _ 6 _ _ BR.out
   have f_BR_7 := Ut W5 _ 7 _ _ BR.out
   have tt := ts8 W5 (w.heap.size + 1) (.slice u0 ss.length m0) (.int .i64 now) (.int .i64 cu) (.slice u3 os.length m3) (.slice u4 qs.length m4) (.slice u5 ds.length m5) (.slice u6 ls.length m6) (.int .i64 st)
   have r := st8 BR.out (.slice u0 ss.length m0) (.int .i64 now) (.int .i64 cu) (.slice u3 os.length m3) (.slice u4 qs.length m4) (.slice u5 ds.length m5) (.slice u6 ls.length m6) (.int .i64 st)
   try simp at r
   have e0 := cr 0 (Value.slice u0 ss.length m0) r
   have e1 := cr 1 (Value.int .i64 now) r
   have e2 := cr 2 (Value.int .i64 cu) r
   have e3 := cr 3 (Value.slice u3 os.length m3) r
   have e4 := cr 4 (Value.slice u4 qs.length m4) r
   have e5 := cr 5 (Value.slice u5 ds.length m5) r
   have e6 := cr 6 (Value.slice u6 ls.length m6) r
   have e7 := cr 7 (Value.int .i64 st) r
   have y0 := YW.out
   have y1 := Z_W1.out
   have y2 := Y_X.out
   have y3 := Z_W3.out
   have y4 := Y_BF.out
   have y5 := Z_W5.out
   have yd := d.out.size
   have OF := hd (Kf.mono (Kf.turn OW.out tt (fun b h1 h2 => by have r1 := Q.out b h1; omega)) (F' := fun b => w.heap.size ≤ b) (fun b h => by have r1 := Q.out b h; have := y0; show w.heap.size ≤ b; omega))
   have DF := hd (Jr d.out tt (fun b h => by omega) yd)
   clear tt r yd y0 y1 y2 y3 y4 y5
   go_wp2
   refine bodyPost_ret (v := .tuple #[.agg #[.slice u0 ss.length m0, .int .i64 now, .int .i64 cu, .slice u3 os.length m3, .slice u4 qs.length m4, .slice u5 ds.length m5, .slice u6 ls.length m6, .int .i64 st], .bool false]) ?_ rfl ?_
   ·
    simp [results, Tryz.f28, go_sem, e0, e1, e2, e3, e4, e5, e6, e7]
   ·
    rw [HN.out]
    exact ⟨[.slice u0 ss.length m0, .int .i64 now, .int .i64 cu, .slice u3 os.length m3, .slice u4 qs.length m4, .slice u5 ds.length m5, .slice u6 ls.length m6, .int .i64 st], fun b => w.heap.size ≤ b, rfl, OF.out, fun b h => h, DF.out⟩
  rw [he]
  have HE := hd he
  clear he
  have HY : Hid (Yf ((ss, now), cu, os, qs, ds, ls, st) ks = (((ss, now), cu, ks, qs, ds, ls, st), true)) := hd (by unfold Yf; rw [if_pos ⟨HE.out, HO.out⟩])
  obtain cp_X_0 := Kh X.out
  have f_X_0 := Ut W5 _ 0 _ _ X.out
  have f_X_1 := Ut W5 _ 1 _ _ X.out
  have f_X_2 := Ut W5 _ 2 _ _ X.out
  have f_X_3 := Ut W5 _ 3 _ _ X.out
  have f_X_4 := Ut W5 _ 4 _ _ X.out
  have f_X_5 := Ut W5 _ 5 _ _ X.out
  have f_X_6 := Ut W5 _ 6 _ _ X.out
  have f_X_7 := Ut W5 _ 7 _ _ X.out
  go_upto_region 6 with fail
  clear cp_X_0 f_X_0 f_X_1 f_X_2 f_X_3 f_X_4 f_X_5 f_X_6 f_X_7
  have tX : Jy (fun b => b = W1.heap.size) W5 (W5.setCell ⟨W1, 3, none⟩ (.slice (some ⟨W3, 0, none⟩) 3 3)) := (Jy.refl (fun b => b = W1.heap.size) W5).trans (Jh (G := fun b => b = W1.heap.size) (g := W1.heap.size) (j := 3) (u := .slice (some ⟨W3, 0, none⟩) 3 3) rfl)
  have rX := Uv W5 W1.heap.size 3 _ _ (.slice (some ⟨W3, 0, none⟩) 3 3) X.out
  simp at rX
  generalize (W5.setCell ⟨W1, 3, none⟩ (.slice (some ⟨W3, 0, none⟩) 3 3)) = Wf at *
  have y0 := YW.out
  have y1 := Z_W1.out
  have y2 := Y_X.out
  have y3 := Z_W3.out
  have y4 := Y_BF.out
  have y5 := Z_W5.out
  replace OW := hd (Kf.turn OW.out tX (fun b h1 h2 => by have r1 := Q.out b h1; have r2 := h2; omega))
  clear y0 y1 y2 y3 y4 y5
  have y0 := YW.out
  have y1 := Z_W1.out
  have y2 := Y_X.out
  have y3 := Z_W3.out
  have y4 := Y_BF.out
  have y5 := Z_W5.out
  have yd : w.heap.size ≤ W5.heap.size := d.out.size
  replace B0 := zB tX B0 (fun h => by have r2 := h; omega)
  replace BR := zB tX BR (fun h => by have r2 := h; omega)
  replace BF := zB tX BF (fun h => by have r2 := h; omega)
  replace d := hd (Jr d.out tX (fun b h => by have r2 := h; omega) (by omega))
  have Z_Wf := hd (show W5.heap.size ≤ Wf.heap.size from tX.size)
  clear yd y0 y1 y2 y3 y4 y5
  have X : Hid (Wf.heap[W1.heap.size]? = some (.cells #[.slice u0 ss.length m0, .int .i64 now, .int .i64 cu, .slice (some ⟨W3, 0, none⟩) 3 3, .slice u4 qs.length m4, .slice u5 ds.length m5, .slice u6 ls.length m6, .int .i64 st] 43 (0, 0))) := hd rX
  clear rX tX
  obtain ⟨p_BR_0, p_BR_1, p_BR_2, p_BR_3, p_BR_4, p_BR_5, p_BR_6, p_BR_7⟩ := Kh BR.out
  obtain ⟨p_X_0, p_X_1, p_X_2, p_X_3, p_X_4, p_X_5, p_X_6, p_X_7⟩ := Kh X.out
  have f_BR_0 := Ut Wf _ 0 _ _ BR.out
  have f_BR_1 := Ut Wf _ 1 _ _ BR.out
  have f_BR_2 := Ut Wf _ 2 _ _ BR.out
  have f_BR_3 := Ut Wf _ 3 _ _ BR.out
  have f_BR_4 := Ut Wf _ 4 _ _ BR.out
  have f_BR_5 := Ut Wf _ 5 _ _ BR.out
  have f_BR_6 := Ut Wf _ 6 _ _ BR.out
  have f_BR_7 := Ut Wf _ 7 _ _ BR.out
  have tt := ts8 Wf (w.heap.size + 1) (.slice u0 ss.length m0) (.int .i64 now) (.int .i64 cu) (.slice (some ⟨W3, 0, none⟩) 3 3) (.slice u4 qs.length m4) (.slice u5 ds.length m5) (.slice u6 ls.length m6) (.int .i64 st)
  have r := st8 BR.out (.slice u0 ss.length m0) (.int .i64 now) (.int .i64 cu) (.slice (some ⟨W3, 0, none⟩) 3 3) (.slice u4 qs.length m4) (.slice u5 ds.length m5) (.slice u6 ls.length m6) (.int .i64 st)
  try simp at r
  have e0 := cr 0 (Value.slice u0 ss.length m0) r
  have e1 := cr 1 (Value.int .i64 now) r
  have e2 := cr 2 (Value.int .i64 cu) r
  have e3 := cr 3 (Value.slice (some ⟨W3, 0, none⟩) 3 3) r
  have e4 := cr 4 (Value.slice u4 qs.length m4) r
  have e5 := cr 5 (Value.slice u5 ds.length m5) r
  have e6 := cr 6 (Value.slice u6 ls.length m6) r
  have e7 := cr 7 (Value.int .i64 st) r
  have y0 := YW.out
  have y1 := Z_W1.out
  have y2 := Y_X.out
  have y3 := Z_W3.out
  have y4 := Y_BF.out
  have y5 := Z_W5.out
  have y6 := Z_Wf.out
  have yd := d.out.size
  obtain ⟨v0, v3, v4, v5, v6, ety, K0, K3, K4, K5, K6, hl, p0, p3, p4, p5, p6, q0, q3, q4, q5, q6, d03, d04, d05, d06, d34, d35, d36, d45, d46, d56⟩ := Xv (Kf.turn OW.out tt (fun b h1 h2 => by have r1 := Q.out b h1; omega))
  simp only [List.cons.injEq, and_true, true_and] at hl
  obtain ⟨rfl, rfl, rfl, rfl, rfl⟩ := hl
  have OF := hd (tEngine_mkO (a1 := now) (a2 := cu) (a7 := st) (F := fun b => w.heap.size ≤ b) p0 (by have q := slX_block ((tt.block W3.heap.size (Array.getElem?_eq_some_iff.1 BF.out).1 (fun h => by omega)).trans BF.out); rw [HZ.out] at q; exact q) p4 p5 p6 (fun b h => by have r1 := Q.out b (q0 b h); have := y0; show w.heap.size ≤ b; omega) (fun b h => by have r2 : b = W3.heap.size := h; have := y0; show w.heap.size ≤ b; omega) (fun b h => by have r1 := Q.out b (q4 b h); have := y0; show w.heap.size ≤ b; omega) (fun b h => by have r1 := Q.out b (q5 b h); have := y0; show w.heap.size ≤ b; omega) (fun b h => by have r1 := Q.out b (q6 b h); have := y0; show w.heap.size ≤ b; omega) (fun b h g => by have r1 := Q.out b (q0 b h); have r2 : b = W3.heap.size := g; omega) (by exact fun b h g => d04 b h g) (by exact fun b h g => d05 b h g) (by exact fun b h g => d06 b h g) (fun b g h => by have r1 := Q.out b (q4 b h); have r2 : b = W3.heap.size := g; omega) (fun b g h => by have r1 := Q.out b (q5 b h); have r2 : b = W3.heap.size := g; omega) (fun b g h => by have r1 := Q.out b (q6 b h); have r2 : b = W3.heap.size := g; omega) d45 d46 d56)
  clear p3 q3 d03 d34 d35 d36
  have DF := hd (Jr d.out tt (fun b h => by omega) yd)
  clear tt r yd y0 y1 y2 y3 y4 y5 y6
  go_wp2
  refine bodyPost_ret (v := .tuple #[.agg #[.slice u0 ss.length m0, .int .i64 now, .int .i64 cu, .slice (some ⟨W3, 0, none⟩) 3 3, .slice u4 qs.length m4, .slice u5 ds.length m5, .slice u6 ls.length m6, .int .i64 st], .bool true]) ?_ rfl ?_
  ·
   simp [results, Tryz.f28, go_sem, e0, e1, e2, e3, e4, e5, e6, e7]
  ·
   rw [HY.out]
   exact ⟨[.slice u0 ss.length m0, .int .i64 now, .int .i64 cu, .slice (some ⟨W3, 0, none⟩) 3 3, .slice u4 qs.length m4, .slice u5 ds.length m5, .slice u6 ls.length m6, .int .i64 st], fun b => w.heap.size ≤ b, rfl, OF.out, fun b h => h, DF.out⟩
 ·
  have HN : Hid (Yf ((ss, now), cu, os, qs, ds, ls, st) ks = (((ss, now), cu, os, qs, ds, ls, st), false)) := hd (by unfold Yf; rw [if_neg (fun g => by rw [ho] at g; cases g.2)])
  clear ho
  have hal : Below W3 W3 (W3.alloc (.cells #[Ja, Ja, Ja] 119)) := (Eh _ _).alloc (Ed _) _
  have Y_BF := hd (show W3.heap.size < (W3.alloc (.cells #[Ja, Ja, Ja] 119)).heap.size by show W3.heap.size < (W3.alloc (.cells #[Ja, Ja, Ja] 119)).heap.size; simp [Ux])
  have BF := hd (Uw W3 (.cells #[Ja, Ja, Ja] 119))
  replace OW := hd (Kf.fresh OW.out hal)
  replace B0 := zb hal B0
  replace BR := zb hal BR
  replace X := zb hal X
  replace d := zD d hal
  clear hal
  have cp_B0_0 := Kh B0.out
  go_wp2_with fail
  clear cp_B0_0
  generalize (W3.alloc (.cells #[Ja, Ja, Ja] 119)) = W4 at *
  refine (implIsEngine now cu st (.slice e0 ss.length n0) (.slice e3 os.length n3) (.slice e4 qs.length n4) (.slice e5 ds.length n5) (.slice e6 ls.length n6) ss os qs ds ls W4 (HTB.out.on d.out) (Jc Jd H0.out d.out) (Jc Jb H3.out d.out) (Jc Ji H4.out d.out) (Jc Jg H5.out d.out) (Jc Jj H6.out d.out) HS.out).mono ?_
  rintro e W5 ⟨rfl, c⟩
  replace OW := hd (Kf.fresh OW.out c)
  replace B0 := zb c B0
  replace BR := zb c BR
  replace X := zb c X
  replace BF := zb c BF
  replace d := zD d c
  have Z_W5 := hd (show W4.heap.size ≤ W5.heap.size from c.size)
  clear c
  rcases Bool.eq_false_or_eq_true (Uj ((ss, now), cu, os, qs, ds, ls, st)) with he | he
  ·
   rw [he]
   clear he
   obtain ⟨p_BR_0, p_BR_1, p_BR_2, p_BR_3, p_BR_4, p_BR_5, p_BR_6, p_BR_7⟩ := Kh BR.out
   obtain ⟨p_X_0, p_X_1, p_X_2, p_X_3, p_X_4, p_X_5, p_X_6, p_X_7⟩ := Kh X.out
   have f_BR_0 := Ut W5 _ 0 _ _ BR.out
   have f_BR_1 := Ut W5 _ 1 _ _ BR.out
   have f_BR_2 := Ut W5 _ 2 _ _ BR.out
   have f_BR_3 := Ut W5 _ 3 _ _ BR.out
   have f_BR_4 := Ut W5 _ 4 _ _ BR.out
   have f_BR_5 := Ut W5 _ 5 _ _ BR.out
   have f_BR_6 := Ut W5 _ 6 _ _ BR.out
   have f_BR_7 := Ut W5 _ 7 _ _ BR.out
   have tt := ts8 W5 (w.heap.size + 1) (.slice u0 ss.length m0) (.int .i64 now) (.int .i64 cu) (.slice u3 os.length m3) (.slice u4 qs.length m4) (.slice u5 ds.length m5) (.slice u6 ls.length m6) (.int .i64 st)
   have r := st8 BR.out (.slice u0 ss.length m0) (.int .i64 now) (.int .i64 cu) (.slice u3 os.length m3) (.slice u4 qs.length m4) (.slice u5 ds.length m5) (.slice u6 ls.length m6) (.int .i64 st)
   try simp at r
   have e0 := cr 0 (Value.slice u0 ss.length m0) r
   have e1 := cr 1 (Value.int .i64 now) r
   have e2 := cr 2 (Value.int .i64 cu) r
   have e3 := cr 3 (Value.slice u3 os.length m3) r
   have e4 := cr 4 (Value.slice u4 qs.length m4) r
   have e5 := cr 5 (Value.slice u5 ds.length m5) r
   have e6 := cr 6 (Value.slice u6 ls.length m6) r
   have e7 := cr 7 (Value.int .i64 st) r
   have y0 := YW.out
   have y1 := Z_W1.out
   have y2 := Y_X.out
   have y3 := Z_W3.out
   have y4 := Y_BF.out
   have y5 := Z_W5.out
   have yd := d.out.size
   have OF := hd (Kf.mono (Kf.turn OW.out tt (fun b h1 h2 => by have r1 := Q.out b h1; omega)) (F' := fun b => w.heap.size ≤ b) (fun b h => by have r1 := Q.out b h; have := y0; show w.heap.size ≤ b; omega))
   have DF := hd (Jr d.out tt (fun b h => by omega) yd)
   clear tt r yd y0 y1 y2 y3 y4 y5
   go_wp2
   refine bodyPost_ret (v := .tuple #[.agg #[.slice u0 ss.length m0, .int .i64 now, .int .i64 cu, .slice u3 os.length m3, .slice u4 qs.length m4, .slice u5 ds.length m5, .slice u6 ls.length m6, .int .i64 st], .bool false]) ?_ rfl ?_
   ·
    simp [results, Tryz.f28, go_sem, e0, e1, e2, e3, e4, e5, e6, e7]
   ·
    rw [HN.out]
    exact ⟨[.slice u0 ss.length m0, .int .i64 now, .int .i64 cu, .slice u3 os.length m3, .slice u4 qs.length m4, .slice u5 ds.length m5, .slice u6 ls.length m6, .int .i64 st], fun b => w.heap.size ≤ b, rfl, OF.out, fun b h => h, DF.out⟩
  ·
   rw [he]
   clear he
   obtain ⟨p_BR_0, p_BR_1, p_BR_2, p_BR_3, p_BR_4, p_BR_5, p_BR_6, p_BR_7⟩ := Kh BR.out
   obtain ⟨p_X_0, p_X_1, p_X_2, p_X_3, p_X_4, p_X_5, p_X_6, p_X_7⟩ := Kh X.out
   have f_BR_0 := Ut W5 _ 0 _ _ BR.out
   have f_BR_1 := Ut W5 _ 1 _ _ BR.out
   have f_BR_2 := Ut W5 _ 2 _ _ BR.out
   have f_BR_3 := Ut W5 _ 3 _ _ BR.out
   have f_BR_4 := Ut W5 _ 4 _ _ BR.out
   have f_BR_5 := Ut W5 _ 5 _ _ BR.out
   have f_BR_6 := Ut W5 _ 6 _ _ BR.out
   have f_BR_7 := Ut W5 _ 7 _ _ BR.out
   have tt := ts8 W5 (w.heap.size + 1) (.slice u0 ss.length m0) (.int .i64 now) (.int .i64 cu) (.slice u3 os.length m3) (.slice u4 qs.length m4) (.slice u5 ds.length m5) (.slice u6 ls.length m6) (.int .i64 st)
   have r := st8 BR.out (.slice u0 ss.length m0) (.int .i64 now) (.int .i64 cu) (.slice u3 os.length m3) (.slice u4 qs.length m4) (.slice u5 ds.length m5) (.slice u6 ls.length m6) (.int .i64 st)
   try simp at r
   have e0 := cr 0 (Value.slice u0 ss.length m0) r
   have e1 := cr 1 (Value.int .i64 now) r
   have e2 := cr 2 (Value.int .i64 cu) r
   have e3 := cr 3 (Value.slice u3 os.length m3) r
   have e4 := cr 4 (Value.slice u4 qs.length m4) r
   have e5 := cr 5 (Value.slice u5 ds.length m5) r
   have e6 := cr 6 (Value.slice u6 ls.length m6) r
   have e7 := cr 7 (Value.int .i64 st) r
   have y0 := YW.out
   have y1 := Z_W1.out
   have y2 := Y_X.out
   have y3 := Z_W3.out
   have y4 := Y_BF.out
   have y5 := Z_W5.out
   have yd := d.out.size
   have OF := hd (Kf.mono (Kf.turn OW.out tt (fun b h1 h2 => by have r1 := Q.out b h1; omega)) (F' := fun b => w.heap.size ≤ b) (fun b h => by have r1 := Q.out b h; have := y0; show w.heap.size ≤ b; omega))
   have DF := hd (Jr d.out tt (fun b h => by omega) yd)
   clear tt r yd y0 y1 y2 y3 y4 y5
   go_wp2
   refine bodyPost_ret (v := .tuple #[.agg #[.slice u0 ss.length m0, .int .i64 now, .int .i64 cu, .slice u3 os.length m3, .slice u4 qs.length m4, .slice u5 ds.length m5, .slice u6 ls.length m6, .int .i64 st], .bool false]) ?_ rfl ?_
   ·
    simp [results, Tryz.f28, go_sem, e0, e1, e2, e3, e4, e5, e6, e7]
   ·
    rw [HN.out]
    exact ⟨[.slice u0 ss.length m0, .int .i64 now, .int .i64 cu, .slice u3 os.length m3, .slice u4 qs.length m4, .slice u5 ds.length m5, .slice u6 ls.length m6, .int .i64 st], fun b => w.heap.size ≤ b, rfl, OF.out, fun b h => h, DF.out⟩
end Go.Proofs.YtcolddalajoheaaGreatDoor
