/-
 Texts of the proof, merged: CanP.
-/
import Derived.Test.YtnepfacnmaoieaaGreatDoorCA2
import Derived.Test.YtnepfacnmaoieaaGreatDoorCA5
import Derived.Test.YtnepfacnmaoieaaGreatDoorCA6
import Derived.Test.YtnepfacnmaoieaaGreatDoorCA13
import Derived.Test.YtnepfacnmaoieaaGreatDoorCA16
import Derived.Test.YtnepfacnmaoieaaGreatDoorCA18
import Derived.BigQuiet
import Derived.Deep.QuietTactic
import Derived.Deep.RegionHeld3
import Derived.Deep.Cut
import Derived.IntWalk
namespace Go.Proofs.YtnepfacnmaoieaaGreatDoor
open Go.RowKit
open Go.World renaming size_alloc → Ie
open Go.Value.slice renaming injEq → Ik
open ZD0
set_option linter.unusedVariables false
set_option linter.unusedSimpArgs false
set_option maxHeartbeats 16000000 in
set_option maxRecDepth 100000 in
theorem implCancelQuery (now cu st : Int) (sv ov av dv lv : Value) (ss : List (List Kj)) (os : List Int) (qs : List Ua) (ds : List FinD) (ls : List Xu) (id : Int) (w : World) (hT : OrdT w)
  (h0 : Ko Jd w sv ss) (h3 : Ko Je w ov os) (h4 : Ko Ji w av qs) (h5 : Ko Jg w dv ds) (h6 : Ko Jo w lv ls) (hs : zL Jd ss + zL Je os + zL Ji qs + zL Jg ds + zL Jo ls ≤ 1048576) :
  Calls Tryz.prog 36 #[.agg #[sv, .int .i64 now, .int .i64 cu, ov, av, dv, lv, .int .i64 st], .int .i64 id] w (FreshEB w (Ut ((ss, now), cu, os, qs, ds, ls, st) id)) := by
 have S0 : Hid (zL Jd ss ≤ 1048576) := zh (by omega)
 have S3 : Hid (zL Je os ≤ 1048576) := zh (by omega)
 have S4 : Hid (zL Ji qs ≤ 1048576) := zh (by omega)
 have S5 : Hid (zL Jg ds ≤ 1048576) := zh (by omega)
 have S6 : Hid (zL Jo ls ≤ 1048576) := zh (by omega)
 have HS := zh hs
 clear hs
 obtain ⟨e0, n0, rfl⟩ := Jl h0
 have H0 := zh h0
 obtain ⟨e3, n3, rfl⟩ := Jl h3
 have H3 := zh h3
 obtain ⟨e4, n4, rfl⟩ := Jl h4
 have H4 := zh h4
 obtain ⟨e5, n5, rfl⟩ := Jl h5
 have H5 := zh h5
 obtain ⟨e6, n6, rfl⟩ := Jl h6
 have H6 := zh h6
 clear h0 h3 h4 h5 h6
 have N4 := Jz S4.out
 have HTB := zh hT
 clear hT
 have SP : Hid (St w [iB (w.heap.size + 1) [(), Ja, Ja, (), (), (), (), Ja] 40, iB w.heap.size [.slice e0 ss.length n0, .int .i64 now, .int .i64 cu, .slice e3 os.length n3, .slice e4 qs.length n4, .slice e5 ds.length n5, .slice e6 ls.length n6, .int .i64 st] 40] ((w.alloc (.cells #[.slice e0 ss.length n0, .int .i64 now, .int .i64 cu, .slice e3 os.length n3, .slice e4 qs.length n4, .slice e5 ds.length n5, .slice e6 ls.length n6, .int .i64 st] 40)).alloc (.cells #[(), Ja, Ja, (), (), (), (), Ja] 40))) := zh (by have := ((St.init w).box [.slice e0 ss.length n0, .int .i64 now, .int .i64 cu, .slice e3 os.length n3, .slice e4 qs.length n4, .slice e5 ds.length n5, .slice e6 ls.length n6, .int .i64 st] 40).box [(), Ja, Ja, (), (), (), (), Ja] 40; simpa only [Ie] using this)
 go_enter Tryz.func36, Tryz.ntmps36
 have ld := Kh (SP.out.gB 1 rfl)
 go_wp2_with fail
 clear ld
 generalize ((w.alloc (.cells #[.slice e0 ss.length n0, .int .i64 now, .int .i64 cu, .slice e3 os.length n3, .slice e4 qs.length n4, .slice e5 ds.length n5, .slice e6 ls.length n6, .int .i64 st] 40)).alloc (.cells #[(), Ja, Ja, (), (), (), (), Ja] 40)) = W0 at *
 refine (copyK_Engine (x := ((ss, now), cu, os, qs, ds, ls, st)) (tEngine_mkR (a1 := now) (a2 := cu) (a7 := st) (Jb Jf H0.out SP.out.d) (Jb Jc H3.out SP.out.d) (Jb Jj H4.out SP.out.d) (Jb Jn H5.out SP.out.d) (Jb Jr H6.out SP.out.d)) (leEngine_of (by rw [tEngine_sz]; exact HS.out))).mono ?_
 rintro e W1 ⟨cs, rfl, ow, c⟩
 obtain ⟨F, sp⟩ := SP.out.pushE Kg c ow (fun b h => h)
 obtain ⟨v0, v3, v4, v5, v6, ety, F0, F3, F4, F5, F6, rfl, sp2⟩ := sp.splitE
 obtain ⟨y0, m0, hu⟩ := Ju (sp2.gS 0 rfl)
 subst hu
 obtain ⟨y3, m3, hu⟩ := Ju (sp2.gS 1 rfl)
 subst hu
 obtain ⟨y4, m4, hu⟩ := Ju (sp2.gS 2 rfl)
 subst hu
 obtain ⟨y5, m5, hu⟩ := Ju (sp2.gS 3 rfl)
 subst hu
 obtain ⟨y6, m6, hu⟩ := Ju (sp2.gS 4 rfl)
 subst hu
 replace SP := zh (sp2.box [.slice y0 ss.length m0, .int .i64 now, .int .i64 cu, .slice y3 os.length m3, .slice y4 qs.length m4, .slice y5 ds.length m5, .slice y6 ls.length m6, .int .i64 st] 40)
 clear sp sp2 ow c
 have ld := Kh (SP.out.gB 7 rfl)
 go_wp2_with fail
 clear ld
 generalize W1.heap.size = X at *
 generalize (W1.alloc (.cells #[.slice y0 ss.length m0, .int .i64 now, .int .i64 cu, .slice y3 os.length m3, .slice y4 qs.length m4, .slice y5 ds.length m5, .slice y6 ls.length m6, .int .i64 st] 40)) = wc at *
 refine (implFindActive now cu st id (.slice e0 ss.length n0) (.slice e3 os.length n3) (.slice e4 qs.length n4) (.slice e5 ds.length n5) (.slice e6 ls.length n6) qs wc (Jb Jj H4.out SP.out.d) N4).mono ?_
 rintro e W2 ⟨rfl, c⟩
 replace SP := zh (SP.out.below c)
 clear c
 have ld := Kh (SP.out.gB 7 rfl)
 go_wp2_with fail
 clear ld
 refine (implIsEngine now cu st (.slice e0 ss.length n0) (.slice e3 os.length n3) (.slice e4 qs.length n4) (.slice e5 ds.length n5) (.slice e6 ls.length n6) ss os qs ds ls _ (HTB.out.on SP.out.d) (Jb Jf H0.out SP.out.d) (Jb Jc H3.out SP.out.d) (Jb Jj H4.out SP.out.d) (Jb Jn H5.out SP.out.d) (Jb Jr H6.out SP.out.d) HS.out).mono ?_
 rintro e W3 ⟨rfl, c⟩
 replace SP := zh (SP.out.below c)
 clear c
 rcases Bool.eq_false_or_eq_true (engB ((ss, now), cu, os, qs, ds, ls, st)) with he | he
 rotate_left
 ·
  rw [he]
  have HN := zh (cancel_no1 (id := id) he)
  clear he
  have ld := Kh (SP.out.gB 0 rfl)
  have lf := Kh (SP.out.gB 6 rfl)
  have fz := Ex (SP.out.gB 6 rfl)
  go_wp2
  clear ld lf fz
  rw [setCells8 (SP.out.gB 6 rfl)]
  have SR := SP.out.store 6 rfl [.slice y0 ss.length m0, .int .i64 now, .int .i64 cu, .slice y3 os.length m3, .slice y4 qs.length m4, .slice y5 ds.length m5, .slice y6 ls.length m6, .int .i64 st]
  have lr := Kh (SR.gB 6 rfl)
  refine bodyPost_ret (v := .tuple #[.agg #[.slice y0 ss.length m0, .int .i64 now, .int .i64 cu, .slice y3 os.length m3, .slice y4 qs.length m4, .slice y5 ds.length m5, .slice y6 ls.length m6, .int .i64 st], .bool false]) ?_ rfl ?_
  ·
   simp [results, Tryz.f36, go_sem, lr]
  obtain ⟨FE, sj⟩ := (SR.sub [1, 2, 3, 4, 5] (by decide)).joinE
  rw [HN.out]
  exact ⟨_, _, rfl, sj.outT 0 rfl, fun b h => h, sj.d⟩
 rw [he]
 have HE := zh he
 clear he
 by_cases hk0 : Uo qs id < 0
 ·
  have HN := zh (cancel_no2 (e := ((ss, now), cu, os, qs, ds, ls, st)) hk0)
  have g0 : decide (Uo qs id < 0) = true := decide_eq_true hk0
  clear hk0
  have ld := Kh (SP.out.gB 0 rfl)
  have lf := Kh (SP.out.gB 6 rfl)
  have fz := Ex (SP.out.gB 6 rfl)
  go_wp2
  clear ld lf fz
  rw [setCells8 (SP.out.gB 6 rfl)]
  have SR := SP.out.store 6 rfl [.slice y0 ss.length m0, .int .i64 now, .int .i64 cu, .slice y3 os.length m3, .slice y4 qs.length m4, .slice y5 ds.length m5, .slice y6 ls.length m6, .int .i64 st]
  have lr := Kh (SR.gB 6 rfl)
  refine bodyPost_ret (v := .tuple #[.agg #[.slice y0 ss.length m0, .int .i64 now, .int .i64 cu, .slice y3 os.length m3, .slice y4 qs.length m4, .slice y5 ds.length m5, .slice y6 ls.length m6, .int .i64 st], .bool false]) ?_ rfl ?_
  ·
   simp [results, Tryz.f36, go_sem, lr]
  obtain ⟨FE, sj⟩ := (SR.sub [1, 2, 3, 4, 5] (by decide)).joinE
  rw [HN.out]
  exact ⟨_, _, rfl, sj.outT 0 rfl, fun b h => h, sj.d⟩
 obtain ⟨k, hk, hkl⟩ := findA_lt (l := qs) (id := id) (by omega)
 have HN := zh (cancel_yes (e := ((ss, now), cu, os, qs, ds, ls, st)) HE.out hk)
 rw [hk]
 clear hk hk0
 have hq4 : 0 < qs.length := by omega
 replace SP := zh (SP.out.sub [3, 0, 1, 2, 4, 5, 6, 7] (by decide))
 rcases Xi (SP.out.gS 0 rfl) with ⟨_, h⟩ | ⟨g, cap, hv, _, _⟩
 ·
  rw [h] at hq4; cases hq4
 simp only [Ik] at hv
 obtain ⟨rfl, _, rfl⟩ := hv
 have hcp : qs.length ≤ m4 := by have := slR_caps2 (SP.out.rS 0 rfl); exact this
 obtain ⟨L, F1, G, hL, sa⟩ := SP.out.apartA
 replace SP := zh sa
 clear sa
 have HL := zh hL
 clear hL
 obtain ⟨q2, hq2⟩ : ∃ q2, q2 = qs.eraseIdx k := ⟨_, rfl⟩
 have HQ2 := zh hq2
 have HQL : Hid (q2.length = qs.length - 1) := zh (by rw [hq2, List.length_eraseIdx]; simp [hkl])
 have HZQ : Hid (zL Ji q2 ≤ 1048576) := zh (by rw [hq2]; exact Nat.le_trans (zL_erase _ _ _) S4.out)
 dsimp only at HN
 rw [← hq2] at HN
 clear hq2
 have hkn : k < qs.length := hkl
 clear hkl
 have HM4 := zh (slO_cap (SP.out.gS 0 rfl))
 have HC := without_P g m4 k F1 L W3 (by rw [HL.out]; exact SP.out.gS 0 rfl) (by rw [HL.out]; exact hkn) (by rw [HL.out]; exact N4)
 rw [HL.out] at HC
 have hFg : F1 g := by obtain ⟨_, _, _, _, o2, _⟩ := SP.out.gS 0 rfl; exact o2 g rfl
 have HFG := zh hFg
 clear hFg
 have ld := Kh (SP.out.gB 2 rfl)
 go_wp2_with fail
 clear ld
 refine HC.mono ?_
 rintro e wc ⟨rfl, o1, t1⟩
 clear HC
 rw [← HQL.out] at o1 ⊢
 replace SP := zh (SP.out.set 0 rfl (iS 104 Ud F1 (.slice (some ⟨g, 0, none⟩) q2.length m4) (L.eraseIdx k)) (fun _ h => h) (t1.mono (fun b hb => by have hb : b = g := hb; rw [hb]; exact HFG.out)) o1)
 clear o1 t1
 replace SP := zh (SP.out.set 1 rfl (iE Jj G (L.eraseIdx k) (qs.eraseIdx k)) (fun _ h => h) (Kb.refl _ _) (els_erase (SP.out.s.get 1 rfl) hkn))
 rw [← HQ2.out] at SP
 obtain ⟨F7, sj⟩ := SP.out.joinA
 replace SP := zh sj
 clear sj
 have lc := SP.out.cell 1 rfl 4 rfl
 have fz := SP.out.froz 1 rfl 4
 go_upto_region 6 with fail
 clear lc fz
 have e := Jv (SP.out.gB 1 rfl) 4 (.slice (some ⟨g, 0, none⟩) q2.length m4)
 simp only [List.setIfInBounds_toArray, List.set_cons_zero, List.set_cons_succ] at e
 rw [e]
 clear e
 replace SP := zh (SP.out.store 1 rfl [.slice y0 ss.length m0, .int .i64 now, .int .i64 cu, .slice y3 os.length m3, .slice (some ⟨g, 0, none⟩) q2.length m4, .slice y5 ds.length m5, .slice y6 ls.length m6, .int .i64 st])
 generalize (wc.setRow X #[.slice y0 ss.length m0, .int .i64 now, .int .i64 cu, .slice y3 os.length m3, .slice (some ⟨g, 0, none⟩) q2.length m4, .slice y5 ds.length m5, .slice y6 ls.length m6, .int .i64 st]) = wd at *
 have HC := implReclaim X now y0 (some ⟨g, 0, none⟩) m0 m4 (.int .i64 cu) (.slice y3 os.length m3) (.slice y5 ds.length m5) (.slice y6 ls.length m6) (.int .i64 st) ss q2 _ (SP.out.gB 1 rfl) (SP.out.rS 2 rfl) S0.out (SP.out.rS 0 rfl) (Jz HZQ.out)
 generalize recE (ss, now) q2 = r at *
 obtain ⟨ss2, now2⟩ := r
 go_wp2_with fail
 refine HC.mono ?_
 rintro e we ⟨sv2, F2, rfl, o2, q2_, row, tn⟩
 clear HC
 obtain ⟨s2, c2, hu⟩ := Ju o2
 subst hu
 dsimp only at row o2 HN
 replace SP := zh (SP.out.turned 1 rfl tn (.slice s2 ss2.length c2 :: .int .i64 now2 :: [.int .i64 cu, .slice y3 os.length m3, .slice (some ⟨g, 0, none⟩) q2.length m4, .slice y5 ds.length m5, .slice y6 ls.length m6, .int .i64 st]) row (iS 213 Jf (fun b => F2 b ∧ b < we.heap.size) (.slice s2 ss2.length c2) ss2) (Kn Jf o2) (fun b hb => ⟨q2_ b hb.1, hb.2⟩))
 clear o2 q2_ row tn
 have ld := Kh (SP.out.gB 2 rfl)
 have lf := Kh (SP.out.gB 7 rfl)
 have fz := Ex (SP.out.gB 7 rfl)
 go_wp2
 clear ld lf fz
 rw [setCells8 (SP.out.gB 7 rfl)]
 have SR := SP.out.store 7 rfl [.slice s2 ss2.length c2, .int .i64 now2, .int .i64 cu, .slice y3 os.length m3, .slice (some ⟨g, 0, none⟩) q2.length m4, .slice y5 ds.length m5, .slice y6 ls.length m6, .int .i64 st]
 have lr := Kh (SR.gB 7 rfl)
 refine bodyPost_ret (v := .tuple #[.agg #[.slice s2 ss2.length c2, .int .i64 now2, .int .i64 cu, .slice y3 os.length m3, .slice (some ⟨g, 0, none⟩) q2.length m4, .slice y5 ds.length m5, .slice y6 ls.length m6, .int .i64 st], .bool true]) ?_ rfl ?_
 ·
  simp [results, Tryz.f36, go_sem, lr]
 obtain ⟨FE, sj⟩ := (SR.sub [0, 4, 1, 5, 6] (by decide)).joinE
 rw [HN.out]
 exact ⟨_, _, rfl, sj.outT 0 rfl, fun b h => h, sj.d⟩
end Go.Proofs.YtnepfacnmaoieaaGreatDoor
