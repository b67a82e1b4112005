/-
 Texts of the proof, merged: CanS.
-/
import Derived.Test.YtnepfacnmaoieaaGreatDoorCA2
import Derived.Test.YtnepfacnmaoieaaGreatDoorCA5
import Derived.Test.YtnepfacnmaoieaaGreatDoorCA6
import Derived.Test.YtnepfacnmaoieaaGreatDoorCA7
import Derived.Test.YtnepfacnmaoieaaGreatDoorCA8
import Derived.Test.YtnepfacnmaoieaaGreatDoorCA11
import Derived.Test.YtnepfacnmaoieaaGreatDoorCA13
import Derived.BigQuiet
import Derived.Deep.QuietTactic
import Derived.Deep.RegionHeld3
import Derived.Deep.Cut
import Derived.IntWalk
namespace Go.Proofs.YtnepfacnmaoieaaGreatDoor
open Go.RowKit
open Go.World renaming size_alloc → Ie
open Nat renaming le_refl → Ii
open Go.Value.slice renaming injEq → Ik
open ZD0
set_option linter.unusedVariables false
set_option linter.unusedSimpArgs false
theorem info_raw10 : Yn (Ub 10) 104 (.agg #[Ja, Ja, (), (), Ja, (), Ja, Ja, Ja, ()]) := Yv (by kernel_rfl)
set_option maxHeartbeats 16000000 in
set_option maxRecDepth 100000 in
theorem specCancelQuery (now cu st : Int) (sv ov av dv lv : Value) (ss : List (List Kj)) (os : List Int) (qs : List Ua) (ds : List FinD) (ls : List Xu) (id : Int) (w : World)
  (h0 : Ko Jd w sv ss) (h3 : Ko Je w ov os) (h4 : Ko Ji w av qs) (h5 : Ko Jg w dv ds) (h6 : Ko Jo w lv ls) (hs : zL Jd ss + zL Je os + zL Ji qs + zL Jg ds + zL Jo ls ≤ 1048576) :
  Calls Tryz.prog 35 #[.agg #[sv, .int .i64 now, .int .i64 cu, ov, av, dv, lv, .int .i64 st], .int .i64 id] w (FreshEB w (Ut ((ss, now), cu, os, qs, ds, ls, st) id)) := by
 have S0 : Hid (zL Jd ss ≤ 1048576) := zh (by omega)
 have S3 : Hid (zL Je os ≤ 1048576) := zh (by omega)
 have S4 : Hid (zL Ji qs ≤ 1048576) := zh (by omega)
 have S5 : Hid (zL Jg ds ≤ 1048576) := zh (by omega)
 have S6 : Hid (zL Jo ls ≤ 1048576) := zh (by omega)
 have HS := zh hs
 clear hs
 obtain ⟨e0, n0, rfl⟩ := Jl h0
 have H0 := zh h0
 obtain ⟨e3, n3, rfl⟩ := Jl h3
 have H3 := zh h3
 obtain ⟨e4, n4, rfl⟩ := Jl h4
 have H4 := zh h4
 obtain ⟨e5, n5, rfl⟩ := Jl h5
 have H5 := zh h5
 obtain ⟨e6, n6, rfl⟩ := Jl h6
 have H6 := zh h6
 clear h0 h3 h4 h5 h6
 have N4 := Jz S4.out
 have SP : Hid (St w [iB (w.heap.size + 1) [(), Ja, Ja, (), (), (), (), Ja] 40, iB w.heap.size [.slice e0 ss.length n0, .int .i64 now, .int .i64 cu, .slice e3 os.length n3, .slice e4 qs.length n4, .slice e5 ds.length n5, .slice e6 ls.length n6, .int .i64 st] 40] ((w.alloc (.cells #[.slice e0 ss.length n0, .int .i64 now, .int .i64 cu, .slice e3 os.length n3, .slice e4 qs.length n4, .slice e5 ds.length n5, .slice e6 ls.length n6, .int .i64 st] 40)).alloc (.cells #[(), Ja, Ja, (), (), (), (), Ja] 40))) := zh (by have := ((St.init w).box [.slice e0 ss.length n0, .int .i64 now, .int .i64 cu, .slice e3 os.length n3, .slice e4 qs.length n4, .slice e5 ds.length n5, .slice e6 ls.length n6, .int .i64 st] 40).box [(), Ja, Ja, (), (), (), (), Ja] 40; simpa only [Ie] using this)
 go_enter Tryz.func35, Tryz.ntmps35
 have ld := Kh (SP.out.gB 1 rfl)
 go_wp2_with fail
 clear ld
 generalize ((w.alloc (.cells #[.slice e0 ss.length n0, .int .i64 now, .int .i64 cu, .slice e3 os.length n3, .slice e4 qs.length n4, .slice e5 ds.length n5, .slice e6 ls.length n6, .int .i64 st] 40)).alloc (.cells #[(), Ja, Ja, (), (), (), (), Ja] 40)) = W0 at *
 refine (copy_l9Copy now cu st (.slice e0 ss.length n0) (.slice e3 os.length n3) (.slice e4 qs.length n4) (.slice e5 ds.length n5) (.slice e6 ls.length n6) ss os qs ds ls W0 (Jb Jf H0.out SP.out.d) (Jb Jc H3.out SP.out.d) (Jb Jj H4.out SP.out.d) (Jb Jn H5.out SP.out.d) (Jb Jr H6.out SP.out.d) S0.out S3.out S4.out S5.out S6.out).mono ?_
 rintro e W1 ⟨cs, rfl, ow, c⟩
 obtain ⟨F, sp⟩ := SP.out.pushE Kg c ow (fun b h => h)
 obtain ⟨v0, v3, v4, v5, v6, ety, F0, F3, F4, F5, F6, rfl, sp2⟩ := sp.splitE
 obtain ⟨y0, m0, hu⟩ := Ju (sp2.gS 0 rfl)
 subst hu
 obtain ⟨y3, m3, hu⟩ := Ju (sp2.gS 1 rfl)
 subst hu
 obtain ⟨y4, m4, hu⟩ := Ju (sp2.gS 2 rfl)
 subst hu
 obtain ⟨y5, m5, hu⟩ := Ju (sp2.gS 3 rfl)
 subst hu
 obtain ⟨y6, m6, hu⟩ := Ju (sp2.gS 4 rfl)
 subst hu
 replace SP := zh (sp2.box [.slice y0 ss.length m0, .int .i64 now, .int .i64 cu, .slice y3 os.length m3, .slice y4 qs.length m4, .slice y5 ds.length m5, .slice y6 ls.length m6, .int .i64 st] 40)
 clear sp sp2 ow c
 have ld := Kh (SP.out.gB 7 rfl)
 go_wp2_with fail
 clear ld
 generalize W1.heap.size = X at *
 generalize (W1.alloc (.cells #[.slice y0 ss.length m0, .int .i64 now, .int .i64 cu, .slice y3 os.length m3, .slice y4 qs.length m4, .slice y5 ds.length m5, .slice y6 ls.length m6, .int .i64 st] 40)) = wc at *
 refine (specFindActive now cu st id (.slice e0 ss.length n0) (.slice e3 os.length n3) (.slice e4 qs.length n4) (.slice e5 ds.length n5) (.slice e6 ls.length n6) qs wc (Jb Jj H4.out SP.out.d) N4).mono ?_
 rintro e W2 ⟨rfl, c⟩
 replace SP := zh (SP.out.below c)
 clear c
 have ld := Kh (SP.out.gB 7 rfl)
 go_wp2_with fail
 clear ld
 refine (specIsEngine now cu st (.slice e0 ss.length n0) (.slice e3 os.length n3) (.slice e4 qs.length n4) (.slice e5 ds.length n5) (.slice e6 ls.length n6) ss os qs ds ls _ (Jb Jf H0.out SP.out.d) (Jb Jc H3.out SP.out.d) (Jb Jj H4.out SP.out.d) (Jb Jn H5.out SP.out.d) (Jb Jr H6.out SP.out.d) HS.out).mono ?_
 rintro e W3 ⟨rfl, c⟩
 replace SP := zh (SP.out.below c)
 clear c
 rcases Bool.eq_false_or_eq_true (engB ((ss, now), cu, os, qs, ds, ls, st)) with he | he
 rotate_left
 ·
  rw [he]
  have HN := zh (cancel_no1 (id := id) he)
  clear he
  have ld := Kh (SP.out.gB 0 rfl)
  have lf := Kh (SP.out.gB 6 rfl)
  have fz := Ex (SP.out.gB 6 rfl)
  go_wp2
  clear ld lf fz
  rw [setCells8 (SP.out.gB 6 rfl)]
  have SR := SP.out.store 6 rfl [.slice y0 ss.length m0, .int .i64 now, .int .i64 cu, .slice y3 os.length m3, .slice y4 qs.length m4, .slice y5 ds.length m5, .slice y6 ls.length m6, .int .i64 st]
  have lr := Kh (SR.gB 6 rfl)
  refine bodyPost_ret (v := .tuple #[.agg #[.slice y0 ss.length m0, .int .i64 now, .int .i64 cu, .slice y3 os.length m3, .slice y4 qs.length m4, .slice y5 ds.length m5, .slice y6 ls.length m6, .int .i64 st], .bool false]) ?_ rfl ?_
  ·
   simp [results, Tryz.f35, go_sem, lr]
  obtain ⟨FE, sj⟩ := (SR.sub [1, 2, 3, 4, 5] (by decide)).joinE
  rw [HN.out]
  exact ⟨_, _, rfl, sj.outT 0 rfl, fun b h => h, sj.d⟩
 rw [he]
 have HE := zh he
 clear he
 by_cases hk0 : Uo qs id < 0
 ·
  have HN := zh (cancel_no2 (e := ((ss, now), cu, os, qs, ds, ls, st)) hk0)
  have g0 : decide (Uo qs id < 0) = true := decide_eq_true hk0
  clear hk0
  have ld := Kh (SP.out.gB 0 rfl)
  have lf := Kh (SP.out.gB 6 rfl)
  have fz := Ex (SP.out.gB 6 rfl)
  go_wp2
  clear ld lf fz
  rw [setCells8 (SP.out.gB 6 rfl)]
  have SR := SP.out.store 6 rfl [.slice y0 ss.length m0, .int .i64 now, .int .i64 cu, .slice y3 os.length m3, .slice y4 qs.length m4, .slice y5 ds.length m5, .slice y6 ls.length m6, .int .i64 st]
  have lr := Kh (SR.gB 6 rfl)
  refine bodyPost_ret (v := .tuple #[.agg #[.slice y0 ss.length m0, .int .i64 now, .int .i64 cu, .slice y3 os.length m3, .slice y4 qs.length m4, .slice y5 ds.length m5, .slice y6 ls.length m6, .int .i64 st], .bool false]) ?_ rfl ?_
  ·
   simp [results, Tryz.f35, go_sem, lr]
  obtain ⟨FE, sj⟩ := (SR.sub [1, 2, 3, 4, 5] (by decide)).joinE
  rw [HN.out]
  exact ⟨_, _, rfl, sj.outT 0 rfl, fun b h => h, sj.d⟩
 obtain ⟨k, hk, hkl⟩ := findA_lt (l := qs) (id := id) (by omega)
 have HN := zh (cancel_yes (e := ((ss, now), cu, os, qs, ds, ls, st)) HE.out hk)
 rw [hk]
 clear hk hk0
 have hq4 : 0 < qs.length := by omega
 replace SP := zh (SP.out.sub [3, 0, 1, 2, 4, 5, 6, 7] (by decide))
 rcases Xi (SP.out.gS 0 rfl) with ⟨_, h⟩ | ⟨g, cap, hv, _, _⟩
 ·
  rw [h] at hq4; cases hq4
 simp only [Ik] at hv
 obtain ⟨rfl, _, rfl⟩ := hv
 have hcp : qs.length ≤ m4 := by have := slR_caps2 (SP.out.rS 0 rfl); exact this
 obtain ⟨L, F1, G, hL, sa⟩ := SP.out.apartA
 replace SP := zh sa
 clear sa
 have HL := zh hL
 clear hL
 obtain ⟨q2, hq2⟩ : ∃ q2, q2 = qs.eraseIdx k := ⟨_, rfl⟩
 have HQ2 := zh hq2
 have HQL : Hid (q2.length = qs.length - 1) := zh (by rw [hq2, List.length_eraseIdx]; simp [hkl])
 have HZQ : Hid (zL Ji q2 ≤ 1048576) := zh (by rw [hq2]; exact Nat.le_trans (zL_erase _ _ _) S4.out)
 dsimp only at HN
 rw [← hq2] at HN
 clear hq2
 have hkn : k < qs.length := hkl
 clear hkl
 have HM4 := zh (slO_cap (SP.out.gS 0 rfl))
 go_wp2
 refine wp_region_held_drew (S := fun _ => True) (by kernel_rfl) trivial (fun hHeld => ?_)
 replace SP := zh SP.out.drew
 generalize W3.drew = wc at *
 have i1 : (0 : Int) ≤ (k : Int) := by omega
 have i2 : (k : Int) ≤ (qs.length : Int) := by omega
 have i3 : (k : Int) + 1 ≤ (qs.length : Int) := by omega
 have i4 : k ≤ m4 := by omega
 have i5 : ¬ m4 = k := by omega
 have i7 : k + 1 ≤ qs.length := by omega
 have i9 : (0 : Int) ≤ (k : Int) + 1 := by omega
 have i10 : k ≤ qs.length := by omega
 by_cases hc : k + 1 = m4
 ·
  have i6 : k + 1 = m4 := hc
  have i8 : m4 ≤ qs.length := by omega
  have j1 : Hid (k ≤ L.length) := zh (by rw [HL.out]; omega)
  have j2 : Hid (k + 1 ≤ L.length) := zh (by rw [HL.out]; omega)
  have j3 : Hid (([] : List (List Value)).length + (L.take k).length ≤ 2097152) := zh (by rw [List.length_take]; simp; omega)
  have j4 : Hid ((L.take k).length + (L.drop (k + 1)).length ≤ 2097152) := zh (by rw [List.length_take, List.length_drop, HL.out]; omega)
  have j5 : Hid (L.drop (k + 1) = []) := zh (List.drop_eq_nil_of_le (by rw [HL.out]; omega))
  have hw : IntKind.i64.wrap ((k : Int) + 1) = ((k + 1 : Nat) : Int) := by rw [IntWalk.i64_in _ (by omega)]; rfl
  refine uQ 1 ?_
  try simp only [Act.put, lA, lB, lC]
  refine uQ 3 ?_
  try simp only [Act.put, lA, lB, lC]
  refine uQ 6 ?_
  try simp only [Act.put, lA, lB, lC]
  refine uQ 8 ?_
  try simp only [Act.put, lA, lB, lC]
  refine uQ 9 ?_
  try simp only [Act.put, lA, lB, lC]
  repeat' first
   | (have t := ‹Tok 0›
      clear tk t
      replace SP := zh (SP.out.empty Ud 104)
      go_simp
      generalize wc.heap.size = gb at *
      generalize (wc.alloc (.cells #[] 104)) = wc at *
      refine hK.out _ _ trivial (fun hHeld => ?_)
      clear hK K
      try simp only [Act.put, lA, lB, lC])
   | (have t := ‹Tok 2›
      clear tk t
      have lc := (show wc.heap[X]? = some (.cells #[.slice y0 ss.length m0, .int .i64 now, .int .i64 cu, .slice y3 os.length m3, .slice (some ⟨g, 0, none⟩) qs.length m4, .slice y5 ds.length m5, .slice y6 ls.length m6, .int .i64 st] 40 (0, 0)) by first | exact SP.out.gB 2 rfl | exact SP.out.gB 3 rfl)
      have lc8 := Kh lc
      clear lc
      go_simp
      clear lc8
      refine hK.out _ _ trivial (fun hHeld => ?_)
      clear hK K
      try simp only [Act.put, lA, lB, lC])
   | (have t := ‹Tok 7›
      clear tk t
      have lc := (show wc.heap[X]? = some (.cells #[.slice y0 ss.length m0, .int .i64 now, .int .i64 cu, .slice y3 os.length m3, .slice (some ⟨g, 0, none⟩) qs.length m4, .slice y5 ds.length m5, .slice y6 ls.length m6, .int .i64 st] 40 (0, 0)) by first | exact SP.out.gB 2 rfl | exact SP.out.gB 3 rfl)
      have lc8 := Kh lc
      clear lc
      go_simp
      clear lc8
      refine hK.out _ _ trivial (fun hHeld => ?_)
      clear hK K
      try simp only [Act.put, lA, lB, lC])
   | (have t := ‹Tok 5›
      clear tk t
      refine Kv Ud (flat_raw 10) info_raw10 Tryz.underlying36 rfl rfl (.tmp 21) (.tmp 25) rfl (fun b => b = gb) (fun b => b = gb ∨ b = wc.heap.size) _ _ [] (L.take k) rfl rfl (SP.out.gS 0 rfl) (slR_pre (SP.out.rS 1 rfl) j1.out) (fun _ h => Or.inl h) (Or.inr rfl) j3.out ?_
      intro u8 wn oN tN
      rw [List.nil_append] at oN
      obtain ⟨F8, s8⟩ := SP.out.appS 0 rfl oN tN (fun b h => h.imp_right (fun q => by rw [q]; exact Ii _))
      replace SP := zh s8
      clear s8 oN tN
      rename World => wc
      refine hK.out _ _ trivial (fun hHeld => ?_)
      clear hK K
      try simp only [Act.put, lA, lB, lC])
   | (have t := ‹Tok 13›
      clear tk t
      have lc := SP.out.cell 3 rfl 4 rfl
      have fz := SP.out.froz 3 rfl 4
      go_simp
      clear lc fz
      have e := Jv (SP.out.gB 3 rfl) 4 (.slice b9 q2.length d9)
      simp only [List.setIfInBounds_toArray, List.set_cons_zero, List.set_cons_succ] at e
      rw [e]
      clear e
      replace SP := zh (SP.out.store 3 rfl [.slice y0 ss.length m0, .int .i64 now, .int .i64 cu, .slice y3 os.length m3, .slice b9 q2.length d9, .slice y5 ds.length m5, .slice y6 ls.length m6, .int .i64 st])
      generalize (wc.setRow X #[.slice y0 ss.length m0, .int .i64 now, .int .i64 cu, .slice y3 os.length m3, .slice b9 q2.length d9, .slice y5 ds.length m5, .slice y6 ls.length m6, .int .i64 st]) = wc at *
      refine hK.out _ _ trivial (fun hHeld => ?_)
      clear hK K
      try simp only [Act.put, lA, lB, lC])
   | (have t := ‹Tok 11›
      clear tk t
      refine Kv Ud (flat_raw 10) info_raw10 Tryz.underlying36 rfl rfl (.tmp 26) (.tmp 31) rfl F8 (fun b => F8 b ∨ b = wc.heap.size) _ _ (L.take k) (L.drop (k + 1)) rfl rfl (SP.out.gS 0 rfl) (Or.inl ⟨j5.out, _, _, rfl⟩) (fun _ h => Or.inl h) (Or.inr rfl) j4.out ?_
      intro u9 wn oN tN
      rw [← List.eraseIdx_eq_take_drop_succ] at oN
      obtain ⟨F9, s9⟩ := SP.out.appS 0 rfl oN tN (fun b h => h.imp_right (fun q => by rw [q]; exact Ii _))
      obtain ⟨b9, d9, hu⟩ := Ju oN
      have e9 : (L.eraseIdx k).length = q2.length := by rw [HQL.out, List.length_eraseIdx, HL.out]; simp [hkn]
      rw [e9] at hu
      subst hu
      replace SP := zh s9
      clear s9 oN tN e9
      rename World => wc
      refine hK.out _ _ trivial (fun hHeld => ?_)
      clear hK K
      try simp only [Act.put, lA, lB, lC])
   | (refine uQ 4 ?_; try simp only [Act.put, lA, lB, lC])
   | (refine uQ 10 ?_; try simp only [Act.put, lA, lB, lC])
   | (refine uQ 12 ?_; try simp only [Act.put, lA, lB, lC])
   | (refine u3 0 2 7 ?_ ?_ ?_ <;> intro K hK tk)
   | (refine u2 0 2 ?_ ?_ <;> intro K hK tk)
   | (refine u1 0 ?_ <;> intro K hK tk)
   | (refine u1 5 ?_ <;> intro K hK tk)
   | (refine u1 11 ?_ <;> intro K hK tk)
   | (refine u1 13 ?_ <;> intro K hK tk)
   | (refine u1 2 ?_ <;> intro K hK tk)
   | (refine u2 0 7 ?_ ?_ <;> intro K hK tk)
   | (refine u2 5 7 ?_ ?_ <;> intro K hK tk)
   | (refine u1 7 ?_ <;> intro K hK tk)
   | (refine u2 2 7 ?_ ?_ <;> intro K hK tk)
   | (refine uZ ?_
      clear hHeld
      clear hw i1 i2 i3 i4 i5 i6 i7 i9 i10 i8
      replace SP := zh (SP.out.sub [0, 2, 3, 4, 5, 6, 7, 8, 9] (by decide))
      replace SP := zh (SP.out.set 1 rfl (iE Jj G (L.eraseIdx k) (qs.eraseIdx k)) (fun _ h => h) (Kb.refl _ _) (els_erase (SP.out.s.get 1 rfl) hkn))
      rw [← HQ2.out] at SP
      obtain ⟨F7, sj⟩ := SP.out.joinA
      replace SP := zh sj
      clear sj
      generalize wc = wd at *
      have HC := specReclaim X now y0 b9 m0 d9 (.int .i64 cu) (.slice y3 os.length m3) (.slice y5 ds.length m5) (.slice y6 ls.length m6) (.int .i64 st) ss q2 _ (SP.out.gB 1 rfl) (SP.out.rS 2 rfl) S0.out (SP.out.rS 0 rfl) (Jz HZQ.out)
      generalize recE (ss, now) q2 = r at *
      obtain ⟨ss2, now2⟩ := r
      go_wp2_with fail
      refine HC.mono ?_
      rintro e we ⟨sv2, F2, rfl, o2, q2_, row, tn⟩
      clear HC
      obtain ⟨s2, c2, hu⟩ := Ju o2
      subst hu
      dsimp only at row o2 HN
      replace SP := zh (SP.out.turned 1 rfl tn (.slice s2 ss2.length c2 :: .int .i64 now2 :: [.int .i64 cu, .slice y3 os.length m3, .slice b9 q2.length d9, .slice y5 ds.length m5, .slice y6 ls.length m6, .int .i64 st]) row (iS 213 Jf (fun b => F2 b ∧ b < we.heap.size) (.slice s2 ss2.length c2) ss2) (Kn Jf o2) (fun b hb => ⟨q2_ b hb.1, hb.2⟩))
      clear o2 q2_ row tn
      have ld := Kh (SP.out.gB 2 rfl)
      have lf := Kh (SP.out.gB 7 rfl)
      have fz := Ex (SP.out.gB 7 rfl)
      go_wp2
      clear ld lf fz
      rw [setCells8 (SP.out.gB 7 rfl)]
      have SR := SP.out.store 7 rfl [.slice s2 ss2.length c2, .int .i64 now2, .int .i64 cu, .slice y3 os.length m3, .slice b9 q2.length d9, .slice y5 ds.length m5, .slice y6 ls.length m6, .int .i64 st]
      have lr := Kh (SR.gB 7 rfl)
      refine bodyPost_ret (v := .tuple #[.agg #[.slice s2 ss2.length c2, .int .i64 now2, .int .i64 cu, .slice y3 os.length m3, .slice b9 q2.length d9, .slice y5 ds.length m5, .slice y6 ls.length m6, .int .i64 st], .bool true]) ?_ rfl ?_
      · simp [results, Tryz.f35, go_sem, lr]
      obtain ⟨FE, sj⟩ := (SR.sub [0, 4, 1, 5, 6] (by decide)).joinE
      rw [HN.out]
      exact ⟨_, _, rfl, sj.outT 0 rfl, fun b h => h, sj.d⟩)
 ·
  have i6 : ¬ m4 = k + 1 := fun h => hc h.symm
  have j1 : Hid (k ≤ L.length) := zh (by rw [HL.out]; omega)
  have j2 : Hid (k + 1 ≤ L.length) := zh (by rw [HL.out]; omega)
  have j3 : Hid (([] : List (List Value)).length + (L.take k).length ≤ 2097152) := zh (by rw [List.length_take]; simp; omega)
  have j4 : Hid ((L.take k).length + (L.drop (k + 1)).length ≤ 2097152) := zh (by rw [List.length_take, List.length_drop, HL.out]; omega)
  have hw : IntKind.i64.wrap ((k : Int) + 1) = ((k + 1 : Nat) : Int) := by rw [IntWalk.i64_in _ (by omega)]; rfl
  refine uQ 1 ?_
  try simp only [Act.put, lA, lB, lC]
  refine uQ 3 ?_
  try simp only [Act.put, lA, lB, lC]
  refine uQ 6 ?_
  try simp only [Act.put, lA, lB, lC]
  refine uQ 8 ?_
  try simp only [Act.put, lA, lB, lC]
  refine uQ 9 ?_
  try simp only [Act.put, lA, lB, lC]
  repeat' first
   | (have t := ‹Tok 0›
      clear tk t
      replace SP := zh (SP.out.empty Ud 104)
      go_simp
      generalize wc.heap.size = gb at *
      generalize (wc.alloc (.cells #[] 104)) = wc at *
      refine hK.out _ _ trivial (fun hHeld => ?_)
      clear hK K
      try simp only [Act.put, lA, lB, lC])
   | (have t := ‹Tok 2›
      clear tk t
      have lc := (show wc.heap[X]? = some (.cells #[.slice y0 ss.length m0, .int .i64 now, .int .i64 cu, .slice y3 os.length m3, .slice (some ⟨g, 0, none⟩) qs.length m4, .slice y5 ds.length m5, .slice y6 ls.length m6, .int .i64 st] 40 (0, 0)) by first | exact SP.out.gB 2 rfl | exact SP.out.gB 3 rfl)
      have lc8 := Kh lc
      clear lc
      go_simp
      clear lc8
      refine hK.out _ _ trivial (fun hHeld => ?_)
      clear hK K
      try simp only [Act.put, lA, lB, lC])
   | (have t := ‹Tok 7›
      clear tk t
      have lc := (show wc.heap[X]? = some (.cells #[.slice y0 ss.length m0, .int .i64 now, .int .i64 cu, .slice y3 os.length m3, .slice (some ⟨g, 0, none⟩) qs.length m4, .slice y5 ds.length m5, .slice y6 ls.length m6, .int .i64 st] 40 (0, 0)) by first | exact SP.out.gB 2 rfl | exact SP.out.gB 3 rfl)
      have lc8 := Kh lc
      clear lc
      go_simp
      clear lc8
      refine hK.out _ _ trivial (fun hHeld => ?_)
      clear hK K
      try simp only [Act.put, lA, lB, lC])
   | (have t := ‹Tok 5›
      clear tk t
      refine Kv Ud (flat_raw 10) info_raw10 Tryz.underlying36 rfl rfl (.tmp 21) (.tmp 25) rfl (fun b => b = gb) (fun b => b = gb ∨ b = wc.heap.size) _ _ [] (L.take k) rfl rfl (SP.out.gS 0 rfl) (slR_pre (SP.out.rS 1 rfl) j1.out) (fun _ h => Or.inl h) (Or.inr rfl) j3.out ?_
      intro u8 wn oN tN
      rw [List.nil_append] at oN
      obtain ⟨F8, s8⟩ := SP.out.appS 0 rfl oN tN (fun b h => h.imp_right (fun q => by rw [q]; exact Ii _))
      replace SP := zh s8
      clear s8 oN tN
      rename World => wc
      refine hK.out _ _ trivial (fun hHeld => ?_)
      clear hK K
      try simp only [Act.put, lA, lB, lC])
   | (have t := ‹Tok 13›
      clear tk t
      have lc := SP.out.cell 3 rfl 4 rfl
      have fz := SP.out.froz 3 rfl 4
      go_simp
      clear lc fz
      have e := Jv (SP.out.gB 3 rfl) 4 (.slice b9 q2.length d9)
      simp only [List.setIfInBounds_toArray, List.set_cons_zero, List.set_cons_succ] at e
      rw [e]
      clear e
      replace SP := zh (SP.out.store 3 rfl [.slice y0 ss.length m0, .int .i64 now, .int .i64 cu, .slice y3 os.length m3, .slice b9 q2.length d9, .slice y5 ds.length m5, .slice y6 ls.length m6, .int .i64 st])
      generalize (wc.setRow X #[.slice y0 ss.length m0, .int .i64 now, .int .i64 cu, .slice y3 os.length m3, .slice b9 q2.length d9, .slice y5 ds.length m5, .slice y6 ls.length m6, .int .i64 st]) = wc at *
      refine hK.out _ _ trivial (fun hHeld => ?_)
      clear hK K
      try simp only [Act.put, lA, lB, lC])
   | (have t := ‹Tok 11›
      clear tk t
      refine Kv Ud (flat_raw 10) info_raw10 Tryz.underlying36 rfl rfl (.tmp 26) (.tmp 31) rfl F8 (fun b => F8 b ∨ b = wc.heap.size) _ _ (L.take k) (L.drop (k + 1)) rfl rfl (SP.out.gS 0 rfl) (by have q := slR_suf (SP.out.rS 1 rfl) (k := k + 1) j2.out; rw [Nat.zero_add] at q; exact q) (fun _ h => Or.inl h) (Or.inr rfl) j4.out ?_
      intro u9 wn oN tN
      rw [← List.eraseIdx_eq_take_drop_succ] at oN
      obtain ⟨F9, s9⟩ := SP.out.appS 0 rfl oN tN (fun b h => h.imp_right (fun q => by rw [q]; exact Ii _))
      obtain ⟨b9, d9, hu⟩ := Ju oN
      have e9 : (L.eraseIdx k).length = q2.length := by rw [HQL.out, List.length_eraseIdx, HL.out]; simp [hkn]
      rw [e9] at hu
      subst hu
      replace SP := zh s9
      clear s9 oN tN e9
      rename World => wc
      refine hK.out _ _ trivial (fun hHeld => ?_)
      clear hK K
      try simp only [Act.put, lA, lB, lC])
   | (refine uQ 4 ?_; try simp only [Act.put, lA, lB, lC])
   | (refine uQ 10 ?_; try simp only [Act.put, lA, lB, lC])
   | (refine uQ 12 ?_; try simp only [Act.put, lA, lB, lC])
   | (refine u3 0 2 7 ?_ ?_ ?_ <;> intro K hK tk)
   | (refine u2 0 2 ?_ ?_ <;> intro K hK tk)
   | (refine u1 0 ?_ <;> intro K hK tk)
   | (refine u1 5 ?_ <;> intro K hK tk)
   | (refine u1 11 ?_ <;> intro K hK tk)
   | (refine u1 13 ?_ <;> intro K hK tk)
   | (refine u1 2 ?_ <;> intro K hK tk)
   | (refine u2 0 7 ?_ ?_ <;> intro K hK tk)
   | (refine u2 5 7 ?_ ?_ <;> intro K hK tk)
   | (refine u1 7 ?_ <;> intro K hK tk)
   | (refine u2 2 7 ?_ ?_ <;> intro K hK tk)
   | (refine uZ ?_
      clear hHeld
      clear hw i1 i2 i3 i4 i5 i6 i7 i9 i10
      replace SP := zh (SP.out.sub [0, 2, 3, 4, 5, 6, 7, 8, 9] (by decide))
      replace SP := zh (SP.out.set 1 rfl (iE Jj G (L.eraseIdx k) (qs.eraseIdx k)) (fun _ h => h) (Kb.refl _ _) (els_erase (SP.out.s.get 1 rfl) hkn))
      rw [← HQ2.out] at SP
      obtain ⟨F7, sj⟩ := SP.out.joinA
      replace SP := zh sj
      clear sj
      generalize wc = wd at *
      have HC := specReclaim X now y0 b9 m0 d9 (.int .i64 cu) (.slice y3 os.length m3) (.slice y5 ds.length m5) (.slice y6 ls.length m6) (.int .i64 st) ss q2 _ (SP.out.gB 1 rfl) (SP.out.rS 2 rfl) S0.out (SP.out.rS 0 rfl) (Jz HZQ.out)
      generalize recE (ss, now) q2 = r at *
      obtain ⟨ss2, now2⟩ := r
      go_wp2_with fail
      refine HC.mono ?_
      rintro e we ⟨sv2, F2, rfl, o2, q2_, row, tn⟩
      clear HC
      obtain ⟨s2, c2, hu⟩ := Ju o2
      subst hu
      dsimp only at row o2 HN
      replace SP := zh (SP.out.turned 1 rfl tn (.slice s2 ss2.length c2 :: .int .i64 now2 :: [.int .i64 cu, .slice y3 os.length m3, .slice b9 q2.length d9, .slice y5 ds.length m5, .slice y6 ls.length m6, .int .i64 st]) row (iS 213 Jf (fun b => F2 b ∧ b < we.heap.size) (.slice s2 ss2.length c2) ss2) (Kn Jf o2) (fun b hb => ⟨q2_ b hb.1, hb.2⟩))
      clear o2 q2_ row tn
      have ld := Kh (SP.out.gB 2 rfl)
      have lf := Kh (SP.out.gB 7 rfl)
      have fz := Ex (SP.out.gB 7 rfl)
      go_wp2
      clear ld lf fz
      rw [setCells8 (SP.out.gB 7 rfl)]
      have SR := SP.out.store 7 rfl [.slice s2 ss2.length c2, .int .i64 now2, .int .i64 cu, .slice y3 os.length m3, .slice b9 q2.length d9, .slice y5 ds.length m5, .slice y6 ls.length m6, .int .i64 st]
      have lr := Kh (SR.gB 7 rfl)
      refine bodyPost_ret (v := .tuple #[.agg #[.slice s2 ss2.length c2, .int .i64 now2, .int .i64 cu, .slice y3 os.length m3, .slice b9 q2.length d9, .slice y5 ds.length m5, .slice y6 ls.length m6, .int .i64 st], .bool true]) ?_ rfl ?_
      · simp [results, Tryz.f35, go_sem, lr]
      obtain ⟨FE, sj⟩ := (SR.sub [0, 4, 1, 5, 6] (by decide)).joinE
      rw [HN.out]
      exact ⟨_, _, rfl, sj.outT 0 rfl, fun b h => h, sj.d⟩)
end Go.Proofs.YtnepfacnmaoieaaGreatDoor
