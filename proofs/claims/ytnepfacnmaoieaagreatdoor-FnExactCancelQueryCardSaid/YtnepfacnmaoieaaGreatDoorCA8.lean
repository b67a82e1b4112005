/-
 Texts of the proof, merged: EngSpec3, Cpl6Query.
-/
import Derived.Test.YtnepfacnmaoieaaGreatDoorCA1
import Derived.Test.YtnepfacnmaoieaaGreatDoorCA3
import Derived.Test.YtnepfacnmaoieaaGreatDoorCA5
import Derived.Test.YtnepfacnmaoieaaGreatDoorCA6
import Derived.Test.YtnepfacnmaoieaaGreatDoorCA7
namespace Go.Proofs.YtnepfacnmaoieaaGreatDoor
open Go.RowKit
open Go renaming frozen_of_row → Ez, cell_of_row → Ia, heap_alloc_new → Ic
open Go.World renaming size_alloc → Ie
open Nat renaming le_refl → Ii, zero_le → Ij
open Go.Value.slice renaming injEq → Ik
open Go.RowKit.Below renaming refl → Il
open ZD0
set_option maxRecDepth 100000
set_option linter.unusedVariables false
set_option linter.unusedSimpArgs false
set_option maxHeartbeats 16000000 in
theorem specIsEngine (now cu st : Int) (sv ov av dv lv : Value) (ss : List (List Kj)) (os : List Int) (qs : List Ua) (ds : List FinD) (ls : List Xu) (w : World)
  (h0 : Ko Jd w sv ss) (h3 : Ko Je w ov os) (h4 : Ko Ji w av qs) (h5 : Ko Jg w dv ds) (h6 : Ko Jo w lv ls) (hs : zL Jd ss + zL Je os + zL Ji qs + zL Jg ds + zL Jo ls ≤ 1048576) :
  Calls Tryz.prog 54 #[.agg #[sv, .int .i64 now, .int .i64 cu, ov, av, dv, lv, .int .i64 st]] w (fun e w' => e = .returned (.bool (engB ((ss, now), cu, os, qs, ds, ls, st))) ∧ Below w w w') := by
 have S0 : Hid (zL Jd ss ≤ 1048576) := zh (by omega)
 have S3 : Hid (zL Je os ≤ 1048576) := zh (by omega)
 have S4 : Hid (zL Ji qs ≤ 1048576) := zh (by omega)
 have S5 : Hid (zL Jg ds ≤ 1048576) := zh (by omega)
 have S6 : Hid (zL Jo ls ≤ 1048576) := zh (by omega)
 clear hs
 obtain ⟨sa, sc, rfl⟩ := Jl h0
 have H0 := zh h0
 obtain ⟨oa, oc, rfl⟩ := Jl h3
 have H3 := zh h3
 obtain ⟨aa, ac, rfl⟩ := Jl h4
 have H4 := zh h4
 obtain ⟨da, dc, rfl⟩ := Jl h5
 have H5 := zh h5
 obtain ⟨la, lc, rfl⟩ := Jl h6
 have H6 := zh h6
 have N0 := Jz S0.out; have N3 := Jz S3.out; have N4 := Jz S4.out; have N5 := Jz S5.out; have N6 := Jz S6.out
 clear h0 h3 h4 h5 h6
 have d := zh (show Below w w (w.alloc (.cells #[.slice sa ss.length sc, .int .i64 now, .int .i64 cu, .slice oa os.length oc, .slice aa qs.length ac, .slice da ds.length dc, .slice la ls.length lc, .int .i64 st] 40)) from ((Il _ w).alloc (Ii _) _))
 have B0 : Hid ((w.alloc (.cells #[.slice sa ss.length sc, .int .i64 now, .int .i64 cu, .slice oa os.length oc, .slice aa qs.length ac, .slice da ds.length dc, .slice la ls.length lc, .int .i64 st] 40)).heap[w.heap.size]? = some (.cells #[.slice sa ss.length sc, .int .i64 now, .int .i64 cu, .slice oa os.length oc, .slice aa qs.length ac, .slice da ds.length dc, .slice la ls.length lc, .int .i64 st] 40 (0, 0))) := zh (by
  exact Ic w _)
 have YW : Hid (w.heap.size + 1 ≤ (w.alloc (.cells #[.slice sa ss.length sc, .int .i64 now, .int .i64 cu, .slice oa os.length oc, .slice aa qs.length ac, .slice da ds.length dc, .slice la ls.length lc, .int .i64 st] 40)).heap.size) := zh (by simp [Ie])
 go_enter Tryz.func54, Tryz.ntmps54
 go_wp2_with fail
 generalize (w.alloc (.cells #[.slice sa ss.length sc, .int .i64 now, .int .i64 cu, .slice oa os.length oc, .slice aa qs.length ac, .slice da ds.length dc, .slice la ls.length lc, .int .i64 st] 40)) = W at *
 refine (specIsStore (.slice sa ss.length sc) ss now W (Jb Jf H0.out d.out) S0.out).mono ?_
 rintro e W1 ⟨rfl, c⟩
 replace B0 := zb c B0
 replace d := zD d c
 have Z_W1 := zh (show W.heap.size ≤ W1.heap.size from c.size)
 clear c
 rcases Bool.eq_false_or_eq_true (Yb ss now) with hst | hst
 rotate_left
 ·
  rw [hst]
  have HF := zh (eng_no1 (e := ((ss, now), cu, os, qs, ds, ls, st)) hst)
  clear hst
  have cp_B0_0 := Kz B0.out
  go_wp2
  clear cp_B0_0
  go_ret
  exact ⟨Jy HF.out.symm, d.out⟩
 rw [hst]
 have HST := zh hst
 clear hst
 have cp_B0_0 := Kz B0.out
 go_wp2_with fail
 clear cp_B0_0
 refine (in_any cu 0 ((ss.length : Int) - 1) _).mono ?_
 rintro e wx ⟨rfl, hwx⟩
 obtain rfl := hwx.symm
 rcases Bool.eq_false_or_eq_true (decide (0 ≤ cu ∧ cu ≤ (ss.length : Int) - 1)) with hcu | hcu
 rotate_left
 ·
  rw [hcu]
  have HF := zh (eng_no2 (e := ((ss, now), cu, os, qs, ds, ls, st)) (fun g => by have q := of_decide_eq_false hcu; have r := g.1; exact q ⟨r.1, by have := r.2; show cu ≤ (ss.length : Int) - 1; simp only at this; omega⟩))
  clear hcu
  have cp_B0_0 := Kz B0.out
  go_wp2
  clear cp_B0_0
  go_ret
  exact ⟨Jy HF.out.symm, d.out⟩
 rw [hcu]
 have HCU := zh hcu
 clear hcu
 have cp_B0_0 := Kz B0.out
 go_wp2_with fail
 clear cp_B0_0
 refine (specL6Order (.slice oa os.length oc) os W1 (Yd (Jb Jc H3.out d.out)) N3).mono ?_
 rintro e W2 ⟨rfl, c⟩
 replace B0 := zb c B0
 replace d := zD d c
 have Z_W2 := zh (show W1.heap.size ≤ W2.heap.size from c.size)
 clear c
 rcases Bool.eq_false_or_eq_true (Xd os) with hor | hor
 rotate_left
 ·
  rw [hor]
  have HF := zh (eng_no3 (e := ((ss, now), cu, os, qs, ds, ls, st)) hor)
  clear hor
  have cp_B0_0 := Kz B0.out
  go_wp2
  clear cp_B0_0
  go_ret
  exact ⟨Jy HF.out.symm, d.out⟩
 rw [hor]
 have HOR := zh hor
 clear hor
 by_cases hp1 : qs.length ≤ 8
 rotate_left
 ·
  have HF := zh (eng_no2 (e := ((ss, now), cu, os, qs, ds, ls, st)) (fun g => hp1 g.2.1))
  have f1 : decide ((8 : Int) < (qs.length : Int)) = true := decide_eq_true (by omega)
  clear hp1
  have cp_B0_0 := Kz B0.out
  go_wp2
  clear cp_B0_0
  go_ret
  exact ⟨Jy HF.out.symm, d.out⟩
 have f1 : decide ((8 : Int) < (qs.length : Int)) = false := decide_eq_false (by omega)
 have HP1 := zh hp1
 clear hp1
 have cp_B0_0 := Kz B0.out
 go_wp2_with fail
 clear cp_B0_0 f1
 refine (in_any st 0 100000 _).mono ?_
 rintro e wx ⟨rfl, hwx⟩
 obtain rfl := hwx.symm
 rcases Bool.eq_false_or_eq_true (decide (0 ≤ st ∧ st ≤ 100000)) with hsp | hsp
 rotate_left
 ·
  rw [hsp]
  have HF := zh (eng_no2 (e := ((ss, now), cu, os, qs, ds, ls, st)) (fun g => of_decide_eq_false hsp g.2.2.1))
  clear hsp
  have cp_B0_0 := Kz B0.out
  go_wp2
  clear cp_B0_0
  go_ret
  exact ⟨Jy HF.out.symm, d.out⟩
 rw [hsp]
 have HSP := zh hsp
 clear hsp
 by_cases hp2 : ds.length ≤ 1000
 rotate_left
 ·
  have HF := zh (eng_no2 (e := ((ss, now), cu, os, qs, ds, ls, st)) (fun g => hp2 g.2.2.2.1))
  have f2 : decide ((1000 : Int) < (ds.length : Int)) = true := decide_eq_true (by omega)
  clear hp2
  have cp_B0_0 := Kz B0.out
  go_wp2
  clear cp_B0_0
  go_ret
  exact ⟨Jy HF.out.symm, d.out⟩
 have f2 : decide ((1000 : Int) < (ds.length : Int)) = false := decide_eq_false (by omega)
 have HP2 := zh hp2
 clear hp2
 by_cases hp3 : ls.length ≤ 1000
 rotate_left
 ·
  have HF := zh (eng_no2 (e := ((ss, now), cu, os, qs, ds, ls, st)) (fun g => hp3 g.2.2.2.2))
  have f3 : decide ((1000 : Int) < (ls.length : Int)) = true := decide_eq_true (by omega)
  clear hp3
  have cp_B0_0 := Kz B0.out
  go_wp2
  clear cp_B0_0
  go_ret
  exact ⟨Jy HF.out.symm, d.out⟩
 have f3 : decide ((1000 : Int) < (ls.length : Int)) = false := decide_eq_false (by omega)
 have HP3 := zh hp3
 clear hp3
 have HH : Hid (engHP ((ss, now), cu, os, qs, ds, ls, st)) := zh ⟨⟨(of_decide_eq_true HCU.out).1, by have := (of_decide_eq_true HCU.out).2; show cu < (ss.length : Int); omega⟩, HP1.out, of_decide_eq_true HSP.out, HP2.out, HP3.out⟩
 have cp_B0_0 := Kz B0.out
 go_wp2
 clear cp_B0_0
 clear f2 f3
 go_loopw [3] (fun i wr => ∃ k : Nat, k ≤ qs.length ∧ i = .int .i64 k ∧ Hid (ActsTo (ss, now) qs k) ∧ Below W2 W2 wr) (fun i _ => qs.length - (intOf i).toNat)
 case atStart => exact ⟨0, Ij _, rfl, zh (actsTo_zero _ _), Il _ _⟩
 case round =>
  obtain ⟨k, hk, rfl, hno, c⟩ := hrel
  have cw := zh c
  replace B0 := zb c B0
  replace d := zD d c
  clear c
  by_cases hlt : k < qs.length
  ·
   have i1 : (0 : Int) ≤ (k : Int) := by omega
   have i2 : (k : Int) < (qs.length : Int) := by omega
   have hz := Vj S4.out hlt
   obtain ⟨b, off, cap', p2, c2, p3, c3, p5, c5, p9, c9, hv, hbl, e0, e1, e2, e3, e4, e5, e6, e7, e8, e9, s2, s3, s5, s9⟩ := act_at H4.out hlt
   simp only [Ik] at hv
   obtain ⟨rfl, _, rfl⟩ := hv
   change Ji.sz (qs.getD k Uh) ≤ 1048576 at hz
   have HNO : Hid (actB (ss, now) (qs.getD k Uh) = false → engB ((ss, now), cu, os, qs, ds, ls, st) = false) := zh (fun g => eng_no4 (e := ((ss, now), cu, os, qs, ds, ls, st)) (acts_no hlt (Or.inl g)))
   have HNL : Hid (0 < k → ¬ (qs.getD (k - 1) Uh).1.1 < (qs.getD k Uh).1.1 → engB ((ss, now), cu, os, qs, ds, ls, st) = false) := zh (fun g1 g2 => eng_no4 (e := ((ss, now), cu, os, qs, ds, ls, st)) (acts_no hlt (Or.inr ⟨g1, g2⟩)))
   have HST : Hid (actB (ss, now) (qs.getD k Uh) = true → (0 < k → (qs.getD (k - 1) Uh).1.1 < (qs.getD k Uh).1.1) → ActsTo (ss, now) qs (k + 1)) := zh (fun g1 g2 => actsTo_step hno.out g1 g2)
   have HBL := zh hbl
   clear hno hbl
   obtain ⟨x, hx⟩ : ∃ x, x = qs.getD k Uh := ⟨_, rfl⟩
   rw [← hx] at hz HNO HNL HST e0 e1 e2 e3 e4 e5 e6 e7 e8 e9 s2 s3 s5 s9
   clear hx
   obtain ⟨⟨a0, a1, x2, x3⟩, a4, x5, a6, a7, a8, x9⟩ := x
   rw [tActive_sz] at hz
   dsimp only at *
   have HC := zh (fun W g2 g3 g5 g9 => specL9Active now cu st a0 a1 a4 a6 a7 a8 sa sc (.slice oa os.length oc) (.slice (some ⟨b, off, none⟩) qs.length ac) (.slice da ds.length dc) (.slice la ls.length lc) (.slice p2 x2.length c2) (.slice p3 x3.length c3) (.slice p5 x5.length c5) (.slice p9 x9.length c9) ss x2 x3 x5 x9 W g2 g3 g5 g9 N0 (by omega) (by omega) (by omega) (by omega))
   have T2 := zh s2; have T3 := zh s3; have T5 := zh s5; have T9 := zh s9
   clear s2 s3 s5 s9 hz
   have E0 := zh e0
   have E1 := zh e1
   have E2 := zh e2
   have E3 := zh e3
   have E4 := zh e4
   have E5 := zh e5
   have E6 := zh e6
   have E7 := zh e7
   have E8 := zh e8
   have E9 := zh e9
   clear e0 e1 e2 e3 e4 e5 e6 e7 e8 e9
   cases hab : actB (ss, now) ((a0, a1, x2, x3), a4, x5, a6, a7, a8, x9) with
   | false =>
    have HF := zh (HNO.out hab)
    have HAB := zh hab
    clear hab HNO HNL HST
    have cp_B0_0 := Kz B0.out
    go_wp2
    clear cp_B0_0
    obtain ⟨p_B0_0, p_B0_1, p_B0_2, p_B0_3, p_B0_4, p_B0_5, p_B0_6, p_B0_7⟩ := Kz B0.out
    have p_E0 := cx d E0 HBL
    have p_E1 := cx d E1 HBL
    have p_E2 := cx d E2 HBL
    have p_E3 := cx d E3 HBL
    have p_E4 := cx d E4 HBL
    have p_E5 := cx d E5 HBL
    have p_E6 := cx d E6 HBL
    have p_E7 := cx d E7 HBL
    have p_E8 := cx d E8 HBL
    have p_E9 := cx d E9 HBL
    refine wp_region_held_drew (S := fun w' => w'.cell? ⟨w, 0, none⟩ = some (Value.slice sa ss.length sc) ∧ w'.cell? ⟨w, 1, none⟩ = some (Value.int .i64 now) ∧ w'.cell? ⟨w, 2, none⟩ = some (Value.int .i64 cu) ∧ w'.cell? ⟨w, 3, none⟩ = some (Value.slice oa os.length oc) ∧ w'.cell? ⟨w, 4, none⟩ = some (Value.slice (some ⟨b, off, none⟩) qs.length ac) ∧ w'.cell? ⟨w, 5, none⟩ = some (Value.slice da ds.length dc) ∧ w'.cell? ⟨w, 6, none⟩ = some (Value.slice la ls.length lc) ∧ w'.cell? ⟨w, 7, none⟩ = some (Value.int .i64 st) ∧ w'.cell? ⟨b, off + k * 10, none⟩ = some (Value.int .i64 a0) ∧ w'.cell? ⟨b, off + k * 10 + 1, none⟩ = some (Value.int .i64 a1) ∧ w'.cell? ⟨b, off + k * 10 + 2, none⟩ = some (Value.slice p2 x2.length c2) ∧ w'.cell? ⟨b, off + k * 10 + 3, none⟩ = some (Value.slice p3 x3.length c3) ∧ w'.cell? ⟨b, off + k * 10 + 4, none⟩ = some (Value.int .i64 a4) ∧ w'.cell? ⟨b, off + k * 10 + 5, none⟩ = some (Value.slice p5 x5.length c5) ∧ w'.cell? ⟨b, off + k * 10 + 6, none⟩ = some (Value.int .i64 a6) ∧ w'.cell? ⟨b, off + k * 10 + 7, none⟩ = some (Value.int .i64 a7) ∧ w'.cell? ⟨b, off + k * 10 + 8, none⟩ = some (Value.int .i64 a8) ∧ w'.cell? ⟨b, off + k * 10 + 9, none⟩ = some (Value.slice p9 x9.length c9)) (by kernel_rfl) ⟨p_B0_0, p_B0_1, p_B0_2, p_B0_3, p_B0_4, p_B0_5, p_B0_6, p_B0_7, p_E0, p_E1, p_E2, p_E3, p_E4, p_E5, p_E6, p_E7, p_E8, p_E9⟩ (fun hHeld => ?_)
    clear p_B0_0 p_B0_1 p_B0_2 p_B0_3 p_B0_4 p_B0_5 p_B0_6 p_B0_7 p_E0 p_E1 p_E2 p_E3 p_E4 p_E5 p_E6 p_E7 p_E8 p_E9
    have cdr : Below wr wr wr.drew := Kc (Il _ _)
    replace B0 := zb cdr B0
    replace d := zD d cdr
    clear cdr
    refine tQ (i := 0) ?_
    try simp only [Act.put, lA, lB, lC]
    refine tQ (i := 1) ?_
    try simp only [Act.put, lA, lB, lC]
    refine tQ (i := 2) ?_
    try simp only [Act.put, lA, lB, lC]
    refine tQ (i := 3) ?_
    try simp only [Act.put, lA, lB, lC]
    refine tQ (i := 4) ?_
    try simp only [Act.put, lA, lB, lC]
    refine tQ (i := 5) ?_
    try simp only [Act.put, lA, lB, lC]
    refine rA 6 (fun K hK => ?_)
    go_simp
    refine (HC.out (wr.drew) (Jb Jt T2.out d.out) (Jb Jc T3.out d.out) (Jb Jc T5.out d.out) (Jb Jw T9.out d.out)).mono ?_
    rintro e w5 ⟨rfl, c5⟩
    rw [HAB.out]
    replace B0 := zb c5 B0
    replace d := zD d c5
    have Z_w5 := zh (show wr.heap.size ≤ w5.heap.size from c5.size)
    clear c5
    obtain ⟨p_B0_0, p_B0_1, p_B0_2, p_B0_3, p_B0_4, p_B0_5, p_B0_6, p_B0_7⟩ := Kz B0.out
    have p_E0 := cx d E0 HBL
    have p_E1 := cx d E1 HBL
    have p_E2 := cx d E2 HBL
    have p_E3 := cx d E3 HBL
    have p_E4 := cx d E4 HBL
    have p_E5 := cx d E5 HBL
    have p_E6 := cx d E6 HBL
    have p_E7 := cx d E7 HBL
    have p_E8 := cx d E8 HBL
    have p_E9 := cx d E9 HBL
    refine hK.out _ _ ⟨p_B0_0, p_B0_1, p_B0_2, p_B0_3, p_B0_4, p_B0_5, p_B0_6, p_B0_7, p_E0, p_E1, p_E2, p_E3, p_E4, p_E5, p_E6, p_E7, p_E8, p_E9⟩ (fun hHeld => ?_)
    clear p_B0_0 p_B0_1 p_B0_2 p_B0_3 p_B0_4 p_B0_5 p_B0_6 p_B0_7 p_E0 p_E1 p_E2 p_E3 p_E4 p_E5 p_E6 p_E7 p_E8 p_E9
    clear hK K
    try simp only [Act.put, lA, lB, lC]
    refine tQ (i := 7) ?_
    try simp only [Act.put, lA, lB, lC]
    refine tQ (i := 8) ?_
    try simp only [Act.put, lA, lB, lC]
    refine tO (i := 9) ?_
    try simp only [Act.put, lA, lB, lC]
    refine tO (i := 10) ?_
    try simp only [Act.put, lA, lB, lC]
    refine tO (i := 11) ?_
    try simp only [Act.put, lA, lB, lC]
    refine tO (i := 12) ?_
    try simp only [Act.put, lA, lB, lC]
    refine tO (i := 13) ?_
    try simp only [Act.put, lA, lB, lC]
    refine tO (i := 14) ?_
    try simp only [Act.put, lA, lB, lC]
    refine tO (i := 15) ?_
    try simp only [Act.put, lA, lB, lC]
    refine tO (i := 16) ?_
    try simp only [Act.put, lA, lB, lC]
    refine tO (i := 17) ?_
    try simp only [Act.put, lA, lB, lC]
    refine tO (i := 18) ?_
    try simp only [Act.put, lA, lB, lC]
    refine tO (i := 19) ?_
    try simp only [Act.put, lA, lB, lC]
    refine tO (i := 20) ?_
    try simp only [Act.put, lA, lB, lC]
    refine tO (i := 21) ?_
    try simp only [Act.put, lA, lB, lC]
    refine tO (i := 22) ?_
    try simp only [Act.put, lA, lB, lC]
    refine tO (i := 23) ?_
    try simp only [Act.put, lA, lB, lC]
    refine tO (i := 24) ?_
    try simp only [Act.put, lA, lB, lC]
    refine tO (i := 25) ?_
    try simp only [Act.put, lA, lB, lC]
    refine tO (i := 26) ?_
    try simp only [Act.put, lA, lB, lC]
    refine tO (i := 27) ?_
    try simp only [Act.put, lA, lB, lC]
    refine tO (i := 28) ?_
    try simp only [Act.put, lA, lB, lC]
    refine tQ (i := 29) ?_
    try simp only [Act.put, lA, lB, lC]
    refine wpAnyH_done (by kernel_rfl) ?_ _
    clear hHeld
    go_wp2
    go_ret
    exact ⟨Jy HF.out.symm, d.out⟩
   | true =>
    have HAB := zh hab
    by_cases hz : k = 0
    ·
     have HT := zh (HST.out hab (fun g => by omega))
     have f0 : decide ((0 : Int) < (k : Int)) = false := decide_eq_false (by omega)
     clear hab HNO HNL HST hz
     have cp_B0_0 := Kz B0.out
     go_wp2
     clear cp_B0_0
     obtain ⟨p_B0_0, p_B0_1, p_B0_2, p_B0_3, p_B0_4, p_B0_5, p_B0_6, p_B0_7⟩ := Kz B0.out
     have p_E0 := cx d E0 HBL
     have p_E1 := cx d E1 HBL
     have p_E2 := cx d E2 HBL
     have p_E3 := cx d E3 HBL
     have p_E4 := cx d E4 HBL
     have p_E5 := cx d E5 HBL
     have p_E6 := cx d E6 HBL
     have p_E7 := cx d E7 HBL
     have p_E8 := cx d E8 HBL
     have p_E9 := cx d E9 HBL
     refine wp_region_held_drew (S := fun w' => w'.cell? ⟨w, 0, none⟩ = some (Value.slice sa ss.length sc) ∧ w'.cell? ⟨w, 1, none⟩ = some (Value.int .i64 now) ∧ w'.cell? ⟨w, 2, none⟩ = some (Value.int .i64 cu) ∧ w'.cell? ⟨w, 3, none⟩ = some (Value.slice oa os.length oc) ∧ w'.cell? ⟨w, 4, none⟩ = some (Value.slice (some ⟨b, off, none⟩) qs.length ac) ∧ w'.cell? ⟨w, 5, none⟩ = some (Value.slice da ds.length dc) ∧ w'.cell? ⟨w, 6, none⟩ = some (Value.slice la ls.length lc) ∧ w'.cell? ⟨w, 7, none⟩ = some (Value.int .i64 st) ∧ w'.cell? ⟨b, off + k * 10, none⟩ = some (Value.int .i64 a0) ∧ w'.cell? ⟨b, off + k * 10 + 1, none⟩ = some (Value.int .i64 a1) ∧ w'.cell? ⟨b, off + k * 10 + 2, none⟩ = some (Value.slice p2 x2.length c2) ∧ w'.cell? ⟨b, off + k * 10 + 3, none⟩ = some (Value.slice p3 x3.length c3) ∧ w'.cell? ⟨b, off + k * 10 + 4, none⟩ = some (Value.int .i64 a4) ∧ w'.cell? ⟨b, off + k * 10 + 5, none⟩ = some (Value.slice p5 x5.length c5) ∧ w'.cell? ⟨b, off + k * 10 + 6, none⟩ = some (Value.int .i64 a6) ∧ w'.cell? ⟨b, off + k * 10 + 7, none⟩ = some (Value.int .i64 a7) ∧ w'.cell? ⟨b, off + k * 10 + 8, none⟩ = some (Value.int .i64 a8) ∧ w'.cell? ⟨b, off + k * 10 + 9, none⟩ = some (Value.slice p9 x9.length c9)) (by kernel_rfl) ⟨p_B0_0, p_B0_1, p_B0_2, p_B0_3, p_B0_4, p_B0_5, p_B0_6, p_B0_7, p_E0, p_E1, p_E2, p_E3, p_E4, p_E5, p_E6, p_E7, p_E8, p_E9⟩ (fun hHeld => ?_)
     clear p_B0_0 p_B0_1 p_B0_2 p_B0_3 p_B0_4 p_B0_5 p_B0_6 p_B0_7 p_E0 p_E1 p_E2 p_E3 p_E4 p_E5 p_E6 p_E7 p_E8 p_E9
     have cdr : Below wr wr wr.drew := Kc (Il _ _)
     replace B0 := zb cdr B0
     replace d := zD d cdr
     clear cdr
     refine tQ (i := 0) ?_
     try simp only [Act.put, lA, lB, lC]
     refine tQ (i := 1) ?_
     try simp only [Act.put, lA, lB, lC]
     refine tQ (i := 2) ?_
     try simp only [Act.put, lA, lB, lC]
     refine tQ (i := 3) ?_
     try simp only [Act.put, lA, lB, lC]
     refine tQ (i := 4) ?_
     try simp only [Act.put, lA, lB, lC]
     refine tQ (i := 5) ?_
     try simp only [Act.put, lA, lB, lC]
     refine rA 6 (fun K hK => ?_)
     go_simp
     refine (HC.out (wr.drew) (Jb Jt T2.out d.out) (Jb Jc T3.out d.out) (Jb Jc T5.out d.out) (Jb Jw T9.out d.out)).mono ?_
     rintro e w5 ⟨rfl, c5⟩
     rw [HAB.out]
     have d2 := zh (show Below wr wr w5 from (Kc (Il wr.heap.size wr)).trans c5)
     replace B0 := zb c5 B0
     replace d := zD d c5
     have Z_w5 := zh (show wr.heap.size ≤ w5.heap.size from c5.size)
     clear c5
     obtain ⟨p_B0_0, p_B0_1, p_B0_2, p_B0_3, p_B0_4, p_B0_5, p_B0_6, p_B0_7⟩ := Kz B0.out
     have p_E0 := cx d E0 HBL
     have p_E1 := cx d E1 HBL
     have p_E2 := cx d E2 HBL
     have p_E3 := cx d E3 HBL
     have p_E4 := cx d E4 HBL
     have p_E5 := cx d E5 HBL
     have p_E6 := cx d E6 HBL
     have p_E7 := cx d E7 HBL
     have p_E8 := cx d E8 HBL
     have p_E9 := cx d E9 HBL
     refine hK.out _ _ ⟨p_B0_0, p_B0_1, p_B0_2, p_B0_3, p_B0_4, p_B0_5, p_B0_6, p_B0_7, p_E0, p_E1, p_E2, p_E3, p_E4, p_E5, p_E6, p_E7, p_E8, p_E9⟩ (fun hHeld => ?_)
     clear p_B0_0 p_B0_1 p_B0_2 p_B0_3 p_B0_4 p_B0_5 p_B0_6 p_B0_7 p_E0 p_E1 p_E2 p_E3 p_E4 p_E5 p_E6 p_E7 p_E8 p_E9
     clear hK K
     try simp only [Act.put, lA, lB, lC]
     refine tQ (i := 7) ?_
     try simp only [Act.put, lA, lB, lC]
     refine tQ (i := 8) ?_
     try simp only [Act.put, lA, lB, lC]
     refine tQ (i := 9) ?_
     try simp only [Act.put, lA, lB, lC]
     refine tR (i := 10) (v := .bool false) ?_ ?_
     ·
      intro w hSw; (try dsimp only at hSw); go_simp; all_goals first | (with_reducible rfl) | (rw [f0]; done) | (simpa using f0) | (simp [f0]; done) | (simp; omega)
     try simp only [Act.put, lA, lB, lC]
     refine tQ (i := 11) ?_
     try simp only [Act.put, lA, lB, lC]
     refine tO (i := 12) ?_
     try simp only [Act.put, lA, lB, lC]
     refine tO (i := 13) ?_
     try simp only [Act.put, lA, lB, lC]
     refine tO (i := 14) ?_
     try simp only [Act.put, lA, lB, lC]
     refine tO (i := 15) ?_
     try simp only [Act.put, lA, lB, lC]
     refine tO (i := 16) ?_
     try simp only [Act.put, lA, lB, lC]
     refine tO (i := 17) ?_
     try simp only [Act.put, lA, lB, lC]
     refine tO (i := 18) ?_
     try simp only [Act.put, lA, lB, lC]
     refine tO (i := 19) ?_
     try simp only [Act.put, lA, lB, lC]
     refine tO (i := 20) ?_
     try simp only [Act.put, lA, lB, lC]
     refine tO (i := 21) ?_
     try simp only [Act.put, lA, lB, lC]
     refine tO (i := 22) ?_
     try simp only [Act.put, lA, lB, lC]
     refine tO (i := 23) ?_
     try simp only [Act.put, lA, lB, lC]
     refine tO (i := 24) ?_
     try simp only [Act.put, lA, lB, lC]
     refine tO (i := 25) ?_
     try simp only [Act.put, lA, lB, lC]
     refine tO (i := 26) ?_
     try simp only [Act.put, lA, lB, lC]
     refine tO (i := 27) ?_
     try simp only [Act.put, lA, lB, lC]
     refine tQ (i := 28) ?_
     try simp only [Act.put, lA, lB, lC]
     refine tQ (i := 29) ?_
     try simp only [Act.put, lA, lB, lC]
     refine wpAnyH_done (by kernel_rfl) ?_ _
     clear hHeld
     go_wp2
     go_roundw
     case rel => exact ⟨k + 1, by omega, by go_num, HT, cw.out.trans (d2.out.mono cw.out.size)⟩
     case measure => simp [intOf]; omega
    ·
     have hk0 : 0 < k := by omega
     have f1 : decide ((0 : Int) < (k : Int)) = true := decide_eq_true (by omega)
     have i3 : (0 : Int) ≤ (k : Int) - 1 := by omega
     have i7 : (1 : Int) ≤ (k : Int) := by omega
     have i4 : (k : Int) - 1 < (qs.length : Int) := by omega
     have i5 : ((k : Int) - 1).toNat = k - 1 := by omega
     have i6 : IntKind.i64.wrap ((k : Int) - 1) = (k : Int) - 1 := IntWalk.i64_in _ (by omega)
     obtain ⟨b', off', cap2, q2, r2, q3, r3, q5, r5, q9, r9, hv, hbl, g0, _, _, _, _, _, _, _, _, _, _, _, _, _⟩ := act_at (k := k - 1) H4.out (by omega)
     simp only [Ik, Option.some.injEq, Addr.mk.injEq] at hv
     obtain ⟨⟨rfl, rfl, _⟩, _, rfl⟩ := hv
     clear hbl
     have HL2 := zh (HNL.out hk0)
     have HS2 := zh (HST.out hab)
     clear HNL HST HNO hab hk0 hz
     generalize (qs.getD (k - 1) Uh).1.1 = z at *
     have G0 := zh g0
     clear g0
     by_cases hle : z < a0
     ·
      have HT := zh (HS2.out (fun _ => hle))
      have f2 : decide (a0 ≤ z) = false := decide_eq_false (by omega)
      clear hle HL2 HS2
      have cp_B0_0 := Kz B0.out
      go_wp2
      clear cp_B0_0
      obtain ⟨p_B0_0, p_B0_1, p_B0_2, p_B0_3, p_B0_4, p_B0_5, p_B0_6, p_B0_7⟩ := Kz B0.out
      have p_E0 := cx d E0 HBL
      have p_E1 := cx d E1 HBL
      have p_E2 := cx d E2 HBL
      have p_E3 := cx d E3 HBL
      have p_E4 := cx d E4 HBL
      have p_E5 := cx d E5 HBL
      have p_E6 := cx d E6 HBL
      have p_E7 := cx d E7 HBL
      have p_E8 := cx d E8 HBL
      have p_E9 := cx d E9 HBL
      have p_G0 := cx d G0 HBL
      refine wp_region_held_drew (S := fun w' => w'.cell? ⟨w, 0, none⟩ = some (Value.slice sa ss.length sc) ∧ w'.cell? ⟨w, 1, none⟩ = some (Value.int .i64 now) ∧ w'.cell? ⟨w, 2, none⟩ = some (Value.int .i64 cu) ∧ w'.cell? ⟨w, 3, none⟩ = some (Value.slice oa os.length oc) ∧ w'.cell? ⟨w, 4, none⟩ = some (Value.slice (some ⟨b, off, none⟩) qs.length ac) ∧ w'.cell? ⟨w, 5, none⟩ = some (Value.slice da ds.length dc) ∧ w'.cell? ⟨w, 6, none⟩ = some (Value.slice la ls.length lc) ∧ w'.cell? ⟨w, 7, none⟩ = some (Value.int .i64 st) ∧ w'.cell? ⟨b, off + k * 10, none⟩ = some (Value.int .i64 a0) ∧ w'.cell? ⟨b, off + k * 10 + 1, none⟩ = some (Value.int .i64 a1) ∧ w'.cell? ⟨b, off + k * 10 + 2, none⟩ = some (Value.slice p2 x2.length c2) ∧ w'.cell? ⟨b, off + k * 10 + 3, none⟩ = some (Value.slice p3 x3.length c3) ∧ w'.cell? ⟨b, off + k * 10 + 4, none⟩ = some (Value.int .i64 a4) ∧ w'.cell? ⟨b, off + k * 10 + 5, none⟩ = some (Value.slice p5 x5.length c5) ∧ w'.cell? ⟨b, off + k * 10 + 6, none⟩ = some (Value.int .i64 a6) ∧ w'.cell? ⟨b, off + k * 10 + 7, none⟩ = some (Value.int .i64 a7) ∧ w'.cell? ⟨b, off + k * 10 + 8, none⟩ = some (Value.int .i64 a8) ∧ w'.cell? ⟨b, off + k * 10 + 9, none⟩ = some (Value.slice p9 x9.length c9) ∧ w'.cell? ⟨b, off + (k - 1) * 10, none⟩ = some (Value.int .i64 z)) (by kernel_rfl) ⟨p_B0_0, p_B0_1, p_B0_2, p_B0_3, p_B0_4, p_B0_5, p_B0_6, p_B0_7, p_E0, p_E1, p_E2, p_E3, p_E4, p_E5, p_E6, p_E7, p_E8, p_E9, p_G0⟩ (fun hHeld => ?_)
      clear p_B0_0 p_B0_1 p_B0_2 p_B0_3 p_B0_4 p_B0_5 p_B0_6 p_B0_7 p_E0 p_E1 p_E2 p_E3 p_E4 p_E5 p_E6 p_E7 p_E8 p_E9 p_G0
      have cdr : Below wr wr wr.drew := Kc (Il _ _)
      replace B0 := zb cdr B0
      replace d := zD d cdr
      clear cdr
      refine tQ (i := 0) ?_
      try simp only [Act.put, lA, lB, lC]
      refine tQ (i := 1) ?_
      try simp only [Act.put, lA, lB, lC]
      refine tQ (i := 2) ?_
      try simp only [Act.put, lA, lB, lC]
      refine tQ (i := 3) ?_
      try simp only [Act.put, lA, lB, lC]
      refine tQ (i := 4) ?_
      try simp only [Act.put, lA, lB, lC]
      refine tQ (i := 5) ?_
      try simp only [Act.put, lA, lB, lC]
      refine rA 6 (fun K hK => ?_)
      go_simp
      refine (HC.out (wr.drew) (Jb Jt T2.out d.out) (Jb Jc T3.out d.out) (Jb Jc T5.out d.out) (Jb Jw T9.out d.out)).mono ?_
      rintro e w5 ⟨rfl, c5⟩
      rw [HAB.out]
      have d2 := zh (show Below wr wr w5 from (Kc (Il wr.heap.size wr)).trans c5)
      replace B0 := zb c5 B0
      replace d := zD d c5
      have Z_w5 := zh (show wr.heap.size ≤ w5.heap.size from c5.size)
      clear c5
      obtain ⟨p_B0_0, p_B0_1, p_B0_2, p_B0_3, p_B0_4, p_B0_5, p_B0_6, p_B0_7⟩ := Kz B0.out
      have p_E0 := cx d E0 HBL
      have p_E1 := cx d E1 HBL
      have p_E2 := cx d E2 HBL
      have p_E3 := cx d E3 HBL
      have p_E4 := cx d E4 HBL
      have p_E5 := cx d E5 HBL
      have p_E6 := cx d E6 HBL
      have p_E7 := cx d E7 HBL
      have p_E8 := cx d E8 HBL
      have p_E9 := cx d E9 HBL
      have p_G0 := cx d G0 HBL
      refine hK.out _ _ ⟨p_B0_0, p_B0_1, p_B0_2, p_B0_3, p_B0_4, p_B0_5, p_B0_6, p_B0_7, p_E0, p_E1, p_E2, p_E3, p_E4, p_E5, p_E6, p_E7, p_E8, p_E9, p_G0⟩ (fun hHeld => ?_)
      clear p_B0_0 p_B0_1 p_B0_2 p_B0_3 p_B0_4 p_B0_5 p_B0_6 p_B0_7 p_E0 p_E1 p_E2 p_E3 p_E4 p_E5 p_E6 p_E7 p_E8 p_E9 p_G0
      clear hK K
      try simp only [Act.put, lA, lB, lC]
      refine tQ (i := 7) ?_
      try simp only [Act.put, lA, lB, lC]
      refine tQ (i := 8) ?_
      try simp only [Act.put, lA, lB, lC]
      refine tQ (i := 9) ?_
      try simp only [Act.put, lA, lB, lC]
      refine tR (i := 10) (v := .bool true) ?_ ?_
      ·
       intro w hSw; (try dsimp only at hSw); go_simp; all_goals first | (with_reducible rfl) | (rw [f1]; done) | (simpa using f1) | (simp [f1]; done) | (simp; omega)
      try simp only [Act.put, lA, lB, lC]
      refine tQ (i := 11) ?_
      try simp only [Act.put, lA, lB, lC]
      refine tQ (i := 12) ?_
      try simp only [Act.put, lA, lB, lC]
      refine tQ (i := 13) ?_
      try simp only [Act.put, lA, lB, lC]
      refine tQ (i := 14) ?_
      try simp only [Act.put, lA, lB, lC]
      refine tQ (i := 15) ?_
      try simp only [Act.put, lA, lB, lC]
      refine tQ (i := 16) ?_
      try simp only [Act.put, lA, lB, lC]
      refine tQ (i := 17) ?_
      try simp only [Act.put, lA, lB, lC]
      refine tQ (i := 18) ?_
      try simp only [Act.put, lA, lB, lC]
      refine tQ (i := 19) ?_
      try simp only [Act.put, lA, lB, lC]
      refine tQ (i := 20) ?_
      try simp only [Act.put, lA, lB, lC]
      refine tQ (i := 21) ?_
      try simp only [Act.put, lA, lB, lC]
      refine tQ (i := 22) ?_
      try simp only [Act.put, lA, lB, lC]
      refine tQ (i := 23) ?_
      try simp only [Act.put, lA, lB, lC]
      refine tQ (i := 24) ?_
      try simp only [Act.put, lA, lB, lC]
      refine tQ (i := 25) ?_
      try simp only [Act.put, lA, lB, lC]
      refine tQ (i := 26) ?_
      try simp only [Act.put, lA, lB, lC]
      refine tR (i := 27) (v := .bool false) ?_ ?_
      ·
       intro w hSw; (try dsimp only at hSw); go_simp; all_goals first | (with_reducible rfl) | (rw [f2]; done) | (simpa using f2) | (simp [f2]; done) | (simp; omega)
      try simp only [Act.put, lA, lB, lC]
      refine tQ (i := 28) ?_
      try simp only [Act.put, lA, lB, lC]
      refine tQ (i := 29) ?_
      try simp only [Act.put, lA, lB, lC]
      refine wpAnyH_done (by kernel_rfl) ?_ _
      clear hHeld
      go_wp2
      go_roundw
      case rel => exact ⟨k + 1, by omega, by go_num, HT, cw.out.trans (d2.out.mono cw.out.size)⟩
      case measure => simp [intOf]; omega
     ·
      have HF := zh (HL2.out hle)
      have f2 : decide (a0 ≤ z) = true := decide_eq_true (by omega)
      clear hle HL2 HS2
      have cp_B0_0 := Kz B0.out
      go_wp2
      clear cp_B0_0
      obtain ⟨p_B0_0, p_B0_1, p_B0_2, p_B0_3, p_B0_4, p_B0_5, p_B0_6, p_B0_7⟩ := Kz B0.out
      have p_E0 := cx d E0 HBL
      have p_E1 := cx d E1 HBL
      have p_E2 := cx d E2 HBL
      have p_E3 := cx d E3 HBL
      have p_E4 := cx d E4 HBL
      have p_E5 := cx d E5 HBL
      have p_E6 := cx d E6 HBL
      have p_E7 := cx d E7 HBL
      have p_E8 := cx d E8 HBL
      have p_E9 := cx d E9 HBL
      have p_G0 := cx d G0 HBL
      refine wp_region_held_drew (S := fun w' => w'.cell? ⟨w, 0, none⟩ = some (Value.slice sa ss.length sc) ∧ w'.cell? ⟨w, 1, none⟩ = some (Value.int .i64 now) ∧ w'.cell? ⟨w, 2, none⟩ = some (Value.int .i64 cu) ∧ w'.cell? ⟨w, 3, none⟩ = some (Value.slice oa os.length oc) ∧ w'.cell? ⟨w, 4, none⟩ = some (Value.slice (some ⟨b, off, none⟩) qs.length ac) ∧ w'.cell? ⟨w, 5, none⟩ = some (Value.slice da ds.length dc) ∧ w'.cell? ⟨w, 6, none⟩ = some (Value.slice la ls.length lc) ∧ w'.cell? ⟨w, 7, none⟩ = some (Value.int .i64 st) ∧ w'.cell? ⟨b, off + k * 10, none⟩ = some (Value.int .i64 a0) ∧ w'.cell? ⟨b, off + k * 10 + 1, none⟩ = some (Value.int .i64 a1) ∧ w'.cell? ⟨b, off + k * 10 + 2, none⟩ = some (Value.slice p2 x2.length c2) ∧ w'.cell? ⟨b, off + k * 10 + 3, none⟩ = some (Value.slice p3 x3.length c3) ∧ w'.cell? ⟨b, off + k * 10 + 4, none⟩ = some (Value.int .i64 a4) ∧ w'.cell? ⟨b, off + k * 10 + 5, none⟩ = some (Value.slice p5 x5.length c5) ∧ w'.cell? ⟨b, off + k * 10 + 6, none⟩ = some (Value.int .i64 a6) ∧ w'.cell? ⟨b, off + k * 10 + 7, none⟩ = some (Value.int .i64 a7) ∧ w'.cell? ⟨b, off + k * 10 + 8, none⟩ = some (Value.int .i64 a8) ∧ w'.cell? ⟨b, off + k * 10 + 9, none⟩ = some (Value.slice p9 x9.length c9) ∧ w'.cell? ⟨b, off + (k - 1) * 10, none⟩ = some (Value.int .i64 z)) (by kernel_rfl) ⟨p_B0_0, p_B0_1, p_B0_2, p_B0_3, p_B0_4, p_B0_5, p_B0_6, p_B0_7, p_E0, p_E1, p_E2, p_E3, p_E4, p_E5, p_E6, p_E7, p_E8, p_E9, p_G0⟩ (fun hHeld => ?_)
      clear p_B0_0 p_B0_1 p_B0_2 p_B0_3 p_B0_4 p_B0_5 p_B0_6 p_B0_7 p_E0 p_E1 p_E2 p_E3 p_E4 p_E5 p_E6 p_E7 p_E8 p_E9 p_G0
      have cdr : Below wr wr wr.drew := Kc (Il _ _)
      replace B0 := zb cdr B0
      replace d := zD d cdr
      clear cdr
      refine tQ (i := 0) ?_
      try simp only [Act.put, lA, lB, lC]
      refine tQ (i := 1) ?_
      try simp only [Act.put, lA, lB, lC]
      refine tQ (i := 2) ?_
      try simp only [Act.put, lA, lB, lC]
      refine tQ (i := 3) ?_
      try simp only [Act.put, lA, lB, lC]
      refine tQ (i := 4) ?_
      try simp only [Act.put, lA, lB, lC]
      refine tQ (i := 5) ?_
      try simp only [Act.put, lA, lB, lC]
      refine rA 6 (fun K hK => ?_)
      go_simp
      refine (HC.out (wr.drew) (Jb Jt T2.out d.out) (Jb Jc T3.out d.out) (Jb Jc T5.out d.out) (Jb Jw T9.out d.out)).mono ?_
      rintro e w5 ⟨rfl, c5⟩
      rw [HAB.out]
      have d2 := zh (show Below wr wr w5 from (Kc (Il wr.heap.size wr)).trans c5)
      replace B0 := zb c5 B0
      replace d := zD d c5
      have Z_w5 := zh (show wr.heap.size ≤ w5.heap.size from c5.size)
      clear c5
      obtain ⟨p_B0_0, p_B0_1, p_B0_2, p_B0_3, p_B0_4, p_B0_5, p_B0_6, p_B0_7⟩ := Kz B0.out
      have p_E0 := cx d E0 HBL
      have p_E1 := cx d E1 HBL
      have p_E2 := cx d E2 HBL
      have p_E3 := cx d E3 HBL
      have p_E4 := cx d E4 HBL
      have p_E5 := cx d E5 HBL
      have p_E6 := cx d E6 HBL
      have p_E7 := cx d E7 HBL
      have p_E8 := cx d E8 HBL
      have p_E9 := cx d E9 HBL
      have p_G0 := cx d G0 HBL
      refine hK.out _ _ ⟨p_B0_0, p_B0_1, p_B0_2, p_B0_3, p_B0_4, p_B0_5, p_B0_6, p_B0_7, p_E0, p_E1, p_E2, p_E3, p_E4, p_E5, p_E6, p_E7, p_E8, p_E9, p_G0⟩ (fun hHeld => ?_)
      clear p_B0_0 p_B0_1 p_B0_2 p_B0_3 p_B0_4 p_B0_5 p_B0_6 p_B0_7 p_E0 p_E1 p_E2 p_E3 p_E4 p_E5 p_E6 p_E7 p_E8 p_E9 p_G0
      clear hK K
      try simp only [Act.put, lA, lB, lC]
      refine tQ (i := 7) ?_
      try simp only [Act.put, lA, lB, lC]
      refine tQ (i := 8) ?_
      try simp only [Act.put, lA, lB, lC]
      refine tQ (i := 9) ?_
      try simp only [Act.put, lA, lB, lC]
      refine tR (i := 10) (v := .bool true) ?_ ?_
      ·
       intro w hSw; (try dsimp only at hSw); go_simp; all_goals first | (with_reducible rfl) | (rw [f1]; done) | (simpa using f1) | (simp [f1]; done) | (simp; omega)
      try simp only [Act.put, lA, lB, lC]
      refine tQ (i := 11) ?_
      try simp only [Act.put, lA, lB, lC]
      refine tQ (i := 12) ?_
      try simp only [Act.put, lA, lB, lC]
      refine tQ (i := 13) ?_
      try simp only [Act.put, lA, lB, lC]
      refine tQ (i := 14) ?_
      try simp only [Act.put, lA, lB, lC]
      refine tQ (i := 15) ?_
      try simp only [Act.put, lA, lB, lC]
      refine tQ (i := 16) ?_
      try simp only [Act.put, lA, lB, lC]
      refine tQ (i := 17) ?_
      try simp only [Act.put, lA, lB, lC]
      refine tQ (i := 18) ?_
      try simp only [Act.put, lA, lB, lC]
      refine tQ (i := 19) ?_
      try simp only [Act.put, lA, lB, lC]
      refine tQ (i := 20) ?_
      try simp only [Act.put, lA, lB, lC]
      refine tQ (i := 21) ?_
      try simp only [Act.put, lA, lB, lC]
      refine tQ (i := 22) ?_
      try simp only [Act.put, lA, lB, lC]
      refine tQ (i := 23) ?_
      try simp only [Act.put, lA, lB, lC]
      refine tQ (i := 24) ?_
      try simp only [Act.put, lA, lB, lC]
      refine tQ (i := 25) ?_
      try simp only [Act.put, lA, lB, lC]
      refine tQ (i := 26) ?_
      try simp only [Act.put, lA, lB, lC]
      refine tR (i := 27) (v := .bool true) ?_ ?_
      ·
       intro w hSw; (try dsimp only at hSw); go_simp; all_goals first | (with_reducible rfl) | (rw [f2]; done) | (simpa using f2) | (simp [f2]; done) | (simp; omega)
      try simp only [Act.put, lA, lB, lC]
      refine tQ (i := 28) ?_
      try simp only [Act.put, lA, lB, lC]
      refine tQ (i := 29) ?_
      try simp only [Act.put, lA, lB, lC]
      refine wpAnyH_done (by kernel_rfl) ?_ _
      clear hHeld
      go_wp2
      go_ret
      exact ⟨Jy HF.out.symm, d.out⟩
  ·
   obtain rfl : k = qs.length := by omega
   have HACT := zh (acts_yes hno.out)
   clear hno
   have cp_B0_0 := Kz B0.out
   go_wp2
   clear cp_B0_0
   generalize wr = Wa at *
   go_loopw [4] (fun i wr => ∃ k : Nat, k ≤ ds.length ∧ i = .int .i64 k ∧ Hid (Ux (Ea now) f0D ds k) ∧ Below Wa Wa wr) (fun i _ => ds.length - (intOf i).toNat)
   case atStart => exact ⟨0, Ij _, rfl, zh (Xy _ _ _), Il _ _⟩
   case round =>
    obtain ⟨k, hk, rfl, hno, c⟩ := hrel
    have cw := zh c
    replace B0 := zb c B0
    replace d := zD d c
    clear c
    by_cases hlt : k < ds.length
    ·
     have i1 : (0 : Int) ≤ (k : Int) := by omega
     have i2 : (k : Int) < (ds.length : Int) := by omega
     have hz := Vj S5.out hlt
     obtain ⟨b, off, cap', p2, c2, p3, c3, p6, c6, hv, hbl, e0, e1, e2, e3, e4, e5, e6, s2, s3, s6⟩ := fin_at (Jb Jn H5.out d.out) hlt
     simp only [Ik] at hv
     obtain ⟨rfl, _, rfl⟩ := hv
     change Jg.sz (ds.getD k f0D) ≤ 1048576 at hz
     have HNO : Hid (Ea now (ds.getD k f0D) = false → engB ((ss, now), cu, os, qs, ds, ls, st) = false) := zh (fun g => eng_no5 (e := ((ss, now), cu, os, qs, ds, ls, st)) (allB_no f0D hlt g))
     have HST : Hid (Ea now (ds.getD k f0D) = true → Ux (Ea now) f0D ds (k + 1)) := zh (fun g => Xz hno.out g)
     clear hno hbl
     obtain ⟨x, hx⟩ : ∃ x, x = ds.getD k f0D := ⟨_, rfl⟩
     rw [← hx] at hz HNO HST e0 e1 e2 e3 e4 e5 e6 s2 s3 s6
     clear hx
     obtain ⟨⟨a0, a1, x2, x3⟩, a4, a5, x6⟩ := x
     rw [Er] at hz
     dsimp only at *
     have T2 := zh s2; have M2 := zh (show zL Jk x2 ≤ 1048576 by omega)
     have T3 := zh s3; have M3 := zh (show zL Je x3 ≤ 1048576 by omega)
     have T6 := zh s6; have M6 := zh (show zL Ke x6 ≤ 1048576 by omega)
     clear s2 s3 s6 hz
     have cp_B0_0 := Kz B0.out
     have cal : Below wr wr (wr.alloc (.cells #[a0, a1, .slice p2 x2.length c2, .slice p3 x3.length c3, a4, a5, .slice p6 x6.length c6] 59)) := (Il _ _).alloc (Ii _) _
     have B1 : Hid ((wr.alloc (.cells #[a0, a1, .slice p2 x2.length c2, .slice p3 x3.length c3, a4, a5, .slice p6 x6.length c6] 59)).heap[wr.heap.size]? = some (.cells #[a0, a1, .slice p2 x2.length c2, .slice p3 x3.length c3, a4, a5, .slice p6 x6.length c6] 59 (0, 0))) := zh (Ic wr _)
     go_wp2_with fail
     clear cp_B0_0 e0 e1 e2 e3 e4 e5 e6
     generalize hWq : (wr.alloc (.cells #[a0, a1, .slice p2 x2.length c2, .slice p3 x3.length c3, a4, a5, .slice p6 x6.length c6] 59)) = Wq at *
     clear hWq
     have Z_q := zh (show wr.heap.size + 1 ≤ Wq.heap.size from Nat.lt_of_lt_of_le (Array.getElem?_eq_some_iff.1 B1.out).1 (Ii _))
     have dq := zh cal
     replace B0 := zb cal B0
     replace d := zD d cal
     clear cal
     refine (specIsQuery a0 a1 (.slice p2 x2.length c2) (.slice p3 x3.length c3) x2 x3 Wq (slR_conds (Jb Jt T2.out dq.out)) (Jz M2.out) (Yd (Jb Jc T3.out dq.out)) (Jz M3.out)).mono ?_
     rintro e Wp ⟨rfl, c⟩
     have dp := zh (dq.out.trans (c.mono dq.out.size))
     replace B0 := zb c B0
     replace B1 := zb c B1
     replace d := zD d c
     clear c
     rcases Bool.eq_false_or_eq_true (Xc a0 a1 x2 x3) with hq | hq
     rotate_left
     ·
      rw [hq]
      have HF := zh (HNO.out (fin_no1 (now := now) (d := ((a0, a1, x2, x3), a4, a5, x6)) hq))
      clear hq HNO HST
      have cp_B0_0 := Kz B0.out
      have cp_B1_0 := cls7 B1.out
      go_wp2
      clear cp_B0_0 cp_B1_0
      go_ret
      exact ⟨Jy HF.out.symm, d.out⟩
     rw [hq]
     have HQ := zh hq
     clear hq
     have cp_B0_0 := Kz B0.out
     have cp_B1_0 := cls7 B1.out
     go_wp2_with fail
     clear cp_B0_0 cp_B1_0
     refine (in_any a4 0 now _).mono ?_
     rintro e wx ⟨rfl, hwx⟩
     obtain rfl := hwx.symm
     rcases Bool.eq_false_or_eq_true (decide (0 ≤ a4 ∧ a4 ≤ now)) with ht1 | ht1
     rotate_left
     ·
      rw [ht1]
      have HF := zh (HNO.out (fin_no2 (now := now) (d := ((a0, a1, x2, x3), a4, a5, x6)) (fun g => of_decide_eq_false ht1 g.1)))
      clear ht1 HNO HST
      have cp_B0_0 := Kz B0.out
      have cp_B1_0 := cls7 B1.out
      go_wp2
      clear cp_B0_0 cp_B1_0
      go_ret
      exact ⟨Jy HF.out.symm, d.out⟩
     rw [ht1]
     have HT1 := zh ht1
     clear ht1
     have cp_B0_0 := Kz B0.out
     have cp_B1_0 := cls7 B1.out
     go_wp2_with fail
     clear cp_B0_0 cp_B1_0
     refine (in_any a5 0 100000 _).mono ?_
     rintro e wx ⟨rfl, hwx⟩
     obtain rfl := hwx.symm
     rcases Bool.eq_false_or_eq_true (decide (0 ≤ a5 ∧ a5 ≤ 100000)) with ht2 | ht2
     rotate_left
     ·
      rw [ht2]
      have HF := zh (HNO.out (fin_no2 (now := now) (d := ((a0, a1, x2, x3), a4, a5, x6)) (fun g => of_decide_eq_false ht2 g.2)))
      clear ht2 HNO HST
      have cp_B0_0 := Kz B0.out
      have cp_B1_0 := cls7 B1.out
      go_wp2
      clear cp_B0_0 cp_B1_0
      go_ret
      exact ⟨Jy HF.out.symm, d.out⟩
     rw [ht2]
     have HT2 := zh ht2
     clear ht2
     have cp_B0_0 := Kz B0.out
     have cp_B1_0 := cls7 B1.out
     go_wp2_with fail
     clear cp_B0_0 cp_B1_0
     refine (specL9List (.slice p6 x6.length c6) x6 Wp (Jb Jw T6.out dp.out) M6.out).mono ?_
     rintro e Wl ⟨rfl, c⟩
     have dl := zh (dp.out.trans (c.mono dp.out.size))
     replace B0 := zb c B0
     replace B1 := zb c B1
     replace d := zD d c
     clear c
     rcases Bool.eq_false_or_eq_true (Ec x6) with hl | hl
     rotate_left
     ·
      rw [hl]
      have HF := zh (HNO.out (fin_no3 (now := now) (d := ((a0, a1, x2, x3), a4, a5, x6)) hl))
      clear hl HNO HST
      have cp_B0_0 := Kz B0.out
      have cp_B1_0 := cls7 B1.out
      go_wp2
      clear cp_B0_0 cp_B1_0
      go_ret
      exact ⟨Jy HF.out.symm, d.out⟩
     rw [hl]
     have HL := zh hl
     clear hl
     have HT := zh (HST.out (fin_yes (now := now) (d := ((a0, a1, x2, x3), a4, a5, x6)) HQ.out ⟨of_decide_eq_true HT1.out, of_decide_eq_true HT2.out⟩ HL.out))
     clear HNO HST
     have cp_B0_0 := Kz B0.out
     have cp_B1_0 := cls7 B1.out
     go_wp2
     clear cp_B0_0 cp_B1_0
     go_roundw
     case rel => exact ⟨k + 1, by omega, by go_num, HT, cw.out.trans (dl.out.mono cw.out.size)⟩
     case measure => simp [intOf]; omega
    ·
     obtain rfl : k = ds.length := by omega
     have HDN := zh (Ee (p := Ea now) f0D hno.out)
     clear hno
     have cp_B0_0 := Kz B0.out
     go_wp2
     clear cp_B0_0
     generalize wr = Wb at *
     go_loopw [6] (fun i wr => ∃ k : Nat, k ≤ ls.length ∧ i = .int .i64 k ∧ Hid (Ux Ve x0D ls k) ∧ Below Wb Wb wr) (fun i _ => ls.length - (intOf i).toNat)
     case atStart => exact ⟨0, Ij _, rfl, zh (Xy _ _ _), Il _ _⟩
     case round =>
      obtain ⟨k, hk, rfl, hno, c⟩ := hrel
      have cw := zh c
      replace B0 := zb c B0
      replace d := zD d c
      clear c
      by_cases hlt : k < ls.length
      ·
       have i1 : (0 : Int) ≤ (k : Int) := by omega
       have i2 : (k : Int) < (ls.length : Int) := by omega
       have hz := Vj S6.out hlt
       obtain ⟨b, off, cap', p2, c2, p3, c3, p4, c4, hv, hbl, e0, e1, e2, e3, e4, s2, s3, s4⟩ := chg_at (Jb Jr H6.out d.out) hlt
       simp only [Ik] at hv
       obtain ⟨rfl, _, rfl⟩ := hv
       change Jo.sz (ls.getD k x0D) ≤ 1048576 at hz
       have HNO : Hid (Ve (ls.getD k x0D) = false → engB ((ss, now), cu, os, qs, ds, ls, st) = false) := zh (fun g => eng_no6 (e := ((ss, now), cu, os, qs, ds, ls, st)) (allB_no x0D hlt g))
       have HST : Hid (Ve (ls.getD k x0D) = true → Ux Ve x0D ls (k + 1)) := zh (fun g => Xz hno.out g)
       clear hno hbl
       obtain ⟨x, hx⟩ : ∃ x, x = ls.getD k x0D := ⟨_, rfl⟩
       rw [← hx] at hz HNO HST e0 e1 e2 e3 e4 s2 s3 s4
       clear hx
       obtain ⟨sg, ba, x2, x3, x4⟩ := x
       rw [tCharge_sz] at hz
       dsimp only at *
       have HC := zh (specIsCharge sg ba (.slice p2 x2.length c2) (.slice p3 x3.length c3) (.slice p4 x4.length c4) x2 x3 x4 wr s2 s3 s4 (Jz (show zL Je x2 ≤ 1048576 by omega)) (Jz (show zL Je x3 ≤ 1048576 by omega)) (Jz (show zL Je x4 ≤ 1048576 by omega)))
       clear s2 s3 s4 hz
       have cp_B0_0 := Kz B0.out
       go_wp2_with fail
       clear cp_B0_0 e0 e1 e2 e3 e4
       refine HC.out.mono ?_
       rintro e Wq ⟨rfl, c⟩
       have dq := zh c
       replace B0 := zb c B0
       replace d := zD d c
       clear c HC
       rcases Bool.eq_false_or_eq_true (Ve (sg, ba, x2, x3, x4)) with hl | hl
       rotate_left
       ·
        rw [hl]
        have HF := zh (HNO.out (hl))
        clear hl HNO HST
        have cp_B0_0 := Kz B0.out
        go_wp2
        clear cp_B0_0
        go_ret
        exact ⟨Jy HF.out.symm, d.out⟩
       rw [hl]
       have HL := zh hl
       clear hl
       have HT := zh (HST.out HL.out)
       clear HNO HST
       have cp_B0_0 := Kz B0.out
       go_wp2
       clear cp_B0_0
       go_roundw
       case rel => exact ⟨k + 1, by omega, by go_num, HT, cw.out.trans (dq.out.mono cw.out.size)⟩
       case measure => simp [intOf]; omega
      ·
       obtain rfl : k = ls.length := by omega
       have HLG := zh (Ee (p := Ve) x0D hno.out)
       clear hno
       have HT : Hid (engB ((ss, now), cu, os, qs, ds, ls, st) = true) := zh (eng_yes HST.out HH.out HOR.out HACT.out HDN.out HLG.out)
       have cp_B0_0 := Kz B0.out
       go_wp2
       clear cp_B0_0
       go_ret
       exact ⟨Jy HT.out.symm, d.out⟩
set_option maxHeartbeats 16000000 in
theorem copy_l6Query (a0 a1 : Int) (v2 v3 : Value) (x2 : List (Int × Int × Int)) (x3 : List Int) (w : World) (h2 : Ko Jk w v2 x2) (h3 : Ko Je w v3 x3) (s2 : zL Jk x2 ≤ 1048576) (s3 : zL Je x3 ≤ 1048576) :
  Calls Tryz.prog 93 #[.agg #[a0, a1, v2, v3]] w (Yy Kq (fun cs => .agg cs.toArray) w (a0, a1, x2, x3)) := by
 obtain ⟨c2, k2, rfl⟩ := Jl h2
 obtain ⟨c3, k3, rfl⟩ := Jl h3
 have H2 := zh h2
 have N2 := zh (Jz s2)
 have H3 := zh h3
 have N3 := zh (Jz s3)
 clear h2 s2 h3 s3
 have d := zh (show Below w w ((w.alloc (.cells #[a0, a1, .slice c2 x2.length k2, .slice c3 x3.length k3] 53)).alloc (.cells #[Ja, Ja, (), ()] 53)) from ((Il _ w).alloc (Ii _) _).alloc (by simp) _)
 have B1 : Hid (((w.alloc (.cells #[a0, a1, .slice c2 x2.length k2, .slice c3 x3.length k3] 53)).alloc (.cells #[Ja, Ja, (), ()] 53)).heap[(w.heap.size + 1)]? = some (.cells #[Ja, Ja, (), ()] 53 (0, 0))) := zh (by
  have := Ic (w.alloc (.cells #[a0, a1, .slice c2 x2.length k2, .slice c3 x3.length k3] 53)) (.cells #[Ja, Ja, (), ()] 53)
  simpa only [Ie] using this)
 have B0 : Hid (((w.alloc (.cells #[a0, a1, .slice c2 x2.length k2, .slice c3 x3.length k3] 53)).alloc (.cells #[Ja, Ja, (), ()] 53)).heap[w.heap.size]? = some (.cells #[a0, a1, .slice c2 x2.length k2, .slice c3 x3.length k3] 53 (0, 0))) := zh (by
  rw [Below.heap_alloc _ _ _ (by simp)]
  exact Ic w _)
 have Y_W : Hid (w.heap.size + 2 ≤ ((w.alloc (.cells #[a0, a1, .slice c2 x2.length k2, .slice c3 x3.length k3] 53)).alloc (.cells #[Ja, Ja, (), ()] 53)).heap.size) := zh (by simp [Ie])
 go_enter Tryz.func93, Tryz.ntmps93
 go_wp2
 generalize ((w.alloc (.cells #[a0, a1, .slice c2 x2.length k2, .slice c3 x3.length k3] 53)).alloc (.cells #[Ja, Ja, (), ()] 53)) = W at *
 have cp_B0_0 := cls4 B0.out
 refine wp_region_held_drew (S := fun w' => w'.cell? ⟨w, 0, none⟩ = some (Value.int .i64 a0) ∧ w'.cell? ⟨w, 1, none⟩ = some (Value.int .i64 a1) ∧ w'.cell? ⟨w, 2, none⟩ = some (Value.slice c2 x2.length k2) ∧ w'.cell? ⟨w, 3, none⟩ = some (Value.slice c3 x3.length k3)) (by kernel_rfl) cp_B0_0 (fun hHeld => ?_)
 clear cp_B0_0
 have cdr : Below W W W.drew := Kc (Il _ _)
 replace B0 := zb cdr B0
 replace B1 := zb cdr B1
 replace d := zD d cdr
 clear cdr
 refine tQ (i := 0) ?_
 try simp only [Act.put, lA, lB, lC]
 refine tQ (i := 1) ?_
 try simp only [Act.put, lA, lB, lC]
 refine tQ (i := 2) ?_
 try simp only [Act.put, lA, lB, lC]
 refine tQ (i := 3) ?_
 try simp only [Act.put, lA, lB, lC]
 refine tQ (i := 5) ?_
 try simp only [Act.put, lA, lB, lC]
 refine tQ (i := 6) ?_
 try simp only [Act.put, lA, lB, lC]
 refine tQ (i := 9) ?_
 try simp only [Act.put, lA, lB, lC]
 refine tQ (i := 10) ?_
 try simp only [Act.put, lA, lB, lC]
 refine wpAnyH_ready (rs := [4, 8]) (by kernel_rfl) (by simp) ?_
 refine (AllReadyH.cons (o := _) (by simp only [hA, hB, hC]; rfl) (fun K hK => ?_) (AllReadyH.cons (o := _) (by simp only [hA, hB, hC]; rfl) (fun K hK => ?_) AllReadyH.nil))
 ·
  go_simp
  have hal : Below W (W.drew) (W.alloc (.cells #[] 177)).drew := ⟨rfl, rfl, rfl, by show W.heap.size ≤ (W.alloc (.cells #[] 177)).heap.size; simp [Ie], fun k hk => Below.heap_alloc W _ k hk⟩
  have Y_2 := zh (show W.heap.size < (W.alloc (.cells #[] 177)).drew.heap.size by show W.heap.size < (W.alloc (.cells #[] 177)).heap.size; simp [Ie])
  replace B0 := zb hal B0
  replace B1 := zb hal B1
  replace d := zD d hal
  have P2 := zh (Yi Jt (Ye (T := Jk) W 177 (fun b => b = W.heap.size) rfl) (Kc (Il _ _)))
  have Q2 := zh (fun b (h : b = W.heap.size) => h)
  clear hal
  generalize (W.alloc (.cells #[] 177)).drew = V1 at *
  refine hK.out _ _ (cls4 B0.out) (fun hHeld => ?_)
  clear hK K
  try simp only [Act.put, lA, lB, lC]
  refine wpAnyH_ready (rs := [7, 8]) (by kernel_rfl) (by simp) ?_
  refine (AllReadyH.cons (o := _) (by simp only [hA, hB, hC]; rfl) (fun K hK => ?_) (AllReadyH.cons (o := _) (by simp only [hA, hB, hC]; rfl) (fun K hK => ?_) AllReadyH.nil))
  ·
   refine Kv Jt flat_Cond info_T_Cond Tryz.underlying51 rfl rfl (.tmp 7) (.tmp 9) rfl (fun b => b = W.heap.size) (fun b => (fun b => b = W.heap.size) b ∨ b = V1.heap.size) _ _ [] x2 rfl rfl P2.out (Jb Jt H2.out d.out) (fun b h => Or.inl h) (Or.inr rfl) (by have := N2.out; simp; omega) ?_
   intro u V2 oB tB
   rw [List.nil_append] at oB
   obtain ⟨ua2, uc2, rfl⟩ := Ju oB
   have y0 := Y_W.out
   have y1 := Y_2.out
   have yd : w.heap.size ≤ V1.heap.size := d.out.size
   replace B0 := zB tB B0 (fun h => by have r2 := Q2.out _ h; omega)
   replace B1 := zB tB B1 (fun h => by have r2 := Q2.out _ h; omega)
   replace d := zh (Js d.out tB (fun b h => by have r2 := Q2.out _ h; omega) (by omega))
   have Z_V2 := zh (show V1.heap.size ≤ V2.heap.size from tB.size)
   clear yd y0 y1
   replace P2 := zh (Kn Jt oB)
   replace Q2 := zh (fun b (h : ((fun b => b = W.heap.size) b ∨ b = V1.heap.size) ∧ b < V2.heap.size) => (show (b = W.heap.size ∨ b = V1.heap.size) ∧ b < V2.heap.size from h))
   clear oB tB
   refine hK.out _ _ (cls4 B0.out) (fun hHeld => ?_)
   clear hK K
   try simp only [Act.put, lA, lB, lC]
   refine rA 8 (fun K hK => ?_)
   go_simp
   have hal : Below V2 V2 (V2.alloc (.cells #[] 3)) := (Il _ _).alloc (Ii _) _
   have Y_3 := zh (show V2.heap.size < (V2.alloc (.cells #[] 3)).heap.size by show V2.heap.size < (V2.alloc (.cells #[] 3)).heap.size; simp [Ie])
   replace B0 := zb hal B0
   replace B1 := zb hal B1
   replace P2 := zf Jt P2 hal
   replace d := zD d hal
   have P3 := zh (Ye (T := Je) V2 3 (fun b => b = V2.heap.size) rfl)
   have Q3 := zh (fun b (h : b = V2.heap.size) => h)
   clear hal
   generalize (V2.alloc (.cells #[] 3)) = V3 at *
   refine hK.out _ _ (cls4 B0.out) (fun hHeld => ?_)
   clear hK K
   try simp only [Act.put, lA, lB, lC]
   refine rA 11 (fun K hK => ?_)
   refine Kv Jc Uf Yp Tryz.underlying25 rfl rfl (.tmp 11) (.tmp 13) rfl (fun b => b = V2.heap.size) (fun b => (fun b => b = V2.heap.size) b ∨ b = V3.heap.size) _ _ [] x3 rfl rfl P3.out (Jb Jc H3.out d.out) (fun b h => Or.inl h) (Or.inr rfl) (by have := N3.out; simp; omega) ?_
   intro u V4 oB tB
   rw [List.nil_append] at oB
   obtain ⟨ua3, uc3, rfl⟩ := Ju oB
   have y0 := Y_W.out
   have y1 := Y_2.out
   have y2 := Z_V2.out
   have y3 := Y_3.out
   have yd : w.heap.size ≤ V3.heap.size := d.out.size
   replace B0 := zB tB B0 (fun h => by have r2 := Q3.out _ h; omega)
   replace B1 := zB tB B1 (fun h => by have r2 := Q3.out _ h; omega)
   replace P2 := zt Jt P2 tB (fun b h1 h2 => by have r1 := Q2.out b h1; have r2 := Q3.out _ h2; omega)
   replace d := zh (Js d.out tB (fun b h => by have r2 := Q3.out _ h; omega) (by omega))
   have Z_V4 := zh (show V3.heap.size ≤ V4.heap.size from tB.size)
   clear yd y0 y1 y2 y3
   replace P3 := zh (Kn Jc oB)
   replace Q3 := zh (fun b (h : ((fun b => b = V2.heap.size) b ∨ b = V3.heap.size) ∧ b < V4.heap.size) => (show (b = V2.heap.size ∨ b = V3.heap.size) ∧ b < V4.heap.size from h))
   clear oB tB
   refine hK.out _ _ (cls4 B0.out) (fun hHeld => ?_)
   clear hK K
   try simp only [Act.put, lA, lB, lC]
   refine tQ (i := 12) ?_
   try simp only [Act.put, lA, lB, lC]
   refine rA 13 (fun K hK => ?_)
   have cp_B1_0 := cls4 B1.out
   have f_B1_0 := Ez V4 _ 0 _ _ B1.out
   have f_B1_1 := Ez V4 _ 1 _ _ B1.out
   have f_B1_2 := Ez V4 _ 2 _ _ B1.out
   have f_B1_3 := Ez V4 _ 3 _ _ B1.out
   go_simp
   clear cp_B1_0 f_B1_0 f_B1_1 f_B1_2 f_B1_3
   have tt := (((((Kb.refl (fun b => b = w.heap.size + 1) V4).trans (Jm (G := fun b => b = w.heap.size + 1) (g := w.heap.size + 1) (j := 0) (u := .int .i64 a0) rfl)).trans (Jm (G := fun b => b = w.heap.size + 1) (g := w.heap.size + 1) (j := 1) (u := .int .i64 a1) rfl)).trans (Jm (G := fun b => b = w.heap.size + 1) (g := w.heap.size + 1) (j := 2) (u := .slice ua2 x2.length uc2) rfl)).trans (Jm (G := fun b => b = w.heap.size + 1) (g := w.heap.size + 1) (j := 3) (u := .slice ua3 x3.length uc3) rfl))
   have r := st4 B1.out a0 a1 (.slice ua2 x2.length uc2) (.slice ua3 x3.length uc3)
   have e0 := Ia _ _ 0 _ _ _ r
   have e1 := Ia _ _ 1 _ _ _ r
   have e2 := Ia _ _ 2 _ _ _ r
   have e3 := Ia _ _ 3 _ _ _ r
   simp at e0 e1 e2 e3
   clear r
   have y0 := Y_W.out
   have y1 := Y_2.out
   have y2 := Z_V2.out
   have y3 := Y_3.out
   have y4 := Z_V4.out
   replace B0 := zB tt B0 (fun h => by omega)
   replace P2 := zt Jt P2 tt (fun b h1 h2 => by have r1 := Q2.out b h1; omega)
   replace P3 := zt Jc P3 tt (fun b h1 h2 => by have r1 := Q3.out b h1; omega)
   replace d := zh (Js d.out tt (fun b h => by omega) d.out.size)
   clear tt y0 y1 y2 y3 y4
   generalize ((((V4.setCell ⟨w.heap.size + 1, 0, none⟩ a0).setCell ⟨w.heap.size + 1, 1, none⟩ a1).setCell ⟨w.heap.size + 1, 2, none⟩ (.slice ua2 x2.length uc2)).setCell ⟨w.heap.size + 1, 3, none⟩ (.slice ua3 x3.length uc3)) = V5 at *
   refine hK.out _ _ (cls4 B0.out) (fun hHeld => ?_)
   clear hK K
   try simp only [Act.put, lA, lB, lC]
   refine wpAnyH_done (by kernel_rfl) ?_ _
   clear hHeld
   go_wp2
   refine bodyPost_ret (v := .agg #[a0, a1, .slice ua2 x2.length uc2, .slice ua3 x3.length uc3]) ?_ rfl ?_
   ·
    simp [results, Tryz.f93, go_sem, e0, e1, e2, e3]
   have y0 := Y_W.out
   have y1 := Y_2.out
   have y2 := Z_V2.out
   have y3 := Y_3.out
   have y4 := Z_V4.out
   exact ⟨[a0, a1, .slice ua2 x2.length uc2, .slice ua3 x3.length uc3], rfl, tQuery_mkO P2.out P3.out (fun b h => by have r1 := Q2.out b h; show w.heap.size ≤ b; omega) (fun b h => by have r1 := Q3.out b h; show w.heap.size ≤ b; omega) (fun b h1 h2 => by have r1 := Q2.out b h1; have r2 := Q3.out b h2; omega), d.out⟩
  ·
   go_simp
   have hal : Below V1 V1 (V1.alloc (.cells #[] 3)) := (Il _ _).alloc (Ii _) _
   have Y_3 := zh (show V1.heap.size < (V1.alloc (.cells #[] 3)).heap.size by show V1.heap.size < (V1.alloc (.cells #[] 3)).heap.size; simp [Ie])
   replace B0 := zb hal B0
   replace B1 := zb hal B1
   replace P2 := zf Jt P2 hal
   replace d := zD d hal
   have P3 := zh (Ye (T := Je) V1 3 (fun b => b = V1.heap.size) rfl)
   have Q3 := zh (fun b (h : b = V1.heap.size) => h)
   clear hal
   generalize (V1.alloc (.cells #[] 3)) = V2 at *
   refine hK.out _ _ (cls4 B0.out) (fun hHeld => ?_)
   clear hK K
   try simp only [Act.put, lA, lB, lC]
   refine rA 7 (fun K hK => ?_)
   refine Kv Jt flat_Cond info_T_Cond Tryz.underlying51 rfl rfl (.tmp 7) (.tmp 9) rfl (fun b => b = W.heap.size) (fun b => (fun b => b = W.heap.size) b ∨ b = V2.heap.size) _ _ [] x2 rfl rfl P2.out (Jb Jt H2.out d.out) (fun b h => Or.inl h) (Or.inr rfl) (by have := N2.out; simp; omega) ?_
   intro u V3 oB tB
   rw [List.nil_append] at oB
   obtain ⟨ua2, uc2, rfl⟩ := Ju oB
   have y0 := Y_W.out
   have y1 := Y_2.out
   have y2 := Y_3.out
   have yd : w.heap.size ≤ V2.heap.size := d.out.size
   replace B0 := zB tB B0 (fun h => by have r2 := Q2.out _ h; omega)
   replace B1 := zB tB B1 (fun h => by have r2 := Q2.out _ h; omega)
   replace P3 := zt Jc P3 tB (fun b h1 h2 => by have r1 := Q3.out b h1; have r2 := Q2.out _ h2; omega)
   replace d := zh (Js d.out tB (fun b h => by have r2 := Q2.out _ h; omega) (by omega))
   have Z_V3 := zh (show V2.heap.size ≤ V3.heap.size from tB.size)
   clear yd y0 y1 y2
   replace P2 := zh (Kn Jt oB)
   replace Q2 := zh (fun b (h : ((fun b => b = W.heap.size) b ∨ b = V2.heap.size) ∧ b < V3.heap.size) => (show (b = W.heap.size ∨ b = V2.heap.size) ∧ b < V3.heap.size from h))
   clear oB tB
   refine hK.out _ _ (cls4 B0.out) (fun hHeld => ?_)
   clear hK K
   try simp only [Act.put, lA, lB, lC]
   refine rA 11 (fun K hK => ?_)
   refine Kv Jc Uf Yp Tryz.underlying25 rfl rfl (.tmp 11) (.tmp 13) rfl (fun b => b = V1.heap.size) (fun b => (fun b => b = V1.heap.size) b ∨ b = V3.heap.size) _ _ [] x3 rfl rfl P3.out (Jb Jc H3.out d.out) (fun b h => Or.inl h) (Or.inr rfl) (by have := N3.out; simp; omega) ?_
   intro u V4 oB tB
   rw [List.nil_append] at oB
   obtain ⟨ua3, uc3, rfl⟩ := Ju oB
   have y0 := Y_W.out
   have y1 := Y_2.out
   have y2 := Y_3.out
   have y3 := Z_V3.out
   have yd : w.heap.size ≤ V3.heap.size := d.out.size
   replace B0 := zB tB B0 (fun h => by have r2 := Q3.out _ h; omega)
   replace B1 := zB tB B1 (fun h => by have r2 := Q3.out _ h; omega)
   replace P2 := zt Jt P2 tB (fun b h1 h2 => by have r1 := Q2.out b h1; have r2 := Q3.out _ h2; omega)
   replace d := zh (Js d.out tB (fun b h => by have r2 := Q3.out _ h; omega) (by omega))
   have Z_V4 := zh (show V3.heap.size ≤ V4.heap.size from tB.size)
   clear yd y0 y1 y2 y3
   replace P3 := zh (Kn Jc oB)
   replace Q3 := zh (fun b (h : ((fun b => b = V1.heap.size) b ∨ b = V3.heap.size) ∧ b < V4.heap.size) => (show (b = V1.heap.size ∨ b = V3.heap.size) ∧ b < V4.heap.size from h))
   clear oB tB
   refine hK.out _ _ (cls4 B0.out) (fun hHeld => ?_)
   clear hK K
   try simp only [Act.put, lA, lB, lC]
   refine tQ (i := 12) ?_
   try simp only [Act.put, lA, lB, lC]
   refine rA 13 (fun K hK => ?_)
   have cp_B1_0 := cls4 B1.out
   have f_B1_0 := Ez V4 _ 0 _ _ B1.out
   have f_B1_1 := Ez V4 _ 1 _ _ B1.out
   have f_B1_2 := Ez V4 _ 2 _ _ B1.out
   have f_B1_3 := Ez V4 _ 3 _ _ B1.out
   go_simp
   clear cp_B1_0 f_B1_0 f_B1_1 f_B1_2 f_B1_3
   have tt := (((((Kb.refl (fun b => b = w.heap.size + 1) V4).trans (Jm (G := fun b => b = w.heap.size + 1) (g := w.heap.size + 1) (j := 0) (u := .int .i64 a0) rfl)).trans (Jm (G := fun b => b = w.heap.size + 1) (g := w.heap.size + 1) (j := 1) (u := .int .i64 a1) rfl)).trans (Jm (G := fun b => b = w.heap.size + 1) (g := w.heap.size + 1) (j := 2) (u := .slice ua2 x2.length uc2) rfl)).trans (Jm (G := fun b => b = w.heap.size + 1) (g := w.heap.size + 1) (j := 3) (u := .slice ua3 x3.length uc3) rfl))
   have r := st4 B1.out a0 a1 (.slice ua2 x2.length uc2) (.slice ua3 x3.length uc3)
   have e0 := Ia _ _ 0 _ _ _ r
   have e1 := Ia _ _ 1 _ _ _ r
   have e2 := Ia _ _ 2 _ _ _ r
   have e3 := Ia _ _ 3 _ _ _ r
   simp at e0 e1 e2 e3
   clear r
   have y0 := Y_W.out
   have y1 := Y_2.out
   have y2 := Y_3.out
   have y3 := Z_V3.out
   have y4 := Z_V4.out
   replace B0 := zB tt B0 (fun h => by omega)
   replace P2 := zt Jt P2 tt (fun b h1 h2 => by have r1 := Q2.out b h1; omega)
   replace P3 := zt Jc P3 tt (fun b h1 h2 => by have r1 := Q3.out b h1; omega)
   replace d := zh (Js d.out tt (fun b h => by omega) d.out.size)
   clear tt y0 y1 y2 y3 y4
   generalize ((((V4.setCell ⟨w.heap.size + 1, 0, none⟩ a0).setCell ⟨w.heap.size + 1, 1, none⟩ a1).setCell ⟨w.heap.size + 1, 2, none⟩ (.slice ua2 x2.length uc2)).setCell ⟨w.heap.size + 1, 3, none⟩ (.slice ua3 x3.length uc3)) = V5 at *
   refine hK.out _ _ (cls4 B0.out) (fun hHeld => ?_)
   clear hK K
   try simp only [Act.put, lA, lB, lC]
   refine wpAnyH_done (by kernel_rfl) ?_ _
   clear hHeld
   go_wp2
   refine bodyPost_ret (v := .agg #[a0, a1, .slice ua2 x2.length uc2, .slice ua3 x3.length uc3]) ?_ rfl ?_
   ·
    simp [results, Tryz.f93, go_sem, e0, e1, e2, e3]
   have y0 := Y_W.out
   have y1 := Y_2.out
   have y2 := Y_3.out
   have y3 := Z_V3.out
   have y4 := Z_V4.out
   exact ⟨[a0, a1, .slice ua2 x2.length uc2, .slice ua3 x3.length uc3], rfl, tQuery_mkO P2.out P3.out (fun b h => by have r1 := Q2.out b h; show w.heap.size ≤ b; omega) (fun b h => by have r1 := Q3.out b h; show w.heap.size ≤ b; omega) (fun b h1 h2 => by have r1 := Q2.out b h1; have r2 := Q3.out b h2; omega), d.out⟩
 ·
  go_simp
  have hal : Below W (W.drew) (W.alloc (.cells #[] 3)).drew := ⟨rfl, rfl, rfl, by show W.heap.size ≤ (W.alloc (.cells #[] 3)).heap.size; simp [Ie], fun k hk => Below.heap_alloc W _ k hk⟩
  have Y_3 := zh (show W.heap.size < (W.alloc (.cells #[] 3)).drew.heap.size by show W.heap.size < (W.alloc (.cells #[] 3)).heap.size; simp [Ie])
  replace B0 := zb hal B0
  replace B1 := zb hal B1
  replace d := zD d hal
  have P3 := zh (Yi Jc (Ye (T := Je) W 3 (fun b => b = W.heap.size) rfl) (Kc (Il _ _)))
  have Q3 := zh (fun b (h : b = W.heap.size) => h)
  clear hal
  generalize (W.alloc (.cells #[] 3)).drew = V1 at *
  refine hK.out _ _ (cls4 B0.out) (fun hHeld => ?_)
  clear hK K
  try simp only [Act.put, lA, lB, lC]
  refine rA 4 (fun K hK => ?_)
  go_simp
  have hal : Below V1 V1 (V1.alloc (.cells #[] 177)) := (Il _ _).alloc (Ii _) _
  have Y_2 := zh (show V1.heap.size < (V1.alloc (.cells #[] 177)).heap.size by show V1.heap.size < (V1.alloc (.cells #[] 177)).heap.size; simp [Ie])
  replace B0 := zb hal B0
  replace B1 := zb hal B1
  replace P3 := zf Jc P3 hal
  replace d := zD d hal
  have P2 := zh (Ye (T := Jk) V1 177 (fun b => b = V1.heap.size) rfl)
  have Q2 := zh (fun b (h : b = V1.heap.size) => h)
  clear hal
  generalize (V1.alloc (.cells #[] 177)) = V2 at *
  refine hK.out _ _ (cls4 B0.out) (fun hHeld => ?_)
  clear hK K
  try simp only [Act.put, lA, lB, lC]
  refine rA 7 (fun K hK => ?_)
  refine Kv Jt flat_Cond info_T_Cond Tryz.underlying51 rfl rfl (.tmp 7) (.tmp 9) rfl (fun b => b = V1.heap.size) (fun b => (fun b => b = V1.heap.size) b ∨ b = V2.heap.size) _ _ [] x2 rfl rfl P2.out (Jb Jt H2.out d.out) (fun b h => Or.inl h) (Or.inr rfl) (by have := N2.out; simp; omega) ?_
  intro u V3 oB tB
  rw [List.nil_append] at oB
  obtain ⟨ua2, uc2, rfl⟩ := Ju oB
  have y0 := Y_W.out
  have y1 := Y_3.out
  have y2 := Y_2.out
  have yd : w.heap.size ≤ V2.heap.size := d.out.size
  replace B0 := zB tB B0 (fun h => by have r2 := Q2.out _ h; omega)
  replace B1 := zB tB B1 (fun h => by have r2 := Q2.out _ h; omega)
  replace P3 := zt Jc P3 tB (fun b h1 h2 => by have r1 := Q3.out b h1; have r2 := Q2.out _ h2; omega)
  replace d := zh (Js d.out tB (fun b h => by have r2 := Q2.out _ h; omega) (by omega))
  have Z_V3 := zh (show V2.heap.size ≤ V3.heap.size from tB.size)
  clear yd y0 y1 y2
  replace P2 := zh (Kn Jt oB)
  replace Q2 := zh (fun b (h : ((fun b => b = V1.heap.size) b ∨ b = V2.heap.size) ∧ b < V3.heap.size) => (show (b = V1.heap.size ∨ b = V2.heap.size) ∧ b < V3.heap.size from h))
  clear oB tB
  refine hK.out _ _ (cls4 B0.out) (fun hHeld => ?_)
  clear hK K
  try simp only [Act.put, lA, lB, lC]
  refine rA 11 (fun K hK => ?_)
  refine Kv Jc Uf Yp Tryz.underlying25 rfl rfl (.tmp 11) (.tmp 13) rfl (fun b => b = W.heap.size) (fun b => (fun b => b = W.heap.size) b ∨ b = V3.heap.size) _ _ [] x3 rfl rfl P3.out (Jb Jc H3.out d.out) (fun b h => Or.inl h) (Or.inr rfl) (by have := N3.out; simp; omega) ?_
  intro u V4 oB tB
  rw [List.nil_append] at oB
  obtain ⟨ua3, uc3, rfl⟩ := Ju oB
  have y0 := Y_W.out
  have y1 := Y_3.out
  have y2 := Y_2.out
  have y3 := Z_V3.out
  have yd : w.heap.size ≤ V3.heap.size := d.out.size
  replace B0 := zB tB B0 (fun h => by have r2 := Q3.out _ h; omega)
  replace B1 := zB tB B1 (fun h => by have r2 := Q3.out _ h; omega)
  replace P2 := zt Jt P2 tB (fun b h1 h2 => by have r1 := Q2.out b h1; have r2 := Q3.out _ h2; omega)
  replace d := zh (Js d.out tB (fun b h => by have r2 := Q3.out _ h; omega) (by omega))
  have Z_V4 := zh (show V3.heap.size ≤ V4.heap.size from tB.size)
  clear yd y0 y1 y2 y3
  replace P3 := zh (Kn Jc oB)
  replace Q3 := zh (fun b (h : ((fun b => b = W.heap.size) b ∨ b = V3.heap.size) ∧ b < V4.heap.size) => (show (b = W.heap.size ∨ b = V3.heap.size) ∧ b < V4.heap.size from h))
  clear oB tB
  refine hK.out _ _ (cls4 B0.out) (fun hHeld => ?_)
  clear hK K
  try simp only [Act.put, lA, lB, lC]
  refine tQ (i := 12) ?_
  try simp only [Act.put, lA, lB, lC]
  refine rA 13 (fun K hK => ?_)
  have cp_B1_0 := cls4 B1.out
  have f_B1_0 := Ez V4 _ 0 _ _ B1.out
  have f_B1_1 := Ez V4 _ 1 _ _ B1.out
  have f_B1_2 := Ez V4 _ 2 _ _ B1.out
  have f_B1_3 := Ez V4 _ 3 _ _ B1.out
  go_simp
  clear cp_B1_0 f_B1_0 f_B1_1 f_B1_2 f_B1_3
  have tt := (((((Kb.refl (fun b => b = w.heap.size + 1) V4).trans (Jm (G := fun b => b = w.heap.size + 1) (g := w.heap.size + 1) (j := 0) (u := .int .i64 a0) rfl)).trans (Jm (G := fun b => b = w.heap.size + 1) (g := w.heap.size + 1) (j := 1) (u := .int .i64 a1) rfl)).trans (Jm (G := fun b => b = w.heap.size + 1) (g := w.heap.size + 1) (j := 2) (u := .slice ua2 x2.length uc2) rfl)).trans (Jm (G := fun b => b = w.heap.size + 1) (g := w.heap.size + 1) (j := 3) (u := .slice ua3 x3.length uc3) rfl))
  have r := st4 B1.out a0 a1 (.slice ua2 x2.length uc2) (.slice ua3 x3.length uc3)
  have e0 := Ia _ _ 0 _ _ _ r
  have e1 := Ia _ _ 1 _ _ _ r
  have e2 := Ia _ _ 2 _ _ _ r
  have e3 := Ia _ _ 3 _ _ _ r
  simp at e0 e1 e2 e3
  clear r
  have y0 := Y_W.out
  have y1 := Y_3.out
  have y2 := Y_2.out
  have y3 := Z_V3.out
  have y4 := Z_V4.out
  replace B0 := zB tt B0 (fun h => by omega)
  replace P3 := zt Jc P3 tt (fun b h1 h2 => by have r1 := Q3.out b h1; omega)
  replace P2 := zt Jt P2 tt (fun b h1 h2 => by have r1 := Q2.out b h1; omega)
  replace d := zh (Js d.out tt (fun b h => by omega) d.out.size)
  clear tt y0 y1 y2 y3 y4
  generalize ((((V4.setCell ⟨w.heap.size + 1, 0, none⟩ a0).setCell ⟨w.heap.size + 1, 1, none⟩ a1).setCell ⟨w.heap.size + 1, 2, none⟩ (.slice ua2 x2.length uc2)).setCell ⟨w.heap.size + 1, 3, none⟩ (.slice ua3 x3.length uc3)) = V5 at *
  refine hK.out _ _ (cls4 B0.out) (fun hHeld => ?_)
  clear hK K
  try simp only [Act.put, lA, lB, lC]
  refine wpAnyH_done (by kernel_rfl) ?_ _
  clear hHeld
  go_wp2
  refine bodyPost_ret (v := .agg #[a0, a1, .slice ua2 x2.length uc2, .slice ua3 x3.length uc3]) ?_ rfl ?_
  ·
   simp [results, Tryz.f93, go_sem, e0, e1, e2, e3]
  have y0 := Y_W.out
  have y1 := Y_3.out
  have y2 := Y_2.out
  have y3 := Z_V3.out
  have y4 := Z_V4.out
  exact ⟨[a0, a1, .slice ua2 x2.length uc2, .slice ua3 x3.length uc3], rfl, tQuery_mkO P2.out P3.out (fun b h => by have r1 := Q2.out b h; show w.heap.size ≤ b; omega) (fun b h => by have r1 := Q3.out b h; show w.heap.size ≤ b; omega) (fun b h1 h2 => by have r1 := Q2.out b h1; have r2 := Q3.out b h2; omega), d.out⟩
end Go.Proofs.YtnepfacnmaoieaaGreatDoor
