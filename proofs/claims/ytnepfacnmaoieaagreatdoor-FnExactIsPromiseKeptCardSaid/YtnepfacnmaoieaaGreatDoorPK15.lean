/-
 Texts of the proof, merged: KptS.
-/
import Derived.Test.YtnepfacnmaoieaaGreatDoorPK3
import Derived.Test.YtnepfacnmaoieaaGreatDoorPK8
import Derived.Test.YtnepfacnmaoieaaGreatDoorPK12
import Derived.Test.YtnepfacnmaoieaaGreatDoorPK13
import Derived.BigQuiet
import Derived.Deep.QuietTactic
import Derived.Deep.RegionHeld3
namespace Go.Proofs.YtnepfacnmaoieaaGreatDoor
open Go.RowKit
set_option linter.unusedVariables false
set_option linter.unusedSimpArgs false
theorem acts_cap {e : EngD} (h : engB e = true) {k : Nat} (hk : k < e.2.2.2.1.length) : limB (e.2.2.2.1.getD k a0D).2.2.2.2.2.1 = true := by
 have g : ActsTo e.1 e.2.2.2.1 e.2.2.2.1.length := of_decide_eq_true (eng_iff h).2.2.2
 have a := (g k hk).1
 unfold actB at a
 simp only [Bool.and_eq_true] at a
 exact decide_eq_true (of_decide_eq_true a.1.2).2.2.2
set_option maxHeartbeats 16000000 in
set_option maxRecDepth 100000 in
theorem specIsPromiseKept (now cu st : Int) (sv ov av dv lv : Value) (ss : List (List VerD)) (os : List Int) (qs : List ActD) (ds : List FinD) (ls : List ChargeD) (w : World)
  (h0 : SlR tVersionS w sv ss) (h3 : SlR tInt w ov os) (h4 : SlR tActive w av qs) (h5 : SlR tFinished w dv ds) (h6 : SlR tCharge w lv ls) (hs : zL tVersionS ss + zL tInt os + zL tActive qs + zL tFinished ds + zL tCharge ls ≤ 1048576) :
  Calls Tryz.prog 18 #[.agg #[sv, .int .i64 now, .int .i64 cu, ov, av, dv, lv, .int .i64 st]] w (fun e w' => e = .returned (.bool (keptB ((ss, now), cu, os, qs, ds, ls, st))) ∧ Below w.heap.size w w') := by
 have S0 : Hid (zL tVersionS ss ≤ 1048576) := zh (by omega)
 have S3 : Hid (zL tInt os ≤ 1048576) := zh (by omega)
 have S4 : Hid (zL tActive qs ≤ 1048576) := zh (by omega)
 have S5 : Hid (zL tFinished ds ≤ 1048576) := zh (by omega)
 have S6 : Hid (zL tCharge ls ≤ 1048576) := zh (by omega)
 have HS := zh hs
 clear hs
 obtain ⟨e0, n0, rfl⟩ := slR_len h0
 have H0 := zh h0
 obtain ⟨e3, n3, rfl⟩ := slR_len h3
 have H3 := zh h3
 obtain ⟨e4, n4, rfl⟩ := slR_len h4
 have H4 := zh h4
 obtain ⟨e5, n5, rfl⟩ := slR_len h5
 have H5 := zh h5
 obtain ⟨e6, n6, rfl⟩ := slR_len h6
 have H6 := zh h6
 clear h0 h3 h4 h5 h6
 have N0 := zL_len S0.out
 have q1 : (0 : Int) ≤ (ss.length : Int) * (ss.length : Int) := Int.mul_nonneg (by omega) (by omega)
 have q2 : (ss.length : Int) * (ss.length : Int) ≤ 1099511627776 := by
  have := Int.mul_le_mul (show (ss.length : Int) ≤ 1048576 by omega) (show (ss.length : Int) ≤ 1048576 by omega) (by omega) (by decide)
  omega
 have N4 := zL_len S4.out
 have N5 := zL_len S5.out
 have SP : Hid (St w [iB w.heap.size [.slice e0 ss.length n0, .int .i64 now, .int .i64 cu, .slice e3 os.length n3, .slice e4 qs.length n4, .slice e5 ds.length n5, .slice e6 ls.length n6, .int .i64 st] 40] (w.alloc (.cells #[.slice e0 ss.length n0, .int .i64 now, .int .i64 cu, .slice e3 os.length n3, .slice e4 qs.length n4, .slice e5 ds.length n5, .slice e6 ls.length n6, .int .i64 st] 40))) := zh ((St.init w).box [.slice e0 ss.length n0, .int .i64 now, .int .i64 cu, .slice e3 os.length n3, .slice e4 qs.length n4, .slice e5 ds.length n5, .slice e6 ls.length n6, .int .i64 st] 40)
 rcases Bool.eq_false_or_eq_true (engB ((ss, now), cu, os, qs, ds, ls, st)) with he | he
 rotate_left
 ·
  have HK := zh (kept_no1 he)
  have HE := zh he
  clear he q1 q2
  have SQ := SP
  clear SP
  go_enter Tryz.func18, Tryz.ntmps18
  have ld := cell8 (SQ.out.gB 0 rfl)
  go_wp2
  clear ld
  generalize (w.alloc (.cells #[.slice e0 ss.length n0, .int .i64 now, .int .i64 cu, .slice e3 os.length n3, .slice e4 qs.length n4, .slice e5 ds.length n5, .slice e6 ls.length n6, .int .i64 st] 40)) = W0 at *
  go_loopw [4] (fun i wr => i = .int .i64 0 ∧ Hid (St w [iB w.heap.size [.slice e0 ss.length n0, .int .i64 now, .int .i64 cu, .slice e3 os.length n3, .slice e4 qs.length n4, .slice e5 ds.length n5, .slice e6 ls.length n6, .int .i64 st] 40] wr)) (fun _ _ => 0)
  case atStart => exact ⟨rfl, SQ⟩
  case round =>
   clear SQ
   obtain ⟨rfl, SQ⟩ := hrel
   by_cases h0 : 0 < ds.length
   ·
    have i2 : (0 : Int) < (ds.length : Int) := by omega
    clear h0
    have ld := cell8 (SQ.out.gB 0 rfl)
    go_wp2_with fail
    clear ld
    refine (specIsEngine now cu st (.slice e0 ss.length n0) (.slice e3 os.length n3) (.slice e4 qs.length n4) (.slice e5 ds.length n5) (.slice e6 ls.length n6) ss os qs ds ls _ (slR_below tVersionS_law H0.out SQ.out.d) (slR_below tInt_law H3.out SQ.out.d) (slR_below tActive_law H4.out SQ.out.d) (slR_below tFinished_law H5.out SQ.out.d) (slR_below tCharge_law H6.out SQ.out.d) HS.out).mono ?_
    rintro e W5 ⟨rfl, c⟩
    replace SQ := zh (SQ.out.below c)
    clear c
    rw [HE.out]
    have ld := cell8 (SQ.out.gB 0 rfl)
    go_wp2
    clear ld
    go_loopw [5] (fun i wr => i = .int .i64 0 ∧ Hid (St w [iB w.heap.size [.slice e0 ss.length n0, .int .i64 now, .int .i64 cu, .slice e3 os.length n3, .slice e4 qs.length n4, .slice e5 ds.length n5, .slice e6 ls.length n6, .int .i64 st] 40] wr)) (fun _ _ => 0)
    case atStart => exact ⟨rfl, SQ⟩
    case round =>
     clear SQ
     obtain ⟨rfl, SQ⟩ := hrel
     by_cases h0 : 0 < qs.length
     ·
      have i2 : (0 : Int) < (qs.length : Int) := by omega
      clear h0
      have ld := cell8 (SQ.out.gB 0 rfl)
      go_wp2_with fail
      clear ld
      refine (specIsEngine now cu st (.slice e0 ss.length n0) (.slice e3 os.length n3) (.slice e4 qs.length n4) (.slice e5 ds.length n5) (.slice e6 ls.length n6) ss os qs ds ls _ (slR_below tVersionS_law H0.out SQ.out.d) (slR_below tInt_law H3.out SQ.out.d) (slR_below tActive_law H4.out SQ.out.d) (slR_below tFinished_law H5.out SQ.out.d) (slR_below tCharge_law H6.out SQ.out.d) HS.out).mono ?_
      rintro e W5 ⟨rfl, c⟩
      replace SQ := zh (SQ.out.below c)
      clear c
      rw [HE.out]
      have ld := cell8 (SQ.out.gB 0 rfl)
      go_wp2_with fail
      clear ld
      refine (specIsEngine now cu st (.slice e0 ss.length n0) (.slice e3 os.length n3) (.slice e4 qs.length n4) (.slice e5 ds.length n5) (.slice e6 ls.length n6) ss os qs ds ls _ (slR_below tVersionS_law H0.out SQ.out.d) (slR_below tInt_law H3.out SQ.out.d) (slR_below tActive_law H4.out SQ.out.d) (slR_below tFinished_law H5.out SQ.out.d) (slR_below tCharge_law H6.out SQ.out.d) HS.out).mono ?_
      rintro e W9 ⟨rfl, c⟩
      replace SQ := zh (SQ.out.below c)
      clear c
      rw [HE.out]
      go_wp2
      go_ret
      exact ⟨ret_b HK.out.symm, SQ.out.d⟩
     ·
      have i2 : ¬ (0 : Int) < (qs.length : Int) := by omega
      clear h0
      have ld := cell8 (SQ.out.gB 0 rfl)
      go_wp2_with fail
      clear ld
      refine (specIsEngine now cu st (.slice e0 ss.length n0) (.slice e3 os.length n3) (.slice e4 qs.length n4) (.slice e5 ds.length n5) (.slice e6 ls.length n6) ss os qs ds ls _ (slR_below tVersionS_law H0.out SQ.out.d) (slR_below tInt_law H3.out SQ.out.d) (slR_below tActive_law H4.out SQ.out.d) (slR_below tFinished_law H5.out SQ.out.d) (slR_below tCharge_law H6.out SQ.out.d) HS.out).mono ?_
      rintro e W9 ⟨rfl, c⟩
      replace SQ := zh (SQ.out.below c)
      clear c
      rw [HE.out]
      go_wp2
      go_ret
      exact ⟨ret_b HK.out.symm, SQ.out.d⟩
   ·
    have i2 : ¬ (0 : Int) < (ds.length : Int) := by omega
    clear h0
    have ld := cell8 (SQ.out.gB 0 rfl)
    go_wp2
    clear ld
    go_loopw [5] (fun i wr => i = .int .i64 0 ∧ Hid (St w [iB w.heap.size [.slice e0 ss.length n0, .int .i64 now, .int .i64 cu, .slice e3 os.length n3, .slice e4 qs.length n4, .slice e5 ds.length n5, .slice e6 ls.length n6, .int .i64 st] 40] wr)) (fun _ _ => 0)
    case atStart => exact ⟨rfl, SQ⟩
    case round =>
     clear SQ
     obtain ⟨rfl, SQ⟩ := hrel
     by_cases h0 : 0 < qs.length
     ·
      have i2 : (0 : Int) < (qs.length : Int) := by omega
      clear h0
      have ld := cell8 (SQ.out.gB 0 rfl)
      go_wp2_with fail
      clear ld
      refine (specIsEngine now cu st (.slice e0 ss.length n0) (.slice e3 os.length n3) (.slice e4 qs.length n4) (.slice e5 ds.length n5) (.slice e6 ls.length n6) ss os qs ds ls _ (slR_below tVersionS_law H0.out SQ.out.d) (slR_below tInt_law H3.out SQ.out.d) (slR_below tActive_law H4.out SQ.out.d) (slR_below tFinished_law H5.out SQ.out.d) (slR_below tCharge_law H6.out SQ.out.d) HS.out).mono ?_
      rintro e W5 ⟨rfl, c⟩
      replace SQ := zh (SQ.out.below c)
      clear c
      rw [HE.out]
      have ld := cell8 (SQ.out.gB 0 rfl)
      go_wp2_with fail
      clear ld
      refine (specIsEngine now cu st (.slice e0 ss.length n0) (.slice e3 os.length n3) (.slice e4 qs.length n4) (.slice e5 ds.length n5) (.slice e6 ls.length n6) ss os qs ds ls _ (slR_below tVersionS_law H0.out SQ.out.d) (slR_below tInt_law H3.out SQ.out.d) (slR_below tActive_law H4.out SQ.out.d) (slR_below tFinished_law H5.out SQ.out.d) (slR_below tCharge_law H6.out SQ.out.d) HS.out).mono ?_
      rintro e W9 ⟨rfl, c⟩
      replace SQ := zh (SQ.out.below c)
      clear c
      rw [HE.out]
      go_wp2
      go_ret
      exact ⟨ret_b HK.out.symm, SQ.out.d⟩
     ·
      have i2 : ¬ (0 : Int) < (qs.length : Int) := by omega
      clear h0
      have ld := cell8 (SQ.out.gB 0 rfl)
      go_wp2_with fail
      clear ld
      refine (specIsEngine now cu st (.slice e0 ss.length n0) (.slice e3 os.length n3) (.slice e4 qs.length n4) (.slice e5 ds.length n5) (.slice e6 ls.length n6) ss os qs ds ls _ (slR_below tVersionS_law H0.out SQ.out.d) (slR_below tInt_law H3.out SQ.out.d) (slR_below tActive_law H4.out SQ.out.d) (slR_below tFinished_law H5.out SQ.out.d) (slR_below tCharge_law H6.out SQ.out.d) HS.out).mono ?_
      rintro e W9 ⟨rfl, c⟩
      replace SQ := zh (SQ.out.below c)
      clear c
      rw [HE.out]
      go_wp2
      go_ret
      exact ⟨ret_b HK.out.symm, SQ.out.d⟩
 have HE := zh he
 clear he
 have SQ := SP
 clear SP
 go_enter Tryz.func18, Tryz.ntmps18
 have ld := cell8 (SQ.out.gB 0 rfl)
 go_wp2
 clear ld
 generalize (w.alloc (.cells #[.slice e0 ss.length n0, .int .i64 now, .int .i64 cu, .slice e3 os.length n3, .slice e4 qs.length n4, .slice e5 ds.length n5, .slice e6 ls.length n6, .int .i64 st] 40)) = W0 at *
 go_loopw [4] (fun i wr => ∃ k : Nat, k ≤ ds.length ∧ i = .int .i64 k ∧ Hid (AllTo (doneOk ss.length) f0D ds k) ∧ Hid (St w [iB w.heap.size [.slice e0 ss.length n0, .int .i64 now, .int .i64 cu, .slice e3 os.length n3, .slice e4 qs.length n4, .slice e5 ds.length n5, .slice e6 ls.length n6, .int .i64 st] 40] wr)) (fun i _ => ds.length - (intOf i).toNat)
 case atStart => exact ⟨0, Nat.zero_le _, rfl, zh (allTo_zero _ _ _), SQ⟩
 case round =>
  clear SQ
  obtain ⟨k, hk, rfl, hno, SQ⟩ := hrel
  by_cases hlt : k < ds.length
  ·
   have i1 : (0 : Int) ≤ (k : Int) := by omega
   have i2 : (k : Int) < (ds.length : Int) := by omega
   have HST := zh (fun g => allTo_step hno.out (k := k) g)
   have HNO := zh (fun g => kept_no2 (e := ((ss, now), cu, os, qs, ds, ls, st)) (allB_no f0D hlt g))
   have ld := cell8 (SQ.out.gB 0 rfl)
   go_wp2_with fail
   clear ld
   refine (specIsEngine now cu st (.slice e0 ss.length n0) (.slice e3 os.length n3) (.slice e4 qs.length n4) (.slice e5 ds.length n5) (.slice e6 ls.length n6) ss os qs ds ls _ (slR_below tVersionS_law H0.out SQ.out.d) (slR_below tInt_law H3.out SQ.out.d) (slR_below tActive_law H4.out SQ.out.d) (slR_below tFinished_law H5.out SQ.out.d) (slR_below tCharge_law H6.out SQ.out.d) HS.out).mono ?_
   rintro e W2 ⟨rfl, c⟩
   replace SQ := zh (SQ.out.below c)
   clear c
   rw [HE.out]
   obtain ⟨b, off, cap', p2, c2, p3, c3, p6, c6, hv, hbl, r0, r1, r2, r3, r4, r5, r6, s2, s3, s6⟩ := fin_at (slR_below tFinished_law H5.out SQ.out.d) hlt
   simp only [Value.slice.injEq] at hv
   obtain ⟨rfl, _, rfl⟩ := hv
   clear hbl r0 r1 r2 r3 r4 r6 s2 s3 s6
   have HD : Hid (doneOk ss.length (ds.getD k f0D) = decide ((ds.getD k f0D).2.2.1 ≤ (ss.length : Int) * (ss.length : Int))) := zh rfl
   generalize ds.getD k f0D = x at *
   generalize x.2.2.1 = sp at *
   have ld := cell8 (SQ.out.gB 0 rfl)
   by_cases hok : sp ≤ (ss.length : Int) * (ss.length : Int)
   ·
    have g1 : decide ((ss.length : Int) * (ss.length : Int) < sp) = false := decide_eq_false (by omega)
    have HT := zh (HST.out (by rw [HD.out]; exact decide_eq_true hok))
    clear HST HNO HD hok hno
    go_wp2
    go_roundw
    case rel => exact ⟨k + 1, by omega, by go_num, HT, SQ⟩
    case measure => simp [intOf]; omega
   ·
    have g1 : decide ((ss.length : Int) * (ss.length : Int) < sp) = true := decide_eq_true (by omega)
    have HF := zh (HNO.out (by rw [HD.out]; exact decide_eq_false hok))
    clear HST HNO HD hok hno
    go_wp2
    go_ret
    exact ⟨ret_b HF.out.symm, SQ.out.d⟩
  ·
   obtain rfl : k = ds.length := by omega
   have HDN := zh (allB_yes (p := doneOk ss.length) f0D hno.out)
   clear hno
   have ld := cell8 (SQ.out.gB 0 rfl)
   go_wp2
   clear ld
   go_loopw [5] (fun i wr => ∃ k : Nat, k ≤ qs.length ∧ i = .int .i64 k ∧ Hid (AllTo (actOk ss.length) a0D qs k) ∧ Hid (St w [iB w.heap.size [.slice e0 ss.length n0, .int .i64 now, .int .i64 cu, .slice e3 os.length n3, .slice e4 qs.length n4, .slice e5 ds.length n5, .slice e6 ls.length n6, .int .i64 st] 40] wr)) (fun i _ => qs.length - (intOf i).toNat)
   case atStart => exact ⟨0, Nat.zero_le _, rfl, zh (allTo_zero _ _ _), SQ⟩
   case round =>
    clear SQ
    obtain ⟨k, hk, rfl, hno, SQ⟩ := hrel
    by_cases hlt : k < qs.length
    ·
     have i1 : (0 : Int) ≤ (k : Int) := by omega
     have i2 : (k : Int) < (qs.length : Int) := by omega
     have HST := zh (fun g => allTo_step hno.out (k := k) g)
     have HNO := zh (fun g => kept_no3 (e := ((ss, now), cu, os, qs, ds, ls, st)) (allB_no a0D hlt g))
     have HCP := zh (acts_cap HE.out hlt)
     have ld := cell8 (SQ.out.gB 0 rfl)
     go_wp2_with fail
     clear ld
     refine (specIsEngine now cu st (.slice e0 ss.length n0) (.slice e3 os.length n3) (.slice e4 qs.length n4) (.slice e5 ds.length n5) (.slice e6 ls.length n6) ss os qs ds ls _ (slR_below tVersionS_law H0.out SQ.out.d) (slR_below tInt_law H3.out SQ.out.d) (slR_below tActive_law H4.out SQ.out.d) (slR_below tFinished_law H5.out SQ.out.d) (slR_below tCharge_law H6.out SQ.out.d) HS.out).mono ?_
     rintro e W2 ⟨rfl, c⟩
     replace SQ := zh (SQ.out.below c)
     clear c
     rw [HE.out]
     obtain ⟨b, off, cap', p2, c2, p3, c3, p5, c5, p9, c9, hv, hbl, r0, r1, r2, r3, r4, r5, r6, r7, r8, r9, s2, s3, s5, s9⟩ := act_at H4.out hlt
     simp only [Value.slice.injEq] at hv
     obtain ⟨rfl, _, rfl⟩ := hv
     have HBL := zh hbl
     have E6 := zh r6
     have E8 := zh r8
     clear hbl r0 r1 r2 r3 r4 r5 r6 r7 r8 r9 s2 s3 s5 s9
     have HD : Hid (actOk ss.length (qs.getD k a0D) = decide ((qs.getD k a0D).2.2.2.1 < promN ss.length (qs.getD k a0D).2.2.2.2.2.1)) := zh rfl
     change Hid (limB (qs.getD k a0D).2.2.2.2.2.1 = true) at HCP
     generalize qs.getD k a0D = x at *
     generalize x.2.2.2.1 = ag at *
     generalize x.2.2.2.2.2.1 = cp at *
     go_wp2
     refine wp_region_held_drew (S := (fun w' => w'.heap[w.heap.size]? = some (.cells #[.slice e0 ss.length n0, .int .i64 now, .int .i64 cu, .slice e3 os.length n3, .slice (some ⟨b, off, none⟩) qs.length n4, .slice e5 ds.length n5, .slice e6 ls.length n6, .int .i64 st] 40 (0, 0)) ∧ (w'.cell? ⟨b, off + k * 10 + 6, none⟩ = some (.int .i64 ag) ∧ w'.cell? ⟨b, off + k * 10 + 8, none⟩ = some (.int .i64 cp)))) (by kernel_rfl) ⟨SQ.out.gB 0 rfl, (SQ.out.d.cell (p := ⟨b, off + k * 10 + 6, none⟩) HBL.out).trans E6.out, (SQ.out.d.cell (p := ⟨b, off + k * 10 + 8, none⟩) HBL.out).trans E8.out⟩ (fun hHeld => ?_)
     replace SQ := zh SQ.out.drew
     generalize W2.drew = W3 at *
     refine tR (i := 0) (v := ?_) ?_ ?_; rotate_left
     ·
      intro w hSw; (try dsimp only at hSw); obtain ⟨kb, k6, k8⟩ := hSw; have ld := cell8 kb; clear kb; go_simp; try (with_reducible rfl)
     try simp only [Act.put, lA, lB, lC]
     refine tR (i := 1) (v := ?_) ?_ ?_; rotate_left
     ·
      intro w hSw; (try dsimp only at hSw); obtain ⟨kb, k6, k8⟩ := hSw; have ld := cell8 kb; clear kb; go_simp; try (with_reducible rfl)
     try simp only [Act.put, lA, lB, lC]
     refine tR (i := 2) (v := ?_) ?_ ?_; rotate_left
     ·
      intro w hSw; (try dsimp only at hSw); obtain ⟨kb, k6, k8⟩ := hSw; have ld := cell8 kb; clear kb; go_simp; try (with_reducible rfl)
     try simp only [Act.put, lA, lB, lC]
     refine tR (i := 3) (v := ?_) ?_ ?_; rotate_left
     ·
      intro w hSw; (try dsimp only at hSw); obtain ⟨kb, k6, k8⟩ := hSw; have ld := cell8 kb; clear kb; go_simp; try (with_reducible rfl)
     try simp only [Act.put, lA, lB, lC]
     refine tR (i := 4) (v := ?_) ?_ ?_; rotate_left
     ·
      intro w hSw; (try dsimp only at hSw); obtain ⟨kb, k6, k8⟩ := hSw; have ld := cell8 kb; clear kb; go_simp; try (with_reducible rfl)
     try simp only [Act.put, lA, lB, lC]
     refine tR (i := 5) (v := ?_) ?_ ?_; rotate_left
     ·
      intro w hSw; (try dsimp only at hSw); obtain ⟨kb, k6, k8⟩ := hSw; have ld := cell8 kb; clear kb; go_simp; try (with_reducible rfl)
     try simp only [Act.put, lA, lB, lC]
     refine tR (i := 6) (v := ?_) ?_ ?_; rotate_left
     ·
      intro w hSw; (try dsimp only at hSw); obtain ⟨kb, k6, k8⟩ := hSw; have ld := cell8 kb; clear kb; go_simp; try (with_reducible rfl)
     try simp only [Act.put, lA, lB, lC]
     refine tR (i := 7) (v := ?_) ?_ ?_; rotate_left
     ·
      intro w hSw; (try dsimp only at hSw); obtain ⟨kb, k6, k8⟩ := hSw; have ld := cell8 kb; clear kb; go_simp; try (with_reducible rfl)
     try simp only [Act.put, lA, lB, lC]
     refine tR (i := 8) (v := ?_) ?_ ?_; rotate_left
     ·
      intro w hSw; (try dsimp only at hSw); obtain ⟨kb, k6, k8⟩ := hSw; have ld := cell8 kb; clear kb; go_simp; try (with_reducible rfl)
     try simp only [Act.put, lA, lB, lC]
     refine tR (i := 9) (v := ?_) ?_ ?_; rotate_left
     ·
      intro w hSw; (try dsimp only at hSw); obtain ⟨kb, k6, k8⟩ := hSw; have ld := cell8 kb; clear kb; go_simp; try (with_reducible rfl)
     try simp only [Act.put, lA, lB, lC]
     refine tR (i := 10) (v := ?_) ?_ ?_; rotate_left
     ·
      intro w hSw; (try dsimp only at hSw); obtain ⟨kb, k6, k8⟩ := hSw; have ld := cell8 kb; clear kb; go_simp; try (with_reducible rfl)
     try simp only [Act.put, lA, lB, lC]
     refine tR (i := 11) (v := ?_) ?_ ?_; rotate_left
     ·
      intro w hSw; (try dsimp only at hSw); obtain ⟨kb, k6, k8⟩ := hSw; have ld := cell8 kb; clear kb; go_simp; try (with_reducible rfl)
     try simp only [Act.put, lA, lB, lC]
     refine tR (i := 12) (v := ?_) ?_ ?_; rotate_left
     ·
      intro w hSw; (try dsimp only at hSw); obtain ⟨kb, k6, k8⟩ := hSw; have ld := cell8 kb; clear kb; go_simp; try (with_reducible rfl)
     try simp only [Act.put, lA, lB, lC]
     refine rA 13 (fun K hK => ?_)
     go_simp
     refine (specPromisedSteps now cu st (.slice e0 ss.length n0) (.slice e3 os.length n3) (.slice (some ⟨b, off, none⟩) qs.length n4) (.slice e5 ds.length n5) (.slice e6 ls.length n6) ss os qs ds ls cp W3 (slR_below tVersionS_law H0.out SQ.out.d) (slR_below tInt_law H3.out SQ.out.d) (slR_below tActive_law H4.out SQ.out.d) (slR_below tFinished_law H5.out SQ.out.d) (slR_below tCharge_law H6.out SQ.out.d) HS.out).mono ?_
     rintro e W4 ⟨rfl, c⟩
     replace SQ := zh (SQ.out.below c)
     clear c
     rw [promE_yes HE.out HCP.out]
     dsimp only
     refine hK.out _ _ ⟨SQ.out.gB 0 rfl, (SQ.out.d.cell (p := ⟨b, off + k * 10 + 6, none⟩) HBL.out).trans E6.out, (SQ.out.d.cell (p := ⟨b, off + k * 10 + 8, none⟩) HBL.out).trans E8.out⟩ (fun hHeld => ?_)
     clear hK K
     try simp only [Act.put, lA, lB, lC]
     refine tR (i := 14) (v := ?_) ?_ ?_; rotate_left
     ·
      intro w hSw; (try dsimp only at hSw); obtain ⟨kb, k6, k8⟩ := hSw; have ld := cell8 kb; clear kb; go_simp; try (with_reducible rfl)
     try simp only [Act.put, lA, lB, lC]
     refine wpAnyH_done (by kernel_rfl) ?_ _
     clear hHeld
     generalize promN ss.length cp = pr at *
     by_cases hok : ag < pr
     ·
      have g1 : decide (pr ≤ ag) = false := decide_eq_false (by omega)
      have HT := zh (HST.out (by rw [HD.out]; exact decide_eq_true hok))
      have g2 : ag < pr := hok
      clear HST HNO HD hno
      go_wp2
      go_roundw
      case rel => exact ⟨k + 1, by omega, by go_num, HT, SQ⟩
      case measure => simp [intOf]; omega
     ·
      have g1 : decide (pr ≤ ag) = true := decide_eq_true (by omega)
      have HF := zh (HNO.out (by rw [HD.out]; exact decide_eq_false hok))
      have g2 : pr ≤ ag := by omega
      clear HST HNO HD hno
      go_wp2
      go_ret
      exact ⟨ret_b HF.out.symm, SQ.out.d⟩
    ·
     obtain rfl : k = qs.length := by omega
     have HK := zh (kept_yes (e := ((ss, now), cu, os, qs, ds, ls, st)) HE.out HDN.out (allB_yes (p := actOk ss.length) a0D hno.out))
     clear hno
     have ld := cell8 (SQ.out.gB 0 rfl)
     go_wp2_with fail
     clear ld
     refine (specIsEngine now cu st (.slice e0 ss.length n0) (.slice e3 os.length n3) (.slice e4 qs.length n4) (.slice e5 ds.length n5) (.slice e6 ls.length n6) ss os qs ds ls _ (slR_below tVersionS_law H0.out SQ.out.d) (slR_below tInt_law H3.out SQ.out.d) (slR_below tActive_law H4.out SQ.out.d) (slR_below tFinished_law H5.out SQ.out.d) (slR_below tCharge_law H6.out SQ.out.d) HS.out).mono ?_
     rintro e W9 ⟨rfl, c⟩
     replace SQ := zh (SQ.out.below c)
     clear c
     rw [HE.out]
     go_wp2
     go_ret
     exact ⟨ret_b HK.out.symm, SQ.out.d⟩
end Go.Proofs.YtnepfacnmaoieaaGreatDoor
