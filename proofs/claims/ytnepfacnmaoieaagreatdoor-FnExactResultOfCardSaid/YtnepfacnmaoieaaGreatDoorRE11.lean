/-
 Texts of the proof, merged: EngResS.
-/
import Derived.Test.YtnepfacnmaoieaaGreatDoorRE1
import Derived.Test.YtnepfacnmaoieaaGreatDoorRE2
import Derived.Test.YtnepfacnmaoieaaGreatDoorRE3
import Derived.Test.YtnepfacnmaoieaaGreatDoorRE4
import Derived.Test.YtnepfacnmaoieaaGreatDoorRE6
import Derived.Test.YtnepfacnmaoieaaGreatDoorRE8
import Derived.Test.YtnepfacnmaoieaaGreatDoorRE10
import Derived.BigQuiet
import Derived.Deep.QuietTactic
import Derived.Deep.RegionHeld3
namespace Go.Proofs.YtnepfacnmaoieaaGreatDoor
open Go.RowKit
set_option linter.unusedVariables false
set_option linter.unusedSimpArgs false
theorem resTo_hit {id : Int} {l : List FinD} {k : Nat} (hk : k < l.length) (h : (l.getD k f0D).1.1 = id) : resTo id l (k + 1) = some (l.getD k f0D) := by
 unfold resTo; rw [take_step f0D hk, List.reverse_append, List.reverse_singleton, List.singleton_append, List.find?_cons, decide_eq_true h]
theorem resTo_miss {id : Int} {l : List FinD} {k : Nat} (hk : k < l.length) (h : ¬ (l.getD k f0D).1.1 = id) : resTo id l (k + 1) = resTo id l k := by
 unfold resTo; rw [take_step f0D hk, List.reverse_append, List.reverse_singleton, List.singleton_append, List.find?_cons, decide_eq_false h]
theorem resTo_zero (id : Int) (l : List FinD) : resTo id l 0 = none := rfl
theorem resE_no {e : EngD} {id : Int} (h : engB e = false) : resE e id = (f0D, false) := by unfold resE; rw [h]; rfl
theorem resE_none {e : EngD} {id : Int} (h : engB e = true) (g : resTo id e.2.2.2.2.1 e.2.2.2.2.1.length = none) : resE e id = (f0D, false) := by unfold resE; rw [h, if_pos rfl, g]
theorem resE_none2 {e : EngD} {id : Int} (g : resTo id e.2.2.2.2.1 e.2.2.2.2.1.length = none) : resE e id = (f0D, false) := by
 rcases Bool.eq_false_or_eq_true (engB e) with h | h
 ·
  exact resE_none h g
 ·
  exact resE_no h
theorem resE_hit {e : EngD} {id : Int} {d : FinD} (h : engB e = true) (g : resTo id e.2.2.2.2.1 e.2.2.2.2.1.length = some d) : resE e id = (d, true) := by unfold resE; rw [h, if_pos rfl, g]
theorem setCells7 {w : World} {b : Nat} {t : TypeId} {z0 z1 z2 z3 z4 z5 z6 y0 y1 y2 y3 y4 y5 y6 : Value} (h : w.heap[b]? = some (.cells #[z0, z1, z2, z3, z4, z5, z6] t (0, 0))) : (((((((w.setCell ⟨b, 0, none⟩ y0).setCell ⟨b, 1, none⟩ y1).setCell ⟨b, 2, none⟩ y2).setCell ⟨b, 3, none⟩ y3).setCell ⟨b, 4, none⟩ y4).setCell ⟨b, 5, none⟩ y5).setCell ⟨b, 6, none⟩ y6) = w.setRow b #[y0, y1, y2, y3, y4, y5, y6] := by
 have s0 : w.setCell ⟨b, 0, none⟩ y0 = w.setRow b #[y0, z1, z2, z3, z4, z5, z6] := (setCell_box h 0 y0).trans (by simp)
 have s1 : (w.setRow b #[y0, z1, z2, z3, z4, z5, z6]).setCell ⟨b, 1, none⟩ y1 = w.setRow b #[y0, y1, z2, z3, z4, z5, z6] := (setCell_box (setRow_heap w b _ #[y0, z1, z2, z3, z4, z5, z6] t (0, 0) h) 1 y1).trans (by rw [setRow_setRow]; simp)
 have s2 : (w.setRow b #[y0, y1, z2, z3, z4, z5, z6]).setCell ⟨b, 2, none⟩ y2 = w.setRow b #[y0, y1, y2, z3, z4, z5, z6] := (setCell_box (setRow_heap w b _ #[y0, y1, z2, z3, z4, z5, z6] t (0, 0) h) 2 y2).trans (by rw [setRow_setRow]; simp)
 have s3 : (w.setRow b #[y0, y1, y2, z3, z4, z5, z6]).setCell ⟨b, 3, none⟩ y3 = w.setRow b #[y0, y1, y2, y3, z4, z5, z6] := (setCell_box (setRow_heap w b _ #[y0, y1, y2, z3, z4, z5, z6] t (0, 0) h) 3 y3).trans (by rw [setRow_setRow]; simp)
 have s4 : (w.setRow b #[y0, y1, y2, y3, z4, z5, z6]).setCell ⟨b, 4, none⟩ y4 = w.setRow b #[y0, y1, y2, y3, y4, z5, z6] := (setCell_box (setRow_heap w b _ #[y0, y1, y2, y3, z4, z5, z6] t (0, 0) h) 4 y4).trans (by rw [setRow_setRow]; simp)
 have s5 : (w.setRow b #[y0, y1, y2, y3, y4, z5, z6]).setCell ⟨b, 5, none⟩ y5 = w.setRow b #[y0, y1, y2, y3, y4, y5, z6] := (setCell_box (setRow_heap w b _ #[y0, y1, y2, y3, y4, z5, z6] t (0, 0) h) 5 y5).trans (by rw [setRow_setRow]; simp)
 have s6 : (w.setRow b #[y0, y1, y2, y3, y4, y5, z6]).setCell ⟨b, 6, none⟩ y6 = w.setRow b #[y0, y1, y2, y3, y4, y5, y6] := (setCell_box (setRow_heap w b _ #[y0, y1, y2, y3, y4, y5, z6] t (0, 0) h) 6 y6).trans (by rw [setRow_setRow]; simp)
 rw [s0, s1, s2, s3, s4, s5, s6]
theorem Tryz.field_Done (v0 v1 v2 v3 v4 v5 v6 v7 : Value) (V : World) : (Instr.field 40 (.agg #[v0, v1, v2, v3, v4, v5, v6, v7]) 4).run Tryz.prog V = .ok v5 V := by simp [Instr.field, asAgg, go_sem, Tryz.underlying40]
set_option maxHeartbeats 16000000 in
set_option maxRecDepth 100000 in
theorem specResultOf (now cu st : Int) (sv ov av dv lv : Value) (ss : List (List VerD)) (os : List Int) (qs : List ActD) (ds : List FinD) (ls : List ChargeD) (id : Int) (w : World)
  (h0 : SlR tVersionS w sv ss) (h3 : SlR tInt w ov os) (h4 : SlR tActive w av qs) (h5 : SlR tFinished w dv ds) (h6 : SlR tCharge w lv ls) (hs : zL tVersionS ss + zL tInt os + zL tActive qs + zL tFinished ds + zL tCharge ls ≤ 1048576) :
  Calls Tryz.prog 25 #[.agg #[sv, .int .i64 now, .int .i64 cu, ov, av, dv, lv, .int .i64 st], .int .i64 id] w (fun e w' => ∃ (g0 : List Value) (G0 : Nat → Prop), e = .returned (.tuple #[.agg g0.toArray, .bool (resE ((ss, now), cu, os, qs, ds, ls, st) id).2]) ∧ tFinished.O w' G0 g0 (resE ((ss, now), cu, os, qs, ds, ls, st) id).1 ∧ (∀ b, G0 b → w.heap.size ≤ b) ∧ Below w.heap.size w w') := by
 have S0 : Hid (zL tVersionS ss ≤ 1048576) := zh (by omega)
 have S3 : Hid (zL tInt os ≤ 1048576) := zh (by omega)
 have S4 : Hid (zL tActive qs ≤ 1048576) := zh (by omega)
 have S5 : Hid (zL tFinished ds ≤ 1048576) := zh (by omega)
 have S6 : Hid (zL tCharge ls ≤ 1048576) := zh (by omega)
 have HS := zh hs
 clear hs
 obtain ⟨e0, n0, rfl⟩ := slR_len h0
 have H0 := zh h0
 obtain ⟨e3, n3, rfl⟩ := slR_len h3
 have H3 := zh h3
 obtain ⟨e4, n4, rfl⟩ := slR_len h4
 have H4 := zh h4
 obtain ⟨e5, n5, rfl⟩ := slR_len h5
 have H5 := zh h5
 obtain ⟨e6, n6, rfl⟩ := slR_len h6
 have H6 := zh h6
 clear h0 h3 h4 h5 h6
 have N5 := zL_len S5.out
 have SP : Hid (St w [iB (w.heap.size + 1) [.int .i64 0, .int .i64 0, .slice none 0 0, .slice none 0 0, .int .i64 0, .int .i64 0, .slice none 0 0] 59, iB w.heap.size [.slice e0 ss.length n0, .int .i64 now, .int .i64 cu, .slice e3 os.length n3, .slice e4 qs.length n4, .slice e5 ds.length n5, .slice e6 ls.length n6, .int .i64 st] 40] ((w.alloc (.cells #[.slice e0 ss.length n0, .int .i64 now, .int .i64 cu, .slice e3 os.length n3, .slice e4 qs.length n4, .slice e5 ds.length n5, .slice e6 ls.length n6, .int .i64 st] 40)).alloc (.cells #[.int .i64 0, .int .i64 0, .slice none 0 0, .slice none 0 0, .int .i64 0, .int .i64 0, .slice none 0 0] 59))) := zh (by have := ((St.init w).box [.slice e0 ss.length n0, .int .i64 now, .int .i64 cu, .slice e3 os.length n3, .slice e4 qs.length n4, .slice e5 ds.length n5, .slice e6 ls.length n6, .int .i64 st] 40).box [.int .i64 0, .int .i64 0, .slice none 0 0, .slice none 0 0, .int .i64 0, .int .i64 0, .slice none 0 0] 59; simpa only [World.size_alloc] using this)
 go_enter Tryz.func25, Tryz.ntmps25
 have ld := cell8 (SP.out.gB 1 rfl)
 go_wp2
 clear ld
 generalize ((w.alloc (.cells #[.slice e0 ss.length n0, .int .i64 now, .int .i64 cu, .slice e3 os.length n3, .slice e4 qs.length n4, .slice e5 ds.length n5, .slice e6 ls.length n6, .int .i64 st] 40)).alloc (.cells #[.int .i64 0, .int .i64 0, .slice none 0 0, .slice none 0 0, .int .i64 0, .int .i64 0, .slice none 0 0] 59)) = W0 at *
 go_loopw [6] (fun i wr => ∃ (k : Nat) (j : Int), k ≤ ds.length ∧ j = (k : Int) - 1 ∧ i = .int .i64 j ∧ Hid (resTo id ds ds.length = resTo id ds k) ∧ Hid (St w [iB (w.heap.size + 1) [.int .i64 0, .int .i64 0, .slice none 0 0, .slice none 0 0, .int .i64 0, .int .i64 0, .slice none 0 0] 59, iB w.heap.size [.slice e0 ss.length n0, .int .i64 now, .int .i64 cu, .slice e3 os.length n3, .slice e4 qs.length n4, .slice e5 ds.length n5, .slice e6 ls.length n6, .int .i64 st] 40] wr)) (fun i _ => (intOf i + 1).toNat)
 case atStart => exact ⟨ds.length, _, Nat.le_refl _, rfl, by go_num, zh rfl, SP⟩
 case round =>
  obtain ⟨k, j, hk, hj, rfl, HT, SQ⟩ := hrel
  clear SP
  by_cases hlt : 0 < k
  rotate_left
  ·
   obtain rfl : k = 0 := by omega
   have i1 : ¬ (0 : Int) ≤ j := by omega
   have i2 : j < 0 := by omega
   have HR : Hid (resE ((ss, now), cu, os, qs, ds, ls, st) id = (f0D, false)) := zh (resE_none2 (by rw [show resTo id ds ds.length = _ from HT.out]; exact resTo_zero _ _))
   have lf_ := cell7 (SQ.out.gB 0 rfl)
   have fz_ := froz7 (SQ.out.gB 0 rfl)
   go_wp2
   clear lf_ fz_
   rw [setCells7 (SQ.out.gB 0 rfl)]
   replace SQ := zh (SQ.out.store 0 rfl [.int .i64 0, .int .i64 0, .slice none 0 0, .slice none 0 0, .int .i64 0, .int .i64 0, .slice none 0 0])
   generalize wr.setRow (w.heap.size + 1) #[.int .i64 0, .int .i64 0, .slice none 0 0, .slice none 0 0, .int .i64 0, .int .i64 0, .slice none 0 0] = YY at *
   have ld := cell7 (SQ.out.gB 0 rfl)
   try simp only [Exit.inBlock, Exit.then]
   refine bodyPost_ret (v := .tuple #[.agg #[.int .i64 0, .int .i64 0, .slice none 0 0, .slice none 0 0, .int .i64 0, .int .i64 0, .slice none 0 0], .bool false]) ?_ rfl ?_
   ·
    simp [results, Tryz.f25, go_sem, ld]
   rw [HR.out]
   first | exact ⟨[.int .i64 0, .int .i64 0, .slice none 0 0, .slice none 0 0, .int .i64 0, .int .i64 0, .slice none 0 0], fun _ => False, rfl, tFinished_zero YY, fun _ h => h.elim, SQ.out.d⟩ | exact ⟨[.int .i64 0, .int .i64 0, .slice none 0 0, .slice none 0 0, .int .i64 0, .int .i64 0, .slice none 0 0], rfl, fun _ => False, tFinished_zero YY, fun _ h => h.elim, SQ.out.d⟩
  obtain ⟨m, rfl⟩ : ∃ m, k = m + 1 := ⟨k - 1, by omega⟩
  obtain rfl : j = (m : Int) := by omega
  have hm : m < ds.length := by omega
  have i1 : (0 : Int) ≤ (m : Int) := by omega
  have i2 : (m : Int) < (ds.length : Int) := by omega
  clear hlt hj
  have ld := cell8 (SQ.out.gB 1 rfl)
  go_wp2_with fail
  clear ld
  refine (specIsEngine now cu st (.slice e0 ss.length n0) (.slice e3 os.length n3) (.slice e4 qs.length n4) (.slice e5 ds.length n5) (.slice e6 ls.length n6) ss os qs ds ls wr (slR_below tVersionS_law H0.out SQ.out.d) (slR_below tInt_law H3.out SQ.out.d) (slR_below tActive_law H4.out SQ.out.d) (slR_below tFinished_law H5.out SQ.out.d) (slR_below tCharge_law H6.out SQ.out.d) HS.out).mono ?_
  rintro e W2 ⟨rfl, c⟩
  replace SQ := zh (SQ.out.below c)
  clear c
  rcases Bool.eq_false_or_eq_true (engB ((ss, now), cu, os, qs, ds, ls, st)) with he | he
  rotate_left
  ·
   rw [he]
   have HR : Hid (resE ((ss, now), cu, os, qs, ds, ls, st) id = (f0D, false)) := zh (resE_no he)
   clear he
   have lf_ := cell7 (SQ.out.gB 0 rfl)
   have fz_ := froz7 (SQ.out.gB 0 rfl)
   go_wp2
   clear lf_ fz_
   rw [setCells7 (SQ.out.gB 0 rfl)]
   replace SQ := zh (SQ.out.store 0 rfl [.int .i64 0, .int .i64 0, .slice none 0 0, .slice none 0 0, .int .i64 0, .int .i64 0, .slice none 0 0])
   generalize W2.setRow (w.heap.size + 1) #[.int .i64 0, .int .i64 0, .slice none 0 0, .slice none 0 0, .int .i64 0, .int .i64 0, .slice none 0 0] = YY at *
   have ld := cell7 (SQ.out.gB 0 rfl)
   try simp only [Exit.inBlock, Exit.then]
   refine bodyPost_ret (v := .tuple #[.agg #[.int .i64 0, .int .i64 0, .slice none 0 0, .slice none 0 0, .int .i64 0, .int .i64 0, .slice none 0 0], .bool false]) ?_ rfl ?_
   ·
    simp [results, Tryz.f25, go_sem, ld]
   rw [HR.out]
   first | exact ⟨[.int .i64 0, .int .i64 0, .slice none 0 0, .slice none 0 0, .int .i64 0, .int .i64 0, .slice none 0 0], fun _ => False, rfl, tFinished_zero YY, fun _ h => h.elim, SQ.out.d⟩ | exact ⟨[.int .i64 0, .int .i64 0, .slice none 0 0, .slice none 0 0, .int .i64 0, .int .i64 0, .slice none 0 0], rfl, fun _ => False, tFinished_zero YY, fun _ h => h.elim, SQ.out.d⟩
  rw [he]
  have HE := zh he
  clear he
  have HH := zh (fun h => resTo_hit (id := id) (l := ds) hm h)
  have HM := zh (fun h => resTo_miss (id := id) (l := ds) hm h)
  obtain ⟨b, off, cap', p2, c2, p3, c3, p6, c6, hv, hbl, r0, rr⟩ := fin_at H5.out hm
  clear rr
  simp only [Value.slice.injEq] at hv
  obtain ⟨rfl, _, rfl⟩ := hv
  have q0 := (SQ.out.d.cell (p := ⟨b, off + m * 7, none⟩) hbl).trans r0
  clear r0 hbl
  have HD := zh (rfl : ds.getD m f0D = ds.getD m f0D)
  by_cases hid : (ds.getD m f0D).1.1 = id
  ·
   rw [hid] at q0
   have HR : Hid (resE ((ss, now), cu, os, qs, ds, ls, st) id = (ds.getD m f0D, true)) := zh (resE_hit HE.out (by rw [show resTo id ds ds.length = _ from HT.out]; exact HH.out hid))
   clear HH HM hid HT
   have ld := cell8 (SQ.out.gB 1 rfl)
   go_wp2_with fail
   clear ld q0
   refine (copy_l9Copy now cu st (.slice e0 ss.length n0) (.slice e3 os.length n3) (.slice e4 qs.length n4) (.slice (some ⟨b, off, none⟩) ds.length n5) (.slice e6 ls.length n6) ss os qs ds ls W2 (slR_below tVersionS_law H0.out SQ.out.d) (slR_below tInt_law H3.out SQ.out.d) (slR_below tActive_law H4.out SQ.out.d) (slR_below tFinished_law H5.out SQ.out.d) (slR_below tCharge_law H6.out SQ.out.d) S0.out S3.out S4.out S5.out S6.out).mono ?_
   rintro e V ⟨gs, rfl, o, c⟩
   obtain ⟨v0, v3, v4, v5, v6, e3, F0, F3, F4, F5, F6, rfl, o0, o3, o4, o5, o6, s0, s3, s4, s5, rest⟩ := tEngine_O o
   clear o o0 o3 o4 o6 s0 s3 s4 rest
   obtain ⟨g, cp, rfl⟩ : ∃ g cp, v5 = .slice (some ⟨g, 0, none⟩) ds.length cp := by
    rcases slO_form o5 with ⟨_, h⟩ | ⟨g, cp, h, _⟩
    ·
     rw [h] at hm; simp at hm
    ·
     exact ⟨g, cp, h⟩
   obtain ⟨us, Fs, hx, _⟩ := slO_each tFinished_law o5
   obtain ⟨ox, sx, cx⟩ := hx m hm
   have p := cx g _ cp rfl
   change tFinished.O V (Fs m) (us m) (ds.getD m f0D) at ox
   obtain ⟨FX, sp⟩ := SQ.out.pushE tFinished_law c ox (fun b h => s5 b (sx b h).1)
   replace SQ := zh sp
   have ol := tFinished_law.len (tFinished_law.reads ox)
   clear sp c o5 s5 hx cx sx ox
   generalize us m = gl at *
   obtain ⟨g0, g1, g2, g3, g4, g5, g6, rfl⟩ := len7 ol
   have q := row7 (o := m * 7) p
   clear p ol
   have st_ := rst7 (P := Tryz.prog) (SQ.out.gB 1 rfl) (tFinished_one (SQ.out.rT 0 rfl))
   have hf := Tryz.field_Done v0 (.int .i64 now) (.int .i64 cu) v3 v4 (.slice (some ⟨g, 0, none⟩) ds.length cp) v6 (.int .i64 st) V
   go_wp2
   clear st_ q hf
   replace SQ := zh (SQ.out.store 1 rfl [g0, g1, g2, g3, g4, g5, g6])
   generalize V.setRow (w.heap.size + 1) #[g0, g1, g2, g3, g4, g5, g6] = YY at *
   have ld := cell7 (SQ.out.gB 1 rfl)
   try simp only [Exit.inBlock, Exit.then]
   refine bodyPost_ret (v := .tuple #[.agg #[g0, g1, g2, g3, g4, g5, g6], .bool true]) ?_ rfl ?_
   ·
    simp [results, Tryz.f25, go_sem, ld]
   rw [HR.out]
   first | exact ⟨[g0, g1, g2, g3, g4, g5, g6], _, rfl, SQ.out.outT 0 rfl, fun b h => h, SQ.out.d⟩ | exact ⟨[g0, g1, g2, g3, g4, g5, g6], rfl, _, SQ.out.outT 0 rfl, fun b h => h, SQ.out.d⟩
  ·
   have HX : Hid (resTo id ds ds.length = resTo id ds m) := zh (HT.out.trans (HM.out hid))
   have hne : ((ds.getD m f0D).1.1 == id) = false := beq_eq_false_iff_ne.2 hid
   clear HH HM hid HT HD
   generalize (ds.getD m f0D).1.1 = u at *
   have ld := cell8 (SQ.out.gB 1 rfl)
   go_wp2
   clear ld
   go_roundw
   case rel => exact ⟨m, _, by omega, rfl, by first | rfl | go_num, HX, SQ⟩
   case measure => (simp [intOf]; try omega)
end Go.Proofs.YtnepfacnmaoieaaGreatDoor
