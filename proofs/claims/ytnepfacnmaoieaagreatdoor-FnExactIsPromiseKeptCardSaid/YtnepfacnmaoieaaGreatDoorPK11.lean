/-
 Texts of the proof, merged: EngP3, VerP3, VerP4, VerP5, VerP6, SpansMath, MatchSpec, IdxMath2, ProbeMath.
-/
import Derived.Test.YtnepfacnmaoieaaGreatDoorPK2
import Derived.Test.YtnepfacnmaoieaaGreatDoorPK3
import Derived.Test.YtnepfacnmaoieaaGreatDoorPK5
import Derived.Test.YtnepfacnmaoieaaGreatDoorPK9
import Derived.Test.YtnepfacnmaoieaaGreatDoorPK10
namespace Go.Proofs.YtnepfacnmaoieaaGreatDoor
open Go.RowKit
set_option maxRecDepth 100000
set_option linter.unusedVariables false
set_option linter.unusedSimpArgs false
theorem ans_iff {q : QD} {t now : Int} {rs : List RowD} (h : ansB q t rs now = true) : qdB q = true ∧ (0 ≤ t ∧ t ≤ now) ∧ listB rs = true := by
 unfold ansB at h
 simp only [Bool.and_eq_true, decide_eq_true_eq] at h
 exact ⟨h.1.1, h.1.2, h.2⟩
theorem act_ans {s : StoreD} {a : ActD} (h : ansB a.1 a.2.1 a.2.2.2.2.2.2 s.2 = false) : actB s a = false := by
 rcases Bool.eq_false_or_eq_true (actB s a) with g | g
 ·
  unfold actB at g
  simp only [Bool.and_eq_true] at g
  rw [ans_yes g.1.1 (of_decide_eq_true g.1.2).1 g.2.2] at h
  cases h
 ·
  exact g
theorem fin_ans {now : Int} {d : FinD} (h : ansB d.1 d.2.1 d.2.2.2 now = false) : finB now d = false := by
 rcases Bool.eq_false_or_eq_true (finB now d) with g | g
 ·
  unfold finB at g
  simp only [Bool.and_eq_true] at g
  rw [ans_yes g.1.1 (of_decide_eq_true g.1.2).1 g.2] at h
  cases h
 ·
  exact g
theorem todo_one {l : List Int} {n : Nat} (h : ¬ 1 ≤ l.length) : todoB l n = false := decide_eq_false (fun g => h g.1)
theorem todo_two {l : List Int} {n : Nat} (h : decide (TodoTo l n l.length) = false) : todoB l n = false := decide_eq_false (fun g => of_decide_eq_false h g.2)
set_option maxHeartbeats 8000000 in
theorem isActive_any (now a0 a1 a4 a6 a7 a8 : Int) (sa : Option Addr) (sc : Nat) (v2 v3 v5 v9 : Value) (ss : List (List VerD)) (x2 : List CondD) (x3 x5 : List Int) (x9 : List RowD) (w : World)
  (h2 : SlR tCond w v2 x2) (h3 : SlR tInt w v3 x3) (h5 : SlR tInt w v5 x5) (h9 : SlR tRow w v9 x9) (n0 : ss.length ≤ 1048576) (s2 : zL tCond x2 ≤ 1048576) (s3 : zL tInt x3 ≤ 1048576) (s5 : zL tInt x5 ≤ 1048576) (s9 : zL tRow x9 ≤ 1048576) :
  Calls Tryz.prog 197 #[.agg #[.int .i64 a0, .int .i64 a1, v2, v3, .int .i64 a4, v5, .int .i64 a6, .int .i64 a7, .int .i64 a8, v9], .agg #[.slice sa ss.length sc, .int .i64 now]] w (fun e w' => e = .returned (.bool (actB (ss, now) ((a0, a1, x2, x3), a4, x5, a6, a7, a8, x9))) ∧ Below w.heap.size w w') := by
 obtain ⟨p2, c2, rfl⟩ := slR_len h2
 have H2 := zh h2; have N2 := zL_len s2; have S2 := zh s2
 obtain ⟨p3, c3, rfl⟩ := slR_len h3
 have H3 := zh h3; have N3 := zL_len s3; have S3 := zh s3
 obtain ⟨p5, c5, rfl⟩ := slR_len h5
 have H5 := zh h5; have N5 := zL_len s5; have S5 := zh s5
 obtain ⟨p9, c9, rfl⟩ := slR_len h9
 have H9 := zh h9; have N9 := zL_len s9; have S9 := zh s9
 clear h2 h3 h5 h9 s2 s3 s5 s9
 have d := zh (show Below w.heap.size w ((w.alloc (.cells #[.int .i64 a0, .int .i64 a1, .slice p2 x2.length c2, .slice p3 x3.length c3, .int .i64 a4, .slice p5 x5.length c5, .int .i64 a6, .int .i64 a7, .int .i64 a8, .slice p9 x9.length c9] 104)).alloc (.cells #[.slice sa ss.length sc, .int .i64 now] 35)) from (((Below.refl _ w).alloc (Nat.le_refl _) _).alloc (by simp) _))
 have B0 : Hid (((w.alloc (.cells #[.int .i64 a0, .int .i64 a1, .slice p2 x2.length c2, .slice p3 x3.length c3, .int .i64 a4, .slice p5 x5.length c5, .int .i64 a6, .int .i64 a7, .int .i64 a8, .slice p9 x9.length c9] 104)).alloc (.cells #[.slice sa ss.length sc, .int .i64 now] 35)).heap[w.heap.size]? = some (.cells #[.int .i64 a0, .int .i64 a1, .slice p2 x2.length c2, .slice p3 x3.length c3, .int .i64 a4, .slice p5 x5.length c5, .int .i64 a6, .int .i64 a7, .int .i64 a8, .slice p9 x9.length c9] 104 (0, 0))) := zh (by
  rw [Below.heap_alloc _ _ _ (by simp)]
  exact heap_alloc_new w _)
 have B1 : Hid (((w.alloc (.cells #[.int .i64 a0, .int .i64 a1, .slice p2 x2.length c2, .slice p3 x3.length c3, .int .i64 a4, .slice p5 x5.length c5, .int .i64 a6, .int .i64 a7, .int .i64 a8, .slice p9 x9.length c9] 104)).alloc (.cells #[.slice sa ss.length sc, .int .i64 now] 35)).heap[(w.heap.size + 1)]? = some (.cells #[.slice sa ss.length sc, .int .i64 now] 35 (0, 0))) := zh (by
  have := heap_alloc_new (w.alloc (.cells #[.int .i64 a0, .int .i64 a1, .slice p2 x2.length c2, .slice p3 x3.length c3, .int .i64 a4, .slice p5 x5.length c5, .int .i64 a6, .int .i64 a7, .int .i64 a8, .slice p9 x9.length c9] 104)) (.cells #[.slice sa ss.length sc, .int .i64 now] 35)
  simpa only [World.size_alloc] using this)
 have YW : Hid (w.heap.size + 2 ≤ ((w.alloc (.cells #[.int .i64 a0, .int .i64 a1, .slice p2 x2.length c2, .slice p3 x3.length c3, .int .i64 a4, .slice p5 x5.length c5, .int .i64 a6, .int .i64 a7, .int .i64 a8, .slice p9 x9.length c9] 104)).alloc (.cells #[.slice sa ss.length sc, .int .i64 now] 35)).heap.size) := zh (by simp [World.size_alloc])
 go_enter Tryz.func197, Tryz.ntmps197
 go_wp2_with fail
 generalize ((w.alloc (.cells #[.int .i64 a0, .int .i64 a1, .slice p2 x2.length c2, .slice p3 x3.length c3, .int .i64 a4, .slice p5 x5.length c5, .int .i64 a6, .int .i64 a7, .int .i64 a8, .slice p9 x9.length c9] 104)).alloc (.cells #[.slice sa ss.length sc, .int .i64 now] 35)) = W at *
 refine (isAnswer_any a0 a1 a4 now (.slice p2 x2.length c2) (.slice p3 x3.length c3) (.slice p9 x9.length c9) x2 x3 x9 W (slR_below tCond_law H2.out d.out) (slR_below tInt_law H3.out d.out) (slR_below tRow_law H9.out d.out) S2.out S3.out S9.out).mono ?_
 rintro e W1 ⟨rfl, c⟩
 replace B0 := zb c B0
 replace B1 := zb c B1
 replace d := zD d c
 have Z_W1 := zh (show W.heap.size ≤ W1.heap.size from c.size)
 clear c
 rcases Bool.eq_false_or_eq_true (ansB (a0, a1, x2, x3) a4 x9 now) with han | han
 rotate_left
 ·
  rw [han]
  have HF := zh (act_ans (s := (ss, now)) (a := ((a0, a1, x2, x3), a4, x5, a6, a7, a8, x9)) han)
  clear han
  have cp_B0_0 := cls10 B0.out
  have cp_B1_0 := cls2 B1.out
  go_wp2
  clear cp_B0_0 cp_B1_0
  go_ret
  exact ⟨ret_b HF.out.symm, d.out⟩
 rw [han]
 have HAN := zh han
 clear han
 by_cases hp1 : 1 ≤ x5.length
 rotate_left
 ·
  have HF := zh (act_no3 (s := (ss, now)) (a := ((a0, a1, x2, x3), a4, x5, a6, a7, a8, x9)) (todo_one hp1))
  have f1 : decide (1 ≤ (x5.length : Int)) = false := decide_eq_false (by omega)
  clear hp1
  have cp_B0_0 := cls10 B0.out
  have cp_B1_0 := cls2 B1.out
  go_wp2
  clear cp_B0_0 cp_B1_0
  go_ret
  exact ⟨ret_b HF.out.symm, d.out⟩
 have f1 : decide (1 ≤ (x5.length : Int)) = true := decide_eq_true (by omega)
 have HP1 := zh hp1
 clear hp1
 have cp_B0_0 := cls10 B0.out
 have cp_B1_0 := cls2 B1.out
 go_wp2_with fail
 clear cp_B0_0 cp_B1_0 f1
 refine (areSegments_any (.slice p5 x5.length c5) x5 sa ss.length sc now W1 (slR_below tInt_law H5.out d.out) N5 n0).mono ?_
 rintro e W8 ⟨rfl, c⟩
 replace B0 := zb c B0
 replace B1 := zb c B1
 replace d := zD d c
 have Z_W8 := zh (show W1.heap.size ≤ W8.heap.size from c.size)
 clear c
 rcases Bool.eq_false_or_eq_true (decide (TodoTo x5 ss.length x5.length)) with hsg | hsg
 rotate_left
 ·
  rw [hsg]
  have HF := zh (act_no3 (s := (ss, now)) (a := ((a0, a1, x2, x3), a4, x5, a6, a7, a8, x9)) (todo_two hsg))
  clear hsg
  have cp_B0_0 := cls10 B0.out
  have cp_B1_0 := cls2 B1.out
  go_wp2
  clear cp_B0_0 cp_B1_0
  go_ret
  exact ⟨ret_b HF.out.symm, d.out⟩
 rw [hsg]
 have HSG := zh hsg
 clear hsg
 have cp_B0_0 := cls10 B0.out
 have cp_B1_0 := cls2 B1.out
 go_wp2_with fail
 clear cp_B0_0 cp_B1_0
 refine (isTime_any a6 _).mono ?_
 rintro e wx ⟨rfl, hwx⟩
 obtain rfl := hwx.symm
 rcases Bool.eq_false_or_eq_true (decide (0 ≤ a6 ∧ a6 ≤ 100000)) with hti | hti
 rotate_left
 ·
  rw [hti]
  have HF := zh (act_no2 (s := (ss, now)) (a := ((a0, a1, x2, x3), a4, x5, a6, a7, a8, x9)) (fun g => of_decide_eq_false hti g.2.1))
  clear hti
  have cp_B0_0 := cls10 B0.out
  have cp_B1_0 := cls2 B1.out
  go_wp2
  clear cp_B0_0 cp_B1_0
  go_ret
  exact ⟨ret_b HF.out.symm, d.out⟩
 rw [hti]
 have HTI := zh hti
 clear hti
 by_cases hp2 : 0 ≤ a7
 rotate_left
 ·
  have HF := zh (act_no2 (s := (ss, now)) (a := ((a0, a1, x2, x3), a4, x5, a6, a7, a8, x9)) (fun g => hp2 g.2.2.1.1))
  have f2 : decide (0 ≤ a7) = false := decide_eq_false hp2
  clear hp2
  have cp_B0_0 := cls10 B0.out
  have cp_B1_0 := cls2 B1.out
  go_wp2
  clear cp_B0_0 cp_B1_0
  go_ret
  exact ⟨ret_b HF.out.symm, d.out⟩
 have f2 : decide (0 ≤ a7) = true := decide_eq_true hp2
 have HP2 := zh hp2
 clear hp2
 by_cases hp3 : a7 ≤ 1000
 rotate_left
 ·
  have HF := zh (act_no2 (s := (ss, now)) (a := ((a0, a1, x2, x3), a4, x5, a6, a7, a8, x9)) (fun g => hp3 g.2.2.1.2))
  have f3 : decide (a7 ≤ 1000) = false := decide_eq_false hp3
  clear hp3
  have cp_B0_0 := cls10 B0.out
  have cp_B1_0 := cls2 B1.out
  go_wp2
  clear cp_B0_0 cp_B1_0
  go_ret
  exact ⟨ret_b HF.out.symm, d.out⟩
 have f3 : decide (a7 ≤ 1000) = true := decide_eq_true hp3
 have HP3 := zh hp3
 clear hp3
 have cp_B0_0 := cls10 B0.out
 have cp_B1_0 := cls2 B1.out
 go_wp2_with fail
 clear cp_B0_0 cp_B1_0 f2 f3
 refine (isLimit_any a8 W8).mono ?_
 rintro e W9 ⟨rfl, c⟩
 replace B0 := zb c B0
 replace B1 := zb c B1
 replace d := zD d c
 have Z_W9 := zh (show W8.heap.size ≤ W9.heap.size from c.size)
 clear c
 have HT : Hid (decide (0 ≤ a8 ∧ a8 ≤ 32) = actB (ss, now) ((a0, a1, x2, x3), a4, x5, a6, a7, a8, x9)) := zh (by
  obtain ⟨q1, q2, q3⟩ := ans_iff HAN.out
  by_cases g : 0 ≤ a8 ∧ a8 ≤ 32
  ·
   rw [decide_eq_true g]; exact (act_yes (s := (ss, now)) (a := ((a0, a1, x2, x3), a4, x5, a6, a7, a8, x9)) q1 ⟨q2, of_decide_eq_true HTI.out, ⟨HP2.out, HP3.out⟩, g⟩ (decide_eq_true ⟨HP1.out, of_decide_eq_true HSG.out⟩) q3).symm
  ·
   rw [decide_eq_false g]; exact (act_no2 (s := (ss, now)) (a := ((a0, a1, x2, x3), a4, x5, a6, a7, a8, x9)) (fun q => g q.2.2.2)).symm)
 rw [HT.out]
 have cp_B0_0 := cls10 B0.out
 have cp_B1_0 := cls2 B1.out
 go_wp2
 clear cp_B0_0 cp_B1_0
 go_ret
 exact ⟨rfl, d.out⟩
set_option maxHeartbeats 16000000 in
theorem areValid_act (v : Value) (l : List ActD) (sa : Option Addr) (sc : Nat) (ss : List (List VerD)) (now : Int) (w : World) (h : SlR tActive w v l) (hs : zL tActive l ≤ 1048576) (n0 : ss.length ≤ 1048576) :
  Calls Tryz.prog 134 #[v, .agg #[.slice sa ss.length sc, .int .i64 now]] w (fun e w' => e = .returned (.bool (decide (l.length ≤ 8) && actsB (ss, now) l)) ∧ Below w.heap.size w w') := by
 obtain ⟨a, cap, rfl⟩ := slR_len h
 have H := zh h
 have HS := zh hs
 have hn := zL_len hs
 clear h hs
 have d := zh (show Below w.heap.size w (w.alloc (.cells #[.slice sa ss.length sc, .int .i64 now] 35)) from ((Below.refl _ w).alloc (Nat.le_refl _) _))
 have B0 : Hid ((w.alloc (.cells #[.slice sa ss.length sc, .int .i64 now] 35)).heap[w.heap.size]? = some (.cells #[.slice sa ss.length sc, .int .i64 now] 35 (0, 0))) := zh (by
  exact heap_alloc_new w _)
 have YW : Hid (w.heap.size + 1 ≤ (w.alloc (.cells #[.slice sa ss.length sc, .int .i64 now] 35)).heap.size) := zh (by simp [World.size_alloc])
 by_cases h8 : l.length ≤ 8
 rotate_left
 ·
  have HF : Hid ((decide (l.length ≤ 8) && actsB (ss, now) l) = false) := zh (by rw [decide_eq_false h8]; rfl)
  have f1 : decide ((8 : Int) < (l.length : Int)) = true := decide_eq_true (by omega)
  clear h8
  go_enter Tryz.func134, Tryz.ntmps134
  go_wp2
  go_ret
  exact ⟨ret_b HF.out.symm, d.out⟩
 have HE : Hid ((decide (l.length ≤ 8) && actsB (ss, now) l) = actsB (ss, now) l) := zh (by rw [decide_eq_true h8]; rfl)
 rw [HE.out]
 have f1 : decide ((8 : Int) < (l.length : Int)) = false := decide_eq_false (by omega)
 clear h8 HE
 go_enter Tryz.func134, Tryz.ntmps134
 go_wp2
 generalize (w.alloc (.cells #[.slice sa ss.length sc, .int .i64 now] 35)) = W at *
 clear f1
 go_loopw [12] (fun i wr => ∃ k : Nat, k ≤ l.length ∧ i = .int .i64 k ∧ Hid (ActsTo (ss, now) l k) ∧ Below W.heap.size W wr) (fun i _ => l.length - (intOf i).toNat)
 case atStart => exact ⟨0, Nat.zero_le _, rfl, zh (actsTo_zero _ _), Below.refl _ _⟩
 case round =>
  obtain ⟨k, hk, rfl, hno, c⟩ := hrel
  have cw := zh c
  replace B0 := zb c B0
  replace d := zD d c
  clear c
  by_cases hlt : k < l.length
  ·
   have i1 : (0 : Int) ≤ (k : Int) := by omega
   have i2 : (k : Int) < (l.length : Int) := by omega
   have hz := zL_at HS.out hlt
   obtain ⟨b, off, cap', p2, c2, p3, c3, p5, c5, p9, c9, hv, hbl, e0, e1, e2, e3, e4, e5, e6, e7, e8, e9, s2, s3, s5, s9⟩ := act_at H.out hlt
   simp only [Value.slice.injEq] at hv
   obtain ⟨rfl, _, rfl⟩ := hv
   change tActive.sz (l.getD k a0D) ≤ 1048576 at hz
   have HNO : Hid (actB (ss, now) (l.getD k a0D) = false → actsB (ss, now) l = false) := zh (fun g => acts_no hlt (Or.inl g))
   have HNL : Hid (0 < k → ¬ (l.getD (k - 1) a0D).1.1 < (l.getD k a0D).1.1 → actsB (ss, now) l = false) := zh (fun g1 g2 => acts_no hlt (Or.inr ⟨g1, g2⟩))
   have HST : Hid (actB (ss, now) (l.getD k a0D) = true → (0 < k → (l.getD (k - 1) a0D).1.1 < (l.getD k a0D).1.1) → ActsTo (ss, now) l (k + 1)) := zh (fun g1 g2 => actsTo_step hno.out g1 g2)
   have HBL := zh hbl
   clear hno hbl
   obtain ⟨x, hx⟩ : ∃ x, x = l.getD k a0D := ⟨_, rfl⟩
   rw [← hx] at hz HNO HNL HST e0 e1 e2 e3 e4 e5 e6 e7 e8 e9 s2 s3 s5 s9
   clear hx
   obtain ⟨⟨a0, a1, x2, x3⟩, a4, x5, a6, a7, a8, x9⟩ := x
   rw [tActive_sz] at hz
   dsimp only at *
   have HC := zh (fun W g2 g3 g5 g9 => isActive_any now a0 a1 a4 a6 a7 a8 sa sc (.slice p2 x2.length c2) (.slice p3 x3.length c3) (.slice p5 x5.length c5) (.slice p9 x9.length c9) ss x2 x3 x5 x9 W g2 g3 g5 g9 n0 (by omega) (by omega) (by omega) (by omega))
   have T2 := zh s2; have T3 := zh s3; have T5 := zh s5; have T9 := zh s9
   clear s2 s3 s5 s9 hz
   replace e0 := (d.out.cell (p := ⟨b, off + k * 10, none⟩) HBL.out).trans e0
   replace e1 := (d.out.cell (p := ⟨b, off + k * 10 + 1, none⟩) HBL.out).trans e1
   replace e2 := (d.out.cell (p := ⟨b, off + k * 10 + 2, none⟩) HBL.out).trans e2
   replace e3 := (d.out.cell (p := ⟨b, off + k * 10 + 3, none⟩) HBL.out).trans e3
   replace e4 := (d.out.cell (p := ⟨b, off + k * 10 + 4, none⟩) HBL.out).trans e4
   replace e5 := (d.out.cell (p := ⟨b, off + k * 10 + 5, none⟩) HBL.out).trans e5
   replace e6 := (d.out.cell (p := ⟨b, off + k * 10 + 6, none⟩) HBL.out).trans e6
   replace e7 := (d.out.cell (p := ⟨b, off + k * 10 + 7, none⟩) HBL.out).trans e7
   replace e8 := (d.out.cell (p := ⟨b, off + k * 10 + 8, none⟩) HBL.out).trans e8
   replace e9 := (d.out.cell (p := ⟨b, off + k * 10 + 9, none⟩) HBL.out).trans e9
   have cal : Below wr.heap.size wr (wr.alloc (.cells #[.int .i64 a0, .int .i64 a1, .slice p2 x2.length c2, .slice p3 x3.length c3, .int .i64 a4, .slice p5 x5.length c5, .int .i64 a6, .int .i64 a7, .int .i64 a8, .slice p9 x9.length c9] 104)) := (Below.refl _ _).alloc (Nat.le_refl _) _
   have B1 : Hid ((wr.alloc (.cells #[.int .i64 a0, .int .i64 a1, .slice p2 x2.length c2, .slice p3 x3.length c3, .int .i64 a4, .slice p5 x5.length c5, .int .i64 a6, .int .i64 a7, .int .i64 a8, .slice p9 x9.length c9] 104)).heap[wr.heap.size]? = some (.cells #[.int .i64 a0, .int .i64 a1, .slice p2 x2.length c2, .slice p3 x3.length c3, .int .i64 a4, .slice p5 x5.length c5, .int .i64 a6, .int .i64 a7, .int .i64 a8, .slice p9 x9.length c9] 104 (0, 0))) := zh (heap_alloc_new wr _)
   go_wp2
   clear e0 e1 e2 e3 e4 e5 e6 e7 e8 e9
   generalize hWq : (wr.alloc (.cells #[.int .i64 a0, .int .i64 a1, .slice p2 x2.length c2, .slice p3 x3.length c3, .int .i64 a4, .slice p5 x5.length c5, .int .i64 a6, .int .i64 a7, .int .i64 a8, .slice p9 x9.length c9] 104)) = Wq at *
   clear hWq
   have dq := zh cal
   have YQ := zh (Array.getElem?_eq_some_iff.1 B1.out).1
   replace B0 := zb cal B0
   replace d := zD d cal
   clear cal
   cases hab : actB (ss, now) ((a0, a1, x2, x3), a4, x5, a6, a7, a8, x9) with
   | false =>
    have HF := zh (HNO.out hab)
    have HAB := zh hab
    clear hab HNO HNL HST
    obtain ⟨p_B0_0, p_B0_1⟩ := cls2 B0.out
    have cp_B1_0 := cls10 B1.out
    refine wp_region_held_drew (S := fun w' => w'.cell? ⟨w.heap.size, 0, none⟩ = some (Value.slice sa ss.length sc) ∧ w'.cell? ⟨w.heap.size, 1, none⟩ = some (Value.int .i64 now) ∧ w'.cell? ⟨wr.heap.size, 0, none⟩ = some (Value.int .i64 a0) ∧ w'.cell? ⟨wr.heap.size, 1, none⟩ = some (Value.int .i64 a1) ∧ w'.cell? ⟨wr.heap.size, 2, none⟩ = some (Value.slice p2 x2.length c2) ∧ w'.cell? ⟨wr.heap.size, 3, none⟩ = some (Value.slice p3 x3.length c3) ∧ w'.cell? ⟨wr.heap.size, 4, none⟩ = some (Value.int .i64 a4) ∧ w'.cell? ⟨wr.heap.size, 5, none⟩ = some (Value.slice p5 x5.length c5) ∧ w'.cell? ⟨wr.heap.size, 6, none⟩ = some (Value.int .i64 a6) ∧ w'.cell? ⟨wr.heap.size, 7, none⟩ = some (Value.int .i64 a7) ∧ w'.cell? ⟨wr.heap.size, 8, none⟩ = some (Value.int .i64 a8) ∧ w'.cell? ⟨wr.heap.size, 9, none⟩ = some (Value.slice p9 x9.length c9)) (by kernel_rfl) ⟨p_B0_0, p_B0_1, cp_B1_0⟩ (fun hHeld => ?_)
    clear p_B0_0 p_B0_1 cp_B1_0
    have cdr : Below Wq.heap.size Wq Wq.drew := below_drew (Below.refl _ _)
    replace B0 := zb cdr B0
    replace B1 := zb cdr B1
    replace d := zD d cdr
    clear cdr
    refine tQ (i := 0) ?_
    try simp only [Act.put, lA, lB, lC]
    refine tQ (i := 1) ?_
    try simp only [Act.put, lA, lB, lC]
    refine rA 2 (fun K hK => ?_)
    go_simp
    refine (HC.out (Wq.drew) (slR_below tCond_law T2.out d.out) (slR_below tInt_law T3.out d.out) (slR_below tInt_law T5.out d.out) (slR_below tRow_law T9.out d.out)).mono ?_
    rintro e w5 ⟨rfl, c5⟩
    rw [HAB.out]
    have d2 := zh (show Below wr.heap.size wr w5 from dq.out.trans (((below_drew (Below.refl Wq.heap.size Wq)).trans c5).mono dq.out.size))
    replace B0 := zb c5 B0
    replace B1 := zb c5 B1
    replace d := zD d c5
    clear c5
    obtain ⟨p_B0_0, p_B0_1⟩ := cls2 B0.out
    have cp_B1_0 := cls10 B1.out
    refine hK.out _ _ ⟨p_B0_0, p_B0_1, cp_B1_0⟩ (fun hHeld => ?_)
    clear p_B0_0 p_B0_1 cp_B1_0
    clear hK K
    try simp only [Act.put, lA, lB, lC]
    refine tQ (i := 3) ?_
    try simp only [Act.put, lA, lB, lC]
    refine tQ (i := 4) ?_
    try simp only [Act.put, lA, lB, lC]
    refine tO (i := 5) ?_
    try simp only [Act.put, lA, lB, lC]
    refine tO (i := 6) ?_
    try simp only [Act.put, lA, lB, lC]
    refine tO (i := 7) ?_
    try simp only [Act.put, lA, lB, lC]
    refine tO (i := 8) ?_
    try simp only [Act.put, lA, lB, lC]
    refine tO (i := 9) ?_
    try simp only [Act.put, lA, lB, lC]
    refine tO (i := 10) ?_
    try simp only [Act.put, lA, lB, lC]
    refine tO (i := 11) ?_
    try simp only [Act.put, lA, lB, lC]
    refine tO (i := 12) ?_
    try simp only [Act.put, lA, lB, lC]
    refine tO (i := 13) ?_
    try simp only [Act.put, lA, lB, lC]
    refine tO (i := 14) ?_
    try simp only [Act.put, lA, lB, lC]
    refine tO (i := 15) ?_
    try simp only [Act.put, lA, lB, lC]
    refine tO (i := 16) ?_
    try simp only [Act.put, lA, lB, lC]
    refine tO (i := 17) ?_
    try simp only [Act.put, lA, lB, lC]
    refine tO (i := 18) ?_
    try simp only [Act.put, lA, lB, lC]
    refine tO (i := 19) ?_
    try simp only [Act.put, lA, lB, lC]
    refine tQ (i := 20) ?_
    try simp only [Act.put, lA, lB, lC]
    refine wpAnyH_done (by kernel_rfl) ?_ _
    clear hHeld
    go_wp2
    go_ret
    exact ⟨ret_b HF.out.symm, d.out⟩
   | true =>
    have HAB := zh hab
    by_cases hz : k = 0
    ·
     have HT := zh (HST.out hab (fun g => by omega))
     have f0 : decide ((0 : Int) < (k : Int)) = false := decide_eq_false (by omega)
     clear hab HNO HNL HST hz
     obtain ⟨p_B0_0, p_B0_1⟩ := cls2 B0.out
     have cp_B1_0 := cls10 B1.out
     refine wp_region_held_drew (S := fun w' => w'.cell? ⟨w.heap.size, 0, none⟩ = some (Value.slice sa ss.length sc) ∧ w'.cell? ⟨w.heap.size, 1, none⟩ = some (Value.int .i64 now) ∧ w'.cell? ⟨wr.heap.size, 0, none⟩ = some (Value.int .i64 a0) ∧ w'.cell? ⟨wr.heap.size, 1, none⟩ = some (Value.int .i64 a1) ∧ w'.cell? ⟨wr.heap.size, 2, none⟩ = some (Value.slice p2 x2.length c2) ∧ w'.cell? ⟨wr.heap.size, 3, none⟩ = some (Value.slice p3 x3.length c3) ∧ w'.cell? ⟨wr.heap.size, 4, none⟩ = some (Value.int .i64 a4) ∧ w'.cell? ⟨wr.heap.size, 5, none⟩ = some (Value.slice p5 x5.length c5) ∧ w'.cell? ⟨wr.heap.size, 6, none⟩ = some (Value.int .i64 a6) ∧ w'.cell? ⟨wr.heap.size, 7, none⟩ = some (Value.int .i64 a7) ∧ w'.cell? ⟨wr.heap.size, 8, none⟩ = some (Value.int .i64 a8) ∧ w'.cell? ⟨wr.heap.size, 9, none⟩ = some (Value.slice p9 x9.length c9)) (by kernel_rfl) ⟨p_B0_0, p_B0_1, cp_B1_0⟩ (fun hHeld => ?_)
     clear p_B0_0 p_B0_1 cp_B1_0
     have cdr : Below Wq.heap.size Wq Wq.drew := below_drew (Below.refl _ _)
     replace B0 := zb cdr B0
     replace B1 := zb cdr B1
     replace d := zD d cdr
     clear cdr
     refine tQ (i := 0) ?_
     try simp only [Act.put, lA, lB, lC]
     refine tQ (i := 1) ?_
     try simp only [Act.put, lA, lB, lC]
     refine rA 2 (fun K hK => ?_)
     go_simp
     refine (HC.out (Wq.drew) (slR_below tCond_law T2.out d.out) (slR_below tInt_law T3.out d.out) (slR_below tInt_law T5.out d.out) (slR_below tRow_law T9.out d.out)).mono ?_
     rintro e w5 ⟨rfl, c5⟩
     rw [HAB.out]
     have d2 := zh (show Below wr.heap.size wr w5 from dq.out.trans (((below_drew (Below.refl Wq.heap.size Wq)).trans c5).mono dq.out.size))
     replace B0 := zb c5 B0
     replace B1 := zb c5 B1
     replace d := zD d c5
     clear c5
     obtain ⟨p_B0_0, p_B0_1⟩ := cls2 B0.out
     have cp_B1_0 := cls10 B1.out
     refine hK.out _ _ ⟨p_B0_0, p_B0_1, cp_B1_0⟩ (fun hHeld => ?_)
     clear p_B0_0 p_B0_1 cp_B1_0
     clear hK K
     try simp only [Act.put, lA, lB, lC]
     refine tQ (i := 3) ?_
     try simp only [Act.put, lA, lB, lC]
     refine tQ (i := 4) ?_
     try simp only [Act.put, lA, lB, lC]
     refine tQ (i := 5) ?_
     try simp only [Act.put, lA, lB, lC]
     refine tR (i := 6) (v := .bool false) ?_ ?_
     ·
      intro w hSw; (try dsimp only at hSw); go_simp; all_goals first | (with_reducible rfl) | (rw [f0]; done) | (simpa using f0) | (simp [f0]; done) | (simp; omega)
     try simp only [Act.put, lA, lB, lC]
     refine tQ (i := 7) ?_
     try simp only [Act.put, lA, lB, lC]
     refine tO (i := 8) ?_
     try simp only [Act.put, lA, lB, lC]
     refine tO (i := 9) ?_
     try simp only [Act.put, lA, lB, lC]
     refine tO (i := 10) ?_
     try simp only [Act.put, lA, lB, lC]
     refine tO (i := 11) ?_
     try simp only [Act.put, lA, lB, lC]
     refine tO (i := 12) ?_
     try simp only [Act.put, lA, lB, lC]
     refine tO (i := 13) ?_
     try simp only [Act.put, lA, lB, lC]
     refine tO (i := 14) ?_
     try simp only [Act.put, lA, lB, lC]
     refine tO (i := 15) ?_
     try simp only [Act.put, lA, lB, lC]
     refine tO (i := 16) ?_
     try simp only [Act.put, lA, lB, lC]
     refine tO (i := 17) ?_
     try simp only [Act.put, lA, lB, lC]
     refine tO (i := 18) ?_
     try simp only [Act.put, lA, lB, lC]
     refine tQ (i := 19) ?_
     try simp only [Act.put, lA, lB, lC]
     refine tQ (i := 20) ?_
     try simp only [Act.put, lA, lB, lC]
     refine wpAnyH_done (by kernel_rfl) ?_ _
     clear hHeld
     go_wp2
     go_roundw
     case rel => exact ⟨k + 1, by omega, by go_num, HT, cw.out.trans (d2.out.mono cw.out.size)⟩
     case measure => simp [intOf]; omega
    ·
     have hk0 : 0 < k := by omega
     have f1 : decide ((0 : Int) < (k : Int)) = true := decide_eq_true (by omega)
     have i3 : (0 : Int) ≤ (k : Int) - 1 := by omega
     have i7 : (1 : Int) ≤ (k : Int) := by omega
     have i4 : (k : Int) - 1 < (l.length : Int) := by omega
     have i5 : ((k : Int) - 1).toNat = k - 1 := by omega
     have i6 : IntKind.i64.wrap ((k : Int) - 1) = (k : Int) - 1 := IntWalk.i64_in _ (by omega)
     obtain ⟨b', off', cap2, q2, r2, q3, r3, q5, r5, q9, r9, hv, hbl, g0, _, _, _, _, _, _, _, _, _, _, _, _, _⟩ := act_at (k := k - 1) H.out (by omega)
     simp only [Value.slice.injEq, Option.some.injEq, Addr.mk.injEq] at hv
     obtain ⟨⟨rfl, rfl, _⟩, _, rfl⟩ := hv
     clear hbl
     have HL2 := zh (HNL.out hk0)
     have HS2 := zh (HST.out hab)
     clear HNL HST HNO hab hk0 hz
     generalize (l.getD (k - 1) a0D).1.1 = z at *
     have G0 := zh g0
     clear g0
     by_cases hle : z < a0
     ·
      have HT := zh (HS2.out (fun _ => hle))
      have f2 : decide (a0 ≤ z) = false := decide_eq_false (by omega)
      clear hle HL2 HS2
      obtain ⟨p_B0_0, p_B0_1⟩ := cls2 B0.out
      obtain ⟨p_B1_0, p_B1_1, p_B1_2, p_B1_3, p_B1_4, p_B1_5, p_B1_6, p_B1_7, p_B1_8, p_B1_9⟩ := cls10 B1.out
      have p_G0 := cx d G0 HBL
      refine wp_region_held_drew (S := fun w' => w'.cell? ⟨w.heap.size, 0, none⟩ = some (Value.slice sa ss.length sc) ∧ w'.cell? ⟨w.heap.size, 1, none⟩ = some (Value.int .i64 now) ∧ w'.cell? ⟨wr.heap.size, 0, none⟩ = some (Value.int .i64 a0) ∧ w'.cell? ⟨wr.heap.size, 1, none⟩ = some (Value.int .i64 a1) ∧ w'.cell? ⟨wr.heap.size, 2, none⟩ = some (Value.slice p2 x2.length c2) ∧ w'.cell? ⟨wr.heap.size, 3, none⟩ = some (Value.slice p3 x3.length c3) ∧ w'.cell? ⟨wr.heap.size, 4, none⟩ = some (Value.int .i64 a4) ∧ w'.cell? ⟨wr.heap.size, 5, none⟩ = some (Value.slice p5 x5.length c5) ∧ w'.cell? ⟨wr.heap.size, 6, none⟩ = some (Value.int .i64 a6) ∧ w'.cell? ⟨wr.heap.size, 7, none⟩ = some (Value.int .i64 a7) ∧ w'.cell? ⟨wr.heap.size, 8, none⟩ = some (Value.int .i64 a8) ∧ w'.cell? ⟨wr.heap.size, 9, none⟩ = some (Value.slice p9 x9.length c9) ∧ w'.cell? ⟨b, off + (k - 1) * 10, none⟩ = some (Value.int .i64 z)) (by kernel_rfl) ⟨p_B0_0, p_B0_1, p_B1_0, p_B1_1, p_B1_2, p_B1_3, p_B1_4, p_B1_5, p_B1_6, p_B1_7, p_B1_8, p_B1_9, p_G0⟩ (fun hHeld => ?_)
      clear p_B0_0 p_B0_1 p_B1_0 p_B1_1 p_B1_2 p_B1_3 p_B1_4 p_B1_5 p_B1_6 p_B1_7 p_B1_8 p_B1_9 p_G0
      have cdr : Below Wq.heap.size Wq Wq.drew := below_drew (Below.refl _ _)
      replace B0 := zb cdr B0
      replace B1 := zb cdr B1
      replace d := zD d cdr
      clear cdr
      refine tQ (i := 0) ?_
      try simp only [Act.put, lA, lB, lC]
      refine tQ (i := 1) ?_
      try simp only [Act.put, lA, lB, lC]
      refine rA 2 (fun K hK => ?_)
      go_simp
      refine (HC.out (Wq.drew) (slR_below tCond_law T2.out d.out) (slR_below tInt_law T3.out d.out) (slR_below tInt_law T5.out d.out) (slR_below tRow_law T9.out d.out)).mono ?_
      rintro e w5 ⟨rfl, c5⟩
      rw [HAB.out]
      have d2 := zh (show Below wr.heap.size wr w5 from dq.out.trans (((below_drew (Below.refl Wq.heap.size Wq)).trans c5).mono dq.out.size))
      replace B0 := zb c5 B0
      replace B1 := zb c5 B1
      replace d := zD d c5
      clear c5
      obtain ⟨p_B0_0, p_B0_1⟩ := cls2 B0.out
      obtain ⟨p_B1_0, p_B1_1, p_B1_2, p_B1_3, p_B1_4, p_B1_5, p_B1_6, p_B1_7, p_B1_8, p_B1_9⟩ := cls10 B1.out
      have p_G0 := cx d G0 HBL
      refine hK.out _ _ ⟨p_B0_0, p_B0_1, p_B1_0, p_B1_1, p_B1_2, p_B1_3, p_B1_4, p_B1_5, p_B1_6, p_B1_7, p_B1_8, p_B1_9, p_G0⟩ (fun hHeld => ?_)
      clear p_B0_0 p_B0_1 p_B1_0 p_B1_1 p_B1_2 p_B1_3 p_B1_4 p_B1_5 p_B1_6 p_B1_7 p_B1_8 p_B1_9 p_G0
      clear hK K
      try simp only [Act.put, lA, lB, lC]
      refine tQ (i := 3) ?_
      try simp only [Act.put, lA, lB, lC]
      refine tQ (i := 4) ?_
      try simp only [Act.put, lA, lB, lC]
      refine tQ (i := 5) ?_
      try simp only [Act.put, lA, lB, lC]
      refine tR (i := 6) (v := .bool true) ?_ ?_
      ·
       intro w hSw; (try dsimp only at hSw); go_simp; all_goals first | (with_reducible rfl) | (rw [f1]; done) | (simpa using f1) | (simp [f1]; done) | (simp; omega)
      try simp only [Act.put, lA, lB, lC]
      refine tQ (i := 7) ?_
      try simp only [Act.put, lA, lB, lC]
      refine tQ (i := 8) ?_
      try simp only [Act.put, lA, lB, lC]
      refine tQ (i := 9) ?_
      try simp only [Act.put, lA, lB, lC]
      refine tQ (i := 10) ?_
      try simp only [Act.put, lA, lB, lC]
      refine tQ (i := 11) ?_
      try simp only [Act.put, lA, lB, lC]
      refine tQ (i := 12) ?_
      try simp only [Act.put, lA, lB, lC]
      refine tQ (i := 13) ?_
      try simp only [Act.put, lA, lB, lC]
      refine tQ (i := 14) ?_
      try simp only [Act.put, lA, lB, lC]
      refine tQ (i := 15) ?_
      try simp only [Act.put, lA, lB, lC]
      refine tQ (i := 16) ?_
      try simp only [Act.put, lA, lB, lC]
      refine tQ (i := 17) ?_
      try simp only [Act.put, lA, lB, lC]
      refine tR (i := 18) (v := .bool false) ?_ ?_
      ·
       intro w hSw; (try dsimp only at hSw); go_simp; all_goals first | (with_reducible rfl) | (rw [f2]; done) | (simpa using f2) | (simp [f2]; done) | (simp; omega)
      try simp only [Act.put, lA, lB, lC]
      refine tQ (i := 19) ?_
      try simp only [Act.put, lA, lB, lC]
      refine tQ (i := 20) ?_
      try simp only [Act.put, lA, lB, lC]
      refine wpAnyH_done (by kernel_rfl) ?_ _
      clear hHeld
      go_wp2
      go_roundw
      case rel => exact ⟨k + 1, by omega, by go_num, HT, cw.out.trans (d2.out.mono cw.out.size)⟩
      case measure => simp [intOf]; omega
     ·
      have HF := zh (HL2.out (by omega))
      have f2 : decide (a0 ≤ z) = true := decide_eq_true (by omega)
      clear hle HL2 HS2
      obtain ⟨p_B0_0, p_B0_1⟩ := cls2 B0.out
      obtain ⟨p_B1_0, p_B1_1, p_B1_2, p_B1_3, p_B1_4, p_B1_5, p_B1_6, p_B1_7, p_B1_8, p_B1_9⟩ := cls10 B1.out
      have p_G0 := cx d G0 HBL
      refine wp_region_held_drew (S := fun w' => w'.cell? ⟨w.heap.size, 0, none⟩ = some (Value.slice sa ss.length sc) ∧ w'.cell? ⟨w.heap.size, 1, none⟩ = some (Value.int .i64 now) ∧ w'.cell? ⟨wr.heap.size, 0, none⟩ = some (Value.int .i64 a0) ∧ w'.cell? ⟨wr.heap.size, 1, none⟩ = some (Value.int .i64 a1) ∧ w'.cell? ⟨wr.heap.size, 2, none⟩ = some (Value.slice p2 x2.length c2) ∧ w'.cell? ⟨wr.heap.size, 3, none⟩ = some (Value.slice p3 x3.length c3) ∧ w'.cell? ⟨wr.heap.size, 4, none⟩ = some (Value.int .i64 a4) ∧ w'.cell? ⟨wr.heap.size, 5, none⟩ = some (Value.slice p5 x5.length c5) ∧ w'.cell? ⟨wr.heap.size, 6, none⟩ = some (Value.int .i64 a6) ∧ w'.cell? ⟨wr.heap.size, 7, none⟩ = some (Value.int .i64 a7) ∧ w'.cell? ⟨wr.heap.size, 8, none⟩ = some (Value.int .i64 a8) ∧ w'.cell? ⟨wr.heap.size, 9, none⟩ = some (Value.slice p9 x9.length c9) ∧ w'.cell? ⟨b, off + (k - 1) * 10, none⟩ = some (Value.int .i64 z)) (by kernel_rfl) ⟨p_B0_0, p_B0_1, p_B1_0, p_B1_1, p_B1_2, p_B1_3, p_B1_4, p_B1_5, p_B1_6, p_B1_7, p_B1_8, p_B1_9, p_G0⟩ (fun hHeld => ?_)
      clear p_B0_0 p_B0_1 p_B1_0 p_B1_1 p_B1_2 p_B1_3 p_B1_4 p_B1_5 p_B1_6 p_B1_7 p_B1_8 p_B1_9 p_G0
      have cdr : Below Wq.heap.size Wq Wq.drew := below_drew (Below.refl _ _)
      replace B0 := zb cdr B0
      replace B1 := zb cdr B1
      replace d := zD d cdr
      clear cdr
      refine tQ (i := 0) ?_
      try simp only [Act.put, lA, lB, lC]
      refine tQ (i := 1) ?_
      try simp only [Act.put, lA, lB, lC]
      refine rA 2 (fun K hK => ?_)
      go_simp
      refine (HC.out (Wq.drew) (slR_below tCond_law T2.out d.out) (slR_below tInt_law T3.out d.out) (slR_below tInt_law T5.out d.out) (slR_below tRow_law T9.out d.out)).mono ?_
      rintro e w5 ⟨rfl, c5⟩
      rw [HAB.out]
      have d2 := zh (show Below wr.heap.size wr w5 from dq.out.trans (((below_drew (Below.refl Wq.heap.size Wq)).trans c5).mono dq.out.size))
      replace B0 := zb c5 B0
      replace B1 := zb c5 B1
      replace d := zD d c5
      clear c5
      obtain ⟨p_B0_0, p_B0_1⟩ := cls2 B0.out
      obtain ⟨p_B1_0, p_B1_1, p_B1_2, p_B1_3, p_B1_4, p_B1_5, p_B1_6, p_B1_7, p_B1_8, p_B1_9⟩ := cls10 B1.out
      have p_G0 := cx d G0 HBL
      refine hK.out _ _ ⟨p_B0_0, p_B0_1, p_B1_0, p_B1_1, p_B1_2, p_B1_3, p_B1_4, p_B1_5, p_B1_6, p_B1_7, p_B1_8, p_B1_9, p_G0⟩ (fun hHeld => ?_)
      clear p_B0_0 p_B0_1 p_B1_0 p_B1_1 p_B1_2 p_B1_3 p_B1_4 p_B1_5 p_B1_6 p_B1_7 p_B1_8 p_B1_9 p_G0
      clear hK K
      try simp only [Act.put, lA, lB, lC]
      refine tQ (i := 3) ?_
      try simp only [Act.put, lA, lB, lC]
      refine tQ (i := 4) ?_
      try simp only [Act.put, lA, lB, lC]
      refine tQ (i := 5) ?_
      try simp only [Act.put, lA, lB, lC]
      refine tR (i := 6) (v := .bool true) ?_ ?_
      ·
       intro w hSw; (try dsimp only at hSw); go_simp; all_goals first | (with_reducible rfl) | (rw [f1]; done) | (simpa using f1) | (simp [f1]; done) | (simp; omega)
      try simp only [Act.put, lA, lB, lC]
      refine tQ (i := 7) ?_
      try simp only [Act.put, lA, lB, lC]
      refine tQ (i := 8) ?_
      try simp only [Act.put, lA, lB, lC]
      refine tQ (i := 9) ?_
      try simp only [Act.put, lA, lB, lC]
      refine tQ (i := 10) ?_
      try simp only [Act.put, lA, lB, lC]
      refine tQ (i := 11) ?_
      try simp only [Act.put, lA, lB, lC]
      refine tQ (i := 12) ?_
      try simp only [Act.put, lA, lB, lC]
      refine tQ (i := 13) ?_
      try simp only [Act.put, lA, lB, lC]
      refine tQ (i := 14) ?_
      try simp only [Act.put, lA, lB, lC]
      refine tQ (i := 15) ?_
      try simp only [Act.put, lA, lB, lC]
      refine tQ (i := 16) ?_
      try simp only [Act.put, lA, lB, lC]
      refine tQ (i := 17) ?_
      try simp only [Act.put, lA, lB, lC]
      refine tR (i := 18) (v := .bool true) ?_ ?_
      ·
       intro w hSw; (try dsimp only at hSw); go_simp; all_goals first | (with_reducible rfl) | (rw [f2]; done) | (simpa using f2) | (simp [f2]; done) | (simp; omega)
      try simp only [Act.put, lA, lB, lC]
      refine tQ (i := 19) ?_
      try simp only [Act.put, lA, lB, lC]
      refine tQ (i := 20) ?_
      try simp only [Act.put, lA, lB, lC]
      refine wpAnyH_done (by kernel_rfl) ?_ _
      clear hHeld
      go_wp2
      go_ret
      exact ⟨ret_b HF.out.symm, d.out⟩
  ·
   obtain rfl : k = l.length := by omega
   have HT := zh (acts_yes hno.out)
   clear hno
   have cp_B0_0 := cls2 B0.out
   go_wp2
   clear cp_B0_0
   go_ret
   exact ⟨ret_b HT.out.symm, d.out⟩
set_option maxHeartbeats 8000000 in
theorem finClos (now a0 a1 a4 a5 : Int) (v2 v3 v6 : Value) (x2 : List CondD) (x3 : List Int) (x6 : List RowD) (B : Nat) (w : World) (h2 : SlR tCond w v2 x2) (h3 : SlR tInt w v3 x3) (h6 : SlR tRow w v6 x6) (s2 : zL tCond x2 ≤ 1048576) (s3 : zL tInt x3 ≤ 1048576) (s6 : zL tRow x6 ≤ 1048576) (hB : w.heap[B]? = some (.cells #[.int .i64 now] 3 (0, 0))) :
  Calls Tryz.prog 198 #[.agg #[.int .i64 a0, .int .i64 a1, v2, v3, .int .i64 a4, .int .i64 a5, v6], .pointer (some ⟨B, 0, none⟩)] w (fun e w' => e = .returned (.bool (finB now ((a0, a1, x2, x3), a4, a5, x6))) ∧ Below w.heap.size w w') := by
 obtain ⟨p2, c2, rfl⟩ := slR_len h2
 have H2 := zh h2; have S2 := zh s2
 obtain ⟨p3, c3, rfl⟩ := slR_len h3
 have H3 := zh h3; have S3 := zh s3
 obtain ⟨p6, c6, rfl⟩ := slR_len h6
 have H6 := zh h6; have S6 := zh s6
 have CB := zh ((cell_of_row w _ 0 _ _ _ hB).trans (show _ = some (Value.int .i64 now) from rfl))
 have LB := zh (Array.getElem?_eq_some_iff.1 hB).1
 clear h2 h3 h6 s2 s3 s6 hB
 have d := zh (show Below w.heap.size w (w.alloc (.cells #[.int .i64 a0, .int .i64 a1, .slice p2 x2.length c2, .slice p3 x3.length c3, .int .i64 a4, .int .i64 a5, .slice p6 x6.length c6] 59)) from ((Below.refl _ w).alloc (Nat.le_refl _) _))
 have B0 : Hid ((w.alloc (.cells #[.int .i64 a0, .int .i64 a1, .slice p2 x2.length c2, .slice p3 x3.length c3, .int .i64 a4, .int .i64 a5, .slice p6 x6.length c6] 59)).heap[w.heap.size]? = some (.cells #[.int .i64 a0, .int .i64 a1, .slice p2 x2.length c2, .slice p3 x3.length c3, .int .i64 a4, .int .i64 a5, .slice p6 x6.length c6] 59 (0, 0))) := zh (by
  exact heap_alloc_new w _)
 have YW : Hid (w.heap.size + 1 ≤ (w.alloc (.cells #[.int .i64 a0, .int .i64 a1, .slice p2 x2.length c2, .slice p3 x3.length c3, .int .i64 a4, .int .i64 a5, .slice p6 x6.length c6] 59)).heap.size) := zh (by simp [World.size_alloc])
 have pc := cx d CB LB
 go_enter Tryz.func198, Tryz.ntmps198
 go_wp2_with fail
 clear pc
 generalize (w.alloc (.cells #[.int .i64 a0, .int .i64 a1, .slice p2 x2.length c2, .slice p3 x3.length c3, .int .i64 a4, .int .i64 a5, .slice p6 x6.length c6] 59)) = W at *
 refine (isAnswer_any a0 a1 a4 now (.slice p2 x2.length c2) (.slice p3 x3.length c3) (.slice p6 x6.length c6) x2 x3 x6 W (slR_below tCond_law H2.out d.out) (slR_below tInt_law H3.out d.out) (slR_below tRow_law H6.out d.out) S2.out S3.out S6.out).mono ?_
 rintro e W1 ⟨rfl, c⟩
 replace B0 := zb c B0
 replace d := zD d c
 have Z_W1 := zh (show W.heap.size ≤ W1.heap.size from c.size)
 clear c
 rcases Bool.eq_false_or_eq_true (ansB (a0, a1, x2, x3) a4 x6 now) with han | han
 rotate_left
 ·
  rw [han]
  have HF := zh (fin_ans (now := now) (d := ((a0, a1, x2, x3), a4, a5, x6)) han)
  clear han
  have cp_B0_0 := cls7 B0.out
  go_wp2
  clear cp_B0_0
  go_ret
  exact ⟨ret_b HF.out.symm, d.out⟩
 rw [han]
 have HAN := zh han
 clear han
 have cp_B0_0 := cls7 B0.out
 go_wp2_with fail
 clear cp_B0_0
 refine (isTime_any a5 _).mono ?_
 rintro e wx ⟨rfl, hwx⟩
 obtain rfl := hwx.symm
 have HT : Hid (decide (0 ≤ a5 ∧ a5 ≤ 100000) = finB now ((a0, a1, x2, x3), a4, a5, x6)) := zh (by
  obtain ⟨q1, q2, q3⟩ := ans_iff HAN.out
  by_cases g : 0 ≤ a5 ∧ a5 ≤ 100000
  ·
   rw [decide_eq_true g]; exact (fin_yes (now := now) (d := ((a0, a1, x2, x3), a4, a5, x6)) q1 ⟨q2, g⟩ q3).symm
  ·
   rw [decide_eq_false g]; exact (fin_no2 (now := now) (d := ((a0, a1, x2, x3), a4, a5, x6)) (fun q => g q.2)).symm)
 rw [HT.out]
 have cp_B0_0 := cls7 B0.out
 go_wp2
 clear cp_B0_0
 go_ret
 exact ⟨rfl, d.out⟩
set_option maxHeartbeats 8000000 in
theorem allFin (now : Int) (B : Nat) (v : Value) (l : List FinD) (w : World) (hB : w.heap[B]? = some (.cells #[.int .i64 now] 3 (0, 0))) (h : SlR tFinished w v l) (hs : zL tFinished l ≤ 1048576) :
  Calls Tryz.prog 69 #[v, .func (.func 198) #[] #[.pointer (some ⟨B, 0, none⟩)]] w (fun e w' => e = .returned (.bool (l.all (finB now))) ∧ Below w.heap.size w w') := by
 have hlen := zL_len hs
 have HS := zh hs
 have H := zh h
 have BB := zh hB
 obtain ⟨a, cap, rfl⟩ := slR_len h
 clear h hs hB
 go_enter Tryz.func69, Tryz.ntmps69
 go_wp2
 go_loopw [9] (fun i wr => ∃ k : Nat, k ≤ l.length ∧ i = .int .i64 k ∧ Hid (AllTo (finB now) f0D l k) ∧ Below w.heap.size w wr) (fun i _ => l.length - (intOf i).toNat)
 case atStart => exact ⟨0, Nat.zero_le _, rfl, zh (allTo_zero _ _ _), Below.refl _ _⟩
 case round =>
  obtain ⟨k, hk, rfl, hno, c⟩ := hrel
  have cw := zh c
  by_cases hlt : k < l.length
  ·
   have i1 : (0 : Int) ≤ (k : Int) := by omega
   have i2 : (k : Int) < (l.length : Int) := by omega
   have hz := zL_at HS.out hlt
   change tFinished.sz (l.getD k f0D) ≤ 1048576 at hz
   have HST : Hid ((finB now) (l.getD k f0D) = true → AllTo (finB now) f0D l (k + 1)) := zh (fun g => allTo_step hno.out g)
   have HNO : Hid ((finB now) (l.getD k f0D) = false → l.all (finB now) = false) := zh (fun g => allB_no f0D hlt g)
   obtain ⟨b, off, cap', p2, c2, p3, c3, p6, c6, hv, hbl, e0, e1, e2, e3, e4, e5, e6, s2, s3, s6⟩ := fin_at (slR_below tFinished_law H.out c) hlt
   simp only [Value.slice.injEq] at hv
   obtain ⟨rfl, _, rfl⟩ := hv
   generalize l.getD k f0D = x at *
   obtain ⟨⟨a0, a1, x2, x3⟩, a4, a5, x6⟩ := x
   rw [tFinished_sz] at hz
   dsimp only at *
   have hal : Below wr.heap.size wr (wr.alloc (.cells #[.int .i64 a0, .int .i64 a1, .slice p2 x2.length c2, .slice p3 x3.length c3, .int .i64 a4, .int .i64 a5, .slice p6 x6.length c6] 59)) := (Below.refl _ _).alloc (Nat.le_refl _) _
   have HC0 := finClos now a0 a1 a4 a5 (.slice p2 x2.length c2) (.slice p3 x3.length c3) (.slice p6 x6.length c6) x2 x3 x6 B _ (slR_below tCond_law s2 hal) (slR_below tInt_law s3 hal) (slR_below tRow_law s6 hal) (by omega) (by omega) (by omega) (((cw.out.trans (hal.mono cw.out.size)).block B (Array.getElem?_eq_some_iff.1 BB.out).1).trans BB.out)
   have HC := zh (HC0.mono (fun e w' hh => (⟨hh.1, hal.trans (hh.2.mono hal.size)⟩ : e = .returned (.bool (finB now ((a0, a1, x2, x3), a4, a5, x6))) ∧ Below wr.heap.size wr w')))
   clear HC0 hal s2 s3 s6 hz hbl
   clear hno c
   obtain ⟨bv, hbv⟩ : ∃ bv, bv = finB now ((a0, a1, x2, x3), a4, a5, x6) := ⟨_, rfl⟩
   rw [← hbv] at HC HST HNO
   clear hbv
   cases bv with
   | true =>
    have HT := zh (HST.out rfl)
    clear HST HNO
    go_wp2_with fail
    refine HC.out.mono ?_
    rintro e w2 ⟨rfl, c2⟩
    have cw2 := zh (cw.out.trans (c2.mono cw.out.size))
    clear c2 HC e0 e1 e2 e3 e4 e5 e6
    go_wp2
    go_roundw
    case rel => exact ⟨k + 1, by omega, by go_num, HT, cw2.out⟩
    case measure => simp [intOf]; omega
   | false =>
    have HF := zh (HNO.out rfl)
    clear HST HNO
    go_wp2_with fail
    refine HC.out.mono ?_
    rintro e w2 ⟨rfl, c2⟩
    have cw2 := zh (cw.out.trans (c2.mono cw.out.size))
    clear c2 HC e0 e1 e2 e3 e4 e5 e6
    go_wp2
    go_ret
    exact ⟨ret_b HF.out.symm, cw2.out⟩
  ·
   obtain rfl : k = l.length := by omega
   have HA := zh (allB_yes (p := finB now) f0D hno.out)
   clear hno c
   go_wp2
   go_ret
   exact ⟨ret_b HA.out.symm, cw.out⟩
set_option maxHeartbeats 8000000 in
theorem areFinished_any (v : Value) (l : List FinD) (now : Int) (w : World) (h : SlR tFinished w v l) (hs : zL tFinished l ≤ 1048576) :
  Calls Tryz.prog 135 #[v, .int .i64 now] w (fun e w' => e = .returned (.bool (decide (l.length ≤ 1000) && l.all (finB now))) ∧ Below w.heap.size w w') := by
 have hlen := zL_len hs
 have hal : Below w.heap.size w (w.alloc (.cells #[.int .i64 now] 3)) := (Below.refl _ _).alloc (Nat.le_refl _) _
 have d := zh hal
 have HC := zh (allFin now w.heap.size v l _ (heap_alloc_new w (.cells #[.int .i64 now] 3)) (slR_below tFinished_law h hal) hs)
 have hmf : ∀ (fn : Fn) (first cap : Array Value) (w : World), (Instr.makeFunc fn first cap).run Tryz.prog w = .ok (.func fn first cap) w := fun _ _ _ _ => rfl
 obtain ⟨a, cap, rfl⟩ := slR_len h
 clear hal h hs
 by_cases h9 : l.length ≤ 1000
 ·
  rw [decide_eq_true h9, Bool.true_and]
  have f1 : decide ((l.length : Int) ≤ 1000) = true := decide_eq_true (by omega)
  clear h9
  go_enter Tryz.func135, Tryz.ntmps135
  go_wp2_with fail
  refine HC.out.mono ?_
  rintro e w1 ⟨rfl, c⟩
  have d2 := zh (d.out.trans (c.mono d.out.size))
  clear c HC f1
  go_wp2
  go_ret
  exact ⟨rfl, d2.out⟩
 ·
  have HF : Hid ((decide (l.length ≤ 1000) && l.all (finB now)) = false) := zh (by rw [decide_eq_false h9]; rfl)
  rw [HF.out]
  have f1 : decide ((l.length : Int) ≤ 1000) = false := decide_eq_false (by omega)
  clear h9 HC
  go_enter Tryz.func135, Tryz.ntmps135
  go_wp2
  go_ret
  exact ⟨rfl, d.out⟩
set_option maxHeartbeats 8000000 in
theorem implIsCharge (sg ba : Int) (v2 v3 v4 : Value) (x2 x3 x4 : List Int) (w : World) (h2 : SlR tInt w v2 x2) (h3 : SlR tInt w v3 x3) (h4 : SlR tInt w v4 x4) (s2 : zL tInt x2 ≤ 1048576) (s3 : zL tInt x3 ≤ 1048576) (s4 : zL tInt x4 ≤ 1048576) :
  Calls Tryz.prog 137 #[.agg #[.int .i64 sg, .int .i64 ba, v2, v3, v4]] w (fun e w' => e = .returned (.bool (chargeB (sg, ba, x2, x3, x4))) ∧ Below w.heap.size w w') := by
 obtain ⟨p2, c2, rfl⟩ := slR_len h2
 have H2 := zh h2; have S2 := zh s2; have n2 := zL_len s2
 obtain ⟨p3, c3, rfl⟩ := slR_len h3
 have H3 := zh h3; have S3 := zh s3; have n3 := zL_len s3
 obtain ⟨p4, c4, rfl⟩ := slR_len h4
 have H4 := zh h4; have S4 := zh s4; have n4 := zL_len s4
 have HMF : Hid (∀ (fn : Fn) (first cap : Array Value) (w : World), (Instr.makeFunc fn first cap).run Tryz.prog w = .ok (.func fn first cap) w) := zh (fun _ _ _ _ => rfl)
 clear h2 h3 h4 s2 s3 s4
 have d := zh (show Below w.heap.size w (w.alloc (.cells #[.int .i64 sg, .int .i64 ba, .slice p2 x2.length c2, .slice p3 x3.length c3, .slice p4 x4.length c4] 162)) from ((Below.refl _ w).alloc (Nat.le_refl _) _))
 have B0 : Hid ((w.alloc (.cells #[.int .i64 sg, .int .i64 ba, .slice p2 x2.length c2, .slice p3 x3.length c3, .slice p4 x4.length c4] 162)).heap[w.heap.size]? = some (.cells #[.int .i64 sg, .int .i64 ba, .slice p2 x2.length c2, .slice p3 x3.length c3, .slice p4 x4.length c4] 162 (0, 0))) := zh (by
  exact heap_alloc_new w _)
 have YW : Hid (w.heap.size + 1 ≤ (w.alloc (.cells #[.int .i64 sg, .int .i64 ba, .slice p2 x2.length c2, .slice p3 x3.length c3, .slice p4 x4.length c4] 162)).heap.size) := zh (by simp [World.size_alloc])
 go_enter Tryz.func137, Tryz.ntmps137
 go_wp2_with fail
 generalize (w.alloc (.cells #[.int .i64 sg, .int .i64 ba, .slice p2 x2.length c2, .slice p3 x3.length c3, .slice p4 x4.length c4] 162)) = W at *
 refine (implIsSet (.slice p2 x2.length c2) x2 W (slR_ints (slR_below tInt_law H2.out d.out)) n2).mono ?_
 rintro e W1 ⟨rfl, c⟩
 replace B0 := zb c B0
 replace d := zD d c
 have Z_W1 := zh (show W.heap.size ≤ W1.heap.size from c.size)
 clear c
 rcases Bool.eq_false_or_eq_true (setB x2) with hset | hset
 rotate_left
 ·
  rw [hset]
  have HF := zh (charge_no1 (x := (sg, ba, x2, x3, x4)) hset)
  clear hset
  have cp_B0_0 := cls5 B0.out
  go_wp2
  clear cp_B0_0
  go_ret
  exact ⟨ret_b HF.out.symm, d.out⟩
 rw [hset]
 have HSET := zh hset
 clear hset
 by_cases hp1 : 1 ≤ x2.length
 rotate_left
 ·
  have HF := zh (charge_no2 (x := (sg, ba, x2, x3, x4)) (fun g => hp1 g.1.1))
  have f1 : decide (1 ≤ (x2.length : Int)) = false := decide_eq_false (by omega)
  clear hp1
  have cp_B0_0 := cls5 B0.out
  go_wp2
  clear cp_B0_0
  go_ret
  exact ⟨ret_b HF.out.symm, d.out⟩
 have f1 : decide (1 ≤ (x2.length : Int)) = true := decide_eq_true (by omega)
 have HP1 := zh hp1
 clear hp1
 by_cases hp2 : x2.length ≤ 8
 rotate_left
 ·
  have HF := zh (charge_no2 (x := (sg, ba, x2, x3, x4)) (fun g => hp2 g.1.2))
  have f2 : decide ((x2.length : Int) ≤ 8) = false := decide_eq_false (by omega)
  clear hp2
  have cp_B0_0 := cls5 B0.out
  go_wp2
  clear cp_B0_0
  go_ret
  exact ⟨ret_b HF.out.symm, d.out⟩
 have f2 : decide ((x2.length : Int) ≤ 8) = true := decide_eq_true (by omega)
 have HP2 := zh hp2
 clear hp2
 by_cases hp3 : x3.length = x2.length
 rotate_left
 ·
  have HF := zh (charge_no2 (x := (sg, ba, x2, x3, x4)) (fun g => hp3 g.2.1.1))
  have f3 : ((x3.length : Int) == (x2.length : Int)) = false := by simp only [beq_eq_false_iff_ne, ne_eq]; omega
  clear hp3
  have cp_B0_0 := cls5 B0.out
  go_wp2
  clear cp_B0_0
  go_ret
  exact ⟨ret_b HF.out.symm, d.out⟩
 have f3 : ((x3.length : Int) == (x2.length : Int)) = true := by simp only [beq_iff_eq]; omega
 have HP3 := zh hp3
 clear hp3
 by_cases hp4 : x4.length = x2.length
 rotate_left
 ·
  have HF := zh (charge_no2 (x := (sg, ba, x2, x3, x4)) (fun g => hp4 g.2.1.2))
  have f4 : ((x4.length : Int) == (x2.length : Int)) = false := by simp only [beq_eq_false_iff_ne, ne_eq]; omega
  clear hp4
  have cp_B0_0 := cls5 B0.out
  go_wp2
  clear cp_B0_0
  go_ret
  exact ⟨ret_b HF.out.symm, d.out⟩
 have f4 : ((x4.length : Int) == (x2.length : Int)) = true := by simp only [beq_iff_eq]; omega
 have HP4 := zh hp4
 clear hp4
 by_cases hp5 : 0 ≤ sg
 rotate_left
 ·
  have HF := zh (charge_no2 (x := (sg, ba, x2, x3, x4)) (fun g => hp5 g.2.2.1.1))
  have f5 : decide (0 ≤ sg) = false := decide_eq_false (by omega)
  clear hp5
  have cp_B0_0 := cls5 B0.out
  go_wp2
  clear cp_B0_0
  go_ret
  exact ⟨ret_b HF.out.symm, d.out⟩
 have f5 : decide (0 ≤ sg) = true := decide_eq_true (by omega)
 have HP5 := zh hp5
 clear hp5
 by_cases hp6 : sg < 8
 rotate_left
 ·
  have HF := zh (charge_no2 (x := (sg, ba, x2, x3, x4)) (fun g => hp6 (by have := g.2.2.1.2; show sg < 8; simp only at this; omega)))
  have f6 : decide (sg < 8) = false := decide_eq_false (by omega)
  clear hp6
  have cp_B0_0 := cls5 B0.out
  go_wp2
  clear cp_B0_0
  go_ret
  exact ⟨ret_b HF.out.symm, d.out⟩
 have f6 : decide (sg < 8) = true := decide_eq_true (by omega)
 have HP6 := zh hp6
 clear hp6
 by_cases hp7 : 0 ≤ ba
 rotate_left
 ·
  have HF := zh (charge_no2 (x := (sg, ba, x2, x3, x4)) (fun g => hp7 g.2.2.2.1))
  have f7 : decide (0 ≤ ba) = false := decide_eq_false (by omega)
  clear hp7
  have cp_B0_0 := cls5 B0.out
  go_wp2
  clear cp_B0_0
  go_ret
  exact ⟨ret_b HF.out.symm, d.out⟩
 have f7 : decide (0 ≤ ba) = true := decide_eq_true (by omega)
 have HP7 := zh hp7
 clear hp7
 by_cases hp8 : ba ≤ 4
 rotate_left
 ·
  have HF := zh (charge_no2 (x := (sg, ba, x2, x3, x4)) (fun g => hp8 g.2.2.2.2))
  have f8 : decide (ba ≤ 4) = false := decide_eq_false (by omega)
  clear hp8
  have cp_B0_0 := cls5 B0.out
  go_wp2
  clear cp_B0_0
  go_ret
  exact ⟨ret_b HF.out.symm, d.out⟩
 have f8 : decide (ba ≤ 4) = true := decide_eq_true (by omega)
 have HP8 := zh hp8
 clear hp8
 have HH : Hid (chargeHP (sg, ba, x2, x3, x4)) := zh ⟨⟨HP1.out, HP2.out⟩, ⟨HP3.out, HP4.out⟩, ⟨HP5.out, by have := HP6.out; show sg ≤ 7; omega⟩, ⟨HP7.out, HP8.out⟩⟩
 have cp_B0_0 := cls5 B0.out
 go_wp2_with fail
 clear cp_B0_0 f1 f2 f3 f4 f5 f6 f7 f8
 refine (allTen (.slice p3 x3.length c3) x3 W1 (slR_below tInt_law H3.out d.out) S3.out).mono ?_
 rintro e W8 ⟨rfl, c⟩
 replace B0 := zb c B0
 replace d := zD d c
 have Z_W8 := zh (show W1.heap.size ≤ W8.heap.size from c.size)
 clear c
 rcases Bool.eq_false_or_eq_true (x3.all tenB) with hten | hten
 rotate_left
 ·
  rw [hten]
  have HF := zh (charge_no3 (x := (sg, ba, x2, x3, x4)) hten)
  clear hten
  have cp_B0_0 := cls5 B0.out
  go_wp2
  clear cp_B0_0
  go_ret
  exact ⟨ret_b HF.out.symm, d.out⟩
 rw [hten]
 have HTEN := zh hten
 clear hten
 have cp_B0_0 := cls5 B0.out
 have hmf := HMF.out
 go_wp2_with fail
 clear cp_B0_0 hmf
 refine (allGet sg ba p2 p3 p4 x2.length c2 x3.length c3 x4.length c4 (.slice p4 x4.length c4) x4 W8 (slR_below tInt_law H4.out d.out) S4.out).mono ?_
 rintro e W9 ⟨rfl, c⟩
 replace B0 := zb c B0
 replace d := zD d c
 have Z_W9 := zh (show W8.heap.size ≤ W9.heap.size from c.size)
 clear c
 have HT : Hid (x4.all (getB ba) = chargeB (sg, ba, x2, x3, x4)) := zh (by
  rcases Bool.eq_false_or_eq_true (x4.all (getB ba)) with g | g
  ·
   rw [g]; exact (charge_yes (x := (sg, ba, x2, x3, x4)) HSET.out HH.out HTEN.out g).symm
  ·
   rw [g]; exact (charge_no4 (x := (sg, ba, x2, x3, x4)) g).symm)
 rw [HT.out]
 have cp_B0_0 := cls5 B0.out
 go_wp2
 clear cp_B0_0
 go_ret
 exact ⟨rfl, d.out⟩
set_option maxHeartbeats 8000000 in
theorem allCharge  (v : Value) (l : List ChargeD) (w : World)  (h : SlR tCharge w v l) (hs : zL tCharge l ≤ 1048576) :
  Calls Tryz.prog 136 #[v, .func (.func 137) #[] #[]] w (fun e w' => e = .returned (.bool (l.all (chargeB))) ∧ Below w.heap.size w w') := by
 have hlen := zL_len hs
 have HS := zh hs
 have H := zh h
 obtain ⟨a, cap, rfl⟩ := slR_len h
 clear h hs
 go_enter Tryz.func136, Tryz.ntmps136
 go_wp2
 go_loopw [9] (fun i wr => ∃ k : Nat, k ≤ l.length ∧ i = .int .i64 k ∧ Hid (AllTo (chargeB) x0D l k) ∧ Below w.heap.size w wr) (fun i _ => l.length - (intOf i).toNat)
 case atStart => exact ⟨0, Nat.zero_le _, rfl, zh (allTo_zero _ _ _), Below.refl _ _⟩
 case round =>
  obtain ⟨k, hk, rfl, hno, c⟩ := hrel
  have cw := zh c
  by_cases hlt : k < l.length
  ·
   have i1 : (0 : Int) ≤ (k : Int) := by omega
   have i2 : (k : Int) < (l.length : Int) := by omega
   have hz := zL_at HS.out hlt
   change tCharge.sz (l.getD k x0D) ≤ 1048576 at hz
   have HST : Hid ((chargeB) (l.getD k x0D) = true → AllTo (chargeB) x0D l (k + 1)) := zh (fun g => allTo_step hno.out g)
   have HNO : Hid ((chargeB) (l.getD k x0D) = false → l.all (chargeB) = false) := zh (fun g => allB_no x0D hlt g)
   obtain ⟨b, off, cap', p2, c2, p3, c3, p4, c4, hv, hbl, e0, e1, e2, e3, e4, s2, s3, s4⟩ := chg_at (slR_below tCharge_law H.out c) hlt
   simp only [Value.slice.injEq] at hv
   obtain ⟨rfl, _, rfl⟩ := hv
   generalize l.getD k x0D = x at *
   obtain ⟨sg, ba, x2, x3, x4⟩ := x
   rw [tCharge_sz] at hz
   dsimp only at *
   have hal : Below wr.heap.size wr (wr.alloc (.cells #[.int .i64 sg, .int .i64 ba, .slice p2 x2.length c2, .slice p3 x3.length c3, .slice p4 x4.length c4] 162)) := (Below.refl _ _).alloc (Nat.le_refl _) _
   have HC0 := implIsCharge sg ba (.slice p2 x2.length c2) (.slice p3 x3.length c3) (.slice p4 x4.length c4) x2 x3 x4 _ (slR_below tInt_law s2 hal) (slR_below tInt_law s3 hal) (slR_below tInt_law s4 hal) (by omega) (by omega) (by omega)
   have HC := zh (HC0.mono (fun e w' hh => (⟨hh.1, hal.trans (hh.2.mono hal.size)⟩ : e = .returned (.bool (chargeB (sg, ba, x2, x3, x4))) ∧ Below wr.heap.size wr w')))
   clear HC0 hal s2 s3 s4 hz hbl
   clear hno c
   obtain ⟨bv, hbv⟩ : ∃ bv, bv = chargeB (sg, ba, x2, x3, x4) := ⟨_, rfl⟩
   rw [← hbv] at HC HST HNO
   clear hbv
   cases bv with
   | true =>
    have HT := zh (HST.out rfl)
    clear HST HNO
    go_wp2_with fail
    refine HC.out.mono ?_
    rintro e w2 ⟨rfl, c2⟩
    have cw2 := zh (cw.out.trans (c2.mono cw.out.size))
    clear c2 HC e0 e1 e2 e3 e4
    go_wp2
    go_roundw
    case rel => exact ⟨k + 1, by omega, by go_num, HT, cw2.out⟩
    case measure => simp [intOf]; omega
   | false =>
    have HF := zh (HNO.out rfl)
    clear HST HNO
    go_wp2_with fail
    refine HC.out.mono ?_
    rintro e w2 ⟨rfl, c2⟩
    have cw2 := zh (cw.out.trans (c2.mono cw.out.size))
    clear c2 HC e0 e1 e2 e3 e4
    go_wp2
    go_ret
    exact ⟨ret_b HF.out.symm, cw2.out⟩
  ·
   obtain rfl : k = l.length := by omega
   have HA := zh (allB_yes (p := chargeB) x0D hno.out)
   clear hno c
   go_wp2
   go_ret
   exact ⟨ret_b HA.out.symm, cw.out⟩
theorem info_R_ptr : ElemInfo (tRaw 1) 264 (.pointer none) := elemInfo_of (by kernel_rfl)
/-- A slice as a value: its address, length and capacity. -/
abbrev SegV := Option Addr × Nat × Nat
def s0V : SegV := (none, 0, 0)
def segV (u : SegV) : Value := .slice u.1 u.2.1 u.2.2
def cutV (u : SegV) : Value := .slice u.1 u.2.1 u.2.1
def ptrV (b : Nat) : Value := .pointer (some ⟨b, 0, none⟩)
/-- A slice of slices is read. -/
def LsR (w : World) (v : Value) (us : List SegV) : Prop := SlR (tRaw 1) w v (us.map (fun u => [segV u])) ∧ ∀ j, j < us.length → (us.getD j s0V).2.1 ≤ (us.getD j s0V).2.2
theorem lsR_below {W w : World} {v : Value} {us : List SegV} (h : LsR W v us) (hb : Below W.heap.size W w) : LsR w v us := ⟨slR_below (tRaw_law (by decide)) h.1 hb, h.2⟩
theorem lsR_len {w : World} {v : Value} {us : List SegV} (h : LsR w v us) : ∃ a cap, v = .slice a us.length cap := by
 obtain ⟨a, cap, e⟩ := slR_len h.1
 rw [List.length_map] at e
 exact ⟨a, cap, e⟩
theorem lsR_at {w : World} {v : Value} {us : List SegV} (h : LsR w v us) {k : Nat} (hk : k < us.length) : ∃ b off cap, v = .slice (some ⟨b, off, none⟩) us.length cap ∧ b < w.heap.size ∧ w.cell? ⟨b, off + k, none⟩ = some (segV (us.getD k s0V)) ∧ (us.getD k s0V).2.1 ≤ (us.getD k s0V).2.2 := by
 obtain ⟨b, off, cap, cs, hv, hb, hc, hR⟩ := slR_at h.1 (k := k) (by rw [List.length_map]; exact hk)
 rw [List.length_map] at hv
 obtain ⟨e, _⟩ := hR
 have e2 : (us.map (fun u => [segV u])).getD k (tRaw 1).d = [segV (us.getD k s0V)] := by simp [List.getD, hk]
 rw [e2] at e
 have := hc 0 (by decide)
 rw [show (tRaw 1).n = 1 from rfl, Nat.mul_one, Nat.add_zero, e] at this
 exact ⟨b, off, cap, hv, hb, this, h.2 k hk⟩
/-- The row of a segment's block. -/
def segRow (u : SegV) : Obj := .cells #[cutV u] 289 (0, 0)
/-- What tableOf answers: new pointers to new segments. -/
def TabN (B : Nat) (w : World) (g : Nat) (bs : List Nat) (us : List SegV) : Prop :=
 B ≤ g ∧ g < w.heap.size ∧ bs.length = us.length ∧ (∀ j, j < us.length → w.cell? ⟨g, j, none⟩ = some (ptrV (bs.getD j 0)) ∧ w.heap[bs.getD j 0]? = some (segRow (us.getD j s0V)) ∧ g < bs.getD j 0) ∧ ∀ i j, i < us.length → j < us.length → i ≠ j → bs.getD i 0 ≠ bs.getD j 0
def FreshTab (w : World) (us : List SegV) (e : Ending) (w' : World) : Prop := ∃ g bs, e = .returned (.slice (some ⟨g, 0, none⟩) us.length us.length) ∧ TabN w.heap.size w' g bs us ∧ Below w.heap.size w w'
def FreshTabO (w : World) (us : List SegV) (e : Ending) (w' : World) : Prop := ∃ g bs, e = .returned (.slice (some ⟨g, 0, none⟩) us.length us.length) ∧ w'.ownsRow w.heap.size 264 1 (.slice (some ⟨g, 0, none⟩) us.length us.length) us.length (bs.map ptrV) ∧ TabN w.heap.size w' g bs us ∧ Below w.heap.size w w'
theorem ptr_set {bs : List Nat} {n k b : Nat} (hb : bs.length = k) (hk : k < n) : (bs.map ptrV ++ List.replicate (n - k) (Value.pointer none)).set k (ptrV b) = (bs ++ [b]).map ptrV ++ List.replicate (n - (k + 1)) (Value.pointer none) := by
 have hl : (bs.map ptrV).length = k := by rw [List.length_map]; exact hb
 rw [List.set_append_right _ _ (by omega), hl, Nat.sub_self, show n - k = (n - (k + 1)) + 1 by omega, List.replicate_succ, List.set_cons_zero, List.map_append, List.append_assoc]
 rfl
theorem getD_app_lt {bs : List Nat} {b j : Nat} (h : j < bs.length) : (bs ++ [b]).getD j 0 = bs.getD j 0 := by simp [List.getD, List.getElem?_append_left h]
theorem getD_app_eq {bs : List Nat} {b j : Nat} (h : j = bs.length) : (bs ++ [b]).getD j 0 = b := by subst h; simp [List.getD]
set_option maxHeartbeats 8000000 in
theorem tableOf_own (v : Value) (us : List SegV) (w : World) (h : LsR w v us) (hn : us.length ≤ 1048576) :
  Calls Tryz.prog 195 #[v] w (FreshTabO w us) := by
 obtain ⟨i0, hi, hz0, hz1, hz2⟩ := info_R_ptr
 have HI := zh hi; have HZ0 := zh hz0; have HZ1 : Hid (i0.size = 1) := zh hz1; have HZ2 := zh hz2
 clear hi hz0 hz1 hz2
 have H := zh h
 obtain ⟨a, cap, rfl⟩ := lsR_len h
 clear h
 go_enter Tryz.func195, Tryz.ntmps195
 go_wp2_with (at_make; refine wpList_make_full _ rfl (.tmp 7) (.tmp 7) 235 rfl w.heap.size 264 i0 (.pointer none) 1 Tryz.underlying235 HI.out HZ0.out HZ1.out _ _ _ _ us.length rfl rfl rfl rfl (by have := Nat.mul_le_mul HZ2.out hn; omega) (by unfold maxLen; omega) (Nat.le_refl _) ?_)
 intro w1 hown0 hg0
 have hbel1 := (Below.refl w.heap.size w).grown hg0 (Nat.le_refl _) (fun k hk => by cases hk)
 have hz : (madeCells #[Value.pointer none] us.length).toList = List.replicate us.length (Value.pointer none) := by
  apply List.ext_getElem?
  intro i
  unfold madeCells
  rw [Array.getElem?_toList, Array.getElem?_map]
  by_cases q : i < us.length
  ·
   rw [Array.getElem?_range, if_pos q]
   simp [q, Nat.mod_one]
  ·
   rw [Array.getElem?_range, if_neg q]
   simp [q]
 rw [hz] at hown0
 clear hg0 hz
 go_wp2
 go_loopw [11] (fun i wr => ∃ (k : Nat) (bs : List Nat), k ≤ us.length ∧ i = .int .i64 k ∧ bs.length = k ∧ wr.ownsRow w.heap.size 264 1 (.slice (some ⟨w.heap.size, 0, none⟩) us.length us.length) us.length (bs.map ptrV ++ List.replicate (us.length - k) (Value.pointer none)) ∧ Hid (∀ j, j < k → wr.heap[bs.getD j 0]? = some (segRow (us.getD j s0V)) ∧ w.heap.size < bs.getD j 0 ∧ bs.getD j 0 < wr.heap.size) ∧ Hid (∀ i j, i < k → j < k → i ≠ j → bs.getD i 0 ≠ bs.getD j 0) ∧ Below w.heap.size w wr ∧ w.heap.size < wr.heap.size) (fun i _ => us.length - (intOf i).toNat)
 case atStart => exact ⟨0, [], Nat.zero_le _, rfl, rfl, hown0, zh (fun j hj => by omega), zh (fun i j hi => by omega), hbel1, (hown0.lt w.heap.size rfl).2⟩
 case round =>
  obtain ⟨k, bs, hk, rfl, hbs, hown, hrow, hdis, hbel, hsz⟩ := hrel
  clear hown0 hbel1
  by_cases hlt : k < us.length
  ·
   have i1 : (0 : Int) ≤ (k : Int) := by omega
   have i2 : (k : Int) < (us.length : Int) := by omega
   obtain ⟨b, off, cap', hv, hbl, c0, hle⟩ := lsR_at (lsR_below H.out hbel) hlt
   simp only [Value.slice.injEq] at hv
   obtain ⟨rfl, _, rfl⟩ := hv
   have hset := ptr_set (b := wr.heap.size) hbs hlt
   have r1 := (World.ownsRow.stored hown k (ptrV wr.heap.size)).1
   rw [hset] at r1
   have r2 := r1.alloc (.cells #[cutV (us.getD k s0V)] 289)
   have y0 : ∃ x, wr.cell? ⟨w.heap.size, k, none⟩ = some x := ⟨_, (World.ownsRow.cellAt hown k (by omega)).trans (List.getElem?_eq_getElem (by simp; omega))⟩
   obtain ⟨y, y0⟩ := y0
   have f0 := World.ownsRow.frozenAt hown k
   have tt : Turn (fun x => x = w.heap.size) wr (wr.setCell ⟨w.heap.size, k, none⟩ (ptrV wr.heap.size)) := turn_set (G := fun x => x = w.heap.size) (g := w.heap.size) (j := k) (u := ptrV wr.heap.size) rfl
   have hs0 : (wr.setCell ⟨w.heap.size, k, none⟩ (ptrV wr.heap.size)).heap.size = wr.heap.size := by simp [World.setCell]
   have hal : Below (wr.setCell ⟨w.heap.size, k, none⟩ (ptrV wr.heap.size)).heap.size (wr.setCell ⟨w.heap.size, k, none⟩ (ptrV wr.heap.size)) ((wr.setCell ⟨w.heap.size, k, none⟩ (ptrV wr.heap.size)).alloc (.cells #[cutV (us.getD k s0V)] 289)) := (Below.refl _ _).alloc (Nat.le_refl _) _
   have hnew : ((wr.setCell ⟨w.heap.size, k, none⟩ (ptrV wr.heap.size)).alloc (.cells #[cutV (us.getD k s0V)] 289)).heap[wr.heap.size]? = some (.cells #[cutV (us.getD k s0V)] 289 (0, 0)) := by
    have := heap_alloc_new (wr.setCell ⟨w.heap.size, k, none⟩ (ptrV wr.heap.size)) (.cells #[cutV (us.getD k s0V)] 289)
    rw [hs0] at this; exact this
   have hs1 : ((wr.setCell ⟨w.heap.size, k, none⟩ (ptrV wr.heap.size)).alloc (.cells #[cutV (us.getD k s0V)] 289)).heap.size = wr.heap.size + 1 := by rw [World.size_alloc, hs0]
   have R2 := zh r2
   have HROW : Hid (∀ j, j < k + 1 → ((wr.setCell ⟨w.heap.size, k, none⟩ (ptrV wr.heap.size)).alloc (.cells #[cutV (us.getD k s0V)] 289)).heap[(bs ++ [wr.heap.size]).getD j 0]? = some (segRow (us.getD j s0V)) ∧ w.heap.size < (bs ++ [wr.heap.size]).getD j 0 ∧ (bs ++ [wr.heap.size]).getD j 0 < ((wr.setCell ⟨w.heap.size, k, none⟩ (ptrV wr.heap.size)).alloc (.cells #[cutV (us.getD k s0V)] 289)).heap.size) := zh (fun j hj => by
    by_cases e : j = k
    ·
     rw [getD_app_eq (by omega), e]
     exact ⟨hnew, hsz, by omega⟩
    ·
     rw [getD_app_lt (by omega)]
     obtain ⟨g1, g2, g3⟩ := hrow.out j (by omega)
     exact ⟨(hal.block _ (by omega)).trans ((tt.block _ g3 (fun q => by omega)).trans g1), g2, by omega⟩)
   have HDIS : Hid (∀ i j, i < k + 1 → j < k + 1 → i ≠ j → (bs ++ [wr.heap.size]).getD i 0 ≠ (bs ++ [wr.heap.size]).getD j 0) := zh (fun i j hi hj hij => by
    by_cases e1 : i = k
    ·
     rw [getD_app_eq (by omega), getD_app_lt (by omega)]
     have := (hrow.out j (by omega)).2.2; omega
    ·
     by_cases e2 : j = k
     ·
      rw [getD_app_lt (by omega), getD_app_eq (by omega)]
      have := (hrow.out i (by omega)).2.2; omega
     ·
      rw [getD_app_lt (by omega), getD_app_lt (by omega)]
      exact hdis.out i j (by omega) (by omega) hij)
   have D2 : Hid (Below w.heap.size w ((wr.setCell ⟨w.heap.size, k, none⟩ (ptrV wr.heap.size)).alloc (.cells #[cutV (us.getD k s0V)] 289))) := zh ((below_turn hbel tt (fun x hx => by omega) (by omega)).trans (hal.mono (by omega)))
   have S2 : Hid (w.heap.size < ((wr.setCell ⟨w.heap.size, k, none⟩ (ptrV wr.heap.size)).alloc (.cells #[cutV (us.getD k s0V)] 289)).heap.size) := zh (by omega)
   have HBL : Hid ((bs ++ [wr.heap.size]).length = k + 1) := zh (by rw [List.length_append]; simp; omega)
   clear hset r1 r2 hal tt hnew hs0 hs1 hrow hdis hown hbel hbs
   generalize us.getD k s0V = u at *
   obtain ⟨ua, n, uc⟩ := u
   simp only [segV, cutV, ptrV] at *
   have j1 : (n : Int) ≤ (uc : Int) := by omega
   go_wp2
   go_roundw
   case rel => exact ⟨k + 1, _, by omega, by go_num, HBL.out, R2.out, HROW, HDIS, D2.out, S2.out⟩
   case measure => simp [intOf]; omega
  ·
   obtain rfl : k = us.length := by omega
   have HO := zh hown
   clear hown
   go_wp2
   go_ret
   have ho := HO.out
   refine ⟨w.heap.size, bs, rfl, by simpa using ho, ⟨Nat.le_refl _, hsz, hbs, fun j hj => ⟨?_, (hrow.out j hj).1, (hrow.out j hj).2.1⟩, hdis.out⟩, hbel⟩
   refine (World.ownsRow.cellAt ho j (by omega)).trans ?_
   rw [List.getElem?_append_left (by rw [List.length_map]; omega), List.getElem?_map]
   simp [List.getD, show j < bs.length by omega]
theorem tableOf_any (v : Value) (us : List SegV) (w : World) (h : LsR w v us) (hn : us.length ≤ 1048576) :
  Calls Tryz.prog 195 #[v] w (FreshTab w us) :=
 (tableOf_own v us w h hn).mono (by
  rintro e w1 ⟨g, bs, he, _, ht, hb⟩
  exact ⟨g, bs, he, ht, hb⟩)
theorem tabN_below {B : Nat} {w w' : World} {g : Nat} {bs : List Nat} {us : List SegV} (h : TabN B w g bs us) (hb : Below w.heap.size w w') : TabN B w' g bs us := by
 obtain ⟨h1, h2, h3, h4, h5⟩ := h
 refine ⟨h1, Nat.lt_of_lt_of_le h2 hb.size, h3, fun j hj => ?_, h5⟩
 obtain ⟨g1, g2, g3⟩ := h4 j hj
 exact ⟨(hb.cell (p := ⟨g, j, none⟩) h2).trans g1, (hb.block _ (Array.getElem?_eq_some_iff.1 g2).1).trans g2, g3⟩
theorem slR_cut {α : Type} {T : Ty α} {w : World} {a : Option Addr} {n c : Nat} {xs : List α} (h : SlR T w (.slice a n c) xs) : SlR T w (.slice a n n) xs ∧ n = xs.length ∧ n ≤ c := by
 rcases h with ⟨rfl, a', cap, e⟩ | ⟨b, off, cap, us, e, h2, h3, h4⟩
 ·
  simp only [Value.slice.injEq] at e
  obtain ⟨rfl, rfl, rfl⟩ := e
  exact ⟨Or.inl ⟨rfl, _, _, rfl⟩, rfl, Nat.zero_le _⟩
 ·
  simp only [Value.slice.injEq] at e
  obtain ⟨rfl, rfl, rfl⟩ := e
  exact ⟨Or.inr ⟨b, off, _, us, rfl, Nat.le_refl _, h3, h4⟩, rfl, h2⟩
/-- The segments as they are named by values. -/
def SegsR (w : World) (us : List SegV) (ss : List (List VerD)) : Prop := us.length = ss.length ∧ ∀ j, j < ss.length → SlR tVersion w (cutV (us.getD j s0V)) (ss.getD j []) ∧ (us.getD j s0V).2.1 = (ss.getD j []).length
theorem segsR_below {W w : World} {us : List SegV} {ss : List (List VerD)} (h : SegsR W us ss) (hb : Below W.heap.size W w) : SegsR w us ss := ⟨h.1, fun j hj => ⟨slR_below tVersion_law (h.2 j hj).1 hb, (h.2 j hj).2⟩⟩
theorem slR_ls {w : World} {v : Value} {ss : List (List VerD)} (h : SlR tVersionS w v ss) : ∃ us, LsR w v us ∧ SegsR w us ss := by
 rcases h with ⟨rfl, a, cap, rfl⟩ | ⟨b, off, cap, us, rfl, h2, h3, h4⟩
 ·
  exact ⟨[], ⟨Or.inl ⟨rfl, a, cap, rfl⟩, fun j hj => by simp at hj⟩, rfl, fun j hj => by simp at hj⟩
 ·
  haveI : Inhabited SegV := ⟨s0V⟩
  obtain ⟨f, hf⟩ := Go.Deep.choose_lt (α := SegV) (n := ss.length) (p := fun j u => w.cell? ⟨b, off + j, none⟩ = some (segV u) ∧ SlR tVersion w (cutV u) (ss.getD j []) ∧ u.2.1 = (ss.getD j []).length ∧ u.2.1 ≤ u.2.2) (fun j hj => by
   obtain ⟨hc, hR⟩ := h4 j hj
   obtain ⟨v, e, hv⟩ := hR
   have h0 := hc 0 (by decide)
   rw [show tVersionS.n = 1 from rfl, Nat.mul_one, Nat.add_zero, e] at h0
   obtain ⟨a, c, rfl⟩ := slR_len hv
   obtain ⟨k1, k2, k3⟩ := slR_cut hv
   exact ⟨(a, (ss.getD j []).length, c), h0, k1, rfl, k3⟩)
  have hg : ∀ j, j < ss.length → ((List.range ss.length).map f).getD j s0V = f j := fun j hj => by simp [List.getD, hj]
  refine ⟨(List.range ss.length).map f, ⟨Or.inr ⟨b, off, cap, fun j => [segV (f j)], by simp, by simpa using h2, h3, fun j hj => ?_⟩, fun j hj => ?_⟩, by simp, fun j hj => ?_⟩
  ·
   have hj' : j < ss.length := by simpa using hj
   refine ⟨fun i hi => ?_, ?_⟩
   ·
    have hi0 : i = 0 := by have : i < 1 := hi; omega
    subst hi0
    rw [show (tRaw 1).n = 1 from rfl, Nat.mul_one, Nat.add_zero]
    exact (hf j hj').1
   ·
    have e : (((List.range ss.length).map f).map (fun u => [segV u])).getD j (tRaw 1).d = [segV (f j)] := by simp [List.getD, hj']
    rw [e]
    exact ⟨rfl, rfl, fun u hu => by simp at hu; subst hu; rfl⟩
  ·
   have hj' : j < ss.length := by simpa using hj
   rw [hg j hj']; exact (hf j hj').2.2.2
  ·
   rw [hg j hj]; exact ⟨(hf j hj).2.1, (hf j hj).2.2.1⟩
def possP (ss : List (List VerD)) (now : Int) : Prop := ShortP ss ss.length ∧ VersP ss.flatten now ss.flatten.length
instance (ss : List (List VerD)) (now : Int) : Decidable (possP ss now) := by unfold possP; infer_instance
def possB (ss : List (List VerD)) (now : Int) : Bool := decide (possP ss now)
theorem poss_short {ss : List (List VerD)} {now : Int} {i : Nat} (hi : i < ss.length) (h : ¬ (ss.getD i []).length ≤ 4) : possB ss now = false := decide_eq_false (fun g => h (g.1 i hi))
theorem poss_ver {ss : List (List VerD)} {now : Int} {i : Nat} (hi : i < ss.flatten.length) (h : verB (ss.flatten.getD i v0D) now = false) : possB ss now = false := decide_eq_false (fun g => by
 have := (g.2 i hi).1; rw [h] at this; cases this)
theorem take_get {l : List VerD} {i j : Nat} (h : j < (l.take i).length) : (l.take i)[j] = l.getD j v0D := by
 have h2 : j < i ∧ j < l.length := by rw [List.length_take] at h; omega
 simp [List.getD, h2.1, h2.2]
/-- One that is seen with an earlier one: the store is not possible. -/
theorem poss_seen {ss : List (List VerD)} {now : Int} {i : Nat} (hv : VersP ss.flatten now i) (hi : i < ss.flatten.length) (h1 : verB (ss.flatten.getD i v0D) now = true) (h : anyB (ss.flatten.getD i v0D) (ss.flatten.take i) = true) : possB ss now = false := decide_eq_false (fun g => by
 unfold anyB at h
 rw [List.any_eq_true] at h
 obtain ⟨y, hy, hs⟩ := h
 obtain ⟨j, hj, rfl⟩ := List.getElem_of_mem hy
 have hji : j < i := by rw [List.length_take] at hj; omega
 have e : (ss.flatten.take i)[j] = ss.flatten.getD j v0D := take_get hj
 rw [e, seenB_apart h1 (hv j hji).1, (g.2 i hi).2 j hji] at hs
 cases hs)
theorem poss_step {ss : List (List VerD)} {now : Int} {i : Nat} (hv : VersP ss.flatten now i) (hi : i < ss.flatten.length) (h1 : verB (ss.flatten.getD i v0D) now = true) (h : anyB (ss.flatten.getD i v0D) (ss.flatten.take i) = false) : VersP ss.flatten now (i + 1) := by
 refine vers_step hv h1 (fun k hk => ?_)
 unfold anyB at h
 rw [List.any_eq_false] at h
 have hkl : k < (ss.flatten.take i).length := by rw [List.length_take]; omega
 have := h _ (List.getElem_mem hkl)
 have e : (ss.flatten.take i)[k] = ss.flatten.getD k v0D := take_get hkl
 rw [e, seenB_apart h1 (hv k hk).1] at this
 simpa using this
theorem poss_yes {ss : List (List VerD)} {now : Int} (h1 : ShortP ss ss.length) (h2 : VersP ss.flatten now ss.flatten.length) : possB ss now = true := decide_eq_true ⟨h1, h2⟩
theorem store_poss (ss : List (List VerD)) (now : Int) : storeB ss now = (decide (1 ≤ (ss.length : Int) ∧ (ss.length : Int) ≤ 8) && decide (0 ≤ now ∧ now ≤ 100000) && possB ss now) := by
 unfold storeB possB
 by_cases h1 : 1 ≤ ss.length ∧ ss.length ≤ 8
 ·
  by_cases h2 : 0 ≤ now ∧ now ≤ 100000
  ·
   rw [decide_eq_true (show 1 ≤ (ss.length : Int) ∧ (ss.length : Int) ≤ 8 by omega), decide_eq_true h2]
   by_cases h3 : possP ss now
   ·
    rw [decide_eq_true h3, decide_eq_true ⟨⟨h1, h2⟩, h3⟩]; rfl
   ·
    rw [decide_eq_false h3, decide_eq_false (fun g => h3 g.2)]; rfl
  ·
   rw [decide_eq_false h2, decide_eq_false (fun g => h2 g.1.2), Bool.and_false]; rfl
 ·
  rw [decide_eq_false (show ¬ (1 ≤ (ss.length : Int) ∧ (ss.length : Int) ≤ 8) by omega), decide_eq_false (fun g => h1 g.1.1)]; rfl
theorem cat_take (ss : List (List VerD)) (k : Nat) : ss.flatten.take (cat ss k).length = cat ss k := by
 unfold cat
 have e : ss.flatten = (ss.take k).flatten ++ (ss.drop k).flatten := by rw [← List.flatten_append, List.take_append_drop]
 rw [e, List.take_left]
set_option maxHeartbeats 16000000 in
theorem isPossible_any (B g : Nat) (bs : List Nat) (us : List SegV) (ss : List (List VerD)) (now : Int) (w : World) (ht : TabN B w g bs us) (hr : SegsR w us ss) (hs : zL tVersionS ss ≤ 1048576) :
  Calls Tryz.prog 196 #[.slice (some ⟨g, 0, none⟩) us.length us.length, .int .i64 now] w (fun e w' => e = .returned (.bool (possB ss now)) ∧ Below w.heap.size w w') := by
 have hlen := zL_len hs
 have HZF : Hid (zL tVersion ss.flatten ≤ 1048576) := zh (by have := zL_all ss; omega)
 have HFL := zh (zL_len HZF.out)
 have HS := zh hs
 have hul := hr.1
 have HR := zh hr
 have HT := zh ht
 rw [hul]
 have HUL := zh hul
 clear ht hr hs hul
 go_enter Tryz.func196, Tryz.ntmps196
 go_wp2
 go_loopw [5, 12] (fun o i wr => ∃ (k : Nat) (L : List (List Value)), k ≤ ss.length ∧ i = .int .i64 k ∧ SlO 212 (tRaw 4) wr (since w) o L ∧ Hid (Sh tVersion w L (cat ss k)) ∧ Hid (ShortP ss k) ∧ Hid (VersP ss.flatten now (cat ss k).length) ∧ Below w.heap.size w wr) (fun _ i _ => ss.length - (intOf i).toNat)
 case atStart => exact ⟨0, [], Nat.zero_le _, rfl, slO_nil _ _ _ _, zh (by rw [cat_zero]; exact sh_nil w), zh (fun j hj => by omega), zh (by rw [cat_zero]; exact fun j hj => by simp at hj), Below.refl _ _⟩
 case round =>
  obtain ⟨k, L, hk, rfl, hown, hsh, hshort, hvers, hbel⟩ := hrel
  obtain ⟨oa, oc, rfl⟩ := slO_len hown
  by_cases hlt : k < ss.length
  ·
   have i1 : (0 : Int) ≤ (k : Int) := by omega
   have i2 : (k : Int) < (ss.length : Int) := by omega
   obtain ⟨_, tg, tl, trow, _⟩ := tabN_below HT.out hbel
   obtain ⟨r0, r1, _⟩ := trow k (by have := HUL.out; omega)
   obtain ⟨s1, s2⟩ := HR.out.2 k hlt
   have HSM := zh (zL_seg hlt)
   have HCI := zh (fun j hj => cat_in (ss := ss) (k := k) (j := j) hlt hj)
   have HCL := zh (cat_len hlt)
   have HCF := zh (cat_le ss (k + 1))
   have HNS := zh (fun h => poss_short (ss := ss) (now := now) hlt h)
   have HYS : Hid ((ss.getD k []).length ≤ 4 → ShortP ss (k + 1)) := zh (fun g j hj => by
    by_cases e : j = k
    ·
     rw [e]; exact g
    ·
     exact hshort.out j (by omega))
   have HVS := hvers
   have HSH := hsh
   have HOW := zh hown
   have HB := zh hbel
   clear trow tg tl hown hbel hshort hvers hsh
   generalize us.getD k s0V = u at *
   generalize bs.getD k 0 = pb at *
   obtain ⟨ua, m0, uc⟩ := u
   simp only at s2
   subst s2
   have p1 := cr 0 (Value.slice ua (ss.getD k []).length (ss.getD k []).length) r1
   have P1 := zh p1
   have RS : Hid (SlR tVersion w (.slice ua (ss.getD k []).length (ss.getD k []).length) (ss.getD k [])) := zh s1
   have RR := zh r0
   unfold ptrV at r0
   clear s1 r1
   have HML : Hid ((ss.getD k []).length ≤ 1048576) := zh (zL_len (T := tVersion) (Nat.le_trans HSM.out HS.out))
   generalize ss.getD k [] = seg at *
   obtain ⟨m, hm⟩ : ∃ m, m = seg.length := ⟨_, rfl⟩
   have HM := zh hm
   rw [← hm] at p1 P1 RS HCL HML HNS HYS
   clear hm
   by_cases h4 : m ≤ 4
   rotate_left
   ·
    have HF := zh (HNS.out h4)
    have h5 : (4 : Int) < (m : Int) := by omega
    clear HNS HYS
    go_wp2
    go_ret
    exact ⟨ret_b HF.out.symm, HB.out⟩
   have HSK := zh (HYS.out h4)
   have h5 : ¬ (4 : Int) < (m : Int) := by omega
   clear HNS HYS
   go_wp2
   clear r0 p1 h5
   go_loopw [5, 27] (fun o i wi => ∃ (j : Nat) (L : List (List Value)), j ≤ m ∧ i = .int .i64 j ∧ SlO 212 (tRaw 4) wi (since w) o L ∧ Hid (Sh tVersion w L (ss.flatten.take ((cat ss k).length + j))) ∧ Hid (VersP ss.flatten now ((cat ss k).length + j)) ∧ Below w.heap.size w wi) (fun _ i _ => m - (intOf i).toNat)
   case atStart => exact ⟨0, L, Nat.zero_le _, rfl, HOW.out, zh (by rw [Nat.add_zero, cat_take]; exact HSH.out), zh (by rw [Nat.add_zero]; exact HVS.out), HB.out⟩
   case round =>
    obtain ⟨j, L2, hj, rfl, hown, hsh, hvers, hbel⟩ := hrel
    clear HOW HSH HVS HB
    obtain ⟨oa2, oc2, rfl⟩ := slO_len hown
    by_cases hjl : j < m
    ·
     have j1 : (0 : Int) ≤ (j : Int) := by omega
     have j2 : (j : Int) < (m : Int) := by omega
     have hjs : j < seg.length := by have := HM.out; omega
     obtain ⟨b, off, cap', xa, xc, hv, hbl, c0, c1, c2, c3, hx⟩ := verR_at RS.out hjs
     simp only [Value.slice.injEq] at hv
     obtain ⟨rfl, hm1, hm2⟩ := hv
     clear hm1 hm2
     have hif : (cat ss k).length + j < ss.flatten.length := by have := HCL.out; have := HCF.out; omega
     have hci := HCI.out j hjs
     have HXL := zh (ver_len (l := ss.flatten) HZF.out hif)
     have HNV := zh (fun q => poss_ver (ss := ss) (now := now) hif q)
     have HNA := zh (fun q r => poss_seen (ss := ss) (now := now) hvers.out hif q r)
     have HST := zh (fun q r => poss_step (ss := ss) (now := now) hvers.out hif q r)
     have HTK := zh (take_getD hif)
     rw [hci] at HXL HNV HNA HST HTK
     have HLL : Hid (L2.length ≤ 1048576 ∧ (ss.flatten.take ((cat ss k).length + j)).length ≤ 1048576) := zh (by
      have h1 := sh_len hsh.out; have h2 := HFL.out; rw [List.length_take] at h1 ⊢; omega)
     clear hci hif hvers
     generalize seg.getD j v0D = x at *
     obtain ⟨id, xs, born, died⟩ := x
     simp only at c0 c1 c2 c3 HXL
     have e0 := (hbel.cell (p := ⟨b, off + j * 4, none⟩) hbl).trans c0
     have e1 := (hbel.cell (p := ⟨b, off + j * 4 + 1, none⟩) hbl).trans c1
     have e2 := (hbel.cell (p := ⟨b, off + j * 4 + 2, none⟩) hbl).trans c2
     have e3 := (hbel.cell (p := ⟨b, off + j * 4 + 3, none⟩) hbl).trans c3
     have hal : Below wr.heap.size wr (wr.alloc (.cells #[.int .i64 id, .slice xa xs.length xc, .int .i64 born, .int .i64 died] 212)) := (Below.refl _ _).alloc (Nat.le_refl _) _
     have BV : Hid ((wr.alloc (.cells #[.int .i64 id, .slice xa xs.length xc, .int .i64 born, .int .i64 died] 212)).heap[wr.heap.size]? = some (.cells #[.int .i64 id, .slice xa xs.length xc, .int .i64 born, .int .i64 died] 212 (0, 0))) := zh (heap_alloc_new wr _)
     have YV : Hid (wr.heap.size < (wr.alloc (.cells #[.int .i64 id, .slice xa xs.length xc, .int .i64 born, .int .i64 died] 212)).heap.size) := zh (by simp [World.size_alloc])
     have PF := zh (slO_fresh (tRaw_law (by decide)) (slO_lt (tRaw_law (by decide)) hown) hal)
     have d := zh (hbel.trans (hal.mono hbel.size))
     have DZ := zh hbel.size
     have HX : Hid (Ints w (.slice xa xs.length xc) xs) := zh hx
     have HSH := hsh
     have HIV := zh (fun W h => isVersion_any id born died now (.slice xa xs.length xc) xs W h HXL.out)
     clear hown hbel hal hx c0 c1 c2 c3 hbl hsh
     cases hver : verB (id, xs, born, died) now with
     | false =>
      have HF := zh (HNV.out hver)
      rw [hver] at HIV
      clear hver HNV HNA HST
      go_wp2_with fail
      clear e0 e1 e2 e3
      generalize wr.alloc (.cells #[.int .i64 id, .slice xa xs.length xc, .int .i64 born, .int .i64 died] 212) = W1 at *
      refine (HIV.out W1 (ints_below HX.out d.out)).mono ?_
      rintro e w2 ⟨rfl, b2⟩
      have d2 := d.out.trans (b2.mono d.out.size)
      go_wp2
      go_ret
      exact ⟨ret_b HF.out.symm, d2⟩
     | true =>
      have HNA2 := zh (fun r => HNA.out hver r)
      have HST2 := zh (fun r => HST.out hver r)
      rw [hver] at HIV
      clear hver HNV HNA HST
      go_wp2_with fail
      clear e0 e1 e2 e3
      generalize wr.alloc (.cells #[.int .i64 id, .slice xa xs.length xc, .int .i64 born, .int .i64 died] 212) = W1 at *
      refine (HIV.out W1 (ints_below HX.out d.out)).mono ?_
      rintro e w2 ⟨rfl, b2⟩
      have kv := (b2.block wr.heap.size YV.out).trans BV.out
      have p0 := cr 0 (Value.int .i64 id) kv
      have p1 := cr 1 (Value.slice xa xs.length xc) kv
      have p2 := cr 2 (Value.int .i64 born) kv
      have p3 := cr 3 (Value.int .i64 died) kv
      have KV := zh kv
      have PF2 := zh (slO_fresh (tRaw_law (by decide)) PF.out b2)
      have d2 := zh (d.out.trans (b2.mono d.out.size))
      have Z2 := zh (Nat.lt_of_lt_of_le YV.out b2.size)
      have HO := zh (raw_reads (T := tVersion) (by decide) PF2.out (sh_below tVersion_law HSH.out d2.out))
      have HCS := zh (fun W h => containsSeen (.slice oa2 L2.length oc2) (ss.flatten.take ((cat ss k).length + j)) id born died xs xa xs.length xc W h HLL.out.2)
      clear PF d b2 kv
      cases hany : anyB (id, xs, born, died) (ss.flatten.take ((cat ss k).length + j)) with
      | true =>
       have HF := zh (HNA2.out hany)
       rw [hany] at HCS
       clear hany HNA2 HST2
       go_wp2_with fail
       refine (HCS.out w2 HO.out).mono ?_
       rintro e w3 ⟨rfl, b3⟩
       have d3 := d2.out.trans (b3.mono d2.out.size)
       clear p0 p1 p2 p3
       go_wp2
       go_ret
       exact ⟨ret_b HF.out.symm, d3⟩
      | false =>
       have HV2 := zh (HST2.out hany)
       rw [hany] at HCS
       clear hany HNA2 HST2
       go_wp2_with fail
       refine (HCS.out w2 HO.out).mono ?_
       rintro e w3 ⟨rfl, b3⟩
       have kv := (b3.block wr.heap.size Z2.out).trans KV.out
       clear p0 p1 p2 p3
       have p0 := cr 0 (Value.int .i64 id) kv
       have p1 := cr 1 (Value.slice xa xs.length xc) kv
       have p2 := cr 2 (Value.int .i64 born) kv
       have p3 := cr 3 (Value.int .i64 died) kv
       have PF3 := zh (slO_fresh (tRaw_law (by decide)) PF2.out b3)
       have d3 := zh (d2.out.trans (b3.mono d2.out.size))
       have Z3 := zh (Nat.le_trans (Nat.le_of_lt Z2.out) b3.size)
       have ON : Hid ((tRaw 4).O w3 (fun b => wr.heap.size ≤ b) [.int .i64 id, .slice xa xs.length xc, .int .i64 born, .int .i64 died] [.int .i64 id, .slice xa xs.length xc, .int .i64 born, .int .i64 died]) := zh ⟨rfl, rfl, by simp [Value.oneCell']⟩
       clear PF2 d2 b3 kv KV HO
       go_wp2_with (at_builtin; refine append_T (tRaw_law (by decide)) info_R_Version Tryz.underlying213 rfl rfl (.tmp 41) (.tmp 43) rfl (since w) wr.heap.size _ L2 rfl PF3.out Z3.out (fun b hb => Nat.le_trans DZ.out hb) HLL.out.1 [.int .i64 id, .slice xa xs.length xc, .int .i64 born, .int .i64 died] [.int .i64 id, .slice xa xs.length xc, .int .i64 born, .int .i64 died] ON.out (by simp [Value.oneCell']) 1 _ rfl rfl ?_)
       intro v' w4 o4 t4
       have d4 := zh (below_turn d3.out t4 (fun b hb => hb.1) d3.out.size)
       have SH : Hid (Sh tVersion w (L2 ++ [[.int .i64 id, .slice xa xs.length xc, .int .i64 born, .int .i64 died]]) (ss.flatten.take ((cat ss k).length + (j + 1)))) := zh (by rw [← Nat.add_assoc, HTK.out]; exact sh_app HSH.out (sh_one (tVersion_mkR (ints_slR HX.out))))
       have O4 := zh o4
       clear PF3 d3 t4 o4 p0 p1 p2 p3
       go_wp2
       go_roundw
       case rel => exact ⟨j + 1, _, by omega, by go_num, O4.out, SH, HV2, d4.out⟩
       case measure => simp [intOf]; omega
    ·
     obtain rfl : j = m := by omega
     have SH : Hid (Sh tVersion w L2 (cat ss (k + 1))) := zh (by have := hsh.out; rw [← HCL.out, cat_take] at this; exact this)
     have HV2 : Hid (VersP ss.flatten now (cat ss (k + 1)).length) := zh (by rw [HCL.out]; exact hvers.out)
     have O2 := zh hown
     have HB := zh hbel
     clear hsh hvers hown hbel
     go_wp2
     go_roundw
     case rel => exact ⟨k + 1, L2, by omega, by go_num, O2.out, SH, HSK, HV2, HB.out⟩
     case measure => simp [intOf]; omega
  ·
   obtain rfl : k = ss.length := by omega
   have HY := zh (poss_yes hshort.out (by have := hvers.out; rw [cat_all] at this; exact this))
   clear hsh hshort hvers
   go_wp2
   go_ret
   exact ⟨ret_b HY.out.symm, hbel⟩
set_option maxHeartbeats 8000000 in
theorem implIsStore (sv : Value) (ss : List (List VerD)) (now : Int) (w : World) (h : SlR tVersionS w sv ss) (hs : zL tVersionS ss ≤ 1048576) :
  Calls Tryz.prog 131 #[.agg #[sv, .int .i64 now]] w (fun e w' => e = .returned (.bool (storeB ss now)) ∧ Below w.heap.size w w') := by
 obtain ⟨us, hls, hsr⟩ := slR_ls h
 have HUL := zh hsr.1
 obtain ⟨a, cap, rfl⟩ := slR_len h
 have hlen := zL_len hs
 have HSS := zh hs
 have H := zh h
 have HLS := zh hls
 have HSR := zh hsr
 have d0 := zh (show Below w.heap.size w (w.alloc (.cells #[.slice a ss.length cap, .int .i64 now] 35)) from (Below.refl _ _).alloc (Nat.le_refl _) _)
 have B0 : Hid ((w.alloc (.cells #[.slice a ss.length cap, .int .i64 now] 35)).heap[w.heap.size]? = some (.cells #[.slice a ss.length cap, .int .i64 now] 35 (0, 0))) := zh (heap_alloc_new w _)
 have Y0 : Hid (w.heap.size < (w.alloc (.cells #[.slice a ss.length cap, .int .i64 now] 35)).heap.size) := zh (by simp [World.size_alloc])
 clear hls hsr h hs
 rw [store_poss]
 have HC1 := zh (isSegmentCount_any (ss.length : Int))
 have HC2 := zh (isTime_any now)
 have HPS : Hid (∀ (B g : Nat) (bs : List Nat) (W : World), TabN B W g bs us → SegsR W us ss → Calls Tryz.prog 196 #[.slice (some ⟨g, 0, none⟩) us.length us.length, .int .i64 now] W (fun e w' => e = .returned (.bool (possB ss now)) ∧ Below W.heap.size W w')) := zh (fun B g bs W h1 h2 => isPossible_any B g bs us ss now W h1 h2 HSS.out)
 have HTB := zh (fun W h => tableOf_any (.slice a ss.length cap) us W h (by have := HUL.out; omega))
 generalize possB ss now = pb at *
 have B1 := B0
 have d := d0
 cases hc1 : decide (1 ≤ (ss.length : Int) ∧ (ss.length : Int) ≤ 8) with
 | false =>
  rw [hc1] at HC1
  rw [Bool.false_and, Bool.false_and]
  clear hc1
  go_enter Tryz.func131, Tryz.ntmps131
  go_wp2
  generalize w.alloc (.cells #[.slice a ss.length cap, .int .i64 now] 35) = W at *
  have cp_B0_0 := cls2 B0.out
  refine wp_region_held_drew (S := fun w' => w'.cell? ⟨w.heap.size, 0, none⟩ = some (Value.slice a ss.length cap) ∧ w'.cell? ⟨w.heap.size, 1, none⟩ = some (Value.int .i64 now)) (by kernel_rfl) cp_B0_0 (fun hHeld => ?_)
  clear cp_B0_0
  have cdr : Below W.heap.size W W.drew := below_drew (Below.refl _ _)
  replace B0 := zb cdr B0
  replace d := zD d cdr
  clear cdr
  refine tQ (i := 0) ?_
  try simp only [Act.put, lA, lB, lC]
  refine tQ (i := 1) ?_
  try simp only [Act.put, lA, lB, lC]
  refine tQ (i := 2) ?_
  try simp only [Act.put, lA, lB, lC]
  refine rA 3 (fun K hK => ?_)
  go_simp
  refine (HC1.out (W.drew)).mono ?_
  rintro e wx ⟨rfl, rfl⟩
  refine hK.out _ _ (cls2 B0.out) (fun hHeld => ?_)
  clear hK K
  try simp only [Act.put, lA, lB, lC]
  refine tQ (i := 4) ?_
  try simp only [Act.put, lA, lB, lC]
  refine tO (i := 5) ?_
  try simp only [Act.put, lA, lB, lC]
  refine tO (i := 6) ?_
  try simp only [Act.put, lA, lB, lC]
  refine tO (i := 7) ?_
  try simp only [Act.put, lA, lB, lC]
  refine tQ (i := 8) ?_
  try simp only [Act.put, lA, lB, lC]
  refine tQ (i := 9) ?_
  try simp only [Act.put, lA, lB, lC]
  refine tO (i := 10) ?_
  try simp only [Act.put, lA, lB, lC]
  refine tO (i := 11) ?_
  try simp only [Act.put, lA, lB, lC]
  refine tO (i := 12) ?_
  try simp only [Act.put, lA, lB, lC]
  refine tO (i := 13) ?_
  try simp only [Act.put, lA, lB, lC]
  refine tO (i := 14) ?_
  try simp only [Act.put, lA, lB, lC]
  refine tO (i := 15) ?_
  try simp only [Act.put, lA, lB, lC]
  refine tQ (i := 16) ?_
  try simp only [Act.put, lA, lB, lC]
  refine tQ (i := 17) ?_
  try simp only [Act.put, lA, lB, lC]
  refine wpAnyH_done (by kernel_rfl) ?_ _
  clear hHeld
  go_wp2
  go_ret
  exact ⟨rfl, d.out⟩
 | true =>
  rw [hc1] at HC1
  rw [Bool.true_and]
  clear hc1
  cases hc2 : decide (0 ≤ now ∧ now ≤ 100000) with
  | false =>
   rw [hc2] at HC2
   rw [Bool.false_and]
   clear hc2
   go_enter Tryz.func131, Tryz.ntmps131
   go_wp2
   generalize w.alloc (.cells #[.slice a ss.length cap, .int .i64 now] 35) = W at *
   have cp_B0_0 := cls2 B0.out
   refine wp_region_held_drew (S := fun w' => w'.cell? ⟨w.heap.size, 0, none⟩ = some (Value.slice a ss.length cap) ∧ w'.cell? ⟨w.heap.size, 1, none⟩ = some (Value.int .i64 now)) (by kernel_rfl) cp_B0_0 (fun hHeld => ?_)
   clear cp_B0_0
   have cdr : Below W.heap.size W W.drew := below_drew (Below.refl _ _)
   replace B0 := zb cdr B0
   replace d := zD d cdr
   clear cdr
   refine tQ (i := 0) ?_
   try simp only [Act.put, lA, lB, lC]
   refine tQ (i := 1) ?_
   try simp only [Act.put, lA, lB, lC]
   refine tQ (i := 2) ?_
   try simp only [Act.put, lA, lB, lC]
   refine rA 3 (fun K hK => ?_)
   go_simp
   refine (HC1.out (W.drew)).mono ?_
   rintro e wx ⟨rfl, rfl⟩
   refine hK.out _ _ (cls2 B0.out) (fun hHeld => ?_)
   clear hK K
   try simp only [Act.put, lA, lB, lC]
   refine tQ (i := 4) ?_
   try simp only [Act.put, lA, lB, lC]
   refine tQ (i := 5) ?_
   try simp only [Act.put, lA, lB, lC]
   refine tQ (i := 6) ?_
   try simp only [Act.put, lA, lB, lC]
   refine rA 7 (fun K hK => ?_)
   go_simp
   refine (HC2.out (W.drew)).mono ?_
   rintro e wx ⟨rfl, rfl⟩
   refine hK.out _ _ (cls2 B0.out) (fun hHeld => ?_)
   clear hK K
   try simp only [Act.put, lA, lB, lC]
   refine tQ (i := 8) ?_
   try simp only [Act.put, lA, lB, lC]
   refine tQ (i := 9) ?_
   try simp only [Act.put, lA, lB, lC]
   refine tO (i := 10) ?_
   try simp only [Act.put, lA, lB, lC]
   refine tO (i := 11) ?_
   try simp only [Act.put, lA, lB, lC]
   refine tO (i := 12) ?_
   try simp only [Act.put, lA, lB, lC]
   refine tO (i := 13) ?_
   try simp only [Act.put, lA, lB, lC]
   refine tO (i := 14) ?_
   try simp only [Act.put, lA, lB, lC]
   refine tO (i := 15) ?_
   try simp only [Act.put, lA, lB, lC]
   refine tQ (i := 16) ?_
   try simp only [Act.put, lA, lB, lC]
   refine tQ (i := 17) ?_
   try simp only [Act.put, lA, lB, lC]
   refine wpAnyH_done (by kernel_rfl) ?_ _
   clear hHeld
   go_wp2
   go_ret
   exact ⟨rfl, d.out⟩
  | true =>
   rw [hc2] at HC2
   rw [Bool.true_and]
   clear hc2
   go_enter Tryz.func131, Tryz.ntmps131
   go_wp2
   generalize w.alloc (.cells #[.slice a ss.length cap, .int .i64 now] 35) = W at *
   have cp_B0_0 := cls2 B0.out
   refine wp_region_held_drew (S := fun w' => w'.cell? ⟨w.heap.size, 0, none⟩ = some (Value.slice a ss.length cap) ∧ w'.cell? ⟨w.heap.size, 1, none⟩ = some (Value.int .i64 now)) (by kernel_rfl) cp_B0_0 (fun hHeld => ?_)
   clear cp_B0_0
   have cdr : Below W.heap.size W W.drew := below_drew (Below.refl _ _)
   replace B0 := zb cdr B0
   replace d := zD d cdr
   clear cdr
   refine tQ (i := 0) ?_
   try simp only [Act.put, lA, lB, lC]
   refine tQ (i := 1) ?_
   try simp only [Act.put, lA, lB, lC]
   refine tQ (i := 2) ?_
   try simp only [Act.put, lA, lB, lC]
   refine rA 3 (fun K hK => ?_)
   go_simp
   refine (HC1.out (W.drew)).mono ?_
   rintro e wx ⟨rfl, rfl⟩
   refine hK.out _ _ (cls2 B0.out) (fun hHeld => ?_)
   clear hK K
   try simp only [Act.put, lA, lB, lC]
   refine tQ (i := 4) ?_
   try simp only [Act.put, lA, lB, lC]
   refine tQ (i := 5) ?_
   try simp only [Act.put, lA, lB, lC]
   refine tQ (i := 6) ?_
   try simp only [Act.put, lA, lB, lC]
   refine rA 7 (fun K hK => ?_)
   go_simp
   refine (HC2.out (W.drew)).mono ?_
   rintro e wx ⟨rfl, rfl⟩
   refine hK.out _ _ (cls2 B0.out) (fun hHeld => ?_)
   clear hK K
   try simp only [Act.put, lA, lB, lC]
   refine tQ (i := 8) ?_
   try simp only [Act.put, lA, lB, lC]
   refine tQ (i := 9) ?_
   try simp only [Act.put, lA, lB, lC]
   refine tQ (i := 10) ?_
   try simp only [Act.put, lA, lB, lC]
   refine tQ (i := 11) ?_
   try simp only [Act.put, lA, lB, lC]
   refine tQ (i := 13) ?_
   try simp only [Act.put, lA, lB, lC]
   refine tQ (i := 14) ?_
   try simp only [Act.put, lA, lB, lC]
   refine rA 12 (fun K hK => ?_)
   go_simp
   refine (HTB.out (W.drew) (lsR_below HLS.out d.out)).mono ?_
   rintro e w5 ⟨g, bs, rfl, ht, c5⟩
   have HT5 := zh ht
   replace B0 := zb c5 B0
   replace d := zD d c5
   have Z_w5 := zh (show W.heap.size ≤ w5.heap.size from c5.size)
   clear c5 ht
   refine hK.out _ _ (cls2 B0.out) (fun hHeld => ?_)
   clear hK K
   try simp only [Act.put, lA, lB, lC]
   refine rA 15 (fun K hK => ?_)
   go_simp
   refine (HPS.out _ g bs w5 HT5.out (segsR_below HSR.out d.out)).mono ?_
   rintro e w6 ⟨rfl, c6⟩
   replace B0 := zb c6 B0
   replace d := zD d c6
   have Z_w6 := zh (show w5.heap.size ≤ w6.heap.size from c6.size)
   clear c6
   refine hK.out _ _ (cls2 B0.out) (fun hHeld => ?_)
   clear hK K
   try simp only [Act.put, lA, lB, lC]
   refine tQ (i := 16) ?_
   try simp only [Act.put, lA, lB, lC]
   refine tQ (i := 17) ?_
   try simp only [Act.put, lA, lB, lC]
   refine wpAnyH_done (by kernel_rfl) ?_ _
   clear hHeld
   go_wp2
   go_ret
   exact ⟨rfl, d.out⟩
theorem order_mem {os : List Int} (h : orderB os = true) (f : Int) : f ∈ os ↔ f = 0 ∨ f = 1 ∨ f = 2 := by
 unfold orderB at h
 rw [Bool.and_eq_true, List.all_eq_true, decide_eq_true_eq] at h
 obtain ⟨hl, ha⟩ := h
 match os, hl with
 | [a, b, c], _ =>
  have h0 := ha 0 (List.mem_range.2 (by simp))
  have h1 := ha 1 (List.mem_range.2 (by simp))
  have h2 := ha 2 (List.mem_range.2 (by simp))
  simp at h0 h1 h2
  simp
  omega
theorem order_len {os : List Int} (h : orderB os = true) : os.length = 3 := by
 unfold orderB at h
 rw [Bool.and_eq_true, decide_eq_true_eq] at h
 exact h.1
theorem order_in {os : List Int} : orderB os = true ↔ os ∈ ordersL := by
 constructor
 ·
  intro h
  have hl := order_len h
  have hm := order_mem h
  match os, hl with
  | [a, b, c], _ =>
   have h2 := h
   unfold orderB at h2
   rw [Bool.and_eq_true, List.all_eq_true, decide_eq_true_eq] at h2
   have e0 := h2.2 0 (List.mem_range.2 (by simp))
   have e1 := h2.2 1 (List.mem_range.2 (by simp))
   have e2 := h2.2 2 (List.mem_range.2 (by simp))
   simp at e0 e1 e2
   have ha : a = 0 ∨ a = 1 ∨ a = 2 := by omega
   have hb : b = 0 ∨ b = 1 ∨ b = 2 := by omega
   have hc : c = 0 ∨ c = 1 ∨ c = 2 := by omega
   rcases ha with rfl | rfl | rfl <;> rcases hb with rfl | rfl | rfl <;> rcases hc with rfl | rfl | rfl <;> simp_all [ordersL]
 ·
  intro h
  simp only [ordersL, List.mem_cons, List.not_mem_nil, or_false] at h
  rcases h with rfl | rfl | rfl | rfl | rfl | rfl <;> decide
end Go.Proofs.YtnepfacnmaoieaaGreatDoor
