/-
 Texts of the proof, merged: EngP3, SpansMath, MatchSpec, IdxMath2, ProbeMath, OrdP, EngP4, EngP1, CanWo.
-/
import Derived.Test.YtnepfacnmaoieaaGreatDoorCA1
import Derived.Test.YtnepfacnmaoieaaGreatDoorCA2
import Derived.Test.YtnepfacnmaoieaaGreatDoorCA3
import Derived.Test.YtnepfacnmaoieaaGreatDoorCA5
import Derived.Test.YtnepfacnmaoieaaGreatDoorCA6
import Derived.Test.YtnepfacnmaoieaaGreatDoorCA12
import Derived.Test.YtnepfacnmaoieaaGreatDoorCA16
import Derived.Test.YtnepfacnmaoieaaGreatDoorCA17
import Derived.Test.YtnepfacnmaoieaaGreatDoorRows
import Derived.BigQuiet
import Derived.Deep.QuietTactic
import Derived.Deep.RegionHeld3
import Derived.IntWalk
namespace Go.Proofs.YtnepfacnmaoieaaGreatDoor
open Go.RowKit
open Go renaming frozen_of_row → Ez, cell_of_row → Ia, heap_setCell_same → Ib, heap_alloc_new → Ic
open Go.World renaming size_alloc → Ie
open Nat renaming le_refl → Ii, zero_le → Ij
open Go.Value.slice renaming injEq → Ik
open Go.RowKit.Below renaming refl → Il
open ZD0
set_option maxRecDepth 100000
set_option linter.unusedVariables false
set_option linter.unusedSimpArgs false
theorem ans_iff {q : QD} {t now : Int} {rs : List Ej} (h : ansB q t rs now = true) : qdB q = true ∧ (0 ≤ t ∧ t ≤ now) ∧ Ec rs = true := by
 unfold ansB at h
 simp only [Bool.and_eq_true, decide_eq_true_eq] at h
 exact ⟨h.1.1, h.1.2, h.2⟩
theorem act_ans {s : Yx} {a : Ua} (h : ansB a.1 a.2.1 a.2.2.2.2.2.2 s.2 = false) : actB s a = false := by
 rcases Bool.eq_false_or_eq_true (actB s a) with g | g
 ·
  unfold actB at g
  simp only [Bool.and_eq_true] at g
  rw [ans_yes g.1.1 (of_decide_eq_true g.1.2).1 g.2.2] at h
  cases h
 ·
  exact g
theorem fin_ans {now : Int} {d : FinD} (h : ansB d.1 d.2.1 d.2.2.2 now = false) : Ea now d = false := by
 rcases Bool.eq_false_or_eq_true (Ea now d) with g | g
 ·
  unfold Ea at g
  simp only [Bool.and_eq_true] at g
  rw [ans_yes g.1.1 (of_decide_eq_true g.1.2).1 g.2] at h
  cases h
 ·
  exact g
theorem todo_one {l : List Int} {n : Nat} (h : ¬ 1 ≤ l.length) : todoB l n = false := decide_eq_false (fun g => h g.1)
theorem todo_two {l : List Int} {n : Nat} (h : decide (Uw l n l.length) = false) : todoB l n = false := decide_eq_false (fun g => of_decide_eq_false h g.2)
set_option maxHeartbeats 8000000 in
theorem isActive_any (now a0 a1 a4 a6 a7 a8 : Int) (sa : Option Addr) (sc : Nat) (v2 v3 v5 v9 : Value) (ss : List (List Kj)) (x2 : List Ul) (x3 x5 : List Int) (x9 : List Ej) (w : World)
  (h2 : Ko Jk w v2 x2) (h3 : Ko Je w v3 x3) (h5 : Ko Je w v5 x5) (h9 : Ko Ke w v9 x9) (n0 : ss.length ≤ 1048576) (s2 : zL Jk x2 ≤ 1048576) (s3 : zL Je x3 ≤ 1048576) (s5 : zL Je x5 ≤ 1048576) (s9 : zL Ke x9 ≤ 1048576) :
  Calls Tryz.prog 197 #[.agg #[a0, a1, v2, v3, a4, v5, a6, a7, a8, v9], .agg #[.slice sa ss.length sc, .int .i64 now]] w (fun e w' => e = .returned (.bool (actB (ss, now) ((a0, a1, x2, x3), a4, x5, a6, a7, a8, x9))) ∧ Below w w w') := by
 obtain ⟨p2, c2, rfl⟩ := Jl h2
 have H2 := zh h2; have N2 := Jz s2; have S2 := zh s2
 obtain ⟨p3, c3, rfl⟩ := Jl h3
 have H3 := zh h3; have N3 := Jz s3; have S3 := zh s3
 obtain ⟨p5, c5, rfl⟩ := Jl h5
 have H5 := zh h5; have N5 := Jz s5; have S5 := zh s5
 obtain ⟨p9, c9, rfl⟩ := Jl h9
 have H9 := zh h9; have N9 := Jz s9; have S9 := zh s9
 clear h2 h3 h5 h9 s2 s3 s5 s9
 have d := zh (show Below w w ((w.alloc (.cells #[a0, a1, .slice p2 x2.length c2, .slice p3 x3.length c3, a4, .slice p5 x5.length c5, a6, a7, a8, .slice p9 x9.length c9] 104)).alloc (.cells #[.slice sa ss.length sc, .int .i64 now] 35)) from (((Il _ w).alloc (Ii _) _).alloc (by simp) _))
 have B0 : Hid (((w.alloc (.cells #[a0, a1, .slice p2 x2.length c2, .slice p3 x3.length c3, a4, .slice p5 x5.length c5, a6, a7, a8, .slice p9 x9.length c9] 104)).alloc (.cells #[.slice sa ss.length sc, .int .i64 now] 35)).heap[w.heap.size]? = some (.cells #[a0, a1, .slice p2 x2.length c2, .slice p3 x3.length c3, a4, .slice p5 x5.length c5, a6, a7, a8, .slice p9 x9.length c9] 104 (0, 0))) := zh (by
  rw [Below.heap_alloc _ _ _ (by simp)]
  exact Ic w _)
 have B1 : Hid (((w.alloc (.cells #[a0, a1, .slice p2 x2.length c2, .slice p3 x3.length c3, a4, .slice p5 x5.length c5, a6, a7, a8, .slice p9 x9.length c9] 104)).alloc (.cells #[.slice sa ss.length sc, .int .i64 now] 35)).heap[(w.heap.size + 1)]? = some (.cells #[.slice sa ss.length sc, .int .i64 now] 35 (0, 0))) := zh (by
  have := Ic (w.alloc (.cells #[a0, a1, .slice p2 x2.length c2, .slice p3 x3.length c3, a4, .slice p5 x5.length c5, a6, a7, a8, .slice p9 x9.length c9] 104)) (.cells #[.slice sa ss.length sc, .int .i64 now] 35)
  simpa only [Ie] using this)
 have YW : Hid (w.heap.size + 2 ≤ ((w.alloc (.cells #[a0, a1, .slice p2 x2.length c2, .slice p3 x3.length c3, a4, .slice p5 x5.length c5, a6, a7, a8, .slice p9 x9.length c9] 104)).alloc (.cells #[.slice sa ss.length sc, .int .i64 now] 35)).heap.size) := zh (by simp [Ie])
 go_enter Tryz.func197, Tryz.ntmps197
 go_wp2_with fail
 generalize ((w.alloc (.cells #[a0, a1, .slice p2 x2.length c2, .slice p3 x3.length c3, a4, .slice p5 x5.length c5, a6, a7, a8, .slice p9 x9.length c9] 104)).alloc (.cells #[.slice sa ss.length sc, .int .i64 now] 35)) = W at *
 refine (isAnswer_any a0 a1 a4 now (.slice p2 x2.length c2) (.slice p3 x3.length c3) (.slice p9 x9.length c9) x2 x3 x9 W (Jb Jt H2.out d.out) (Jb Jc H3.out d.out) (Jb Jw H9.out d.out) S2.out S3.out S9.out).mono ?_
 rintro e W1 ⟨rfl, c⟩
 replace B0 := zb c B0
 replace B1 := zb c B1
 replace d := zD d c
 have Z_W1 := zh (show W.heap.size ≤ W1.heap.size from c.size)
 clear c
 rcases Bool.eq_false_or_eq_true (ansB (a0, a1, x2, x3) a4 x9 now) with han | han
 rotate_left
 ·
  rw [han]
  have HF := zh (act_ans (s := (ss, now)) (a := ((a0, a1, x2, x3), a4, x5, a6, a7, a8, x9)) han)
  clear han
  have cp_B0_0 := Yr B0.out
  have cp_B1_0 := Vl B1.out
  go_wp2
  clear cp_B0_0 cp_B1_0
  go_ret
  exact ⟨Jy HF.out.symm, d.out⟩
 rw [han]
 have HAN := zh han
 clear han
 by_cases hp1 : 1 ≤ x5.length
 rotate_left
 ·
  have HF := zh (act_no3 (s := (ss, now)) (a := ((a0, a1, x2, x3), a4, x5, a6, a7, a8, x9)) (todo_one hp1))
  have f1 : decide (1 ≤ (x5.length : Int)) = false := decide_eq_false (by omega)
  clear hp1
  have cp_B0_0 := Yr B0.out
  have cp_B1_0 := Vl B1.out
  go_wp2
  clear cp_B0_0 cp_B1_0
  go_ret
  exact ⟨Jy HF.out.symm, d.out⟩
 have f1 : decide (1 ≤ (x5.length : Int)) = true := decide_eq_true (by omega)
 have HP1 := zh hp1
 clear hp1
 have cp_B0_0 := Yr B0.out
 have cp_B1_0 := Vl B1.out
 go_wp2_with fail
 clear cp_B0_0 cp_B1_0 f1
 refine (areSegments_any (.slice p5 x5.length c5) x5 sa ss.length sc now W1 (Jb Jc H5.out d.out) N5 n0).mono ?_
 rintro e W8 ⟨rfl, c⟩
 replace B0 := zb c B0
 replace B1 := zb c B1
 replace d := zD d c
 have Z_W8 := zh (show W1.heap.size ≤ W8.heap.size from c.size)
 clear c
 rcases Bool.eq_false_or_eq_true (decide (Uw x5 ss.length x5.length)) with hsg | hsg
 rotate_left
 ·
  rw [hsg]
  have HF := zh (act_no3 (s := (ss, now)) (a := ((a0, a1, x2, x3), a4, x5, a6, a7, a8, x9)) (todo_two hsg))
  clear hsg
  have cp_B0_0 := Yr B0.out
  have cp_B1_0 := Vl B1.out
  go_wp2
  clear cp_B0_0 cp_B1_0
  go_ret
  exact ⟨Jy HF.out.symm, d.out⟩
 rw [hsg]
 have HSG := zh hsg
 clear hsg
 have cp_B0_0 := Yr B0.out
 have cp_B1_0 := Vl B1.out
 go_wp2_with fail
 clear cp_B0_0 cp_B1_0
 refine (isTime_any a6 _).mono ?_
 rintro e wx ⟨rfl, hwx⟩
 obtain rfl := hwx.symm
 rcases Bool.eq_false_or_eq_true (decide (0 ≤ a6 ∧ a6 ≤ 100000)) with hti | hti
 rotate_left
 ·
  rw [hti]
  have HF := zh (act_no2 (s := (ss, now)) (a := ((a0, a1, x2, x3), a4, x5, a6, a7, a8, x9)) (fun g => of_decide_eq_false hti g.2.1))
  clear hti
  have cp_B0_0 := Yr B0.out
  have cp_B1_0 := Vl B1.out
  go_wp2
  clear cp_B0_0 cp_B1_0
  go_ret
  exact ⟨Jy HF.out.symm, d.out⟩
 rw [hti]
 have HTI := zh hti
 clear hti
 by_cases hp2 : 0 ≤ a7
 rotate_left
 ·
  have HF := zh (act_no2 (s := (ss, now)) (a := ((a0, a1, x2, x3), a4, x5, a6, a7, a8, x9)) (fun g => hp2 g.2.2.1.1))
  have f2 : decide (0 ≤ a7) = false := decide_eq_false hp2
  clear hp2
  have cp_B0_0 := Yr B0.out
  have cp_B1_0 := Vl B1.out
  go_wp2
  clear cp_B0_0 cp_B1_0
  go_ret
  exact ⟨Jy HF.out.symm, d.out⟩
 have f2 : decide (0 ≤ a7) = true := decide_eq_true hp2
 have HP2 := zh hp2
 clear hp2
 by_cases hp3 : a7 ≤ 1000
 rotate_left
 ·
  have HF := zh (act_no2 (s := (ss, now)) (a := ((a0, a1, x2, x3), a4, x5, a6, a7, a8, x9)) (fun g => hp3 g.2.2.1.2))
  have f3 : decide (a7 ≤ 1000) = false := decide_eq_false hp3
  clear hp3
  have cp_B0_0 := Yr B0.out
  have cp_B1_0 := Vl B1.out
  go_wp2
  clear cp_B0_0 cp_B1_0
  go_ret
  exact ⟨Jy HF.out.symm, d.out⟩
 have f3 : decide (a7 ≤ 1000) = true := decide_eq_true hp3
 have HP3 := zh hp3
 clear hp3
 have cp_B0_0 := Yr B0.out
 have cp_B1_0 := Vl B1.out
 go_wp2_with fail
 clear cp_B0_0 cp_B1_0 f2 f3
 refine (isLimit_any a8 W8).mono ?_
 rintro e W9 ⟨rfl, c⟩
 replace B0 := zb c B0
 replace B1 := zb c B1
 replace d := zD d c
 have Z_W9 := zh (show W8.heap.size ≤ W9.heap.size from c.size)
 clear c
 have HT : Hid (decide (0 ≤ a8 ∧ a8 ≤ 32) = actB (ss, now) ((a0, a1, x2, x3), a4, x5, a6, a7, a8, x9)) := zh (by
  obtain ⟨q1, q2, q3⟩ := ans_iff HAN.out
  by_cases g : 0 ≤ a8 ∧ a8 ≤ 32
  ·
   rw [decide_eq_true g]; exact (act_yes (s := (ss, now)) (a := ((a0, a1, x2, x3), a4, x5, a6, a7, a8, x9)) q1 ⟨q2, of_decide_eq_true HTI.out, ⟨HP2.out, HP3.out⟩, g⟩ (decide_eq_true ⟨HP1.out, of_decide_eq_true HSG.out⟩) q3).symm
  ·
   rw [decide_eq_false g]; exact (act_no2 (s := (ss, now)) (a := ((a0, a1, x2, x3), a4, x5, a6, a7, a8, x9)) (fun q => g q.2.2.2)).symm)
 rw [HT.out]
 have cp_B0_0 := Yr B0.out
 have cp_B1_0 := Vl B1.out
 go_wp2
 clear cp_B0_0 cp_B1_0
 go_ret
 exact ⟨rfl, d.out⟩
set_option maxHeartbeats 16000000 in
theorem areValid_act (v : Value) (l : List Ua) (sa : Option Addr) (sc : Nat) (ss : List (List Kj)) (now : Int) (w : World) (h : Ko Ji w v l) (hs : zL Ji l ≤ 1048576) (n0 : ss.length ≤ 1048576) :
  Calls Tryz.prog 134 #[v, .agg #[.slice sa ss.length sc, .int .i64 now]] w (fun e w' => e = .returned (.bool (decide (l.length ≤ 8) && actsB (ss, now) l)) ∧ Below w w w') := by
 obtain ⟨a, cap, rfl⟩ := Jl h
 have H := zh h
 have HS := zh hs
 have hn := Jz hs
 clear h hs
 have d := zh (show Below w w (w.alloc (.cells #[.slice sa ss.length sc, .int .i64 now] 35)) from ((Il _ w).alloc (Ii _) _))
 have B0 : Hid ((w.alloc (.cells #[.slice sa ss.length sc, .int .i64 now] 35)).heap[w.heap.size]? = some (.cells #[.slice sa ss.length sc, .int .i64 now] 35 (0, 0))) := zh (by
  exact Ic w _)
 have YW : Hid (w.heap.size + 1 ≤ (w.alloc (.cells #[.slice sa ss.length sc, .int .i64 now] 35)).heap.size) := zh (by simp [Ie])
 by_cases h8 : l.length ≤ 8
 rotate_left
 ·
  have HF : Hid ((decide (l.length ≤ 8) && actsB (ss, now) l) = false) := zh (by rw [decide_eq_false h8]; rfl)
  have f1 : decide ((8 : Int) < (l.length : Int)) = true := decide_eq_true (by omega)
  clear h8
  go_enter Tryz.func134, Tryz.ntmps134
  go_wp2
  go_ret
  exact ⟨Jy HF.out.symm, d.out⟩
 have HE : Hid ((decide (l.length ≤ 8) && actsB (ss, now) l) = actsB (ss, now) l) := zh (by rw [decide_eq_true h8]; rfl)
 rw [HE.out]
 have f1 : decide ((8 : Int) < (l.length : Int)) = false := decide_eq_false (by omega)
 clear h8 HE
 go_enter Tryz.func134, Tryz.ntmps134
 go_wp2
 generalize (w.alloc (.cells #[.slice sa ss.length sc, .int .i64 now] 35)) = W at *
 clear f1
 go_loopw [12] (fun i wr => ∃ k : Nat, k ≤ l.length ∧ i = .int .i64 k ∧ Hid (ActsTo (ss, now) l k) ∧ Below W W wr) (fun i _ => l.length - (intOf i).toNat)
 case atStart => exact ⟨0, Ij _, rfl, zh (actsTo_zero _ _), Il _ _⟩
 case round =>
  obtain ⟨k, hk, rfl, hno, c⟩ := hrel
  have cw := zh c
  replace B0 := zb c B0
  replace d := zD d c
  clear c
  by_cases hlt : k < l.length
  ·
   have i1 : (0 : Int) ≤ (k : Int) := by omega
   have i2 : (k : Int) < (l.length : Int) := by omega
   have hz := Vj HS.out hlt
   obtain ⟨b, off, cap', p2, c2, p3, c3, p5, c5, p9, c9, hv, hbl, e0, e1, e2, e3, e4, e5, e6, e7, e8, e9, s2, s3, s5, s9⟩ := act_at H.out hlt
   simp only [Ik] at hv
   obtain ⟨rfl, _, rfl⟩ := hv
   change Ji.sz (l.getD k Uh) ≤ 1048576 at hz
   have HNO : Hid (actB (ss, now) (l.getD k Uh) = false → actsB (ss, now) l = false) := zh (fun g => acts_no hlt (Or.inl g))
   have HNL : Hid (0 < k → ¬ (l.getD (k - 1) Uh).1.1 < (l.getD k Uh).1.1 → actsB (ss, now) l = false) := zh (fun g1 g2 => acts_no hlt (Or.inr ⟨g1, g2⟩))
   have HST : Hid (actB (ss, now) (l.getD k Uh) = true → (0 < k → (l.getD (k - 1) Uh).1.1 < (l.getD k Uh).1.1) → ActsTo (ss, now) l (k + 1)) := zh (fun g1 g2 => actsTo_step hno.out g1 g2)
   have HBL := zh hbl
   clear hno hbl
   obtain ⟨x, hx⟩ : ∃ x, x = l.getD k Uh := ⟨_, rfl⟩
   rw [← hx] at hz HNO HNL HST e0 e1 e2 e3 e4 e5 e6 e7 e8 e9 s2 s3 s5 s9
   clear hx
   obtain ⟨⟨a0, a1, x2, x3⟩, a4, x5, a6, a7, a8, x9⟩ := x
   rw [tActive_sz] at hz
   dsimp only at *
   have HC := zh (fun W g2 g3 g5 g9 => isActive_any now a0 a1 a4 a6 a7 a8 sa sc (.slice p2 x2.length c2) (.slice p3 x3.length c3) (.slice p5 x5.length c5) (.slice p9 x9.length c9) ss x2 x3 x5 x9 W g2 g3 g5 g9 n0 (by omega) (by omega) (by omega) (by omega))
   have T2 := zh s2; have T3 := zh s3; have T5 := zh s5; have T9 := zh s9
   clear s2 s3 s5 s9 hz
   replace e0 := (d.out.cell (p := ⟨b, off + k * 10, none⟩) HBL.out).trans e0
   replace e1 := (d.out.cell (p := ⟨b, off + k * 10 + 1, none⟩) HBL.out).trans e1
   replace e2 := (d.out.cell (p := ⟨b, off + k * 10 + 2, none⟩) HBL.out).trans e2
   replace e3 := (d.out.cell (p := ⟨b, off + k * 10 + 3, none⟩) HBL.out).trans e3
   replace e4 := (d.out.cell (p := ⟨b, off + k * 10 + 4, none⟩) HBL.out).trans e4
   replace e5 := (d.out.cell (p := ⟨b, off + k * 10 + 5, none⟩) HBL.out).trans e5
   replace e6 := (d.out.cell (p := ⟨b, off + k * 10 + 6, none⟩) HBL.out).trans e6
   replace e7 := (d.out.cell (p := ⟨b, off + k * 10 + 7, none⟩) HBL.out).trans e7
   replace e8 := (d.out.cell (p := ⟨b, off + k * 10 + 8, none⟩) HBL.out).trans e8
   replace e9 := (d.out.cell (p := ⟨b, off + k * 10 + 9, none⟩) HBL.out).trans e9
   have cal : Below wr wr (wr.alloc (.cells #[a0, a1, .slice p2 x2.length c2, .slice p3 x3.length c3, a4, .slice p5 x5.length c5, a6, a7, a8, .slice p9 x9.length c9] 104)) := (Il _ _).alloc (Ii _) _
   have B1 : Hid ((wr.alloc (.cells #[a0, a1, .slice p2 x2.length c2, .slice p3 x3.length c3, a4, .slice p5 x5.length c5, a6, a7, a8, .slice p9 x9.length c9] 104)).heap[wr.heap.size]? = some (.cells #[a0, a1, .slice p2 x2.length c2, .slice p3 x3.length c3, a4, .slice p5 x5.length c5, a6, a7, a8, .slice p9 x9.length c9] 104 (0, 0))) := zh (Ic wr _)
   go_wp2
   clear e0 e1 e2 e3 e4 e5 e6 e7 e8 e9
   generalize hWq : (wr.alloc (.cells #[a0, a1, .slice p2 x2.length c2, .slice p3 x3.length c3, a4, .slice p5 x5.length c5, a6, a7, a8, .slice p9 x9.length c9] 104)) = Wq at *
   clear hWq
   have dq := zh cal
   have YQ := zh (Array.getElem?_eq_some_iff.1 B1.out).1
   replace B0 := zb cal B0
   replace d := zD d cal
   clear cal
   cases hab : actB (ss, now) ((a0, a1, x2, x3), a4, x5, a6, a7, a8, x9) with
   | false =>
    have HF := zh (HNO.out hab)
    have HAB := zh hab
    clear hab HNO HNL HST
    obtain ⟨p_B0_0, p_B0_1⟩ := Vl B0.out
    have cp_B1_0 := Yr B1.out
    refine wp_region_held_drew (S := fun w' => w'.cell? ⟨w, 0, none⟩ = some (Value.slice sa ss.length sc) ∧ w'.cell? ⟨w, 1, none⟩ = some (Value.int .i64 now) ∧ w'.cell? ⟨wr, 0, none⟩ = some (Value.int .i64 a0) ∧ w'.cell? ⟨wr, 1, none⟩ = some (Value.int .i64 a1) ∧ w'.cell? ⟨wr, 2, none⟩ = some (Value.slice p2 x2.length c2) ∧ w'.cell? ⟨wr, 3, none⟩ = some (Value.slice p3 x3.length c3) ∧ w'.cell? ⟨wr, 4, none⟩ = some (Value.int .i64 a4) ∧ w'.cell? ⟨wr, 5, none⟩ = some (Value.slice p5 x5.length c5) ∧ w'.cell? ⟨wr, 6, none⟩ = some (Value.int .i64 a6) ∧ w'.cell? ⟨wr, 7, none⟩ = some (Value.int .i64 a7) ∧ w'.cell? ⟨wr, 8, none⟩ = some (Value.int .i64 a8) ∧ w'.cell? ⟨wr, 9, none⟩ = some (Value.slice p9 x9.length c9)) (by kernel_rfl) ⟨p_B0_0, p_B0_1, cp_B1_0⟩ (fun hHeld => ?_)
    clear p_B0_0 p_B0_1 cp_B1_0
    have cdr : Below Wq Wq Wq.drew := Kc (Il _ _)
    replace B0 := zb cdr B0
    replace B1 := zb cdr B1
    replace d := zD d cdr
    clear cdr
    refine tQ (i := 0) ?_
    try simp only [Act.put, lA, lB, lC]
    refine tQ (i := 1) ?_
    try simp only [Act.put, lA, lB, lC]
    refine rA 2 (fun K hK => ?_)
    go_simp
    refine (HC.out (Wq.drew) (Jb Jt T2.out d.out) (Jb Jc T3.out d.out) (Jb Jc T5.out d.out) (Jb Jw T9.out d.out)).mono ?_
    rintro e w5 ⟨rfl, c5⟩
    rw [HAB.out]
    have d2 := zh (show Below wr wr w5 from dq.out.trans (((Kc (Il Wq.heap.size Wq)).trans c5).mono dq.out.size))
    replace B0 := zb c5 B0
    replace B1 := zb c5 B1
    replace d := zD d c5
    clear c5
    obtain ⟨p_B0_0, p_B0_1⟩ := Vl B0.out
    have cp_B1_0 := Yr B1.out
    refine hK.out _ _ ⟨p_B0_0, p_B0_1, cp_B1_0⟩ (fun hHeld => ?_)
    clear p_B0_0 p_B0_1 cp_B1_0
    clear hK K
    try simp only [Act.put, lA, lB, lC]
    refine tQ (i := 3) ?_
    try simp only [Act.put, lA, lB, lC]
    refine tQ (i := 4) ?_
    try simp only [Act.put, lA, lB, lC]
    refine tO (i := 5) ?_
    try simp only [Act.put, lA, lB, lC]
    refine tO (i := 6) ?_
    try simp only [Act.put, lA, lB, lC]
    refine tO (i := 7) ?_
    try simp only [Act.put, lA, lB, lC]
    refine tO (i := 8) ?_
    try simp only [Act.put, lA, lB, lC]
    refine tO (i := 9) ?_
    try simp only [Act.put, lA, lB, lC]
    refine tO (i := 10) ?_
    try simp only [Act.put, lA, lB, lC]
    refine tO (i := 11) ?_
    try simp only [Act.put, lA, lB, lC]
    refine tO (i := 12) ?_
    try simp only [Act.put, lA, lB, lC]
    refine tO (i := 13) ?_
    try simp only [Act.put, lA, lB, lC]
    refine tO (i := 14) ?_
    try simp only [Act.put, lA, lB, lC]
    refine tO (i := 15) ?_
    try simp only [Act.put, lA, lB, lC]
    refine tO (i := 16) ?_
    try simp only [Act.put, lA, lB, lC]
    refine tO (i := 17) ?_
    try simp only [Act.put, lA, lB, lC]
    refine tO (i := 18) ?_
    try simp only [Act.put, lA, lB, lC]
    refine tO (i := 19) ?_
    try simp only [Act.put, lA, lB, lC]
    refine tQ (i := 20) ?_
    try simp only [Act.put, lA, lB, lC]
    refine wpAnyH_done (by kernel_rfl) ?_ _
    clear hHeld
    go_wp2
    go_ret
    exact ⟨Jy HF.out.symm, d.out⟩
   | true =>
    have HAB := zh hab
    by_cases hz : k = 0
    ·
     have HT := zh (HST.out hab (fun g => by omega))
     have f0 : decide ((0 : Int) < (k : Int)) = false := decide_eq_false (by omega)
     clear hab HNO HNL HST hz
     obtain ⟨p_B0_0, p_B0_1⟩ := Vl B0.out
     have cp_B1_0 := Yr B1.out
     refine wp_region_held_drew (S := fun w' => w'.cell? ⟨w, 0, none⟩ = some (Value.slice sa ss.length sc) ∧ w'.cell? ⟨w, 1, none⟩ = some (Value.int .i64 now) ∧ w'.cell? ⟨wr, 0, none⟩ = some (Value.int .i64 a0) ∧ w'.cell? ⟨wr, 1, none⟩ = some (Value.int .i64 a1) ∧ w'.cell? ⟨wr, 2, none⟩ = some (Value.slice p2 x2.length c2) ∧ w'.cell? ⟨wr, 3, none⟩ = some (Value.slice p3 x3.length c3) ∧ w'.cell? ⟨wr, 4, none⟩ = some (Value.int .i64 a4) ∧ w'.cell? ⟨wr, 5, none⟩ = some (Value.slice p5 x5.length c5) ∧ w'.cell? ⟨wr, 6, none⟩ = some (Value.int .i64 a6) ∧ w'.cell? ⟨wr, 7, none⟩ = some (Value.int .i64 a7) ∧ w'.cell? ⟨wr, 8, none⟩ = some (Value.int .i64 a8) ∧ w'.cell? ⟨wr, 9, none⟩ = some (Value.slice p9 x9.length c9)) (by kernel_rfl) ⟨p_B0_0, p_B0_1, cp_B1_0⟩ (fun hHeld => ?_)
     clear p_B0_0 p_B0_1 cp_B1_0
     have cdr : Below Wq Wq Wq.drew := Kc (Il _ _)
     replace B0 := zb cdr B0
     replace B1 := zb cdr B1
     replace d := zD d cdr
     clear cdr
     refine tQ (i := 0) ?_
     try simp only [Act.put, lA, lB, lC]
     refine tQ (i := 1) ?_
     try simp only [Act.put, lA, lB, lC]
     refine rA 2 (fun K hK => ?_)
     go_simp
     refine (HC.out (Wq.drew) (Jb Jt T2.out d.out) (Jb Jc T3.out d.out) (Jb Jc T5.out d.out) (Jb Jw T9.out d.out)).mono ?_
     rintro e w5 ⟨rfl, c5⟩
     rw [HAB.out]
     have d2 := zh (show Below wr wr w5 from dq.out.trans (((Kc (Il Wq.heap.size Wq)).trans c5).mono dq.out.size))
     replace B0 := zb c5 B0
     replace B1 := zb c5 B1
     replace d := zD d c5
     clear c5
     obtain ⟨p_B0_0, p_B0_1⟩ := Vl B0.out
     have cp_B1_0 := Yr B1.out
     refine hK.out _ _ ⟨p_B0_0, p_B0_1, cp_B1_0⟩ (fun hHeld => ?_)
     clear p_B0_0 p_B0_1 cp_B1_0
     clear hK K
     try simp only [Act.put, lA, lB, lC]
     refine tQ (i := 3) ?_
     try simp only [Act.put, lA, lB, lC]
     refine tQ (i := 4) ?_
     try simp only [Act.put, lA, lB, lC]
     refine tQ (i := 5) ?_
     try simp only [Act.put, lA, lB, lC]
     refine tR (i := 6) (v := .bool false) ?_ ?_
     ·
      intro w hSw; (try dsimp only at hSw); go_simp; all_goals first | (with_reducible rfl) | (rw [f0]; done) | (simpa using f0) | (simp [f0]; done) | (simp; omega)
     try simp only [Act.put, lA, lB, lC]
     refine tQ (i := 7) ?_
     try simp only [Act.put, lA, lB, lC]
     refine tO (i := 8) ?_
     try simp only [Act.put, lA, lB, lC]
     refine tO (i := 9) ?_
     try simp only [Act.put, lA, lB, lC]
     refine tO (i := 10) ?_
     try simp only [Act.put, lA, lB, lC]
     refine tO (i := 11) ?_
     try simp only [Act.put, lA, lB, lC]
     refine tO (i := 12) ?_
     try simp only [Act.put, lA, lB, lC]
     refine tO (i := 13) ?_
     try simp only [Act.put, lA, lB, lC]
     refine tO (i := 14) ?_
     try simp only [Act.put, lA, lB, lC]
     refine tO (i := 15) ?_
     try simp only [Act.put, lA, lB, lC]
     refine tO (i := 16) ?_
     try simp only [Act.put, lA, lB, lC]
     refine tO (i := 17) ?_
     try simp only [Act.put, lA, lB, lC]
     refine tO (i := 18) ?_
     try simp only [Act.put, lA, lB, lC]
     refine tQ (i := 19) ?_
     try simp only [Act.put, lA, lB, lC]
     refine tQ (i := 20) ?_
     try simp only [Act.put, lA, lB, lC]
     refine wpAnyH_done (by kernel_rfl) ?_ _
     clear hHeld
     go_wp2
     go_roundw
     case rel => exact ⟨k + 1, by omega, by go_num, HT, cw.out.trans (d2.out.mono cw.out.size)⟩
     case measure => simp [intOf]; omega
    ·
     have hk0 : 0 < k := by omega
     have f1 : decide ((0 : Int) < (k : Int)) = true := decide_eq_true (by omega)
     have i3 : (0 : Int) ≤ (k : Int) - 1 := by omega
     have i7 : (1 : Int) ≤ (k : Int) := by omega
     have i4 : (k : Int) - 1 < (l.length : Int) := by omega
     have i5 : ((k : Int) - 1).toNat = k - 1 := by omega
     have i6 : IntKind.i64.wrap ((k : Int) - 1) = (k : Int) - 1 := IntWalk.i64_in _ (by omega)
     obtain ⟨b', off', cap2, q2, r2, q3, r3, q5, r5, q9, r9, hv, hbl, g0, _, _, _, _, _, _, _, _, _, _, _, _, _⟩ := act_at (k := k - 1) H.out (by omega)
     simp only [Ik, Option.some.injEq, Addr.mk.injEq] at hv
     obtain ⟨⟨rfl, rfl, _⟩, _, rfl⟩ := hv
     clear hbl
     have HL2 := zh (HNL.out hk0)
     have HS2 := zh (HST.out hab)
     clear HNL HST HNO hab hk0 hz
     generalize (l.getD (k - 1) Uh).1.1 = z at *
     have G0 := zh g0
     clear g0
     by_cases hle : z < a0
     ·
      have HT := zh (HS2.out (fun _ => hle))
      have f2 : decide (a0 ≤ z) = false := decide_eq_false (by omega)
      clear hle HL2 HS2
      obtain ⟨p_B0_0, p_B0_1⟩ := Vl B0.out
      obtain ⟨p_B1_0, p_B1_1, p_B1_2, p_B1_3, p_B1_4, p_B1_5, p_B1_6, p_B1_7, p_B1_8, p_B1_9⟩ := Yr B1.out
      have p_G0 := cx d G0 HBL
      refine wp_region_held_drew (S := fun w' => w'.cell? ⟨w, 0, none⟩ = some (Value.slice sa ss.length sc) ∧ w'.cell? ⟨w, 1, none⟩ = some (Value.int .i64 now) ∧ w'.cell? ⟨wr, 0, none⟩ = some (Value.int .i64 a0) ∧ w'.cell? ⟨wr, 1, none⟩ = some (Value.int .i64 a1) ∧ w'.cell? ⟨wr, 2, none⟩ = some (Value.slice p2 x2.length c2) ∧ w'.cell? ⟨wr, 3, none⟩ = some (Value.slice p3 x3.length c3) ∧ w'.cell? ⟨wr, 4, none⟩ = some (Value.int .i64 a4) ∧ w'.cell? ⟨wr, 5, none⟩ = some (Value.slice p5 x5.length c5) ∧ w'.cell? ⟨wr, 6, none⟩ = some (Value.int .i64 a6) ∧ w'.cell? ⟨wr, 7, none⟩ = some (Value.int .i64 a7) ∧ w'.cell? ⟨wr, 8, none⟩ = some (Value.int .i64 a8) ∧ w'.cell? ⟨wr, 9, none⟩ = some (Value.slice p9 x9.length c9) ∧ w'.cell? ⟨b, off + (k - 1) * 10, none⟩ = some (Value.int .i64 z)) (by kernel_rfl) ⟨p_B0_0, p_B0_1, p_B1_0, p_B1_1, p_B1_2, p_B1_3, p_B1_4, p_B1_5, p_B1_6, p_B1_7, p_B1_8, p_B1_9, p_G0⟩ (fun hHeld => ?_)
      clear p_B0_0 p_B0_1 p_B1_0 p_B1_1 p_B1_2 p_B1_3 p_B1_4 p_B1_5 p_B1_6 p_B1_7 p_B1_8 p_B1_9 p_G0
      have cdr : Below Wq Wq Wq.drew := Kc (Il _ _)
      replace B0 := zb cdr B0
      replace B1 := zb cdr B1
      replace d := zD d cdr
      clear cdr
      refine tQ (i := 0) ?_
      try simp only [Act.put, lA, lB, lC]
      refine tQ (i := 1) ?_
      try simp only [Act.put, lA, lB, lC]
      refine rA 2 (fun K hK => ?_)
      go_simp
      refine (HC.out (Wq.drew) (Jb Jt T2.out d.out) (Jb Jc T3.out d.out) (Jb Jc T5.out d.out) (Jb Jw T9.out d.out)).mono ?_
      rintro e w5 ⟨rfl, c5⟩
      rw [HAB.out]
      have d2 := zh (show Below wr wr w5 from dq.out.trans (((Kc (Il Wq.heap.size Wq)).trans c5).mono dq.out.size))
      replace B0 := zb c5 B0
      replace B1 := zb c5 B1
      replace d := zD d c5
      clear c5
      obtain ⟨p_B0_0, p_B0_1⟩ := Vl B0.out
      obtain ⟨p_B1_0, p_B1_1, p_B1_2, p_B1_3, p_B1_4, p_B1_5, p_B1_6, p_B1_7, p_B1_8, p_B1_9⟩ := Yr B1.out
      have p_G0 := cx d G0 HBL
      refine hK.out _ _ ⟨p_B0_0, p_B0_1, p_B1_0, p_B1_1, p_B1_2, p_B1_3, p_B1_4, p_B1_5, p_B1_6, p_B1_7, p_B1_8, p_B1_9, p_G0⟩ (fun hHeld => ?_)
      clear p_B0_0 p_B0_1 p_B1_0 p_B1_1 p_B1_2 p_B1_3 p_B1_4 p_B1_5 p_B1_6 p_B1_7 p_B1_8 p_B1_9 p_G0
      clear hK K
      try simp only [Act.put, lA, lB, lC]
      refine tQ (i := 3) ?_
      try simp only [Act.put, lA, lB, lC]
      refine tQ (i := 4) ?_
      try simp only [Act.put, lA, lB, lC]
      refine tQ (i := 5) ?_
      try simp only [Act.put, lA, lB, lC]
      refine tR (i := 6) (v := .bool true) ?_ ?_
      ·
       intro w hSw; (try dsimp only at hSw); go_simp; all_goals first | (with_reducible rfl) | (rw [f1]; done) | (simpa using f1) | (simp [f1]; done) | (simp; omega)
      try simp only [Act.put, lA, lB, lC]
      refine tQ (i := 7) ?_
      try simp only [Act.put, lA, lB, lC]
      refine tQ (i := 8) ?_
      try simp only [Act.put, lA, lB, lC]
      refine tQ (i := 9) ?_
      try simp only [Act.put, lA, lB, lC]
      refine tQ (i := 10) ?_
      try simp only [Act.put, lA, lB, lC]
      refine tQ (i := 11) ?_
      try simp only [Act.put, lA, lB, lC]
      refine tQ (i := 12) ?_
      try simp only [Act.put, lA, lB, lC]
      refine tQ (i := 13) ?_
      try simp only [Act.put, lA, lB, lC]
      refine tQ (i := 14) ?_
      try simp only [Act.put, lA, lB, lC]
      refine tQ (i := 15) ?_
      try simp only [Act.put, lA, lB, lC]
      refine tQ (i := 16) ?_
      try simp only [Act.put, lA, lB, lC]
      refine tQ (i := 17) ?_
      try simp only [Act.put, lA, lB, lC]
      refine tR (i := 18) (v := .bool false) ?_ ?_
      ·
       intro w hSw; (try dsimp only at hSw); go_simp; all_goals first | (with_reducible rfl) | (rw [f2]; done) | (simpa using f2) | (simp [f2]; done) | (simp; omega)
      try simp only [Act.put, lA, lB, lC]
      refine tQ (i := 19) ?_
      try simp only [Act.put, lA, lB, lC]
      refine tQ (i := 20) ?_
      try simp only [Act.put, lA, lB, lC]
      refine wpAnyH_done (by kernel_rfl) ?_ _
      clear hHeld
      go_wp2
      go_roundw
      case rel => exact ⟨k + 1, by omega, by go_num, HT, cw.out.trans (d2.out.mono cw.out.size)⟩
      case measure => simp [intOf]; omega
     ·
      have HF := zh (HL2.out (by omega))
      have f2 : decide (a0 ≤ z) = true := decide_eq_true (by omega)
      clear hle HL2 HS2
      obtain ⟨p_B0_0, p_B0_1⟩ := Vl B0.out
      obtain ⟨p_B1_0, p_B1_1, p_B1_2, p_B1_3, p_B1_4, p_B1_5, p_B1_6, p_B1_7, p_B1_8, p_B1_9⟩ := Yr B1.out
      have p_G0 := cx d G0 HBL
      refine wp_region_held_drew (S := fun w' => w'.cell? ⟨w, 0, none⟩ = some (Value.slice sa ss.length sc) ∧ w'.cell? ⟨w, 1, none⟩ = some (Value.int .i64 now) ∧ w'.cell? ⟨wr, 0, none⟩ = some (Value.int .i64 a0) ∧ w'.cell? ⟨wr, 1, none⟩ = some (Value.int .i64 a1) ∧ w'.cell? ⟨wr, 2, none⟩ = some (Value.slice p2 x2.length c2) ∧ w'.cell? ⟨wr, 3, none⟩ = some (Value.slice p3 x3.length c3) ∧ w'.cell? ⟨wr, 4, none⟩ = some (Value.int .i64 a4) ∧ w'.cell? ⟨wr, 5, none⟩ = some (Value.slice p5 x5.length c5) ∧ w'.cell? ⟨wr, 6, none⟩ = some (Value.int .i64 a6) ∧ w'.cell? ⟨wr, 7, none⟩ = some (Value.int .i64 a7) ∧ w'.cell? ⟨wr, 8, none⟩ = some (Value.int .i64 a8) ∧ w'.cell? ⟨wr, 9, none⟩ = some (Value.slice p9 x9.length c9) ∧ w'.cell? ⟨b, off + (k - 1) * 10, none⟩ = some (Value.int .i64 z)) (by kernel_rfl) ⟨p_B0_0, p_B0_1, p_B1_0, p_B1_1, p_B1_2, p_B1_3, p_B1_4, p_B1_5, p_B1_6, p_B1_7, p_B1_8, p_B1_9, p_G0⟩ (fun hHeld => ?_)
      clear p_B0_0 p_B0_1 p_B1_0 p_B1_1 p_B1_2 p_B1_3 p_B1_4 p_B1_5 p_B1_6 p_B1_7 p_B1_8 p_B1_9 p_G0
      have cdr : Below Wq Wq Wq.drew := Kc (Il _ _)
      replace B0 := zb cdr B0
      replace B1 := zb cdr B1
      replace d := zD d cdr
      clear cdr
      refine tQ (i := 0) ?_
      try simp only [Act.put, lA, lB, lC]
      refine tQ (i := 1) ?_
      try simp only [Act.put, lA, lB, lC]
      refine rA 2 (fun K hK => ?_)
      go_simp
      refine (HC.out (Wq.drew) (Jb Jt T2.out d.out) (Jb Jc T3.out d.out) (Jb Jc T5.out d.out) (Jb Jw T9.out d.out)).mono ?_
      rintro e w5 ⟨rfl, c5⟩
      rw [HAB.out]
      have d2 := zh (show Below wr wr w5 from dq.out.trans (((Kc (Il Wq.heap.size Wq)).trans c5).mono dq.out.size))
      replace B0 := zb c5 B0
      replace B1 := zb c5 B1
      replace d := zD d c5
      clear c5
      obtain ⟨p_B0_0, p_B0_1⟩ := Vl B0.out
      obtain ⟨p_B1_0, p_B1_1, p_B1_2, p_B1_3, p_B1_4, p_B1_5, p_B1_6, p_B1_7, p_B1_8, p_B1_9⟩ := Yr B1.out
      have p_G0 := cx d G0 HBL
      refine hK.out _ _ ⟨p_B0_0, p_B0_1, p_B1_0, p_B1_1, p_B1_2, p_B1_3, p_B1_4, p_B1_5, p_B1_6, p_B1_7, p_B1_8, p_B1_9, p_G0⟩ (fun hHeld => ?_)
      clear p_B0_0 p_B0_1 p_B1_0 p_B1_1 p_B1_2 p_B1_3 p_B1_4 p_B1_5 p_B1_6 p_B1_7 p_B1_8 p_B1_9 p_G0
      clear hK K
      try simp only [Act.put, lA, lB, lC]
      refine tQ (i := 3) ?_
      try simp only [Act.put, lA, lB, lC]
      refine tQ (i := 4) ?_
      try simp only [Act.put, lA, lB, lC]
      refine tQ (i := 5) ?_
      try simp only [Act.put, lA, lB, lC]
      refine tR (i := 6) (v := .bool true) ?_ ?_
      ·
       intro w hSw; (try dsimp only at hSw); go_simp; all_goals first | (with_reducible rfl) | (rw [f1]; done) | (simpa using f1) | (simp [f1]; done) | (simp; omega)
      try simp only [Act.put, lA, lB, lC]
      refine tQ (i := 7) ?_
      try simp only [Act.put, lA, lB, lC]
      refine tQ (i := 8) ?_
      try simp only [Act.put, lA, lB, lC]
      refine tQ (i := 9) ?_
      try simp only [Act.put, lA, lB, lC]
      refine tQ (i := 10) ?_
      try simp only [Act.put, lA, lB, lC]
      refine tQ (i := 11) ?_
      try simp only [Act.put, lA, lB, lC]
      refine tQ (i := 12) ?_
      try simp only [Act.put, lA, lB, lC]
      refine tQ (i := 13) ?_
      try simp only [Act.put, lA, lB, lC]
      refine tQ (i := 14) ?_
      try simp only [Act.put, lA, lB, lC]
      refine tQ (i := 15) ?_
      try simp only [Act.put, lA, lB, lC]
      refine tQ (i := 16) ?_
      try simp only [Act.put, lA, lB, lC]
      refine tQ (i := 17) ?_
      try simp only [Act.put, lA, lB, lC]
      refine tR (i := 18) (v := .bool true) ?_ ?_
      ·
       intro w hSw; (try dsimp only at hSw); go_simp; all_goals first | (with_reducible rfl) | (rw [f2]; done) | (simpa using f2) | (simp [f2]; done) | (simp; omega)
      try simp only [Act.put, lA, lB, lC]
      refine tQ (i := 19) ?_
      try simp only [Act.put, lA, lB, lC]
      refine tQ (i := 20) ?_
      try simp only [Act.put, lA, lB, lC]
      refine wpAnyH_done (by kernel_rfl) ?_ _
      clear hHeld
      go_wp2
      go_ret
      exact ⟨Jy HF.out.symm, d.out⟩
  ·
   obtain rfl : k = l.length := by omega
   have HT := zh (acts_yes hno.out)
   clear hno
   have cp_B0_0 := Vl B0.out
   go_wp2
   clear cp_B0_0
   go_ret
   exact ⟨Jy HT.out.symm, d.out⟩
set_option maxHeartbeats 8000000 in
theorem finClos (now a0 a1 a4 a5 : Int) (v2 v3 v6 : Value) (x2 : List Ul) (x3 : List Int) (x6 : List Ej) (B : Nat) (w : World) (h2 : Ko Jk w v2 x2) (h3 : Ko Je w v3 x3) (h6 : Ko Ke w v6 x6) (s2 : zL Jk x2 ≤ 1048576) (s3 : zL Je x3 ≤ 1048576) (s6 : zL Ke x6 ≤ 1048576) (hB : w.heap[B]? = some (.cells #[.int .i64 now] 3 (0, 0))) :
  Calls Tryz.prog 198 #[.agg #[a0, a1, v2, v3, a4, a5, v6], .pointer (some ⟨B, 0, none⟩)] w (fun e w' => e = .returned (.bool (Ea now ((a0, a1, x2, x3), a4, a5, x6))) ∧ Below w w w') := by
 obtain ⟨p2, c2, rfl⟩ := Jl h2
 have H2 := zh h2; have S2 := zh s2
 obtain ⟨p3, c3, rfl⟩ := Jl h3
 have H3 := zh h3; have S3 := zh s3
 obtain ⟨p6, c6, rfl⟩ := Jl h6
 have H6 := zh h6; have S6 := zh s6
 have CB := zh ((Ia w _ 0 _ _ _ hB).trans (show _ = some (Value.int .i64 now) from rfl))
 have LB := zh (Array.getElem?_eq_some_iff.1 hB).1
 clear h2 h3 h6 s2 s3 s6 hB
 have d := zh (show Below w w (w.alloc (.cells #[a0, a1, .slice p2 x2.length c2, .slice p3 x3.length c3, a4, a5, .slice p6 x6.length c6] 59)) from ((Il _ w).alloc (Ii _) _))
 have B0 : Hid ((w.alloc (.cells #[a0, a1, .slice p2 x2.length c2, .slice p3 x3.length c3, a4, a5, .slice p6 x6.length c6] 59)).heap[w.heap.size]? = some (.cells #[a0, a1, .slice p2 x2.length c2, .slice p3 x3.length c3, a4, a5, .slice p6 x6.length c6] 59 (0, 0))) := zh (by
  exact Ic w _)
 have YW : Hid (w.heap.size + 1 ≤ (w.alloc (.cells #[a0, a1, .slice p2 x2.length c2, .slice p3 x3.length c3, a4, a5, .slice p6 x6.length c6] 59)).heap.size) := zh (by simp [Ie])
 have pc := cx d CB LB
 go_enter Tryz.func198, Tryz.ntmps198
 go_wp2_with fail
 clear pc
 generalize (w.alloc (.cells #[a0, a1, .slice p2 x2.length c2, .slice p3 x3.length c3, a4, a5, .slice p6 x6.length c6] 59)) = W at *
 refine (isAnswer_any a0 a1 a4 now (.slice p2 x2.length c2) (.slice p3 x3.length c3) (.slice p6 x6.length c6) x2 x3 x6 W (Jb Jt H2.out d.out) (Jb Jc H3.out d.out) (Jb Jw H6.out d.out) S2.out S3.out S6.out).mono ?_
 rintro e W1 ⟨rfl, c⟩
 replace B0 := zb c B0
 replace d := zD d c
 have Z_W1 := zh (show W.heap.size ≤ W1.heap.size from c.size)
 clear c
 rcases Bool.eq_false_or_eq_true (ansB (a0, a1, x2, x3) a4 x6 now) with han | han
 rotate_left
 ·
  rw [han]
  have HF := zh (fin_ans (now := now) (d := ((a0, a1, x2, x3), a4, a5, x6)) han)
  clear han
  have cp_B0_0 := cls7 B0.out
  go_wp2
  clear cp_B0_0
  go_ret
  exact ⟨Jy HF.out.symm, d.out⟩
 rw [han]
 have HAN := zh han
 clear han
 have cp_B0_0 := cls7 B0.out
 go_wp2_with fail
 clear cp_B0_0
 refine (isTime_any a5 _).mono ?_
 rintro e wx ⟨rfl, hwx⟩
 obtain rfl := hwx.symm
 have HT : Hid (decide (0 ≤ a5 ∧ a5 ≤ 100000) = Ea now ((a0, a1, x2, x3), a4, a5, x6)) := zh (by
  obtain ⟨q1, q2, q3⟩ := ans_iff HAN.out
  by_cases g : 0 ≤ a5 ∧ a5 ≤ 100000
  ·
   rw [decide_eq_true g]; exact (fin_yes (now := now) (d := ((a0, a1, x2, x3), a4, a5, x6)) q1 ⟨q2, g⟩ q3).symm
  ·
   rw [decide_eq_false g]; exact (fin_no2 (now := now) (d := ((a0, a1, x2, x3), a4, a5, x6)) (fun q => g q.2)).symm)
 rw [HT.out]
 have cp_B0_0 := cls7 B0.out
 go_wp2
 clear cp_B0_0
 go_ret
 exact ⟨rfl, d.out⟩
set_option maxHeartbeats 8000000 in
theorem allFin (now : Int) (B : Nat) (v : Value) (l : List FinD) (w : World) (hB : w.heap[B]? = some (.cells #[.int .i64 now] 3 (0, 0))) (h : Ko Jg w v l) (hs : zL Jg l ≤ 1048576) :
  Calls Tryz.prog 69 #[v, .func (.func 198) #[] #[.pointer (some ⟨B, 0, none⟩)]] w (fun e w' => e = .returned (.bool (l.all (Ea now))) ∧ Below w w w') := by
 have hlen := Jz hs
 have HS := zh hs
 have H := zh h
 have BB := zh hB
 obtain ⟨a, cap, rfl⟩ := Jl h
 clear h hs hB
 go_enter Tryz.func69, Tryz.ntmps69
 go_wp2
 go_loopw [9] (fun i wr => ∃ k : Nat, k ≤ l.length ∧ i = .int .i64 k ∧ Hid (Ux (Ea now) f0D l k) ∧ Below w w wr) (fun i _ => l.length - (intOf i).toNat)
 case atStart => exact ⟨0, Ij _, rfl, zh (Xy _ _ _), Il _ _⟩
 case round =>
  obtain ⟨k, hk, rfl, hno, c⟩ := hrel
  have cw := zh c
  by_cases hlt : k < l.length
  ·
   have i1 : (0 : Int) ≤ (k : Int) := by omega
   have i2 : (k : Int) < (l.length : Int) := by omega
   have hz := Vj HS.out hlt
   change Jg.sz (l.getD k f0D) ≤ 1048576 at hz
   have HST : Hid ((Ea now) (l.getD k f0D) = true → Ux (Ea now) f0D l (k + 1)) := zh (fun g => Xz hno.out g)
   have HNO : Hid ((Ea now) (l.getD k f0D) = false → l.all (Ea now) = false) := zh (fun g => allB_no f0D hlt g)
   obtain ⟨b, off, cap', p2, c2, p3, c3, p6, c6, hv, hbl, e0, e1, e2, e3, e4, e5, e6, s2, s3, s6⟩ := fin_at (Jb Jn H.out c) hlt
   simp only [Ik] at hv
   obtain ⟨rfl, _, rfl⟩ := hv
   generalize l.getD k f0D = x at *
   obtain ⟨⟨a0, a1, x2, x3⟩, a4, a5, x6⟩ := x
   rw [Er] at hz
   dsimp only at *
   have hal : Below wr wr (wr.alloc (.cells #[a0, a1, .slice p2 x2.length c2, .slice p3 x3.length c3, a4, a5, .slice p6 x6.length c6] 59)) := (Il _ _).alloc (Ii _) _
   have HC0 := finClos now a0 a1 a4 a5 (.slice p2 x2.length c2) (.slice p3 x3.length c3) (.slice p6 x6.length c6) x2 x3 x6 B _ (Jb Jt s2 hal) (Jb Jc s3 hal) (Jb Jw s6 hal) (by omega) (by omega) (by omega) (((cw.out.trans (hal.mono cw.out.size)).block B (Array.getElem?_eq_some_iff.1 BB.out).1).trans BB.out)
   have HC := zh (HC0.mono (fun e w' hh => (⟨hh.1, hal.trans (hh.2.mono hal.size)⟩ : e = .returned (.bool (Ea now ((a0, a1, x2, x3), a4, a5, x6))) ∧ Below wr wr w')))
   clear HC0 hal s2 s3 s6 hz hbl
   clear hno c
   obtain ⟨bv, hbv⟩ : ∃ bv, bv = Ea now ((a0, a1, x2, x3), a4, a5, x6) := ⟨_, rfl⟩
   rw [← hbv] at HC HST HNO
   clear hbv
   cases bv with
   | true =>
    have HT := zh (HST.out rfl)
    clear HST HNO
    go_wp2_with fail
    refine HC.out.mono ?_
    rintro e w2 ⟨rfl, c2⟩
    have cw2 := zh (cw.out.trans (c2.mono cw.out.size))
    clear c2 HC e0 e1 e2 e3 e4 e5 e6
    go_wp2
    go_roundw
    case rel => exact ⟨k + 1, by omega, by go_num, HT, cw2.out⟩
    case measure => simp [intOf]; omega
   | false =>
    have HF := zh (HNO.out rfl)
    clear HST HNO
    go_wp2_with fail
    refine HC.out.mono ?_
    rintro e w2 ⟨rfl, c2⟩
    have cw2 := zh (cw.out.trans (c2.mono cw.out.size))
    clear c2 HC e0 e1 e2 e3 e4 e5 e6
    go_wp2
    go_ret
    exact ⟨Jy HF.out.symm, cw2.out⟩
  ·
   obtain rfl : k = l.length := by omega
   have HA := zh (Ee (p := Ea now) f0D hno.out)
   clear hno c
   go_wp2
   go_ret
   exact ⟨Jy HA.out.symm, cw.out⟩
set_option maxHeartbeats 8000000 in
theorem areFinished_any (v : Value) (l : List FinD) (now : Int) (w : World) (h : Ko Jg w v l) (hs : zL Jg l ≤ 1048576) :
  Calls Tryz.prog 135 #[v, .int .i64 now] w (fun e w' => e = .returned (.bool (decide (l.length ≤ 1000) && l.all (Ea now))) ∧ Below w w w') := by
 have hlen := Jz hs
 have hal : Below w w (w.alloc (.cells #[.int .i64 now] 3)) := (Il _ _).alloc (Ii _) _
 have d := zh hal
 have HC := zh (allFin now w.heap.size v l _ (Ic w (.cells #[.int .i64 now] 3)) (Jb Jn h hal) hs)
 have hmf : ∀ (fn : Fn) (first cap : Array Value) (w : World), (Instr.makeFunc fn first cap).run Tryz.prog w = .ok (.func fn first cap) w := fun _ _ _ _ => rfl
 obtain ⟨a, cap, rfl⟩ := Jl h
 clear hal h hs
 by_cases h9 : l.length ≤ 1000
 ·
  rw [decide_eq_true h9, Bool.true_and]
  have f1 : decide ((l.length : Int) ≤ 1000) = true := decide_eq_true (by omega)
  clear h9
  go_enter Tryz.func135, Tryz.ntmps135
  go_wp2_with fail
  refine HC.out.mono ?_
  rintro e w1 ⟨rfl, c⟩
  have d2 := zh (d.out.trans (c.mono d.out.size))
  clear c HC f1
  go_wp2
  go_ret
  exact ⟨rfl, d2.out⟩
 ·
  have HF : Hid ((decide (l.length ≤ 1000) && l.all (Ea now)) = false) := zh (by rw [decide_eq_false h9]; rfl)
  rw [HF.out]
  have f1 : decide ((l.length : Int) ≤ 1000) = false := decide_eq_false (by omega)
  clear h9 HC
  go_enter Tryz.func135, Tryz.ntmps135
  go_wp2
  go_ret
  exact ⟨rfl, d.out⟩
set_option maxHeartbeats 8000000 in
theorem implIsCharge (sg ba : Int) (v2 v3 v4 : Value) (x2 x3 x4 : List Int) (w : World) (h2 : Ko Je w v2 x2) (h3 : Ko Je w v3 x3) (h4 : Ko Je w v4 x4) (s2 : zL Je x2 ≤ 1048576) (s3 : zL Je x3 ≤ 1048576) (s4 : zL Je x4 ≤ 1048576) :
  Calls Tryz.prog 137 #[.agg #[.int .i64 sg, .int .i64 ba, v2, v3, v4]] w (fun e w' => e = .returned (.bool (Ve (sg, ba, x2, x3, x4))) ∧ Below w w w') := by
 obtain ⟨p2, c2, rfl⟩ := Jl h2
 have H2 := zh h2; have S2 := zh s2; have n2 := Jz s2
 obtain ⟨p3, c3, rfl⟩ := Jl h3
 have H3 := zh h3; have S3 := zh s3; have n3 := Jz s3
 obtain ⟨p4, c4, rfl⟩ := Jl h4
 have H4 := zh h4; have S4 := zh s4; have n4 := Jz s4
 have HMF : Hid (∀ (fn : Fn) (first cap : Array Value) (w : World), (Instr.makeFunc fn first cap).run Tryz.prog w = .ok (.func fn first cap) w) := zh (fun _ _ _ _ => rfl)
 clear h2 h3 h4 s2 s3 s4
 have d := zh (show Below w w (w.alloc (.cells #[.int .i64 sg, .int .i64 ba, .slice p2 x2.length c2, .slice p3 x3.length c3, .slice p4 x4.length c4] 162)) from ((Il _ w).alloc (Ii _) _))
 have B0 : Hid ((w.alloc (.cells #[.int .i64 sg, .int .i64 ba, .slice p2 x2.length c2, .slice p3 x3.length c3, .slice p4 x4.length c4] 162)).heap[w.heap.size]? = some (.cells #[.int .i64 sg, .int .i64 ba, .slice p2 x2.length c2, .slice p3 x3.length c3, .slice p4 x4.length c4] 162 (0, 0))) := zh (by
  exact Ic w _)
 have YW : Hid (w.heap.size + 1 ≤ (w.alloc (.cells #[.int .i64 sg, .int .i64 ba, .slice p2 x2.length c2, .slice p3 x3.length c3, .slice p4 x4.length c4] 162)).heap.size) := zh (by simp [Ie])
 go_enter Tryz.func137, Tryz.ntmps137
 go_wp2_with fail
 generalize (w.alloc (.cells #[.int .i64 sg, .int .i64 ba, .slice p2 x2.length c2, .slice p3 x3.length c3, .slice p4 x4.length c4] 162)) = W at *
 refine (implIsSet (.slice p2 x2.length c2) x2 W (Yd (Jb Jc H2.out d.out)) n2).mono ?_
 rintro e W1 ⟨rfl, c⟩
 replace B0 := zb c B0
 replace d := zD d c
 have Z_W1 := zh (show W.heap.size ≤ W1.heap.size from c.size)
 clear c
 rcases Bool.eq_false_or_eq_true (setB x2) with hset | hset
 rotate_left
 ·
  rw [hset]
  have HF := zh (charge_no1 (x := (sg, ba, x2, x3, x4)) hset)
  clear hset
  have cp_B0_0 := Ed B0.out
  go_wp2
  clear cp_B0_0
  go_ret
  exact ⟨Jy HF.out.symm, d.out⟩
 rw [hset]
 have HSET := zh hset
 clear hset
 by_cases hp1 : 1 ≤ x2.length
 rotate_left
 ·
  have HF := zh (Yh (x := (sg, ba, x2, x3, x4)) (fun g => hp1 g.1.1))
  have f1 : decide (1 ≤ (x2.length : Int)) = false := decide_eq_false (by omega)
  clear hp1
  have cp_B0_0 := Ed B0.out
  go_wp2
  clear cp_B0_0
  go_ret
  exact ⟨Jy HF.out.symm, d.out⟩
 have f1 : decide (1 ≤ (x2.length : Int)) = true := decide_eq_true (by omega)
 have HP1 := zh hp1
 clear hp1
 by_cases hp2 : x2.length ≤ 8
 rotate_left
 ·
  have HF := zh (Yh (x := (sg, ba, x2, x3, x4)) (fun g => hp2 g.1.2))
  have f2 : decide ((x2.length : Int) ≤ 8) = false := decide_eq_false (by omega)
  clear hp2
  have cp_B0_0 := Ed B0.out
  go_wp2
  clear cp_B0_0
  go_ret
  exact ⟨Jy HF.out.symm, d.out⟩
 have f2 : decide ((x2.length : Int) ≤ 8) = true := decide_eq_true (by omega)
 have HP2 := zh hp2
 clear hp2
 by_cases hp3 : x3.length = x2.length
 rotate_left
 ·
  have HF := zh (Yh (x := (sg, ba, x2, x3, x4)) (fun g => hp3 g.2.1.1))
  have f3 : ((x3.length : Int) == (x2.length : Int)) = false := by simp only [beq_eq_false_iff_ne, ne_eq]; omega
  clear hp3
  have cp_B0_0 := Ed B0.out
  go_wp2
  clear cp_B0_0
  go_ret
  exact ⟨Jy HF.out.symm, d.out⟩
 have f3 : ((x3.length : Int) == (x2.length : Int)) = true := by simp only [beq_iff_eq]; omega
 have HP3 := zh hp3
 clear hp3
 by_cases hp4 : x4.length = x2.length
 rotate_left
 ·
  have HF := zh (Yh (x := (sg, ba, x2, x3, x4)) (fun g => hp4 g.2.1.2))
  have f4 : ((x4.length : Int) == (x2.length : Int)) = false := by simp only [beq_eq_false_iff_ne, ne_eq]; omega
  clear hp4
  have cp_B0_0 := Ed B0.out
  go_wp2
  clear cp_B0_0
  go_ret
  exact ⟨Jy HF.out.symm, d.out⟩
 have f4 : ((x4.length : Int) == (x2.length : Int)) = true := by simp only [beq_iff_eq]; omega
 have HP4 := zh hp4
 clear hp4
 by_cases hp5 : 0 ≤ sg
 rotate_left
 ·
  have HF := zh (Yh (x := (sg, ba, x2, x3, x4)) (fun g => hp5 g.2.2.1.1))
  have f5 : decide (0 ≤ sg) = false := decide_eq_false (by omega)
  clear hp5
  have cp_B0_0 := Ed B0.out
  go_wp2
  clear cp_B0_0
  go_ret
  exact ⟨Jy HF.out.symm, d.out⟩
 have f5 : decide (0 ≤ sg) = true := decide_eq_true (by omega)
 have HP5 := zh hp5
 clear hp5
 by_cases hp6 : sg < 8
 rotate_left
 ·
  have HF := zh (Yh (x := (sg, ba, x2, x3, x4)) (fun g => hp6 (by have := g.2.2.1.2; show sg < 8; simp only at this; omega)))
  have f6 : decide (sg < 8) = false := decide_eq_false (by omega)
  clear hp6
  have cp_B0_0 := Ed B0.out
  go_wp2
  clear cp_B0_0
  go_ret
  exact ⟨Jy HF.out.symm, d.out⟩
 have f6 : decide (sg < 8) = true := decide_eq_true (by omega)
 have HP6 := zh hp6
 clear hp6
 by_cases hp7 : 0 ≤ ba
 rotate_left
 ·
  have HF := zh (Yh (x := (sg, ba, x2, x3, x4)) (fun g => hp7 g.2.2.2.1))
  have f7 : decide (0 ≤ ba) = false := decide_eq_false (by omega)
  clear hp7
  have cp_B0_0 := Ed B0.out
  go_wp2
  clear cp_B0_0
  go_ret
  exact ⟨Jy HF.out.symm, d.out⟩
 have f7 : decide (0 ≤ ba) = true := decide_eq_true (by omega)
 have HP7 := zh hp7
 clear hp7
 by_cases hp8 : ba ≤ 4
 rotate_left
 ·
  have HF := zh (Yh (x := (sg, ba, x2, x3, x4)) (fun g => hp8 g.2.2.2.2))
  have f8 : decide (ba ≤ 4) = false := decide_eq_false (by omega)
  clear hp8
  have cp_B0_0 := Ed B0.out
  go_wp2
  clear cp_B0_0
  go_ret
  exact ⟨Jy HF.out.symm, d.out⟩
 have f8 : decide (ba ≤ 4) = true := decide_eq_true (by omega)
 have HP8 := zh hp8
 clear hp8
 have HH : Hid (chargeHP (sg, ba, x2, x3, x4)) := zh ⟨⟨HP1.out, HP2.out⟩, ⟨HP3.out, HP4.out⟩, ⟨HP5.out, by have := HP6.out; show sg ≤ 7; omega⟩, ⟨HP7.out, HP8.out⟩⟩
 have cp_B0_0 := Ed B0.out
 go_wp2_with fail
 clear cp_B0_0 f1 f2 f3 f4 f5 f6 f7 f8
 refine (allTen (.slice p3 x3.length c3) x3 W1 (Jb Jc H3.out d.out) S3.out).mono ?_
 rintro e W8 ⟨rfl, c⟩
 replace B0 := zb c B0
 replace d := zD d c
 have Z_W8 := zh (show W1.heap.size ≤ W8.heap.size from c.size)
 clear c
 rcases Bool.eq_false_or_eq_true (x3.all tenB) with hten | hten
 rotate_left
 ·
  rw [hten]
  have HF := zh (charge_no3 (x := (sg, ba, x2, x3, x4)) hten)
  clear hten
  have cp_B0_0 := Ed B0.out
  go_wp2
  clear cp_B0_0
  go_ret
  exact ⟨Jy HF.out.symm, d.out⟩
 rw [hten]
 have HTEN := zh hten
 clear hten
 have cp_B0_0 := Ed B0.out
 have hmf := HMF.out
 go_wp2_with fail
 clear cp_B0_0 hmf
 refine (allGet sg ba p2 p3 p4 x2.length c2 x3.length c3 x4.length c4 (.slice p4 x4.length c4) x4 W8 (Jb Jc H4.out d.out) S4.out).mono ?_
 rintro e W9 ⟨rfl, c⟩
 replace B0 := zb c B0
 replace d := zD d c
 have Z_W9 := zh (show W8.heap.size ≤ W9.heap.size from c.size)
 clear c
 have HT : Hid (x4.all (getB ba) = Ve (sg, ba, x2, x3, x4)) := zh (by
  rcases Bool.eq_false_or_eq_true (x4.all (getB ba)) with g | g
  ·
   rw [g]; exact (charge_yes (x := (sg, ba, x2, x3, x4)) HSET.out HH.out HTEN.out g).symm
  ·
   rw [g]; exact (charge_no4 (x := (sg, ba, x2, x3, x4)) g).symm)
 rw [HT.out]
 have cp_B0_0 := Ed B0.out
 go_wp2
 clear cp_B0_0
 go_ret
 exact ⟨rfl, d.out⟩
set_option maxHeartbeats 8000000 in
theorem allCharge  (v : Value) (l : List Xu) (w : World)  (h : Ko Jo w v l) (hs : zL Jo l ≤ 1048576) :
  Calls Tryz.prog 136 #[v, .func (.func 137) #[] #[]] w (fun e w' => e = .returned (.bool (l.all (Ve))) ∧ Below w w w') := by
 have hlen := Jz hs
 have HS := zh hs
 have H := zh h
 obtain ⟨a, cap, rfl⟩ := Jl h
 clear h hs
 go_enter Tryz.func136, Tryz.ntmps136
 go_wp2
 go_loopw [9] (fun i wr => ∃ k : Nat, k ≤ l.length ∧ i = .int .i64 k ∧ Hid (Ux (Ve) x0D l k) ∧ Below w w wr) (fun i _ => l.length - (intOf i).toNat)
 case atStart => exact ⟨0, Ij _, rfl, zh (Xy _ _ _), Il _ _⟩
 case round =>
  obtain ⟨k, hk, rfl, hno, c⟩ := hrel
  have cw := zh c
  by_cases hlt : k < l.length
  ·
   have i1 : (0 : Int) ≤ (k : Int) := by omega
   have i2 : (k : Int) < (l.length : Int) := by omega
   have hz := Vj HS.out hlt
   change Jo.sz (l.getD k x0D) ≤ 1048576 at hz
   have HST : Hid ((Ve) (l.getD k x0D) = true → Ux (Ve) x0D l (k + 1)) := zh (fun g => Xz hno.out g)
   have HNO : Hid ((Ve) (l.getD k x0D) = false → l.all (Ve) = false) := zh (fun g => allB_no x0D hlt g)
   obtain ⟨b, off, cap', p2, c2, p3, c3, p4, c4, hv, hbl, e0, e1, e2, e3, e4, s2, s3, s4⟩ := chg_at (Jb Jr H.out c) hlt
   simp only [Ik] at hv
   obtain ⟨rfl, _, rfl⟩ := hv
   generalize l.getD k x0D = x at *
   obtain ⟨sg, ba, x2, x3, x4⟩ := x
   rw [tCharge_sz] at hz
   dsimp only at *
   have hal : Below wr wr (wr.alloc (.cells #[.int .i64 sg, .int .i64 ba, .slice p2 x2.length c2, .slice p3 x3.length c3, .slice p4 x4.length c4] 162)) := (Il _ _).alloc (Ii _) _
   have HC0 := implIsCharge sg ba (.slice p2 x2.length c2) (.slice p3 x3.length c3) (.slice p4 x4.length c4) x2 x3 x4 _ (Jb Jc s2 hal) (Jb Jc s3 hal) (Jb Jc s4 hal) (by omega) (by omega) (by omega)
   have HC := zh (HC0.mono (fun e w' hh => (⟨hh.1, hal.trans (hh.2.mono hal.size)⟩ : e = .returned (.bool (Ve (sg, ba, x2, x3, x4))) ∧ Below wr wr w')))
   clear HC0 hal s2 s3 s4 hz hbl
   clear hno c
   obtain ⟨bv, hbv⟩ : ∃ bv, bv = Ve (sg, ba, x2, x3, x4) := ⟨_, rfl⟩
   rw [← hbv] at HC HST HNO
   clear hbv
   cases bv with
   | true =>
    have HT := zh (HST.out rfl)
    clear HST HNO
    go_wp2_with fail
    refine HC.out.mono ?_
    rintro e w2 ⟨rfl, c2⟩
    have cw2 := zh (cw.out.trans (c2.mono cw.out.size))
    clear c2 HC e0 e1 e2 e3 e4
    go_wp2
    go_roundw
    case rel => exact ⟨k + 1, by omega, by go_num, HT, cw2.out⟩
    case measure => simp [intOf]; omega
   | false =>
    have HF := zh (HNO.out rfl)
    clear HST HNO
    go_wp2_with fail
    refine HC.out.mono ?_
    rintro e w2 ⟨rfl, c2⟩
    have cw2 := zh (cw.out.trans (c2.mono cw.out.size))
    clear c2 HC e0 e1 e2 e3 e4
    go_wp2
    go_ret
    exact ⟨Jy HF.out.symm, cw2.out⟩
  ·
   obtain rfl : k = l.length := by omega
   have HA := zh (Ee (p := Ve) x0D hno.out)
   clear hno c
   go_wp2
   go_ret
   exact ⟨Jy HA.out.symm, cw.out⟩
theorem order_mem {os : List Int} (h : Xd os = true) (f : Int) : f ∈ os ↔ f = 0 ∨ f = 1 ∨ f = 2 := by
 unfold Xd at h
 rw [Bool.and_eq_true, List.all_eq_true, decide_eq_true_eq] at h
 obtain ⟨hl, ha⟩ := h
 match os, hl with
 | [a, b, c], _ =>
  have h0 := ha 0 (List.mem_range.2 (by simp))
  have h1 := ha 1 (List.mem_range.2 (by simp))
  have h2 := ha 2 (List.mem_range.2 (by simp))
  simp at h0 h1 h2
  simp
  omega
theorem order_len {os : List Int} (h : Xd os = true) : os.length = 3 := by
 unfold Xd at h
 rw [Bool.and_eq_true, decide_eq_true_eq] at h
 exact h.1
theorem order_in {os : List Int} : Xd os = true ↔ os ∈ Et := by
 constructor
 ·
  intro h
  have hl := order_len h
  have hm := order_mem h
  match os, hl with
  | [a, b, c], _ =>
   have h2 := h
   unfold Xd at h2
   rw [Bool.and_eq_true, List.all_eq_true, decide_eq_true_eq] at h2
   have e0 := h2.2 0 (List.mem_range.2 (by simp))
   have e1 := h2.2 1 (List.mem_range.2 (by simp))
   have e2 := h2.2 2 (List.mem_range.2 (by simp))
   simp at e0 e1 e2
   have ha : a = 0 ∨ a = 1 ∨ a = 2 := by omega
   have hb : b = 0 ∨ b = 1 ∨ b = 2 := by omega
   have hc : c = 0 ∨ c = 1 ∨ c = 2 := by omega
   rcases ha with rfl | rfl | rfl <;> rcases hb with rfl | rfl | rfl <;> rcases hc with rfl | rfl | rfl <;> simp_all [Et]
 ·
  intro h
  simp only [Et, List.mem_cons, List.not_mem_nil, or_false] at h
  rcases h with rfl | rfl | rfl | rfl | rfl | rfl <;> decide
def ordC : List Int := [0, 1, 2, 0, 2, 1, 1, 0, 2, 1, 2, 0, 2, 0, 1, 2, 1, 0]
/-- The table of orders reads as its text lays it. -/
def OrdT (w : World) : Prop := ∀ i, i < 18 → w.cell? ⟨2, i, none⟩ = some (.int .i64 (ordC.getD i 0))
theorem OrdT.on {w w' : World} (h : OrdT w) (hb : Below w w w') : OrdT w' := by
 intro i hi
 have h1 := h i hi
 have hlt : 2 < w.heap.size := by
  cases hc : w.heap[2]? with
  | none => simp [World.cell?, hc] at h1
  | some x => exact (Array.getElem?_eq_some_iff.1 hc).1
 exact (hb.cell (p := ⟨2, i, none⟩) hlt).trans h1
/-- The k-th order's fields. -/
def oN (k j : Nat) : Int := (Et.getD k []).getD j 0
theorem oN_in {k : Nat} (h : k < 6) : Xd [oN k 0, oN k 1, oN k 2] = true := by
 rcases (show k = 0 ∨ k = 1 ∨ k = 2 ∨ k = 3 ∨ k = 4 ∨ k = 5 by omega) with rfl | rfl | rfl | rfl | rfl | rfl <;> decide
theorem order_all6 {os : List Int} (h : ∀ j, j < 6 → ¬ [oN j 0, oN j 1, oN j 2] = os) : Xd os = false := by
 cases hc : Xd os with
 | false => rfl
 | true =>
  have hm := order_in.1 hc
  simp only [Et, List.mem_cons, List.not_mem_nil, or_false] at hm
  rcases hm with rfl | rfl | rfl | rfl | rfl | rfl
  ·
   exact absurd rfl (h 0 (by omega))
  ·
   exact absurd rfl (h 1 (by omega))
  ·
   exact absurd rfl (h 2 (by omega))
  ·
   exact absurd rfl (h 3 (by omega))
  ·
   exact absurd rfl (h 4 (by omega))
  ·
   exact absurd rfl (h 5 (by omega))
theorem idxO0 (w : World) : Sem.run Tryz.prog (Instr.index 233 (.agg #[Ja, .int .i64 1, .int .i64 2, Ja, .int .i64 2, .int .i64 1, .int .i64 1, Ja, .int .i64 2, .int .i64 1, .int .i64 2, Ja, .int .i64 2, Ja, .int .i64 1, .int .i64 2, .int .i64 1, Ja]) Ja) w = .ok (.agg #[Ja, .int .i64 1, .int .i64 2]) w := by
 have u := Tryz.underlying233
 have z := Tryz.sizeOf168
 have g := Tryz.isAgg168
 unfold Instr.index
 go_simp
theorem idxO1 (w : World) : Sem.run Tryz.prog (Instr.index 233 (.agg #[Ja, .int .i64 1, .int .i64 2, Ja, .int .i64 2, .int .i64 1, .int .i64 1, Ja, .int .i64 2, .int .i64 1, .int .i64 2, Ja, .int .i64 2, Ja, .int .i64 1, .int .i64 2, .int .i64 1, Ja]) (.int .i64 1)) w = .ok (.agg #[Ja, .int .i64 2, .int .i64 1]) w := by
 have u := Tryz.underlying233
 have z := Tryz.sizeOf168
 have g := Tryz.isAgg168
 unfold Instr.index
 go_simp
theorem idxO2 (w : World) : Sem.run Tryz.prog (Instr.index 233 (.agg #[Ja, .int .i64 1, .int .i64 2, Ja, .int .i64 2, .int .i64 1, .int .i64 1, Ja, .int .i64 2, .int .i64 1, .int .i64 2, Ja, .int .i64 2, Ja, .int .i64 1, .int .i64 2, .int .i64 1, Ja]) (.int .i64 2)) w = .ok (.agg #[.int .i64 1, Ja, .int .i64 2]) w := by
 have u := Tryz.underlying233
 have z := Tryz.sizeOf168
 have g := Tryz.isAgg168
 unfold Instr.index
 go_simp
theorem idxO3 (w : World) : Sem.run Tryz.prog (Instr.index 233 (.agg #[Ja, .int .i64 1, .int .i64 2, Ja, .int .i64 2, .int .i64 1, .int .i64 1, Ja, .int .i64 2, .int .i64 1, .int .i64 2, Ja, .int .i64 2, Ja, .int .i64 1, .int .i64 2, .int .i64 1, Ja]) (.int .i64 3)) w = .ok (.agg #[.int .i64 1, .int .i64 2, Ja]) w := by
 have u := Tryz.underlying233
 have z := Tryz.sizeOf168
 have g := Tryz.isAgg168
 unfold Instr.index
 go_simp
theorem idxO4 (w : World) : Sem.run Tryz.prog (Instr.index 233 (.agg #[Ja, .int .i64 1, .int .i64 2, Ja, .int .i64 2, .int .i64 1, .int .i64 1, Ja, .int .i64 2, .int .i64 1, .int .i64 2, Ja, .int .i64 2, Ja, .int .i64 1, .int .i64 2, .int .i64 1, Ja]) (.int .i64 4)) w = .ok (.agg #[.int .i64 2, Ja, .int .i64 1]) w := by
 have u := Tryz.underlying233
 have z := Tryz.sizeOf168
 have g := Tryz.isAgg168
 unfold Instr.index
 go_simp
theorem idxO5 (w : World) : Sem.run Tryz.prog (Instr.index 233 (.agg #[Ja, .int .i64 1, .int .i64 2, Ja, .int .i64 2, .int .i64 1, .int .i64 1, Ja, .int .i64 2, .int .i64 1, .int .i64 2, Ja, .int .i64 2, Ja, .int .i64 1, .int .i64 2, .int .i64 1, Ja]) (.int .i64 5)) w = .ok (.agg #[.int .i64 2, .int .i64 1, Ja]) w := by
 have u := Tryz.underlying233
 have z := Tryz.sizeOf168
 have g := Tryz.isAgg168
 unfold Instr.index
 go_simp
theorem idxO {k : Nat} (h : k < 6) (w : World) : Sem.run Tryz.prog (Instr.index 233 (.agg #[Ja, .int .i64 1, .int .i64 2, Ja, .int .i64 2, .int .i64 1, .int .i64 1, Ja, .int .i64 2, .int .i64 1, .int .i64 2, Ja, .int .i64 2, Ja, .int .i64 1, .int .i64 2, .int .i64 1, Ja]) (.int .i64 (k : Int))) w = .ok (.agg #[.int .i64 (oN k 0), .int .i64 (oN k 1), .int .i64 (oN k 2)]) w := by
 rcases (show k = 0 ∨ k = 1 ∨ k = 2 ∨ k = 3 ∨ k = 4 ∨ k = 5 by omega) with rfl | rfl | rfl | rfl | rfl | rfl
 ·
  exact idxO0 w
 ·
  exact idxO1 w
 ·
  exact idxO2 w
 ·
  exact idxO3 w
 ·
  exact idxO4 w
 ·
  exact idxO5 w
theorem ints_three {w : World} {b : Nat} {x y z : Int} {t : TypeId} (h : w.heap[b]? = some (.cells #[.int .i64 x, .int .i64 y, .int .i64 z] t (0, 0))) : Uc w (.slice (some ⟨b, 0, none⟩) 3 3) [x, y, z] := by
 refine Or.inr ⟨b, 0, 3, rfl, Ii _, (Array.getElem?_eq_some_iff.1 h).1, fun j hj => ?_⟩
 rw [Nat.zero_add, Ia w b j _ _ _ h]
 match j, hj with
 | 0, _ => rfl
 | 1, _ => rfl
 | 2, _ => rfl
set_option maxHeartbeats 16000000 in
theorem implOrderOf (ov : Value) (os : List Int) (w : World) (h : Uc w ov os) (hn : os.length ≤ 1048576) (ht : OrdT w) :
  Calls Tryz.prog 130 #[ov] w fun e w' => ((Xd os = true ∧ e = .returned (.tuple #[.agg #[.int .i64 (os.getD 0 0), .int .i64 (os.getD 1 0), .int .i64 (os.getD 2 0)], .bool true])) ∨ (Xd os = false ∧ e = .returned (.tuple #[.agg #[Ja, Ja, Ja], .bool false]))) ∧ Below w w w' := by
 obtain ⟨oa, oc, rfl⟩ := Yg h
 have H := Lib.hid h
 have HN := Lib.hid hn
 have hal : Below w w (w.alloc (.cells #[Ja, Ja, Ja] 168)) := (Il _ _).alloc (Ii _) _
 have B0 : Hid ((w.alloc (.cells #[Ja, Ja, Ja] 168)).heap[w.heap.size]? = some (.cells #[Ja, Ja, Ja] 168 (0, 0))) := Lib.hid (Ic w _)
 have Y0 : Hid (w.heap.size < (w.alloc (.cells #[Ja, Ja, Ja] 168)).heap.size) := Lib.hid (by simp)
 have T0 := ht.on hal
 have d := Lib.hid hal
 clear h hn ht hal
 have t0 : (w.alloc (.cells #[Ja, Ja, Ja] 168)).cell? ⟨2, 0, none⟩ = some (.int .i64 0) := T0 0 (by omega)
 have t1 : (w.alloc (.cells #[Ja, Ja, Ja] 168)).cell? ⟨2, 1, none⟩ = some (.int .i64 1) := T0 1 (by omega)
 have t2 : (w.alloc (.cells #[Ja, Ja, Ja] 168)).cell? ⟨2, 2, none⟩ = some (.int .i64 2) := T0 2 (by omega)
 have t3 : (w.alloc (.cells #[Ja, Ja, Ja] 168)).cell? ⟨2, 3, none⟩ = some (.int .i64 0) := T0 3 (by omega)
 have t4 : (w.alloc (.cells #[Ja, Ja, Ja] 168)).cell? ⟨2, 4, none⟩ = some (.int .i64 2) := T0 4 (by omega)
 have t5 : (w.alloc (.cells #[Ja, Ja, Ja] 168)).cell? ⟨2, 5, none⟩ = some (.int .i64 1) := T0 5 (by omega)
 have t6 : (w.alloc (.cells #[Ja, Ja, Ja] 168)).cell? ⟨2, 6, none⟩ = some (.int .i64 1) := T0 6 (by omega)
 have t7 : (w.alloc (.cells #[Ja, Ja, Ja] 168)).cell? ⟨2, 7, none⟩ = some (.int .i64 0) := T0 7 (by omega)
 have t8 : (w.alloc (.cells #[Ja, Ja, Ja] 168)).cell? ⟨2, 8, none⟩ = some (.int .i64 2) := T0 8 (by omega)
 have t9 : (w.alloc (.cells #[Ja, Ja, Ja] 168)).cell? ⟨2, 9, none⟩ = some (.int .i64 1) := T0 9 (by omega)
 have t10 : (w.alloc (.cells #[Ja, Ja, Ja] 168)).cell? ⟨2, 10, none⟩ = some (.int .i64 2) := T0 10 (by omega)
 have t11 : (w.alloc (.cells #[Ja, Ja, Ja] 168)).cell? ⟨2, 11, none⟩ = some (.int .i64 0) := T0 11 (by omega)
 have t12 : (w.alloc (.cells #[Ja, Ja, Ja] 168)).cell? ⟨2, 12, none⟩ = some (.int .i64 2) := T0 12 (by omega)
 have t13 : (w.alloc (.cells #[Ja, Ja, Ja] 168)).cell? ⟨2, 13, none⟩ = some (.int .i64 0) := T0 13 (by omega)
 have t14 : (w.alloc (.cells #[Ja, Ja, Ja] 168)).cell? ⟨2, 14, none⟩ = some (.int .i64 1) := T0 14 (by omega)
 have t15 : (w.alloc (.cells #[Ja, Ja, Ja] 168)).cell? ⟨2, 15, none⟩ = some (.int .i64 2) := T0 15 (by omega)
 have t16 : (w.alloc (.cells #[Ja, Ja, Ja] 168)).cell? ⟨2, 16, none⟩ = some (.int .i64 1) := T0 16 (by omega)
 have t17 : (w.alloc (.cells #[Ja, Ja, Ja] 168)).cell? ⟨2, 17, none⟩ = some (.int .i64 0) := T0 17 (by omega)
 clear T0
 go_enter Tryz.func130, Tryz.ntmps130
 go_wp2
 generalize w.alloc (.cells #[Ja, Ja, Ja] 168) = W at *
 clear t0 t1 t2 t3 t4 t5 t6 t7 t8 t9 t10 t11 t12 t13 t14 t15 t16 t17
 go_loopw [7] (fun i wr => ∃ k : Nat, k ≤ 6 ∧ i = .int .i64 k ∧ Hid (∀ j, j < k → ¬ [oN j 0, oN j 1, oN j 2] = os) ∧ Hid (wr.heap[w.heap.size]? = some (.cells #[Ja, Ja, Ja] 168 (0, 0))) ∧ Hid (Below w w wr) ∧ Hid (w.heap.size < wr.heap.size)) (fun i _ => 6 - (intOf i).toNat)
 case atStart => exact ⟨0, Ij _, rfl, Lib.hid (fun j hj => by omega), B0, d, Y0⟩
 case round =>
  clear B0 d Y0
  obtain ⟨k, hk, rfl, hno, B0, d, Y0⟩ := hrel
  by_cases hlt : k < 6
  ·
   have hI := idxO hlt
   have HIN := Lib.hid (oN_in hlt)
   have i1 : (0 : Int) ≤ (k : Int) := by omega
   have i2 : (k : Int) < 6 := by omega
   have HST : Hid (¬ [oN k 0, oN k 1, oN k 2] = os → ∀ j, j < k + 1 → ¬ [oN j 0, oN j 1, oN j 2] = os) := Lib.hid (fun he j hj => by
    by_cases e : j = k
    ·
     exact e ▸ he
    ·
     exact hno.out j (by omega))
   clear hno
   generalize oN k 0 = x at *
   generalize oN k 1 = y at *
   generalize oN k 2 = z at *
   have hal : Below wr wr (wr.alloc (.cells #[.int .i64 x, .int .i64 y, .int .i64 z] 168)) := (Il _ _).alloc (Ii _) _
   have B1 : Hid ((wr.alloc (.cells #[.int .i64 x, .int .i64 y, .int .i64 z] 168)).heap[wr.heap.size]? = some (.cells #[.int .i64 x, .int .i64 y, .int .i64 z] 168 (0, 0))) := Lib.hid (Ic wr _)
   have HQ := Lib.hid (fun w h g => equalInts_any (.slice (some ⟨wr, 0, none⟩) 3 3) (.slice oa os.length oc) [x, y, z] os w h g (by show 3 ≤ 1048576; decide) HN.out)
   by_cases he : [x, y, z] = os
   ·
    rw [decide_eq_true he] at HQ
    have HE := Lib.hid he
    clear he HST
    go_wp2_with fail
    generalize wr.alloc (.cells #[.int .i64 x, .int .i64 y, .int .i64 z] 168) = W2 at *
    have d2 := Lib.hid (d.out.trans (hal.mono d.out.size))
    refine (HQ.out W2 (ints_three B1.out) (Kx H.out d2.out)).mono ?_
    rintro e w3 ⟨rfl, c3⟩
    have B1' := (c3.block wr.heap.size (Array.getElem?_eq_some_iff.1 B1.out).1).trans B1.out
    have B0' := (c3.block w.heap.size (by have := Y0.out; have := hal.size; omega)).trans ((hal.block w.heap.size Y0.out).trans B0.out)
    have d3 := d2.out.trans (c3.mono d2.out.size)
    have p0 := (Ia w3 _ 0 _ _ _ B1').trans (show _ = some (Value.int .i64 x) from rfl)
    have p1 := (Ia w3 _ 1 _ _ _ B1').trans (show _ = some (Value.int .i64 y) from rfl)
    have p2 := (Ia w3 _ 2 _ _ _ B1').trans (show _ = some (Value.int .i64 z) from rfl)
    have q0 := (Ia w3 _ 0 _ _ _ B0').trans (show _ = some (Value.int .i64 0) from rfl)
    have q1 := (Ia w3 _ 1 _ _ _ B0').trans (show _ = some (Value.int .i64 0) from rfl)
    have q2 := (Ia w3 _ 2 _ _ _ B0').trans (show _ = some (Value.int .i64 0) from rfl)
    have f0 := Ez w3 _ 0 _ _ B0'
    have f1 := Ez w3 _ 1 _ _ B0'
    have f2 := Ez w3 _ 2 _ _ B0'
    have D := Lib.hid (((d3.setCell (p := ⟨w, 0, none⟩) (Ii _) (.int .i64 x)).setCell (p := ⟨w, 1, none⟩) (Ii _) (.int .i64 y)).setCell (p := ⟨w, 2, none⟩) (Ii _) (.int .i64 z))
    have r := Ib _ w.heap.size 2 _ _ (.int .i64 z) (Ib _ w.heap.size 1 _ _ (.int .i64 y) (Ib w3 w.heap.size 0 _ _ (.int .i64 x) B0'))
    simp at r
    have e0 := (Ia _ w.heap.size 0 _ _ _ r).trans (show _ = some (Value.int .i64 x) from rfl)
    have e1 := (Ia _ w.heap.size 1 _ _ _ r).trans (show _ = some (Value.int .i64 y) from rfl)
    have e2 := (Ia _ w.heap.size 2 _ _ _ r).trans (show _ = some (Value.int .i64 z) from rfl)
    clear r d3 c3 B0' B1' hal
    go_wp2
    refine bodyPost_ret (v := .tuple #[.agg #[.int .i64 x, .int .i64 y, .int .i64 z], .bool true]) ?_ rfl ?_
    ·
     simp [results, Tryz.f130, go_sem, e0, e1, e2]
    ·
     have he := HE.out
     subst he
     exact ⟨Or.inl ⟨HIN.out, rfl⟩, D.out⟩
   ·
    rw [decide_eq_false he] at HQ
    have HA := Lib.hid (HST.out he)
    clear he HST
    go_wp2_with fail
    generalize wr.alloc (.cells #[.int .i64 x, .int .i64 y, .int .i64 z] 168) = W2 at *
    have d2 := Lib.hid (d.out.trans (hal.mono d.out.size))
    refine (HQ.out W2 (ints_three B1.out) (Kx H.out d2.out)).mono ?_
    rintro e w3 ⟨rfl, c3⟩
    have B0' := Lib.hid ((c3.block w.heap.size (by have := Y0.out; have := hal.size; omega)).trans ((hal.block w.heap.size Y0.out).trans B0.out))
    have d3 := Lib.hid (d2.out.trans (c3.mono d2.out.size))
    have Y3 : Hid (w.heap.size < w3.heap.size) := Lib.hid (by have := Y0.out; have := hal.size; have := c3.size; omega)
    clear c3 hal B1 hI
    go_wp2
    go_roundw
    case rel => exact ⟨k + 1, by omega, by go_num, HA, B0', d3, Y3⟩
    case measure => simp [intOf]; omega
  ·
   obtain rfl : k = 6 := by omega
   have HF := Lib.hid (order_all6 hno.out)
   clear hno
   have q0 := (Ia wr _ 0 _ _ _ B0.out).trans (show _ = some (Value.int .i64 0) from rfl)
   have q1 := (Ia wr _ 1 _ _ _ B0.out).trans (show _ = some (Value.int .i64 0) from rfl)
   have q2 := (Ia wr _ 2 _ _ _ B0.out).trans (show _ = some (Value.int .i64 0) from rfl)
   have f0 := Ez wr _ 0 _ _ B0.out
   have f1 := Ez wr _ 1 _ _ B0.out
   have f2 := Ez wr _ 2 _ _ B0.out
   have D := Lib.hid (((d.out.setCell (p := ⟨w, 0, none⟩) (Ii _) Ja).setCell (p := ⟨w, 1, none⟩) (Ii _) Ja).setCell (p := ⟨w, 2, none⟩) (Ii _) Ja)
   have r := Ib _ w.heap.size 2 _ _ Ja (Ib _ w.heap.size 1 _ _ Ja (Ib wr w.heap.size 0 _ _ Ja B0.out))
   simp at r
   have e0 := (Ia _ w.heap.size 0 _ _ _ r).trans (show _ = some (Value.int .i64 0) from rfl)
   have e1 := (Ia _ w.heap.size 1 _ _ _ r).trans (show _ = some (Value.int .i64 0) from rfl)
   have e2 := (Ia _ w.heap.size 2 _ _ _ r).trans (show _ = some (Value.int .i64 0) from rfl)
   clear r
   go_wp2
   refine bodyPost_ret (v := .tuple #[.agg #[Ja, Ja, Ja], .bool false]) ?_ rfl ?_
   ·
    simp [results, Tryz.f130, go_sem, e0, e1, e2]
   ·
    exact ⟨Or.inr ⟨HF.out, rfl⟩, D.out⟩
set_option maxHeartbeats 16000000 in
theorem implIsEngine (now cu st : Int) (sv ov av dv lv : Value) (ss : List (List Kj)) (os : List Int) (qs : List Ua) (ds : List FinD) (ls : List Xu) (w : World) (hT : OrdT w)
  (h0 : Ko Jd w sv ss) (h3 : Ko Je w ov os) (h4 : Ko Ji w av qs) (h5 : Ko Jg w dv ds) (h6 : Ko Jo w lv ls) (hs : zL Jd ss + zL Je os + zL Ji qs + zL Jg ds + zL Jo ls ≤ 1048576) :
  Calls Tryz.prog 61 #[.agg #[sv, .int .i64 now, .int .i64 cu, ov, av, dv, lv, .int .i64 st]] w (fun e w' => e = .returned (.bool (engB ((ss, now), cu, os, qs, ds, ls, st))) ∧ Below w w w') := by
 have S0 : Hid (zL Jd ss ≤ 1048576) := zh (by omega)
 have S3 : Hid (zL Je os ≤ 1048576) := zh (by omega)
 have S4 : Hid (zL Ji qs ≤ 1048576) := zh (by omega)
 have S5 : Hid (zL Jg ds ≤ 1048576) := zh (by omega)
 have S6 : Hid (zL Jo ls ≤ 1048576) := zh (by omega)
 clear hs
 obtain ⟨sa, sc, rfl⟩ := Jl h0
 have H0 := zh h0
 obtain ⟨oa, oc, rfl⟩ := Jl h3
 have H3 := zh h3
 obtain ⟨aa, ac, rfl⟩ := Jl h4
 have H4 := zh h4
 obtain ⟨da, dc, rfl⟩ := Jl h5
 have H5 := zh h5
 obtain ⟨la, lc, rfl⟩ := Jl h6
 have H6 := zh h6
 have N0 := Jz S0.out; have N3 := Jz S3.out; have N4 := Jz S4.out; have N5 := Jz S5.out; have N6 := Jz S6.out
 have HTB := zh hT
 clear h0 h3 h4 h5 h6 hT
 have d := zh (show Below w w (w.alloc (.cells #[.slice sa ss.length sc, .int .i64 now, .int .i64 cu, .slice oa os.length oc, .slice aa qs.length ac, .slice da ds.length dc, .slice la ls.length lc, .int .i64 st] 40)) from ((Il _ w).alloc (Ii _) _))
 have B0 : Hid ((w.alloc (.cells #[.slice sa ss.length sc, .int .i64 now, .int .i64 cu, .slice oa os.length oc, .slice aa qs.length ac, .slice da ds.length dc, .slice la ls.length lc, .int .i64 st] 40)).heap[w.heap.size]? = some (.cells #[.slice sa ss.length sc, .int .i64 now, .int .i64 cu, .slice oa os.length oc, .slice aa qs.length ac, .slice da ds.length dc, .slice la ls.length lc, .int .i64 st] 40 (0, 0))) := zh (by
  exact Ic w _)
 have YW : Hid (w.heap.size + 1 ≤ (w.alloc (.cells #[.slice sa ss.length sc, .int .i64 now, .int .i64 cu, .slice oa os.length oc, .slice aa qs.length ac, .slice da ds.length dc, .slice la ls.length lc, .int .i64 st] 40)).heap.size) := zh (by simp [Ie])
 go_enter Tryz.func61, Tryz.ntmps61
 go_wp2_with fail
 generalize (w.alloc (.cells #[.slice sa ss.length sc, .int .i64 now, .int .i64 cu, .slice oa os.length oc, .slice aa qs.length ac, .slice da ds.length dc, .slice la ls.length lc, .int .i64 st] 40)) = W at *
 have HO := zh (implOrderOf (.slice oa os.length oc) os W (Yd (Jb Jc H3.out d.out)) N3 (HTB.out.on d.out))
 refine HO.out.mono ?_
 rintro e W1 ⟨hor, c⟩
 replace B0 := zb c B0
 replace d := zD d c
 have Z_W1 := zh (show W.heap.size ≤ W1.heap.size from c.size)
 clear c HO
 have HX : Hid (∃ z0 z1 z2 : Int, e = .returned (.tuple #[.agg #[.int .i64 z0, .int .i64 z1, .int .i64 z2], .bool (Xd os)])) := zh (by
  rcases hor with ⟨g, rfl⟩ | ⟨g, rfl⟩
  ·
   rw [g]; exact ⟨_, _, _, rfl⟩
  ·
   rw [g]; exact ⟨_, _, _, rfl⟩)
 obtain ⟨z0, z1, z2, rfl⟩ := HX.out
 clear HX hor
 have cp_B0_0 := Kz B0.out
 have cal : Below W1 W1 (W1.alloc (.cells #[.int .i64 z0, .int .i64 z1, .int .i64 z2] 168)) := (Il _ _).alloc (Ii _) _
 have KB0 := zh ((cal.block w.heap.size (Array.getElem?_eq_some_iff.1 B0.out).1).trans B0.out)
 have k0 := cr 0 (Value.slice sa ss.length sc) KB0.out
 have k1 := cr 1 (Value.int .i64 now) KB0.out
 have k2 := cr 2 (Value.int .i64 cu) KB0.out
 have k3 := cr 3 (Value.slice oa os.length oc) KB0.out
 have k4 := cr 4 (Value.slice aa qs.length ac) KB0.out
 have k5 := cr 5 (Value.slice da ds.length dc) KB0.out
 have k6 := cr 6 (Value.slice la ls.length lc) KB0.out
 have k7 := cr 7 (Value.int .i64 st) KB0.out
 go_wp2_with fail
 clear cp_B0_0 k0 k1 k2 k3 k4 k5 k6 k7 KB0
 generalize hWq : (W1.alloc (.cells #[.int .i64 z0, .int .i64 z1, .int .i64 z2] 168)) = Wq at *
 clear hWq
 replace B0 := zb cal B0
 replace d := zD d cal
 have Z_Wq := zh (show W1.heap.size ≤ Wq.heap.size from cal.size)
 clear cal
 refine (implIsStore (.slice sa ss.length sc) ss now Wq (Jb Jf H0.out d.out) S0.out).mono ?_
 rintro e W2 ⟨rfl, c⟩
 replace B0 := zb c B0
 replace d := zD d c
 have Z_W2 := zh (show Wq.heap.size ≤ W2.heap.size from c.size)
 clear c
 rcases Bool.eq_false_or_eq_true (Yb ss now) with hst | hst
 rotate_left
 ·
  rw [hst]
  have HF := zh (eng_no1 (e := ((ss, now), cu, os, qs, ds, ls, st)) hst)
  clear hst
  have cp_B0_0 := Kz B0.out
  go_wp2
  clear cp_B0_0
  go_ret
  exact ⟨Jy HF.out.symm, d.out⟩
 rw [hst]
 have HST := zh hst
 clear hst
 have cp_B0_0 := Kz B0.out
 go_wp2_with fail
 clear cp_B0_0
 refine (hasSegment_any sa ss.length sc now cu W2 N0).mono ?_
 rintro e W1 ⟨rfl, c⟩
 replace B0 := zb c B0
 replace d := zD d c
 have Z_W1 := zh (show W2.heap.size ≤ W1.heap.size from c.size)
 clear c
 rcases Bool.eq_false_or_eq_true (decide (0 ≤ cu ∧ cu < (ss.length : Int))) with hcu | hcu
 rotate_left
 ·
  rw [hcu]
  have HF := zh (eng_no2 (e := ((ss, now), cu, os, qs, ds, ls, st)) (fun g => of_decide_eq_false hcu g.1))
  clear hcu
  have cp_B0_0 := Kz B0.out
  go_wp2
  clear cp_B0_0
  go_ret
  exact ⟨Jy HF.out.symm, d.out⟩
 rw [hcu]
 have HCU := zh hcu
 clear hcu
 rcases Bool.eq_false_or_eq_true (Xd os) with hor | hor
 rotate_left
 ·
  rw [hor]
  have HF := zh (eng_no3 (e := ((ss, now), cu, os, qs, ds, ls, st)) hor)
  clear hor
  have cp_B0_0 := Kz B0.out
  go_wp2
  clear cp_B0_0
  go_ret
  exact ⟨Jy HF.out.symm, d.out⟩
 rw [hor]
 have HOR := zh hor
 clear hor
 have cp_B0_0 := Kz B0.out
 go_wp2_with fail
 clear cp_B0_0
 refine (isTime_any st _).mono ?_
 rintro e wx ⟨rfl, hwx⟩
 obtain rfl := hwx.symm
 rcases Bool.eq_false_or_eq_true (decide (0 ≤ st ∧ st ≤ 100000)) with hti | hti
 rotate_left
 ·
  rw [hti]
  have HF := zh (eng_no2 (e := ((ss, now), cu, os, qs, ds, ls, st)) (fun g => of_decide_eq_false hti g.2.2.1))
  clear hti
  have cp_B0_0 := Kz B0.out
  go_wp2
  clear cp_B0_0
  go_ret
  exact ⟨Jy HF.out.symm, d.out⟩
 rw [hti]
 have HTI := zh hti
 clear hti
 have cp_B0_0 := Kz B0.out
 go_wp2_with fail
 clear cp_B0_0
 refine (areValid_act (.slice aa qs.length ac) qs sa sc ss now W1 (Jb Jj H4.out d.out) S4.out N0).mono ?_
 rintro e W2 ⟨rfl, c⟩
 replace B0 := zb c B0
 replace d := zD d c
 have Z_W2 := zh (show W1.heap.size ≤ W2.heap.size from c.size)
 clear c
 rcases Bool.eq_false_or_eq_true (decide (qs.length ≤ 8) && actsB (ss, now) qs) with hva | hva
 rotate_left
 ·
  rw [hva]
  have HF := zh ((by
    rcases Bool.eq_false_or_eq_true (decide (qs.length ≤ 8)) with q | q
    ·
     rw [q, Bool.true_and] at hva; exact eng_no4 (e := ((ss, now), cu, os, qs, ds, ls, st)) hva
    ·
     exact eng_no2 (e := ((ss, now), cu, os, qs, ds, ls, st)) (fun g => of_decide_eq_false q g.2.1)))
  clear hva
  have cp_B0_0 := Kz B0.out
  go_wp2
  clear cp_B0_0
  go_ret
  exact ⟨Jy HF.out.symm, d.out⟩
 rw [hva]
 have HVA := zh hva
 clear hva
 have cp_B0_0 := Kz B0.out
 go_wp2_with fail
 clear cp_B0_0
 refine (areFinished_any (.slice da ds.length dc) ds now W2 (Jb Jn H5.out d.out) S5.out).mono ?_
 rintro e W3 ⟨rfl, c⟩
 replace B0 := zb c B0
 replace d := zD d c
 have Z_W3 := zh (show W2.heap.size ≤ W3.heap.size from c.size)
 clear c
 rcases Bool.eq_false_or_eq_true (decide (ds.length ≤ 1000) && ds.all (Ea now)) with hfi | hfi
 rotate_left
 ·
  rw [hfi]
  have HF := zh ((by
    rcases Bool.eq_false_or_eq_true (decide (ds.length ≤ 1000)) with q | q
    ·
     rw [q, Bool.true_and] at hfi; exact eng_no5 (e := ((ss, now), cu, os, qs, ds, ls, st)) hfi
    ·
     exact eng_no2 (e := ((ss, now), cu, os, qs, ds, ls, st)) (fun g => of_decide_eq_false q g.2.2.2.1)))
  clear hfi
  have cp_B0_0 := Kz B0.out
  go_wp2
  clear cp_B0_0
  go_ret
  exact ⟨Jy HF.out.symm, d.out⟩
 rw [hfi]
 have HFI := zh hfi
 clear hfi
 by_cases hp3 : ls.length ≤ 1000
 rotate_left
 ·
  have HF := zh (eng_no2 (e := ((ss, now), cu, os, qs, ds, ls, st)) (fun g => hp3 g.2.2.2.2))
  have f3 : decide ((ls.length : Int) ≤ 1000) = false := decide_eq_false (by omega)
  clear hp3
  have cp_B0_0 := Kz B0.out
  go_wp2
  clear cp_B0_0
  go_ret
  exact ⟨Jy HF.out.symm, d.out⟩
 have f3 : decide ((ls.length : Int) ≤ 1000) = true := decide_eq_true (by omega)
 have HP3 := zh hp3
 clear hp3
 have cp_B0_0 := Kz B0.out
 go_wp2_with fail
 clear cp_B0_0 f3
 refine (allCharge (.slice la ls.length lc) ls W3 (Jb Jr H6.out d.out) S6.out).mono ?_
 rintro e W9 ⟨rfl, c⟩
 replace B0 := zb c B0
 replace d := zD d c
 have Z_W9 := zh (show W3.heap.size ≤ W9.heap.size from c.size)
 clear c
 have HT : Hid (ls.all Ve = engB ((ss, now), cu, os, qs, ds, ls, st)) := zh (by
  have v1 := HVA.out
  have v2 := HFI.out
  simp only [Bool.and_eq_true, decide_eq_true_eq] at v1 v2
  rcases Bool.eq_false_or_eq_true (ls.all Ve) with g | g
  ·
   rw [g]; exact (eng_yes (e := ((ss, now), cu, os, qs, ds, ls, st)) HST.out ⟨of_decide_eq_true HCU.out, v1.1, of_decide_eq_true HTI.out, v2.1, HP3.out⟩ HOR.out v1.2 v2.2 g).symm
  ·
   rw [g]; exact (eng_no6 (e := ((ss, now), cu, os, qs, ds, ls, st)) g).symm)
 rw [HT.out]
 have cp_B0_0 := Kz B0.out
 go_wp2
 clear cp_B0_0
 go_ret
 exact ⟨rfl, d.out⟩
set_option maxHeartbeats 8000000 in
theorem findClos (a0 a1 a4 a6 a7 a8 id : Int) (p2 p3 p5 p9 : Option Addr) (n2 c2 n3 c3 n5 c5 n9 c9 B : Nat) (w : World) (h : w.heap[B]? = some (.cells #[.int .i64 id] 3 (0, 0))) :
  Calls Tryz.prog 221 #[.agg #[a0, a1, .slice p2 n2 c2, .slice p3 n3 c3, a4, .slice p5 n5 c5, a6, a7, a8, .slice p9 n9 c9], .pointer (some ⟨B, 0, none⟩)] w fun e w' => e = .returned (.bool (decide (a0 = id))) ∧ Below w w w' := by
 have hB := (((Il w.heap.size w).alloc (Ii _) (.cells #[a0, a1, .slice p2 n2 c2, .slice p3 n3 c3, a4, .slice p5 n5 c5, a6, a7, a8, .slice p9 n9 c9] 104)).block B (Array.getElem?_eq_some_iff.1 h).1).trans h
 have c0 := cr 0 (Value.int .i64 id) hB
 have d := zh (show Below w w (w.alloc (.cells #[a0, a1, .slice p2 n2 c2, .slice p3 n3 c3, a4, .slice p5 n5 c5, a6, a7, a8, .slice p9 n9 c9] 104)) from (Il _ _).alloc (Ii _) _)
 clear h hB
 by_cases e : a0 = id
 ·
  have e2 : (a0 == id) = true := by simp [e]
  have e3 : Hid (decide (a0 = id) = true) := zh (decide_eq_true e)
  rw [e3.out]
  clear e
  go_enter Tryz.func221, Tryz.ntmps221
  go_wp2
  go_ret
  exact ⟨Jy (by simp), d.out⟩
 ·
  have e2 : (a0 == id) = false := by simp [e]
  have e3 : Hid (decide (a0 = id) = false) := zh (decide_eq_false e)
  rw [e3.out]
  clear e
  go_enter Tryz.func221, Tryz.ntmps221
  go_wp2
  go_ret
  exact ⟨Jy (by simp), d.out⟩
set_option maxHeartbeats 8000000 in
theorem findIdx_any (v : Value) (l : List Ua) (id : Int) (B : Nat) (w : World) (h : Ko Ji w v l) (hs : l.length ≤ 1048576) (hB : w.heap[B]? = some (.cells #[.int .i64 id] 3 (0, 0))) :
  Calls Tryz.prog 220 #[v, .func (.func 221) #[] #[.pointer (some ⟨B, 0, none⟩)]] w fun e w' => e = .returned (.int .i64 (Uo l id)) ∧ Below w w w' := by
 have H := zh h
 obtain ⟨a, cap, rfl⟩ := Jl h
 have BB := zh hB
 clear h hB
 go_enter Tryz.func220, Tryz.ntmps220
 go_wp2
 go_loopw [8] (fun i wr => ∃ k : Nat, k ≤ l.length ∧ i = .int .i64 k ∧ Hid (∀ j, j < k → ¬ (l.getD j Uh).1.1 = id) ∧ Below w w wr) (fun i _ => l.length - (intOf i).toNat)
 case atStart => exact ⟨0, Ij _, rfl, zh (fun j hj => absurd hj (Nat.not_lt_zero j)), Il _ _⟩
 case round =>
  obtain ⟨k, hk, rfl, hno, c⟩ := hrel
  have cw := zh c
  by_cases hlt : k < l.length
  ·
   have i1 : (0 : Int) ≤ (k : Int) := by omega
   have i2 : (k : Int) < (l.length : Int) := by omega
   obtain ⟨b, off, cap', p2, c2, p3, c3, p5, c5, p9, c9, hv, hbl, e0, e1, e2, e3, e4, e5, e6, e7, e8, e9, s2, s3, s5, s9⟩ := act_at (Jb Jj H.out c) hlt
   simp only [Ik] at hv
   obtain ⟨rfl, _, rfl⟩ := hv
   have HF : Hid ((l.getD k Uh).1.1 = id → Uo l id = k) := zh (fun g => findA_at hlt hno.out g)
   have HS : Hid (¬ (l.getD k Uh).1.1 = id → ∀ i, i < k + 1 → ¬ (l.getD i Uh).1.1 = id) := zh (fun g i hi => by
    by_cases e : i = k
    ·
     subst e; exact g
    ·
     exact hno.out i (by omega))
   have HC := zh (findClos (l.getD k Uh).1.1 (l.getD k Uh).1.2.1 (l.getD k Uh).2.1 (l.getD k Uh).2.2.2.1 (l.getD k Uh).2.2.2.2.1 (l.getD k Uh).2.2.2.2.2.1 id p2 p3 p5 p9 (l.getD k Uh).1.2.2.1.length c2 (l.getD k Uh).1.2.2.2.length c3 (l.getD k Uh).2.2.1.length c5 (l.getD k Uh).2.2.2.2.2.2.length c9 B wr ((cw.out.block B (Array.getElem?_eq_some_iff.1 BB.out).1).trans BB.out))
   clear hno s2 s3 s5 s9 hbl c
   generalize l.getD k Uh = x at *
   obtain ⟨⟨x0, x1, x2, x3⟩, x4, x5, x6, x7, x8, x9⟩ := x
   dsimp only at *
   generalize x2.length = n2 at *
   generalize x3.length = n3 at *
   generalize x5.length = n5 at *
   generalize x9.length = n9 at *
   by_cases hx : x0 = id
   ·
    have HE := zh (HF.out hx)
    rw [decide_eq_true hx] at HC
    clear HF HS hx
    go_wp2_with fail
    refine HC.out.mono ?_
    rintro e w2 ⟨rfl, c⟩
    have d2 := zh (cw.out.trans (c.mono cw.out.size))
    clear c e0 e1 e2 e3 e4 e5 e6 e7 e8 e9 HC
    go_wp2
    go_ret
    exact ⟨ret_n HE.out.symm, d2.out⟩
   ·
    have HT := zh (HS.out hx)
    rw [decide_eq_false hx] at HC
    clear HF HS hx
    go_wp2_with fail
    refine HC.out.mono ?_
    rintro e w2 ⟨rfl, c⟩
    have d2 := zh (cw.out.trans (c.mono cw.out.size))
    clear c e0 e1 e2 e3 e4 e5 e6 e7 e8 e9 HC
    go_wp2
    go_roundw
    case rel => exact ⟨k + 1, by omega, by go_num, HT, d2.out⟩
    case measure => simp [intOf]; omega
  ·
   obtain rfl : k = l.length := by omega
   have HE : Hid (Uo l id = -1) := zh (findA_none hno.out)
   clear hno c
   go_wp2
   go_ret
   exact ⟨ret_n HE.out.symm, cw.out⟩
set_option maxHeartbeats 8000000 in
theorem find_any (v : Value) (l : List Ua) (id : Int) (w : World) (h : Ko Ji w v l) (hs : l.length ≤ 1048576) :
  Calls Tryz.prog 168 #[v, .int .i64 id] w fun e w' => e = .returned (.int .i64 (Uo l id)) ∧ Below w w w' := by
 have hal : Below w w (w.alloc (.cells #[.int .i64 id] 3)) := (Il _ _).alloc (Ii _) _
 have d := zh hal
 have HC := zh (findIdx_any v l id w.heap.size _ (Jb Jj h hal) hs (Ic w (.cells #[.int .i64 id] 3)))
 have hmf : ∀ (fn : Fn) (first cap : Array Value) (w : World), (Instr.makeFunc fn first cap).run Tryz.prog w = .ok (.func fn first cap) w := fun _ _ _ _ => rfl
 obtain ⟨a, cap, rfl⟩ := Jl h
 clear hal h
 go_enter Tryz.func168, Tryz.ntmps168
 go_wp2_with fail
 refine HC.out.mono ?_
 rintro e w1 ⟨rfl, c⟩
 have d2 := zh (d.out.trans (c.mono d.out.size))
 clear c HC
 go_wp2
 go_ret
 exact ⟨rfl, d2.out⟩
set_option maxHeartbeats 8000000 in
theorem implFindActive (now cu st id : Int) (sv ov av dv lv : Value) (l : List Ua) (w : World) (h : Ko Ji w av l) (hn : l.length ≤ 1048576) :
  Calls Tryz.prog 106 #[.agg #[sv, .int .i64 now, .int .i64 cu, ov, av, dv, lv, .int .i64 st], .int .i64 id] w (fun e w' => e = .returned (.int .i64 (Uo l id)) ∧ Below w w w') := by
 obtain ⟨a, cap, rfl⟩ := Jl h
 have H := zh h
 clear h
 have d := zh (show Below w w (w.alloc (.cells #[sv, .int .i64 now, .int .i64 cu, ov, .slice a l.length cap, dv, lv, .int .i64 st] 40)) from ((Il _ w).alloc (Ii _) _))
 have B0 : Hid ((w.alloc (.cells #[sv, .int .i64 now, .int .i64 cu, ov, .slice a l.length cap, dv, lv, .int .i64 st] 40)).heap[w.heap.size]? = some (.cells #[sv, .int .i64 now, .int .i64 cu, ov, .slice a l.length cap, dv, lv, .int .i64 st] 40 (0, 0))) := zh (by
  exact Ic w _)
 have YW : Hid (w.heap.size + 1 ≤ (w.alloc (.cells #[sv, .int .i64 now, .int .i64 cu, ov, .slice a l.length cap, dv, lv, .int .i64 st] 40)).heap.size) := zh (by simp [Ie])
 go_enter Tryz.func106, Tryz.ntmps106
 skip
 have p4 := cr 4 (Value.slice a l.length cap) B0.out
 go_wp2_with fail
 refine (find_any _ l id _ (Jb Jj H.out d.out) hn).mono ?_
 rintro e w1 ⟨rfl, c⟩
 have d2 := zh (d.out.trans (c.mono d.out.size))
 clear c p4
 go_wp2
 go_ret
 exact ⟨rfl, d2.out⟩
def z10 : List Value := [.int .i64 0, .int .i64 0, .slice none 0 0, .slice none 0 0, .int .i64 0, .slice none 0 0, .int .i64 0, .int .i64 0, .int .i64 0, .slice none 0 0]
theorem z10_len : z10.length = 10 := rfl
theorem z10_one : ∀ u ∈ z10, u.oneCell' = true := by decide
theorem z10_zero : (Builtin.zeroCells (Value.agg #[Ja, Ja, (), (), Ja, (), Ja, Ja, Ja, ()]).cells 1).toList = z10 := by kernel_rfl
theorem info_act10 : (Tryz.prog.info? 104).map (·.size) = some 10 := by kernel_rfl
theorem zero_act (w : World) : (zeroValue 104).run Tryz.prog w = .ok (.agg #[Ja, Ja, (), (), Ja, (), Ja, Ja, Ja, ()]) w := by kernel_rfl
set_option maxHeartbeats 8000000 in
theorem without_P (g cap k : Nat) (F : Nat → Prop) (L : List (List Value)) (w : World) (h : Kp 104 (Ub 10) w F (.slice (some ⟨g, 0, none⟩) L.length cap) L) (hk : k < L.length) (hn : L.length ≤ 1048576) :
  Calls Tryz.prog 107 #[.slice (some ⟨g, 0, none⟩) L.length cap, .int .i64 k] w (fun e w' => e = .returned (.slice (some ⟨g, 0, none⟩) (L.length - 1) cap) ∧ Kp 104 (Ub 10) w' F (.slice (some ⟨g, 0, none⟩) (L.length - 1) cap) (L.eraseIdx k) ∧ Kb (fun b => b = g) w w') := by
 obtain ⟨g2, cap2, tail, hv, hF, hcap, hmax, hrow, hc1, hback⟩ := raw_block (by decide) h (by omega)
 simp only [Ik, Option.some.injEq, Addr.mk.injEq] at hv
 obtain ⟨⟨rfl, _⟩, _, rfl⟩ := hv
 have HB := zh hback
 have HR := zh hrow
 have HC1 := zh hc1
 clear hback hrow hc1 h hF
 obtain ⟨n, hn0⟩ : ∃ n, n = L.length := ⟨_, rfl⟩
 rw [← hn0] at hk hn hcap ⊢
 have HN := zh hn0
 clear hn0
 unfold maxLen at hmax
 have HE := zh (splice_erase HC1.out (k := k) (by rw [← HN.out]; exact hk) tail)
 rw [← HN.out] at HE
 have HW : Hid (IntKind.i64.wrap ((k : Int) + 1) = ((k + 1 : Nat) : Int)) := zh (by rw [IntWalk.i64_in _ (by omega)]; rfl)
 go_enter Tryz.func107, Tryz.ntmps107
 go_wp2
 by_cases hc : k + 1 = cap
 ·
  refine wp_region_held_drew (S := fun _ => True) (by kernel_rfl) trivial (fun hHeld => ?_)
  have HR2 : Hid (w.drew.heap[g]? = some (.cells (L.flatten ++ tail).toArray 104 (0, 0))) := zh HR.out
  have T0 : Hid (Kb (fun b => b = g) w w.drew) := zh ⟨rfl, rfl, rfl, Ii _, fun _ _ _ => rfl⟩
  generalize w.drew = wd at *
  have i1 : (0 : Int) ≤ (k : Int) := by omega
  have i2 : (k : Int) ≤ (n : Int) := by omega
  have i3 : (k : Int) + 1 ≤ (n : Int) := by omega
  have i4 : k ≤ cap := by omega
  have i5 : ¬ cap = k := by omega
  have i9 : (0 : Int) ≤ (k : Int) + 1 := by omega
  have hw := HW.out
  have i7 : k + 1 ≤ n := by omega
  have i6 : k + 1 = cap := hc
  have i8 : cap ≤ n := by omega
  refine uQ 0 ?_
  try simp only [Act.put, lA, lB, lC]
  refine uQ 1 ?_
  try simp only [Act.put, lA, lB, lC]
  refine uQ 2 ?_
  try simp only [Act.put, lA, lB, lC]
  refine uQ 3 ?_
  try simp only [Act.put, lA, lB, lC]
  refine uQ 4 ?_
  try simp only [Act.put, lA, lB, lC]
  refine uQ 5 ?_
  try simp only [Act.put, lA, lB, lC]
  refine uQ 6 ?_
  try simp only [Act.put, lA, lB, lC]
  refine u1 7 ?_
  intro K hK tk
  clear tk
  clear i1 i2 i3 i4 i5 i6 i7 i9 hw i8
  have hfl : (L.drop (k + 1)).flatten.length = (n - (k + 1)) * 10 := by rw [Vz (HC1.out.drop _).len, List.length_drop, ← HN.out]
  have hcl : k * 10 + (n - (k + 1)) * 10 ≤ (L.flatten ++ tail).length := by rw [List.length_append, Vz HC1.out.len, ← HN.out]; omega
  refine step_copy_wide rfl (.tmp 11) (.tmp 15) 133 133 rfl 104 10 Tryz.underlying133 info_act10 (by decide) _ _ _ _ _ _ rfl rfl g (k * 10) (L.flatten ++ tail) 104 HR2.out (L.drop (k + 1)).flatten ?_ ?_ ?_ (HC1.out.drop _).flat ?_
  ·
   rw [hfl]; congr 1; first | (show _ = min _ _; omega) | omega
  ·
   intro hp; rw [hfl] at hp; omega
  ·
   rw [hfl]; exact hcl
  rw [HE.out]
  refine hK.out _ _ trivial (fun hHeld => ?_)
  clear hK K hfl hcl
  try simp only [Act.put, lA, lB, lC]
  refine uZ ?_
  clear hHeld
  have R1 : Hid ((wd.setRow g ((L.eraseIdx k).flatten ++ ((L.drop (n - 1)).flatten ++ tail)).toArray).heap[g]? = some (.cells ((L.eraseIdx k).flatten ++ ((L.drop (n - 1)).flatten ++ tail)).toArray 104 (0, 0))) := zh (setRow_heap wd g _ _ _ (0, 0) HR2.out)
  have T1 : Hid (Kb (fun b => b = g) w (wd.setRow g ((L.eraseIdx k).flatten ++ ((L.drop (n - 1)).flatten ++ tail)).toArray)) := zh (T0.out.trans Vk)
  generalize (wd.setRow g ((L.eraseIdx k).flatten ++ ((L.drop (n - 1)).flatten ++ tail)).toArray) = w1 at *
  clear HR2 T0
  obtain ⟨m, rfl⟩ : ∃ m, n = m + 1 := ⟨n - 1, by omega⟩
  have HCE := zh (HC1.out.erase k)
  have HLE : Hid ((L.eraseIdx k).length = m) := zh (by rw [List.length_eraseIdx, ← HN.out]; simp; omega)
  have hll : (L.drop (m + 1 - 1)).flatten.length = 10 := by rw [Vz (HC1.out.drop _).len, List.length_drop, ← HN.out]; omega
  have HSC : Hid (splice ((L.eraseIdx k).flatten ++ ((L.drop (m + 1 - 1)).flatten ++ tail)) (m * 10) z10 = (L.eraseIdx k).flatten ++ (z10 ++ tail)) := zh (by have := splice_clear HCE.out (L.drop (m + 1 - 1)).flatten z10 tail (by rw [hll]; rfl); rw [HLE.out] at this; exact this)
  have HFI : Hid (m * 10 + 10 ≤ ((L.eraseIdx k).flatten ++ ((L.drop (m + 1 - 1)).flatten ++ tail)).length) := zh (by rw [List.length_append, List.length_append, hll, Vz HCE.out.len, HLE.out]; omega)
  have HL10 := zh hll
  clear hll
  have j1 : ¬ cap = m := by omega
  have j2 : m ≤ cap := by omega
  have j3 : m ≤ m + 1 := by omega
  have hrun : (Builtin.clear_ #[133] 0 #[.slice (some ⟨g, m * 10, none⟩) 1 (cap - m)]).run Tryz.prog w1 = .ok (.tuple #[]) (w1.setRow g ((L.eraseIdx k).flatten ++ (z10 ++ tail)).toArray) := by
   rw [← HSC.out]
   exact run_clear_wide w1 133 0 104 0 _ Tryz.underlying133 (zero_act _) g (m * 10) _ 1 _ 104 R1.out z10 (by omega) z10_zero HFI.out z10_one
  have R2 : Hid ((w1.setRow g ((L.eraseIdx k).flatten ++ (z10 ++ tail)).toArray).heap[g]? = some (.cells ((L.eraseIdx k).flatten ++ (z10 ++ tail)).toArray 104 (0, 0))) := zh (setRow_heap w1 g _ _ _ (0, 0) R1.out)
  have T2 : Hid (Kb (fun b => b = g) w (w1.setRow g ((L.eraseIdx k).flatten ++ (z10 ++ tail)).toArray)) := zh (T1.out.trans Vk)
  obtain ⟨w2, hw2⟩ : ∃ w2, w2 = w1.setRow g ((L.eraseIdx k).flatten ++ (z10 ++ tail)).toArray := ⟨_, rfl⟩
  rw [← hw2] at R2 T2 hrun
  clear hw2
  have HRUN := zh hrun
  clear hrun
  have hrun := HRUN.out
  go_wp2
  clear hrun
  go_ret
  have q := HB.out w2 (L.eraseIdx k) (z10 ++ tail) R2.out HCE.out (by rw [HLE.out]; omega) (by rw [List.length_append, List.length_append, List.length_append, Vz HCE.out.len, Vz HC1.out.len, HLE.out, ← HN.out, z10_len]; omega)
  rw [HLE.out] at q
  exact ⟨rfl, q, T2.out⟩
 ·
  refine wp_region_held_drew (S := fun _ => True) (by kernel_rfl) trivial (fun hHeld => ?_)
  have HR2 : Hid (w.drew.heap[g]? = some (.cells (L.flatten ++ tail).toArray 104 (0, 0))) := zh HR.out
  have T0 : Hid (Kb (fun b => b = g) w w.drew) := zh ⟨rfl, rfl, rfl, Ii _, fun _ _ _ => rfl⟩
  generalize w.drew = wd at *
  have i1 : (0 : Int) ≤ (k : Int) := by omega
  have i2 : (k : Int) ≤ (n : Int) := by omega
  have i3 : (k : Int) + 1 ≤ (n : Int) := by omega
  have i4 : k ≤ cap := by omega
  have i5 : ¬ cap = k := by omega
  have i9 : (0 : Int) ≤ (k : Int) + 1 := by omega
  have hw := HW.out
  have i7 : k + 1 ≤ n := by omega
  have i6 : ¬ cap = k + 1 := fun h => hc h.symm
  refine uQ 0 ?_
  try simp only [Act.put, lA, lB, lC]
  refine uQ 1 ?_
  try simp only [Act.put, lA, lB, lC]
  refine uQ 2 ?_
  try simp only [Act.put, lA, lB, lC]
  refine uQ 3 ?_
  try simp only [Act.put, lA, lB, lC]
  refine uQ 4 ?_
  try simp only [Act.put, lA, lB, lC]
  refine uQ 5 ?_
  try simp only [Act.put, lA, lB, lC]
  refine uQ 6 ?_
  try simp only [Act.put, lA, lB, lC]
  refine u1 7 ?_
  intro K hK tk
  clear tk
  clear i1 i2 i3 i4 i5 i6 i7 i9 hw
  have hfl : (L.drop (k + 1)).flatten.length = (n - (k + 1)) * 10 := by rw [Vz (HC1.out.drop _).len, List.length_drop, ← HN.out]
  have hcl : k * 10 + (n - (k + 1)) * 10 ≤ (L.flatten ++ tail).length := by rw [List.length_append, Vz HC1.out.len, ← HN.out]; omega
  refine step_copy_wide rfl (.tmp 11) (.tmp 15) 133 133 rfl 104 10 Tryz.underlying133 info_act10 (by decide) _ _ _ _ _ _ rfl rfl g (k * 10) (L.flatten ++ tail) 104 HR2.out (L.drop (k + 1)).flatten ?_ ?_ ?_ (HC1.out.drop _).flat ?_
  ·
   rw [hfl]; congr 1; first | (show _ = min _ _; omega) | omega
  ·
   intro hp
   refine ⟨rfl, _, rfl, fun j v hj => ?_⟩
   have hjl : j < (L.drop (k + 1)).flatten.length := (List.getElem?_eq_some_iff.1 hj).1
   rw [hfl] at hjl
   rw [← flat_drop HC1.out.len] at hj
   have e : (⟨g, (k + 1) * 10, none⟩ : Addr).add j = ⟨g, (k + 1) * 10 + j, none⟩ := addr_add _ _ _
   rw [e]
   rw [List.getElem?_drop] at hj
   have e2 : (L.flatten ++ tail)[(k + 1) * 10 + j]? = some v := by rw [List.getElem?_append_left (by rw [Vz HC1.out.len, ← HN.out]; omega)]; exact hj
   exact (Ia wd g _ _ _ _ HR2.out).trans (by simpa using e2)
  ·
   rw [hfl]; exact hcl
  rw [HE.out]
  refine hK.out _ _ trivial (fun hHeld => ?_)
  clear hK K hfl hcl
  try simp only [Act.put, lA, lB, lC]
  refine uZ ?_
  clear hHeld
  have R1 : Hid ((wd.setRow g ((L.eraseIdx k).flatten ++ ((L.drop (n - 1)).flatten ++ tail)).toArray).heap[g]? = some (.cells ((L.eraseIdx k).flatten ++ ((L.drop (n - 1)).flatten ++ tail)).toArray 104 (0, 0))) := zh (setRow_heap wd g _ _ _ (0, 0) HR2.out)
  have T1 : Hid (Kb (fun b => b = g) w (wd.setRow g ((L.eraseIdx k).flatten ++ ((L.drop (n - 1)).flatten ++ tail)).toArray)) := zh (T0.out.trans Vk)
  generalize (wd.setRow g ((L.eraseIdx k).flatten ++ ((L.drop (n - 1)).flatten ++ tail)).toArray) = w1 at *
  clear HR2 T0
  obtain ⟨m, rfl⟩ : ∃ m, n = m + 1 := ⟨n - 1, by omega⟩
  have HCE := zh (HC1.out.erase k)
  have HLE : Hid ((L.eraseIdx k).length = m) := zh (by rw [List.length_eraseIdx, ← HN.out]; simp; omega)
  have hll : (L.drop (m + 1 - 1)).flatten.length = 10 := by rw [Vz (HC1.out.drop _).len, List.length_drop, ← HN.out]; omega
  have HSC : Hid (splice ((L.eraseIdx k).flatten ++ ((L.drop (m + 1 - 1)).flatten ++ tail)) (m * 10) z10 = (L.eraseIdx k).flatten ++ (z10 ++ tail)) := zh (by have := splice_clear HCE.out (L.drop (m + 1 - 1)).flatten z10 tail (by rw [hll]; rfl); rw [HLE.out] at this; exact this)
  have HFI : Hid (m * 10 + 10 ≤ ((L.eraseIdx k).flatten ++ ((L.drop (m + 1 - 1)).flatten ++ tail)).length) := zh (by rw [List.length_append, List.length_append, hll, Vz HCE.out.len, HLE.out]; omega)
  have HL10 := zh hll
  clear hll
  have j1 : ¬ cap = m := by omega
  have j2 : m ≤ cap := by omega
  have j3 : m ≤ m + 1 := by omega
  have hrun : (Builtin.clear_ #[133] 0 #[.slice (some ⟨g, m * 10, none⟩) 1 (cap - m)]).run Tryz.prog w1 = .ok (.tuple #[]) (w1.setRow g ((L.eraseIdx k).flatten ++ (z10 ++ tail)).toArray) := by
   rw [← HSC.out]
   exact run_clear_wide w1 133 0 104 0 _ Tryz.underlying133 (zero_act _) g (m * 10) _ 1 _ 104 R1.out z10 (by omega) z10_zero HFI.out z10_one
  have R2 : Hid ((w1.setRow g ((L.eraseIdx k).flatten ++ (z10 ++ tail)).toArray).heap[g]? = some (.cells ((L.eraseIdx k).flatten ++ (z10 ++ tail)).toArray 104 (0, 0))) := zh (setRow_heap w1 g _ _ _ (0, 0) R1.out)
  have T2 : Hid (Kb (fun b => b = g) w (w1.setRow g ((L.eraseIdx k).flatten ++ (z10 ++ tail)).toArray)) := zh (T1.out.trans Vk)
  obtain ⟨w2, hw2⟩ : ∃ w2, w2 = w1.setRow g ((L.eraseIdx k).flatten ++ (z10 ++ tail)).toArray := ⟨_, rfl⟩
  rw [← hw2] at R2 T2 hrun
  clear hw2
  have HRUN := zh hrun
  clear hrun
  have hrun := HRUN.out
  go_wp2
  clear hrun
  go_ret
  have q := HB.out w2 (L.eraseIdx k) (z10 ++ tail) R2.out HCE.out (by rw [HLE.out]; omega) (by rw [List.length_append, List.length_append, List.length_append, Vz HCE.out.len, Vz HC1.out.len, HLE.out, ← HN.out, z10_len]; omega)
  rw [HLE.out] at q
  exact ⟨rfl, q, T2.out⟩
end Go.Proofs.YtnepfacnmaoieaaGreatDoor
