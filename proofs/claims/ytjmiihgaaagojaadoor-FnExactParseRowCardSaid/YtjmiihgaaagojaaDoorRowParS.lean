/-
  The walk of the specification's ParseRow: it answers what 'parRow' says, in memory of its own.
-/
import Derived.Test.YtjmiihgaaagojaaDoorRowParP
import Derived.Test.YtjmiihgaaagojaaDoorParSet
import Derived.Test.YtjmiihgaaagojaaDoorAppInts
namespace Go.Proofs.YtjmiihgaaagojaaDoor
open Go.RowKit
set_option linter.unusedVariables false
set_option linter.unusedSimpArgs false
theorem fmtRow_none (n : Int) : fmtRow (n, []) = [] := by unfold fmtRow rowB; simp
theorem rowOf_one {l : List UInt8} (h : ¬ (cutL 58 l).length = 2) : rowOf l = (numL ((cutL 58 l).getD 0 []), []) := by unfold rowOf; rw [if_neg h]
theorem rowOf_two {l : List UInt8} (h : (cutL 58 l).length = 2) : rowOf l = (numL ((cutL 58 l).getD 0 []), (cutL 44 ((cutL 58 l).getD 1 [])).map numL) := by unfold rowOf; rw [if_pos h]
theorem two_len {l : List UInt8} (h : (cutL 58 l).length = 2) : ((cutL 58 l).getD 1 []).length + 1 ≤ l.length := by
  have hg := glue_cut 58 l
  generalize cutL 58 l = ps at *
  match ps, h with
  | [p, q], _ =>
    rw [← hg]
    simp [glueL]
theorem ints_one {w : World} {h : Nat} {x : Int} (hc : w.cell? ⟨h, 0, none⟩ = some (.int .i64 x)) (hl : h < w.heap.size) : Ints w (.slice (some ⟨h, 0, none⟩) 1 1) [x] :=
  Or.inr ⟨h, 0, 1, rfl, by simp, hl, fun j hj => by
    have : j = 0 := by simp at hj; omega
    subst this
    simpa using hc⟩
theorem nums_step {Q : List (List UInt8)} {k : Nat} (hk : k < Q.length) : (Q.take k).map numL ++ [numL (Q.getD k [])] = (Q.take (k + 1)).map numL := by
  rw [List.take_succ_eq_append_getElem hk, List.map_append]
  simp [List.getD, hk]
theorem only_hi {B hi C : Nat} {W W' : World} (h : Below C W W') (hC : W.heap.size ≤ C) : Only B hi W W' := ⟨h.os, h.tape, h.output, h.size, fun k hk _ => h.block k (by omega)⟩
theorem only_one (R : Nat) (W : World) (j : Nat) (v : Value) : Only R (R + 1) W (W.setCell ⟨R, j, none⟩ v) := ⟨rfl, rfl, rfl, by simp [World.setCell], fun k _ hn => Below.heap_setCell W _ v k (by simp; omega)⟩
/-- What was there before the loop, but the row's box, lies as it lay; blocks from C on may be written. -/
structure Rowed (R C : Nat) (W W' : World) : Prop where
  os : W'.os = W.os
  tape : W'.tape = W.tape
  output : W'.output = W.output
  size : W.heap.size ≤ W'.heap.size
  block : ∀ k, k < C → k ≠ R → W'.heap[k]? = W.heap[k]?
theorem Rowed.refl (R C : Nat) (W : World) : Rowed R C W W := ⟨rfl, rfl, rfl, Nat.le_refl _, fun _ _ _ => rfl⟩
theorem Rowed.below {R C D : Nat} {a b c : World} (h : Rowed R C a b) (k : Below D b c) (hD : C ≤ D) : Rowed R C a c := ⟨k.os.trans h.os, k.tape.trans h.tape, k.output.trans h.output, Nat.le_trans h.size k.size, fun i hi hn => (k.block i (by omega)).trans (h.block i hi hn)⟩
theorem Rowed.set {R C : Nat} {a b : World} (h : Rowed R C a b) (j : Nat) (v : Value) : Rowed R C a (b.setCell ⟨R, j, none⟩ v) := ⟨h.os, h.tape, h.output, by simpa [World.setCell] using h.size, fun i hi hn => (Below.heap_setCell b _ v i (by simpa using hn)).trans (h.block i hi hn)⟩
theorem Rowed.all {R C D : Nat} {a b c : World} (h : Rowed R C b c) (k : Below D a b) (hD : D ≤ R) (hC : D ≤ C) : Below D a c := ⟨h.os.trans k.os, h.tape.trans k.tape, h.output.trans k.output, Nat.le_trans k.size h.size, fun i hi => (h.block i (by omega) (by omega)).trans (k.block i hi)⟩
set_option maxHeartbeats 16000000 in
set_option maxRecDepth 100000 in
theorem specRow_empty (l : List UInt8) (w : World) (hl : l.length ≤ 1048576) (h0 : l = []) :
    Calls Tryd.prog 10 #[.string (strB l)] w (ParAns w (parRow l)) := by
  have HA := Lib.hid (parRow_no (Or.inl h0))
  have h2 : ((cutL 58 l).length : Int) ≠ 2 := by rw [h0]; simp [cutL, cutGo]
  have hne : (((cutL 58 l).length : Int) == 2) = false := by rw [beq_eq_false_iff_ne]; exact h2
  have hem : ((strB l).toList == []) = true := by rw [strB_toList, h0]; rfl
  clear h2
  have HC := Lib.hid (fun w => specCut (strB l) 58 58 w rfl (by rw [strB_size]; exact hl))
  have HP0 := Lib.hid (cut_pos 58 l)
  have HQ0 := Lib.hid (Nat.le_trans (cut_piece 58 l 0) hl)
  clear hl h0
  go_enter Tryd.func10, Tryd.ntmps10
  go_wp2_with fail
  have hb0 : Below w.heap.size w (w.alloc (.cells #[.int .i64 0, .slice none 0 0] 27)) := (Below.refl _ w).alloc (Nat.le_refl _) _
  have g0 := heap_alloc_new w (.cells #[.int .i64 0, .slice none 0 0] 27)
  have hlt : w.heap.size < (w.alloc (.cells #[.int .i64 0, .slice none 0 0] 27)).heap.size := by simp
  generalize w.alloc (.cells #[.int .i64 0, .slice none 0 0] 27) = W at *
  refine (HC.out _).mono ?_
  rintro e w1 ⟨vp, rfl, op, b1⟩
  have c1 := hb0.trans (b1.mono hb0.size)
  have g1 := (b1.block w.heap.size hlt).trans g0
  have l1 := Nat.lt_of_lt_of_le hlt b1.size
  clear hb0 g0 hlt b1
  have ep : (strB l).data.toList = l := rfl
  rw [ep] at op
  clear ep
  obtain ⟨g, gcap, rfl⟩ := strs_head op HP0.out
  have hc0 := strs_at op 0 HP0.out
  have i3 : (0 : Int) < ((cutL 58 l).length : Int) := by have := HP0.out; omega
  have HN := Lib.hid (specNum ((cutL 58 l).getD 0 []) w1 HQ0.out)
  generalize hn0 : numL ((cutL 58 l).getD 0 []) = n0 at *
  have HN0 := Lib.hid hn0
  clear hn0
  generalize (cutL 58 l).getD 0 [] = q0 at *
  generalize hPP : cutL 58 l = P at *
  have HPP := Lib.hid hPP
  clear hPP
  go_wp2_with fail
  refine HN.out.mono ?_
  rintro e w2 ⟨rfl, b2⟩
  have c2 := c1.trans (b2.mono c1.size)
  have g2 := (b2.block w.heap.size l1).trans g1
  have l2 := Nat.lt_of_lt_of_le l1 b2.size
  have op2 := ownsS_below op b2
  clear c1 g1 l1 b2 op hc0 HN
  have hb4 : Below w2.heap.size w2 (w2.alloc (.cells #[.int .i64 n0, .slice none 0 0] 27)) := (Below.refl _ w2).alloc (Nat.le_refl _) _
  have c4 := c2.trans (hb4.mono c2.size)
  have g4 := (hb4.block w.heap.size l2).trans g2
  have g5 := heap_alloc_new w2 (.cells #[.int .i64 n0, .slice none 0 0] 27)
  have l5 : w2.heap.size < (w2.alloc (.cells #[.int .i64 n0, .slice none 0 0] 27)).heap.size := by simp
  have op4 := ownsS_below op2 hb4
  have d0 := (cell_of_row (w2.alloc (.cells #[.int .i64 n0, .slice none 0 0] 27)) _ 0 _ _ _ g4).trans (show _ = some (Value.int .i64 0) from rfl)
  have d1 := (cell_of_row (w2.alloc (.cells #[.int .i64 n0, .slice none 0 0] 27)) _ 1 _ _ _ g4).trans (show _ = some (Value.slice none 0 0) from rfl)
  have f0 := frozen_of_row (w2.alloc (.cells #[.int .i64 n0, .slice none 0 0] 27)) _ 0 _ _ g4
  have f1 := frozen_of_row (w2.alloc (.cells #[.int .i64 n0, .slice none 0 0] 27)) _ 1 _ _ g4
  have q0 := (cell_of_row (w2.alloc (.cells #[.int .i64 n0, .slice none 0 0] 27)) _ 0 _ _ _ g5).trans (show _ = some (Value.int .i64 n0) from rfl)
  have q1 := (cell_of_row (w2.alloc (.cells #[.int .i64 n0, .slice none 0 0] 27)) _ 1 _ _ _ g5).trans (show _ = some (Value.slice none 0 0) from rfl)
  have HG4 := Lib.hid g4
  have HG5 := Lib.hid g5
  have HC4 := Lib.hid c4
  have HL5 := Lib.hid l5
  have HO4 := Lib.hid op4
  have HL2 := Lib.hid l2
  clear g4 g5 c4 hb4 l5 c2 g2 l2 op2 op4
  go_wp2
  generalize w2.alloc (.cells #[.int .i64 n0, .slice none 0 0] 27) = W4 at *
  have r1 := heap_setCell_same W4 w.heap.size 0 _ _ (.int .i64 0) HG4.out
  have r2 := heap_setCell_same _ w.heap.size 1 _ _ (.slice none 0 0) r1
  have B4 := (HC4.out.setCell (p := ⟨w.heap.size, 0, none⟩) (Nat.le_refl _) (.int .i64 0)).setCell (p := ⟨w.heap.size, 1, none⟩) (Nat.le_refl _) (.slice none 0 0)
  have e0 := cell_of_row _ _ 0 _ _ _ r2
  have e1 := cell_of_row _ _ 1 _ _ _ r2
  simp at e0 e1
  refine bodyPost_ret (v := .tuple #[.agg #[.int .i64 0, .slice none 0 0], .bool false]) ?_ rfl ?_
  · simp [results, Tryd.f10, go_sem, e0, e1]
  · exact parAns_no HA.out B4
set_option maxHeartbeats 16000000 in
set_option maxRecDepth 100000 in
theorem specRow_one (l : List UInt8) (w : World) (hl : l.length ≤ 1048576) (h0 : ¬ l = []) (h2 : ¬ (cutL 58 l).length = 2) :
    Calls Tryd.prog 10 #[.string (strB l)] w (ParAns w (parRow l)) := by
  have HA := Lib.hid (parRow_no (l := l) (Or.inr (by rw [rowOf_one h2, fmtRow_none]; exact fun g => h0 g.symm)))
  have hne : (((cutL 58 l).length : Int) == 2) = false := by rw [beq_eq_false_iff_ne]; omega
  have hem : ((strB l).toList == []) = false := by rw [strB_toList, beq_eq_false_iff_ne]; exact h0
  have hcmp : (!((strB ([] : List UInt8)).toList == (strB l).toList)) = true := by rw [Bool.not_eq_true', beq_eq_false_iff_ne, strB_toList, strB_toList]; exact fun g => h0 g.symm
  have HC := Lib.hid (fun w => specCut (strB l) 58 58 w rfl (by rw [strB_size]; exact hl))
  have HP0 := Lib.hid (cut_pos 58 l)
  have HQ0 := Lib.hid (Nat.le_trans (cut_piece 58 l 0) hl)
  clear hl h2 h0
  have HFR := Lib.hid (fun n w => specFormatRow n (.slice none 0 0) [] w (Or.inl ⟨rfl, none, 0, rfl⟩) (by simp))
  simp only [fmtRow_none] at HFR
  go_enter Tryd.func10, Tryd.ntmps10
  go_wp2_with fail
  have hb0 : Below w.heap.size w (w.alloc (.cells #[.int .i64 0, .slice none 0 0] 27)) := (Below.refl _ w).alloc (Nat.le_refl _) _
  have g0 := heap_alloc_new w (.cells #[.int .i64 0, .slice none 0 0] 27)
  have hlt : w.heap.size < (w.alloc (.cells #[.int .i64 0, .slice none 0 0] 27)).heap.size := by simp
  generalize w.alloc (.cells #[.int .i64 0, .slice none 0 0] 27) = W at *
  refine (HC.out _).mono ?_
  rintro e w1 ⟨vp, rfl, op, b1⟩
  have c1 := hb0.trans (b1.mono hb0.size)
  have g1 := (b1.block w.heap.size hlt).trans g0
  have l1 := Nat.lt_of_lt_of_le hlt b1.size
  clear hb0 g0 hlt b1
  have ep : (strB l).data.toList = l := rfl
  rw [ep] at op
  clear ep
  obtain ⟨g, gcap, rfl⟩ := strs_head op HP0.out
  have hc0 := strs_at op 0 HP0.out
  have i3 : (0 : Int) < ((cutL 58 l).length : Int) := by have := HP0.out; omega
  have HN := Lib.hid (specNum ((cutL 58 l).getD 0 []) w1 HQ0.out)
  generalize hn0 : numL ((cutL 58 l).getD 0 []) = n0 at *
  have HN0 := Lib.hid hn0
  clear hn0
  generalize (cutL 58 l).getD 0 [] = q0 at *
  generalize hPP : cutL 58 l = P at *
  have HPP := Lib.hid hPP
  clear hPP
  go_wp2_with fail
  refine HN.out.mono ?_
  rintro e w2 ⟨rfl, b2⟩
  have c2 := c1.trans (b2.mono c1.size)
  have g2 := (b2.block w.heap.size l1).trans g1
  have l2 := Nat.lt_of_lt_of_le l1 b2.size
  have op2 := ownsS_below op b2
  clear c1 g1 l1 b2 op hc0 HN
  have hb4 : Below w2.heap.size w2 (w2.alloc (.cells #[.int .i64 n0, .slice none 0 0] 27)) := (Below.refl _ w2).alloc (Nat.le_refl _) _
  have c4 := c2.trans (hb4.mono c2.size)
  have g4 := (hb4.block w.heap.size l2).trans g2
  have g5 := heap_alloc_new w2 (.cells #[.int .i64 n0, .slice none 0 0] 27)
  have l5 : w2.heap.size < (w2.alloc (.cells #[.int .i64 n0, .slice none 0 0] 27)).heap.size := by simp
  have op4 := ownsS_below op2 hb4
  have d0 := (cell_of_row (w2.alloc (.cells #[.int .i64 n0, .slice none 0 0] 27)) _ 0 _ _ _ g4).trans (show _ = some (Value.int .i64 0) from rfl)
  have d1 := (cell_of_row (w2.alloc (.cells #[.int .i64 n0, .slice none 0 0] 27)) _ 1 _ _ _ g4).trans (show _ = some (Value.slice none 0 0) from rfl)
  have f0 := frozen_of_row (w2.alloc (.cells #[.int .i64 n0, .slice none 0 0] 27)) _ 0 _ _ g4
  have f1 := frozen_of_row (w2.alloc (.cells #[.int .i64 n0, .slice none 0 0] 27)) _ 1 _ _ g4
  have q0 := (cell_of_row (w2.alloc (.cells #[.int .i64 n0, .slice none 0 0] 27)) _ 0 _ _ _ g5).trans (show _ = some (Value.int .i64 n0) from rfl)
  have q1 := (cell_of_row (w2.alloc (.cells #[.int .i64 n0, .slice none 0 0] 27)) _ 1 _ _ _ g5).trans (show _ = some (Value.slice none 0 0) from rfl)
  have HG4 := Lib.hid g4
  have HG5 := Lib.hid g5
  have HC4 := Lib.hid c4
  have HL5 := Lib.hid l5
  have HO4 := Lib.hid op4
  have HL2 := Lib.hid l2
  clear g4 g5 c4 hb4 l5 c2 g2 l2 op2 op4
  generalize strB ([] : List UInt8) = se at *
  go_wp2_with fail
  generalize w2.alloc (.cells #[.int .i64 n0, .slice none 0 0] 27) = W4 at *
  refine (HFR.out _ _).mono ?_
  rintro e w5 ⟨rfl, b5⟩
  have c5 := HC4.out.trans (b5.mono HC4.out.size)
  have k4 := (b5.block w.heap.size (Array.getElem?_eq_some_iff.1 HG4.out).1).trans HG4.out
  clear q0 q1 d0 d1 f0 f1
  have d0 := (cell_of_row w5 _ 0 _ _ _ k4).trans (show _ = some (Value.int .i64 0) from rfl)
  have d1 := (cell_of_row w5 _ 1 _ _ _ k4).trans (show _ = some (Value.slice none 0 0) from rfl)
  have f0 := frozen_of_row w5 _ 0 _ _ k4
  have f1 := frozen_of_row w5 _ 1 _ _ k4
  have HK4 := Lib.hid k4
  have HC5 := Lib.hid c5
  clear k4 c5 b5
  go_wp2
  have r1 := heap_setCell_same w5 w.heap.size 0 _ _ (.int .i64 0) HK4.out
  have r2 := heap_setCell_same _ w.heap.size 1 _ _ (.slice none 0 0) r1
  have B4 := (HC5.out.setCell (p := ⟨w.heap.size, 0, none⟩) (Nat.le_refl _) (.int .i64 0)).setCell (p := ⟨w.heap.size, 1, none⟩) (Nat.le_refl _) (.slice none 0 0)
  have e0 := cell_of_row _ _ 0 _ _ _ r2
  have e1 := cell_of_row _ _ 1 _ _ _ r2
  simp at e0 e1
  refine bodyPost_ret (v := .tuple #[.agg #[.int .i64 0, .slice none 0 0], .bool false]) ?_ rfl ?_
  · simp [results, Tryd.f10, go_sem, e0, e1]
  · exact parAns_no HA.out B4
set_option maxHeartbeats 16000000 in
set_option maxRecDepth 100000 in
theorem specRow_two (l : List UInt8) (w : World) (hl : l.length ≤ 1048576) (h0 : ¬ l = []) (h2 : (cutL 58 l).length = 2) :
    Calls Tryd.prog 10 #[.string (strB l)] w (ParAns w (parRow l)) := by
  have hne : (((cutL 58 l).length : Int) == 2) = true := by rw [beq_iff_eq]; omega
  have hem : ((strB l).toList == []) = false := by rw [strB_toList, beq_eq_false_iff_ne]; exact h0
  have HRO := Lib.hid (rowOf_two h2)
  have HL0 := Lib.hid h0
  have HTL := Lib.hid (two_len h2)
  have HLL := Lib.hid hl
  have HP2 := Lib.hid h2
  have HC := Lib.hid (fun w => specCut (strB l) 58 58 w rfl (by rw [strB_size]; exact hl))
  have HP0 := Lib.hid (cut_pos 58 l)
  have HQ0 := Lib.hid (Nat.le_trans (cut_piece 58 l 0) hl)
  clear hl h0 h2
  go_enter Tryd.func10, Tryd.ntmps10
  go_wp2_with fail
  have hb0 : Below w.heap.size w (w.alloc (.cells #[.int .i64 0, .slice none 0 0] 27)) := (Below.refl _ w).alloc (Nat.le_refl _) _
  have g0 := heap_alloc_new w (.cells #[.int .i64 0, .slice none 0 0] 27)
  have hlt : w.heap.size < (w.alloc (.cells #[.int .i64 0, .slice none 0 0] 27)).heap.size := by simp
  generalize w.alloc (.cells #[.int .i64 0, .slice none 0 0] 27) = W at *
  refine (HC.out _).mono ?_
  rintro e w1 ⟨vp, rfl, op, b1⟩
  have c1 := hb0.trans (b1.mono hb0.size)
  have g1 := (b1.block w.heap.size hlt).trans g0
  have l1 := Nat.lt_of_lt_of_le hlt b1.size
  clear hb0 g0 hlt b1
  have ep : (strB l).data.toList = l := rfl
  rw [ep] at op
  clear ep
  obtain ⟨g, gcap, rfl⟩ := strs_head op HP0.out
  have hc0 := strs_at op 0 HP0.out
  have i3 : (0 : Int) < ((cutL 58 l).length : Int) := by have := HP0.out; omega
  have HN := Lib.hid (specNum ((cutL 58 l).getD 0 []) w1 HQ0.out)
  generalize hn0 : numL ((cutL 58 l).getD 0 []) = n0 at *
  have HN0 := Lib.hid hn0
  clear hn0
  generalize (cutL 58 l).getD 0 [] = q0 at *
  generalize hPP : cutL 58 l = P at *
  have HPP := Lib.hid hPP
  clear hPP
  go_wp2_with fail
  refine HN.out.mono ?_
  rintro e w2 ⟨rfl, b2⟩
  have c2 := c1.trans (b2.mono c1.size)
  have g2 := (b2.block w.heap.size l1).trans g1
  have l2 := Nat.lt_of_lt_of_le l1 b2.size
  have op2 := ownsS_below op b2
  clear c1 g1 l1 b2 op hc0 HN
  have hb4 : Below w2.heap.size w2 (w2.alloc (.cells #[.int .i64 n0, .slice none 0 0] 27)) := (Below.refl _ w2).alloc (Nat.le_refl _) _
  have c4 := c2.trans (hb4.mono c2.size)
  have g4 := (hb4.block w.heap.size l2).trans g2
  have g5 := heap_alloc_new w2 (.cells #[.int .i64 n0, .slice none 0 0] 27)
  have l5 : w2.heap.size < (w2.alloc (.cells #[.int .i64 n0, .slice none 0 0] 27)).heap.size := by simp
  have op4 := ownsS_below op2 hb4
  have d0 := (cell_of_row (w2.alloc (.cells #[.int .i64 n0, .slice none 0 0] 27)) _ 0 _ _ _ g4).trans (show _ = some (Value.int .i64 0) from rfl)
  have d1 := (cell_of_row (w2.alloc (.cells #[.int .i64 n0, .slice none 0 0] 27)) _ 1 _ _ _ g4).trans (show _ = some (Value.slice none 0 0) from rfl)
  have f0 := frozen_of_row (w2.alloc (.cells #[.int .i64 n0, .slice none 0 0] 27)) _ 0 _ _ g4
  have f1 := frozen_of_row (w2.alloc (.cells #[.int .i64 n0, .slice none 0 0] 27)) _ 1 _ _ g4
  have q0 := (cell_of_row (w2.alloc (.cells #[.int .i64 n0, .slice none 0 0] 27)) _ 0 _ _ _ g5).trans (show _ = some (Value.int .i64 n0) from rfl)
  have q1 := (cell_of_row (w2.alloc (.cells #[.int .i64 n0, .slice none 0 0] 27)) _ 1 _ _ _ g5).trans (show _ = some (Value.slice none 0 0) from rfl)
  have HG4 := Lib.hid g4
  have HG5 := Lib.hid g5
  have HC4 := Lib.hid c4
  have HL5 := Lib.hid l5
  have HO4 := Lib.hid op4
  have HL2 := Lib.hid l2
  clear g4 g5 c4 hb4 l5 c2 g2 l2 op2 op4
  have HO2 := Lib.hid (strs_at HO4.out 1 (by have := HP2.out; omega))
  have hc1 := HO2.out
  have i4 : (1 : Int) < (P.length : Int) := by have := HP2.out; omega
  have HQ1 : Hid ((P.getD 1 []).length ≤ 1048576) := Lib.hid (by have := HTL.out; have := HLL.out; omega)
  have HC2 := Lib.hid (fun w => specCut (strB (P.getD 1 [])) 44 44 w rfl (by rw [strB_size]; exact HQ1.out))
  generalize P.getD 1 [] = q1t at *
  go_wp2_with fail
  generalize w2.alloc (.cells #[.int .i64 n0, .slice none 0 0] 27) = W4 at *
  refine (HC2.out _).mono ?_
  rintro e w5 ⟨vq, rfl, oq, b5⟩
  have eq1 : (strB q1t).data.toList = q1t := rfl
  rw [eq1] at oq
  clear eq1
  have HQP := Lib.hid (cut_pos 44 q1t)
  have HQL := Lib.hid (cut_len 44 q1t)
  have HQQ : Hid (∀ k, ((cutL 44 q1t).getD k []).length ≤ 1048576) := Lib.hid (fun k => Nat.le_trans (cut_piece 44 q1t k) HQ1.out)
  generalize cutL 44 q1t = Q at *
  obtain ⟨gq, qcap, rfl⟩ := strs_head oq HQP.out
  have c5 := HC4.out.trans (b5.mono HC4.out.size)
  have k4 := (b5.block w.heap.size (Array.getElem?_eq_some_iff.1 HG4.out).1).trans HG4.out
  have k5 := (b5.block w2.heap.size HL5.out).trans HG5.out
  have HK4 := Lib.hid k4
  have HC5 := Lib.hid c5
  have HK5 := Lib.hid k5
  have HOQ := Lib.hid oq
  have HR5 := Lib.hid (Nat.lt_of_lt_of_le HL5.out b5.size)
  have HGQ : Hid (gq < w5.heap.size ∧ gq ≠ w2.heap.size) := Lib.hid ⟨(ownsS_ge oq).2, by have := (ownsS_ge oq).1; have := HL5.out; omega⟩
  have HQLEN : Hid (Q.length ≤ 1048576) := Lib.hid (by have := HQL.out; have := HTL.out; have := HLL.out; omega)
  clear q0 q1 d0 d1 f0 f1 k4 k5 c5 b5 oq hc1 hne i4
  go_wp2
  go_loopw [7] (fun i wr => ∃ (k : Nat) (v : Value), k ≤ Q.length ∧ i = .int .i64 k ∧ wr.heap[w2.heap.size]? = some (.cells #[.int .i64 n0, v] 27 (0, 0)) ∧ OwnsN wr w5.heap.size v ((Q.take k).map numL) ∧ Rowed w2.heap.size w5.heap.size w5 wr) (fun i _ => Q.length - (intOf i).toNat)
  case atStart => exact ⟨0, .slice none 0 0, Nat.zero_le _, rfl, HK5.out, ownsN_nil _ _, Rowed.refl _ _ _⟩
  case round =>
    obtain ⟨k, v, hk, rfl, hbx, hown, hrw⟩ := hrel
    by_cases hlt : k < Q.length
    · obtain ⟨va, vcap, rfl⟩ := ints_len (ownsN_ints hown)
      have hcell : wr.cell? ⟨gq, k, none⟩ = some (.string (strB (Q.getD k []))) := by
        have h1 := strs_at HOQ.out k hlt
        unfold World.cell? at h1 ⊢
        rw [hrw.block gq HGQ.out.1 HGQ.out.2]; exact h1
      have hql := HQQ.out k
      have HS := Lib.hid (nums_step hlt)
      have HN := Lib.hid (fun w => specNum (Q.getD k []) w hql)
      have hxl : ((Q.take k).map numL).length = k := by rw [List.length_map, List.length_take]; omega
      have HKL := Lib.hid hxl
      have i1 : (0 : Int) ≤ (k : Int) := by omega
      have i2 : (k : Int) < (Q.length : Int) := by omega
      have i5 : k ≤ 1048576 := by have := HQLEN.out; omega
      have hbl := (Array.getElem?_eq_some_iff.1 hbx).1
      have hql2 : gq < wr.heap.size := Nat.lt_of_lt_of_le HGQ.out.1 hrw.size
      have q0 := (cell_of_row wr _ 0 _ _ _ hbx).trans (show _ = some (Value.int .i64 n0) from rfl)
      have q1 := (cell_of_row wr _ 1 _ _ _ hbx).trans (show _ = some (Value.slice va ((Q.take k).map numL).length vcap) from rfl)
      generalize numL (Q.getD k []) = pn at *
      generalize Q.getD k [] = qk at *
      generalize (Q.take k).map numL = xs at *
      have HW := Lib.hid (And.intro hbx (And.intro hown hrw))
      clear hbx hown hrw hxl
      obtain ⟨W0, hW0⟩ : ∃ W0, wr = W0 := ⟨_, rfl⟩
      subst hW0
      go_wp2
      refine wp_region_held_drew (S := fun w' => w'.cell? ⟨gq, k, none⟩ = some (.string (strB qk))) (by kernel_rfl) hcell (fun hHeld => ?_)
      refine take_runs (i := 0) (v := ?_) (by simp only [List.getElem?_toArray, List.getElem?_cons_succ, List.getElem?_cons_zero]; rfl) (by kernel_rfl) (by kernel_rfl) (by kernel_rfl) rfl (by exact fun _ _ _ h => h) (by rfl) ?_ (by assumption) ?_
      rotate_left
      · intro w hSw; (try dsimp only at hSw); go_simp; try (with_reducible rfl)
      try simp only [Act.put, List.setIfInBounds_toArray, List.set_cons_zero, List.set_cons_succ]
      refine take_runs (i := 2) (v := ?_) (by simp only [List.getElem?_toArray, List.getElem?_cons_succ, List.getElem?_cons_zero]; rfl) (by kernel_rfl) (by kernel_rfl) (by kernel_rfl) rfl (by exact fun _ _ _ h => h) (by rfl) ?_ (by assumption) ?_
      rotate_left
      · intro w hSw; (try dsimp only at hSw); go_simp; try (with_reducible rfl)
      try simp only [Act.put, List.setIfInBounds_toArray, List.set_cons_zero, List.set_cons_succ]
      refine take_runs (i := 3) (v := ?_) (by simp only [List.getElem?_toArray, List.getElem?_cons_succ, List.getElem?_cons_zero]; rfl) (by kernel_rfl) (by kernel_rfl) (by kernel_rfl) rfl (by exact fun _ _ _ h => h) (by rfl) ?_ (by assumption) ?_
      rotate_left
      · intro w hSw; (try dsimp only at hSw); go_simp; try (with_reducible rfl)
      try simp only [Act.put, List.setIfInBounds_toArray, List.set_cons_zero, List.set_cons_succ]
      refine take_runs (i := 4) (v := ?_) (by simp only [List.getElem?_toArray, List.getElem?_cons_succ, List.getElem?_cons_zero]; rfl) (by kernel_rfl) (by kernel_rfl) (by kernel_rfl) rfl (by exact fun _ _ _ h => h) (by rfl) ?_ (by assumption) ?_
      rotate_left
      · intro w hSw; (try dsimp only at hSw); go_simp; try (with_reducible rfl)
      try simp only [Act.put, List.setIfInBounds_toArray, List.set_cons_zero, List.set_cons_succ]
      refine take_runs (i := 5) (v := ?_) (by simp only [List.getElem?_toArray, List.getElem?_cons_succ, List.getElem?_cons_zero]; rfl) (by kernel_rfl) (by kernel_rfl) (by kernel_rfl) rfl (by exact fun _ _ _ h => h) (by rfl) ?_ (by assumption) ?_
      rotate_left
      · intro w hSw; (try dsimp only at hSw); go_simp; try (with_reducible rfl)
      try simp only [Act.put, List.setIfInBounds_toArray, List.set_cons_zero, List.set_cons_succ]
      refine wpAnyH_ready (rs := [1, 6]) (by kernel_rfl) (by simp) ?_
      refine (AllReadyH.cons (o := _) (by simp only [List.getElem?_toArray, List.getElem?_cons_succ, List.getElem?_cons_zero]; rfl) (fun K hK => ?_) (AllReadyH.cons (o := _) (by simp only [List.getElem?_toArray, List.getElem?_cons_succ, List.getElem?_cons_zero]; rfl) (fun K hK => ?_) AllReadyH.nil))
      · go_simp
        refine hK.out _ _ hcell (fun hHeld => ?_)
        clear hK K
        try simp only [Act.put, List.setIfInBounds_toArray, List.set_cons_zero, List.set_cons_succ]
        refine wpAnyH_ready (rs := [6]) (by kernel_rfl) (by simp) ?_
        refine (AllReadyH.cons (o := _) (by simp only [List.getElem?_toArray, List.getElem?_cons_succ, List.getElem?_cons_zero]; rfl) (fun K hK => ?_) AllReadyH.nil)
        go_simp
        refine (HN.out _).mono ?_
        rintro e w6 ⟨rfl, b6'⟩
        have b6 : Below wr.heap.size wr w6 := ⟨b6'.os, b6'.tape, b6'.output, b6'.size, b6'.block⟩
        have s6 := (b6.cell (p := ⟨gq, k, none⟩) hql2).trans hcell
        have p6 := (b6.cell (p := ⟨w2.heap.size, 1, none⟩) hbl).trans q1
        refine hK.out _ _ s6 (fun hHeld => ?_)
        clear hK K
        try simp only [Act.put, List.setIfInBounds_toArray, List.set_cons_zero, List.set_cons_succ]
        refine wpAnyH_ready (rs := [7]) (by kernel_rfl) (by simp) ?_
        refine (AllReadyH.cons (o := _) (by simp only [List.getElem?_toArray, List.getElem?_cons_succ, List.getElem?_cons_zero]; rfl) (fun K hK => ?_) AllReadyH.nil)
        go_simp
        have hA : Below w6.heap.size w6 (w6.alloc (.cells #[.int .i64 pn] 3)) := (Below.refl _ w6).alloc (Nat.le_refl _) _
        have q7 := cell_lit w6 #[.int .i64 pn] 3 0
        have l7 : w6.heap.size < (w6.alloc (.cells #[.int .i64 pn] 3)).heap.size := by simp
        obtain ⟨W7, hW7⟩ : ∃ W7, w6.alloc (.cells #[.int .i64 pn] 3) = W7 := ⟨_, rfl⟩
        rw [hW7] at hA q7 l7 ⊢
        clear hW7
        replace q7 := q7.trans (show _ = some (Value.int .i64 pn) from rfl)
        have s7 := (hA.cell (p := ⟨gq, k, none⟩) (Nat.lt_of_lt_of_le hql2 b6.size)).trans s6
        have p7 := (hA.cell (p := ⟨w2.heap.size, 1, none⟩) (Nat.lt_of_lt_of_le hbl b6.size)).trans p6
        refine hK.out _ _ s7 (fun hHeld => ?_)
        clear hK K
        try simp only [Act.put, List.setIfInBounds_toArray, List.set_cons_zero, List.set_cons_succ]
        have o7 := ownsN_below (ownsN_below HW.out.2.1 b6) hA
        have rw7 := (HW.out.2.2.below b6 HW.out.2.2.size).below hA (Nat.le_trans HW.out.2.2.size b6.size)
        have k7 := (hA.block w2.heap.size (Nat.lt_of_lt_of_le hbl b6.size)).trans ((b6.block w2.heap.size hbl).trans HW.out.1)
        refine wpAnyH_ready (rs := [8]) (by kernel_rfl) (by simp) ?_
        refine AllReadyH.cons (o := _) (by simp only [List.getElem?_toArray, List.getElem?_cons_succ, List.getElem?_cons_zero]; rfl) (fun K hK => ?_) AllReadyH.nil
        refine step_append_ints rfl (.tmp 29) (.tmp 35) rfl w5.heap.size _ _ xs [pn] rfl rfl o7 (ints_one q7 l7) (Nat.le_trans HW.out.2.2.size (Nat.le_trans b6.size hA.size)) (by have := HKL.out; simp; omega) ?_
        intro u W8 oB bB
        obtain ⟨ua, ucap, rfl⟩ := ints_len (ownsN_ints oB)
        have k8 := (bB.block w2.heap.size HR5.out).trans k7
        have s8 := (bB.cell (p := ⟨gq, k, none⟩) HGQ.out.1).trans s7
        have rw8 := rw7.below bB (Nat.le_refl _)
        refine hK.out _ _ s8 (fun hHeld => ?_)
        clear hK K
        try simp only [Act.put, List.setIfInBounds_toArray, List.set_cons_zero, List.set_cons_succ]
        refine take_runs (i := 9) (v := ?_) (by simp only [List.getElem?_toArray, List.getElem?_cons_succ, List.getElem?_cons_zero]; rfl) (by kernel_rfl) (by kernel_rfl) (by kernel_rfl) rfl (by exact fun _ _ _ h => h) (by rfl) ?_ (by assumption) ?_
        rotate_left
        · intro w hSw; (try dsimp only at hSw); go_simp; try (with_reducible rfl)
        try simp only [Act.put, List.setIfInBounds_toArray, List.set_cons_zero, List.set_cons_succ]
        have d1 := cell_of_row W8 _ 1 _ _ _ k8
        have f1 := frozen_of_row W8 _ 1 _ _ k8
        simp at d1
        refine wpAnyH_ready (rs := [10]) (by kernel_rfl) (by simp) ?_
        refine AllReadyH.cons (o := _) (by simp only [List.getElem?_toArray, List.getElem?_cons_succ, List.getElem?_cons_zero]; rfl) (fun K hK => ?_) AllReadyH.nil
        go_simp
        have r9 := heap_setCell_same W8 w2.heap.size 1 _ _ (.slice ua (xs ++ [pn]).length ucap) k8
        have o9 := ownsN_low oB (b := w2.heap.size) HR5.out 1 (.slice ua (xs ++ [pn]).length ucap)
        have rw9 := rw8.set 1 (.slice ua (xs ++ [pn]).length ucap)
        have s9 : (W8.setCell ⟨w2.heap.size, 1, none⟩ (.slice ua (xs ++ [pn]).length ucap)).cell? ⟨gq, k, none⟩ = some (.string (strB qk)) := by
          unfold World.cell? at s8 ⊢
          rw [Below.heap_setCell _ _ _ _ (by simpa using HGQ.out.2)]; exact s8
        simp only [List.length_append, List.length_cons, List.length_nil, Nat.zero_add] at r9 o9 rw9 s9
        generalize W8.setCell ⟨w2.heap.size, 1, none⟩ (.slice ua (xs.length + 1) ucap) = W9 at *
        refine hK.out _ _ s9 (fun hHeld => ?_)
        clear hK K
        try simp only [Act.put, List.setIfInBounds_toArray, List.set_cons_zero, List.set_cons_succ]
        refine wpAnyH_done (by kernel_rfl) ?_ _
        rw [HS.out] at o9
        clear s6 p6 s7 p7 hA q7 l7 o7 rw7 k7 oB bB k8 s8 rw8 d1 f1 s9 b6 hHeld hcell q0 q1
        try clear b6'
        go_wp2
        go_roundw
        case rel => exact ⟨k + 1, .slice ua (xs.length + 1) ucap, by omega, by go_num, by simpa using r9, o9, rw9⟩
        case measure => simp [intOf]; omega
      · go_simp
        refine (HN.out _).mono ?_
        rintro e w6 ⟨rfl, b6'⟩
        have b6 : Below wr.heap.size wr w6 := ⟨b6'.os, b6'.tape, b6'.output, b6'.size, b6'.block⟩
        have s6 := (b6.cell (p := ⟨gq, k, none⟩) hql2).trans hcell
        have p6 := (b6.cell (p := ⟨w2.heap.size, 1, none⟩) hbl).trans q1
        refine hK.out _ _ s6 (fun hHeld => ?_)
        clear hK K
        try simp only [Act.put, List.setIfInBounds_toArray, List.set_cons_zero, List.set_cons_succ]
        refine wpAnyH_ready (rs := [1, 7]) (by kernel_rfl) (by simp) ?_
        refine (AllReadyH.cons (o := _) (by simp only [List.getElem?_toArray, List.getElem?_cons_succ, List.getElem?_cons_zero]; rfl) (fun K hK => ?_) (AllReadyH.cons (o := _) (by simp only [List.getElem?_toArray, List.getElem?_cons_succ, List.getElem?_cons_zero]; rfl) (fun K hK => ?_) AllReadyH.nil))
        · go_simp
          refine hK.out _ _ s6 (fun hHeld => ?_)
          clear hK K
          try simp only [Act.put, List.setIfInBounds_toArray, List.set_cons_zero, List.set_cons_succ]
          refine wpAnyH_ready (rs := [7]) (by kernel_rfl) (by simp) ?_
          refine (AllReadyH.cons (o := _) (by simp only [List.getElem?_toArray, List.getElem?_cons_succ, List.getElem?_cons_zero]; rfl) (fun K hK => ?_) AllReadyH.nil)
          go_simp
          have hA : Below w6.heap.size w6 (w6.alloc (.cells #[.int .i64 pn] 3)) := (Below.refl _ w6).alloc (Nat.le_refl _) _
          have q7 := cell_lit w6 #[.int .i64 pn] 3 0
          have l7 : w6.heap.size < (w6.alloc (.cells #[.int .i64 pn] 3)).heap.size := by simp
          obtain ⟨W7, hW7⟩ : ∃ W7, w6.alloc (.cells #[.int .i64 pn] 3) = W7 := ⟨_, rfl⟩
          rw [hW7] at hA q7 l7 ⊢
          clear hW7
          replace q7 := q7.trans (show _ = some (Value.int .i64 pn) from rfl)
          have s7 := (hA.cell (p := ⟨gq, k, none⟩) (Nat.lt_of_lt_of_le hql2 b6.size)).trans s6
          have p7 := (hA.cell (p := ⟨w2.heap.size, 1, none⟩) (Nat.lt_of_lt_of_le hbl b6.size)).trans p6
          refine hK.out _ _ s7 (fun hHeld => ?_)
          clear hK K
          try simp only [Act.put, List.setIfInBounds_toArray, List.set_cons_zero, List.set_cons_succ]
          have o7 := ownsN_below (ownsN_below HW.out.2.1 b6) hA
          have rw7 := (HW.out.2.2.below b6 HW.out.2.2.size).below hA (Nat.le_trans HW.out.2.2.size b6.size)
          have k7 := (hA.block w2.heap.size (Nat.lt_of_lt_of_le hbl b6.size)).trans ((b6.block w2.heap.size hbl).trans HW.out.1)
          refine wpAnyH_ready (rs := [8]) (by kernel_rfl) (by simp) ?_
          refine AllReadyH.cons (o := _) (by simp only [List.getElem?_toArray, List.getElem?_cons_succ, List.getElem?_cons_zero]; rfl) (fun K hK => ?_) AllReadyH.nil
          refine step_append_ints rfl (.tmp 29) (.tmp 35) rfl w5.heap.size _ _ xs [pn] rfl rfl o7 (ints_one q7 l7) (Nat.le_trans HW.out.2.2.size (Nat.le_trans b6.size hA.size)) (by have := HKL.out; simp; omega) ?_
          intro u W8 oB bB
          obtain ⟨ua, ucap, rfl⟩ := ints_len (ownsN_ints oB)
          have k8 := (bB.block w2.heap.size HR5.out).trans k7
          have s8 := (bB.cell (p := ⟨gq, k, none⟩) HGQ.out.1).trans s7
          have rw8 := rw7.below bB (Nat.le_refl _)
          refine hK.out _ _ s8 (fun hHeld => ?_)
          clear hK K
          try simp only [Act.put, List.setIfInBounds_toArray, List.set_cons_zero, List.set_cons_succ]
          refine take_runs (i := 9) (v := ?_) (by simp only [List.getElem?_toArray, List.getElem?_cons_succ, List.getElem?_cons_zero]; rfl) (by kernel_rfl) (by kernel_rfl) (by kernel_rfl) rfl (by exact fun _ _ _ h => h) (by rfl) ?_ (by assumption) ?_
          rotate_left
          · intro w hSw; (try dsimp only at hSw); go_simp; try (with_reducible rfl)
          try simp only [Act.put, List.setIfInBounds_toArray, List.set_cons_zero, List.set_cons_succ]
          have d1 := cell_of_row W8 _ 1 _ _ _ k8
          have f1 := frozen_of_row W8 _ 1 _ _ k8
          simp at d1
          refine wpAnyH_ready (rs := [10]) (by kernel_rfl) (by simp) ?_
          refine AllReadyH.cons (o := _) (by simp only [List.getElem?_toArray, List.getElem?_cons_succ, List.getElem?_cons_zero]; rfl) (fun K hK => ?_) AllReadyH.nil
          go_simp
          have r9 := heap_setCell_same W8 w2.heap.size 1 _ _ (.slice ua (xs ++ [pn]).length ucap) k8
          have o9 := ownsN_low oB (b := w2.heap.size) HR5.out 1 (.slice ua (xs ++ [pn]).length ucap)
          have rw9 := rw8.set 1 (.slice ua (xs ++ [pn]).length ucap)
          have s9 : (W8.setCell ⟨w2.heap.size, 1, none⟩ (.slice ua (xs ++ [pn]).length ucap)).cell? ⟨gq, k, none⟩ = some (.string (strB qk)) := by
            unfold World.cell? at s8 ⊢
            rw [Below.heap_setCell _ _ _ _ (by simpa using HGQ.out.2)]; exact s8
          simp only [List.length_append, List.length_cons, List.length_nil, Nat.zero_add] at r9 o9 rw9 s9
          generalize W8.setCell ⟨w2.heap.size, 1, none⟩ (.slice ua (xs.length + 1) ucap) = W9 at *
          refine hK.out _ _ s9 (fun hHeld => ?_)
          clear hK K
          try simp only [Act.put, List.setIfInBounds_toArray, List.set_cons_zero, List.set_cons_succ]
          refine wpAnyH_done (by kernel_rfl) ?_ _
          rw [HS.out] at o9
          clear s6 p6 s7 p7 hA q7 l7 o7 rw7 k7 oB bB k8 s8 rw8 d1 f1 s9 b6 hHeld hcell q0 q1
          try clear b6'
          go_wp2
          go_roundw
          case rel => exact ⟨k + 1, .slice ua (xs.length + 1) ucap, by omega, by go_num, by simpa using r9, o9, rw9⟩
          case measure => simp [intOf]; omega
        · go_simp
          have hA : Below w6.heap.size w6 (w6.alloc (.cells #[.int .i64 pn] 3)) := (Below.refl _ w6).alloc (Nat.le_refl _) _
          have q7 := cell_lit w6 #[.int .i64 pn] 3 0
          have l7 : w6.heap.size < (w6.alloc (.cells #[.int .i64 pn] 3)).heap.size := by simp
          obtain ⟨W7, hW7⟩ : ∃ W7, w6.alloc (.cells #[.int .i64 pn] 3) = W7 := ⟨_, rfl⟩
          rw [hW7] at hA q7 l7 ⊢
          clear hW7
          replace q7 := q7.trans (show _ = some (Value.int .i64 pn) from rfl)
          have s7 := (hA.cell (p := ⟨gq, k, none⟩) (Nat.lt_of_lt_of_le hql2 b6.size)).trans s6
          have p7 := (hA.cell (p := ⟨w2.heap.size, 1, none⟩) (Nat.lt_of_lt_of_le hbl b6.size)).trans p6
          refine hK.out _ _ s7 (fun hHeld => ?_)
          clear hK K
          try simp only [Act.put, List.setIfInBounds_toArray, List.set_cons_zero, List.set_cons_succ]
          refine wpAnyH_ready (rs := [1]) (by kernel_rfl) (by simp) ?_
          refine (AllReadyH.cons (o := _) (by simp only [List.getElem?_toArray, List.getElem?_cons_succ, List.getElem?_cons_zero]; rfl) (fun K hK => ?_) AllReadyH.nil)
          go_simp
          refine hK.out _ _ s7 (fun hHeld => ?_)
          clear hK K
          try simp only [Act.put, List.setIfInBounds_toArray, List.set_cons_zero, List.set_cons_succ]
          have o7 := ownsN_below (ownsN_below HW.out.2.1 b6) hA
          have rw7 := (HW.out.2.2.below b6 HW.out.2.2.size).below hA (Nat.le_trans HW.out.2.2.size b6.size)
          have k7 := (hA.block w2.heap.size (Nat.lt_of_lt_of_le hbl b6.size)).trans ((b6.block w2.heap.size hbl).trans HW.out.1)
          refine wpAnyH_ready (rs := [8]) (by kernel_rfl) (by simp) ?_
          refine AllReadyH.cons (o := _) (by simp only [List.getElem?_toArray, List.getElem?_cons_succ, List.getElem?_cons_zero]; rfl) (fun K hK => ?_) AllReadyH.nil
          refine step_append_ints rfl (.tmp 29) (.tmp 35) rfl w5.heap.size _ _ xs [pn] rfl rfl o7 (ints_one q7 l7) (Nat.le_trans HW.out.2.2.size (Nat.le_trans b6.size hA.size)) (by have := HKL.out; simp; omega) ?_
          intro u W8 oB bB
          obtain ⟨ua, ucap, rfl⟩ := ints_len (ownsN_ints oB)
          have k8 := (bB.block w2.heap.size HR5.out).trans k7
          have s8 := (bB.cell (p := ⟨gq, k, none⟩) HGQ.out.1).trans s7
          have rw8 := rw7.below bB (Nat.le_refl _)
          refine hK.out _ _ s8 (fun hHeld => ?_)
          clear hK K
          try simp only [Act.put, List.setIfInBounds_toArray, List.set_cons_zero, List.set_cons_succ]
          refine take_runs (i := 9) (v := ?_) (by simp only [List.getElem?_toArray, List.getElem?_cons_succ, List.getElem?_cons_zero]; rfl) (by kernel_rfl) (by kernel_rfl) (by kernel_rfl) rfl (by exact fun _ _ _ h => h) (by rfl) ?_ (by assumption) ?_
          rotate_left
          · intro w hSw; (try dsimp only at hSw); go_simp; try (with_reducible rfl)
          try simp only [Act.put, List.setIfInBounds_toArray, List.set_cons_zero, List.set_cons_succ]
          have d1 := cell_of_row W8 _ 1 _ _ _ k8
          have f1 := frozen_of_row W8 _ 1 _ _ k8
          simp at d1
          refine wpAnyH_ready (rs := [10]) (by kernel_rfl) (by simp) ?_
          refine AllReadyH.cons (o := _) (by simp only [List.getElem?_toArray, List.getElem?_cons_succ, List.getElem?_cons_zero]; rfl) (fun K hK => ?_) AllReadyH.nil
          go_simp
          have r9 := heap_setCell_same W8 w2.heap.size 1 _ _ (.slice ua (xs ++ [pn]).length ucap) k8
          have o9 := ownsN_low oB (b := w2.heap.size) HR5.out 1 (.slice ua (xs ++ [pn]).length ucap)
          have rw9 := rw8.set 1 (.slice ua (xs ++ [pn]).length ucap)
          have s9 : (W8.setCell ⟨w2.heap.size, 1, none⟩ (.slice ua (xs ++ [pn]).length ucap)).cell? ⟨gq, k, none⟩ = some (.string (strB qk)) := by
            unfold World.cell? at s8 ⊢
            rw [Below.heap_setCell _ _ _ _ (by simpa using HGQ.out.2)]; exact s8
          simp only [List.length_append, List.length_cons, List.length_nil, Nat.zero_add] at r9 o9 rw9 s9
          generalize W8.setCell ⟨w2.heap.size, 1, none⟩ (.slice ua (xs.length + 1) ucap) = W9 at *
          refine hK.out _ _ s9 (fun hHeld => ?_)
          clear hK K
          try simp only [Act.put, List.setIfInBounds_toArray, List.set_cons_zero, List.set_cons_succ]
          refine wpAnyH_done (by kernel_rfl) ?_ _
          rw [HS.out] at o9
          clear s6 p6 s7 p7 hA q7 l7 o7 rw7 k7 oB bB k8 s8 rw8 d1 f1 s9 b6 hHeld hcell q0 q1
          try clear b6'
          go_wp2
          go_roundw
          case rel => exact ⟨k + 1, .slice ua (xs.length + 1) ucap, by omega, by go_num, by simpa using r9, o9, rw9⟩
          case measure => simp [intOf]; omega
    · obtain rfl : k = Q.length := by omega
      rw [List.take_length] at hown
      have HXL : Hid ((Q.map numL).length ≤ 1048576) := Lib.hid (by rw [List.length_map]; exact HQLEN.out)
      generalize Q.map numL = xs at *
      obtain ⟨va, vcap, rfl⟩ := ints_len (ownsN_ints hown)
      have HFR := Lib.hid (fun w h => specFormatRow n0 (.slice va xs.length vcap) xs w h HXL.out)
      have q0 := (cell_of_row wr _ 0 _ _ _ hbx).trans (show _ = some (Value.int .i64 n0) from rfl)
      have q1 := (cell_of_row wr _ 1 _ _ _ hbx).trans (show _ = some (Value.slice va xs.length vcap) from rfl)
      have kz := (hrw.block w.heap.size (Nat.lt_trans HL2.out HR5.out) (Nat.ne_of_lt HL2.out)).trans HK4.out
      have cz := hrw.all HC5.out (Nat.le_of_lt HL2.out) HC5.out.size
      have HKZ := Lib.hid kz
      have HCZ := Lib.hid cz
      have HBX := Lib.hid hbx
      have HOW := Lib.hid hown
      clear kz cz hbx hown hrw
      by_cases hf : fmtRow (n0, xs) = l
      · have HA : Hid (parRow l = ((n0, xs), true)) := Lib.hid (by rw [parRow_yes HL0.out (by rw [HRO.out]; exact hf), HRO.out])
        have hcmp : (!((strB (fmtRow (n0, xs))).toList == (strB l).toList)) = false := by rw [strB_toList, strB_toList]; rw [hf]; simp
        clear hf
        generalize strB (fmtRow (n0, xs)) = st at *
        generalize parRow l = pr at *
        generalize strB l = sl at *
        go_wp2_with fail
        refine (HFR.out _ (ownsN_ints HOW.out)).mono ?_
        rintro e w9 ⟨rfl, b9⟩
        have c9 := HCZ.out.trans (b9.mono HCZ.out.size)
        have kz := (b9.block w.heap.size (Array.getElem?_eq_some_iff.1 HKZ.out).1).trans HKZ.out
        have kb := (b9.block w2.heap.size (Array.getElem?_eq_some_iff.1 HBX.out).1).trans HBX.out
        have o9 := ownsN_below HOW.out b9
        clear q0 q1
        have d0 := (cell_of_row w9 _ 0 _ _ _ kz).trans (show _ = some (Value.int .i64 0) from rfl)
        have d1 := (cell_of_row w9 _ 1 _ _ _ kz).trans (show _ = some (Value.slice none 0 0) from rfl)
        have f0 := frozen_of_row w9 _ 0 _ _ kz
        have f1 := frozen_of_row w9 _ 1 _ _ kz
        have q0 := (cell_of_row w9 _ 0 _ _ _ kb).trans (show _ = some (Value.int .i64 n0) from rfl)
        have q1 := (cell_of_row w9 _ 1 _ _ _ kb).trans (show _ = some (Value.slice va xs.length vcap) from rfl)
        have HK9 := Lib.hid kz
        have HC9 := Lib.hid c9
        have HO9 := Lib.hid o9
        clear kz kb c9 o9 b9
        go_wp2
        have r1 := heap_setCell_same w9 w.heap.size 0 _ _ (.int .i64 n0) HK9.out
        have r2 := heap_setCell_same _ w.heap.size 1 _ _ (.slice va xs.length vcap) r1
        have B4 := (HC9.out.setCell (p := ⟨w.heap.size, 0, none⟩) (Nat.le_refl _) (.int .i64 n0)).setCell (p := ⟨w.heap.size, 1, none⟩) (Nat.le_refl _) (.slice va xs.length vcap)
        have hlow := Nat.lt_trans HL2.out HR5.out
        have o6 := ownsN_low (ownsN_low HO9.out (b := w.heap.size) hlow 0 (.int .i64 n0)) (b := w.heap.size) hlow 1 (.slice va xs.length vcap)
        have e0 := cell_of_row _ _ 0 _ _ _ r2
        have e1 := cell_of_row _ _ 1 _ _ _ r2
        simp at e0 e1
        refine bodyPost_ret (v := .tuple #[.agg #[.int .i64 n0, .slice va xs.length vcap], .bool true]) ?_ rfl ?_
        · simp [results, Tryd.f10, go_sem, e0, e1]
        · exact parAns_yes HA.out (ownsN_up o6 (Nat.le_of_lt hlow)) B4
      · have HA : Hid (parRow l = ((0, []), false)) := Lib.hid (by exact parRow_no (Or.inr (by rw [HRO.out]; exact hf)))
        have hcmp : (!((strB (fmtRow (n0, xs))).toList == (strB l).toList)) = true := by rw [strB_toList, strB_toList]; rw [Bool.not_eq_true', beq_eq_false_iff_ne]; exact hf
        clear hf
        generalize strB (fmtRow (n0, xs)) = st at *
        generalize parRow l = pr at *
        generalize strB l = sl at *
        go_wp2_with fail
        refine (HFR.out _ (ownsN_ints HOW.out)).mono ?_
        rintro e w9 ⟨rfl, b9⟩
        have c9 := HCZ.out.trans (b9.mono HCZ.out.size)
        have kz := (b9.block w.heap.size (Array.getElem?_eq_some_iff.1 HKZ.out).1).trans HKZ.out
        have kb := (b9.block w2.heap.size (Array.getElem?_eq_some_iff.1 HBX.out).1).trans HBX.out
        have o9 := ownsN_below HOW.out b9
        clear q0 q1
        have d0 := (cell_of_row w9 _ 0 _ _ _ kz).trans (show _ = some (Value.int .i64 0) from rfl)
        have d1 := (cell_of_row w9 _ 1 _ _ _ kz).trans (show _ = some (Value.slice none 0 0) from rfl)
        have f0 := frozen_of_row w9 _ 0 _ _ kz
        have f1 := frozen_of_row w9 _ 1 _ _ kz
        have q0 := (cell_of_row w9 _ 0 _ _ _ kb).trans (show _ = some (Value.int .i64 n0) from rfl)
        have q1 := (cell_of_row w9 _ 1 _ _ _ kb).trans (show _ = some (Value.slice va xs.length vcap) from rfl)
        have HK9 := Lib.hid kz
        have HC9 := Lib.hid c9
        have HO9 := Lib.hid o9
        clear kz kb c9 o9 b9
        go_wp2
        have r1 := heap_setCell_same w9 w.heap.size 0 _ _ (.int .i64 0) HK9.out
        have r2 := heap_setCell_same _ w.heap.size 1 _ _ (.slice none 0 0) r1
        have B4 := (HC9.out.setCell (p := ⟨w.heap.size, 0, none⟩) (Nat.le_refl _) (.int .i64 0)).setCell (p := ⟨w.heap.size, 1, none⟩) (Nat.le_refl _) (.slice none 0 0)
        have e0 := cell_of_row _ _ 0 _ _ _ r2
        have e1 := cell_of_row _ _ 1 _ _ _ r2
        simp at e0 e1
        refine bodyPost_ret (v := .tuple #[.agg #[.int .i64 0, .slice none 0 0], .bool false]) ?_ rfl ?_
        · simp [results, Tryd.f10, go_sem, e0, e1]
        · exact parAns_no HA.out B4
theorem specParseRow (l : List UInt8) (w : World) (hl : l.length ≤ 1048576) :
    Calls Tryd.prog 10 #[.string (strB l)] w (ParAns w (parRow l)) := by
  by_cases h0 : l = []
  · exact specRow_empty l w hl h0
  · by_cases h2 : (cutL 58 l).length = 2
    · exact specRow_two l w hl h0 h2
    · exact specRow_one l w hl h0 h2
end Go.Proofs.YtjmiihgaaagojaaDoor
