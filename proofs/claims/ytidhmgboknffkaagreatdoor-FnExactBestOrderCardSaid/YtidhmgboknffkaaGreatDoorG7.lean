/-
  Texts of the proof, merged: ProbeP, MapCount, MapEntry, Rec, RecLim, RecEq, RowIsP, TRow, TRowS, BrRow.
-/
import Derived.Test.YtidhmgboknffkaaGreatDoorG6
import Derived.Lib.MinMax
import Derived.IntWalk
import Derived.Maps.RangeWalk
import Derived.WideKeyPair
import Derived.WideKeyEntry
import Derived.Maps.OwnOps
import Derived.Laws.CopyOwn
import Derived.Laws.StructEq
import Derived.BigQuiet
import Derived.Deep.QuietTactic
import Derived.Deep.RegionHeld3
namespace Go.Proofs.YtidhmgboknffkaaGreatDoor
open Go.RowKit
set_option linter.unusedVariables false
set_option linter.unusedSimpArgs false
theorem idxS0 (s0 s1 s2 : Value) (w : World) : Sem.run Tryz.prog (Instr.index 61 (.agg #[s0, s1, s2]) (.int .i64 0)) w = .ok s0 w := by
  have u := Tryz.underlying61
  have z := Tryz.sizeOf60
  have g := Tryz.isAgg60
  unfold Instr.index
  go_simp
theorem idxS1 (s0 s1 s2 : Value) (w : World) : Sem.run Tryz.prog (Instr.index 61 (.agg #[s0, s1, s2]) (.int .i64 1)) w = .ok s1 w := by
  have u := Tryz.underlying61
  have z := Tryz.sizeOf60
  have g := Tryz.isAgg60
  unfold Instr.index
  go_simp
theorem idxS2 (s0 s1 s2 : Value) (w : World) : Sem.run Tryz.prog (Instr.index 61 (.agg #[s0, s1, s2]) (.int .i64 2)) w = .ok s2 w := by
  have u := Tryz.underlying61
  have z := Tryz.sizeOf60
  have g := Tryz.isAgg60
  unfold Instr.index
  go_simp
theorem idxP0 (a b c : Int) (w : World) : Sem.run Tryz.prog (Instr.index 69 (.agg #[.int .i64 a, .int .i64 b, .int .i64 c]) (.int .i64 0)) w = .ok (.int .i64 a) w := by
  have u := Tryz.underlying69
  have z := Tryz.sizeOf3
  have g := Tryz.isAgg3
  unfold Instr.index
  go_simp
theorem idxP1 (a b c : Int) (w : World) : Sem.run Tryz.prog (Instr.index 69 (.agg #[.int .i64 a, .int .i64 b, .int .i64 c]) (.int .i64 1)) w = .ok (.int .i64 b) w := by
  have u := Tryz.underlying69
  have z := Tryz.sizeOf3
  have g := Tryz.isAgg3
  unfold Instr.index
  go_simp
theorem idxP2 (a b c : Int) (w : World) : Sem.run Tryz.prog (Instr.index 69 (.agg #[.int .i64 a, .int .i64 b, .int .i64 c]) (.int .i64 2)) w = .ok (.int .i64 c) w := by
  have u := Tryz.underlying69
  have z := Tryz.sizeOf3
  have g := Tryz.isAgg3
  unfold Instr.index
  go_simp
theorem findL_len3 {rs : List SpanD} {v : Int} (h : zL tSpan rs ≤ 1048576) : (findL rs v).length ≤ 1048576 := findL_len (by rw [← zL_spans]; exact h)
set_option maxHeartbeats 16000000 in
set_option maxRecDepth 100000 in
theorem implSetsOf (m : Nat) (s0 s1 s2 : Value) (fs : List (List SpanD)) (rid : Int) (vv : Value) (vs : List Int) (w : World) (hc : CI w fs s0 s1 s2) (h : Ints w vv vs) (hz : zL tSpanS fs ≤ 1048576) (hf : fs.length = 3) (hv : vs.length = 3) :
    Calls Tryz.prog 48 #[ciV m s0 s1 s2, .agg #[.int .i64 rid, vv]] w fun e w' => e = .returned (.agg #[.int .u32 ((setM fs vs 0 : Nat) : Int), .int .u32 ((setM fs vs 1 : Nat) : Int), .int .u32 ((setM fs vs 2 : Nat) : Int)]) ∧ Below w.heap.size w w' := by
  obtain ⟨vb, vo, vc, rfl, hvb, hcell⟩ := ints_cell h (by omega)
  have HI := Lib.hid hc
  have z0 : zL tSpan (fs.getD 0 []) ≤ 1048576 := zL_at hz (by omega)
  have z1 : zL tSpan (fs.getD 1 []) ≤ 1048576 := zL_at hz (by omega)
  have z2 : zL tSpan (fs.getD 2 []) ≤ 1048576 := zL_at hz (by omega)
  have HVB := Lib.hid hvb
  have V0 := Lib.hid (hcell 0 (by omega)); have V1 := Lib.hid (hcell 1 (by omega)); have V2 := Lib.hid (hcell 2 (by omega))
  rw [hv] at *
  have F0 := Lib.hid (fun w g => implFindSpan s0 (fs.getD 0 []) (vs.getD 0 0) w g (by rw [← zL_spans]; exact z0))
  have F1 := Lib.hid (fun w g => implFindSpan s1 (fs.getD 1 []) (vs.getD 1 0) w g (by rw [← zL_spans]; exact z1))
  have F2 := Lib.hid (fun w g => implFindSpan s2 (fs.getD 2 []) (vs.getD 2 0) w g (by rw [← zL_spans]; exact z2))
  have M0 := Lib.hid (fun u w g => implMaskOf u (findL (fs.getD 0 []) (vs.getD 0 0)) w g (by have := findL_len3 (v := vs.getD 0 0) z0; omega))
  have M1 := Lib.hid (fun u w g => implMaskOf u (findL (fs.getD 1 []) (vs.getD 1 0)) w g (by have := findL_len3 (v := vs.getD 1 0) z1; omega))
  have M2 := Lib.hid (fun u w g => implMaskOf u (findL (fs.getD 2 []) (vs.getD 2 0)) w g (by have := findL_len3 (v := vs.getD 2 0) z2; omega))
  change Hid (∀ u w, Ints w u _ → Calls Tryz.prog _ #[u] w fun e w' => e = .returned (.tuple #[.int .u32 ((setM fs vs 0 : Nat) : Int), .bool _]) ∧ _) at M0
  change Hid (∀ u w, Ints w u _ → Calls Tryz.prog _ #[u] w fun e w' => e = .returned (.tuple #[.int .u32 ((setM fs vs 1 : Nat) : Int), .bool _]) ∧ _) at M1
  change Hid (∀ u w, Ints w u _ → Calls Tryz.prog _ #[u] w fun e w' => e = .returned (.tuple #[.int .u32 ((setM fs vs 2 : Nat) : Int), .bool _]) ∧ _) at M2
  clear hc h hz hf hv hcell hvb z0 z1 z2
  generalize setM fs vs 0 = m0 at *
  generalize setM fs vs 1 = m1 at *
  generalize setM fs vs 2 = m2 at *
  generalize vs.getD 0 0 = x0 at *
  generalize vs.getD 1 0 = x1 at *
  generalize vs.getD 2 0 = x2 at *
  have j0 := idxS0 s0 s1 s2
  have j1 := idxS1 s0 s1 s2
  have j2 := idxS2 s0 s1 s2
  go_enter Tryz.func48, Tryz.ntmps48
  go_wp2
  have d := Lib.hid (((((Below.refl w.heap.size w).alloc (Nat.le_refl _) (.cells #[.int .u32 (m : Int), s0, s1, s2] 63)).alloc (by simp) (.cells #[.int .i64 rid, .slice (some ⟨vb, vo, none⟩) 3 vc] 56)).alloc (by simp <;> omega) (.cells #[.int .u32 0, .int .u32 0, .int .u32 0] 97)).alloc (by simp <;> omega) (.cells #[.int .u32 0, .int .u32 0, .int .u32 0] 97))
  have B1 : Hid (((((w.alloc (.cells #[.int .u32 (m : Int), s0, s1, s2] 63)).alloc (.cells #[.int .i64 rid, .slice (some ⟨vb, vo, none⟩) 3 vc] 56)).alloc (.cells #[.int .u32 0, .int .u32 0, .int .u32 0] 97)).alloc (.cells #[.int .u32 0, .int .u32 0, .int .u32 0] 97)).heap[(w.heap.size + 1)]? = some (.cells #[.int .i64 rid, .slice (some ⟨vb, vo, none⟩) 3 vc] 56 (0, 0))) := Lib.hid (by
    rw [Below.heap_alloc _ _ _ (by simp <;> omega), Below.heap_alloc _ _ _ (by simp)]
    have := heap_alloc_new (w.alloc (.cells #[.int .u32 (m : Int), s0, s1, s2] 63)) (.cells #[.int .i64 rid, .slice (some ⟨vb, vo, none⟩) 3 vc] 56)
    simpa only [World.size_alloc] using this)
  have B2 : Hid (((((w.alloc (.cells #[.int .u32 (m : Int), s0, s1, s2] 63)).alloc (.cells #[.int .i64 rid, .slice (some ⟨vb, vo, none⟩) 3 vc] 56)).alloc (.cells #[.int .u32 0, .int .u32 0, .int .u32 0] 97)).alloc (.cells #[.int .u32 0, .int .u32 0, .int .u32 0] 97)).heap[(w.heap.size + 1 + 1)]? = some (.cells #[.int .u32 0, .int .u32 0, .int .u32 0] 97 (0, 0))) := Lib.hid (by
    rw [Below.heap_alloc _ _ _ (by simp)]
    have := heap_alloc_new ((w.alloc (.cells #[.int .u32 (m : Int), s0, s1, s2] 63)).alloc (.cells #[.int .i64 rid, .slice (some ⟨vb, vo, none⟩) 3 vc] 56)) (.cells #[.int .u32 0, .int .u32 0, .int .u32 0] 97)
    simpa only [World.size_alloc] using this)
  have B3 : Hid (((((w.alloc (.cells #[.int .u32 (m : Int), s0, s1, s2] 63)).alloc (.cells #[.int .i64 rid, .slice (some ⟨vb, vo, none⟩) 3 vc] 56)).alloc (.cells #[.int .u32 0, .int .u32 0, .int .u32 0] 97)).alloc (.cells #[.int .u32 0, .int .u32 0, .int .u32 0] 97)).heap[(w.heap.size + 1 + 1 + 1)]? = some (.cells #[.int .u32 0, .int .u32 0, .int .u32 0] 97 (0, 0))) := Lib.hid (by
    have := heap_alloc_new (((w.alloc (.cells #[.int .u32 (m : Int), s0, s1, s2] 63)).alloc (.cells #[.int .i64 rid, .slice (some ⟨vb, vo, none⟩) 3 vc] 56)).alloc (.cells #[.int .u32 0, .int .u32 0, .int .u32 0] 97)) (.cells #[.int .u32 0, .int .u32 0, .int .u32 0] 97)
    simpa only [World.size_alloc] using this)
  generalize ((((w.alloc (.cells #[.int .u32 (m : Int), s0, s1, s2] 63)).alloc (.cells #[.int .i64 rid, .slice (some ⟨vb, vo, none⟩) 3 vc] 56)).alloc (.cells #[.int .u32 0, .int .u32 0, .int .u32 0] 97)).alloc (.cells #[.int .u32 0, .int .u32 0, .int .u32 0] 97)) = W at *
  refine wp_loop_rounds 4 ?_
  rw [rounds_succ]
  have i0 : (0 : Int) ≤ 0 := by decide
  have q0 := (d.out.cell (p := ⟨vb, vo, none⟩) HVB.out).trans V0.out
  have q1 := (cell_of_row W _ 1 _ _ _ B1.out).trans (show _ = some (Value.slice (some ⟨vb, vo, none⟩) 3 vc) from rfl)
  go_wp2_with fail
  clear q0 q1 i0
  refine (F0.out W (slR_spans (ci_below HI.out d.out).1)).mono ?_
  rintro e wa0 ⟨u0, rfl, ou, c4⟩
  replace B1 := Lib.hid ((c4.block (w.heap.size + 1) (Array.getElem?_eq_some_iff.1 B1.out).1).trans B1.out)
  replace B2 := Lib.hid ((c4.block (w.heap.size + 1 + 1) (Array.getElem?_eq_some_iff.1 B2.out).1).trans B2.out)
  replace B3 := Lib.hid ((c4.block (w.heap.size + 1 + 1 + 1) (Array.getElem?_eq_some_iff.1 B3.out).1).trans B3.out)
  replace d := Lib.hid (d.out.trans (c4.mono d.out.size))
  have Z_wa0 := Lib.hid (show W.heap.size ≤ wa0.heap.size from c4.size)
  clear c4
  go_wp2_with fail
  refine (M0.out u0 wa0 (ownsN_ints ou)).mono ?_
  rintro e wb0 ⟨rfl, c5⟩
  replace B1 := Lib.hid ((c5.block (w.heap.size + 1) (Array.getElem?_eq_some_iff.1 B1.out).1).trans B1.out)
  replace B2 := Lib.hid ((c5.block (w.heap.size + 1 + 1) (Array.getElem?_eq_some_iff.1 B2.out).1).trans B2.out)
  replace B3 := Lib.hid ((c5.block (w.heap.size + 1 + 1 + 1) (Array.getElem?_eq_some_iff.1 B3.out).1).trans B3.out)
  replace d := Lib.hid (d.out.trans (c5.mono d.out.size))
  have Z_wb0 := Lib.hid (show wa0.heap.size ≤ wb0.heap.size from c5.size)
  clear c5 ou
  have f0 := frozen_of_row wb0 _ 0 _ _ B3.out
  have r0 := (cell_of_row wb0 _ 0 _ _ _ B3.out).trans (show _ = some (Value.int .u32 0) from rfl)
  go_wp2
  clear f0 r0
  have yd := d.out.size
  have tt : Turn (fun b => b = w.heap.size + 1 + 1 + 1) wb0 (wb0.setCell ⟨w.heap.size + 1 + 1 + 1, 0, none⟩ (.int .u32 (m0 : Int))) := turn_set (G := fun b => b = w.heap.size + 1 + 1 + 1) (g := w.heap.size + 1 + 1 + 1) (j := 0) (u := .int .u32 (m0 : Int)) rfl
  have r := heap_setCell_same wb0 (w.heap.size + 1 + 1 + 1) 0 _ _ (.int .u32 (m0 : Int)) B3.out
  have hb1 := (Array.getElem?_eq_some_iff.1 B1.out).1; have hb2 := (Array.getElem?_eq_some_iff.1 B2.out).1
  replace B3 : Hid ((wb0.setCell ⟨w.heap.size + 1 + 1 + 1, 0, none⟩ (.int .u32 (m0 : Int))).heap[(w.heap.size + 1 + 1 + 1)]? = some (.cells #[.int .u32 (m0 : Int), .int .u32 0, .int .u32 0] 97 (0, 0))) := Lib.hid (by simpa using r)
  replace B1 := Lib.hid ((tt.block (w.heap.size + 1) hb1 (fun h => by omega)).trans B1.out)
  replace B2 := Lib.hid ((tt.block (w.heap.size + 1 + 1) hb2 (fun h => by omega)).trans B2.out)
  replace d := Lib.hid (below_turn d.out tt (fun b h => by omega) d.out.size)
  clear tt r yd hb1 hb2
  generalize (wb0.setCell ⟨w.heap.size + 1 + 1 + 1, 0, none⟩ (.int .u32 (m0 : Int))) = W2 at *
  rw [rounds_succ]
  have i0 : (0 : Int) ≤ 1 := by decide
  have q0 := (d.out.cell (p := ⟨vb, vo + 1, none⟩) HVB.out).trans V1.out
  have q1 := (cell_of_row W2 _ 1 _ _ _ B1.out).trans (show _ = some (Value.slice (some ⟨vb, vo, none⟩) 3 vc) from rfl)
  go_wp2_with fail
  clear q0 q1 i0
  refine (F1.out W2 (slR_spans (ci_below HI.out d.out).2.1)).mono ?_
  rintro e wa1 ⟨u1, rfl, ou, c4⟩
  replace B1 := Lib.hid ((c4.block (w.heap.size + 1) (Array.getElem?_eq_some_iff.1 B1.out).1).trans B1.out)
  replace B2 := Lib.hid ((c4.block (w.heap.size + 1 + 1) (Array.getElem?_eq_some_iff.1 B2.out).1).trans B2.out)
  replace B3 := Lib.hid ((c4.block (w.heap.size + 1 + 1 + 1) (Array.getElem?_eq_some_iff.1 B3.out).1).trans B3.out)
  replace d := Lib.hid (d.out.trans (c4.mono d.out.size))
  have Z_wa1 := Lib.hid (show W2.heap.size ≤ wa1.heap.size from c4.size)
  clear c4
  go_wp2_with fail
  refine (M1.out u1 wa1 (ownsN_ints ou)).mono ?_
  rintro e wb1 ⟨rfl, c5⟩
  replace B1 := Lib.hid ((c5.block (w.heap.size + 1) (Array.getElem?_eq_some_iff.1 B1.out).1).trans B1.out)
  replace B2 := Lib.hid ((c5.block (w.heap.size + 1 + 1) (Array.getElem?_eq_some_iff.1 B2.out).1).trans B2.out)
  replace B3 := Lib.hid ((c5.block (w.heap.size + 1 + 1 + 1) (Array.getElem?_eq_some_iff.1 B3.out).1).trans B3.out)
  replace d := Lib.hid (d.out.trans (c5.mono d.out.size))
  have Z_wb1 := Lib.hid (show wa1.heap.size ≤ wb1.heap.size from c5.size)
  clear c5 ou
  have f0 := frozen_of_row wb1 _ 1 _ _ B3.out
  have r0 := (cell_of_row wb1 _ 1 _ _ _ B3.out).trans (show _ = some (Value.int .u32 0) from rfl)
  go_wp2
  clear f0 r0
  have yd := d.out.size
  have tt : Turn (fun b => b = w.heap.size + 1 + 1 + 1) wb1 (wb1.setCell ⟨w.heap.size + 1 + 1 + 1, 1, none⟩ (.int .u32 (m1 : Int))) := turn_set (G := fun b => b = w.heap.size + 1 + 1 + 1) (g := w.heap.size + 1 + 1 + 1) (j := 1) (u := .int .u32 (m1 : Int)) rfl
  have r := heap_setCell_same wb1 (w.heap.size + 1 + 1 + 1) 1 _ _ (.int .u32 (m1 : Int)) B3.out
  have hb1 := (Array.getElem?_eq_some_iff.1 B1.out).1; have hb2 := (Array.getElem?_eq_some_iff.1 B2.out).1
  replace B3 : Hid ((wb1.setCell ⟨w.heap.size + 1 + 1 + 1, 1, none⟩ (.int .u32 (m1 : Int))).heap[(w.heap.size + 1 + 1 + 1)]? = some (.cells #[.int .u32 (m0 : Int), .int .u32 (m1 : Int), .int .u32 0] 97 (0, 0))) := Lib.hid (by simpa using r)
  replace B1 := Lib.hid ((tt.block (w.heap.size + 1) hb1 (fun h => by omega)).trans B1.out)
  replace B2 := Lib.hid ((tt.block (w.heap.size + 1 + 1) hb2 (fun h => by omega)).trans B2.out)
  replace d := Lib.hid (below_turn d.out tt (fun b h => by omega) d.out.size)
  clear tt r yd hb1 hb2
  generalize (wb1.setCell ⟨w.heap.size + 1 + 1 + 1, 1, none⟩ (.int .u32 (m1 : Int))) = W3 at *
  rw [rounds_succ]
  have i0 : (0 : Int) ≤ 2 := by decide
  have q0 := (d.out.cell (p := ⟨vb, vo + 2, none⟩) HVB.out).trans V2.out
  have q1 := (cell_of_row W3 _ 1 _ _ _ B1.out).trans (show _ = some (Value.slice (some ⟨vb, vo, none⟩) 3 vc) from rfl)
  go_wp2_with fail
  clear q0 q1 i0
  refine (F2.out W3 (slR_spans (ci_below HI.out d.out).2.2)).mono ?_
  rintro e wa2 ⟨u2, rfl, ou, c4⟩
  replace B1 := Lib.hid ((c4.block (w.heap.size + 1) (Array.getElem?_eq_some_iff.1 B1.out).1).trans B1.out)
  replace B2 := Lib.hid ((c4.block (w.heap.size + 1 + 1) (Array.getElem?_eq_some_iff.1 B2.out).1).trans B2.out)
  replace B3 := Lib.hid ((c4.block (w.heap.size + 1 + 1 + 1) (Array.getElem?_eq_some_iff.1 B3.out).1).trans B3.out)
  replace d := Lib.hid (d.out.trans (c4.mono d.out.size))
  have Z_wa2 := Lib.hid (show W3.heap.size ≤ wa2.heap.size from c4.size)
  clear c4
  go_wp2_with fail
  refine (M2.out u2 wa2 (ownsN_ints ou)).mono ?_
  rintro e wb2 ⟨rfl, c5⟩
  replace B1 := Lib.hid ((c5.block (w.heap.size + 1) (Array.getElem?_eq_some_iff.1 B1.out).1).trans B1.out)
  replace B2 := Lib.hid ((c5.block (w.heap.size + 1 + 1) (Array.getElem?_eq_some_iff.1 B2.out).1).trans B2.out)
  replace B3 := Lib.hid ((c5.block (w.heap.size + 1 + 1 + 1) (Array.getElem?_eq_some_iff.1 B3.out).1).trans B3.out)
  replace d := Lib.hid (d.out.trans (c5.mono d.out.size))
  have Z_wb2 := Lib.hid (show wa2.heap.size ≤ wb2.heap.size from c5.size)
  clear c5 ou
  have f0 := frozen_of_row wb2 _ 2 _ _ B3.out
  have r0 := (cell_of_row wb2 _ 2 _ _ _ B3.out).trans (show _ = some (Value.int .u32 0) from rfl)
  go_wp2
  clear f0 r0
  have yd := d.out.size
  have tt : Turn (fun b => b = w.heap.size + 1 + 1 + 1) wb2 (wb2.setCell ⟨w.heap.size + 1 + 1 + 1, 2, none⟩ (.int .u32 (m2 : Int))) := turn_set (G := fun b => b = w.heap.size + 1 + 1 + 1) (g := w.heap.size + 1 + 1 + 1) (j := 2) (u := .int .u32 (m2 : Int)) rfl
  have r := heap_setCell_same wb2 (w.heap.size + 1 + 1 + 1) 2 _ _ (.int .u32 (m2 : Int)) B3.out
  have hb1 := (Array.getElem?_eq_some_iff.1 B1.out).1; have hb2 := (Array.getElem?_eq_some_iff.1 B2.out).1
  replace B3 : Hid ((wb2.setCell ⟨w.heap.size + 1 + 1 + 1, 2, none⟩ (.int .u32 (m2 : Int))).heap[(w.heap.size + 1 + 1 + 1)]? = some (.cells #[.int .u32 (m0 : Int), .int .u32 (m1 : Int), .int .u32 (m2 : Int)] 97 (0, 0))) := Lib.hid (by simpa using r)
  replace B1 := Lib.hid ((tt.block (w.heap.size + 1) hb1 (fun h => by omega)).trans B1.out)
  replace B2 := Lib.hid ((tt.block (w.heap.size + 1 + 1) hb2 (fun h => by omega)).trans B2.out)
  replace d := Lib.hid (below_turn d.out tt (fun b h => by omega) d.out.size)
  clear tt r yd hb1 hb2
  generalize (wb2.setCell ⟨w.heap.size + 1 + 1 + 1, 2, none⟩ (.int .u32 (m2 : Int))) = W4 at *
  rw [rounds_succ]
  have p_B3_0 := (cell_of_row W4 _ 0 _ _ _ B3.out).trans (show _ = some (Value.int .u32 (m0 : Int)) from rfl)
  have p_B3_1 := (cell_of_row W4 _ 1 _ _ _ B3.out).trans (show _ = some (Value.int .u32 (m1 : Int)) from rfl)
  have p_B3_2 := (cell_of_row W4 _ 2 _ _ _ B3.out).trans (show _ = some (Value.int .u32 (m2 : Int)) from rfl)
  have p_B2_0 := (cell_of_row W4 _ 0 _ _ _ B2.out).trans (show _ = some (Value.int .u32 0) from rfl)
  have p_B2_1 := (cell_of_row W4 _ 1 _ _ _ B2.out).trans (show _ = some (Value.int .u32 0) from rfl)
  have p_B2_2 := (cell_of_row W4 _ 2 _ _ _ B2.out).trans (show _ = some (Value.int .u32 0) from rfl)
  have f_B2_0 := frozen_of_row W4 _ 0 _ _ B2.out
  have f_B2_1 := frozen_of_row W4 _ 1 _ _ B2.out
  have f_B2_2 := frozen_of_row W4 _ 2 _ _ B2.out
  go_wp2
  have D := Lib.hid (((d.out.setCell (p := ⟨w.heap.size + 1 + 1, 0, none⟩) (by simp <;> omega) (.int .u32 (m0 : Int))).setCell (p := ⟨w.heap.size + 1 + 1, 1, none⟩) (by simp <;> omega) (.int .u32 (m1 : Int))).setCell (p := ⟨w.heap.size + 1 + 1, 2, none⟩) (by simp <;> omega) (.int .u32 (m2 : Int)))
  have r := heap_setCell_same _ (w.heap.size + 1 + 1) 2 _ _ (.int .u32 (m2 : Int)) (heap_setCell_same _ (w.heap.size + 1 + 1) 1 _ _ (.int .u32 (m1 : Int)) (heap_setCell_same W4 (w.heap.size + 1 + 1) 0 _ _ (.int .u32 (m0 : Int)) B2.out))
  simp at r
  have e0 := (cell_of_row _ (w.heap.size + 1 + 1) 0 _ _ _ r).trans (show _ = some (Value.int .u32 (m0 : Int)) from rfl)
  have e1 := (cell_of_row _ (w.heap.size + 1 + 1) 1 _ _ _ r).trans (show _ = some (Value.int .u32 (m1 : Int)) from rfl)
  have e2 := (cell_of_row _ (w.heap.size + 1 + 1) 2 _ _ _ r).trans (show _ = some (Value.int .u32 (m2 : Int)) from rfl)
  clear r
  refine bodyPost_ret (v := .agg #[.int .u32 (m0 : Int), .int .u32 (m1 : Int), .int .u32 (m2 : Int)]) ?_ rfl ⟨rfl, D.out⟩
  simp [results, Tryz.f48, go_sem, e0, e1, e2]
theorem pick_lt {a b c : Nat} (ha : a < 16777216) (hb : b < 16777216) (hc : c < 16777216) (f : Int) : pick3 a b c f < 16777216 := by
  unfold pick3
  split
  · exact ha
  · split
    · exact hb
    · exact hc
theorem pair_wi {R : Nat × Int} {m : Nat} {n : Int} (h : R = (m, n)) : Ending.returned (.tuple #[.int .u32 (m : Int), .int .i64 n]) = .returned (.tuple #[.int .u32 ((R.1 : Nat) : Int), .int .i64 R.2]) := by rw [h]
/-- What is left of three fields after k of them. -/
def dropF (x0 x1 x2 : Int) (k : Nat) : List Int := [x0, x1, x2].drop k
theorem probeM_stop {s : Int → Nat} {os : List Int} {work : Int} : probeM s os 0 work = (0, work) := by
  cases os with
  | nil => rfl
  | cons f os => unfold probeM; rfl
theorem probeM_go {s : Int → Nat} {f : Int} {os : List Int} {m : Nat} {work : Int} (h : ¬ m = 0) : probeM s (f :: os) m work = probeM s os (m &&& s f) (work + 1 + ((min (cntM m) (cntM (s f)) : Nat) : Int)) := by
  rw [probeM, if_neg h]
set_option maxHeartbeats 16000000 in
set_option maxRecDepth 100000 in
theorem implProbe (m : Nat) (s0 s1 s2 : Value) (a b c : Nat) (x0 x1 x2 : Int) (w : World) (hm : m < 16777216) (ha : a < 16777216) (hb : b < 16777216) (hc : c < 16777216) (h0 : 0 ≤ x0 ∧ x0 ≤ 2) (h1 : 0 ≤ x1 ∧ x1 ≤ 2) (h2 : 0 ≤ x2 ∧ x2 ≤ 2) :
    Calls Tryz.prog 49 #[ciV m s0 s1 s2, .agg #[.int .u32 (a : Int), .int .u32 (b : Int), .int .u32 (c : Int)], .agg #[.int .i64 x0, .int .i64 x1, .int .i64 x2]] w fun e w' =>
      e = .returned (.tuple #[.int .u32 (((probeM (pick3 a b c) [x0, x1, x2] m 0).1 : Nat) : Int), .int .i64 (probeM (pick3 a b c) [x0, x1, x2] m 0).2]) ∧ Below w.heap.size w w' := by
  obtain ⟨R, hR⟩ : ∃ R, R = probeM (pick3 a b c) [x0, x1, x2] m 0 := ⟨_, rfl⟩
  rw [← hR]
  have HR := Lib.hid hR
  have HL : Hid (∀ f, pick3 a b c f < 16777216) := Lib.hid (pick_lt ha hb hc)
  have HM := Lib.hid hm
  have d := Lib.hid ((((Below.refl w.heap.size w).alloc (Nat.le_refl _) (.cells #[.int .u32 (m : Int), s0, s1, s2] 63)).alloc (by simp) (.cells #[.int .u32 (a : Int), .int .u32 (b : Int), .int .u32 (c : Int)] 97)).alloc (by simp <;> omega) (.cells #[.int .i64 x0, .int .i64 x1, .int .i64 x2] 69))
  have B0 : Hid ((((w.alloc (.cells #[.int .u32 (m : Int), s0, s1, s2] 63)).alloc (.cells #[.int .u32 (a : Int), .int .u32 (b : Int), .int .u32 (c : Int)] 97)).alloc (.cells #[.int .i64 x0, .int .i64 x1, .int .i64 x2] 69)).heap[w.heap.size]? = some (.cells #[.int .u32 (m : Int), s0, s1, s2] 63 (0, 0))) := Lib.hid (by
    rw [Below.heap_alloc _ _ _ (by simp <;> omega), Below.heap_alloc _ _ _ (by simp)]
    exact heap_alloc_new w _)
  have B1 : Hid ((((w.alloc (.cells #[.int .u32 (m : Int), s0, s1, s2] 63)).alloc (.cells #[.int .u32 (a : Int), .int .u32 (b : Int), .int .u32 (c : Int)] 97)).alloc (.cells #[.int .i64 x0, .int .i64 x1, .int .i64 x2] 69)).heap[(w.heap.size + 1)]? = some (.cells #[.int .u32 (a : Int), .int .u32 (b : Int), .int .u32 (c : Int)] 97 (0, 0))) := Lib.hid (by
    rw [Below.heap_alloc _ _ _ (by simp)]
    have := heap_alloc_new (w.alloc (.cells #[.int .u32 (m : Int), s0, s1, s2] 63)) (.cells #[.int .u32 (a : Int), .int .u32 (b : Int), .int .u32 (c : Int)] 97)
    simpa only [World.size_alloc] using this)
  have B2 : Hid ((((w.alloc (.cells #[.int .u32 (m : Int), s0, s1, s2] 63)).alloc (.cells #[.int .u32 (a : Int), .int .u32 (b : Int), .int .u32 (c : Int)] 97)).alloc (.cells #[.int .i64 x0, .int .i64 x1, .int .i64 x2] 69)).heap[(w.heap.size + 1 + 1)]? = some (.cells #[.int .i64 x0, .int .i64 x1, .int .i64 x2] 69 (0, 0))) := Lib.hid (by
    have := heap_alloc_new ((w.alloc (.cells #[.int .u32 (m : Int), s0, s1, s2] 63)).alloc (.cells #[.int .u32 (a : Int), .int .u32 (b : Int), .int .u32 (c : Int)] 97)) (.cells #[.int .i64 x0, .int .i64 x1, .int .i64 x2] 69)
    simpa only [World.size_alloc] using this)
  have HX : Hid (∀ k, k < 3 → ∃ f : Nat, f < 3 ∧ dropF x0 x1 x2 k = (f : Int) :: dropF x0 x1 x2 (k + 1) ∧ (∀ w, Sem.run Tryz.prog (Instr.index 69 (.agg #[.int .i64 x0, .int .i64 x1, .int .i64 x2]) (.int .i64 (k : Int))) w = .ok (.int .i64 (f : Int)) w) ∧ ∀ W : World, W.heap[(w.heap.size + 1)]? = some (.cells #[.int .u32 (a : Int), .int .u32 (b : Int), .int .u32 (c : Int)] 97 (0, 0)) → W.cell? ⟨w.heap.size + 1, f, none⟩ = some (.int .u32 ((pick3 a b c (f : Int) : Nat) : Int))) := Lib.hid (by
    have pk : ∀ f : Nat, f < 3 → ∀ W : World, W.heap[(w.heap.size + 1)]? = some (.cells #[.int .u32 (a : Int), .int .u32 (b : Int), .int .u32 (c : Int)] 97 (0, 0)) → W.cell? ⟨w.heap.size + 1, f, none⟩ = some (.int .u32 ((pick3 a b c (f : Int) : Nat) : Int)) := by
      intro f hf W hW
      rw [cell_of_row W _ f _ _ _ hW]
      rcases (show f = 0 ∨ f = 1 ∨ f = 2 by omega) with rfl | rfl | rfl <;> rfl
    intro k hk
    rcases (show k = 0 ∨ k = 1 ∨ k = 2 by omega) with rfl | rfl | rfl
    · exact ⟨x0.toNat, by omega, by show [x0, x1, x2] = _ :: [x1, x2]; rw [Int.toNat_of_nonneg h0.1], fun w => by rw [Int.toNat_of_nonneg h0.1]; exact idxP0 x0 x1 x2 w, fun W hW => pk _ (by omega) W hW⟩
    · exact ⟨x1.toNat, by omega, by show [x1, x2] = _ :: [x2]; rw [Int.toNat_of_nonneg h1.1], fun w => by rw [Int.toNat_of_nonneg h1.1]; exact idxP1 x0 x1 x2 w, fun W hW => pk _ (by omega) W hW⟩
    · exact ⟨x2.toNat, by omega, by show [x2] = _ :: []; rw [Int.toNat_of_nonneg h2.1], fun w => by rw [Int.toNat_of_nonneg h2.1]; exact idxP2 x0 x1 x2 w, fun W hW => pk _ (by omega) W hW⟩)
  clear hm ha hb hc h0 h1 h2 hR
  go_enter Tryz.func49, Tryz.ntmps49
  go_wp2_with fail
  generalize (((w.alloc (.cells #[.int .u32 (m : Int), s0, s1, s2] 63)).alloc (.cells #[.int .u32 (a : Int), .int .u32 (b : Int), .int .u32 (c : Int)] 97)).alloc (.cells #[.int .i64 x0, .int .i64 x1, .int .i64 x2] 69)) = W at *
  have p0 := (cell_of_row W _ 0 _ _ _ B0.out).trans (show _ = some (Value.int .u32 (m : Int)) from rfl)
  have p1 := (cell_of_row W _ 0 _ _ _ B2.out).trans (show _ = some (Value.int .i64 x0) from rfl)
  have p2 := (cell_of_row W _ 1 _ _ _ B2.out).trans (show _ = some (Value.int .i64 x1) from rfl)
  have p3 := (cell_of_row W _ 2 _ _ _ B2.out).trans (show _ = some (Value.int .i64 x2) from rfl)
  go_wp2
  clear p0 p1 p2 p3 B0 B2
  go_loopw [8, 9, 15] (fun r n i wr => ∃ (k m' : Nat) (work : Int), k ≤ 3 ∧ i = .int .i64 k ∧ r = .int .u32 (m' : Int) ∧ n = .int .i64 work ∧ Hid (m' < 16777216) ∧ Hid (0 ≤ work ∧ work ≤ 25 * k) ∧ Hid (probeM (pick3 a b c) (dropF x0 x1 x2 k) m' work = R) ∧ Hid (wr.heap[(w.heap.size + 1)]? = some (.cells #[.int .u32 (a : Int), .int .u32 (b : Int), .int .u32 (c : Int)] 97 (0, 0))) ∧ Hid (Below w.heap.size w wr)) (fun _ _ i _ => 3 - (intOf i).toNat)
  case atStart => exact ⟨0, m, 0, by omega, rfl, rfl, rfl, HM, Lib.hid ⟨by omega, by omega⟩, Lib.hid HR.out.symm, B1, d⟩
  case round =>
    clear B1 d HM
    obtain ⟨k, m', work, hk, rfl, rfl, rfl, HM, HW, HP, B1, d⟩ := hrel
    by_cases hlt : k < 3
    · obtain ⟨f, hf, hdr, hI, hcl⟩ := HX.out k hlt
      have i1 : (0 : Int) ≤ (k : Int) := by omega
      have i2 : (k : Int) < 3 := by omega
      by_cases hz : m' = 0
      · have hz2 : ((m' : Int) == 0) = true := by rw [hz]; rfl
        have HE : Hid (R = (m', work)) := Lib.hid (by have := HP.out; rw [hz] at this ⊢; rw [← this]; exact probeM_stop)
        clear hz HP hdr hcl
        go_wp2
        go_ret2
        exact ⟨pair_wi HE.out, d.out⟩
      · have hz2 : ((m' : Int) == 0) = false := by rw [beq_eq_false_iff_ne]; omega
        have HN : Hid (probeM (pick3 a b c) (dropF x0 x1 x2 (k + 1)) (m' &&& pick3 a b c (f : Int)) (work + 1 + ((min (cntM m') (cntM (pick3 a b c (f : Int))) : Nat) : Int)) = R) := Lib.hid (by have := HP.out; rw [hdr, probeM_go hz] at this; exact this)
        have HC := Lib.hid hcl
        have HQ := Lib.hid (HL.out (f : Int))
        have HC1 := Lib.hid (fun w => maskCount m' HM.out w)
        have HC2 := Lib.hid (fun w => maskCount (pick3 a b c (f : Int)) HQ.out w)
        have j1 : (0 : Int) ≤ (f : Int) := by omega
        have j2 : (f : Int) < 3 := by omega
        have HA : Hid (bits .and .u32 (m' : Int) ((pick3 a b c (f : Int) : Nat) : Int) = ((m' &&& pick3 a b c (f : Int) : Nat) : Int)) := Lib.hid (and_u32 _ _ (by have := HM.out; omega) (by have := HQ.out; omega))
        have HLT : Hid (m' &&& pick3 a b c (f : Int) < 16777216) := Lib.hid (Nat.lt_of_le_of_lt Nat.and_le_left HM.out)
        have l1 := cntM_le m'
        have l2 := cntM_le (pick3 a b c (f : Int))
        clear hz HP hdr hcl
        generalize pick3 a b c (f : Int) = t at *
        generalize m' &&& t = m2 at *
        generalize cntM m' = n1 at *
        generalize cntM t = n2 at *
        have hw1 := HW.out.1
        have hw2 : work ≤ 50 := by have := HW.out.2; omega
        have hmn : min (n1 : Int) (n2 : Int) = ((min n1 n2 : Nat) : Int) := by omega
        have hmm : min n1 n2 ≤ 24 := by omega
        have HMN := Lib.hid hmn
        clear hmn
        go_wp2
        have p_el := HC.out wr B1.out
        refine wp_region_held_drew (S := fun w' => w'.cell? ⟨w.heap.size + 1, f, none⟩ = some (Value.int .u32 (t : Int))) (by kernel_rfl) p_el (fun hHeld => ?_)
        clear p_el
        have cdr : Below wr.heap.size wr wr.drew := below_drew (Below.refl _ _)
        replace B1 := Lib.hid ((cdr.block (w.heap.size + 1) (Array.getElem?_eq_some_iff.1 B1.out).1).trans B1.out)
        replace d := Lib.hid (d.out.trans (cdr.mono d.out.size))
        clear cdr
        refine take_runs (i := 0) (v := ?_) (by simp only [List.getElem?_toArray, List.getElem?_cons_succ, List.getElem?_cons_zero]; rfl) (by kernel_rfl) (by kernel_rfl) (by kernel_rfl) rfl (by exact fun _ _ _ h => h) (by rfl) ?_ (by assumption) ?_
        rotate_left
        · intro w hSw; (try dsimp only at hSw); go_simp; try (with_reducible rfl)
        try simp only [Act.put, List.setIfInBounds_toArray, List.set_cons_zero, List.set_cons_succ]
        refine take_runs (i := 1) (v := ?_) (by simp only [List.getElem?_toArray, List.getElem?_cons_succ, List.getElem?_cons_zero]; rfl) (by kernel_rfl) (by kernel_rfl) (by kernel_rfl) rfl (by exact fun _ _ _ h => h) (by rfl) ?_ (by assumption) ?_
        rotate_left
        · intro w hSw; (try dsimp only at hSw); go_simp; try (with_reducible rfl)
        try simp only [Act.put, List.setIfInBounds_toArray, List.set_cons_zero, List.set_cons_succ]
        refine take_runs (i := 3) (v := ?_) (by simp only [List.getElem?_toArray, List.getElem?_cons_succ, List.getElem?_cons_zero]; rfl) (by kernel_rfl) (by kernel_rfl) (by kernel_rfl) rfl (by exact fun _ _ _ h => h) (by rfl) ?_ (by assumption) ?_
        rotate_left
        · intro w hSw; (try dsimp only at hSw); go_simp; try (with_reducible rfl)
        try simp only [Act.put, List.setIfInBounds_toArray, List.set_cons_zero, List.set_cons_succ]
        refine take_runs (i := 4) (v := ?_) (by simp only [List.getElem?_toArray, List.getElem?_cons_succ, List.getElem?_cons_zero]; rfl) (by kernel_rfl) (by kernel_rfl) (by kernel_rfl) rfl (by exact fun _ _ _ h => h) (by rfl) ?_ (by assumption) ?_
        rotate_left
        · intro w hSw; (try dsimp only at hSw); go_simp; try (with_reducible rfl)
        try simp only [Act.put, List.setIfInBounds_toArray, List.set_cons_zero, List.set_cons_succ]
        refine take_runs (i := 5) (v := ?_) (by simp only [List.getElem?_toArray, List.getElem?_cons_succ, List.getElem?_cons_zero]; rfl) (by kernel_rfl) (by kernel_rfl) (by kernel_rfl) rfl (by exact fun _ _ _ h => h) (by rfl) ?_ (by assumption) ?_
        rotate_left
        · intro w hSw; (try dsimp only at hSw); go_simp; try (with_reducible rfl)
        try simp only [Act.put, List.setIfInBounds_toArray, List.set_cons_zero, List.set_cons_succ]
        refine wpAnyH_ready (rs := [2]) (by kernel_rfl) (by simp) ?_
        refine (AllReadyH.cons (o := _) (by simp only [List.getElem?_toArray, List.getElem?_cons_succ, List.getElem?_cons_zero]; rfl) (fun K hK => ?_) AllReadyH.nil)
        go_simp
        refine (HC1.out _).mono ?_
        rintro e wc1 ⟨rfl, c1⟩
        replace B1 := Lib.hid ((c1.block (w.heap.size + 1) (Array.getElem?_eq_some_iff.1 B1.out).1).trans B1.out)
        replace d := Lib.hid (d.out.trans (c1.mono d.out.size))
        have Z_wc1 := Lib.hid (show wr.heap.size ≤ wc1.heap.size from c1.size)
        clear c1
        have p_el := HC.out wc1 B1.out
        refine hK.out _ _ p_el (fun hHeld => ?_)
        clear p_el
        clear hK K
        try simp only [Act.put, List.setIfInBounds_toArray, List.set_cons_zero, List.set_cons_succ]
        refine wpAnyH_ready (rs := [6]) (by kernel_rfl) (by simp) ?_
        refine (AllReadyH.cons (o := _) (by simp only [List.getElem?_toArray, List.getElem?_cons_succ, List.getElem?_cons_zero]; rfl) (fun K hK => ?_) AllReadyH.nil)
        go_simp
        refine (HC2.out _).mono ?_
        rintro e wc2 ⟨rfl, c2⟩
        replace B1 := Lib.hid ((c2.block (w.heap.size + 1) (Array.getElem?_eq_some_iff.1 B1.out).1).trans B1.out)
        replace d := Lib.hid (d.out.trans (c2.mono d.out.size))
        have Z_wc2 := Lib.hid (show wc1.heap.size ≤ wc2.heap.size from c2.size)
        clear c2
        have p_el := HC.out wc2 B1.out
        refine hK.out _ _ p_el (fun hHeld => ?_)
        clear p_el
        clear hK K
        try simp only [Act.put, List.setIfInBounds_toArray, List.set_cons_zero, List.set_cons_succ]
        refine take_runs (i := 7) (v := ?_) (by simp only [List.getElem?_toArray, List.getElem?_cons_succ, List.getElem?_cons_zero]; rfl) (by kernel_rfl) (by kernel_rfl) (by kernel_rfl) rfl (by exact fun _ _ _ h => h) (by rfl) ?_ (by assumption) ?_
        rotate_left
        · intro w hSw; (try dsimp only at hSw); go_simp; try (with_reducible rfl)
        try simp only [Act.put, List.setIfInBounds_toArray, List.set_cons_zero, List.set_cons_succ]
        refine take_runs (i := 8) (v := ?_) (by simp only [List.getElem?_toArray, List.getElem?_cons_succ, List.getElem?_cons_zero]; rfl) (by kernel_rfl) (by kernel_rfl) (by kernel_rfl) rfl (by exact fun _ _ _ h => h) (by rfl) ?_ (by assumption) ?_
        rotate_left
        · intro w hSw; (try dsimp only at hSw); go_simp; try (with_reducible rfl)
        try simp only [Act.put, List.setIfInBounds_toArray, List.set_cons_zero, List.set_cons_succ]
        refine take_runs (i := 9) (v := ?_) (by simp only [List.getElem?_toArray, List.getElem?_cons_succ, List.getElem?_cons_zero]; rfl) (by kernel_rfl) (by kernel_rfl) (by kernel_rfl) rfl (by exact fun _ _ _ h => h) (by rfl) ?_ (by assumption) ?_
        rotate_left
        · intro w hSw; (try dsimp only at hSw); go_simp; try (with_reducible rfl)
        try simp only [Act.put, List.setIfInBounds_toArray, List.set_cons_zero, List.set_cons_succ]
        refine take_runs (i := 10) (v := ?_) (by simp only [List.getElem?_toArray, List.getElem?_cons_succ, List.getElem?_cons_zero]; rfl) (by kernel_rfl) (by kernel_rfl) (by kernel_rfl) rfl (by exact fun _ _ _ h => h) (by rfl) ?_ (by assumption) ?_
        rotate_left
        · intro w hSw; (try dsimp only at hSw); go_simp; try (with_reducible rfl)
        try simp only [Act.put, List.setIfInBounds_toArray, List.set_cons_zero, List.set_cons_succ]
        refine wpAnyH_done (by kernel_rfl) ?_ _
        clear hHeld
        clear HC1 HC2
        have p_el := HC.out wc2 B1.out
        have HWV : Hid (IntKind.i64.wrap (work + IntKind.i64.wrap (1 + min (n1 : Int) (n2 : Int))) = work + 1 + ((min n1 n2 : Nat) : Int)) := Lib.hid (by rw [IntWalk.i64_in (1 + min (n1 : Int) (n2 : Int)) (by omega), IntWalk.i64_in _ (by omega)]; omega)
        go_wp2
        clear p_el
        go_roundw
        case rel => exact ⟨k + 1, m2, work + 1 + ((min n1 n2 : Nat) : Int), by omega, by go_num, by rw [HA.out], congrArg (Value.int .i64) HWV.out, HLT, Lib.hid ⟨by omega, by have := HW.out.2; omega⟩, HN, B1, d⟩
        case measure => simp [intOf]; omega
    · obtain rfl : k = 3 := by omega
      have HE : Hid (R = (m', work)) := Lib.hid HP.out.symm
      clear HP
      go_wp2
      go_ret2
      exact ⟨pair_wi HE.out, d.out⟩
end Go.Proofs.YtidhmgboknffkaaGreatDoor
namespace Go.Proofs.YtidhmgboknffkaaGreatDoor
open Go.Maps
set_option linter.unusedVariables false
set_option linter.unusedSimpArgs false
def numD : DataW Unit → Int
  | .lit (.int _ n) => n
  | _ => 0
theorem numD_int (q : IntKind) (n : Int) : numD (.lit (.int q n)) = n := rfl
/-- How often the key stands in the list. -/
def cntK (L : List Lit) (k : Lit) : Nat := L.countP fun x => x.sameKey k
theorem cntK_snoc (L : List Lit) (x k : Lit) : cntK (L ++ [x]) k = cntK L k + (if x.sameKey k = true then 1 else 0) := by
  unfold cntK
  rw [List.countP_append]
  simp [List.countP_cons]
theorem cntK_le (L : List Lit) (k : Lit) : cntK L k ≤ L.length := List.countP_le_length
structure CountsD (D : DataW Unit) (L : List Lit) : Prop where
  isMap : IsMap D
  key : ∀ k ∈ L, WideAt.IsKeyLit k
  here : ∀ k ∈ L, Maps.has D k = true
  only : ∀ k, Maps.has D k = true → k ∈ L
  at_ : ∀ k, WideAt.IsKeyLit k → numD (D.atKey k (.lit (.int .i64 0))) = (cntK L k : Int)
theorem countsD_start : CountsD (.map []) [] where
  isMap := isMap_empty
  key := fun k h => absurd h List.not_mem_nil
  here := fun k h => absurd h List.not_mem_nil
  only := fun k h => by cases h
  at_ := fun k _ => rfl
theorem countsD_step {D : DataW Unit} {L : List Lit} {kl : Lit} {c : Int} (h : CountsD D L) (hk : WideAt.IsKeyLit kl) (hat : D.atKey kl (.lit (.int .i64 0)) = .lit (.int .i64 c)) :
    CountsD (D.put kl (.lit (.int .i64 (c + 1)))) (L ++ [kl]) where
  isMap := h.isMap.put kl _
  key := fun k hm => by
    rcases List.mem_append.1 hm with hm | hm
    · exact h.key k hm
    · rw [List.mem_singleton.1 hm]; exact hk
  here := fun k hm => by
    by_cases e : k = kl
    · rw [e]; exact has_put_same h.isMap hk _
    · rw [has_put_other e]
      rcases List.mem_append.1 hm with hm | hm
      · exact h.here k hm
      · exact absurd (List.mem_singleton.1 hm) e
  only := fun k hm => by
    by_cases e : k = kl
    · rw [e]; simp
    · rw [has_put_other e] at hm
      exact List.mem_append_left _ (h.only k hm)
  at_ := fun k hkk => by
    rw [cntK_snoc]
    by_cases e : k = kl
    · subst e
      rw [atKey_put_same h.isMap hk, WideAt.sameKey_self hk]
      have := h.at_ k hk
      rw [hat] at this
      simp only [numD_int] at this ⊢
      simp
      omega
    · rw [atKey_put_other e]
      have : kl.sameKey k = false := sameKey_ne (fun h => e h.symm)
      rw [this, h.at_ k hkk]
      simp
theorem countsD_at {D : DataW Unit} {L : List Lit} {kl : Lit} {c : Int} (h : CountsD D L) (hk : WideAt.IsKeyLit kl) (hat : D.atKey kl (.lit (.int .i64 0)) = .lit (.int .i64 c)) : c = (cntK L kl : Int) := by
  have := h.at_ kl hk
  rw [hat] at this
  exact this
/-- What the keys that are no longer to come add up to. -/
def doneS (g : Lit → Int) (left : Lit → Bool) (L : List Lit) : Int := (L.map fun k => if left k = true then 0 else g k).sum
theorem sum_zero {α : Type} {f : α → Int} : ∀ {L : List α}, (∀ k ∈ L, f k = 0) → (L.map f).sum = 0
  | [], _ => rfl
  | x :: L, h => by
    rw [List.map_cons, List.sum_cons, h x (List.mem_cons_self ..), sum_zero (fun k hk => h k (List.mem_cons_of_mem _ hk))]
    rfl
theorem doneS_start {g : Lit → Int} {left : Lit → Bool} {L : List Lit} (h : ∀ k ∈ L, left k = true) : doneS g left L = 0 :=
  sum_zero (fun k hk => by rw [h k hk]; rfl)
theorem doneS_end {g : Lit → Int} {left : Lit → Bool} {L : List Lit} (h : ∀ k, left k = false) : doneS g left L = (L.map g).sum := by
  unfold doneS
  congr 1
  apply List.map_congr_left
  intro k _
  rw [h k]; rfl
theorem doneS_step {g : Lit → Int} {left : Lit → Bool} {kl : Lit} (hl : left kl = true) : ∀ (L : List Lit), doneS g (fun z => left z && !z.sameKey kl) L = doneS g left L + (cntK L kl : Int) * g kl
  | [] => by simp [doneS, cntK]
  | x :: L => by
    have ih := doneS_step (g := g) hl L
    unfold doneS cntK at ih ⊢
    rw [List.map_cons, List.sum_cons, List.map_cons, List.sum_cons, ih, List.countP_cons]
    cases hx : x.sameKey kl with
    | true =>
      have e := WideAt.sameKey_eq hx
      subst e
      simp only [hl, hx, Bool.not_true, Bool.and_false, if_true, if_false, Bool.false_eq_true]
      rw [show ((List.countP (fun x_1 => x_1.sameKey x) L + 1 : Nat) : Int) = (List.countP (fun x_1 => x_1.sameKey x) L : Int) + 1 from rfl, Int.add_mul, Int.one_mul]
      omega
    | false =>
      simp only [hx, Bool.not_false, Bool.and_true, if_false, Bool.false_eq_true, Nat.add_zero]
      omega
theorem doneS_range {g : Lit → Int} {M : Int} (hg : ∀ k, 0 ≤ g k ∧ g k ≤ M) (left : Lit → Bool) : ∀ (L : List Lit), 0 ≤ doneS g left L ∧ doneS g left L ≤ (L.length : Int) * M
  | [] => by simp [doneS]
  | x :: L => by
    have ih := doneS_range hg left L
    have hx := hg x
    unfold doneS at ih ⊢
    rw [List.map_cons, List.sum_cons, List.length_cons]
    rw [show ((L.length + 1 : Nat) : Int) = (L.length : Int) + 1 from rfl, Int.add_mul, Int.one_mul]
    split <;> omega
/-- Three numbers of a kind as a key. -/
theorem keyOf_triple {P : Program} {k e : TypeId} {q : IntKind} (A : WideMaps.ArrKey P k e 3) (he : P.underlying e = some (.int q)) (hsz : ∃ m, P.types.size = m + 1) {a b c : Int} (wa : (Lit.int q a).wf = true) (wb : (Lit.int q b).wf = true) (wc : (Lit.int q c).wf = true) :
    keyOf P k (.agg #[.int q a, .int q b, .int q c]) = some (.string (keyBytes [.int q a, .int q b, .int q c])) := by
  have hkt := A.keyType hsz
  obtain ⟨m, hm⟩ := hsz
  unfold keyOf
  simp only [A.hu]
  rw [if_pos (by simp [hkt, Value.formed, A.hu, A.size]), hm]
  unfold Program.keyLits
  simp only [A.hu, Value.cells]
  rw [if_pos (by rw [A.size]; rfl), show List.range 3 = [0, 1, 2] from rfl, List.mapM_cons, List.mapM_cons, List.mapM_cons, List.mapM_nil]
  simp [A.one, Program.keyLits, he, wa, wb, wc]
end Go.Proofs.YtidhmgboknffkaaGreatDoor
namespace Go.Proofs.YtidhmgboknffkaaGreatDoor
open Go.Maps Go.WideElems Go.ChangeMaps
open Go.WideMaps (KeyLaw)
set_option linter.unusedVariables false
set_option linter.unusedSimpArgs false
theorem setBlock_twice {w : World} {b : Nat} {o o' : Obj} (hb : b < w.heap.size) : setBlock (setBlock w b o) b o' = setBlock w b o' := by
  unfold setBlock
  simp
theorem entry_any {P : Program} {w : World} {t k e : TypeId} {b n : Nat} {D : DataW Unit} (K : KeyLaw P k) (ht : P.underlying t = some (.map k e)) (he : P.underlying e = some (.int .i64)) (hz : ∀ u : World, (zeroValue e).run P u = .ok (.int .i64 0) u)
    (hown : w.ownsMap P k (plainElem P e) b n D) (hn : n + 1 < maxLen) {key : Value} {kl : Lit} (hkey : keyOf P k key = some kl) :
    ∃ (c : Int) (st : Nat) (w1 : World), D.atKey kl (.lit (.int .i64 0)) = .lit (.int .i64 c) ∧ (Lit.int .i64 c).wf = true ∧
      (Instr.lookup t (.map (some b)) key false).run P w = .ok (.int .i64 c) w ∧
      (Instr.mapEntry t (.map (some b)) key).run P w = .ok (.tuple #[.int .i64 c, goInt st]) w1 ∧
      (Instr.lookup t (.map (some b)) key false).run P w1 = .ok (.int .i64 c) w1 ∧ w.grownBy w1 (some b) ∧
      ∀ val, (Lit.int .i64 val).wf = true → ∃ w2, (Instr.entryStore t (.map (some b)) (goInt st) (.int .i64 val)).run P w1 = .ok () w2 ∧ w2.ownsMap P k (plainElem P e) b (n + 1) (D.put kl (.lit (.int .i64 val))) ∧ w1.grownBy w2 (some b) := by
  have K' := Keyed.of_law K
  obtain ⟨c, hlook, hat, hwc⟩ := hown.lookup_int K' ht he (hz w) hkey
  have hown' := hown
  obtain ⟨es, clock, hb, F, hs, hD⟩ := hown
  have hlt : b < w.heap.size := (Array.getElem?_eq_some_iff.1 hb).1
  obtain ⟨v0, st, es1, clock1, hent, hv0, hst⟩ := entry_then_store K ht hz hb F hkey
  -- the number that the entry holds is the one that the look-up sees
  obtain ⟨f1, _⟩ := F.stamped
  have hw1 : (setBlock w b (.map es1 clock1)).heap[b]? = some (.map es1 clock1) := heap_setBlock_same hb _
  have hval : v0 = .int .i64 c ∧ (Instr.lookup t (.map (some b)) key false).run P (setBlock w b (.map es1 clock1)) = .ok (.int .i64 c) (setBlock w b (.map es1 clock1)) := by
    -- storing the very number turns nothing further: so behind the entry the map reads as one that holds it
    rcases K.find w hkey es.toList F.keys with ⟨h1, h2⟩ | ⟨j, e0, h1, h2, h3⟩
    · have hz0 : v0 = .int .i64 0 := by
        rcases hv0 with ⟨e0, hm, hk, _⟩ | ⟨_, e⟩
        · exact absurd hk (h2 e0 hm)
        · exact e
      have hc0 : c = 0 := by
        have := hlook
        simp [Instr.lookup, run_underlying ht, MapKept.run_getObj_map hb, K.check w es.isEmpty hkey, h1, hz, Result.andThen] at this
        exact this.symm
      have hes : es1 = es.push ⟨key, .int .i64 0, clock⟩ := by
        have := hent
        simp [Instr.mapEntry, run_underlying ht, MapKept.run_getObj_map hb, K.check w false hkey, h1, hz, MapKept.run_setObj_map _ hb, Result.andThen] at this
        have h9 := congrArg (fun u : World => u.heap[b]?) this.2
        simp [setBlock, hlt] at h9
        exact h9.1.symm
      refine ⟨by rw [hz0, hc0], ?_⟩
      rcases K.find (setBlock w b (.map es1 clock1)) hkey es1.toList (fun x hx => by
        rw [hes] at hx
        simp at hx
        rcases hx with hx | rfl
        · exact F.keys x (by simpa using hx)
        · exact ⟨kl, hkey⟩) with ⟨g1, g2⟩ | ⟨j, e0, g1, g2, g3⟩
      · exact absurd rfl (g2 ⟨key, .int .i64 0, clock⟩ (by rw [hes]; simp))
      · have he0 : e0.val = .int .i64 0 := by
          have hm := List.mem_of_getElem? g2
          rw [hes] at hm
          simp at hm
          rcases hm with hm | rfl
          · exact absurd g3 (h2 e0 (by simpa using hm))
          · rfl
        rw [hc0]
        simp [Instr.lookup, run_underlying ht, MapKept.run_getObj_map hw1, K.check _ es1.isEmpty hkey, g1, he0, Result.andThen]
    · have hes : setBlock w b (.map es1 clock1) = w ∧ v0 = e0.val := by
        have hj : es[j]? = some e0 := by simpa using h2
        have hsame : es.modify j (fun e => { e with key := key }) = es := by
          apply Array.ext'
          rw [Array.toList_modify, modify_eq_set _ _ _ _ h2]
          have h9 : ({ e0 with key := key } : MapEntry) = e0 := by rw [← h3]
          rw [h9]
          exact set_self _ _ _ h2
        have := hent
        simp [Instr.mapEntry, run_underlying ht, MapKept.run_getObj_map hb, K.check w false hkey, h1, hj, h3, K.stays w hkey, hsame, MapKept.run_setObj_map _ hb, Result.andThen] at this
        refine ⟨?_, this.1.1.symm⟩
        have h7 := this.2
        simp only [setBlock] at h7 ⊢
        rw [← h7]
        have h8 : w.heap[b] = .map es clock := by
          have := Array.getElem?_eq_some_iff.1 hb
          exact this.2
        have : w.heap.setIfInBounds b (.map es clock) = w.heap := by
          apply Array.ext
          · simp
          · intro i hi1 hi2
            rw [Array.getElem_setIfInBounds]
            split
            · rename_i heq; subst heq; exact h8.symm
            · rfl
        rw [this]
      have hc0 : e0.val = .int .i64 c := by
        have := hlook
        simp [Instr.lookup, run_underlying ht, MapKept.run_getObj_map hb, K.check w es.isEmpty hkey, h1, Result.andThen] at this
        exact this
      rw [hes.1]
      exact ⟨by rw [hes.2, hc0], hlook⟩
  refine ⟨c, st, setBlock w b (.map es1 clock1), hat, hwc, hlook, by rw [hent, hval.1], hval.2, ⟨rfl, rfl, rfl, by simp [setBlock], fun i _ hi => heap_setBlock_other hb _ (fun e => hi (by rw [e]))⟩, fun val hwv => ?_⟩
  obtain ⟨es', clock', r1, r2⟩ := hst (setBlock w b (.map es1 clock1)) (.int .i64 val) hw1
  obtain ⟨w9, r3, r4, r5⟩ := hown'.update K' ht (by omega) hkey (plainElem_int he hwv)
  have e9 : w9 = setBlock w b (.map es' clock') := by
    rw [r2] at r3
    injection r3 with _ h
    exact h.symm
  subst e9
  refine ⟨_, r1, ?_, ⟨rfl, rfl, rfl, by simp [setBlock], fun i _ hi => heap_setBlock_other hw1 _ (fun e => hi (by rw [e]))⟩⟩
  rw [setBlock_twice hlt]
  exact r4
end Go.Proofs.YtidhmgboknffkaaGreatDoor
namespace Go.Proofs.YtidhmgboknffkaaGreatDoor
open Go.RowKit
set_option linter.unusedVariables false
set_option linter.unusedSimpArgs false
/-- The record of a row. -/
def recV (id : Int) (xs : List Int) : Value := .agg #[.int .i64 id, .int .i64 xs.length, .int .i64 (xs.getD 0 0), .int .i64 (xs.getD 1 0), .int .i64 (xs.getD 2 0)]
theorem info_size {P : Program} {e : TypeId} {z : Option Value} {n b : Nat} (h : (P.info? e).map (fun i => (i.zero, i.size, i.bytes)) = some (z, n, b)) : (P.info? e).map (·.size) = some n := by
  cases hq : P.info? e with
  | none => rw [hq] at h; simp at h
  | some i => rw [hq] at h; simp at h; simp [h.2.1]
theorem copy_src {w : World} {a : Option Addr} {cap g : Nat} {xs : List Int} (h : Ints w (.slice a xs.length cap) xs) : 0 < ((xs.take 3).map (Value.int .i64)).length → (some ⟨g, 2, none⟩ : Option Addr) = some ⟨g, 2, none⟩ ∧ ∃ ad, a = some ad ∧ ∀ j v, ((xs.take 3).map (Value.int .i64))[j]? = some v → w.cell? (ad.add j) = some v := by
  intro h0
  refine ⟨rfl, ?_⟩
  rcases h with ⟨rfl, _⟩ | ⟨b, off, cap', e, _, _, hc⟩
  · simp at h0
  · simp only [Value.slice.injEq] at e
    obtain ⟨rfl, _, _⟩ := e
    refine ⟨_, rfl, fun j v hj => ?_⟩
    rw [Go.WideShapes.add_plain]
    rw [List.getElem?_map, List.getElem?_take] at hj
    by_cases hlt : j < 3
    · rw [if_pos hlt] at hj
      by_cases hl : j < xs.length
      · rw [hc j hl]
        rw [List.getElem?_eq_getElem hl] at hj
        simpa [List.getD, hl] using hj
      · rw [List.getElem?_eq_none (by omega)] at hj
        simp at hj
    · rw [if_neg hlt] at hj
      simp at hj
theorem splice_rec (a b : Value) (xs : List Int) : splice [a, b, .int .i64 0, .int .i64 0, .int .i64 0] 2 ((xs.take 3).map (Value.int .i64)) = [a, b, .int .i64 (xs.getD 0 0), .int .i64 (xs.getD 1 0), .int .i64 (xs.getD 2 0)] := by
  match xs with
  | [] => rfl
  | [x] => rfl
  | [x, y] => rfl
  | x :: y :: z :: r => rfl
set_option maxHeartbeats 4000000 in
set_option maxRecDepth 100000 in
theorem recordOf_any (id : Int) (vv : Value) (xs : List Int) (w : World) (h : Ints w vv xs) (hn : xs.length ≤ 1048576) :
    Calls Tryz.prog 70 #[.agg #[.int .i64 id, vv]] w fun e w' => e = .returned (recV id xs) ∧ Below w.heap.size w w' := by
  have H := Lib.hid h
  have HN := Lib.hid hn
  obtain ⟨va, vcap, rfl⟩ := ints_len h
  clear h hn
  go_enter Tryz.func70, Tryz.ntmps70
  go_wp2
  have hh : Below w.heap.size w (((w.alloc (.cells #[.int .i64 id, .slice va xs.length vcap] 56)).alloc (.cells #[.int .i64 0, .int .i64 0, .int .i64 0, .int .i64 0, .int .i64 0] 122)).alloc (.cells #[.int .i64 id, .int .i64 xs.length, .int .i64 0, .int .i64 0, .int .i64 0] 122)) := (((Below.refl _ w).alloc (Nat.le_refl _) _).alloc (by simp) _).alloc (by simp; omega) _
  have g2 : (((w.alloc (.cells #[.int .i64 id, .slice va xs.length vcap] 56)).alloc (.cells #[.int .i64 0, .int .i64 0, .int .i64 0, .int .i64 0, .int .i64 0] 122)).alloc (.cells #[.int .i64 id, .int .i64 xs.length, .int .i64 0, .int .i64 0, .int .i64 0] 122)).heap[w.heap.size + 2]? = some (.cells #[.int .i64 id, .int .i64 xs.length, .int .i64 0, .int .i64 0, .int .i64 0] 122 (0, 0)) := by
    have := heap_alloc_new ((w.alloc (.cells #[.int .i64 id, .slice va xs.length vcap] 56)).alloc (.cells #[.int .i64 0, .int .i64 0, .int .i64 0, .int .i64 0, .int .i64 0] 122)) (.cells #[.int .i64 id, .int .i64 xs.length, .int .i64 0, .int .i64 0, .int .i64 0] 122)
    simpa only [World.size_alloc] using this
  have g1 : (((w.alloc (.cells #[.int .i64 id, .slice va xs.length vcap] 56)).alloc (.cells #[.int .i64 0, .int .i64 0, .int .i64 0, .int .i64 0, .int .i64 0] 122)).alloc (.cells #[.int .i64 id, .int .i64 xs.length, .int .i64 0, .int .i64 0, .int .i64 0] 122)).heap[w.heap.size + 1]? = some (.cells #[.int .i64 0, .int .i64 0, .int .i64 0, .int .i64 0, .int .i64 0] 122 (0, 0)) := by
    rw [Below.heap_alloc _ _ _ (by simp)]
    have := heap_alloc_new (w.alloc (.cells #[.int .i64 id, .slice va xs.length vcap] 56)) (.cells #[.int .i64 0, .int .i64 0, .int .i64 0, .int .i64 0, .int .i64 0] 122)
    simpa only [World.size_alloc] using this
  have g0 : (((w.alloc (.cells #[.int .i64 id, .slice va xs.length vcap] 56)).alloc (.cells #[.int .i64 0, .int .i64 0, .int .i64 0, .int .i64 0, .int .i64 0] 122)).alloc (.cells #[.int .i64 id, .int .i64 xs.length, .int .i64 0, .int .i64 0, .int .i64 0] 122)).heap[w.heap.size]? = some (.cells #[.int .i64 id, .slice va xs.length vcap] 56 (0, 0)) := by
    rw [Below.heap_alloc _ _ _ (by simp; omega), Below.heap_alloc _ _ _ (by simp)]
    exact heap_alloc_new w _
  have hs : (((w.alloc (.cells #[.int .i64 id, .slice va xs.length vcap] 56)).alloc (.cells #[.int .i64 0, .int .i64 0, .int .i64 0, .int .i64 0, .int .i64 0] 122)).alloc (.cells #[.int .i64 id, .int .i64 xs.length, .int .i64 0, .int .i64 0, .int .i64 0] 122)).heap.size = w.heap.size + 3 := by simp [World.size_alloc]
  generalize (((w.alloc (.cells #[.int .i64 id, .slice va xs.length vcap] 56)).alloc (.cells #[.int .i64 0, .int .i64 0, .int .i64 0, .int .i64 0, .int .i64 0] 122)).alloc (.cells #[.int .i64 id, .int .i64 xs.length, .int .i64 0, .int .i64 0, .int .i64 0] 122)) = W at *
  have b0 := cell_of_row W _ 1 _ _ _ g0
  simp at b0
  have I2 := ints_below H.out hh
  refine wp_region_held_drew (S := fun w' => w'.cell? ⟨w.heap.size, 1, none⟩ = some (.slice va xs.length vcap)) (by kernel_rfl) b0 (fun hHeld => ?_)
  refine take_runs (i := 0) (v := ?_) (by simp only [List.getElem?_toArray, List.getElem?_cons_succ, List.getElem?_cons_zero]; rfl) (by kernel_rfl) (by kernel_rfl) (by kernel_rfl) rfl (by exact fun _ _ _ h => h) (by rfl) ?_ (by assumption) ?_
  rotate_left
  · intro w hSw; (try dsimp only at hSw); go_simp; try (with_reducible rfl)
  try simp only [Act.put, List.setIfInBounds_toArray, List.set_cons_zero, List.set_cons_succ]
  refine take_runs (i := 1) (v := ?_) (by simp only [List.getElem?_toArray, List.getElem?_cons_succ, List.getElem?_cons_zero]; rfl) (by kernel_rfl) (by kernel_rfl) (by kernel_rfl) rfl (by exact fun _ _ _ h => h) (by rfl) ?_ (by assumption) ?_
  rotate_left
  · intro w hSw; (try dsimp only at hSw); go_simp; try (with_reducible rfl)
  try simp only [Act.put, List.setIfInBounds_toArray, List.set_cons_zero, List.set_cons_succ]
  refine take_runs (i := 2) (v := ?_) (by simp only [List.getElem?_toArray, List.getElem?_cons_succ, List.getElem?_cons_zero]; rfl) (by kernel_rfl) (by kernel_rfl) (by kernel_rfl) rfl (by exact fun _ _ _ h => h) (by rfl) ?_ (by assumption) ?_
  rotate_left
  · intro w hSw; (try dsimp only at hSw); go_simp; try (with_reducible rfl)
  try simp only [Act.put, List.setIfInBounds_toArray, List.set_cons_zero, List.set_cons_succ]
  refine take_runs (i := 3) (v := ?_) (by simp only [List.getElem?_toArray, List.getElem?_cons_succ, List.getElem?_cons_zero]; rfl) (by kernel_rfl) (by kernel_rfl) (by kernel_rfl) rfl (by exact fun _ _ _ h => h) (by rfl) ?_ (by assumption) ?_
  rotate_left
  · intro w hSw; (try dsimp only at hSw); go_simp; try (with_reducible rfl)
  try simp only [Act.put, List.setIfInBounds_toArray, List.set_cons_zero, List.set_cons_succ]
  refine wpAnyH_ready (rs := [4]) (by kernel_rfl) (by simp) ?_
  refine AllReadyH.cons (o := _) (by simp only [List.getElem?_toArray, List.getElem?_cons_succ, List.getElem?_cons_zero]; rfl) (fun K hK => ?_) AllReadyH.nil
  refine step_copy_splice rfl (.tmp 11) (.tmp 13) 29 29 rfl 3 Tryz.underlying29 (info_size Tryz.infoI64) _ _ _ _ _ _ rfl rfl (w.heap.size + 2) 2 [.int .i64 id, .int .i64 xs.length, .int .i64 0, .int .i64 0, .int .i64 0] _ g2 ((xs.take 3).map (Value.int .i64)) (by simp [Nat.min_comm]) (copy_src I2) (by simp; omega) (fun u hu => by obtain ⟨y, _, rfl⟩ := List.mem_map.1 hu; rfl) (w.heap.size + 2) W (below_drew (Below.refl _ W)) (Nat.le_refl _) ?_
  intro W2 G2 bA
  rw [splice_rec] at G2
  have k0 := (bA.block w.heap.size (by omega)).trans g0
  have b1 := cell_of_row W2 _ 1 _ _ _ k0
  simp at b1
  refine hK.out _ _ b1 (fun hHeld2 => ?_)
  clear hK K hHeld
  try simp only [Act.put, List.setIfInBounds_toArray, List.set_cons_zero, List.set_cons_succ]
  refine wpAnyH_done (by kernel_rfl) ?_ _
  have k1 := (bA.block (w.heap.size + 1) (by omega)).trans g1
  have k2 := G2.out
  have hbb := hh.trans (bA.mono (by omega))
  clear G2 bA g0 g1 g2 I2 hHeld2 b0 b1 k0 hh hs
  obtain ⟨n, hn2⟩ : ∃ n : Nat, n = xs.length := ⟨_, rfl⟩
  have c0 := cell_of_row W2 _ 0 _ _ _ k2
  have d0 := cell_of_row W2 _ 0 _ _ _ k1
  have f0 := frozen_of_row W2 _ 0 _ _ k1
  have c1 := cell_of_row W2 _ 1 _ _ _ k2
  have d1 := cell_of_row W2 _ 1 _ _ _ k1
  have f1 := frozen_of_row W2 _ 1 _ _ k1
  have c2 := cell_of_row W2 _ 2 _ _ _ k2
  have d2 := cell_of_row W2 _ 2 _ _ _ k1
  have f2 := frozen_of_row W2 _ 2 _ _ k1
  have c3 := cell_of_row W2 _ 3 _ _ _ k2
  have d3 := cell_of_row W2 _ 3 _ _ _ k1
  have f3 := frozen_of_row W2 _ 3 _ _ k1
  have c4 := cell_of_row W2 _ 4 _ _ _ k2
  have d4 := cell_of_row W2 _ 4 _ _ _ k1
  have f4 := frozen_of_row W2 _ 4 _ _ k1
  simp at c0 c1 c2 c3 c4 d0 d1 d2 d3 d4
  clear k2 hn2
  generalize hx0 : xs[0]?.getD 0 = x0 at c2
  generalize hx1 : xs[1]?.getD 0 = x1 at c3
  generalize hx2 : xs[2]?.getD 0 = x2 at c4
  have HX := Lib.hid (And.intro hx0 (And.intro hx1 hx2))
  clear hx0 hx1 hx2
  go_wp2
  have r0 := heap_setCell_same W2 (w.heap.size + 1) 0 _ _ (.int .i64 id) k1
  have r1 := heap_setCell_same _ (w.heap.size + 1) 1 _ _ (.int .i64 xs.length) r0
  have r2 := heap_setCell_same _ (w.heap.size + 1) 2 _ _ (.int .i64 x0) r1
  have r3 := heap_setCell_same _ (w.heap.size + 1) 3 _ _ (.int .i64 x1) r2
  have r4 := heap_setCell_same _ (w.heap.size + 1) 4 _ _ (.int .i64 x2) r3
  have B4 := (((((hbb.setCell (p := ⟨w.heap.size + 1, 0, none⟩) (by simp) (.int .i64 id)).setCell (p := ⟨w.heap.size + 1, 1, none⟩) (by simp) (.int .i64 xs.length)).setCell (p := ⟨w.heap.size + 1, 2, none⟩) (by simp) (.int .i64 x0)).setCell (p := ⟨w.heap.size + 1, 3, none⟩) (by simp) (.int .i64 x1)).setCell (p := ⟨w.heap.size + 1, 4, none⟩) (by simp) (.int .i64 x2))
  clear r0 r1 r2 r3 k1
  have e0 := cell_of_row _ _ 0 _ _ _ r4
  have e1 := cell_of_row _ _ 1 _ _ _ r4
  have e2 := cell_of_row _ _ 2 _ _ _ r4
  have e3 := cell_of_row _ _ 3 _ _ _ r4
  have e4 := cell_of_row _ _ 4 _ _ _ r4
  simp at e0 e1 e2 e3 e4
  clear r4
  refine bodyPost_ret (v := .agg #[.int .i64 id, .int .i64 xs.length, .int .i64 x0, .int .i64 x1, .int .i64 x2]) ?_ rfl ?_
  · simp [results, Tryz.f70, go_sem, e0, e1, e2, e3, e4]
  · obtain ⟨rfl, rfl, rfl⟩ := HX.out
    exact ⟨by simp [recV], B4⟩
end Go.Proofs.YtidhmgboknffkaaGreatDoor
namespace Go.Proofs.YtidhmgboknffkaaGreatDoor
open Go.RowKit
set_option linter.unusedVariables false
set_option linter.unusedSimpArgs false
/-- A value moved into the range. -/
def limI (x : Int) : Int := min (max x 0) 99
theorem idx0 (a b c : Int) (w : World) : Sem.run Tryz.prog (Instr.index 120 (.agg #[.int .i64 a, .int .i64 b, .int .i64 c]) (.int .i64 0)) w = .ok (.int .i64 a) w := by
  have u := Tryz.underlying120
  have z := Tryz.sizeOf3
  have g := Tryz.isAgg3
  unfold Instr.index
  go_simp
theorem idx1 (a b c : Int) (w : World) : Sem.run Tryz.prog (Instr.index 120 (.agg #[.int .i64 a, .int .i64 b, .int .i64 c]) (.int .i64 1)) w = .ok (.int .i64 b) w := by
  have u := Tryz.underlying120
  have z := Tryz.sizeOf3
  have g := Tryz.isAgg3
  unfold Instr.index
  go_simp
theorem idx2 (a b c : Int) (w : World) : Sem.run Tryz.prog (Instr.index 120 (.agg #[.int .i64 a, .int .i64 b, .int .i64 c]) (.int .i64 2)) w = .ok (.int .i64 c) w := by
  have u := Tryz.underlying120
  have z := Tryz.sizeOf3
  have g := Tryz.isAgg3
  unfold Instr.index
  go_simp
set_option maxHeartbeats 4000000 in
set_option maxRecDepth 100000 in
theorem limited_any (a b c : Int) (w : World) :
    Calls Tryz.prog 87 #[.agg #[.int .i64 a, .int .i64 b, .int .i64 c]] w fun e w' => e = .returned (.agg #[.int .i64 (limI a), .int .i64 (limI b), .int .i64 (limI c)]) ∧ Below w.heap.size w w' := by
  have i0 := idx0 a b c
  have i1 := idx1 a b c
  have i2 := idx2 a b c
  go_enter Tryz.func87, Tryz.ntmps87
  go_wp2
  refine wp_loop_rounds 4 ?_
  rw [rounds_succ]
  go_wp2
  rw [rounds_succ]
  go_wp2
  rw [rounds_succ]
  go_wp2
  rw [rounds_succ]
  go_wp2
  refine bodyPost_ret (v := .agg #[.int .i64 (limI a), .int .i64 (limI b), .int .i64 (limI c)]) ?_ rfl ?_
  · simp [results, Tryz.f87, go_sem, limI]
  refine ⟨rfl, ?_⟩
  exact ((Below.refl _ w).alloc (Nat.le_refl _) _).alloc (by simp) _
end Go.Proofs.YtidhmgboknffkaaGreatDoor
namespace Go.Proofs.YtidhmgboknffkaaGreatDoor
open Go.RowKit
set_option linter.unusedVariables false
set_option linter.unusedSimpArgs false
theorem eqIn_arr (d : Nat) (a b c x y z : Int) (w : World) : (Op.equalIn (d + 2) 120 (.agg #[.int .i64 a, .int .i64 b, .int .i64 c]) (.agg #[.int .i64 x, .int .i64 y, .int .i64 z])).run Tryz.prog w = .ok (a == x && b == y && c == z) w := by
  have u := Tryz.underlying120
  have u3 := Tryz.underlying3
  have z3 := Tryz.sizeOf3
  have g := Tryz.isAgg3
  rw [Op.equalIn]
  simp only [Sem.run_bind, run_underlying u, Result.andThen_ok, z3]
  simp only [Std.Legacy.Range.forIn_eq_forIn_range', Std.Legacy.Range.size]
  simp [List.range', g, z3, go_sem, run_equalIn_int (P := Tryz.prog) _ d _ _ _ _ _ u3]
  by_cases h1 : a = x <;> by_cases h2 : b = y <;> by_cases h3 : c = z <;> simp [h1, h2, h3]
theorem eql_arr (a b c x y z : Int) (w : World) : Sem.run Tryz.prog (binOp .eql 120 (.agg #[.int .i64 a, .int .i64 b, .int .i64 c]) (.agg #[.int .i64 x, .int .i64 y, .int .i64 z])) w = .ok (.bool (a == x && b == y && c == z)) w := by
  rw [run_eql_struct, show (10000 : Nat) = 9998 + 2 from rfl, eqIn_arr]
  rfl
theorem guard_arr (o1 o2 : Operand) (xs ys : Array Value) (w : World) : Sem.run Tryz.prog (eqGuard .eql 120 o1 o2 (.agg xs) (.agg ys)) w = .ok () w := run_eqGuard_agg w _ _ _ _ _ _ (by kernel_rfl)
end Go.Proofs.YtidhmgboknffkaaGreatDoor
namespace Go.Proofs.YtidhmgboknffkaaGreatDoor
open Go.RowKit
set_option linter.unusedVariables false
set_option linter.unusedSimpArgs false
theorem isRowId_yes (id : Int) (w : World) (h1 : 0 ≤ id) (h2 : id ≤ 999) : Calls Tryz.prog 86 #[.int .i64 id] w fun e w' => e = .returned (.bool true) ∧ w' = w := by
  go_enter Tryz.func86, Tryz.ntmps86
  go_wp2
  go_ret
  exact ⟨rfl, rfl⟩
theorem isRowId_no (id : Int) (w : World) (h : ¬ (0 ≤ id ∧ id ≤ 999)) : Calls Tryz.prog 86 #[.int .i64 id] w fun e w' => e = .returned (.bool false) ∧ w' = w := by
  by_cases h1 : 0 ≤ id
  · have h2 : ¬ id ≤ 999 := fun g => h ⟨h1, g⟩
    clear h
    go_enter Tryz.func86, Tryz.ntmps86
    go_wp2
    go_ret
    exact ⟨rfl, rfl⟩
  · clear h
    go_enter Tryz.func86, Tryz.ntmps86
    go_wp2
    go_ret
    exact ⟨rfl, rfl⟩
/-- Is a record valid? -/
def recB (id n a b c : Int) : Bool := decide (0 ≤ id ∧ id ≤ 999) && (decide (n = 3) && (a == limI a && b == limI b && c == limI c))
theorem lim_in (x : Int) : (x == limI x) = decide (0 ≤ x ∧ x ≤ 99) := by
  unfold limI
  by_cases h : 0 ≤ x ∧ x ≤ 99
  · rw [decide_eq_true h, beq_iff_eq]; omega
  · rw [decide_eq_false h, beq_eq_false_iff_ne]; omega
theorem recB_row (id : Int) (xs : List Int) : recB id xs.length (xs.getD 0 0) (xs.getD 1 0) (xs.getD 2 0) = rowB (id, xs) := by
  unfold recB rowB
  simp only [lim_in]
  match xs with
  | [] => simp
  | [x] => simp
  | [x, y] => simp
  | [x, y, z] => simp [List.all, Bool.and_assoc]
  | x :: y :: z :: u :: r =>
    have : ¬ ((r.length : Int) + 1 + 1 + 1 + 1 = 3) := by omega
    simp [this]
theorem below_from {W w8 w9 : World} (h : w8 = W.drew) (b : Below w8.heap.size w8 w9) : Below W.heap.size W w9 := by subst h; exact ⟨b.os, b.tape, b.output, b.size, b.block⟩
set_option maxHeartbeats 8000000 in
set_option maxRecDepth 100000 in
theorem isValid_id (id n a b c : Int) (w : World) (h : ¬ (0 ≤ id ∧ id ≤ 999)) :
    Calls Tryz.prog 71 #[.agg #[.int .i64 id, .int .i64 n, .int .i64 a, .int .i64 b, .int .i64 c]] w fun e w' => e = .returned (.bool (false)) ∧ Below w.heap.size w w' := by
  have HI := Lib.hid (fun w => isRowId_no id w h)
  clear h
  go_enter Tryz.func71, Tryz.ntmps71
  go_wp2
  have hh : Below w.heap.size w (w.alloc (.cells #[.int .i64 id, .int .i64 n, .int .i64 a, .int .i64 b, .int .i64 c] 122)) := (Below.refl _ w).alloc (Nat.le_refl _) _
  have g0 := heap_alloc_new w (.cells #[.int .i64 id, .int .i64 n, .int .i64 a, .int .i64 b, .int .i64 c] 122)
  have hlt : w.heap.size < (w.alloc (.cells #[.int .i64 id, .int .i64 n, .int .i64 a, .int .i64 b, .int .i64 c] 122)).heap.size := by simp
  generalize w.alloc (.cells #[.int .i64 id, .int .i64 n, .int .i64 a, .int .i64 b, .int .i64 c] 122) = W at *
  have q0 := cell_of_row W _ 0 _ _ _ g0
  have q1 := cell_of_row W _ 1 _ _ _ g0
  have q2 := cell_of_row W _ 2 _ _ _ g0
  have q3 := cell_of_row W _ 3 _ _ _ g0
  have q4 := cell_of_row W _ 4 _ _ _ g0
  simp at q0 q1 q2 q3 q4
  refine wp_region_held_drew (S := fun w' => w'.cell? ⟨w.heap.size, 0, none⟩ = some (.int .i64 id) ∧ w'.cell? ⟨w.heap.size, 1, none⟩ = some (.int .i64 n) ∧ w'.cell? ⟨w.heap.size, 2, none⟩ = some (.int .i64 a) ∧ w'.cell? ⟨w.heap.size, 3, none⟩ = some (.int .i64 b) ∧ w'.cell? ⟨w.heap.size, 4, none⟩ = some (.int .i64 c)) (by kernel_rfl) ⟨q0, q1, q2, q3, q4⟩ (fun hHeld => ?_)
  refine take_runs (i := 0) (v := ?_) (by simp only [List.getElem?_toArray, List.getElem?_cons_succ, List.getElem?_cons_zero]; rfl) (by kernel_rfl) (by kernel_rfl) (by kernel_rfl) rfl (by exact fun _ _ _ h => h) (by rfl) ?_ (by assumption) ?_
  rotate_left
  · intro w hSw; (try dsimp only at hSw); go_simp; try (with_reducible rfl)
  try simp only [Act.put, List.setIfInBounds_toArray, List.set_cons_zero, List.set_cons_succ]
  refine take_runs (i := 1) (v := ?_) (by simp only [List.getElem?_toArray, List.getElem?_cons_succ, List.getElem?_cons_zero]; rfl) (by kernel_rfl) (by kernel_rfl) (by kernel_rfl) rfl (by exact fun _ _ _ h => h) (by rfl) ?_ (by assumption) ?_
  rotate_left
  · intro w hSw; (try dsimp only at hSw); go_simp; try (with_reducible rfl)
  try simp only [Act.put, List.setIfInBounds_toArray, List.set_cons_zero, List.set_cons_succ]
  refine wpAnyH_ready (rs := [2]) (by kernel_rfl) (by simp) ?_
  refine AllReadyH.cons (o := _) (by simp only [List.getElem?_toArray, List.getElem?_cons_succ, List.getElem?_cons_zero]; rfl) (fun K hK => ?_) AllReadyH.nil
  go_simp
  refine (HI.out _).mono ?_
  rintro e w8 ⟨rfl, rfl⟩
  refine hK.out _ _ ⟨q0, q1, q2, q3, q4⟩ (fun hHeld => ?_)
  clear hK K
  try simp only [Act.put, List.setIfInBounds_toArray, List.set_cons_zero, List.set_cons_succ]
  refine take_runs (i := 3) (v := ?_) (by simp only [List.getElem?_toArray, List.getElem?_cons_succ, List.getElem?_cons_zero]; rfl) (by kernel_rfl) (by kernel_rfl) (by kernel_rfl) rfl (by exact fun _ _ _ h => h) (by rfl) ?_ (by assumption) ?_
  rotate_left
  · intro w hSw; (try dsimp only at hSw); go_simp; try (with_reducible rfl)
  try simp only [Act.put, List.setIfInBounds_toArray, List.set_cons_zero, List.set_cons_succ]
  refine take_over (i := 4) (by simp only [List.getElem?_toArray, List.getElem?_cons_succ, List.getElem?_cons_zero]; rfl) (by kernel_rfl) (by kernel_rfl) (by kernel_rfl) rfl (by exact fun _ _ _ h => h) (by rfl) (by assumption) ?_
  try simp only [Act.put, List.setIfInBounds_toArray, List.set_cons_zero, List.set_cons_succ]
  refine take_over (i := 5) (by simp only [List.getElem?_toArray, List.getElem?_cons_succ, List.getElem?_cons_zero]; rfl) (by kernel_rfl) (by kernel_rfl) (by kernel_rfl) rfl (by exact fun _ _ _ h => h) (by rfl) (by assumption) ?_
  try simp only [Act.put, List.setIfInBounds_toArray, List.set_cons_zero, List.set_cons_succ]
  refine take_over (i := 6) (by simp only [List.getElem?_toArray, List.getElem?_cons_succ, List.getElem?_cons_zero]; rfl) (by kernel_rfl) (by kernel_rfl) (by kernel_rfl) rfl (by exact fun _ _ _ h => h) (by rfl) (by assumption) ?_
  try simp only [Act.put, List.setIfInBounds_toArray, List.set_cons_zero, List.set_cons_succ]
  refine take_runs (i := 7) (v := ?_) (by simp only [List.getElem?_toArray, List.getElem?_cons_succ, List.getElem?_cons_zero]; rfl) (by kernel_rfl) (by kernel_rfl) (by kernel_rfl) rfl (by exact fun _ _ _ h => h) (by rfl) ?_ (by assumption) ?_
  rotate_left
  · intro w hSw; (try dsimp only at hSw); go_simp; try (with_reducible rfl)
  try simp only [Act.put, List.setIfInBounds_toArray, List.set_cons_zero, List.set_cons_succ]
  refine take_runs (i := 8) (v := ?_) (by simp only [List.getElem?_toArray, List.getElem?_cons_succ, List.getElem?_cons_zero]; rfl) (by kernel_rfl) (by kernel_rfl) (by kernel_rfl) rfl (by exact fun _ _ _ h => h) (by rfl) ?_ (by assumption) ?_
  rotate_left
  · intro w hSw; (try dsimp only at hSw); go_simp; try (with_reducible rfl)
  try simp only [Act.put, List.setIfInBounds_toArray, List.set_cons_zero, List.set_cons_succ]
  refine take_over (i := 9) (by simp only [List.getElem?_toArray, List.getElem?_cons_succ, List.getElem?_cons_zero]; rfl) (by kernel_rfl) (by kernel_rfl) (by kernel_rfl) rfl (by exact fun _ _ _ h => h) (by rfl) (by assumption) ?_
  try simp only [Act.put, List.setIfInBounds_toArray, List.set_cons_zero, List.set_cons_succ]
  refine take_over (i := 10) (by simp only [List.getElem?_toArray, List.getElem?_cons_succ, List.getElem?_cons_zero]; rfl) (by kernel_rfl) (by kernel_rfl) (by kernel_rfl) rfl (by exact fun _ _ _ h => h) (by rfl) (by assumption) ?_
  try simp only [Act.put, List.setIfInBounds_toArray, List.set_cons_zero, List.set_cons_succ]
  refine take_over (i := 11) (by simp only [List.getElem?_toArray, List.getElem?_cons_succ, List.getElem?_cons_zero]; rfl) (by kernel_rfl) (by kernel_rfl) (by kernel_rfl) rfl (by exact fun _ _ _ h => h) (by rfl) (by assumption) ?_
  try simp only [Act.put, List.setIfInBounds_toArray, List.set_cons_zero, List.set_cons_succ]
  refine take_over (i := 12) (by simp only [List.getElem?_toArray, List.getElem?_cons_succ, List.getElem?_cons_zero]; rfl) (by kernel_rfl) (by kernel_rfl) (by kernel_rfl) rfl (by exact fun _ _ _ h => h) (by rfl) (by assumption) ?_
  try simp only [Act.put, List.setIfInBounds_toArray, List.set_cons_zero, List.set_cons_succ]
  refine take_over (i := 13) (by simp only [List.getElem?_toArray, List.getElem?_cons_succ, List.getElem?_cons_zero]; rfl) (by kernel_rfl) (by kernel_rfl) (by kernel_rfl) rfl (by exact fun _ _ _ h => h) (by rfl) (by assumption) ?_
  try simp only [Act.put, List.setIfInBounds_toArray, List.set_cons_zero, List.set_cons_succ]
  refine take_over (i := 14) (by simp only [List.getElem?_toArray, List.getElem?_cons_succ, List.getElem?_cons_zero]; rfl) (by kernel_rfl) (by kernel_rfl) (by kernel_rfl) rfl (by exact fun _ _ _ h => h) (by rfl) (by assumption) ?_
  try simp only [Act.put, List.setIfInBounds_toArray, List.set_cons_zero, List.set_cons_succ]
  refine take_runs (i := 15) (v := ?_) (by simp only [List.getElem?_toArray, List.getElem?_cons_succ, List.getElem?_cons_zero]; rfl) (by kernel_rfl) (by kernel_rfl) (by kernel_rfl) rfl (by exact fun _ _ _ h => h) (by rfl) ?_ (by assumption) ?_
  rotate_left
  · intro w hSw; (try dsimp only at hSw); go_simp; try (with_reducible rfl)
  try simp only [Act.put, List.setIfInBounds_toArray, List.set_cons_zero, List.set_cons_succ]
  refine take_runs (i := 16) (v := ?_) (by simp only [List.getElem?_toArray, List.getElem?_cons_succ, List.getElem?_cons_zero]; rfl) (by kernel_rfl) (by kernel_rfl) (by kernel_rfl) rfl (by exact fun _ _ _ h => h) (by rfl) ?_ (by assumption) ?_
  rotate_left
  · intro w hSw; (try dsimp only at hSw); go_simp; try (with_reducible rfl)
  try simp only [Act.put, List.setIfInBounds_toArray, List.set_cons_zero, List.set_cons_succ]
  refine wpAnyH_done (by kernel_rfl) ?_ _
  have b11 : Below w.heap.size w W.drew := below_drew hh
  clear hHeld
  go_wp2
  go_ret
  exact ⟨rfl, b11⟩
set_option maxHeartbeats 8000000 in
set_option maxRecDepth 100000 in
theorem isValid_count (id n a b c : Int) (w : World) (h1 : 0 ≤ id) (h2 : id ≤ 999) (h3 : ¬ n = 3) :
    Calls Tryz.prog 71 #[.agg #[.int .i64 id, .int .i64 n, .int .i64 a, .int .i64 b, .int .i64 c]] w fun e w' => e = .returned (.bool (false)) ∧ Below w.heap.size w w' := by
  have HI := Lib.hid (fun w => isRowId_yes id w h1 h2)
  clear h1 h2
  have hd : (n == 3) = false := by simpa using h3
  clear h3
  go_enter Tryz.func71, Tryz.ntmps71
  go_wp2
  have hh : Below w.heap.size w (w.alloc (.cells #[.int .i64 id, .int .i64 n, .int .i64 a, .int .i64 b, .int .i64 c] 122)) := (Below.refl _ w).alloc (Nat.le_refl _) _
  have g0 := heap_alloc_new w (.cells #[.int .i64 id, .int .i64 n, .int .i64 a, .int .i64 b, .int .i64 c] 122)
  have hlt : w.heap.size < (w.alloc (.cells #[.int .i64 id, .int .i64 n, .int .i64 a, .int .i64 b, .int .i64 c] 122)).heap.size := by simp
  generalize w.alloc (.cells #[.int .i64 id, .int .i64 n, .int .i64 a, .int .i64 b, .int .i64 c] 122) = W at *
  have q0 := cell_of_row W _ 0 _ _ _ g0
  have q1 := cell_of_row W _ 1 _ _ _ g0
  have q2 := cell_of_row W _ 2 _ _ _ g0
  have q3 := cell_of_row W _ 3 _ _ _ g0
  have q4 := cell_of_row W _ 4 _ _ _ g0
  simp at q0 q1 q2 q3 q4
  refine wp_region_held_drew (S := fun w' => w'.cell? ⟨w.heap.size, 0, none⟩ = some (.int .i64 id) ∧ w'.cell? ⟨w.heap.size, 1, none⟩ = some (.int .i64 n) ∧ w'.cell? ⟨w.heap.size, 2, none⟩ = some (.int .i64 a) ∧ w'.cell? ⟨w.heap.size, 3, none⟩ = some (.int .i64 b) ∧ w'.cell? ⟨w.heap.size, 4, none⟩ = some (.int .i64 c)) (by kernel_rfl) ⟨q0, q1, q2, q3, q4⟩ (fun hHeld => ?_)
  refine take_runs (i := 0) (v := ?_) (by simp only [List.getElem?_toArray, List.getElem?_cons_succ, List.getElem?_cons_zero]; rfl) (by kernel_rfl) (by kernel_rfl) (by kernel_rfl) rfl (by exact fun _ _ _ h => h) (by rfl) ?_ (by assumption) ?_
  rotate_left
  · intro w hSw; (try dsimp only at hSw); go_simp; try (with_reducible rfl)
  try simp only [Act.put, List.setIfInBounds_toArray, List.set_cons_zero, List.set_cons_succ]
  refine take_runs (i := 1) (v := ?_) (by simp only [List.getElem?_toArray, List.getElem?_cons_succ, List.getElem?_cons_zero]; rfl) (by kernel_rfl) (by kernel_rfl) (by kernel_rfl) rfl (by exact fun _ _ _ h => h) (by rfl) ?_ (by assumption) ?_
  rotate_left
  · intro w hSw; (try dsimp only at hSw); go_simp; try (with_reducible rfl)
  try simp only [Act.put, List.setIfInBounds_toArray, List.set_cons_zero, List.set_cons_succ]
  refine wpAnyH_ready (rs := [2]) (by kernel_rfl) (by simp) ?_
  refine AllReadyH.cons (o := _) (by simp only [List.getElem?_toArray, List.getElem?_cons_succ, List.getElem?_cons_zero]; rfl) (fun K hK => ?_) AllReadyH.nil
  go_simp
  refine (HI.out _).mono ?_
  rintro e w8 ⟨rfl, rfl⟩
  refine hK.out _ _ ⟨q0, q1, q2, q3, q4⟩ (fun hHeld => ?_)
  clear hK K
  try simp only [Act.put, List.setIfInBounds_toArray, List.set_cons_zero, List.set_cons_succ]
  refine take_runs (i := 3) (v := ?_) (by simp only [List.getElem?_toArray, List.getElem?_cons_succ, List.getElem?_cons_zero]; rfl) (by kernel_rfl) (by kernel_rfl) (by kernel_rfl) rfl (by exact fun _ _ _ h => h) (by rfl) ?_ (by assumption) ?_
  rotate_left
  · intro w hSw; (try dsimp only at hSw); go_simp; try (with_reducible rfl)
  try simp only [Act.put, List.setIfInBounds_toArray, List.set_cons_zero, List.set_cons_succ]
  refine take_runs (i := 4) (v := ?_) (by simp only [List.getElem?_toArray, List.getElem?_cons_succ, List.getElem?_cons_zero]; rfl) (by kernel_rfl) (by kernel_rfl) (by kernel_rfl) rfl (by exact fun _ _ _ h => h) (by rfl) ?_ (by assumption) ?_
  rotate_left
  · intro w hSw; (try dsimp only at hSw); go_simp; try (with_reducible rfl)
  try simp only [Act.put, List.setIfInBounds_toArray, List.set_cons_zero, List.set_cons_succ]
  refine take_runs (i := 5) (v := ?_) (by simp only [List.getElem?_toArray, List.getElem?_cons_succ, List.getElem?_cons_zero]; rfl) (by kernel_rfl) (by kernel_rfl) (by kernel_rfl) rfl (by exact fun _ _ _ h => h) (by rfl) ?_ (by assumption) ?_
  rotate_left
  · intro w hSw; (try dsimp only at hSw); go_simp; try (with_reducible rfl)
  try simp only [Act.put, List.setIfInBounds_toArray, List.set_cons_zero, List.set_cons_succ]
  refine take_runs (i := 6) (v := ?_) (by simp only [List.getElem?_toArray, List.getElem?_cons_succ, List.getElem?_cons_zero]; rfl) (by kernel_rfl) (by kernel_rfl) (by kernel_rfl) rfl (by exact fun _ _ _ h => h) (by rfl) ?_ (by assumption) ?_
  rotate_left
  · intro w hSw; (try dsimp only at hSw); go_simp; try (with_reducible rfl)
  try simp only [Act.put, List.setIfInBounds_toArray, List.set_cons_zero, List.set_cons_succ]
  refine take_runs (i := 7) (v := ?_) (by simp only [List.getElem?_toArray, List.getElem?_cons_succ, List.getElem?_cons_zero]; rfl) (by kernel_rfl) (by kernel_rfl) (by kernel_rfl) rfl (by exact fun _ _ _ h => h) (by rfl) ?_ (by assumption) ?_
  rotate_left
  · intro w hSw; (try dsimp only at hSw); go_simp; try (with_reducible rfl)
  try simp only [Act.put, List.setIfInBounds_toArray, List.set_cons_zero, List.set_cons_succ]
  refine take_runs (i := 8) (v := ?_) (by simp only [List.getElem?_toArray, List.getElem?_cons_succ, List.getElem?_cons_zero]; rfl) (by kernel_rfl) (by kernel_rfl) (by kernel_rfl) rfl (by exact fun _ _ _ h => h) (by rfl) ?_ (by assumption) ?_
  rotate_left
  · intro w hSw; (try dsimp only at hSw); go_simp; try (with_reducible rfl)
  try simp only [Act.put, List.setIfInBounds_toArray, List.set_cons_zero, List.set_cons_succ]
  refine take_over (i := 9) (by simp only [List.getElem?_toArray, List.getElem?_cons_succ, List.getElem?_cons_zero]; rfl) (by kernel_rfl) (by kernel_rfl) (by kernel_rfl) rfl (by exact fun _ _ _ h => h) (by rfl) (by assumption) ?_
  try simp only [Act.put, List.setIfInBounds_toArray, List.set_cons_zero, List.set_cons_succ]
  refine take_over (i := 10) (by simp only [List.getElem?_toArray, List.getElem?_cons_succ, List.getElem?_cons_zero]; rfl) (by kernel_rfl) (by kernel_rfl) (by kernel_rfl) rfl (by exact fun _ _ _ h => h) (by rfl) (by assumption) ?_
  try simp only [Act.put, List.setIfInBounds_toArray, List.set_cons_zero, List.set_cons_succ]
  refine take_over (i := 11) (by simp only [List.getElem?_toArray, List.getElem?_cons_succ, List.getElem?_cons_zero]; rfl) (by kernel_rfl) (by kernel_rfl) (by kernel_rfl) rfl (by exact fun _ _ _ h => h) (by rfl) (by assumption) ?_
  try simp only [Act.put, List.setIfInBounds_toArray, List.set_cons_zero, List.set_cons_succ]
  refine take_over (i := 12) (by simp only [List.getElem?_toArray, List.getElem?_cons_succ, List.getElem?_cons_zero]; rfl) (by kernel_rfl) (by kernel_rfl) (by kernel_rfl) rfl (by exact fun _ _ _ h => h) (by rfl) (by assumption) ?_
  try simp only [Act.put, List.setIfInBounds_toArray, List.set_cons_zero, List.set_cons_succ]
  refine take_over (i := 13) (by simp only [List.getElem?_toArray, List.getElem?_cons_succ, List.getElem?_cons_zero]; rfl) (by kernel_rfl) (by kernel_rfl) (by kernel_rfl) rfl (by exact fun _ _ _ h => h) (by rfl) (by assumption) ?_
  try simp only [Act.put, List.setIfInBounds_toArray, List.set_cons_zero, List.set_cons_succ]
  refine take_over (i := 14) (by simp only [List.getElem?_toArray, List.getElem?_cons_succ, List.getElem?_cons_zero]; rfl) (by kernel_rfl) (by kernel_rfl) (by kernel_rfl) rfl (by exact fun _ _ _ h => h) (by rfl) (by assumption) ?_
  try simp only [Act.put, List.setIfInBounds_toArray, List.set_cons_zero, List.set_cons_succ]
  refine take_runs (i := 15) (v := ?_) (by simp only [List.getElem?_toArray, List.getElem?_cons_succ, List.getElem?_cons_zero]; rfl) (by kernel_rfl) (by kernel_rfl) (by kernel_rfl) rfl (by exact fun _ _ _ h => h) (by rfl) ?_ (by assumption) ?_
  rotate_left
  · intro w hSw; (try dsimp only at hSw); go_simp; try (with_reducible rfl)
  try simp only [Act.put, List.setIfInBounds_toArray, List.set_cons_zero, List.set_cons_succ]
  refine take_runs (i := 16) (v := ?_) (by simp only [List.getElem?_toArray, List.getElem?_cons_succ, List.getElem?_cons_zero]; rfl) (by kernel_rfl) (by kernel_rfl) (by kernel_rfl) rfl (by exact fun _ _ _ h => h) (by rfl) ?_ (by assumption) ?_
  rotate_left
  · intro w hSw; (try dsimp only at hSw); go_simp; try (with_reducible rfl)
  try simp only [Act.put, List.setIfInBounds_toArray, List.set_cons_zero, List.set_cons_succ]
  refine wpAnyH_done (by kernel_rfl) ?_ _
  have b11 : Below w.heap.size w W.drew := below_drew hh
  clear hHeld
  go_wp2
  go_ret
  exact ⟨rfl, b11⟩
set_option maxHeartbeats 8000000 in
set_option maxRecDepth 100000 in
theorem isValid_all (id n a b c : Int) (w : World) (h1 : 0 ≤ id) (h2 : id ≤ 999) (h3 : n = 3) :
    Calls Tryz.prog 71 #[.agg #[.int .i64 id, .int .i64 n, .int .i64 a, .int .i64 b, .int .i64 c]] w fun e w' => e = .returned (.bool (a == limI a && b == limI b && c == limI c)) ∧ Below w.heap.size w w' := by
  have HI := Lib.hid (fun w => isRowId_yes id w h1 h2)
  clear h1 h2
  have hd : (n == 3) = true := by simpa using h3
  clear h3
  have HL := Lib.hid (fun w => limited_any a b c w)
  have he := fun w => eql_arr a b c (limI a) (limI b) (limI c) w
  have hgd := fun (o1 o2 : Operand) (xs ys : Array Value) (w : World) => guard_arr o1 o2 xs ys w
  generalize hr : (a == limI a && b == limI b && c == limI c) = r at he ⊢
  clear hr
  go_enter Tryz.func71, Tryz.ntmps71
  go_wp2
  have hh : Below w.heap.size w (w.alloc (.cells #[.int .i64 id, .int .i64 n, .int .i64 a, .int .i64 b, .int .i64 c] 122)) := (Below.refl _ w).alloc (Nat.le_refl _) _
  have g0 := heap_alloc_new w (.cells #[.int .i64 id, .int .i64 n, .int .i64 a, .int .i64 b, .int .i64 c] 122)
  have hlt : w.heap.size < (w.alloc (.cells #[.int .i64 id, .int .i64 n, .int .i64 a, .int .i64 b, .int .i64 c] 122)).heap.size := by simp
  generalize w.alloc (.cells #[.int .i64 id, .int .i64 n, .int .i64 a, .int .i64 b, .int .i64 c] 122) = W at *
  have q0 := cell_of_row W _ 0 _ _ _ g0
  have q1 := cell_of_row W _ 1 _ _ _ g0
  have q2 := cell_of_row W _ 2 _ _ _ g0
  have q3 := cell_of_row W _ 3 _ _ _ g0
  have q4 := cell_of_row W _ 4 _ _ _ g0
  simp at q0 q1 q2 q3 q4
  refine wp_region_held_drew (S := fun w' => w'.cell? ⟨w.heap.size, 0, none⟩ = some (.int .i64 id) ∧ w'.cell? ⟨w.heap.size, 1, none⟩ = some (.int .i64 n) ∧ w'.cell? ⟨w.heap.size, 2, none⟩ = some (.int .i64 a) ∧ w'.cell? ⟨w.heap.size, 3, none⟩ = some (.int .i64 b) ∧ w'.cell? ⟨w.heap.size, 4, none⟩ = some (.int .i64 c)) (by kernel_rfl) ⟨q0, q1, q2, q3, q4⟩ (fun hHeld => ?_)
  refine take_runs (i := 0) (v := ?_) (by simp only [List.getElem?_toArray, List.getElem?_cons_succ, List.getElem?_cons_zero]; rfl) (by kernel_rfl) (by kernel_rfl) (by kernel_rfl) rfl (by exact fun _ _ _ h => h) (by rfl) ?_ (by assumption) ?_
  rotate_left
  · intro w hSw; (try dsimp only at hSw); go_simp; try (with_reducible rfl)
  try simp only [Act.put, List.setIfInBounds_toArray, List.set_cons_zero, List.set_cons_succ]
  refine take_runs (i := 1) (v := ?_) (by simp only [List.getElem?_toArray, List.getElem?_cons_succ, List.getElem?_cons_zero]; rfl) (by kernel_rfl) (by kernel_rfl) (by kernel_rfl) rfl (by exact fun _ _ _ h => h) (by rfl) ?_ (by assumption) ?_
  rotate_left
  · intro w hSw; (try dsimp only at hSw); go_simp; try (with_reducible rfl)
  try simp only [Act.put, List.setIfInBounds_toArray, List.set_cons_zero, List.set_cons_succ]
  refine wpAnyH_ready (rs := [2]) (by kernel_rfl) (by simp) ?_
  refine AllReadyH.cons (o := _) (by simp only [List.getElem?_toArray, List.getElem?_cons_succ, List.getElem?_cons_zero]; rfl) (fun K hK => ?_) AllReadyH.nil
  go_simp
  refine (HI.out _).mono ?_
  rintro e w8 ⟨rfl, rfl⟩
  refine hK.out _ _ ⟨q0, q1, q2, q3, q4⟩ (fun hHeld => ?_)
  clear hK K
  try simp only [Act.put, List.setIfInBounds_toArray, List.set_cons_zero, List.set_cons_succ]
  refine take_runs (i := 3) (v := ?_) (by simp only [List.getElem?_toArray, List.getElem?_cons_succ, List.getElem?_cons_zero]; rfl) (by kernel_rfl) (by kernel_rfl) (by kernel_rfl) rfl (by exact fun _ _ _ h => h) (by rfl) ?_ (by assumption) ?_
  rotate_left
  · intro w hSw; (try dsimp only at hSw); go_simp; try (with_reducible rfl)
  try simp only [Act.put, List.setIfInBounds_toArray, List.set_cons_zero, List.set_cons_succ]
  refine take_runs (i := 4) (v := ?_) (by simp only [List.getElem?_toArray, List.getElem?_cons_succ, List.getElem?_cons_zero]; rfl) (by kernel_rfl) (by kernel_rfl) (by kernel_rfl) rfl (by exact fun _ _ _ h => h) (by rfl) ?_ (by assumption) ?_
  rotate_left
  · intro w hSw; (try dsimp only at hSw); go_simp; try (with_reducible rfl)
  try simp only [Act.put, List.setIfInBounds_toArray, List.set_cons_zero, List.set_cons_succ]
  refine take_runs (i := 5) (v := ?_) (by simp only [List.getElem?_toArray, List.getElem?_cons_succ, List.getElem?_cons_zero]; rfl) (by kernel_rfl) (by kernel_rfl) (by kernel_rfl) rfl (by exact fun _ _ _ h => h) (by rfl) ?_ (by assumption) ?_
  rotate_left
  · intro w hSw; (try dsimp only at hSw); go_simp; try (with_reducible rfl)
  try simp only [Act.put, List.setIfInBounds_toArray, List.set_cons_zero, List.set_cons_succ]
  refine take_runs (i := 6) (v := ?_) (by simp only [List.getElem?_toArray, List.getElem?_cons_succ, List.getElem?_cons_zero]; rfl) (by kernel_rfl) (by kernel_rfl) (by kernel_rfl) rfl (by exact fun _ _ _ h => h) (by rfl) ?_ (by assumption) ?_
  rotate_left
  · intro w hSw; (try dsimp only at hSw); go_simp; try (with_reducible rfl)
  try simp only [Act.put, List.setIfInBounds_toArray, List.set_cons_zero, List.set_cons_succ]
  refine take_runs (i := 7) (v := ?_) (by simp only [List.getElem?_toArray, List.getElem?_cons_succ, List.getElem?_cons_zero]; rfl) (by kernel_rfl) (by kernel_rfl) (by kernel_rfl) rfl (by exact fun _ _ _ h => h) (by rfl) ?_ (by assumption) ?_
  rotate_left
  · intro w hSw; (try dsimp only at hSw); go_simp; try (with_reducible rfl)
  try simp only [Act.put, List.setIfInBounds_toArray, List.set_cons_zero, List.set_cons_succ]
  refine take_runs (i := 8) (v := ?_) (by simp only [List.getElem?_toArray, List.getElem?_cons_succ, List.getElem?_cons_zero]; rfl) (by kernel_rfl) (by kernel_rfl) (by kernel_rfl) rfl (by exact fun _ _ _ h => h) (by rfl) ?_ (by assumption) ?_
  rotate_left
  · intro w hSw; (try dsimp only at hSw); go_simp; try (with_reducible rfl)
  try simp only [Act.put, List.setIfInBounds_toArray, List.set_cons_zero, List.set_cons_succ]
  refine take_runs (i := 9) (v := ?_) (by simp only [List.getElem?_toArray, List.getElem?_cons_succ, List.getElem?_cons_zero]; rfl) (by kernel_rfl) (by kernel_rfl) (by kernel_rfl) rfl (by exact fun _ _ _ h => h) (by rfl) ?_ (by assumption) ?_
  rotate_left
  · intro w hSw; (try dsimp only at hSw); go_simp; try (with_reducible rfl)
  try simp only [Act.put, List.setIfInBounds_toArray, List.set_cons_zero, List.set_cons_succ]
  refine take_runs (i := 10) (v := ?_) (by simp only [List.getElem?_toArray, List.getElem?_cons_succ, List.getElem?_cons_zero]; rfl) (by kernel_rfl) (by kernel_rfl) (by kernel_rfl) rfl (by exact fun _ _ _ h => h) (by rfl) ?_ (by assumption) ?_
  rotate_left
  · intro w hSw; (try dsimp only at hSw); go_simp; try (with_reducible rfl)
  try simp only [Act.put, List.setIfInBounds_toArray, List.set_cons_zero, List.set_cons_succ]
  refine take_runs (i := 11) (v := ?_) (by simp only [List.getElem?_toArray, List.getElem?_cons_succ, List.getElem?_cons_zero]; rfl) (by kernel_rfl) (by kernel_rfl) (by kernel_rfl) rfl (by exact fun _ _ _ h => h) (by rfl) ?_ (by assumption) ?_
  rotate_left
  · intro w hSw; (try dsimp only at hSw); go_simp; try (with_reducible rfl)
  try simp only [Act.put, List.setIfInBounds_toArray, List.set_cons_zero, List.set_cons_succ]
  refine take_runs (i := 12) (v := ?_) (by simp only [List.getElem?_toArray, List.getElem?_cons_succ, List.getElem?_cons_zero]; rfl) (by kernel_rfl) (by kernel_rfl) (by kernel_rfl) rfl (by exact fun _ _ _ h => h) (by rfl) ?_ (by assumption) ?_
  rotate_left
  · intro w hSw; (try dsimp only at hSw); go_simp; try (with_reducible rfl)
  try simp only [Act.put, List.setIfInBounds_toArray, List.set_cons_zero, List.set_cons_succ]
  refine wpAnyH_ready (rs := [13]) (by kernel_rfl) (by simp) ?_
  refine AllReadyH.cons (o := _) (by simp only [List.getElem?_toArray, List.getElem?_cons_succ, List.getElem?_cons_zero]; rfl) (fun K hK => ?_) AllReadyH.nil
  go_simp
  refine (HL.out _).mono ?_
  rintro e w9 ⟨rfl, b9⟩
  have b10 : Below W.heap.size W w9 := below_from rfl b9
  have g2 := (b10.block w.heap.size hlt).trans g0
  have r0 := cell_of_row w9 _ 0 _ _ _ g2
  have r1 := cell_of_row w9 _ 1 _ _ _ g2
  have r2 := cell_of_row w9 _ 2 _ _ _ g2
  have r3 := cell_of_row w9 _ 3 _ _ _ g2
  have r4 := cell_of_row w9 _ 4 _ _ _ g2
  simp at r0 r1 r2 r3 r4
  refine hK.out _ _ ⟨r0, r1, r2, r3, r4⟩ (fun hHeld => ?_)
  clear hK K
  try simp only [Act.put, List.setIfInBounds_toArray, List.set_cons_zero, List.set_cons_succ]
  refine take_runs (i := 14) (v := ?_) (by simp only [List.getElem?_toArray, List.getElem?_cons_succ, List.getElem?_cons_zero]; rfl) (by kernel_rfl) (by kernel_rfl) (by kernel_rfl) rfl (by exact fun _ _ _ h => h) (by rfl) ?_ (by assumption) ?_
  rotate_left
  · intro w hSw; (try dsimp only at hSw); go_simp; try (with_reducible rfl)
  try simp only [Act.put, List.setIfInBounds_toArray, List.set_cons_zero, List.set_cons_succ]
  refine take_runs (i := 15) (v := ?_) (by simp only [List.getElem?_toArray, List.getElem?_cons_succ, List.getElem?_cons_zero]; rfl) (by kernel_rfl) (by kernel_rfl) (by kernel_rfl) rfl (by exact fun _ _ _ h => h) (by rfl) ?_ (by assumption) ?_
  rotate_left
  · intro w hSw; (try dsimp only at hSw); go_simp; try (with_reducible rfl)
  try simp only [Act.put, List.setIfInBounds_toArray, List.set_cons_zero, List.set_cons_succ]
  refine take_runs (i := 16) (v := ?_) (by simp only [List.getElem?_toArray, List.getElem?_cons_succ, List.getElem?_cons_zero]; rfl) (by kernel_rfl) (by kernel_rfl) (by kernel_rfl) rfl (by exact fun _ _ _ h => h) (by rfl) ?_ (by assumption) ?_
  rotate_left
  · intro w hSw; (try dsimp only at hSw); go_simp; try (with_reducible rfl)
  try simp only [Act.put, List.setIfInBounds_toArray, List.set_cons_zero, List.set_cons_succ]
  refine wpAnyH_done (by kernel_rfl) ?_ _
  have b11 := hh.trans (b10.mono hh.size)
  clear hHeld b9 b10
  go_wp2
  go_ret
  exact ⟨rfl, b11⟩
theorem isValid_any (id n a b c : Int) (w : World) :
    Calls Tryz.prog 71 #[.agg #[.int .i64 id, .int .i64 n, .int .i64 a, .int .i64 b, .int .i64 c]] w fun e w' => e = .returned (.bool (recB id n a b c)) ∧ Below w.heap.size w w' := by
  by_cases h : 0 ≤ id ∧ id ≤ 999
  · by_cases h3 : n = 3
    · have e : recB id n a b c = (a == limI a && b == limI b && c == limI c) := by unfold recB; rw [decide_eq_true h, decide_eq_true h3]; simp
      rw [e]
      exact isValid_all id n a b c w h.1 h.2 h3
    · have e : recB id n a b c = false := by unfold recB; rw [decide_eq_false h3]; simp
      rw [e]
      exact isValid_count id n a b c w h.1 h.2 h3
  · have e : recB id n a b c = false := by unfold recB; rw [decide_eq_false h]; simp
    rw [e]
    exact isValid_id id n a b c w h
set_option maxHeartbeats 4000000 in
set_option maxRecDepth 100000 in
theorem implIsRow (id : Int) (vv : Value) (xs : List Int) (w : World) (h : Ints w vv xs) (hn : xs.length ≤ 1048576) :
    Calls Tryz.prog 47 #[.agg #[.int .i64 id, vv]] w fun e w' => e = .returned (.bool (rowB (id, xs))) ∧ Below w.heap.size w w' := by
  have HR := Lib.hid (fun w h => recordOf_any id vv xs w h hn)
  have HV := Lib.hid (fun w => isValid_any id xs.length (xs.getD 0 0) (xs.getD 1 0) (xs.getD 2 0) w)
  rw [recB_row] at HV
  have H := Lib.hid h
  unfold recV at HR
  clear h hn
  generalize xs.getD 0 0 = x0 at *
  generalize xs.getD 1 0 = x1 at *
  generalize xs.getD 2 0 = x2 at *
  generalize rowB (id, xs) = r at *
  go_enter Tryz.func47, Tryz.ntmps47
  go_wp2_with fail
  have hb : Below w.heap.size w (w.alloc (.cells #[.int .i64 id, vv] 56)) := (Below.refl _ w).alloc (Nat.le_refl _) _
  refine (HR.out _ (ints_below H.out hb)).mono ?_
  rintro e w1 ⟨rfl, b1⟩
  have b2 := hb.trans (b1.mono hb.size)
  clear hb b1
  go_wp2_with fail
  refine (HV.out _).mono ?_
  rintro e w2 ⟨rfl, b3⟩
  have b4 := b2.trans (b3.mono b2.size)
  clear b2 b3
  go_wp2
  go_ret
  exact ⟨rfl, b4⟩
end Go.Proofs.YtidhmgboknffkaaGreatDoor
namespace Go.Proofs.YtidhmgboknffkaaGreatDoor
open Go.RowKit
set_option linter.unusedVariables false
set_option linter.unusedSimpArgs false
def tRow : Ty (Int × List Int) := tPair tInt tIntS
theorem tRow_law : tRow.Law := tPair_law tInt_law tIntS_law
theorem tRow_R {w : World} {cs : List Value} {a0 : Int} {x1 : List Int} (h : tRow.R w cs (a0, x1)) : ∃ v1, cs = [.int .i64 a0, v1] ∧ SlR tInt w v1 x1 := by
  obtain ⟨_, _, rfl, rfl, ⟨v1, rfl, h1⟩⟩ := h
  exact ⟨_, rfl, h1⟩
theorem tRow_sz {a0 : Int} {x1 : List Int} : tRow.sz (a0, x1) = zL tInt x1 := by
  simp only [tRow, tPair_sz, tPair_nd, tPair_nv, tInt_sz, tInt_nd, tInt_nv, tSl_sz, tSl_nd, tSl_nv]
  try omega
theorem tRow_nd {a0 : Int} {x1 : List Int} : tRow.nd (a0, x1) = 1 + ndL tInt x1 := by
  simp only [tRow, tPair_sz, tPair_nd, tPair_nv, tInt_sz, tInt_nd, tInt_nv, tSl_sz, tSl_nd, tSl_nv]
  try omega
theorem tRow_md {a0 : Int} {x1 : List Int} {k : Int} : tRow.md (a0, x1) k = ((k), mAll tInt x1 (k + 1)) := by
  simp only [tRow, tPair_md, tPair_mv, tPair_nd, tPair_nv, tInt_md, tInt_mv, tInt_nd, tInt_nv, tSl_md, tSl_mv, tSl_nd, tSl_nv, Int.natCast_add, Int.natCast_zero, Int.natCast_one, Int.add_zero, Int.zero_add, Int.add_assoc]
theorem tRow_O {w : World} {F : Nat → Prop} {cs : List Value} {a0 : Int} {x1 : List Int} (h : tRow.O w F cs (a0, x1)) : ∃ v1, ∃ F1 : Nat → Prop, cs = [.int .i64 a0, v1] ∧ SlO 3 tInt w F1 v1 x1 ∧ (∀ b, F1 b → F b) := by
  obtain ⟨_, _, F0_1, F0_2, rfl, rfl, ⟨v1, rfl, h1⟩, s0_1, s0_2, d0⟩ := h
  exact ⟨v1, F0_2, rfl, h1, fun b h => (s0_2 b h)⟩
theorem tRow_mkO {w : World} {F : Nat → Prop} {a0 : Int} {x1 : List Int} {v1 : Value} {F1 : Nat → Prop} (h1 : SlO 3 tInt w F1 v1 x1) (s1 : ∀ b, F1 b → F b)  : tRow.O w F [.int .i64 a0, v1] (a0, x1) := ⟨[.int .i64 a0], [v1], fun _ => False, F1, rfl, rfl, ⟨_, rfl, h1⟩, (fun b h => (False.elim h)), (fun b h => s1 b h), (fun b h g => (False.elim h))⟩
set_option maxHeartbeats 8000000 in
set_option maxRecDepth 100000 in
theorem szRow_Y (a0 : Int) (v1 : Value) (x1 : List Int) (k0 : Int) (w : World) (h1 : SlR tInt w v1 x1) (hs : ((zL tInt x1 : Nat) : Int) ≤ k0) (hk : k0 ≤ 1048576) :
    Calls Tryz.prog 19 #[.agg #[.int .i64 a0, v1], .int .i64 k0] w fun e w' => e = .returned (.int .i64 (k0 - ((zL tInt x1 : Nat) : Int))) ∧ Below w.heap.size w w' := by
  have H1 := Lib.hid h1
  clear h1
  have HZ1 : Hid (((zL tInt x1 : Nat) : Int) ≤ k0) := Lib.hid (by omega)
  have HK1 : Hid (k0 ≤ 1048576) := Lib.hid (by omega)
  have hn1 : ¬ k0 - ((zL tInt x1 : Nat) : Int) < 0 := by omega
  clear hs hk
  have hb : Below w.heap.size w (w.alloc (.cells #[.int .i64 a0, v1] 49)) := (Below.refl _ w).alloc (Nat.le_refl _) _
  have g0 : (w.alloc (.cells #[.int .i64 a0, v1] 49)).heap[w.heap.size]? = some (.cells #[.int .i64 a0, v1] 49 (0, 0)) := heap_alloc_new w _
  have hz0 : w.heap.size < (w.alloc (.cells #[.int .i64 a0, v1] 49)).heap.size := by simp
  go_enter Tryz.func19, Tryz.ntmps19
  go_wp2_with fail
  generalize (w.alloc (.cells #[.int .i64 a0, v1] 49)) = W at *
  refine (szIntS_Y v1 x1 (k0) W (slR_below tInt_law H1.out hb) HZ1.out HK1.out).mono ?_
  rintro e W1 ⟨rfl, b1⟩
  replace g0 := (b1.block w.heap.size hz0).trans g0
  replace hz0 := Nat.lt_of_lt_of_le hz0 b1.size
  replace hb := hb.trans (b1.mono hb.size)
  clear b1
  go_wp2
  go_ret
  exact ⟨rfl, hb⟩
set_option maxHeartbeats 8000000 in
set_option maxRecDepth 100000 in
theorem szRow_N (a0 : Int) (v1 : Value) (x1 : List Int) (k0 : Int) (w : World) (h1 : SlR tInt w v1 x1) (hs : k0 < ((zL tInt x1 : Nat) : Int)) (hk : k0 ≤ 1048576) (hp : 0 ≤ k0) (o1 : tIntS.ok x1) :
    Calls Tryz.prog 19 #[.agg #[.int .i64 a0, v1], .int .i64 k0] w fun e w' => e = .returned (.int .i64 (-1)) ∧ Below w.heap.size w w' := by
  have H1 := Lib.hid h1
  clear h1
  have HO1 := Lib.hid o1
  clear o1
  have HZ1 : Hid (k0 < ((zL tInt x1 : Nat) : Int)) := Lib.hid (by omega)
  have HP1 : Hid (0 ≤ k0) := Lib.hid (by omega)
  have HK1 : Hid (k0 ≤ 1048576) := Lib.hid (by omega)
  clear hs hk
  clear hp
  have hb : Below w.heap.size w (w.alloc (.cells #[.int .i64 a0, v1] 49)) := (Below.refl _ w).alloc (Nat.le_refl _) _
  have g0 : (w.alloc (.cells #[.int .i64 a0, v1] 49)).heap[w.heap.size]? = some (.cells #[.int .i64 a0, v1] 49 (0, 0)) := heap_alloc_new w _
  have hz0 : w.heap.size < (w.alloc (.cells #[.int .i64 a0, v1] 49)).heap.size := by simp
  go_enter Tryz.func19, Tryz.ntmps19
  go_wp2_with fail
  generalize (w.alloc (.cells #[.int .i64 a0, v1] 49)) = W at *
  refine (szIntS_N v1 x1 (k0) W (slR_below tInt_law H1.out hb) HZ1.out HK1.out HP1.out HO1.out).mono ?_
  rintro e W1 ⟨rfl, b1⟩
  replace g0 := (b1.block w.heap.size hz0).trans g0
  replace hz0 := Nat.lt_of_lt_of_le hz0 b1.size
  replace hb := hb.trans (b1.mono hb.size)
  clear b1
  go_wp2
  go_ret
  exact ⟨rfl, hb⟩
set_option maxHeartbeats 8000000 in
set_option maxRecDepth 100000 in
theorem toRow_T (a0 : Int) (v1 : Value) (x1 : List Int) (w : World) (h1 : SlR tInt w v1 x1) (s1 : zL tInt x1 ≤ 1048576) :
    Calls Tryz.prog 25 #[.agg #[.int .i64 a0, v1]] w (FreshT tRow (fun cs => .agg cs.toArray) w (a0, x1)) := by
  have H1 := Lib.hid h1
  clear h1
  have S1 := Lib.hid s1
  clear s1
  go_enter Tryz.func25, Tryz.ntmps25
  go_wp2_with fail
  have hb : Below w.heap.size w (((w.alloc (.cells #[.int .i64 a0, v1] 49)).alloc (.cells #[.int .i64 0, .slice none 0 0] 56)).alloc (.cells #[.int .i64 a0, .slice none 0 0] 56)) := (((Below.refl _ w).alloc (Nat.le_refl _) _).alloc (by simp) _).alloc (by simp; omega) _
  have g2 : (((w.alloc (.cells #[.int .i64 a0, v1] 49)).alloc (.cells #[.int .i64 0, .slice none 0 0] 56)).alloc (.cells #[.int .i64 a0, .slice none 0 0] 56)).heap[w.heap.size + 1 + 1]? = some (.cells #[.int .i64 a0, .slice none 0 0] 56 (0, 0)) := by
    have := heap_alloc_new ((w.alloc (.cells #[.int .i64 a0, v1] 49)).alloc (.cells #[.int .i64 0, .slice none 0 0] 56)) (.cells #[.int .i64 a0, .slice none 0 0] 56)
    simpa only [World.size_alloc] using this
  have g1 : (((w.alloc (.cells #[.int .i64 a0, v1] 49)).alloc (.cells #[.int .i64 0, .slice none 0 0] 56)).alloc (.cells #[.int .i64 a0, .slice none 0 0] 56)).heap[w.heap.size + 1]? = some (.cells #[.int .i64 0, .slice none 0 0] 56 (0, 0)) := by
    have := heap_alloc_new (w.alloc (.cells #[.int .i64 a0, v1] 49)) (.cells #[.int .i64 0, .slice none 0 0] 56)
    rw [Below.heap_alloc _ _ _ (by simp)]
    simpa only [World.size_alloc] using this
  have g0 : (((w.alloc (.cells #[.int .i64 a0, v1] 49)).alloc (.cells #[.int .i64 0, .slice none 0 0] 56)).alloc (.cells #[.int .i64 a0, .slice none 0 0] 56)).heap[w.heap.size]? = some (.cells #[.int .i64 a0, v1] 49 (0, 0)) := by
    rw [Below.heap_alloc _ _ _ (by simp; omega), Below.heap_alloc _ _ _ (by simp)]
    exact heap_alloc_new w _
  have hz : w.heap.size + 2 < (((w.alloc (.cells #[.int .i64 a0, v1] 49)).alloc (.cells #[.int .i64 0, .slice none 0 0] 56)).alloc (.cells #[.int .i64 a0, .slice none 0 0] 56)).heap.size := by simp [World.size_alloc]
  generalize (((w.alloc (.cells #[.int .i64 a0, v1] 49)).alloc (.cells #[.int .i64 0, .slice none 0 0] 56)).alloc (.cells #[.int .i64 a0, .slice none 0 0] 56)) = W at *
  refine (toIntS_S v1 x1 W (slR_below tInt_law H1.out hb) S1.out).mono ?_
  rintro e w1 ⟨u1, rfl, o1, b1⟩
  obtain ⟨ua1, uc1, rfl⟩ := slO_len o1
  replace o1 := slO_mono (slO_lt tInt_law o1) (F' := fun b => W.heap.size ≤ b ∧ b < w1.heap.size) (fun b h => h)
  replace g0 := (b1.block _ (by omega)).trans g0
  replace g1 := (b1.block _ (by omega)).trans g1
  replace g2 := (b1.block _ (by omega)).trans g2
  have zz1 := b1.size
  replace hb := hb.trans (b1.mono (by omega))
  clear b1
  have c2_0 := (cell_of_row w1 _ 0 _ _ _ g2).trans (show _ = some (Value.int .i64 a0) from rfl)
  have f2_0 := frozen_of_row w1 _ 0 _ _ g2
  have c2_1 := (cell_of_row w1 _ 1 _ _ _ g2).trans (show _ = some (Value.slice none 0 0) from rfl)
  have f2_1 := frozen_of_row w1 _ 1 _ _ g2
  have ne1 : ¬ w.heap.size = w.heap.size + 1 + 1 := by omega
  have ne2 : ¬ w.heap.size + 1 = w.heap.size + 1 + 1 := by omega
  have ne3 : ¬ w.heap.size + 1 + 1 = w.heap.size + 1 := by omega
  have c1_0 := (cell_of_row w1 _ 0 _ _ _ g1).trans (show _ = some (Value.int .i64 0) from rfl)
  have f1_0 := frozen_of_row w1 _ 0 _ _ g1
  have c1_1 := (cell_of_row w1 _ 1 _ _ _ g1).trans (show _ = some (Value.slice none 0 0) from rfl)
  have f1_1 := frozen_of_row w1 _ 1 _ _ g1
  go_wp2
  clear c2_0 f2_0 c2_1 f2_1 ne1 ne2 ne3 c1_0 f1_0 c1_1 f1_1
  have hw : Turn (fun b => b = w.heap.size + 1 ∨ b = w.heap.size + 1 + 1) w1 (((w1.setCell ⟨w.heap.size + 1 + 1, 1, none⟩ (.slice ua1 x1.length uc1)).setCell ⟨w.heap.size + 1, 0, none⟩ (.int .i64 a0)).setCell ⟨w.heap.size + 1, 1, none⟩ (.slice ua1 x1.length uc1)) := by
    first | exact ((((Turn.refl _ _).trans (turn_set (g := w.heap.size + 1 + 1) (j := 1) (u := .slice ua1 x1.length uc1) (Or.inr rfl))).trans (turn_set (g := w.heap.size + 1) (j := 0) (u := .int .i64 a0) (Or.inl rfl))).trans (turn_set (g := w.heap.size + 1) (j := 1) (u := .slice ua1 x1.length uc1) (Or.inl rfl))) | skip
  have r := (heap_setCell_same _ (w.heap.size + 1) 1 _ _ (.slice ua1 x1.length uc1) (heap_setCell_same _ (w.heap.size + 1) 0 _ _ (.int .i64 a0) ((heap_setCell_other _ ⟨w.heap.size + 1 + 1, 1, none⟩ (w.heap.size + 1) (.slice ua1 x1.length uc1) (by simp)).trans g1)))
  have e0 := cell_of_row _ _ 0 _ _ _ r
  have e1 := cell_of_row _ _ 1 _ _ _ r
  simp at e0 e1
  replace o1 := slO_turn tInt_law o1 hw (fun b h1 h2 => by have := h1.1; omega)
  replace hb := below_turn hb hw (fun b h => by omega) (by omega)
  refine bodyPost_ret (v := .agg #[.int .i64 a0, .slice ua1 x1.length uc1]) ?_ rfl ?_
  · simp [results, Tryz.f25, go_sem, e0, e1]
  · exact ⟨[.int .i64 a0, .slice ua1 x1.length uc1], rfl, tRow_mkO o1 (fun b h => by show w.heap.size ≤ b; have := h.1; omega) , hb⟩
set_option maxHeartbeats 8000000 in
set_option maxRecDepth 100000 in
theorem eqRow_T (a0 : Int) (v1 : Value) (x1 : List Int) (u1 : Value) (w : World) (h1 : SlR tInt w v1 x1) (g1 : SlR tInt w u1 x1) (s1 : zL tInt x1 ≤ 1048576) :
    Calls Tryz.prog 31 #[.agg #[.int .i64 a0, v1], .agg #[.int .i64 a0, u1]] w fun e w' => e = .returned (.bool true) ∧ Below w.heap.size w w' := by
  have H1 := Lib.hid h1; have G1 := Lib.hid g1; have S1 := Lib.hid s1
  clear h1 g1 s1
  have e0 : (a0 != a0) = false := by simp
  go_enter Tryz.func31, Tryz.ntmps31
  go_wp2_with fail
  have hb : Below w.heap.size w ((w.alloc (.cells #[.int .i64 a0, v1] 56)).alloc (.cells #[.int .i64 a0, u1] 56)) := ((Below.refl _ w).alloc (Nat.le_refl _) _).alloc (by simp) _
  have g1 : ((w.alloc (.cells #[.int .i64 a0, v1] 56)).alloc (.cells #[.int .i64 a0, u1] 56)).heap[w.heap.size + 1]? = some (.cells #[.int .i64 a0, u1] 56 (0, 0)) := by
    have := heap_alloc_new (w.alloc (.cells #[.int .i64 a0, v1] 56)) (.cells #[.int .i64 a0, u1] 56)
    simpa only [World.size_alloc] using this
  have g0 : ((w.alloc (.cells #[.int .i64 a0, v1] 56)).alloc (.cells #[.int .i64 a0, u1] 56)).heap[w.heap.size]? = some (.cells #[.int .i64 a0, v1] 56 (0, 0)) := by
    rw [Below.heap_alloc _ _ _ (by simp)]
    exact heap_alloc_new w _
  have hz : w.heap.size + 1 < ((w.alloc (.cells #[.int .i64 a0, v1] 56)).alloc (.cells #[.int .i64 a0, u1] 56)).heap.size := by simp [World.size_alloc]
  generalize ((w.alloc (.cells #[.int .i64 a0, v1] 56)).alloc (.cells #[.int .i64 a0, u1] 56)) = W at *
  refine (eqIntS_S v1 u1 x1 W (slR_below tInt_law H1.out hb) (slR_below tInt_law G1.out hb) S1.out).mono ?_
  rintro e w1 ⟨rfl, b1⟩
  replace g0 := (b1.block _ (by omega)).trans g0
  replace g1 := (b1.block _ (by omega)).trans g1
  have zz0 := b1.size
  replace hb := hb.trans (b1.mono (by omega))
  clear b1
  go_wp2
  go_ret
  exact ⟨rfl, hb⟩
end Go.Proofs.YtidhmgboknffkaaGreatDoor
namespace Go.Proofs.YtidhmgboknffkaaGreatDoor
open Go.RowKit
set_option linter.unusedVariables false
set_option linter.unusedSimpArgs false
abbrev tRowS : Ty (List (Int × List Int)) := tSl 56 tRow
set_option maxHeartbeats 8000000 in
set_option maxRecDepth 100000 in
theorem szRowS_Y (v : Value) (xs : List (Int × List Int)) (k0 : Int) (w : World) (h : SlR tRow w v xs) (hs : ((zL tRow xs : Nat) : Int) ≤ k0) (hk : k0 ≤ 1048576) :
    Calls Tryz.prog 5 #[v, .int .i64 k0] w fun e w' => e = .returned (.int .i64 (k0 - ((zL tRow xs : Nat) : Int))) ∧ Below w.heap.size w w' := by
  have H := Lib.hid h
  obtain ⟨a, cap, rfl⟩ := slR_len h
  clear h
  have h00 := zTo_le (T := tRow) (xs := xs) (Nat.zero_le _)
  rw [zTo_zero] at h00
  have HS := Lib.hid hs
  go_enter Tryz.func5, Tryz.ntmps5
  have hneg : ¬ k0 - (xs.length : Int) < 0 := by omega
  go_wp2
  clear hneg
  go_loopw [1, 5] (fun l i wr => ∃ k : Nat, k ≤ xs.length ∧ i = .int .i64 k ∧ l = .int .i64 (k0 - (zTo tRow xs k : Int)) ∧ Below w.heap.size w wr) (fun _ i _ => xs.length - (intOf i).toNat)
  case atStart => exact ⟨0, Nat.zero_le _, rfl, by rw [zTo_zero], Below.refl _ _⟩
  case round =>
    obtain ⟨k, hk', rfl, rfl, hbel⟩ := hrel
    by_cases hlt : k < xs.length
    · have HST := Lib.hid (zTo_step (T := tRow) hlt)
      have HLE := Lib.hid (zTo_le (T := tRow) (xs := xs) (k := k + 1) (by omega))
      have i1 : (0 : Int) ≤ (k : Int) := by omega
      have i2 : (k : Int) < (xs.length : Int) := by omega
      obtain ⟨b, off, cap', cs, hv, hbl, hcs, hR⟩ := slR_at (slR_below tRow_law H.out hbel) hlt
      simp only [Value.slice.injEq] at hv
      obtain ⟨rfl, _, rfl⟩ := hv
      generalize xs.getD k tRow.d = x at *
      obtain ⟨a0, x1⟩ := x
      obtain ⟨v1, hR'⟩ := tRow_R hR
      obtain ⟨rfl, h1⟩ := hR'
      have p0 : wr.cell? ⟨b, off + k * 2, none⟩ = some (Value.int .i64 a0) := hcs 0 (by decide)
      have p1 : wr.cell? ⟨b, off + k * 2 + 1, none⟩ = some (v1) := hcs 1 (by decide)
      clear hcs
      have HQ : Hid (tRow.sz (a0, x1) = zL tInt x1) := Lib.hid tRow_sz
      have hx1 : ((zL tInt x1 : Nat) : Int) ≤ k0 - (zTo tRow xs k : Int) := by have := HST.out; have := HLE.out; have := HQ.out; omega
      have hx2 : k0 - (zTo tRow xs k : Int) ≤ 1048576 := by omega
      have hneg : ¬ k0 - (zTo tRow xs k : Int) - ((zL tInt x1 : Nat) : Int) < 0 := by omega
      have HC := Lib.hid (fun W b => szRow_Y a0 v1 x1 (k0 - (zTo tRow xs k : Int)) W (slR_below tInt_law h1 b) hx1 hx2)
      go_wp2_with fail
      refine (HC.out _ (Below.refl _ _)).mono ?_
      rintro e w1 ⟨rfl, b1⟩
      have b2 := hbel.trans (b1.mono hbel.size)
      go_wp2
      go_roundw
      case rel => exact ⟨k + 1, by omega, by go_num, by rw [HST.out, HQ.out]; go_num, b2⟩
      case measure => simp [intOf]; omega
    · obtain rfl : k = xs.length := by omega
      go_wp2
      go_ret
      exact ⟨rfl, hbel⟩
set_option maxHeartbeats 8000000 in
set_option maxRecDepth 100000 in
theorem szRowS_N (v : Value) (xs : List (Int × List Int)) (k0 : Int) (w : World) (h : SlR tRow w v xs) (hs : k0 < ((zL tRow xs : Nat) : Int)) (hk : k0 ≤ 1048576) (hp : 0 ≤ k0) (ho : tRowS.ok xs) :
    Calls Tryz.prog 5 #[v, .int .i64 k0] w fun e w' => e = .returned (.int .i64 (-1)) ∧ Below w.heap.size w w' := by
  have H := Lib.hid h
  have HX := Lib.hid ho.2
  have hn := ho.1
  have HS := Lib.hid hs
  obtain ⟨a, cap, rfl⟩ := slR_len h
  clear h ho hs
  by_cases h1 : k0 < (xs.length : Int)
  · have hneg : k0 - (xs.length : Int) < 0 := by omega
    go_enter Tryz.func5, Tryz.ntmps5
    go_wp2
    go_ret
    exact ⟨rfl, Below.refl _ _⟩
  · go_enter Tryz.func5, Tryz.ntmps5
    have hneg : ¬ k0 - (xs.length : Int) < 0 := by omega
    go_wp2
    clear hneg
    go_loopw [1, 5] (fun l i wr => ∃ k : Nat, k ≤ xs.length ∧ i = .int .i64 k ∧ l = .int .i64 (k0 - (zTo tRow xs k : Int)) ∧ (zTo tRow xs k : Int) ≤ k0 ∧ Below w.heap.size w wr) (fun _ i _ => xs.length - (intOf i).toNat)
    case atStart => exact ⟨0, Nat.zero_le _, rfl, by rw [zTo_zero], by rw [zTo_zero]; omega, Below.refl _ _⟩
    case round =>
      obtain ⟨k, hk', rfl, rfl, hle, hbel⟩ := hrel
      by_cases hlt : k < xs.length
      · have HST := Lib.hid (zTo_step (T := tRow) hlt)
        have hx := HX.out k hlt
        have i1 : (0 : Int) ≤ (k : Int) := by omega
        have i2 : (k : Int) < (xs.length : Int) := by omega
        obtain ⟨b, off, cap', cs, hv, hbl, hcs, hR⟩ := slR_at (slR_below tRow_law H.out hbel) hlt
        simp only [Value.slice.injEq] at hv
        obtain ⟨rfl, _, rfl⟩ := hv
        generalize xs.getD k tRow.d = x at *
        obtain ⟨a0, x1⟩ := x
        obtain ⟨v1, hR'⟩ := tRow_R hR
        obtain ⟨rfl, h1⟩ := hR'
        have p0 : wr.cell? ⟨b, off + k * 2, none⟩ = some (Value.int .i64 a0) := hcs 0 (by decide)
        have p1 : wr.cell? ⟨b, off + k * 2 + 1, none⟩ = some (v1) := hcs 1 (by decide)
        clear hcs
        have HQ : Hid (tRow.sz (a0, x1) = zL tInt x1) := Lib.hid tRow_sz
        obtain ⟨_, o1⟩ := hx
        have hz0 : (0 : Int) ≤ (zTo tRow xs k : Int) := by omega
        by_cases hg : ((zL tInt x1 : Nat) : Int) ≤ k0 - (zTo tRow xs k : Int)
        · have hx2 : k0 - (zTo tRow xs k : Int) ≤ 1048576 := by omega
          have hneg : ¬ k0 - (zTo tRow xs k : Int) - ((zL tInt x1 : Nat) : Int) < 0 := by omega
          have HC := Lib.hid (fun W b => szRow_Y a0 v1 x1 (k0 - (zTo tRow xs k : Int)) W (slR_below tInt_law h1 b) hg hx2)
          go_wp2_with fail
          refine (HC.out _ (Below.refl _ _)).mono ?_
          rintro e w1 ⟨rfl, b1⟩
          have b2 := hbel.trans (b1.mono hbel.size)
          go_wp2
          go_roundw
          case rel => exact ⟨k + 1, by omega, by go_num, by rw [HST.out, HQ.out]; go_num, by rw [HST.out, HQ.out]; omega, b2⟩
          case measure => simp [intOf]; omega
        · have hx1 : k0 - (zTo tRow xs k : Int) < ((zL tInt x1 : Nat) : Int) := by omega
          have hx0 : 0 ≤ k0 - (zTo tRow xs k : Int) := by omega
          have hx2 : k0 - (zTo tRow xs k : Int) ≤ 1048576 := by omega
          have HC := Lib.hid (fun W b => szRow_N a0 v1 x1 (k0 - (zTo tRow xs k : Int)) W (slR_below tInt_law h1 b) hx1 hx2 hx0 o1)
          clear hg
          go_wp2_with fail
          refine (HC.out _ (Below.refl _ _)).mono ?_
          rintro e w1 ⟨rfl, b1⟩
          have b2 := hbel.trans (b1.mono hbel.size)
          go_wp2
          go_ret
          exact ⟨rfl, b2⟩
      · obtain rfl : k = xs.length := by omega
        exact absurd HS.out (by show ¬ k0 < ((zTo tRow xs xs.length : Nat) : Int); omega)
theorem Tryz.info_Row : (Tryz.prog.info? 56).map (fun i => (i.zero, i.size)) = some (some (.agg #[.int .i64 0, .slice none 0 0]), 2) := by kernel_rfl
theorem Tryz.bytes_Row : ((Tryz.prog.info? 56).map (fun i => decide (i.bytes ≤ 512))) = some true := by kernel_rfl
theorem tRow_zero (w : World) : tRow.O w (fun _ => False) #[.int .i64 0, .slice none 0 0].toList tRow.d := tRow_mkO (slO_nil _ _ _ (fun _ => False)) (fun b h => h) 
set_option maxHeartbeats 8000000 in
set_option maxRecDepth 100000 in
theorem toRowS_S (v : Value) (xs : List (Int × List Int)) (w : World) (h : SlR tRow w v xs) (hs : zL tRow xs ≤ 1048576) :
    Calls Tryz.prog 8 #[v] w (FreshS 56 tRow w xs) := by
  obtain ⟨i0, hi, hz0, hz1⟩ : ∃ i0, Tryz.prog.info? 56 = some i0 ∧ i0.zero = some (.agg #[.int .i64 0, .slice none 0 0]) ∧ i0.size = 2 := by
    have h0 := Tryz.info_Row
    cases q : Tryz.prog.info? 56 with
    | none => rw [q] at h0; simp at h0
    | some i => rw [q] at h0; simp only [Option.map_some, Option.some.injEq, Prod.mk.injEq] at h0; exact ⟨i, rfl, h0.1, h0.2⟩
  have hz2 : i0.bytes ≤ 512 := by
    have h0 := Tryz.bytes_Row
    rw [hi] at h0
    simpa using h0
  have HI := Lib.hid hi; have HZ0 := Lib.hid hz0; have HZ1 := Lib.hid hz1; have HZ2 := Lib.hid hz2
  clear hi hz0 hz1 hz2
  have H := Lib.hid h
  have hlen := zL_len hs
  have HS := Lib.hid hs
  obtain ⟨a, cap, rfl⟩ := slR_len h
  clear h hs
  go_enter Tryz.func8, Tryz.ntmps8
  go_wp2_with (at_make; refine wpList_make_full _ rfl (.tmp 6) (.tmp 6) 36 rfl w.heap.size 56 i0 (.agg #[.int .i64 0, .slice none 0 0]) 2 Tryz.underlying36 HI.out HZ0.out HZ1.out _ _ _ _ xs.length rfl rfl rfl rfl (by have h9 := Nat.mul_le_mul HZ2.out hlen; have h8 := Nat.mul_le_mul hlen HZ2.out; omega) (by unfold maxLen; omega) (Nat.le_refl _) ?_)
  intro w1 hown0 hg0
  have hown1 : SlO 56 tRow w1 (since w) (.slice (some ⟨w.heap.size, 0, none⟩) xs.length xs.length) (List.replicate xs.length tRow.d) := slO_made (z := #[.int .i64 0, .slice none 0 0]) tRow_law rfl (tRow_zero w1) (Nat.le_refl _) hown0
  have hbel1 := (Below.refl w.heap.size w).grown hg0 (Nat.le_refl _) (fun k hk => by cases hk)
  clear hown0 hg0
  go_wp2
  go_loopw [4] (fun i wr => ∃ k : Nat, k ≤ xs.length ∧ i = .int .i64 k ∧ SlO 56 tRow wr (since w) (.slice (some ⟨w.heap.size, 0, none⟩) xs.length xs.length) (xs.take k ++ List.replicate (xs.length - k) tRow.d) ∧ Below w.heap.size w wr) (fun i _ => xs.length - (intOf i).toNat)
  case atStart => exact ⟨0, Nat.zero_le _, rfl, by simpa using hown1, hbel1⟩
  case round =>
    obtain ⟨k, hk, rfl, hown, hbel⟩ := hrel
    by_cases hlt : k < xs.length
    · have HSET := Lib.hid (cTo_step (d := tRow.d) hlt)
      have HKL : Hid (k < (xs.take k ++ List.replicate (xs.length - k) tRow.d).length) := Lib.hid (by rw [cTo_len hk]; exact hlt)
      have HLL := Lib.hid (cTo_len (d := tRow.d) hk)
      have i1 : (0 : Int) ≤ (k : Int) := by omega
      have i2 : (k : Int) < (xs.length : Int) := by omega
      have hzx := zL_at HS.out hlt
      obtain ⟨b, off, cap', cs, hv, hbl, hcs, hR⟩ := slR_at (slR_below tRow_law H.out hbel) hlt
      simp only [Value.slice.injEq] at hv
      obtain ⟨rfl, _, rfl⟩ := hv
      obtain ⟨hme, hFg, hgl, cj, Fj, Lc, hrow, hLc, hO, hFj, hput⟩ := slO_open tRow_law hown HKL.out
      clear hme
      clear hown1 hbel1
      generalize xs.getD k tRow.d = x at *
      generalize xs.take k ++ List.replicate (xs.length - k) tRow.d = ys at *
      obtain ⟨a0, x1⟩ := x
      obtain ⟨v1, hR'⟩ := tRow_R hR
      obtain ⟨rfl, h1⟩ := hR'
      have p0 : wr.cell? ⟨b, off + k * 2, none⟩ = some (Value.int .i64 a0) := hcs 0 (by decide)
      have p1 : wr.cell? ⟨b, off + k * 2 + 1, none⟩ = some (v1) := hcs 1 (by decide)
      rw [tRow_sz] at hzx
      have S1 := Lib.hid (show zL tInt x1 ≤ 1048576 by omega)
      have HC := Lib.hid (fun w g1 => toRow_T a0 v1 x1 w g1 S1.out)
      have G1 := Lib.hid h1
      clear hcs hzx h1
      go_wp2_with fail
      refine (HC.out _ G1.out).mono ?_
      rintro e w2 ⟨cv, rfl, ow, b2⟩
      replace ow := tRow_law.lt ow
      have ow2 := ow
      obtain ⟨u1, K1, rfl, o1, _⟩ := tRow_O ow2
      obtain ⟨ua1, uc1, rfl⟩ := slO_len o1
      clear o1
      have r0 := row_turn (G := fun _ => False) hrow (turn_below b2) (fun _ _ => not_false)
      rw [HLL.out] at r0
      have q0 : ∃ x, w2.cell? ⟨w.heap.size, k * 2, none⟩ = some x := ⟨_, (World.ownsRow.cellAt r0 (k * 2) (by have := HKL.out; rw [HLL.out] at this; show _ < xs.length * 2; omega)).trans (List.getElem?_eq_getElem (by have h1 : Lc.length = xs.length * 2 := r0.1; omega))⟩
      obtain ⟨y0, q0⟩ := q0
      have f0 := World.ownsRow.frozenAt r0 (k * 2)
      have q1 : ∃ x, w2.cell? ⟨w.heap.size, k * 2 + 1, none⟩ = some x := ⟨_, (World.ownsRow.cellAt r0 (k * 2 + 1) (by have := HKL.out; rw [HLL.out] at this; show _ < xs.length * 2; omega)).trans (List.getElem?_eq_getElem (by have h1 : Lc.length = xs.length * 2 := r0.1; omega))⟩
      obtain ⟨y1, q1⟩ := q1
      have f1 := World.ownsRow.frozenAt r0 (k * 2 + 1)
      have b3 := hbel.trans (b2.mono hbel.size)
      have B3 := Lib.hid ((b3.setCell (p := ⟨w.heap.size, k * 2, none⟩) (Nat.le_refl _) (.int .i64 a0)).setCell (p := ⟨w.heap.size, k * 2 + 1, none⟩) (Nat.le_refl _) (.slice ua1 x1.length uc1))
      have hT : Turn (fun b => b = w.heap.size ∨ Fj b ∨ wr.heap.size ≤ b) wr ((w2.setCell ⟨w.heap.size, k * 2, none⟩ (.int .i64 a0)).setCell ⟨w.heap.size, k * 2 + 1, none⟩ (.slice ua1 x1.length uc1)) := (((turn_below b2).trans (turn_set (j := k * 2) (u := .int .i64 a0) (Or.inl rfl))).trans (turn_set (j := k * 2 + 1) (u := .slice ua1 x1.length uc1) (Or.inl rfl)))
      have hT2 : Turn (fun b => b = w.heap.size) w2 ((w2.setCell ⟨w.heap.size, k * 2, none⟩ (.int .i64 a0)).setCell ⟨w.heap.size, k * 2 + 1, none⟩ (.slice ua1 x1.length uc1)) := (((Turn.refl (fun b => b = w.heap.size) _).trans (turn_set (G := fun b => b = w.heap.size) (j := k * 2) (u := .int .i64 a0) rfl)).trans (turn_set (G := fun b => b = w.heap.size) (j := k * 2 + 1) (u := .slice ua1 x1.length uc1) rfl))
      have hO2 := tRow_law.turn ow hT2 (fun b h1 h2 => by have := h1.1; simp only [since] at this; omega)
      have r9 := (World.ownsRow.stored (World.ownsRow.stored r0 (k * 2) (.int .i64 a0)).1 (k * 2 + 1) (.slice ua1 x1.length uc1)).1
      have hLl : Lc.length = xs.length * 2 := r0.1
      have hst := Lib.hid (hput ((w2.setCell ⟨w.heap.size, k * 2, none⟩ (.int .i64 a0)).setCell ⟨w.heap.size, k * 2 + 1, none⟩ (.slice ua1 x1.length uc1)) ((Lc.set (k * 2) (.int .i64 a0)).set (k * 2 + 1) (.slice ua1 x1.length uc1)) [.int .i64 a0, .slice ua1 x1.length uc1] _ (a0, x1) (by rw [HLL.out]; exact r9) (fun p hp => by have hp2 : p < k * 2 ∨ k * 2 + 2 ≤ p := hp; rw [List.getElem?_set_ne (by omega)]; rw [List.getElem?_set_ne (by omega)]) (fun i hi => by have hi' : i < 2 := hi; match i, hi' with | 0, _ => (show (((Lc.set (k * 2) (.int .i64 a0)).set (k * 2 + 1) (.slice ua1 x1.length uc1)))[k * 2]? = _; rw [List.getElem?_set_ne (by omega)]; rw [List.getElem?_set_self (by first | omega | (simp only [List.length_set]; omega))]; rfl) | 1, _ => (show (((Lc.set (k * 2) (.int .i64 a0)).set (k * 2 + 1) (.slice ua1 x1.length uc1)))[k * 2 + 1]? = _; rw [List.getElem?_set_self (by first | omega | (simp only [List.length_set]; omega))]; rfl)) hO2 (fun b hb => ⟨Nat.le_trans hbel.size hb.1, Or.inr hb.1⟩) hT)
      have hst2 : SlO 56 tRow ((w2.setCell ⟨w.heap.size, k * 2, none⟩ (.int .i64 a0)).setCell ⟨w.heap.size, k * 2 + 1, none⟩ (.slice ua1 x1.length uc1)) (since w) (.slice (some ⟨w.heap.size, 0, none⟩) xs.length xs.length) (xs.take (k + 1) ++ List.replicate (xs.length - (k + 1)) tRow.d) := by have := hst.out; rw [HSET.out] at this; exact this
      have HST := Lib.hid hst2
      clear hst hst2 hT hT2 hO2 r9 r0 hrow hO hput hown hbel b2 ow b3 hLl hLc hFj
      go_wp2
      go_roundw
      case rel => exact ⟨k + 1, by omega, by go_num, HST.out, B3.out⟩
      case measure => simp [intOf]; omega
    · obtain rfl : k = xs.length := by omega
      have HE : Hid (xs.take xs.length ++ List.replicate (xs.length - xs.length) tRow.d = xs) := Lib.hid (by simp)
      rw [HE.out] at hown
      go_wp2
      go_ret
      exact ⟨_, rfl, hown, hbel⟩
set_option maxHeartbeats 8000000 in
set_option maxRecDepth 100000 in
theorem eqRowS_S (v u : Value) (xs : List (Int × List Int)) (w : World) (h : SlR tRow w v xs) (g : SlR tRow w u xs) (hs : zL tRow xs ≤ 1048576) :
    Calls Tryz.prog 12 #[v, u] w fun e w' => e = .returned (.bool true) ∧ Below w.heap.size w w' := by
  have H := Lib.hid h
  have G := Lib.hid g
  have HS := Lib.hid hs
  have hlen := zL_len hs
  obtain ⟨a, cap, rfl⟩ := slR_len h
  obtain ⟨a2, cap2, rfl⟩ := slR_len g
  clear h g hs
  go_enter Tryz.func12, Tryz.ntmps12
  go_wp2
  go_loopw [5] (fun i wr => ∃ k : Nat, k ≤ xs.length ∧ i = .int .i64 k ∧ Below w.heap.size w wr) (fun i _ => xs.length - (intOf i).toNat)
  case atStart => exact ⟨0, Nat.zero_le _, rfl, Below.refl _ _⟩
  case round =>
    obtain ⟨k, hk, rfl, hbel⟩ := hrel
    by_cases hlt : k < xs.length
    · obtain ⟨b, off, cap', cs, hv, hbl, hcs, hR⟩ := slR_at (slR_below tRow_law H.out hbel) hlt
      simp only [Value.slice.injEq] at hv
      obtain ⟨rfl, _, rfl⟩ := hv
      obtain ⟨b2, off2, cap2', ds, hv2, hbl2, hds, hQ⟩ := slR_at (slR_below tRow_law G.out hbel) hlt
      simp only [Value.slice.injEq] at hv2
      obtain ⟨rfl, _, rfl⟩ := hv2
      have hzx := zL_at HS.out hlt
      have i1 : (0 : Int) ≤ (k : Int) := by omega
      have i2 : (k : Int) < (xs.length : Int) := by omega
      generalize xs.getD k tRow.d = x at *
      obtain ⟨a0, x1⟩ := x
      obtain ⟨v1, hR'⟩ := tRow_R hR
      obtain ⟨rfl, h1⟩ := hR'
      obtain ⟨u1, hQ'⟩ := tRow_R hQ
      obtain ⟨rfl, g1⟩ := hQ'
      rw [tRow_sz] at hzx
      have S1 := Lib.hid (show zL tInt x1 ≤ 1048576 by omega)
      have p0 : wr.cell? ⟨b, off + k * 2, none⟩ = some (Value.int .i64 a0) := hcs 0 (by decide)
      have q0 : wr.cell? ⟨b2, off2 + k * 2, none⟩ = some (Value.int .i64 a0) := hds 0 (by decide)
      have p1 : wr.cell? ⟨b, off + k * 2 + 1, none⟩ = some (v1) := hcs 1 (by decide)
      have q1 : wr.cell? ⟨b2, off2 + k * 2 + 1, none⟩ = some (u1) := hds 1 (by decide)
      clear hcs hds hzx
      go_wp2
      go_region_with (first | (go_at_call 31; refine (eqRow_T a0 v1 x1 u1 _ (by exact slR_same tInt_law h1 rfl rfl rfl rfl) (by exact slR_same tInt_law g1 rfl rfl rfl rfl) S1.out).mono ?_; rintro e w8 ⟨rfl, b9⟩; have b10 : Below wr.heap.size wr w8 := ⟨b9.os, b9.tape, b9.output, b9.size, b9.block⟩))
      all_goals
        have b11 := hbel.trans (b10.mono hbel.size)
        go_wp2
        go_roundw
        case rel => exact ⟨k + 1, by omega, by go_num, b11⟩
        case measure => simp [intOf]; omega
    · go_wp2
      go_ret
      exact ⟨rfl, hbel⟩
set_option maxHeartbeats 8000000 in
set_option maxRecDepth 100000 in
theorem markRowS_S (v : Value) (xs : List (Int × List Int)) (F : Nat → Prop) (k : Int) (w : World) (h : SlO 56 tRow w F v xs) (hs : zL tRow xs ≤ 1048576) (k0 : 0 ≤ k) (k1 : k ≤ 1006632960) :
    Calls Tryz.prog 14 #[v, .int .i64 k] w fun e w' => e = .returned (.int .i64 (k + (ndL tRow xs : Int))) ∧ SlO 56 tRow w' F v (mAll tRow xs k) ∧ Turn F w w' := by
  rw [← kAt_all]
  have HS := Lib.hid hs
  have hlen := zL_len hs
  rcases slO_form h with ⟨rfl, rfl⟩ | ⟨g, cap, rfl, hFg, hgw⟩
  · have H := Lib.hid h
    clear h hs
    go_enter Tryz.func14, Tryz.ntmps14
    go_wp2
    go_loop [1, 5] (fun m i => i = .int .i64 0 ∧ m = .int .i64 k) (fun _ _ => 0)
    case atStart => exact ⟨rfl, rfl⟩
    case round =>
      obtain ⟨rfl, rfl⟩ := hrel
      go_wp2
      go_ret
      exact ⟨by simp [kAt, sumN], by rw [show mAll tRow [] k = [] from rfl]; exact H.out, Turn.refl _ _⟩
  · have H := Lib.hid h
    clear h hs
    go_enter Tryz.func14, Tryz.ntmps14
    go_wp2
    go_loopw [1, 5] (fun m i wr => ∃ j : Nat, j ≤ xs.length ∧ i = .int .i64 j ∧ m = .int .i64 (kAt tRow xs k j) ∧ SlO 56 tRow wr (fun b => F b ∧ b < w.heap.size) (.slice (some ⟨g, 0, none⟩) xs.length cap) (mTo tRow xs k j) ∧ Turn F w wr) (fun _ i _ => xs.length - (intOf i).toNat)
    case atStart => exact ⟨0, Nat.zero_le _, rfl, by rw [kAt_zero], by rw [mTo_zero]; exact slO_lt tRow_law H.out, Turn.refl _ _⟩
    case round =>
      obtain ⟨j, hj, rfl, rfl, hown, hon⟩ := hrel
      by_cases hlt : j < xs.length
      · have i1 : (0 : Int) ≤ (j : Int) := by omega
        have i2 : (j : Int) < (xs.length : Int) := by omega
        have hjl : j < (mTo tRow xs k j).length := by rw [mTo_len hj]; exact hlt
        have HLL := Lib.hid (mTo_len (T := tRow) (k := k) hj)
        obtain ⟨r1, r2⟩ := kAt_range tRow_law (by decide) (k := k) HS.out hj
        obtain ⟨r3, r4⟩ := kAt_range tRow_law (by decide) (k := k) (j := j + 1) HS.out (by omega)
        have hzx := zL_at HS.out hlt
        have hstep := kAt_step (T := tRow) (k := k) hlt
        have hset := mTo_step (T := tRow) (k := k) hlt
        have hsz := hon.size
        obtain ⟨hme, hFg2, hgl, cj, Fj, Lc, hrow, hLc, hO, hFj, hput⟩ := slO_open tRow_law hown hjl
        clear hme hFg2
        rw [mTo_at hlt] at hO
        have HM : Hid (∃ m', kAt tRow xs k (j + 1) = m') := Lib.hid ⟨_, rfl⟩
        obtain ⟨m', hm'⟩ := HM.out
        rw [hm'] at hstep r3 r4
        have HM' := Lib.hid hm'
        clear hm' HM H hown hjl
        generalize kAt tRow xs k j = m at *
        generalize xs.getD j tRow.d = x at *
        rw [HLL.out] at hrow hput
        obtain ⟨a0, x1⟩ := x
        rw [tRow_md] at hset
        rw [tRow_nd] at hstep
        rw [tRow_sz] at hzx
        obtain ⟨v1, K1, rfl, o1, q1⟩ := tRow_O hO
        have S1 := Lib.hid (show zL tInt x1 ≤ 1048576 by omega)
        have N1 := ndL_le tInt_law (by decide) x1
        have R1 : Hid (0 ≤ m + 1 ∧ m + 1 ≤ 1073741824) := Lib.hid (by omega)
        have hmm : m + 1 + (ndL tInt x1 : Int) = m' := by omega
        have HMM := Lib.hid hmm
        have hm0 : 0 ≤ m := by omega
        have hm1 : m ≤ 1073741824 := by omega
        clear hmm hstep hzx N1
        have hLl : Lc.length = xs.length * 2 := hrow.1
        have HSET := Lib.hid hset
        clear hset
        have tt : Turn (fun b => b = g ∨ Fj b ∨ wr.heap.size ≤ b) wr wr := Turn.refl _ _
        have rr := hrow
        have c0 : ∃ x, wr.cell? ⟨g, j * 2, none⟩ = some x := ⟨_, (World.ownsRow.cellAt rr (j * 2) (by show j * 2 < xs.length * 2; omega)).trans (List.getElem?_eq_getElem (by have h9 := rr.1; have h8 : xs.length * tRow.n = xs.length * 2 := rfl; omega))⟩
        obtain ⟨y0, c0⟩ := c0
        have f0 := World.ownsRow.frozenAt rr (j * 2)
        have cv1 : wr.cell? ⟨g, j * 2 + 1, none⟩ = some v1 := (World.ownsRow.cellAt rr (j * 2 + 1) (by show j * 2 + 1 < xs.length * 2; omega)).trans (by exact hLc 1 (by decide))
        go_wp2_with fail
        clear c0 f0 cv1
        have ts : Turn (fun b => b = g) wr (wr.setCell ⟨g, j * 2, none⟩ (.int .i64 (m))) := ((Turn.refl (fun b => b = g) _).trans (turn_set (G := fun b => b = g) (g := g) (j := j * 2) (u := .int .i64 (m)) rfl))
        replace rr := (World.ownsRow.stored rr (j * 2) (.int .i64 (m))).1
        replace o1 := slO_turn tInt_law o1 ts (fun b h1 h2 => (hFj b (q1 b h1)).2.1 h2)
        replace tt := tt.trans (ts.mono (fun b h => Or.inl h))
        clear ts
        generalize (wr.setCell ⟨g, j * 2, none⟩ (.int .i64 (m))) = W0 at *
        refine (markIntS_S v1 x1 _ (m + 1) W0 o1 S1.out R1.out.1 (by have := R1.out.2; omega)).mono ?_
        rintro e w1 ⟨rfl, m1, t1⟩
        replace rr := row_turn rr t1 (fun b hb h => by simp [Value.ownBlock] at hb; exact (hFj b (q1 b h)).2.1 hb.symm)
        replace o1 := m1
        replace tt := tt.trans (t1.mono (fun b h => Or.inr (Or.inl (q1 b h))))
        clear t1
        have hO2 := tRow_mkO (F := Fj) (a0 := m) o1 q1 
        have hst := hput w1 (Lc.set (j * 2) (.int .i64 (m))) [.int .i64 (m), v1] Fj _ rr (fun p hp => by have hp2 : p < j * 2 ∨ j * 2 + 2 ≤ p := hp; rw [List.getElem?_set_ne (by omega)]) (fun i hi => by have hi' : i < 2 := hi; match i, hi' with | 0, _ => (show ((Lc.set (j * 2) (.int .i64 (m))))[j * 2]? = _; rw [List.getElem?_set_self (by first | omega | (simp only [List.length_set]; omega))]; rfl) | 1, _ => (show ((Lc.set (j * 2) (.int .i64 (m))))[j * 2 + 1]? = _; rw [List.getElem?_set_ne (by omega)]; exact hLc 1 (by decide))) hO2 (fun b hb => ⟨(hFj b hb).1, Or.inl hb⟩) tt
        rw [HSET.out] at hst
        have HST := Lib.hid hst
        have hon2 := hon.trans (Turn.mono (G := fun b => F b ∧ b < w.heap.size) (G' := F) ⟨tt.os, tt.tape, tt.output, tt.size, fun b hb hn => tt.block b hb (fun h => hn (h.elim (fun h => by rw [h]; exact ⟨hFg, hgw⟩) (fun h => h.elim (fun h => (hFj b h).1) (fun h => absurd hb (Nat.not_lt.2 h)))))⟩ (fun b h => h.1))
        clear hst hput tt rr hO2 hon hFj hLc hLl o1
        rw [HMM.out]
        go_wp2
        go_roundw
        case rel => exact ⟨j + 1, by omega, by go_num, by rw [HM'.out], HST.out, hon2⟩
        case measure => simp [intOf]; omega
      · obtain rfl : j = xs.length := by omega
        rw [mTo_all] at hown
        go_wp2
        go_ret
        exact ⟨rfl, slO_mono hown (fun b h => h.1), hon⟩
end Go.Proofs.YtidhmgboknffkaaGreatDoor
namespace Go.Proofs.YtidhmgboknffkaaGreatDoor
open Go.RowKit
set_option linter.unusedVariables false
set_option linter.unusedSimpArgs false
theorem slR_rows {w : World} {v : Value} {rs : List RowD} (h : SlR tRow w v rs) : RowsR w v rs := by
  rcases h with h | ⟨b, off, cap, us, h1, h2, h3, h4⟩
  · exact Or.inl h
  · refine Or.inr ⟨b, off, cap, fun j => (us j).getD 1 (.slice none 0 0), h1, h2, h3, fun j hj => ?_⟩
    obtain ⟨hc, hR⟩ := h4 j hj
    obtain ⟨v1, e, g1⟩ := tRow_R (a0 := (rs.getD j (0, [])).1) (x1 := (rs.getD j (0, [])).2) hR
    have c0 := hc 0 (by decide); have c1 := hc 1 (by decide)
    simp only [e] at c0 c1 ⊢
    exact ⟨c0, c1, slR_ints g1⟩
theorem zL_rows (rs : List RowD) : zL tRow rs = szL rs := by
  have hf : tRow.sz = fun r : RowD => r.2.length := by
    funext r; obtain ⟨a, x⟩ := r; rw [tRow_sz, zL_ints]
  unfold zL zTo szL szTo sumN
  rw [hf]
end Go.Proofs.YtidhmgboknffkaaGreatDoor
