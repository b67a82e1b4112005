/-
 Texts of the proof, merged: OrdP, EngP4, EngResP.
-/
import Derived.Test.YtnepfacnmaoieaaGreatDoorRE3
import Derived.Test.YtnepfacnmaoieaaGreatDoorRE6
import Derived.Test.YtnepfacnmaoieaaGreatDoorRE11
import Derived.Test.YtnepfacnmaoieaaGreatDoorRE12
import Derived.Test.YtnepfacnmaoieaaGreatDoorRE14
import Derived.Test.YtnepfacnmaoieaaGreatDoorRows
import Derived.BigQuiet
import Derived.Deep.QuietTactic
import Derived.Deep.RegionHeld3
namespace Go.Proofs.YtnepfacnmaoieaaGreatDoor
open Go.RowKit
set_option maxRecDepth 100000
set_option linter.unusedVariables false
set_option linter.unusedSimpArgs false
def ordC : List Int := [0, 1, 2, 0, 2, 1, 1, 0, 2, 1, 2, 0, 2, 0, 1, 2, 1, 0]
/-- The table of orders reads as its text lays it. -/
def OrdT (w : World) : Prop := ∀ i, i < 18 → w.cell? ⟨2, i, none⟩ = some (.int .i64 (ordC.getD i 0))
theorem OrdT.on {w w' : World} (h : OrdT w) (hb : Below w.heap.size w w') : OrdT w' := by
 intro i hi
 have h1 := h i hi
 have hlt : 2 < w.heap.size := by
  cases hc : w.heap[2]? with
  | none => simp [World.cell?, hc] at h1
  | some x => exact (Array.getElem?_eq_some_iff.1 hc).1
 exact (hb.cell (p := ⟨2, i, none⟩) hlt).trans h1
/-- The k-th order's fields. -/
def oN (k j : Nat) : Int := (ordersL.getD k []).getD j 0
theorem oN_in {k : Nat} (h : k < 6) : orderB [oN k 0, oN k 1, oN k 2] = true := by
 rcases (show k = 0 ∨ k = 1 ∨ k = 2 ∨ k = 3 ∨ k = 4 ∨ k = 5 by omega) with rfl | rfl | rfl | rfl | rfl | rfl <;> decide
theorem order_all6 {os : List Int} (h : ∀ j, j < 6 → ¬ [oN j 0, oN j 1, oN j 2] = os) : orderB os = false := by
 cases hc : orderB os with
 | false => rfl
 | true =>
  have hm := order_in.1 hc
  simp only [ordersL, List.mem_cons, List.not_mem_nil, or_false] at hm
  rcases hm with rfl | rfl | rfl | rfl | rfl | rfl
  ·
   exact absurd rfl (h 0 (by omega))
  ·
   exact absurd rfl (h 1 (by omega))
  ·
   exact absurd rfl (h 2 (by omega))
  ·
   exact absurd rfl (h 3 (by omega))
  ·
   exact absurd rfl (h 4 (by omega))
  ·
   exact absurd rfl (h 5 (by omega))
theorem idxO0 (w : World) : Sem.run Tryz.prog (Instr.index 233 (.agg #[.int .i64 0, .int .i64 1, .int .i64 2, .int .i64 0, .int .i64 2, .int .i64 1, .int .i64 1, .int .i64 0, .int .i64 2, .int .i64 1, .int .i64 2, .int .i64 0, .int .i64 2, .int .i64 0, .int .i64 1, .int .i64 2, .int .i64 1, .int .i64 0]) (.int .i64 0)) w = .ok (.agg #[.int .i64 0, .int .i64 1, .int .i64 2]) w := by
 have u := Tryz.underlying233
 have z := Tryz.sizeOf168
 have g := Tryz.isAgg168
 unfold Instr.index
 go_simp
theorem idxO1 (w : World) : Sem.run Tryz.prog (Instr.index 233 (.agg #[.int .i64 0, .int .i64 1, .int .i64 2, .int .i64 0, .int .i64 2, .int .i64 1, .int .i64 1, .int .i64 0, .int .i64 2, .int .i64 1, .int .i64 2, .int .i64 0, .int .i64 2, .int .i64 0, .int .i64 1, .int .i64 2, .int .i64 1, .int .i64 0]) (.int .i64 1)) w = .ok (.agg #[.int .i64 0, .int .i64 2, .int .i64 1]) w := by
 have u := Tryz.underlying233
 have z := Tryz.sizeOf168
 have g := Tryz.isAgg168
 unfold Instr.index
 go_simp
theorem idxO2 (w : World) : Sem.run Tryz.prog (Instr.index 233 (.agg #[.int .i64 0, .int .i64 1, .int .i64 2, .int .i64 0, .int .i64 2, .int .i64 1, .int .i64 1, .int .i64 0, .int .i64 2, .int .i64 1, .int .i64 2, .int .i64 0, .int .i64 2, .int .i64 0, .int .i64 1, .int .i64 2, .int .i64 1, .int .i64 0]) (.int .i64 2)) w = .ok (.agg #[.int .i64 1, .int .i64 0, .int .i64 2]) w := by
 have u := Tryz.underlying233
 have z := Tryz.sizeOf168
 have g := Tryz.isAgg168
 unfold Instr.index
 go_simp
theorem idxO3 (w : World) : Sem.run Tryz.prog (Instr.index 233 (.agg #[.int .i64 0, .int .i64 1, .int .i64 2, .int .i64 0, .int .i64 2, .int .i64 1, .int .i64 1, .int .i64 0, .int .i64 2, .int .i64 1, .int .i64 2, .int .i64 0, .int .i64 2, .int .i64 0, .int .i64 1, .int .i64 2, .int .i64 1, .int .i64 0]) (.int .i64 3)) w = .ok (.agg #[.int .i64 1, .int .i64 2, .int .i64 0]) w := by
 have u := Tryz.underlying233
 have z := Tryz.sizeOf168
 have g := Tryz.isAgg168
 unfold Instr.index
 go_simp
theorem idxO4 (w : World) : Sem.run Tryz.prog (Instr.index 233 (.agg #[.int .i64 0, .int .i64 1, .int .i64 2, .int .i64 0, .int .i64 2, .int .i64 1, .int .i64 1, .int .i64 0, .int .i64 2, .int .i64 1, .int .i64 2, .int .i64 0, .int .i64 2, .int .i64 0, .int .i64 1, .int .i64 2, .int .i64 1, .int .i64 0]) (.int .i64 4)) w = .ok (.agg #[.int .i64 2, .int .i64 0, .int .i64 1]) w := by
 have u := Tryz.underlying233
 have z := Tryz.sizeOf168
 have g := Tryz.isAgg168
 unfold Instr.index
 go_simp
theorem idxO5 (w : World) : Sem.run Tryz.prog (Instr.index 233 (.agg #[.int .i64 0, .int .i64 1, .int .i64 2, .int .i64 0, .int .i64 2, .int .i64 1, .int .i64 1, .int .i64 0, .int .i64 2, .int .i64 1, .int .i64 2, .int .i64 0, .int .i64 2, .int .i64 0, .int .i64 1, .int .i64 2, .int .i64 1, .int .i64 0]) (.int .i64 5)) w = .ok (.agg #[.int .i64 2, .int .i64 1, .int .i64 0]) w := by
 have u := Tryz.underlying233
 have z := Tryz.sizeOf168
 have g := Tryz.isAgg168
 unfold Instr.index
 go_simp
theorem idxO {k : Nat} (h : k < 6) (w : World) : Sem.run Tryz.prog (Instr.index 233 (.agg #[.int .i64 0, .int .i64 1, .int .i64 2, .int .i64 0, .int .i64 2, .int .i64 1, .int .i64 1, .int .i64 0, .int .i64 2, .int .i64 1, .int .i64 2, .int .i64 0, .int .i64 2, .int .i64 0, .int .i64 1, .int .i64 2, .int .i64 1, .int .i64 0]) (.int .i64 (k : Int))) w = .ok (.agg #[.int .i64 (oN k 0), .int .i64 (oN k 1), .int .i64 (oN k 2)]) w := by
 rcases (show k = 0 ∨ k = 1 ∨ k = 2 ∨ k = 3 ∨ k = 4 ∨ k = 5 by omega) with rfl | rfl | rfl | rfl | rfl | rfl
 ·
  exact idxO0 w
 ·
  exact idxO1 w
 ·
  exact idxO2 w
 ·
  exact idxO3 w
 ·
  exact idxO4 w
 ·
  exact idxO5 w
theorem ints_three {w : World} {b : Nat} {x y z : Int} {t : TypeId} (h : w.heap[b]? = some (.cells #[.int .i64 x, .int .i64 y, .int .i64 z] t (0, 0))) : Ints w (.slice (some ⟨b, 0, none⟩) 3 3) [x, y, z] := by
 refine Or.inr ⟨b, 0, 3, rfl, Nat.le_refl _, (Array.getElem?_eq_some_iff.1 h).1, fun j hj => ?_⟩
 rw [Nat.zero_add, cell_of_row w b j _ _ _ h]
 match j, hj with
 | 0, _ => rfl
 | 1, _ => rfl
 | 2, _ => rfl
set_option maxHeartbeats 16000000 in
theorem implOrderOf (ov : Value) (os : List Int) (w : World) (h : Ints w ov os) (hn : os.length ≤ 1048576) (ht : OrdT w) :
  Calls Tryz.prog 130 #[ov] w fun e w' => ((orderB os = true ∧ e = .returned (.tuple #[.agg #[.int .i64 (os.getD 0 0), .int .i64 (os.getD 1 0), .int .i64 (os.getD 2 0)], .bool true])) ∨ (orderB os = false ∧ e = .returned (.tuple #[.agg #[.int .i64 0, .int .i64 0, .int .i64 0], .bool false]))) ∧ Below w.heap.size w w' := by
 obtain ⟨oa, oc, rfl⟩ := ints_len h
 have H := Lib.hid h
 have HN := Lib.hid hn
 have hal : Below w.heap.size w (w.alloc (.cells #[.int .i64 0, .int .i64 0, .int .i64 0] 168)) := (Below.refl _ _).alloc (Nat.le_refl _) _
 have B0 : Hid ((w.alloc (.cells #[.int .i64 0, .int .i64 0, .int .i64 0] 168)).heap[w.heap.size]? = some (.cells #[.int .i64 0, .int .i64 0, .int .i64 0] 168 (0, 0))) := Lib.hid (heap_alloc_new w _)
 have Y0 : Hid (w.heap.size < (w.alloc (.cells #[.int .i64 0, .int .i64 0, .int .i64 0] 168)).heap.size) := Lib.hid (by simp)
 have T0 := ht.on hal
 have d := Lib.hid hal
 clear h hn ht hal
 have t0 : (w.alloc (.cells #[.int .i64 0, .int .i64 0, .int .i64 0] 168)).cell? ⟨2, 0, none⟩ = some (.int .i64 0) := T0 0 (by omega)
 have t1 : (w.alloc (.cells #[.int .i64 0, .int .i64 0, .int .i64 0] 168)).cell? ⟨2, 1, none⟩ = some (.int .i64 1) := T0 1 (by omega)
 have t2 : (w.alloc (.cells #[.int .i64 0, .int .i64 0, .int .i64 0] 168)).cell? ⟨2, 2, none⟩ = some (.int .i64 2) := T0 2 (by omega)
 have t3 : (w.alloc (.cells #[.int .i64 0, .int .i64 0, .int .i64 0] 168)).cell? ⟨2, 3, none⟩ = some (.int .i64 0) := T0 3 (by omega)
 have t4 : (w.alloc (.cells #[.int .i64 0, .int .i64 0, .int .i64 0] 168)).cell? ⟨2, 4, none⟩ = some (.int .i64 2) := T0 4 (by omega)
 have t5 : (w.alloc (.cells #[.int .i64 0, .int .i64 0, .int .i64 0] 168)).cell? ⟨2, 5, none⟩ = some (.int .i64 1) := T0 5 (by omega)
 have t6 : (w.alloc (.cells #[.int .i64 0, .int .i64 0, .int .i64 0] 168)).cell? ⟨2, 6, none⟩ = some (.int .i64 1) := T0 6 (by omega)
 have t7 : (w.alloc (.cells #[.int .i64 0, .int .i64 0, .int .i64 0] 168)).cell? ⟨2, 7, none⟩ = some (.int .i64 0) := T0 7 (by omega)
 have t8 : (w.alloc (.cells #[.int .i64 0, .int .i64 0, .int .i64 0] 168)).cell? ⟨2, 8, none⟩ = some (.int .i64 2) := T0 8 (by omega)
 have t9 : (w.alloc (.cells #[.int .i64 0, .int .i64 0, .int .i64 0] 168)).cell? ⟨2, 9, none⟩ = some (.int .i64 1) := T0 9 (by omega)
 have t10 : (w.alloc (.cells #[.int .i64 0, .int .i64 0, .int .i64 0] 168)).cell? ⟨2, 10, none⟩ = some (.int .i64 2) := T0 10 (by omega)
 have t11 : (w.alloc (.cells #[.int .i64 0, .int .i64 0, .int .i64 0] 168)).cell? ⟨2, 11, none⟩ = some (.int .i64 0) := T0 11 (by omega)
 have t12 : (w.alloc (.cells #[.int .i64 0, .int .i64 0, .int .i64 0] 168)).cell? ⟨2, 12, none⟩ = some (.int .i64 2) := T0 12 (by omega)
 have t13 : (w.alloc (.cells #[.int .i64 0, .int .i64 0, .int .i64 0] 168)).cell? ⟨2, 13, none⟩ = some (.int .i64 0) := T0 13 (by omega)
 have t14 : (w.alloc (.cells #[.int .i64 0, .int .i64 0, .int .i64 0] 168)).cell? ⟨2, 14, none⟩ = some (.int .i64 1) := T0 14 (by omega)
 have t15 : (w.alloc (.cells #[.int .i64 0, .int .i64 0, .int .i64 0] 168)).cell? ⟨2, 15, none⟩ = some (.int .i64 2) := T0 15 (by omega)
 have t16 : (w.alloc (.cells #[.int .i64 0, .int .i64 0, .int .i64 0] 168)).cell? ⟨2, 16, none⟩ = some (.int .i64 1) := T0 16 (by omega)
 have t17 : (w.alloc (.cells #[.int .i64 0, .int .i64 0, .int .i64 0] 168)).cell? ⟨2, 17, none⟩ = some (.int .i64 0) := T0 17 (by omega)
 clear T0
 go_enter Tryz.func130, Tryz.ntmps130
 go_wp2
 generalize w.alloc (.cells #[.int .i64 0, .int .i64 0, .int .i64 0] 168) = W at *
 clear t0 t1 t2 t3 t4 t5 t6 t7 t8 t9 t10 t11 t12 t13 t14 t15 t16 t17
 go_loopw [7] (fun i wr => ∃ k : Nat, k ≤ 6 ∧ i = .int .i64 k ∧ Hid (∀ j, j < k → ¬ [oN j 0, oN j 1, oN j 2] = os) ∧ Hid (wr.heap[w.heap.size]? = some (.cells #[.int .i64 0, .int .i64 0, .int .i64 0] 168 (0, 0))) ∧ Hid (Below w.heap.size w wr) ∧ Hid (w.heap.size < wr.heap.size)) (fun i _ => 6 - (intOf i).toNat)
 case atStart => exact ⟨0, Nat.zero_le _, rfl, Lib.hid (fun j hj => by omega), B0, d, Y0⟩
 case round =>
  clear B0 d Y0
  obtain ⟨k, hk, rfl, hno, B0, d, Y0⟩ := hrel
  by_cases hlt : k < 6
  ·
   have hI := idxO hlt
   have HIN := Lib.hid (oN_in hlt)
   have i1 : (0 : Int) ≤ (k : Int) := by omega
   have i2 : (k : Int) < 6 := by omega
   have HST : Hid (¬ [oN k 0, oN k 1, oN k 2] = os → ∀ j, j < k + 1 → ¬ [oN j 0, oN j 1, oN j 2] = os) := Lib.hid (fun he j hj => by
    by_cases e : j = k
    ·
     exact e ▸ he
    ·
     exact hno.out j (by omega))
   clear hno
   generalize oN k 0 = x at *
   generalize oN k 1 = y at *
   generalize oN k 2 = z at *
   have hal : Below wr.heap.size wr (wr.alloc (.cells #[.int .i64 x, .int .i64 y, .int .i64 z] 168)) := (Below.refl _ _).alloc (Nat.le_refl _) _
   have B1 : Hid ((wr.alloc (.cells #[.int .i64 x, .int .i64 y, .int .i64 z] 168)).heap[wr.heap.size]? = some (.cells #[.int .i64 x, .int .i64 y, .int .i64 z] 168 (0, 0))) := Lib.hid (heap_alloc_new wr _)
   have HQ := Lib.hid (fun w h g => equalInts_any (.slice (some ⟨wr.heap.size, 0, none⟩) 3 3) (.slice oa os.length oc) [x, y, z] os w h g (by show 3 ≤ 1048576; decide) HN.out)
   by_cases he : [x, y, z] = os
   ·
    rw [decide_eq_true he] at HQ
    have HE := Lib.hid he
    clear he HST
    go_wp2_with fail
    generalize wr.alloc (.cells #[.int .i64 x, .int .i64 y, .int .i64 z] 168) = W2 at *
    have d2 := Lib.hid (d.out.trans (hal.mono d.out.size))
    refine (HQ.out W2 (ints_three B1.out) (ints_below H.out d2.out)).mono ?_
    rintro e w3 ⟨rfl, c3⟩
    have B1' := (c3.block wr.heap.size (Array.getElem?_eq_some_iff.1 B1.out).1).trans B1.out
    have B0' := (c3.block w.heap.size (by have := Y0.out; have := hal.size; omega)).trans ((hal.block w.heap.size Y0.out).trans B0.out)
    have d3 := d2.out.trans (c3.mono d2.out.size)
    have p0 := (cell_of_row w3 _ 0 _ _ _ B1').trans (show _ = some (Value.int .i64 x) from rfl)
    have p1 := (cell_of_row w3 _ 1 _ _ _ B1').trans (show _ = some (Value.int .i64 y) from rfl)
    have p2 := (cell_of_row w3 _ 2 _ _ _ B1').trans (show _ = some (Value.int .i64 z) from rfl)
    have q0 := (cell_of_row w3 _ 0 _ _ _ B0').trans (show _ = some (Value.int .i64 0) from rfl)
    have q1 := (cell_of_row w3 _ 1 _ _ _ B0').trans (show _ = some (Value.int .i64 0) from rfl)
    have q2 := (cell_of_row w3 _ 2 _ _ _ B0').trans (show _ = some (Value.int .i64 0) from rfl)
    have f0 := frozen_of_row w3 _ 0 _ _ B0'
    have f1 := frozen_of_row w3 _ 1 _ _ B0'
    have f2 := frozen_of_row w3 _ 2 _ _ B0'
    have D := Lib.hid (((d3.setCell (p := ⟨w.heap.size, 0, none⟩) (Nat.le_refl _) (.int .i64 x)).setCell (p := ⟨w.heap.size, 1, none⟩) (Nat.le_refl _) (.int .i64 y)).setCell (p := ⟨w.heap.size, 2, none⟩) (Nat.le_refl _) (.int .i64 z))
    have r := heap_setCell_same _ w.heap.size 2 _ _ (.int .i64 z) (heap_setCell_same _ w.heap.size 1 _ _ (.int .i64 y) (heap_setCell_same w3 w.heap.size 0 _ _ (.int .i64 x) B0'))
    simp at r
    have e0 := (cell_of_row _ w.heap.size 0 _ _ _ r).trans (show _ = some (Value.int .i64 x) from rfl)
    have e1 := (cell_of_row _ w.heap.size 1 _ _ _ r).trans (show _ = some (Value.int .i64 y) from rfl)
    have e2 := (cell_of_row _ w.heap.size 2 _ _ _ r).trans (show _ = some (Value.int .i64 z) from rfl)
    clear r d3 c3 B0' B1' hal
    go_wp2
    refine bodyPost_ret (v := .tuple #[.agg #[.int .i64 x, .int .i64 y, .int .i64 z], .bool true]) ?_ rfl ?_
    ·
     simp [results, Tryz.f130, go_sem, e0, e1, e2]
    ·
     have he := HE.out
     subst he
     exact ⟨Or.inl ⟨HIN.out, rfl⟩, D.out⟩
   ·
    rw [decide_eq_false he] at HQ
    have HA := Lib.hid (HST.out he)
    clear he HST
    go_wp2_with fail
    generalize wr.alloc (.cells #[.int .i64 x, .int .i64 y, .int .i64 z] 168) = W2 at *
    have d2 := Lib.hid (d.out.trans (hal.mono d.out.size))
    refine (HQ.out W2 (ints_three B1.out) (ints_below H.out d2.out)).mono ?_
    rintro e w3 ⟨rfl, c3⟩
    have B0' := Lib.hid ((c3.block w.heap.size (by have := Y0.out; have := hal.size; omega)).trans ((hal.block w.heap.size Y0.out).trans B0.out))
    have d3 := Lib.hid (d2.out.trans (c3.mono d2.out.size))
    have Y3 : Hid (w.heap.size < w3.heap.size) := Lib.hid (by have := Y0.out; have := hal.size; have := c3.size; omega)
    clear c3 hal B1 hI
    go_wp2
    go_roundw
    case rel => exact ⟨k + 1, by omega, by go_num, HA, B0', d3, Y3⟩
    case measure => simp [intOf]; omega
  ·
   obtain rfl : k = 6 := by omega
   have HF := Lib.hid (order_all6 hno.out)
   clear hno
   have q0 := (cell_of_row wr _ 0 _ _ _ B0.out).trans (show _ = some (Value.int .i64 0) from rfl)
   have q1 := (cell_of_row wr _ 1 _ _ _ B0.out).trans (show _ = some (Value.int .i64 0) from rfl)
   have q2 := (cell_of_row wr _ 2 _ _ _ B0.out).trans (show _ = some (Value.int .i64 0) from rfl)
   have f0 := frozen_of_row wr _ 0 _ _ B0.out
   have f1 := frozen_of_row wr _ 1 _ _ B0.out
   have f2 := frozen_of_row wr _ 2 _ _ B0.out
   have D := Lib.hid (((d.out.setCell (p := ⟨w.heap.size, 0, none⟩) (Nat.le_refl _) (.int .i64 0)).setCell (p := ⟨w.heap.size, 1, none⟩) (Nat.le_refl _) (.int .i64 0)).setCell (p := ⟨w.heap.size, 2, none⟩) (Nat.le_refl _) (.int .i64 0))
   have r := heap_setCell_same _ w.heap.size 2 _ _ (.int .i64 0) (heap_setCell_same _ w.heap.size 1 _ _ (.int .i64 0) (heap_setCell_same wr w.heap.size 0 _ _ (.int .i64 0) B0.out))
   simp at r
   have e0 := (cell_of_row _ w.heap.size 0 _ _ _ r).trans (show _ = some (Value.int .i64 0) from rfl)
   have e1 := (cell_of_row _ w.heap.size 1 _ _ _ r).trans (show _ = some (Value.int .i64 0) from rfl)
   have e2 := (cell_of_row _ w.heap.size 2 _ _ _ r).trans (show _ = some (Value.int .i64 0) from rfl)
   clear r
   go_wp2
   refine bodyPost_ret (v := .tuple #[.agg #[.int .i64 0, .int .i64 0, .int .i64 0], .bool false]) ?_ rfl ?_
   ·
    simp [results, Tryz.f130, go_sem, e0, e1, e2]
   ·
    exact ⟨Or.inr ⟨HF.out, rfl⟩, D.out⟩
end Go.Proofs.YtnepfacnmaoieaaGreatDoor
namespace Go.Proofs.YtnepfacnmaoieaaGreatDoor
open Go.RowKit
set_option linter.unusedVariables false
set_option linter.unusedSimpArgs false
set_option maxHeartbeats 16000000 in
theorem implIsEngine (now cu st : Int) (sv ov av dv lv : Value) (ss : List (List VerD)) (os : List Int) (qs : List ActD) (ds : List FinD) (ls : List ChargeD) (w : World) (hT : OrdT w)
  (h0 : SlR tVersionS w sv ss) (h3 : SlR tInt w ov os) (h4 : SlR tActive w av qs) (h5 : SlR tFinished w dv ds) (h6 : SlR tCharge w lv ls) (hs : zL tVersionS ss + zL tInt os + zL tActive qs + zL tFinished ds + zL tCharge ls ≤ 1048576) :
  Calls Tryz.prog 61 #[.agg #[sv, .int .i64 now, .int .i64 cu, ov, av, dv, lv, .int .i64 st]] w (fun e w' => e = .returned (.bool (engB ((ss, now), cu, os, qs, ds, ls, st))) ∧ Below w.heap.size w w') := by
 have S0 : Hid (zL tVersionS ss ≤ 1048576) := zh (by omega)
 have S3 : Hid (zL tInt os ≤ 1048576) := zh (by omega)
 have S4 : Hid (zL tActive qs ≤ 1048576) := zh (by omega)
 have S5 : Hid (zL tFinished ds ≤ 1048576) := zh (by omega)
 have S6 : Hid (zL tCharge ls ≤ 1048576) := zh (by omega)
 clear hs
 obtain ⟨sa, sc, rfl⟩ := slR_len h0
 have H0 := zh h0
 obtain ⟨oa, oc, rfl⟩ := slR_len h3
 have H3 := zh h3
 obtain ⟨aa, ac, rfl⟩ := slR_len h4
 have H4 := zh h4
 obtain ⟨da, dc, rfl⟩ := slR_len h5
 have H5 := zh h5
 obtain ⟨la, lc, rfl⟩ := slR_len h6
 have H6 := zh h6
 have N0 := zL_len S0.out; have N3 := zL_len S3.out; have N4 := zL_len S4.out; have N5 := zL_len S5.out; have N6 := zL_len S6.out
 have HTB := zh hT
 clear h0 h3 h4 h5 h6 hT
 have d := zh (show Below w.heap.size w (w.alloc (.cells #[.slice sa ss.length sc, .int .i64 now, .int .i64 cu, .slice oa os.length oc, .slice aa qs.length ac, .slice da ds.length dc, .slice la ls.length lc, .int .i64 st] 40)) from ((Below.refl _ w).alloc (Nat.le_refl _) _))
 have B0 : Hid ((w.alloc (.cells #[.slice sa ss.length sc, .int .i64 now, .int .i64 cu, .slice oa os.length oc, .slice aa qs.length ac, .slice da ds.length dc, .slice la ls.length lc, .int .i64 st] 40)).heap[w.heap.size]? = some (.cells #[.slice sa ss.length sc, .int .i64 now, .int .i64 cu, .slice oa os.length oc, .slice aa qs.length ac, .slice da ds.length dc, .slice la ls.length lc, .int .i64 st] 40 (0, 0))) := zh (by
  exact heap_alloc_new w _)
 have YW : Hid (w.heap.size + 1 ≤ (w.alloc (.cells #[.slice sa ss.length sc, .int .i64 now, .int .i64 cu, .slice oa os.length oc, .slice aa qs.length ac, .slice da ds.length dc, .slice la ls.length lc, .int .i64 st] 40)).heap.size) := zh (by simp [World.size_alloc])
 go_enter Tryz.func61, Tryz.ntmps61
 go_wp2_with fail
 generalize (w.alloc (.cells #[.slice sa ss.length sc, .int .i64 now, .int .i64 cu, .slice oa os.length oc, .slice aa qs.length ac, .slice da ds.length dc, .slice la ls.length lc, .int .i64 st] 40)) = W at *
 have HO := zh (implOrderOf (.slice oa os.length oc) os W (slR_ints (slR_below tInt_law H3.out d.out)) N3 (HTB.out.on d.out))
 refine HO.out.mono ?_
 rintro e W1 ⟨hor, c⟩
 replace B0 := zb c B0
 replace d := zD d c
 have Z_W1 := zh (show W.heap.size ≤ W1.heap.size from c.size)
 clear c HO
 have HX : Hid (∃ z0 z1 z2 : Int, e = .returned (.tuple #[.agg #[.int .i64 z0, .int .i64 z1, .int .i64 z2], .bool (orderB os)])) := zh (by
  rcases hor with ⟨g, rfl⟩ | ⟨g, rfl⟩
  ·
   rw [g]; exact ⟨_, _, _, rfl⟩
  ·
   rw [g]; exact ⟨_, _, _, rfl⟩)
 obtain ⟨z0, z1, z2, rfl⟩ := HX.out
 clear HX hor
 have cp_B0_0 := cls8 B0.out
 have cal : Below W1.heap.size W1 (W1.alloc (.cells #[.int .i64 z0, .int .i64 z1, .int .i64 z2] 168)) := (Below.refl _ _).alloc (Nat.le_refl _) _
 have KB0 := zh ((cal.block w.heap.size (Array.getElem?_eq_some_iff.1 B0.out).1).trans B0.out)
 have k0 := cr 0 (Value.slice sa ss.length sc) KB0.out
 have k1 := cr 1 (Value.int .i64 now) KB0.out
 have k2 := cr 2 (Value.int .i64 cu) KB0.out
 have k3 := cr 3 (Value.slice oa os.length oc) KB0.out
 have k4 := cr 4 (Value.slice aa qs.length ac) KB0.out
 have k5 := cr 5 (Value.slice da ds.length dc) KB0.out
 have k6 := cr 6 (Value.slice la ls.length lc) KB0.out
 have k7 := cr 7 (Value.int .i64 st) KB0.out
 go_wp2_with fail
 clear cp_B0_0 k0 k1 k2 k3 k4 k5 k6 k7 KB0
 generalize hWq : (W1.alloc (.cells #[.int .i64 z0, .int .i64 z1, .int .i64 z2] 168)) = Wq at *
 clear hWq
 replace B0 := zb cal B0
 replace d := zD d cal
 have Z_Wq := zh (show W1.heap.size ≤ Wq.heap.size from cal.size)
 clear cal
 refine (implIsStore (.slice sa ss.length sc) ss now Wq (slR_below tVersionS_law H0.out d.out) S0.out).mono ?_
 rintro e W2 ⟨rfl, c⟩
 replace B0 := zb c B0
 replace d := zD d c
 have Z_W2 := zh (show Wq.heap.size ≤ W2.heap.size from c.size)
 clear c
 rcases Bool.eq_false_or_eq_true (storeB ss now) with hst | hst
 rotate_left
 ·
  rw [hst]
  have HF := zh (eng_no1 (e := ((ss, now), cu, os, qs, ds, ls, st)) hst)
  clear hst
  have cp_B0_0 := cls8 B0.out
  go_wp2
  clear cp_B0_0
  go_ret
  exact ⟨ret_b HF.out.symm, d.out⟩
 rw [hst]
 have HST := zh hst
 clear hst
 have cp_B0_0 := cls8 B0.out
 go_wp2_with fail
 clear cp_B0_0
 refine (hasSegment_any sa ss.length sc now cu W2 N0).mono ?_
 rintro e W1 ⟨rfl, c⟩
 replace B0 := zb c B0
 replace d := zD d c
 have Z_W1 := zh (show W2.heap.size ≤ W1.heap.size from c.size)
 clear c
 rcases Bool.eq_false_or_eq_true (decide (0 ≤ cu ∧ cu < (ss.length : Int))) with hcu | hcu
 rotate_left
 ·
  rw [hcu]
  have HF := zh (eng_no2 (e := ((ss, now), cu, os, qs, ds, ls, st)) (fun g => of_decide_eq_false hcu g.1))
  clear hcu
  have cp_B0_0 := cls8 B0.out
  go_wp2
  clear cp_B0_0
  go_ret
  exact ⟨ret_b HF.out.symm, d.out⟩
 rw [hcu]
 have HCU := zh hcu
 clear hcu
 rcases Bool.eq_false_or_eq_true (orderB os) with hor | hor
 rotate_left
 ·
  rw [hor]
  have HF := zh (eng_no3 (e := ((ss, now), cu, os, qs, ds, ls, st)) hor)
  clear hor
  have cp_B0_0 := cls8 B0.out
  go_wp2
  clear cp_B0_0
  go_ret
  exact ⟨ret_b HF.out.symm, d.out⟩
 rw [hor]
 have HOR := zh hor
 clear hor
 have cp_B0_0 := cls8 B0.out
 go_wp2_with fail
 clear cp_B0_0
 refine (isTime_any st _).mono ?_
 rintro e wx ⟨rfl, hwx⟩
 obtain rfl := hwx.symm
 rcases Bool.eq_false_or_eq_true (decide (0 ≤ st ∧ st ≤ 100000)) with hti | hti
 rotate_left
 ·
  rw [hti]
  have HF := zh (eng_no2 (e := ((ss, now), cu, os, qs, ds, ls, st)) (fun g => of_decide_eq_false hti g.2.2.1))
  clear hti
  have cp_B0_0 := cls8 B0.out
  go_wp2
  clear cp_B0_0
  go_ret
  exact ⟨ret_b HF.out.symm, d.out⟩
 rw [hti]
 have HTI := zh hti
 clear hti
 have cp_B0_0 := cls8 B0.out
 go_wp2_with fail
 clear cp_B0_0
 refine (areValid_act (.slice aa qs.length ac) qs sa sc ss now W1 (slR_below tActive_law H4.out d.out) S4.out N0).mono ?_
 rintro e W2 ⟨rfl, c⟩
 replace B0 := zb c B0
 replace d := zD d c
 have Z_W2 := zh (show W1.heap.size ≤ W2.heap.size from c.size)
 clear c
 rcases Bool.eq_false_or_eq_true (decide (qs.length ≤ 8) && actsB (ss, now) qs) with hva | hva
 rotate_left
 ·
  rw [hva]
  have HF := zh ((by
    rcases Bool.eq_false_or_eq_true (decide (qs.length ≤ 8)) with q | q
    ·
     rw [q, Bool.true_and] at hva; exact eng_no4 (e := ((ss, now), cu, os, qs, ds, ls, st)) hva
    ·
     exact eng_no2 (e := ((ss, now), cu, os, qs, ds, ls, st)) (fun g => of_decide_eq_false q g.2.1)))
  clear hva
  have cp_B0_0 := cls8 B0.out
  go_wp2
  clear cp_B0_0
  go_ret
  exact ⟨ret_b HF.out.symm, d.out⟩
 rw [hva]
 have HVA := zh hva
 clear hva
 have cp_B0_0 := cls8 B0.out
 go_wp2_with fail
 clear cp_B0_0
 refine (areFinished_any (.slice da ds.length dc) ds now W2 (slR_below tFinished_law H5.out d.out) S5.out).mono ?_
 rintro e W3 ⟨rfl, c⟩
 replace B0 := zb c B0
 replace d := zD d c
 have Z_W3 := zh (show W2.heap.size ≤ W3.heap.size from c.size)
 clear c
 rcases Bool.eq_false_or_eq_true (decide (ds.length ≤ 1000) && ds.all (finB now)) with hfi | hfi
 rotate_left
 ·
  rw [hfi]
  have HF := zh ((by
    rcases Bool.eq_false_or_eq_true (decide (ds.length ≤ 1000)) with q | q
    ·
     rw [q, Bool.true_and] at hfi; exact eng_no5 (e := ((ss, now), cu, os, qs, ds, ls, st)) hfi
    ·
     exact eng_no2 (e := ((ss, now), cu, os, qs, ds, ls, st)) (fun g => of_decide_eq_false q g.2.2.2.1)))
  clear hfi
  have cp_B0_0 := cls8 B0.out
  go_wp2
  clear cp_B0_0
  go_ret
  exact ⟨ret_b HF.out.symm, d.out⟩
 rw [hfi]
 have HFI := zh hfi
 clear hfi
 by_cases hp3 : ls.length ≤ 1000
 rotate_left
 ·
  have HF := zh (eng_no2 (e := ((ss, now), cu, os, qs, ds, ls, st)) (fun g => hp3 g.2.2.2.2))
  have f3 : decide ((ls.length : Int) ≤ 1000) = false := decide_eq_false (by omega)
  clear hp3
  have cp_B0_0 := cls8 B0.out
  go_wp2
  clear cp_B0_0
  go_ret
  exact ⟨ret_b HF.out.symm, d.out⟩
 have f3 : decide ((ls.length : Int) ≤ 1000) = true := decide_eq_true (by omega)
 have HP3 := zh hp3
 clear hp3
 have cp_B0_0 := cls8 B0.out
 go_wp2_with fail
 clear cp_B0_0 f3
 refine (allCharge (.slice la ls.length lc) ls W3 (slR_below tCharge_law H6.out d.out) S6.out).mono ?_
 rintro e W9 ⟨rfl, c⟩
 replace B0 := zb c B0
 replace d := zD d c
 have Z_W9 := zh (show W3.heap.size ≤ W9.heap.size from c.size)
 clear c
 have HT : Hid (ls.all chargeB = engB ((ss, now), cu, os, qs, ds, ls, st)) := zh (by
  have v1 := HVA.out
  have v2 := HFI.out
  simp only [Bool.and_eq_true, decide_eq_true_eq] at v1 v2
  rcases Bool.eq_false_or_eq_true (ls.all chargeB) with g | g
  ·
   rw [g]; exact (eng_yes (e := ((ss, now), cu, os, qs, ds, ls, st)) HST.out ⟨of_decide_eq_true HCU.out, v1.1, of_decide_eq_true HTI.out, v2.1, HP3.out⟩ HOR.out v1.2 v2.2 g).symm
  ·
   rw [g]; exact (eng_no6 (e := ((ss, now), cu, os, qs, ds, ls, st)) g).symm)
 rw [HT.out]
 have cp_B0_0 := cls8 B0.out
 go_wp2
 clear cp_B0_0
 go_ret
 exact ⟨rfl, d.out⟩
end Go.Proofs.YtnepfacnmaoieaaGreatDoor
namespace Go.Proofs.YtnepfacnmaoieaaGreatDoor
open Go.RowKit Go.Shelf
attribute [local go_sem] Oper.semAt_some
set_option linter.unusedVariables false
set_option linter.unusedSimpArgs false
theorem backCall (a : Option Addr) (n c : Nat) (w : World) : Calls Tryz.prog 80 #[.slice a n c] w fun e w' => e = .returned (.func (.func 151) #[] #[.pointer (some ⟨w.heap.size, 0, none⟩)]) ∧ w' = w.alloc (.cells #[.slice a n c] 37) := by
 go_enter Tryz.func80, Tryz.ntmps80
 go_wp2
 go_ret
 exact ⟨rfl, rfl⟩
theorem slR_all {α : Type} {T : Ty α} {w : World} {v : Value} {xs : List α} (h : SlR T w v xs) : ∃ (a : Option Addr) (cap b off : Nat) (L : Nat → List Value), v = .slice a xs.length cap ∧ (0 < xs.length → a = some ⟨b, off, none⟩) ∧ (0 < xs.length → b < w.heap.size) ∧ ∀ j, j < xs.length → T.R w (L j) (xs.getD j T.d) ∧ ∀ i, i < T.n → w.cell? ⟨b, off + j * T.n + i, none⟩ = (L j)[i]? := by
 rcases h with ⟨rfl, h2⟩ | ⟨b, off, cap, us, h1, h2, h3, h4⟩
 ·
  obtain ⟨a, cap, hv⟩ := h2
  exact ⟨a, cap, 0, 0, fun _ => [], hv, by simp, by simp, by simp⟩
 ·
  exact ⟨_, cap, b, off, us, h1, fun _ => rfl, fun _ => h3, fun j hj => ⟨(h4 j hj).2, (h4 j hj).1⟩⟩
theorem keeps_turn {W W' : World} {b B : Nat} (t : Turn (fun x => x = b) W W') (h : isC W b) : KeepsFrom B W W' :=
 ⟨t.size, fun k o _ hk hc => by
  by_cases q : k = b
  ·
   obtain ⟨c, tt, f, hx⟩ := h
   rw [← q, hk] at hx
   cases hx
   simp [Obj.isCells] at hc
  ·
   exact (t.block k (Array.getElem?_eq_some_iff.1 hk).1 q).trans hk⟩
theorem keeps_below {W W' : World} {B : Nat} (c : Below W.heap.size W W') : KeepsFrom B W W' :=
 ⟨c.size, fun k o _ hk _ => (c.block k (Array.getElem?_eq_some_iff.1 hk).1).trans hk⟩
theorem resTo_up {id : Int} {l : List FinD} {k : Nat} : ∀ m, k ≤ m → m ≤ l.length → (∀ i, k ≤ i → i < m → ¬ (l.getD i f0D).1.1 = id) → resTo id l m = resTo id l k
 | 0, h, _, _ => by rw [show k = 0 by omega]
 | m + 1, h, hm, hn => by
  by_cases e : k = m + 1
  ·
   rw [e]
  ·
   rw [resTo_miss (by omega) (hn m (by omega) (by omega))]
   exact resTo_up m (by omega) (by omega) (fun i a b => hn i a (by omega))
theorem dn_mem {n k i : Nat} (h : i < n) (hk : k ≤ i) : (⟨i, h⟩ : Fin n) ∈ dnTo n k := by
 rw [dnTo_step (by omega)]
 by_cases e : i = k
 ·
  subst e; simp
 ·
  exact List.mem_append.2 (Or.inl (dn_mem h (by omega)))
termination_by n - k
theorem tFinished_cel : tFinished.Cel := (tPair_cel (tPair_cel tInt_cel (tPair_cel tInt_cel (tPair_cel (tSl_cel (tPair_cel tInt_cel (tPair_cel tInt_cel tInt_cel)) _) (tSl_cel tInt_cel _)))) (tPair_cel tInt_cel (tPair_cel tInt_cel (tSl_cel (tPair_cel tInt_cel (tSl_cel tInt_cel _)) _))))
set_option maxHeartbeats 16000000 in
theorem implResultOf (now cu st : Int) (sv ov av dv lv : Value) (ss : List (List VerD)) (os : List Int) (qs : List ActD) (ds : List FinD) (ls : List ChargeD) (id : Int) (w : World) (hT : OrdT w)
  (h0 : SlR tVersionS w sv ss) (h3 : SlR tInt w ov os) (h4 : SlR tActive w av qs) (h5 : SlR tFinished w dv ds) (h6 : SlR tCharge w lv ls) (hs : zL tVersionS ss + zL tInt os + zL tActive qs + zL tFinished ds + zL tCharge ls ≤ 1048576) :
  Calls Tryz.prog 26 #[.agg #[sv, .int .i64 now, .int .i64 cu, ov, av, dv, lv, .int .i64 st], .int .i64 id] w (fun e w' => ∃ (g0 : List Value) (G0 : Nat → Prop), e = .returned (.tuple #[.agg g0.toArray, .bool (resE ((ss, now), cu, os, qs, ds, ls, st) id).2]) ∧ tFinished.O w' G0 g0 (resE ((ss, now), cu, os, qs, ds, ls, st) id).1 ∧ (∀ b, G0 b → w.heap.size ≤ b) ∧ Below w.heap.size w w') := by
 have S0 : Hid (zL tVersionS ss ≤ 1048576) := zh (by omega)
 have S3 : Hid (zL tInt os ≤ 1048576) := zh (by omega)
 have S4 : Hid (zL tActive qs ≤ 1048576) := zh (by omega)
 have S5 : Hid (zL tFinished ds ≤ 1048576) := zh (by omega)
 have S6 : Hid (zL tCharge ls ≤ 1048576) := zh (by omega)
 have HS := zh hs
 clear hs
 obtain ⟨e0, n0, rfl⟩ := slR_len h0
 have H0 := zh h0
 obtain ⟨e3, n3, rfl⟩ := slR_len h3
 have H3 := zh h3
 obtain ⟨e4, n4, rfl⟩ := slR_len h4
 have H4 := zh h4
 obtain ⟨e5, n5, rfl⟩ := slR_len h5
 have H5 := zh h5
 obtain ⟨e6, n6, rfl⟩ := slR_len h6
 have H6 := zh h6
 clear h0 h3 h4 h5 h6
 have N5 := zL_len S5.out
 have HTB := zh hT
 clear hT
 have SP : Hid (StC w [iB (w.heap.size + 1 + 1 + 1) [.bool false] 4, iB (w.heap.size + 1 + 1) [.int .i64 0, .int .i64 0, .slice none 0 0, .slice none 0 0, .int .i64 0, .int .i64 0, .slice none 0 0] 59, iB (w.heap.size + 1) [.int .i64 id] 3, iB w.heap.size [.slice e0 ss.length n0, .int .i64 now, .int .i64 cu, .slice e3 os.length n3, .slice e4 qs.length n4, .slice e5 ds.length n5, .slice e6 ls.length n6, .int .i64 st] 40] ((((w.alloc (.cells #[.slice e0 ss.length n0, .int .i64 now, .int .i64 cu, .slice e3 os.length n3, .slice e4 qs.length n4, .slice e5 ds.length n5, .slice e6 ls.length n6, .int .i64 st] 40)).alloc (.cells #[.int .i64 id] 3)).alloc (.cells #[.int .i64 0, .int .i64 0, .slice none 0 0, .slice none 0 0, .int .i64 0, .int .i64 0, .slice none 0 0] 59)).alloc (.cells #[.bool false] 4))) := zh (by have := ((((StC.init w).box [.slice e0 ss.length n0, .int .i64 now, .int .i64 cu, .slice e3 os.length n3, .slice e4 qs.length n4, .slice e5 ds.length n5, .slice e6 ls.length n6, .int .i64 st] 40).box [.int .i64 id] 3).box [.int .i64 0, .int .i64 0, .slice none 0 0, .slice none 0 0, .int .i64 0, .int .i64 0, .slice none 0 0] 59).box [.bool false] 4; simpa only [World.size_alloc] using this)
 have HI := implIsEngine now cu st (.slice e0 ss.length n0) (.slice e3 os.length n3) (.slice e4 qs.length n4) (.slice e5 ds.length n5) (.slice e6 ls.length n6) ss os qs ds ls ((((w.alloc (.cells #[.slice e0 ss.length n0, .int .i64 now, .int .i64 cu, .slice e3 os.length n3, .slice e4 qs.length n4, .slice e5 ds.length n5, .slice e6 ls.length n6, .int .i64 st] 40)).alloc (.cells #[.int .i64 id] 3)).alloc (.cells #[.int .i64 0, .int .i64 0, .slice none 0 0, .slice none 0 0, .int .i64 0, .int .i64 0, .slice none 0 0] 59)).alloc (.cells #[.bool false] 4)) (HTB.out.on SP.out.1.d) (slR_below tVersionS_law H0.out SP.out.1.d) (slR_below tInt_law H3.out SP.out.1.d) (slR_below tActive_law H4.out SP.out.1.d) (slR_below tFinished_law H5.out SP.out.1.d) (slR_below tCharge_law H6.out SP.out.1.d) HS.out
 refine (callsIn_wide (n := 5)).1 ?_
 refine callsIn_of_wp_marks Tryz.func26 rfl trivial ?_
 simp only [Tryz.ntmps26, List.size_toArray, List.length_cons, List.length_nil, Nat.reduceAdd, Nat.reduceSub, Array.replicate_succ, Array.replicate_zero, List.push_toArray, List.append_toArray, List.nil_append, List.cons_append]
 have ld := cell8 (SP.out.1.gB 3 rfl)
 rcases Bool.eq_false_or_eq_true (engB ((ss, now), cu, os, qs, ds, ls, st)) with he | he
 rotate_left
 ·
  rw [he] at HI
  have HR := zh (resE_no (id := id) he)
  clear he
  gi_wp2_with (refine ⟨trivial, ?_⟩; gi_at_call 61; refine (callsIn_wide.2 HI).mono ?_; rintro e W1 ⟨rfl, c⟩; clear ld HI; replace SP := zh (SP.out.below c); clear c; have lf_ := cell7 (SP.out.1.gB 1 rfl); have fz_ := froz7 (SP.out.1.gB 1 rfl); have lb_ := SP.out.1.cell 0 rfl 0 rfl; have fb_ := SP.out.1.froz 0 rfl 0)
  clear lf_ fz_ lb_ fb_
  rw [setCells7 (SP.out.1.gB 1 rfl)]
  have SR := zh (SP.out.store 1 rfl [.int .i64 0, .int .i64 0, .slice none 0 0, .slice none 0 0, .int .i64 0, .int .i64 0, .slice none 0 0])
  have e := setCell_box (SR.out.1.gB 0 rfl) 0 (.bool false)
  simp only [List.setIfInBounds_toArray, List.set_cons_zero] at e
  rw [e]
  clear e
  replace SR := zh (SR.out.store 0 rfl [.bool false])
  have lr := cell7 (SR.out.1.gB 1 rfl)
  have lb := SR.out.1.cell 0 rfl 0 rfl
  refine ⟨.tuple #[.agg #[.int .i64 0, .int .i64 0, .slice none 0 0, .slice none 0 0, .int .i64 0, .int .i64 0, .slice none 0 0], .bool false], ?_, ?_⟩
  ·
   simp [results, Tryz.f26, go_sem, lr, lb]
  rw [HR.out]
  exact ⟨[.int .i64 0, .int .i64 0, .slice none 0 0, .slice none 0 0, .int .i64 0, .int .i64 0, .slice none 0 0], fun _ => False, rfl, tFinished_zero _, fun _ h => h.elim, SR.out.1.d⟩
 ·
  rw [he] at HI
  have HE := zh he
  clear he
  gi_wp2_with (first | (refine ⟨trivial, ?_⟩; gi_at_call 61; refine (callsIn_wide.2 HI).mono ?_; rintro e W1 ⟨rfl, c⟩; clear ld HI; replace SP := zh (SP.out.below c); clear c; have ld := cell8 (SP.out.1.gB 3 rfl)) | (refine ⟨trivial, ?_⟩; gi_at_call 80; refine (callsIn_wide.2 (backCall _ _ _ _)).mono ?_; rintro e W2 ⟨rfl, rfl⟩))
  have bS := Boxed.new W1 37 (.slice e5 ds.length n5)
  have SQ := zh (SP.out.below ((Below.refl W1.heap.size W1).alloc (Nat.le_refl _) (.cells #[.slice e5 ds.length n5] 37)))
  obtain ⟨W2, hW2⟩ : ∃ W2, W1.alloc (.cells #[.slice e5 ds.length n5] 37) = W2 := ⟨_, rfl⟩
  rw [hW2] at bS SQ ⊢
  clear hW2 ld SP
  generalize W1.heap.size = Bs at *
  obtain ⟨a5, c5, b, off, L, hv, ha, hbl, hc⟩ := slR_all (slR_below tFinished_law H5.out SQ.out.1.d)
  simp only [Value.slice.injEq] at hv
  obtain ⟨rfl, _, rfl⟩ := hv
  have h7 : ∀ j, j < ds.length → (L j).length = 7 := fun j hj => tFinished_law.len (hc j hj).1
  have hle := SQ.out.1.d.size
  refine wpIn_rangeFunc_ownH rfl (by decide) (gf := 151) (lb := #[.pointer (some ⟨Bs, 0, none⟩)]) rfl trivial (enters_of Tryz.func151 (by kernel_rfl) rfl) (backStops 4 W2 Bs b off ds.length n5 e5 L (by decide) bS N5 ha hbl (fun j hj => ⟨h7 j hj, (hc j hj).2⟩)) belowK_t (belowK_b (Nat.le_refl _)) (Below.refl _ _) (fun _ => rfl)
   (fun pre W => (∀ j ∈ pre, ¬ (ds.getD j f0D).1.1 = id) ∧ (StC w [iB (w.heap.size + 1 + 1 + 1) [.bool false] 4, iB (w.heap.size + 1 + 1) [.int .i64 0, .int .i64 0, .slice none 0 0, .slice none 0 0, .int .i64 0, .int .i64 0, .slice none 0 0] 59, iB (w.heap.size + 1) [.int .i64 id] 3, iB w.heap.size [.slice e0 ss.length n0, .int .i64 now, .int .i64 cu, .slice e3 os.length n3, .slice e4 qs.length n4, .slice e5 ds.length n5, .slice e6 ls.length n6, .int .i64 st] 40] W ∧ Below W2.heap.size W2 W))
   (fun c pre W => c = .ret ∧ ∃ (p : List (Fin ds.length)) (j : Fin ds.length) (gs : List Value) (FX : Nat → Prop), pre = p ++ [j] ∧ (∀ j ∈ p, ¬ (ds.getD j f0D).1.1 = id) ∧ (ds.getD j f0D).1.1 = id ∧ StC w [iT tFinished_law FX gs (ds.getD j f0D), iB (w.heap.size + 1 + 1 + 1) [.bool true] 4, iB (w.heap.size + 1 + 1) gs 59, iB (w.heap.size + 1) [.int .i64 id] 3, iB w.heap.size [.slice e0 ss.length n0, .int .i64 now, .int .i64 cu, .slice e3 os.length n3, .slice e4 qs.length n4, .slice e5 ds.length n5, .slice e6 ls.length n6, .int .i64 st] 40] W)
   (OwnFrom.and (ownFrom_pure _ _) (OwnFrom.and (stC_own hle (fun _ => [iB (w.heap.size + 1 + 1 + 1) [.bool false] 4, iB (w.heap.size + 1 + 1) [.int .i64 0, .int .i64 0, .slice none 0 0, .slice none 0 0, .int .i64 0, .int .i64 0, .slice none 0 0] 59, iB (w.heap.size + 1) [.int .i64 id] 3, iB w.heap.size [.slice e0 ss.length n0, .int .i64 now, .int .i64 cu, .slice e3 os.length n3, .slice e4 qs.length n4, .slice e5 ds.length n5, .slice e6 ls.length n6, .int .i64 st] 40])) (ownFrom_below (Nat.le_refl _) (Nat.le_refl _))))
   (fun c s X Y row hs hg hr => by obtain ⟨e, p, j, gs, FX, e1, e2, e3, h⟩ := hs; exact ⟨e, p, j, gs, FX, e1, e2, e3, h.grow hg (fun r q => ⟨Nat.le_trans hle (hr r q).1, (hr r q).2⟩)⟩)
   ⟨by simp, SQ.out, Below.refl _ _⟩
   (fun x a' W => ∃ Bx, W2.heap.size ≤ Bx ∧ W.heap[Bx]? = some (.cells (L x).toArray 59 (0, 0)) ∧ a' = { tmps := #[.agg #[.slice e0 ss.length n0, .int .i64 now, .int .i64 cu, .slice e3 os.length n3, .slice e4 qs.length n4, .slice e5 ds.length n5, .slice e6 ls.length n6, .int .i64 st], .int .i64 id, .pointer (some ⟨w.heap.size, 0, none⟩), .pointer (some ⟨w.heap.size + 1, 0, none⟩), .pointer (some ⟨w.heap.size + 1 + 1, 0, none⟩), .pointer (some ⟨w.heap.size + 1 + 1 + 1, 0, none⟩), undef, .pointer (some ⟨Bx, 0, none⟩), .agg #[.slice e0 ss.length n0, .int .i64 now, .int .i64 cu, .slice e3 os.length n3, .slice e4 qs.length n4, .slice e5 ds.length n5, .slice e6 ls.length n6, .int .i64 st], .bool true, .bool false, undef, .pointer (some ⟨w.heap.size, 5, none⟩), .slice e5 ds.length n5, .func (.func 151) #[] #[.pointer (some ⟨Bs, 0, none⟩)], .int .i64 ((x : Nat) : Int), .agg (L x).toArray, undef, undef, undef, undef, undef, undef, undef, undef], defers := [] })
   (fun x a' _ X Y row hs hg hr => by obtain ⟨Bx, e1, e2, e3⟩ := hs; exact ⟨Bx, e1, (hg.block Bx (Array.getElem?_eq_some_iff.1 e2).1 (fun e => by obtain ⟨_, o, ho, hc⟩ := hr Bx e.symm; rw [e2] at ho; cases ho; simp [Obj.isCells] at hc)).trans e2, e3⟩)
   ?assign ?body ?done ?stop
  case assign =>
   rintro l pre x W K ⟨hp, hS, hB⟩ hK
   obtain ⟨y0, y1, y2, y3, y4, y5, y6, hL⟩ := len7 (h7 x x.2)
   have hone := tFinished_one (hc x x.2).1
   rw [hL] at hone
   have hbx := heap_alloc_new W (.cells #[.int .i64 0, .int .i64 0, .slice none 0 0, .slice none 0 0, .int .i64 0, .int .i64 0, .slice none 0 0] 59)
   have st_ := rst7 (P := Tryz.prog) hbx hone
   have cb : Below W.heap.size W ((W.alloc (.cells #[.int .i64 0, .int .i64 0, .slice none 0 0, .slice none 0 0, .int .i64 0, .int .i64 0, .slice none 0 0] 59)).setRow W.heap.size #[y0, y1, y2, y3, y4, y5, y6]) := below_turn ((Below.refl _ _).alloc (Nat.le_refl _) _) (turn_row (b := W.heap.size) (c := #[y0, y1, y2, y3, y4, y5, y6])) (fun b hb => by rw [hb]; exact Nat.le_refl _) (by simp)
   have hx := setRow_heap _ W.heap.size _ #[y0, y1, y2, y3, y4, y5, y6] 59 (0, 0) hbx
   rw [hL]
   gi_wp2
   exact hK _ _ (keeps_below cb) (cb.mono hB.size) ⟨hp, hS.below cb, hB.trans (cb.mono hB.size)⟩ ⟨W.heap.size, hB.size, by rw [hL]; exact hx, by rw [hL]⟩
  case body =>
   rintro l pre x a' W hl ⟨r, hr⟩ ⟨hp, hS, hB⟩ ⟨Bx, hBx, hX, rfl⟩ hlt
   have hR := tFinished_law.below (hc x x.2).1 hB
   change tFinished.R W (L x) (ds.getD x f0D) at hR
   have hz : leFinished (ds.getD x f0D) := leFinished_of (zL_at S5.out x.2)
   obtain ⟨y0, y1, y2, y3, y4, y5, y6, hL⟩ := len7 (h7 x x.2)
   rw [hL] at hX hR ⊢
   have HC := copyK_Finished hR hz
   have lid := hS.1.cell 2 rfl 0 rfl
   have hy : y0 = .int .i64 (ds.getD x f0D).1.1 := by
    generalize ds.getD x f0D = d at *
    obtain ⟨⟨a0, a1, x2, x3⟩, a4, a5, x6⟩ := d
    obtain ⟨v2, v3, v6, hcs, g2, g3, g6⟩ := tFinished_R hR
    exact (List.cons.inj hcs).1
   obtain ⟨u, hu⟩ : ∃ u, (ds.getD x f0D).1.1 = u := ⟨_, rfl⟩
   rw [hu] at hy
   subst hy
   have HU := zh hu
   clear hu
   have lx := cell7 hX
   by_cases hid : u = id
   ·
    change Calls Tryz.prog 81 #[.agg #[.int .i64 u, y1, y2, y3, y4, y5, y6]] W _ at HC
    subst hid
    have HD := zh HU
    have e1 : (u == u) = true := by simp
    clear HU
    gi_wp2_with (refine ⟨trivial, ?_⟩; gi_at_call 81; refine (CallsIn.inRound l (callsIn_wide.2 HC)).mono ?_; rintro e V ⟨gs, rfl, o, c⟩; obtain ⟨g0, g1, g2, g3, g4, g5, g6, rfl⟩ := len7 (tFinished_law.len (tFinished_law.reads o)); obtain ⟨FX, SV⟩ := hS.push tFinished_cel tFinished_law c o (fun b h => h); have st_ := rst7 (P := Tryz.prog) (SV.1.gB 2 rfl) (tFinished_one (SV.1.rT 0 rfl)); have kc := c; clear lx lid HC o c; have SW := SV.store 2 rfl [g0, g1, g2, g3, g4, g5, g6]; have lb_ := SW.1.cell 1 rfl 0 rfl; have fb_ := SW.1.froz 1 rfl 0)
    have e := setCell_box (SW.1.gB 1 rfl) 0 (.bool true)
    simp only [List.setIfInBounds_toArray, List.set_cons_zero] at e
    rw [e]
    clear e
    exact ⟨(keeps_below kc).trans ((keeps_turn turn_row ⟨_, _, _, SV.1.gB 2 rfl⟩).trans (keeps_turn turn_row ⟨_, _, _, SW.1.gB 1 rfl⟩)), rfl, pre, x, [g0, g1, g2, g3, g4, g5, g6], FX, rfl, hp, HD.out.out, SW.store 1 rfl [.bool true]⟩
   ·
    have e1 : (u == id) = false := beq_eq_false_iff_ne.2 hid
    gi_wp2
    exact ⟨KeepsFrom.refl _ _, Below.refl _ _, ⟨fun z hz => (List.mem_append.1 hz).elim (hp z) (fun e => by rw [List.mem_singleton.1 e, HU.out]; exact hid), hS, hB⟩⟩
  case done =>
   rintro D zs W hD rfl ⟨hp, hS, hB⟩ hK
   have HR := zh (resE_none (id := id) HE.out ((resTo_up (id := id) (l := ds) (k := 0) ds.length (by omega) (by omega) (fun i _ hi => hp ⟨i, hi⟩ (dn_mem hi (by omega)))).trans (resTo_zero _ _)))
   clear hp
   have lf_ := cell7 (hS.1.gB 1 rfl)
   have fz_ := froz7 (hS.1.gB 1 rfl)
   have lb_ := hS.1.cell 0 rfl 0 rfl
   have fb_ := hS.1.froz 0 rfl 0
   gi_wp2
   clear lf_ fz_ lb_ fb_
   rw [setCells7 (hS.1.gB 1 rfl)]
   have SR := hS.store 1 rfl [.int .i64 0, .int .i64 0, .slice none 0 0, .slice none 0 0, .int .i64 0, .int .i64 0, .slice none 0 0]
   have e := setCell_box (SR.1.gB 0 rfl) 0 (.bool false)
   simp only [List.setIfInBounds_toArray, List.set_cons_zero] at e
   rw [e]
   clear e
   have SS := SR.store 0 rfl [.bool false]
   have hK2 := ((keeps_turn (B := W2.heap.size) turn_row ⟨_, _, _, hS.1.gB 1 rfl⟩).trans (keeps_turn (turn_row (c := #[.bool false])) ⟨_, _, _, SR.1.gB 0 rfl⟩)).same D _ hD hK rfl
   refine ⟨by simp, .inl ⟨_, _, rfl, run_takeDeferred hK2, ?_⟩⟩
   have SF := SS.grow (grownBy_putObj' _ D (.deferred none)) (fun r e => by cases e; exact ⟨Nat.le_trans hle hD, _, hK2, rfl⟩)
   have lr := cell7 (SF.1.gB 1 rfl)
   have lb := SF.1.cell 0 rfl 0 rfl
   refine ⟨.tuple #[.agg #[.int .i64 0, .int .i64 0, .slice none 0 0, .slice none 0 0, .int .i64 0, .int .i64 0, .slice none 0 0], .bool false], ?_, ?_⟩
   ·
    simp [results, Tryz.f26, go_sem, lr, lb]
   rw [HR.out]
   exact ⟨[.int .i64 0, .int .i64 0, .slice none 0 0, .slice none 0 0, .int .i64 0, .int .i64 0, .slice none 0 0], fun _ => False, rfl, tFinished_zero _, fun _ h => h.elim, SF.1.d⟩
  case stop =>
   rintro D c pre W hD ⟨k, hk, hpre⟩ ⟨rfl, p, j, gs, FX, rfl, e2, e3, hS⟩ hK
   rw [dnTo_step hk] at hpre
   obtain ⟨rfl, hj⟩ := List.append_inj' hpre rfl
   obtain rfl := (List.cons.inj hj).1
   have HR := zh (resE_hit (id := id) HE.out ((resTo_up (id := id) (l := ds) (k := k + 1) ds.length (by omega) (by omega) (fun i a hi => e2 ⟨i, hi⟩ (dn_mem hi a))).trans (resTo_hit hk e3)))
   clear e2 e3 hpre hj
   gi_wp2
   refine ⟨by simp, .inl ⟨_, _, rfl, run_takeDeferred hK, ?_⟩⟩
   have SF := hS.grow (grownBy_putObj' _ D (.deferred none)) (fun r e => by cases e; exact ⟨Nat.le_trans hle hD, _, hK, rfl⟩)
   obtain ⟨g0, g1, g2, g3, g4, g5, g6, rfl⟩ := len7 (tFinished_law.len (tFinished_law.reads (SF.1.gT 0 rfl)))
   have lr := cell7 (SF.1.gB 2 rfl)
   have lb := SF.1.cell 1 rfl 0 rfl
   refine ⟨.tuple #[.agg #[g0, g1, g2, g3, g4, g5, g6], .bool true], ?_, ?_⟩
   ·
    simp [results, Tryz.f26, go_sem, lr, lb]
   rw [HR.out]
   have OT := SF.1.outT 0 rfl
   first | exact ⟨[g0, g1, g2, g3, g4, g5, g6], rfl, _, OT, fun b h => h, SF.1.d⟩ | exact ⟨[g0, g1, g2, g3, g4, g5, g6], _, rfl, OT, fun b h => h, SF.1.d⟩
end Go.Proofs.YtnepfacnmaoieaaGreatDoor
