/-
 Texts of the proof, merged: OrdP, EngP4, AdmP, KptP.
-/
import Derived.Test.YtnepfacnmaoieaaGreatDoorPK3
import Derived.Test.YtnepfacnmaoieaaGreatDoorPK5
import Derived.Test.YtnepfacnmaoieaaGreatDoorPK9
import Derived.Test.YtnepfacnmaoieaaGreatDoorPK10
import Derived.Test.YtnepfacnmaoieaaGreatDoorPK11
import Derived.Test.YtnepfacnmaoieaaGreatDoorPK12
import Derived.Test.YtnepfacnmaoieaaGreatDoorPK13
import Derived.Test.YtnepfacnmaoieaaGreatDoorRows
import Derived.BigQuiet
import Derived.Deep.QuietTactic
import Derived.Deep.RegionHeld3
namespace Go.Proofs.YtnepfacnmaoieaaGreatDoor
open Go.RowKit
set_option maxRecDepth 100000
set_option linter.unusedVariables false
set_option linter.unusedSimpArgs false
def ordC : List Int := [0, 1, 2, 0, 2, 1, 1, 0, 2, 1, 2, 0, 2, 0, 1, 2, 1, 0]
/-- The table of orders reads as its text lays it. -/
def OrdT (w : World) : Prop := ∀ i, i < 18 → w.cell? ⟨2, i, none⟩ = some (.int .i64 (ordC.getD i 0))
theorem OrdT.on {w w' : World} (h : OrdT w) (hb : Below w.heap.size w w') : OrdT w' := by
 intro i hi
 have h1 := h i hi
 have hlt : 2 < w.heap.size := by
  cases hc : w.heap[2]? with
  | none => simp [World.cell?, hc] at h1
  | some x => exact (Array.getElem?_eq_some_iff.1 hc).1
 exact (hb.cell (p := ⟨2, i, none⟩) hlt).trans h1
/-- The k-th order's fields. -/
def oN (k j : Nat) : Int := (ordersL.getD k []).getD j 0
theorem oN_in {k : Nat} (h : k < 6) : orderB [oN k 0, oN k 1, oN k 2] = true := by
 rcases (show k = 0 ∨ k = 1 ∨ k = 2 ∨ k = 3 ∨ k = 4 ∨ k = 5 by omega) with rfl | rfl | rfl | rfl | rfl | rfl <;> decide
theorem order_all6 {os : List Int} (h : ∀ j, j < 6 → ¬ [oN j 0, oN j 1, oN j 2] = os) : orderB os = false := by
 cases hc : orderB os with
 | false => rfl
 | true =>
  have hm := order_in.1 hc
  simp only [ordersL, List.mem_cons, List.not_mem_nil, or_false] at hm
  rcases hm with rfl | rfl | rfl | rfl | rfl | rfl
  ·
   exact absurd rfl (h 0 (by omega))
  ·
   exact absurd rfl (h 1 (by omega))
  ·
   exact absurd rfl (h 2 (by omega))
  ·
   exact absurd rfl (h 3 (by omega))
  ·
   exact absurd rfl (h 4 (by omega))
  ·
   exact absurd rfl (h 5 (by omega))
theorem idxO0 (w : World) : Sem.run Tryz.prog (Instr.index 233 (.agg #[.int .i64 0, .int .i64 1, .int .i64 2, .int .i64 0, .int .i64 2, .int .i64 1, .int .i64 1, .int .i64 0, .int .i64 2, .int .i64 1, .int .i64 2, .int .i64 0, .int .i64 2, .int .i64 0, .int .i64 1, .int .i64 2, .int .i64 1, .int .i64 0]) (.int .i64 0)) w = .ok (.agg #[.int .i64 0, .int .i64 1, .int .i64 2]) w := by
 have u := Tryz.underlying233
 have z := Tryz.sizeOf168
 have g := Tryz.isAgg168
 unfold Instr.index
 go_simp
theorem idxO1 (w : World) : Sem.run Tryz.prog (Instr.index 233 (.agg #[.int .i64 0, .int .i64 1, .int .i64 2, .int .i64 0, .int .i64 2, .int .i64 1, .int .i64 1, .int .i64 0, .int .i64 2, .int .i64 1, .int .i64 2, .int .i64 0, .int .i64 2, .int .i64 0, .int .i64 1, .int .i64 2, .int .i64 1, .int .i64 0]) (.int .i64 1)) w = .ok (.agg #[.int .i64 0, .int .i64 2, .int .i64 1]) w := by
 have u := Tryz.underlying233
 have z := Tryz.sizeOf168
 have g := Tryz.isAgg168
 unfold Instr.index
 go_simp
theorem idxO2 (w : World) : Sem.run Tryz.prog (Instr.index 233 (.agg #[.int .i64 0, .int .i64 1, .int .i64 2, .int .i64 0, .int .i64 2, .int .i64 1, .int .i64 1, .int .i64 0, .int .i64 2, .int .i64 1, .int .i64 2, .int .i64 0, .int .i64 2, .int .i64 0, .int .i64 1, .int .i64 2, .int .i64 1, .int .i64 0]) (.int .i64 2)) w = .ok (.agg #[.int .i64 1, .int .i64 0, .int .i64 2]) w := by
 have u := Tryz.underlying233
 have z := Tryz.sizeOf168
 have g := Tryz.isAgg168
 unfold Instr.index
 go_simp
theorem idxO3 (w : World) : Sem.run Tryz.prog (Instr.index 233 (.agg #[.int .i64 0, .int .i64 1, .int .i64 2, .int .i64 0, .int .i64 2, .int .i64 1, .int .i64 1, .int .i64 0, .int .i64 2, .int .i64 1, .int .i64 2, .int .i64 0, .int .i64 2, .int .i64 0, .int .i64 1, .int .i64 2, .int .i64 1, .int .i64 0]) (.int .i64 3)) w = .ok (.agg #[.int .i64 1, .int .i64 2, .int .i64 0]) w := by
 have u := Tryz.underlying233
 have z := Tryz.sizeOf168
 have g := Tryz.isAgg168
 unfold Instr.index
 go_simp
theorem idxO4 (w : World) : Sem.run Tryz.prog (Instr.index 233 (.agg #[.int .i64 0, .int .i64 1, .int .i64 2, .int .i64 0, .int .i64 2, .int .i64 1, .int .i64 1, .int .i64 0, .int .i64 2, .int .i64 1, .int .i64 2, .int .i64 0, .int .i64 2, .int .i64 0, .int .i64 1, .int .i64 2, .int .i64 1, .int .i64 0]) (.int .i64 4)) w = .ok (.agg #[.int .i64 2, .int .i64 0, .int .i64 1]) w := by
 have u := Tryz.underlying233
 have z := Tryz.sizeOf168
 have g := Tryz.isAgg168
 unfold Instr.index
 go_simp
theorem idxO5 (w : World) : Sem.run Tryz.prog (Instr.index 233 (.agg #[.int .i64 0, .int .i64 1, .int .i64 2, .int .i64 0, .int .i64 2, .int .i64 1, .int .i64 1, .int .i64 0, .int .i64 2, .int .i64 1, .int .i64 2, .int .i64 0, .int .i64 2, .int .i64 0, .int .i64 1, .int .i64 2, .int .i64 1, .int .i64 0]) (.int .i64 5)) w = .ok (.agg #[.int .i64 2, .int .i64 1, .int .i64 0]) w := by
 have u := Tryz.underlying233
 have z := Tryz.sizeOf168
 have g := Tryz.isAgg168
 unfold Instr.index
 go_simp
theorem idxO {k : Nat} (h : k < 6) (w : World) : Sem.run Tryz.prog (Instr.index 233 (.agg #[.int .i64 0, .int .i64 1, .int .i64 2, .int .i64 0, .int .i64 2, .int .i64 1, .int .i64 1, .int .i64 0, .int .i64 2, .int .i64 1, .int .i64 2, .int .i64 0, .int .i64 2, .int .i64 0, .int .i64 1, .int .i64 2, .int .i64 1, .int .i64 0]) (.int .i64 (k : Int))) w = .ok (.agg #[.int .i64 (oN k 0), .int .i64 (oN k 1), .int .i64 (oN k 2)]) w := by
 rcases (show k = 0 ∨ k = 1 ∨ k = 2 ∨ k = 3 ∨ k = 4 ∨ k = 5 by omega) with rfl | rfl | rfl | rfl | rfl | rfl
 ·
  exact idxO0 w
 ·
  exact idxO1 w
 ·
  exact idxO2 w
 ·
  exact idxO3 w
 ·
  exact idxO4 w
 ·
  exact idxO5 w
theorem ints_three {w : World} {b : Nat} {x y z : Int} {t : TypeId} (h : w.heap[b]? = some (.cells #[.int .i64 x, .int .i64 y, .int .i64 z] t (0, 0))) : Ints w (.slice (some ⟨b, 0, none⟩) 3 3) [x, y, z] := by
 refine Or.inr ⟨b, 0, 3, rfl, Nat.le_refl _, (Array.getElem?_eq_some_iff.1 h).1, fun j hj => ?_⟩
 rw [Nat.zero_add, cell_of_row w b j _ _ _ h]
 match j, hj with
 | 0, _ => rfl
 | 1, _ => rfl
 | 2, _ => rfl
set_option maxHeartbeats 16000000 in
theorem implOrderOf (ov : Value) (os : List Int) (w : World) (h : Ints w ov os) (hn : os.length ≤ 1048576) (ht : OrdT w) :
  Calls Tryz.prog 130 #[ov] w fun e w' => ((orderB os = true ∧ e = .returned (.tuple #[.agg #[.int .i64 (os.getD 0 0), .int .i64 (os.getD 1 0), .int .i64 (os.getD 2 0)], .bool true])) ∨ (orderB os = false ∧ e = .returned (.tuple #[.agg #[.int .i64 0, .int .i64 0, .int .i64 0], .bool false]))) ∧ Below w.heap.size w w' := by
 obtain ⟨oa, oc, rfl⟩ := ints_len h
 have H := Lib.hid h
 have HN := Lib.hid hn
 have hal : Below w.heap.size w (w.alloc (.cells #[.int .i64 0, .int .i64 0, .int .i64 0] 168)) := (Below.refl _ _).alloc (Nat.le_refl _) _
 have B0 : Hid ((w.alloc (.cells #[.int .i64 0, .int .i64 0, .int .i64 0] 168)).heap[w.heap.size]? = some (.cells #[.int .i64 0, .int .i64 0, .int .i64 0] 168 (0, 0))) := Lib.hid (heap_alloc_new w _)
 have Y0 : Hid (w.heap.size < (w.alloc (.cells #[.int .i64 0, .int .i64 0, .int .i64 0] 168)).heap.size) := Lib.hid (by simp)
 have T0 := ht.on hal
 have d := Lib.hid hal
 clear h hn ht hal
 have t0 : (w.alloc (.cells #[.int .i64 0, .int .i64 0, .int .i64 0] 168)).cell? ⟨2, 0, none⟩ = some (.int .i64 0) := T0 0 (by omega)
 have t1 : (w.alloc (.cells #[.int .i64 0, .int .i64 0, .int .i64 0] 168)).cell? ⟨2, 1, none⟩ = some (.int .i64 1) := T0 1 (by omega)
 have t2 : (w.alloc (.cells #[.int .i64 0, .int .i64 0, .int .i64 0] 168)).cell? ⟨2, 2, none⟩ = some (.int .i64 2) := T0 2 (by omega)
 have t3 : (w.alloc (.cells #[.int .i64 0, .int .i64 0, .int .i64 0] 168)).cell? ⟨2, 3, none⟩ = some (.int .i64 0) := T0 3 (by omega)
 have t4 : (w.alloc (.cells #[.int .i64 0, .int .i64 0, .int .i64 0] 168)).cell? ⟨2, 4, none⟩ = some (.int .i64 2) := T0 4 (by omega)
 have t5 : (w.alloc (.cells #[.int .i64 0, .int .i64 0, .int .i64 0] 168)).cell? ⟨2, 5, none⟩ = some (.int .i64 1) := T0 5 (by omega)
 have t6 : (w.alloc (.cells #[.int .i64 0, .int .i64 0, .int .i64 0] 168)).cell? ⟨2, 6, none⟩ = some (.int .i64 1) := T0 6 (by omega)
 have t7 : (w.alloc (.cells #[.int .i64 0, .int .i64 0, .int .i64 0] 168)).cell? ⟨2, 7, none⟩ = some (.int .i64 0) := T0 7 (by omega)
 have t8 : (w.alloc (.cells #[.int .i64 0, .int .i64 0, .int .i64 0] 168)).cell? ⟨2, 8, none⟩ = some (.int .i64 2) := T0 8 (by omega)
 have t9 : (w.alloc (.cells #[.int .i64 0, .int .i64 0, .int .i64 0] 168)).cell? ⟨2, 9, none⟩ = some (.int .i64 1) := T0 9 (by omega)
 have t10 : (w.alloc (.cells #[.int .i64 0, .int .i64 0, .int .i64 0] 168)).cell? ⟨2, 10, none⟩ = some (.int .i64 2) := T0 10 (by omega)
 have t11 : (w.alloc (.cells #[.int .i64 0, .int .i64 0, .int .i64 0] 168)).cell? ⟨2, 11, none⟩ = some (.int .i64 0) := T0 11 (by omega)
 have t12 : (w.alloc (.cells #[.int .i64 0, .int .i64 0, .int .i64 0] 168)).cell? ⟨2, 12, none⟩ = some (.int .i64 2) := T0 12 (by omega)
 have t13 : (w.alloc (.cells #[.int .i64 0, .int .i64 0, .int .i64 0] 168)).cell? ⟨2, 13, none⟩ = some (.int .i64 0) := T0 13 (by omega)
 have t14 : (w.alloc (.cells #[.int .i64 0, .int .i64 0, .int .i64 0] 168)).cell? ⟨2, 14, none⟩ = some (.int .i64 1) := T0 14 (by omega)
 have t15 : (w.alloc (.cells #[.int .i64 0, .int .i64 0, .int .i64 0] 168)).cell? ⟨2, 15, none⟩ = some (.int .i64 2) := T0 15 (by omega)
 have t16 : (w.alloc (.cells #[.int .i64 0, .int .i64 0, .int .i64 0] 168)).cell? ⟨2, 16, none⟩ = some (.int .i64 1) := T0 16 (by omega)
 have t17 : (w.alloc (.cells #[.int .i64 0, .int .i64 0, .int .i64 0] 168)).cell? ⟨2, 17, none⟩ = some (.int .i64 0) := T0 17 (by omega)
 clear T0
 go_enter Tryz.func130, Tryz.ntmps130
 go_wp2
 generalize w.alloc (.cells #[.int .i64 0, .int .i64 0, .int .i64 0] 168) = W at *
 clear t0 t1 t2 t3 t4 t5 t6 t7 t8 t9 t10 t11 t12 t13 t14 t15 t16 t17
 go_loopw [7] (fun i wr => ∃ k : Nat, k ≤ 6 ∧ i = .int .i64 k ∧ Hid (∀ j, j < k → ¬ [oN j 0, oN j 1, oN j 2] = os) ∧ Hid (wr.heap[w.heap.size]? = some (.cells #[.int .i64 0, .int .i64 0, .int .i64 0] 168 (0, 0))) ∧ Hid (Below w.heap.size w wr) ∧ Hid (w.heap.size < wr.heap.size)) (fun i _ => 6 - (intOf i).toNat)
 case atStart => exact ⟨0, Nat.zero_le _, rfl, Lib.hid (fun j hj => by omega), B0, d, Y0⟩
 case round =>
  clear B0 d Y0
  obtain ⟨k, hk, rfl, hno, B0, d, Y0⟩ := hrel
  by_cases hlt : k < 6
  ·
   have hI := idxO hlt
   have HIN := Lib.hid (oN_in hlt)
   have i1 : (0 : Int) ≤ (k : Int) := by omega
   have i2 : (k : Int) < 6 := by omega
   have HST : Hid (¬ [oN k 0, oN k 1, oN k 2] = os → ∀ j, j < k + 1 → ¬ [oN j 0, oN j 1, oN j 2] = os) := Lib.hid (fun he j hj => by
    by_cases e : j = k
    ·
     exact e ▸ he
    ·
     exact hno.out j (by omega))
   clear hno
   generalize oN k 0 = x at *
   generalize oN k 1 = y at *
   generalize oN k 2 = z at *
   have hal : Below wr.heap.size wr (wr.alloc (.cells #[.int .i64 x, .int .i64 y, .int .i64 z] 168)) := (Below.refl _ _).alloc (Nat.le_refl _) _
   have B1 : Hid ((wr.alloc (.cells #[.int .i64 x, .int .i64 y, .int .i64 z] 168)).heap[wr.heap.size]? = some (.cells #[.int .i64 x, .int .i64 y, .int .i64 z] 168 (0, 0))) := Lib.hid (heap_alloc_new wr _)
   have HQ := Lib.hid (fun w h g => equalInts_any (.slice (some ⟨wr.heap.size, 0, none⟩) 3 3) (.slice oa os.length oc) [x, y, z] os w h g (by show 3 ≤ 1048576; decide) HN.out)
   by_cases he : [x, y, z] = os
   ·
    rw [decide_eq_true he] at HQ
    have HE := Lib.hid he
    clear he HST
    go_wp2_with fail
    generalize wr.alloc (.cells #[.int .i64 x, .int .i64 y, .int .i64 z] 168) = W2 at *
    have d2 := Lib.hid (d.out.trans (hal.mono d.out.size))
    refine (HQ.out W2 (ints_three B1.out) (ints_below H.out d2.out)).mono ?_
    rintro e w3 ⟨rfl, c3⟩
    have B1' := (c3.block wr.heap.size (Array.getElem?_eq_some_iff.1 B1.out).1).trans B1.out
    have B0' := (c3.block w.heap.size (by have := Y0.out; have := hal.size; omega)).trans ((hal.block w.heap.size Y0.out).trans B0.out)
    have d3 := d2.out.trans (c3.mono d2.out.size)
    have p0 := (cell_of_row w3 _ 0 _ _ _ B1').trans (show _ = some (Value.int .i64 x) from rfl)
    have p1 := (cell_of_row w3 _ 1 _ _ _ B1').trans (show _ = some (Value.int .i64 y) from rfl)
    have p2 := (cell_of_row w3 _ 2 _ _ _ B1').trans (show _ = some (Value.int .i64 z) from rfl)
    have q0 := (cell_of_row w3 _ 0 _ _ _ B0').trans (show _ = some (Value.int .i64 0) from rfl)
    have q1 := (cell_of_row w3 _ 1 _ _ _ B0').trans (show _ = some (Value.int .i64 0) from rfl)
    have q2 := (cell_of_row w3 _ 2 _ _ _ B0').trans (show _ = some (Value.int .i64 0) from rfl)
    have f0 := frozen_of_row w3 _ 0 _ _ B0'
    have f1 := frozen_of_row w3 _ 1 _ _ B0'
    have f2 := frozen_of_row w3 _ 2 _ _ B0'
    have D := Lib.hid (((d3.setCell (p := ⟨w.heap.size, 0, none⟩) (Nat.le_refl _) (.int .i64 x)).setCell (p := ⟨w.heap.size, 1, none⟩) (Nat.le_refl _) (.int .i64 y)).setCell (p := ⟨w.heap.size, 2, none⟩) (Nat.le_refl _) (.int .i64 z))
    have r := heap_setCell_same _ w.heap.size 2 _ _ (.int .i64 z) (heap_setCell_same _ w.heap.size 1 _ _ (.int .i64 y) (heap_setCell_same w3 w.heap.size 0 _ _ (.int .i64 x) B0'))
    simp at r
    have e0 := (cell_of_row _ w.heap.size 0 _ _ _ r).trans (show _ = some (Value.int .i64 x) from rfl)
    have e1 := (cell_of_row _ w.heap.size 1 _ _ _ r).trans (show _ = some (Value.int .i64 y) from rfl)
    have e2 := (cell_of_row _ w.heap.size 2 _ _ _ r).trans (show _ = some (Value.int .i64 z) from rfl)
    clear r d3 c3 B0' B1' hal
    go_wp2
    refine bodyPost_ret (v := .tuple #[.agg #[.int .i64 x, .int .i64 y, .int .i64 z], .bool true]) ?_ rfl ?_
    ·
     simp [results, Tryz.f130, go_sem, e0, e1, e2]
    ·
     have he := HE.out
     subst he
     exact ⟨Or.inl ⟨HIN.out, rfl⟩, D.out⟩
   ·
    rw [decide_eq_false he] at HQ
    have HA := Lib.hid (HST.out he)
    clear he HST
    go_wp2_with fail
    generalize wr.alloc (.cells #[.int .i64 x, .int .i64 y, .int .i64 z] 168) = W2 at *
    have d2 := Lib.hid (d.out.trans (hal.mono d.out.size))
    refine (HQ.out W2 (ints_three B1.out) (ints_below H.out d2.out)).mono ?_
    rintro e w3 ⟨rfl, c3⟩
    have B0' := Lib.hid ((c3.block w.heap.size (by have := Y0.out; have := hal.size; omega)).trans ((hal.block w.heap.size Y0.out).trans B0.out))
    have d3 := Lib.hid (d2.out.trans (c3.mono d2.out.size))
    have Y3 : Hid (w.heap.size < w3.heap.size) := Lib.hid (by have := Y0.out; have := hal.size; have := c3.size; omega)
    clear c3 hal B1 hI
    go_wp2
    go_roundw
    case rel => exact ⟨k + 1, by omega, by go_num, HA, B0', d3, Y3⟩
    case measure => simp [intOf]; omega
  ·
   obtain rfl : k = 6 := by omega
   have HF := Lib.hid (order_all6 hno.out)
   clear hno
   have q0 := (cell_of_row wr _ 0 _ _ _ B0.out).trans (show _ = some (Value.int .i64 0) from rfl)
   have q1 := (cell_of_row wr _ 1 _ _ _ B0.out).trans (show _ = some (Value.int .i64 0) from rfl)
   have q2 := (cell_of_row wr _ 2 _ _ _ B0.out).trans (show _ = some (Value.int .i64 0) from rfl)
   have f0 := frozen_of_row wr _ 0 _ _ B0.out
   have f1 := frozen_of_row wr _ 1 _ _ B0.out
   have f2 := frozen_of_row wr _ 2 _ _ B0.out
   have D := Lib.hid (((d.out.setCell (p := ⟨w.heap.size, 0, none⟩) (Nat.le_refl _) (.int .i64 0)).setCell (p := ⟨w.heap.size, 1, none⟩) (Nat.le_refl _) (.int .i64 0)).setCell (p := ⟨w.heap.size, 2, none⟩) (Nat.le_refl _) (.int .i64 0))
   have r := heap_setCell_same _ w.heap.size 2 _ _ (.int .i64 0) (heap_setCell_same _ w.heap.size 1 _ _ (.int .i64 0) (heap_setCell_same wr w.heap.size 0 _ _ (.int .i64 0) B0.out))
   simp at r
   have e0 := (cell_of_row _ w.heap.size 0 _ _ _ r).trans (show _ = some (Value.int .i64 0) from rfl)
   have e1 := (cell_of_row _ w.heap.size 1 _ _ _ r).trans (show _ = some (Value.int .i64 0) from rfl)
   have e2 := (cell_of_row _ w.heap.size 2 _ _ _ r).trans (show _ = some (Value.int .i64 0) from rfl)
   clear r
   go_wp2
   refine bodyPost_ret (v := .tuple #[.agg #[.int .i64 0, .int .i64 0, .int .i64 0], .bool false]) ?_ rfl ?_
   ·
    simp [results, Tryz.f130, go_sem, e0, e1, e2]
   ·
    exact ⟨Or.inr ⟨HF.out, rfl⟩, D.out⟩
set_option maxHeartbeats 16000000 in
theorem implIsEngine (now cu st : Int) (sv ov av dv lv : Value) (ss : List (List VerD)) (os : List Int) (qs : List ActD) (ds : List FinD) (ls : List ChargeD) (w : World) (hT : OrdT w)
  (h0 : SlR tVersionS w sv ss) (h3 : SlR tInt w ov os) (h4 : SlR tActive w av qs) (h5 : SlR tFinished w dv ds) (h6 : SlR tCharge w lv ls) (hs : zL tVersionS ss + zL tInt os + zL tActive qs + zL tFinished ds + zL tCharge ls ≤ 1048576) :
  Calls Tryz.prog 61 #[.agg #[sv, .int .i64 now, .int .i64 cu, ov, av, dv, lv, .int .i64 st]] w (fun e w' => e = .returned (.bool (engB ((ss, now), cu, os, qs, ds, ls, st))) ∧ Below w.heap.size w w') := by
 have S0 : Hid (zL tVersionS ss ≤ 1048576) := zh (by omega)
 have S3 : Hid (zL tInt os ≤ 1048576) := zh (by omega)
 have S4 : Hid (zL tActive qs ≤ 1048576) := zh (by omega)
 have S5 : Hid (zL tFinished ds ≤ 1048576) := zh (by omega)
 have S6 : Hid (zL tCharge ls ≤ 1048576) := zh (by omega)
 clear hs
 obtain ⟨sa, sc, rfl⟩ := slR_len h0
 have H0 := zh h0
 obtain ⟨oa, oc, rfl⟩ := slR_len h3
 have H3 := zh h3
 obtain ⟨aa, ac, rfl⟩ := slR_len h4
 have H4 := zh h4
 obtain ⟨da, dc, rfl⟩ := slR_len h5
 have H5 := zh h5
 obtain ⟨la, lc, rfl⟩ := slR_len h6
 have H6 := zh h6
 have N0 := zL_len S0.out; have N3 := zL_len S3.out; have N4 := zL_len S4.out; have N5 := zL_len S5.out; have N6 := zL_len S6.out
 have HTB := zh hT
 clear h0 h3 h4 h5 h6 hT
 have d := zh (show Below w.heap.size w (w.alloc (.cells #[.slice sa ss.length sc, .int .i64 now, .int .i64 cu, .slice oa os.length oc, .slice aa qs.length ac, .slice da ds.length dc, .slice la ls.length lc, .int .i64 st] 40)) from ((Below.refl _ w).alloc (Nat.le_refl _) _))
 have B0 : Hid ((w.alloc (.cells #[.slice sa ss.length sc, .int .i64 now, .int .i64 cu, .slice oa os.length oc, .slice aa qs.length ac, .slice da ds.length dc, .slice la ls.length lc, .int .i64 st] 40)).heap[w.heap.size]? = some (.cells #[.slice sa ss.length sc, .int .i64 now, .int .i64 cu, .slice oa os.length oc, .slice aa qs.length ac, .slice da ds.length dc, .slice la ls.length lc, .int .i64 st] 40 (0, 0))) := zh (by
  exact heap_alloc_new w _)
 have YW : Hid (w.heap.size + 1 ≤ (w.alloc (.cells #[.slice sa ss.length sc, .int .i64 now, .int .i64 cu, .slice oa os.length oc, .slice aa qs.length ac, .slice da ds.length dc, .slice la ls.length lc, .int .i64 st] 40)).heap.size) := zh (by simp [World.size_alloc])
 go_enter Tryz.func61, Tryz.ntmps61
 go_wp2_with fail
 generalize (w.alloc (.cells #[.slice sa ss.length sc, .int .i64 now, .int .i64 cu, .slice oa os.length oc, .slice aa qs.length ac, .slice da ds.length dc, .slice la ls.length lc, .int .i64 st] 40)) = W at *
 have HO := zh (implOrderOf (.slice oa os.length oc) os W (slR_ints (slR_below tInt_law H3.out d.out)) N3 (HTB.out.on d.out))
 refine HO.out.mono ?_
 rintro e W1 ⟨hor, c⟩
 replace B0 := zb c B0
 replace d := zD d c
 have Z_W1 := zh (show W.heap.size ≤ W1.heap.size from c.size)
 clear c HO
 have HX : Hid (∃ z0 z1 z2 : Int, e = .returned (.tuple #[.agg #[.int .i64 z0, .int .i64 z1, .int .i64 z2], .bool (orderB os)])) := zh (by
  rcases hor with ⟨g, rfl⟩ | ⟨g, rfl⟩
  ·
   rw [g]; exact ⟨_, _, _, rfl⟩
  ·
   rw [g]; exact ⟨_, _, _, rfl⟩)
 obtain ⟨z0, z1, z2, rfl⟩ := HX.out
 clear HX hor
 have cp_B0_0 := cls8 B0.out
 have cal : Below W1.heap.size W1 (W1.alloc (.cells #[.int .i64 z0, .int .i64 z1, .int .i64 z2] 168)) := (Below.refl _ _).alloc (Nat.le_refl _) _
 have KB0 := zh ((cal.block w.heap.size (Array.getElem?_eq_some_iff.1 B0.out).1).trans B0.out)
 have k0 := cr 0 (Value.slice sa ss.length sc) KB0.out
 have k1 := cr 1 (Value.int .i64 now) KB0.out
 have k2 := cr 2 (Value.int .i64 cu) KB0.out
 have k3 := cr 3 (Value.slice oa os.length oc) KB0.out
 have k4 := cr 4 (Value.slice aa qs.length ac) KB0.out
 have k5 := cr 5 (Value.slice da ds.length dc) KB0.out
 have k6 := cr 6 (Value.slice la ls.length lc) KB0.out
 have k7 := cr 7 (Value.int .i64 st) KB0.out
 go_wp2_with fail
 clear cp_B0_0 k0 k1 k2 k3 k4 k5 k6 k7 KB0
 generalize hWq : (W1.alloc (.cells #[.int .i64 z0, .int .i64 z1, .int .i64 z2] 168)) = Wq at *
 clear hWq
 replace B0 := zb cal B0
 replace d := zD d cal
 have Z_Wq := zh (show W1.heap.size ≤ Wq.heap.size from cal.size)
 clear cal
 refine (implIsStore (.slice sa ss.length sc) ss now Wq (slR_below tVersionS_law H0.out d.out) S0.out).mono ?_
 rintro e W2 ⟨rfl, c⟩
 replace B0 := zb c B0
 replace d := zD d c
 have Z_W2 := zh (show Wq.heap.size ≤ W2.heap.size from c.size)
 clear c
 rcases Bool.eq_false_or_eq_true (storeB ss now) with hst | hst
 rotate_left
 ·
  rw [hst]
  have HF := zh (eng_no1 (e := ((ss, now), cu, os, qs, ds, ls, st)) hst)
  clear hst
  have cp_B0_0 := cls8 B0.out
  go_wp2
  clear cp_B0_0
  go_ret
  exact ⟨ret_b HF.out.symm, d.out⟩
 rw [hst]
 have HST := zh hst
 clear hst
 have cp_B0_0 := cls8 B0.out
 go_wp2_with fail
 clear cp_B0_0
 refine (hasSegment_any sa ss.length sc now cu W2 N0).mono ?_
 rintro e W1 ⟨rfl, c⟩
 replace B0 := zb c B0
 replace d := zD d c
 have Z_W1 := zh (show W2.heap.size ≤ W1.heap.size from c.size)
 clear c
 rcases Bool.eq_false_or_eq_true (decide (0 ≤ cu ∧ cu < (ss.length : Int))) with hcu | hcu
 rotate_left
 ·
  rw [hcu]
  have HF := zh (eng_no2 (e := ((ss, now), cu, os, qs, ds, ls, st)) (fun g => of_decide_eq_false hcu g.1))
  clear hcu
  have cp_B0_0 := cls8 B0.out
  go_wp2
  clear cp_B0_0
  go_ret
  exact ⟨ret_b HF.out.symm, d.out⟩
 rw [hcu]
 have HCU := zh hcu
 clear hcu
 rcases Bool.eq_false_or_eq_true (orderB os) with hor | hor
 rotate_left
 ·
  rw [hor]
  have HF := zh (eng_no3 (e := ((ss, now), cu, os, qs, ds, ls, st)) hor)
  clear hor
  have cp_B0_0 := cls8 B0.out
  go_wp2
  clear cp_B0_0
  go_ret
  exact ⟨ret_b HF.out.symm, d.out⟩
 rw [hor]
 have HOR := zh hor
 clear hor
 have cp_B0_0 := cls8 B0.out
 go_wp2_with fail
 clear cp_B0_0
 refine (isTime_any st _).mono ?_
 rintro e wx ⟨rfl, hwx⟩
 obtain rfl := hwx.symm
 rcases Bool.eq_false_or_eq_true (decide (0 ≤ st ∧ st ≤ 100000)) with hti | hti
 rotate_left
 ·
  rw [hti]
  have HF := zh (eng_no2 (e := ((ss, now), cu, os, qs, ds, ls, st)) (fun g => of_decide_eq_false hti g.2.2.1))
  clear hti
  have cp_B0_0 := cls8 B0.out
  go_wp2
  clear cp_B0_0
  go_ret
  exact ⟨ret_b HF.out.symm, d.out⟩
 rw [hti]
 have HTI := zh hti
 clear hti
 have cp_B0_0 := cls8 B0.out
 go_wp2_with fail
 clear cp_B0_0
 refine (areValid_act (.slice aa qs.length ac) qs sa sc ss now W1 (slR_below tActive_law H4.out d.out) S4.out N0).mono ?_
 rintro e W2 ⟨rfl, c⟩
 replace B0 := zb c B0
 replace d := zD d c
 have Z_W2 := zh (show W1.heap.size ≤ W2.heap.size from c.size)
 clear c
 rcases Bool.eq_false_or_eq_true (decide (qs.length ≤ 8) && actsB (ss, now) qs) with hva | hva
 rotate_left
 ·
  rw [hva]
  have HF := zh ((by
    rcases Bool.eq_false_or_eq_true (decide (qs.length ≤ 8)) with q | q
    ·
     rw [q, Bool.true_and] at hva; exact eng_no4 (e := ((ss, now), cu, os, qs, ds, ls, st)) hva
    ·
     exact eng_no2 (e := ((ss, now), cu, os, qs, ds, ls, st)) (fun g => of_decide_eq_false q g.2.1)))
  clear hva
  have cp_B0_0 := cls8 B0.out
  go_wp2
  clear cp_B0_0
  go_ret
  exact ⟨ret_b HF.out.symm, d.out⟩
 rw [hva]
 have HVA := zh hva
 clear hva
 have cp_B0_0 := cls8 B0.out
 go_wp2_with fail
 clear cp_B0_0
 refine (areFinished_any (.slice da ds.length dc) ds now W2 (slR_below tFinished_law H5.out d.out) S5.out).mono ?_
 rintro e W3 ⟨rfl, c⟩
 replace B0 := zb c B0
 replace d := zD d c
 have Z_W3 := zh (show W2.heap.size ≤ W3.heap.size from c.size)
 clear c
 rcases Bool.eq_false_or_eq_true (decide (ds.length ≤ 1000) && ds.all (finB now)) with hfi | hfi
 rotate_left
 ·
  rw [hfi]
  have HF := zh ((by
    rcases Bool.eq_false_or_eq_true (decide (ds.length ≤ 1000)) with q | q
    ·
     rw [q, Bool.true_and] at hfi; exact eng_no5 (e := ((ss, now), cu, os, qs, ds, ls, st)) hfi
    ·
     exact eng_no2 (e := ((ss, now), cu, os, qs, ds, ls, st)) (fun g => of_decide_eq_false q g.2.2.2.1)))
  clear hfi
  have cp_B0_0 := cls8 B0.out
  go_wp2
  clear cp_B0_0
  go_ret
  exact ⟨ret_b HF.out.symm, d.out⟩
 rw [hfi]
 have HFI := zh hfi
 clear hfi
 by_cases hp3 : ls.length ≤ 1000
 rotate_left
 ·
  have HF := zh (eng_no2 (e := ((ss, now), cu, os, qs, ds, ls, st)) (fun g => hp3 g.2.2.2.2))
  have f3 : decide ((ls.length : Int) ≤ 1000) = false := decide_eq_false (by omega)
  clear hp3
  have cp_B0_0 := cls8 B0.out
  go_wp2
  clear cp_B0_0
  go_ret
  exact ⟨ret_b HF.out.symm, d.out⟩
 have f3 : decide ((ls.length : Int) ≤ 1000) = true := decide_eq_true (by omega)
 have HP3 := zh hp3
 clear hp3
 have cp_B0_0 := cls8 B0.out
 go_wp2_with fail
 clear cp_B0_0 f3
 refine (allCharge (.slice la ls.length lc) ls W3 (slR_below tCharge_law H6.out d.out) S6.out).mono ?_
 rintro e W9 ⟨rfl, c⟩
 replace B0 := zb c B0
 replace d := zD d c
 have Z_W9 := zh (show W3.heap.size ≤ W9.heap.size from c.size)
 clear c
 have HT : Hid (ls.all chargeB = engB ((ss, now), cu, os, qs, ds, ls, st)) := zh (by
  have v1 := HVA.out
  have v2 := HFI.out
  simp only [Bool.and_eq_true, decide_eq_true_eq] at v1 v2
  rcases Bool.eq_false_or_eq_true (ls.all chargeB) with g | g
  ·
   rw [g]; exact (eng_yes (e := ((ss, now), cu, os, qs, ds, ls, st)) HST.out ⟨of_decide_eq_true HCU.out, v1.1, of_decide_eq_true HTI.out, v2.1, HP3.out⟩ HOR.out v1.2 v2.2 g).symm
  ·
   rw [g]; exact (eng_no6 (e := ((ss, now), cu, os, qs, ds, ls, st)) g).symm)
 rw [HT.out]
 have cp_B0_0 := cls8 B0.out
 go_wp2
 clear cp_B0_0
 go_ret
 exact ⟨rfl, d.out⟩
set_option maxHeartbeats 8000000 in
theorem promised_any (a : Option Addr) (n c : Nat) (now lm : Int) (w : World) (hn : n ≤ 1048576) :
  Calls Tryz.prog 63 #[.agg #[.slice a n c, .int .i64 now], .int .i64 lm] w (fun e w' => e = .returned (.int .i64 (promN n lm)) ∧ Below w.heap.size w w') := by
 have q1 : (0 : Int) ≤ (n : Int) * (n : Int) := Int.mul_nonneg (by omega) (by omega)
 have q2 : (n : Int) * (n : Int) ≤ 1099511627776 := by
  have := Int.mul_le_mul (show (n : Int) ≤ 1048576 by omega) (show (n : Int) ≤ 1048576 by omega) (by omega) (by decide)
  omega
 have d := zh (show Below w.heap.size w (w.alloc (.cells #[.slice a n c, .int .i64 now] 35)) from (Below.refl _ _).alloc (Nat.le_refl _) _)
 by_cases h0 : lm = 0
 ·
  have g0 : (lm == 0) = true := by simp [h0]
  have HP := zh (promN_zero (n := n) h0)
  clear h0
  go_enter Tryz.func63, Tryz.ntmps63
  go_wp2
  go_ret
  exact ⟨ret_n HP.out.symm, d.out⟩
 ·
  have g0 : (lm == 0) = false := by simp [h0]
  have HP := zh (promN_sq (n := n) h0)
  clear h0
  go_enter Tryz.func63, Tryz.ntmps63
  go_wp2
  go_ret
  exact ⟨ret_n HP.out.symm, d.out⟩
set_option maxHeartbeats 16000000 in
theorem implPromisedSteps (now cu st : Int) (sv ov av dv lv : Value) (ss : List (List VerD)) (os : List Int) (qs : List ActD) (ds : List FinD) (ls : List ChargeD) (lm : Int) (w : World) (hT : OrdT w)
  (h0 : SlR tVersionS w sv ss) (h3 : SlR tInt w ov os) (h4 : SlR tActive w av qs) (h5 : SlR tFinished w dv ds) (h6 : SlR tCharge w lv ls) (hs : zL tVersionS ss + zL tInt os + zL tActive qs + zL tFinished ds + zL tCharge ls ≤ 1048576) :
  Calls Tryz.prog 16 #[.agg #[sv, .int .i64 now, .int .i64 cu, ov, av, dv, lv, .int .i64 st], .int .i64 lm] w (fun e w' => e = .returned (.int .i64 (promE ((ss, now), cu, os, qs, ds, ls, st) lm)) ∧ Below w.heap.size w w') := by
 have S0 : Hid (zL tVersionS ss ≤ 1048576) := zh (by omega)
 have S3 : Hid (zL tInt os ≤ 1048576) := zh (by omega)
 have S4 : Hid (zL tActive qs ≤ 1048576) := zh (by omega)
 have S5 : Hid (zL tFinished ds ≤ 1048576) := zh (by omega)
 have S6 : Hid (zL tCharge ls ≤ 1048576) := zh (by omega)
 have HS := zh hs
 clear hs
 obtain ⟨e0, n0, rfl⟩ := slR_len h0
 have H0 := zh h0
 obtain ⟨e3, n3, rfl⟩ := slR_len h3
 have H3 := zh h3
 obtain ⟨e4, n4, rfl⟩ := slR_len h4
 have H4 := zh h4
 obtain ⟨e5, n5, rfl⟩ := slR_len h5
 have H5 := zh h5
 obtain ⟨e6, n6, rfl⟩ := slR_len h6
 have H6 := zh h6
 clear h0 h3 h4 h5 h6
 have N0 := zL_len S0.out
 have q1 : (0 : Int) ≤ (ss.length : Int) * (ss.length : Int) := Int.mul_nonneg (by omega) (by omega)
 have q2 : (ss.length : Int) * (ss.length : Int) ≤ 1099511627776 := by
  have := Int.mul_le_mul (show (ss.length : Int) ≤ 1048576 by omega) (show (ss.length : Int) ≤ 1048576 by omega) (by omega) (by decide)
  omega
 have HTB := zh hT
 clear hT
 have d := zh (show Below w.heap.size w (w.alloc (.cells #[.slice e0 ss.length n0, .int .i64 now, .int .i64 cu, .slice e3 os.length n3, .slice e4 qs.length n4, .slice e5 ds.length n5, .slice e6 ls.length n6, .int .i64 st] 40)) from ((Below.refl _ w).alloc (Nat.le_refl _) _))
 have B0 : Hid ((w.alloc (.cells #[.slice e0 ss.length n0, .int .i64 now, .int .i64 cu, .slice e3 os.length n3, .slice e4 qs.length n4, .slice e5 ds.length n5, .slice e6 ls.length n6, .int .i64 st] 40)).heap[w.heap.size]? = some (.cells #[.slice e0 ss.length n0, .int .i64 now, .int .i64 cu, .slice e3 os.length n3, .slice e4 qs.length n4, .slice e5 ds.length n5, .slice e6 ls.length n6, .int .i64 st] 40 (0, 0))) := zh (by
  exact heap_alloc_new w _)
 have YW : Hid (w.heap.size + 1 ≤ (w.alloc (.cells #[.slice e0 ss.length n0, .int .i64 now, .int .i64 cu, .slice e3 os.length n3, .slice e4 qs.length n4, .slice e5 ds.length n5, .slice e6 ls.length n6, .int .i64 st] 40)).heap.size) := zh (by simp [World.size_alloc])
 go_enter Tryz.func16, Tryz.ntmps16
 go_wp2_with fail
 generalize (w.alloc (.cells #[.slice e0 ss.length n0, .int .i64 now, .int .i64 cu, .slice e3 os.length n3, .slice e4 qs.length n4, .slice e5 ds.length n5, .slice e6 ls.length n6, .int .i64 st] 40)) = W at *
 refine (implIsEngine now cu st (.slice e0 ss.length n0) (.slice e3 os.length n3) (.slice e4 qs.length n4) (.slice e5 ds.length n5) (.slice e6 ls.length n6) ss os qs ds ls W (HTB.out.on d.out) (slR_below tVersionS_law H0.out d.out) (slR_below tInt_law H3.out d.out) (slR_below tActive_law H4.out d.out) (slR_below tFinished_law H5.out d.out) (slR_below tCharge_law H6.out d.out) HS.out).mono ?_
 rintro e W1 ⟨rfl, c⟩
 replace B0 := zb c B0
 replace d := zD d c
 have Z_W1 := zh (show W.heap.size ≤ W1.heap.size from c.size)
 clear c
 rcases Bool.eq_false_or_eq_true (engB ((ss, now), cu, os, qs, ds, ls, st)) with he | he
 rotate_left
 ·
  rw [he]
  have HF := zh (promE_no1 (c := lm) he)
  clear he
  have cp_B0_0 := cls8 B0.out
  go_wp2
  clear cp_B0_0
  go_ret
  exact ⟨ret_n HF.out.symm, d.out⟩
 rw [he]
 have HE := zh he
 clear he
 have cp_B0_0 := cls8 B0.out
 go_wp2_with fail
 clear cp_B0_0
 refine (isLimit_any lm W1).mono ?_
 rintro e W2 ⟨rfl, c⟩
 replace B0 := zb c B0
 replace d := zD d c
 have Z_W2 := zh (show W1.heap.size ≤ W2.heap.size from c.size)
 clear c
 rcases Bool.eq_false_or_eq_true (limB lm) with hl | hl
 rotate_left
 ·
  rw [show decide (0 ≤ lm ∧ lm ≤ 32) = limB lm from rfl, hl]
  have HF := zh (promE_no2 (e := ((ss, now), cu, os, qs, ds, ls, st)) hl)
  clear hl
  have cp_B0_0 := cls8 B0.out
  go_wp2
  clear cp_B0_0
  go_ret
  exact ⟨ret_n HF.out.symm, d.out⟩
 rw [show decide (0 ≤ lm ∧ lm ≤ 32) = limB lm from rfl, hl]
 have HF := zh (promE_yes HE.out hl)
 clear hl
 have cp_B0_0 := cls8 B0.out
 go_wp2_with fail
 clear cp_B0_0
 refine (promised_any e0 ss.length n0 now lm W2 N0).mono ?_
 rintro e W3 ⟨rfl, c⟩
 replace B0 := zb c B0
 replace d := zD d c
 have Z_W3 := zh (show W2.heap.size ≤ W3.heap.size from c.size)
 clear c
 have cp_B0_0 := cls8 B0.out
 go_wp2
 clear cp_B0_0
 go_ret
 exact ⟨ret_n HF.out.symm, d.out⟩
def stepOk (lim : Int) (d : FinD) : Bool := decide (d.2.2.1 ≤ lim)
set_option maxHeartbeats 8000000 in
theorem kptClos1 (lim a0 a1 a4 a5 : Int) (p2 p3 p6 : Option Addr) (n2 c2 n3 c3 n6 c6 B : Nat) (w : World) (hB : w.heap[B]? = some (.cells #[.int .i64 lim] 3 (0, 0))) :
  Calls Tryz.prog 70 #[.agg #[.int .i64 a0, .int .i64 a1, .slice p2 n2 c2, .slice p3 n3 c3, .int .i64 a4, .int .i64 a5, .slice p6 n6 c6], .pointer (some ⟨B, 0, none⟩)] w (fun e w' => e = .returned (.bool (decide (a5 ≤ lim))) ∧ Below w.heap.size w w') := by
 have d := zh (show Below w.heap.size w (w.alloc (.cells #[.int .i64 a0, .int .i64 a1, .slice p2 n2 c2, .slice p3 n3 c3, .int .i64 a4, .int .i64 a5, .slice p6 n6 c6] 59)) from (Below.refl _ _).alloc (Nat.le_refl _) _)
 have cB := (d.out.cell (p := ⟨B, 0, none⟩) (Array.getElem?_eq_some_iff.1 hB).1).trans ((cell_of_row w _ 0 _ _ _ hB).trans (show _ = some (Value.int .i64 lim) from rfl))
 clear hB
 go_enter Tryz.func70, Tryz.ntmps70
 go_wp2
 go_ret
 exact ⟨rfl, d.out⟩
set_option maxHeartbeats 8000000 in
theorem allDone (lim : Int) (B : Nat) (v : Value) (l : List FinD) (w : World) (hB : w.heap[B]? = some (.cells #[.int .i64 lim] 3 (0, 0))) (h : SlR tFinished w v l) (hs : zL tFinished l ≤ 1048576) :
  Calls Tryz.prog 69 #[v, .func (.func 70) #[] #[.pointer (some ⟨B, 0, none⟩)]] w (fun e w' => e = .returned (.bool (l.all (stepOk lim))) ∧ Below w.heap.size w w') := by
 have hlen := zL_len hs
 have HS := zh hs
 have H := zh h
 have BB := zh hB
 obtain ⟨a, cap, rfl⟩ := slR_len h
 clear h hs hB
 go_enter Tryz.func69, Tryz.ntmps69
 go_wp2
 go_loopw [9] (fun i wr => ∃ k : Nat, k ≤ l.length ∧ i = .int .i64 k ∧ Hid (AllTo (stepOk lim) f0D l k) ∧ Below w.heap.size w wr) (fun i _ => l.length - (intOf i).toNat)
 case atStart => exact ⟨0, Nat.zero_le _, rfl, zh (allTo_zero _ _ _), Below.refl _ _⟩
 case round =>
  obtain ⟨k, hk, rfl, hno, c⟩ := hrel
  have cw := zh c
  by_cases hlt : k < l.length
  ·
   have i1 : (0 : Int) ≤ (k : Int) := by omega
   have i2 : (k : Int) < (l.length : Int) := by omega
   have hz := zL_at HS.out hlt
   change tFinished.sz (l.getD k f0D) ≤ 1048576 at hz
   have HST : Hid ((stepOk lim) (l.getD k f0D) = true → AllTo (stepOk lim) f0D l (k + 1)) := zh (fun g => allTo_step hno.out g)
   have HNO : Hid ((stepOk lim) (l.getD k f0D) = false → l.all (stepOk lim) = false) := zh (fun g => allB_no f0D hlt g)
   obtain ⟨b, off, cap', p2, c2, p3, c3, p6, c6, hv, hbl, e0, e1, e2, e3, e4, e5, e6, s2, s3, s6⟩ := fin_at (slR_below tFinished_law H.out c) hlt
   simp only [Value.slice.injEq] at hv
   obtain ⟨rfl, _, rfl⟩ := hv
   generalize l.getD k f0D = x at *
   obtain ⟨⟨a0, a1, x2, x3⟩, a4, a5, x6⟩ := x
   dsimp only at *
   have hal : Below wr.heap.size wr (wr.alloc (.cells #[.int .i64 a0, .int .i64 a1, .slice p2 x2.length c2, .slice p3 x3.length c3, .int .i64 a4, .int .i64 a5, .slice p6 x6.length c6] 59)) := (Below.refl _ _).alloc (Nat.le_refl _) _
   have HC0 := kptClos1 lim a0 a1 a4 a5 p2 p3 p6 x2.length c2 x3.length c3 x6.length c6 B _ (((cw.out.trans (hal.mono cw.out.size)).block B (Array.getElem?_eq_some_iff.1 BB.out).1).trans BB.out)
   have HC := zh (HC0.mono (fun e w' hh => (⟨hh.1, hal.trans (hh.2.mono hal.size)⟩ : e = .returned (.bool (decide (a5 ≤ lim))) ∧ Below wr.heap.size wr w')))
   clear HC0 hal s2 s3 s6 hz hbl
   change Hid (decide (a5 ≤ lim) = true → _) at HST
   change Hid (decide (a5 ≤ lim) = false → _) at HNO
   clear hno c
   obtain ⟨bv, hbv⟩ : ∃ bv, bv = decide (a5 ≤ lim) := ⟨_, rfl⟩
   rw [← hbv] at HC HST HNO
   clear hbv
   cases bv with
   | true =>
    have HT := zh (HST.out rfl)
    clear HST HNO
    go_wp2_with fail
    refine HC.out.mono ?_
    rintro e w2 ⟨rfl, c2⟩
    have cw2 := zh (cw.out.trans (c2.mono cw.out.size))
    clear c2 HC e0 e1 e2 e3 e4 e5 e6
    go_wp2
    go_roundw
    case rel => exact ⟨k + 1, by omega, by go_num, HT, cw2.out⟩
    case measure => simp [intOf]; omega
   | false =>
    have HF := zh (HNO.out rfl)
    clear HST HNO
    go_wp2_with fail
    refine HC.out.mono ?_
    rintro e w2 ⟨rfl, c2⟩
    have cw2 := zh (cw.out.trans (c2.mono cw.out.size))
    clear c2 HC e0 e1 e2 e3 e4 e5 e6
    go_wp2
    go_ret
    exact ⟨ret_b HF.out.symm, cw2.out⟩
  ·
   obtain rfl : k = l.length := by omega
   have HA := zh (allB_yes (p := stepOk lim) f0D hno.out)
   clear hno c
   go_wp2
   go_ret
   exact ⟨ret_b HA.out.symm, cw.out⟩
set_option maxHeartbeats 8000000 in
theorem kptClos2 (now cu st : Int) (ea : Option Addr) (en ec : Nat) (hn : en ≤ 1048576) (y3 y4 y5 y6 : Value) (a0 a1 a4 a6 a7 a8 : Int) (p2 p3 p5 p9 : Option Addr) (n2 c2 n3 c3 n5 c5 n9 c9 E : Nat) (w : World) (hE : w.heap[E]? = some (.cells #[.slice ea en ec, .int .i64 now, .int .i64 cu, y3, y4, y5, y6, .int .i64 st] 40 (0, 0))) :
  Calls Tryz.prog 72 #[.agg #[.int .i64 a0, .int .i64 a1, .slice p2 n2 c2, .slice p3 n3 c3, .int .i64 a4, .slice p5 n5 c5, .int .i64 a6, .int .i64 a7, .int .i64 a8, .slice p9 n9 c9], .pointer (some ⟨E, 0, none⟩)] w (fun e w' => e = .returned (.bool (decide (a6 < promN en a8))) ∧ Below w.heap.size w w') := by
 have SX := zh ((St.init w).box [.int .i64 a0, .int .i64 a1, .slice p2 n2 c2, .slice p3 n3 c3, .int .i64 a4, .slice p5 n5 c5, .int .i64 a6, .int .i64 a7, .int .i64 a8, .slice p9 n9 c9] 104)
 have KE := zh hE
 have LE := zh (Array.getElem?_eq_some_iff.1 hE).1
 clear hE
 go_enter Tryz.func72, Tryz.ntmps72
 go_wp2
 generalize (w.alloc (.cells #[.int .i64 a0, .int .i64 a1, .slice p2 n2 c2, .slice p3 n3 c3, .int .i64 a4, .slice p5 n5 c5, .int .i64 a6, .int .i64 a7, .int .i64 a8, .slice p9 n9 c9] 104)) = W at *
 refine wp_region_held_drew (S := (fun w' => w'.heap[E]? = some (.cells #[.slice ea en ec, .int .i64 now, .int .i64 cu, y3, y4, y5, y6, .int .i64 st] 40 (0, 0)) ∧ w'.heap[w.heap.size]? = some (.cells #[.int .i64 a0, .int .i64 a1, .slice p2 n2 c2, .slice p3 n3 c3, .int .i64 a4, .slice p5 n5 c5, .int .i64 a6, .int .i64 a7, .int .i64 a8, .slice p9 n9 c9] 104 (0, 0)))) (by kernel_rfl) ⟨(SX.out.d.block E LE.out).trans KE.out, SX.out.gB 0 rfl⟩ (fun hHeld => ?_)
 replace SX := zh SX.out.drew
 generalize W.drew = W at *
 refine tR (i := 0) (v := ?_) ?_ ?_; rotate_left
 ·
  intro w hSw; (try dsimp only at hSw); obtain ⟨kb, ka⟩ := hSw; have ld := cell8 kb; have la := cell10 ka; clear kb ka; go_simp; try (with_reducible rfl)
 try simp only [Act.put, lA, lB, lC]
 refine tR (i := 1) (v := ?_) ?_ ?_; rotate_left
 ·
  intro w hSw; (try dsimp only at hSw); obtain ⟨kb, ka⟩ := hSw; have ld := cell8 kb; have la := cell10 ka; clear kb ka; go_simp; try (with_reducible rfl)
 try simp only [Act.put, lA, lB, lC]
 refine tR (i := 2) (v := ?_) ?_ ?_; rotate_left
 ·
  intro w hSw; (try dsimp only at hSw); obtain ⟨kb, ka⟩ := hSw; have ld := cell8 kb; have la := cell10 ka; clear kb ka; go_simp; try (with_reducible rfl)
 try simp only [Act.put, lA, lB, lC]
 refine tR (i := 3) (v := ?_) ?_ ?_; rotate_left
 ·
  intro w hSw; (try dsimp only at hSw); obtain ⟨kb, ka⟩ := hSw; have ld := cell8 kb; have la := cell10 ka; clear kb ka; go_simp; try (with_reducible rfl)
 try simp only [Act.put, lA, lB, lC]
 refine tR (i := 4) (v := ?_) ?_ ?_; rotate_left
 ·
  intro w hSw; (try dsimp only at hSw); obtain ⟨kb, ka⟩ := hSw; have ld := cell8 kb; have la := cell10 ka; clear kb ka; go_simp; try (with_reducible rfl)
 try simp only [Act.put, lA, lB, lC]
 refine tR (i := 5) (v := ?_) ?_ ?_; rotate_left
 ·
  intro w hSw; (try dsimp only at hSw); obtain ⟨kb, ka⟩ := hSw; have ld := cell8 kb; have la := cell10 ka; clear kb ka; go_simp; try (with_reducible rfl)
 try simp only [Act.put, lA, lB, lC]
 refine rA 6 (fun K hK => ?_)
 go_simp
 refine (promised_any ea en ec now a8 _ hn).mono ?_
 rintro e W4 ⟨rfl, c⟩
 replace SX := zh (SX.out.below c)
 clear c
 refine hK.out _ _ ⟨(SX.out.d.block E LE.out).trans KE.out, SX.out.gB 0 rfl⟩ (fun hHeld => ?_)
 clear hK K
 try simp only [Act.put, lA, lB, lC]
 refine tR (i := 7) (v := ?_) ?_ ?_; rotate_left
 ·
  intro w hSw; (try dsimp only at hSw); obtain ⟨kb, ka⟩ := hSw; have ld := cell8 kb; have la := cell10 ka; clear kb ka; go_simp; try (with_reducible rfl)
 try simp only [Act.put, lA, lB, lC]
 refine tR (i := 8) (v := ?_) ?_ ?_; rotate_left
 ·
  intro w hSw; (try dsimp only at hSw); obtain ⟨kb, ka⟩ := hSw; have ld := cell8 kb; have la := cell10 ka; clear kb ka; go_simp; try (with_reducible rfl)
 try simp only [Act.put, lA, lB, lC]
 refine wpAnyH_done (by kernel_rfl) ?_ _
 clear hHeld
 go_wp2
 go_ret
 exact ⟨rfl, SX.out.d⟩
set_option maxHeartbeats 8000000 in
theorem allActs (now cu st : Int) (ea : Option Addr) (en ec : Nat) (hn : en ≤ 1048576) (y3 y4 y5 y6 : Value) (B : Nat) (v : Value) (l : List ActD) (w : World) (hB : w.heap[B]? = some (.cells #[.slice ea en ec, .int .i64 now, .int .i64 cu, y3, y4, y5, y6, .int .i64 st] 40 (0, 0))) (h : SlR tActive w v l) (hs : zL tActive l ≤ 1048576) :
  Calls Tryz.prog 71 #[v, .func (.func 72) #[] #[.pointer (some ⟨B, 0, none⟩)]] w (fun e w' => e = .returned (.bool (l.all (actOk en))) ∧ Below w.heap.size w w') := by
 have hlen := zL_len hs
 have HS := zh hs
 have H := zh h
 have BB := zh hB
 obtain ⟨a, cap, rfl⟩ := slR_len h
 clear h hs hB
 go_enter Tryz.func71, Tryz.ntmps71
 go_wp2
 go_loopw [9] (fun i wr => ∃ k : Nat, k ≤ l.length ∧ i = .int .i64 k ∧ Hid (AllTo (actOk en) a0D l k) ∧ Below w.heap.size w wr) (fun i _ => l.length - (intOf i).toNat)
 case atStart => exact ⟨0, Nat.zero_le _, rfl, zh (allTo_zero _ _ _), Below.refl _ _⟩
 case round =>
  obtain ⟨k, hk, rfl, hno, c⟩ := hrel
  have cw := zh c
  by_cases hlt : k < l.length
  ·
   have i1 : (0 : Int) ≤ (k : Int) := by omega
   have i2 : (k : Int) < (l.length : Int) := by omega
   have hz := zL_at HS.out hlt
   change tActive.sz (l.getD k a0D) ≤ 1048576 at hz
   have HST : Hid ((actOk en) (l.getD k a0D) = true → AllTo (actOk en) a0D l (k + 1)) := zh (fun g => allTo_step hno.out g)
   have HNO : Hid ((actOk en) (l.getD k a0D) = false → l.all (actOk en) = false) := zh (fun g => allB_no a0D hlt g)
   obtain ⟨b, off, cap', p2, c2, p3, c3, p5, c5, p9, c9, hv, hbl, e0, e1, e2, e3, e4, e5, e6, e7, e8, e9, s2, s3, s5, s9⟩ := act_at (slR_below tActive_law H.out c) hlt
   simp only [Value.slice.injEq] at hv
   obtain ⟨rfl, _, rfl⟩ := hv
   generalize l.getD k a0D = x at *
   obtain ⟨⟨a0, a1, x2, x3⟩, a4, x5, a6, a7, a8, x9⟩ := x
   dsimp only at *
   have hal : Below wr.heap.size wr (wr.alloc (.cells #[.int .i64 a0, .int .i64 a1, .slice p2 x2.length c2, .slice p3 x3.length c3, .int .i64 a4, .slice p5 x5.length c5, .int .i64 a6, .int .i64 a7, .int .i64 a8, .slice p9 x9.length c9] 104)) := (Below.refl _ _).alloc (Nat.le_refl _) _
   have HC0 := kptClos2 now cu st ea en ec hn y3 y4 y5 y6 a0 a1 a4 a6 a7 a8 p2 p3 p5 p9 x2.length c2 x3.length c3 x5.length c5 x9.length c9 B _ (((cw.out.trans (hal.mono cw.out.size)).block B (Array.getElem?_eq_some_iff.1 BB.out).1).trans BB.out)
   have HC := zh (HC0.mono (fun e w' hh => (⟨hh.1, hal.trans (hh.2.mono hal.size)⟩ : e = .returned (.bool (decide (a6 < promN en a8))) ∧ Below wr.heap.size wr w')))
   clear HC0 hal s2 s3 s5 s9 hz hbl
   change Hid (decide (a6 < promN en a8) = true → _) at HST
   change Hid (decide (a6 < promN en a8) = false → _) at HNO
   clear hno c
   obtain ⟨bv, hbv⟩ : ∃ bv, bv = decide (a6 < promN en a8) := ⟨_, rfl⟩
   rw [← hbv] at HC HST HNO
   clear hbv
   cases bv with
   | true =>
    have HT := zh (HST.out rfl)
    clear HST HNO
    go_wp2_with fail
    refine HC.out.mono ?_
    rintro e w2 ⟨rfl, c2⟩
    have cw2 := zh (cw.out.trans (c2.mono cw.out.size))
    clear c2 HC e0 e1 e2 e3 e4 e5 e6 e7 e8 e9
    go_wp2
    go_roundw
    case rel => exact ⟨k + 1, by omega, by go_num, HT, cw2.out⟩
    case measure => simp [intOf]; omega
   | false =>
    have HF := zh (HNO.out rfl)
    clear HST HNO
    go_wp2_with fail
    refine HC.out.mono ?_
    rintro e w2 ⟨rfl, c2⟩
    have cw2 := zh (cw.out.trans (c2.mono cw.out.size))
    clear c2 HC e0 e1 e2 e3 e4 e5 e6 e7 e8 e9
    go_wp2
    go_ret
    exact ⟨ret_b HF.out.symm, cw2.out⟩
  ·
   obtain rfl : k = l.length := by omega
   have HA := zh (allB_yes (p := actOk en) a0D hno.out)
   clear hno c
   go_wp2
   go_ret
   exact ⟨ret_b HA.out.symm, cw.out⟩
set_option maxHeartbeats 16000000 in
theorem implIsPromiseKept (now cu st : Int) (sv ov av dv lv : Value) (ss : List (List VerD)) (os : List Int) (qs : List ActD) (ds : List FinD) (ls : List ChargeD) (w : World) (hT : OrdT w)
  (h0 : SlR tVersionS w sv ss) (h3 : SlR tInt w ov os) (h4 : SlR tActive w av qs) (h5 : SlR tFinished w dv ds) (h6 : SlR tCharge w lv ls) (hs : zL tVersionS ss + zL tInt os + zL tActive qs + zL tFinished ds + zL tCharge ls ≤ 1048576) :
  Calls Tryz.prog 19 #[.agg #[sv, .int .i64 now, .int .i64 cu, ov, av, dv, lv, .int .i64 st]] w (fun e w' => e = .returned (.bool (keptB ((ss, now), cu, os, qs, ds, ls, st))) ∧ Below w.heap.size w w') := by
 have S0 : Hid (zL tVersionS ss ≤ 1048576) := zh (by omega)
 have S3 : Hid (zL tInt os ≤ 1048576) := zh (by omega)
 have S4 : Hid (zL tActive qs ≤ 1048576) := zh (by omega)
 have S5 : Hid (zL tFinished ds ≤ 1048576) := zh (by omega)
 have S6 : Hid (zL tCharge ls ≤ 1048576) := zh (by omega)
 have HS := zh hs
 clear hs
 obtain ⟨e0, n0, rfl⟩ := slR_len h0
 have H0 := zh h0
 obtain ⟨e3, n3, rfl⟩ := slR_len h3
 have H3 := zh h3
 obtain ⟨e4, n4, rfl⟩ := slR_len h4
 have H4 := zh h4
 obtain ⟨e5, n5, rfl⟩ := slR_len h5
 have H5 := zh h5
 obtain ⟨e6, n6, rfl⟩ := slR_len h6
 have H6 := zh h6
 clear h0 h3 h4 h5 h6
 have N0 := zL_len S0.out
 have q1 : (0 : Int) ≤ (ss.length : Int) * (ss.length : Int) := Int.mul_nonneg (by omega) (by omega)
 have q2 : (ss.length : Int) * (ss.length : Int) ≤ 1099511627776 := by
  have := Int.mul_le_mul (show (ss.length : Int) ≤ 1048576 by omega) (show (ss.length : Int) ≤ 1048576 by omega) (by omega) (by decide)
  omega
 have HTB := zh hT
 clear hT
 have HMF : Hid (∀ (fn : Fn) (first cap : Array Value) (w : World), (Instr.makeFunc fn first cap).run Tryz.prog w = .ok (.func fn first cap) w) := zh (fun _ _ _ _ => rfl)
 have SQ := zh ((St.init w).box [.slice e0 ss.length n0, .int .i64 now, .int .i64 cu, .slice e3 os.length n3, .slice e4 qs.length n4, .slice e5 ds.length n5, .slice e6 ls.length n6, .int .i64 st] 40)
 go_enter Tryz.func19, Tryz.ntmps19
 have ld := cell8 (SQ.out.gB 0 rfl)
 go_wp2_with fail
 clear ld
 generalize (w.alloc (.cells #[.slice e0 ss.length n0, .int .i64 now, .int .i64 cu, .slice e3 os.length n3, .slice e4 qs.length n4, .slice e5 ds.length n5, .slice e6 ls.length n6, .int .i64 st] 40)) = W0 at *
 refine (implIsEngine now cu st (.slice e0 ss.length n0) (.slice e3 os.length n3) (.slice e4 qs.length n4) (.slice e5 ds.length n5) (.slice e6 ls.length n6) ss os qs ds ls _ (HTB.out.on SQ.out.d) (slR_below tVersionS_law H0.out SQ.out.d) (slR_below tInt_law H3.out SQ.out.d) (slR_below tActive_law H4.out SQ.out.d) (slR_below tFinished_law H5.out SQ.out.d) (slR_below tCharge_law H6.out SQ.out.d) HS.out).mono ?_
 rintro e W1 ⟨rfl, c⟩
 replace SQ := zh (SQ.out.below c)
 clear c
 rcases Bool.eq_false_or_eq_true (engB ((ss, now), cu, os, qs, ds, ls, st)) with he | he
 rotate_left
 ·
  rw [he]
  have HK := zh (kept_no1 he)
  clear he
  go_wp2
  go_ret
  exact ⟨ret_b HK.out.symm, SQ.out.d⟩
 rw [he]
 have HE := zh he
 clear he
 have ld := cell8 (SQ.out.gB 0 rfl)
 go_wp2_with fail
 clear ld
 refine (promised_any e0 ss.length n0 now 32 _ N0).mono ?_
 rintro e W2 ⟨rfl, c⟩
 replace SQ := zh (SQ.out.below c)
 clear c
 rw [promN_max]
 obtain ⟨sq, hsq⟩ : ∃ sq, sq = (ss.length : Int) * (ss.length : Int) := ⟨_, rfl⟩
 rw [← hsq]
 have HSQ := zh hsq
 clear hsq q1 q2
 replace SQ := zh (SQ.out.box [.int .i64 sq] 3)
 have ld := cell8 (SQ.out.gB 1 rfl)
 have hmf := HMF.out
 go_wp2_with fail
 clear ld hmf
 generalize W2.heap.size = B at *
 generalize (W2.alloc (.cells #[.int .i64 sq] 3)) = W3 at *
 refine (allDone sq B _ ds _ (SQ.out.gB 0 rfl) (slR_below tFinished_law H5.out SQ.out.d) S5.out).mono ?_
 rintro e W4 ⟨rfl, c⟩
 replace SQ := zh (SQ.out.below c)
 clear c
 have HDK : Hid (ds.all (stepOk sq) = ds.all (doneOk ss.length)) := zh (by rw [HSQ.out]; rfl)
 rw [HDK.out]
 rcases Bool.eq_false_or_eq_true (ds.all (doneOk ss.length)) with hd | hd
 rotate_left
 ·
  rw [hd]
  have HK := zh (kept_no2 (e := ((ss, now), cu, os, qs, ds, ls, st)) hd)
  clear hd
  have ld := cell8 (SQ.out.gB 1 rfl)
  have hmf := HMF.out
  go_wp2
  go_ret
  exact ⟨ret_b HK.out.symm, SQ.out.d⟩
 rw [hd]
 have HDN := zh hd
 clear hd
 have ld := cell8 (SQ.out.gB 1 rfl)
 have hmf := HMF.out
 go_wp2_with fail
 clear ld hmf
 refine (allActs now cu st e0 ss.length n0 N0 _ _ _ _ w.heap.size _ qs _ (SQ.out.gB 1 rfl) (slR_below tActive_law H4.out SQ.out.d) S4.out).mono ?_
 rintro e W5 ⟨rfl, c⟩
 replace SQ := zh (SQ.out.below c)
 clear c
 have HK : Hid (qs.all (actOk ss.length) = keptB ((ss, now), cu, os, qs, ds, ls, st)) := zh (by
  rcases Bool.eq_false_or_eq_true (qs.all (actOk ss.length)) with g | g
  ·
   rw [g]; exact (kept_yes (e := ((ss, now), cu, os, qs, ds, ls, st)) HE.out HDN.out g).symm
  ·
   rw [g]; exact (kept_no3 (e := ((ss, now), cu, os, qs, ds, ls, st)) g).symm)
 rw [HK.out]
 go_wp2
 go_ret
 exact ⟨rfl, SQ.out.d⟩
end Go.Proofs.YtnepfacnmaoieaaGreatDoor
