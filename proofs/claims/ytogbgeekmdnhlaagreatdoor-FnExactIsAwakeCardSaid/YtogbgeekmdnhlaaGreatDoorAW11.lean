/-
 Texts of the proof, merged: OrdP, EngP4, EngSpec1, EngSpec2, VerSpec1, VerSpec2, VerSpec4, IdxSpec1.
-/
import Derived.Test.YtogbgeekmdnhlaaGreatDoorAW1
import Derived.Test.YtogbgeekmdnhlaaGreatDoorAW2
import Derived.Test.YtogbgeekmdnhlaaGreatDoorAW3
import Derived.Test.YtogbgeekmdnhlaaGreatDoorAW5
import Derived.Test.YtogbgeekmdnhlaaGreatDoorAW8
import Derived.Test.YtogbgeekmdnhlaaGreatDoorAW9
import Derived.Test.YtogbgeekmdnhlaaGreatDoorAW10
import Derived.Test.YtogbgeekmdnhlaaGreatDoorRows
namespace Go.Proofs.YtogbgeekmdnhlaaGreatDoor
open Go.RowKit
set_option maxRecDepth 100000
set_option linter.unusedVariables false
set_option linter.unusedSimpArgs false
def ordC : List Int := [0, 1, 2, 0, 2, 1, 1, 0, 2, 1, 2, 0, 2, 0, 1, 2, 1, 0]
/-- The table of orders reads as its text lays it. -/
def OrdT (w : World) : Prop := ∀ i, i < 18 → w.cell? ⟨0, i, none⟩ = some (.int .i64 (ordC.getD i 0))
theorem OrdT.on {w w' : World} (h : OrdT w) (hb : Below w.heap.size w w') : OrdT w' := by
 intro i hi
 have h1 := h i hi
 have hlt : 0 < w.heap.size := by
  cases hc : w.heap[0]? with
  | none => simp [World.cell?, hc] at h1
  | some x => exact (Array.getElem?_eq_some_iff.1 hc).1
 exact (hb.cell (p := ⟨0, i, none⟩) hlt).trans h1
/-- The k-th order's fields. -/
def oN (k j : Nat) : Int := (ordersL.getD k []).getD j 0
theorem oN_in {k : Nat} (h : k < 6) : orderB [oN k 0, oN k 1, oN k 2] = true := by
 rcases (show k = 0 ∨ k = 1 ∨ k = 2 ∨ k = 3 ∨ k = 4 ∨ k = 5 by omega) with rfl | rfl | rfl | rfl | rfl | rfl <;> decide
theorem order_all6 {os : List Int} (h : ∀ j, j < 6 → ¬ [oN j 0, oN j 1, oN j 2] = os) : orderB os = false := by
 cases hc : orderB os with
 | false => rfl
 | true =>
  have hm := order_in.1 hc
  simp only [ordersL, List.mem_cons, List.not_mem_nil, or_false] at hm
  rcases hm with rfl | rfl | rfl | rfl | rfl | rfl
  ·
   exact absurd rfl (h 0 (by omega))
  ·
   exact absurd rfl (h 1 (by omega))
  ·
   exact absurd rfl (h 2 (by omega))
  ·
   exact absurd rfl (h 3 (by omega))
  ·
   exact absurd rfl (h 4 (by omega))
  ·
   exact absurd rfl (h 5 (by omega))
theorem idxO0 (w : World) : Sem.run Tryz.prog (Instr.index 210 (.agg #[.int .i64 0, .int .i64 1, .int .i64 2, .int .i64 0, .int .i64 2, .int .i64 1, .int .i64 1, .int .i64 0, .int .i64 2, .int .i64 1, .int .i64 2, .int .i64 0, .int .i64 2, .int .i64 0, .int .i64 1, .int .i64 2, .int .i64 1, .int .i64 0]) (.int .i64 0)) w = .ok (.agg #[.int .i64 0, .int .i64 1, .int .i64 2]) w := by
 have u := Tryz.underlying210
 have z := Tryz.sizeOf160
 have g := Tryz.isAgg160
 unfold Instr.index
 go_simp
theorem idxO1 (w : World) : Sem.run Tryz.prog (Instr.index 210 (.agg #[.int .i64 0, .int .i64 1, .int .i64 2, .int .i64 0, .int .i64 2, .int .i64 1, .int .i64 1, .int .i64 0, .int .i64 2, .int .i64 1, .int .i64 2, .int .i64 0, .int .i64 2, .int .i64 0, .int .i64 1, .int .i64 2, .int .i64 1, .int .i64 0]) (.int .i64 1)) w = .ok (.agg #[.int .i64 0, .int .i64 2, .int .i64 1]) w := by
 have u := Tryz.underlying210
 have z := Tryz.sizeOf160
 have g := Tryz.isAgg160
 unfold Instr.index
 go_simp
theorem idxO2 (w : World) : Sem.run Tryz.prog (Instr.index 210 (.agg #[.int .i64 0, .int .i64 1, .int .i64 2, .int .i64 0, .int .i64 2, .int .i64 1, .int .i64 1, .int .i64 0, .int .i64 2, .int .i64 1, .int .i64 2, .int .i64 0, .int .i64 2, .int .i64 0, .int .i64 1, .int .i64 2, .int .i64 1, .int .i64 0]) (.int .i64 2)) w = .ok (.agg #[.int .i64 1, .int .i64 0, .int .i64 2]) w := by
 have u := Tryz.underlying210
 have z := Tryz.sizeOf160
 have g := Tryz.isAgg160
 unfold Instr.index
 go_simp
theorem idxO3 (w : World) : Sem.run Tryz.prog (Instr.index 210 (.agg #[.int .i64 0, .int .i64 1, .int .i64 2, .int .i64 0, .int .i64 2, .int .i64 1, .int .i64 1, .int .i64 0, .int .i64 2, .int .i64 1, .int .i64 2, .int .i64 0, .int .i64 2, .int .i64 0, .int .i64 1, .int .i64 2, .int .i64 1, .int .i64 0]) (.int .i64 3)) w = .ok (.agg #[.int .i64 1, .int .i64 2, .int .i64 0]) w := by
 have u := Tryz.underlying210
 have z := Tryz.sizeOf160
 have g := Tryz.isAgg160
 unfold Instr.index
 go_simp
theorem idxO4 (w : World) : Sem.run Tryz.prog (Instr.index 210 (.agg #[.int .i64 0, .int .i64 1, .int .i64 2, .int .i64 0, .int .i64 2, .int .i64 1, .int .i64 1, .int .i64 0, .int .i64 2, .int .i64 1, .int .i64 2, .int .i64 0, .int .i64 2, .int .i64 0, .int .i64 1, .int .i64 2, .int .i64 1, .int .i64 0]) (.int .i64 4)) w = .ok (.agg #[.int .i64 2, .int .i64 0, .int .i64 1]) w := by
 have u := Tryz.underlying210
 have z := Tryz.sizeOf160
 have g := Tryz.isAgg160
 unfold Instr.index
 go_simp
theorem idxO5 (w : World) : Sem.run Tryz.prog (Instr.index 210 (.agg #[.int .i64 0, .int .i64 1, .int .i64 2, .int .i64 0, .int .i64 2, .int .i64 1, .int .i64 1, .int .i64 0, .int .i64 2, .int .i64 1, .int .i64 2, .int .i64 0, .int .i64 2, .int .i64 0, .int .i64 1, .int .i64 2, .int .i64 1, .int .i64 0]) (.int .i64 5)) w = .ok (.agg #[.int .i64 2, .int .i64 1, .int .i64 0]) w := by
 have u := Tryz.underlying210
 have z := Tryz.sizeOf160
 have g := Tryz.isAgg160
 unfold Instr.index
 go_simp
theorem idxO {k : Nat} (h : k < 6) (w : World) : Sem.run Tryz.prog (Instr.index 210 (.agg #[.int .i64 0, .int .i64 1, .int .i64 2, .int .i64 0, .int .i64 2, .int .i64 1, .int .i64 1, .int .i64 0, .int .i64 2, .int .i64 1, .int .i64 2, .int .i64 0, .int .i64 2, .int .i64 0, .int .i64 1, .int .i64 2, .int .i64 1, .int .i64 0]) (.int .i64 (k : Int))) w = .ok (.agg #[.int .i64 (oN k 0), .int .i64 (oN k 1), .int .i64 (oN k 2)]) w := by
 rcases (show k = 0 ∨ k = 1 ∨ k = 2 ∨ k = 3 ∨ k = 4 ∨ k = 5 by omega) with rfl | rfl | rfl | rfl | rfl | rfl
 ·
  exact idxO0 w
 ·
  exact idxO1 w
 ·
  exact idxO2 w
 ·
  exact idxO3 w
 ·
  exact idxO4 w
 ·
  exact idxO5 w
theorem ints_three {w : World} {b : Nat} {x y z : Int} {t : TypeId} (h : w.heap[b]? = some (.cells #[.int .i64 x, .int .i64 y, .int .i64 z] t (0, 0))) : Ints w (.slice (some ⟨b, 0, none⟩) 3 3) [x, y, z] := by
 refine Or.inr ⟨b, 0, 3, rfl, Nat.le_refl _, (Array.getElem?_eq_some_iff.1 h).1, fun j hj => ?_⟩
 rw [Nat.zero_add, cell_of_row w b j _ _ _ h]
 match j, hj with
 | 0, _ => rfl
 | 1, _ => rfl
 | 2, _ => rfl
set_option maxHeartbeats 16000000 in
theorem implOrderOf (ov : Value) (os : List Int) (w : World) (h : Ints w ov os) (hn : os.length ≤ 1048576) (ht : OrdT w) :
  Calls Tryz.prog 122 #[ov] w fun e w' => ((orderB os = true ∧ e = .returned (.tuple #[.agg #[.int .i64 (os.getD 0 0), .int .i64 (os.getD 1 0), .int .i64 (os.getD 2 0)], .bool true])) ∨ (orderB os = false ∧ e = .returned (.tuple #[.agg #[.int .i64 0, .int .i64 0, .int .i64 0], .bool false]))) ∧ Below w.heap.size w w' := by
 obtain ⟨oa, oc, rfl⟩ := ints_len h
 have H := Lib.hid h
 have HN := Lib.hid hn
 have hal : Below w.heap.size w (w.alloc (.cells #[.int .i64 0, .int .i64 0, .int .i64 0] 160)) := (Below.refl _ _).alloc (Nat.le_refl _) _
 have B0 : Hid ((w.alloc (.cells #[.int .i64 0, .int .i64 0, .int .i64 0] 160)).heap[w.heap.size]? = some (.cells #[.int .i64 0, .int .i64 0, .int .i64 0] 160 (0, 0))) := Lib.hid (heap_alloc_new w _)
 have Y0 : Hid (w.heap.size < (w.alloc (.cells #[.int .i64 0, .int .i64 0, .int .i64 0] 160)).heap.size) := Lib.hid (by simp)
 have T0 := ht.on hal
 have d := Lib.hid hal
 clear h hn ht hal
 have t0 : (w.alloc (.cells #[.int .i64 0, .int .i64 0, .int .i64 0] 160)).cell? ⟨0, 0, none⟩ = some (.int .i64 0) := T0 0 (by omega)
 have t1 : (w.alloc (.cells #[.int .i64 0, .int .i64 0, .int .i64 0] 160)).cell? ⟨0, 1, none⟩ = some (.int .i64 1) := T0 1 (by omega)
 have t2 : (w.alloc (.cells #[.int .i64 0, .int .i64 0, .int .i64 0] 160)).cell? ⟨0, 2, none⟩ = some (.int .i64 2) := T0 2 (by omega)
 have t3 : (w.alloc (.cells #[.int .i64 0, .int .i64 0, .int .i64 0] 160)).cell? ⟨0, 3, none⟩ = some (.int .i64 0) := T0 3 (by omega)
 have t4 : (w.alloc (.cells #[.int .i64 0, .int .i64 0, .int .i64 0] 160)).cell? ⟨0, 4, none⟩ = some (.int .i64 2) := T0 4 (by omega)
 have t5 : (w.alloc (.cells #[.int .i64 0, .int .i64 0, .int .i64 0] 160)).cell? ⟨0, 5, none⟩ = some (.int .i64 1) := T0 5 (by omega)
 have t6 : (w.alloc (.cells #[.int .i64 0, .int .i64 0, .int .i64 0] 160)).cell? ⟨0, 6, none⟩ = some (.int .i64 1) := T0 6 (by omega)
 have t7 : (w.alloc (.cells #[.int .i64 0, .int .i64 0, .int .i64 0] 160)).cell? ⟨0, 7, none⟩ = some (.int .i64 0) := T0 7 (by omega)
 have t8 : (w.alloc (.cells #[.int .i64 0, .int .i64 0, .int .i64 0] 160)).cell? ⟨0, 8, none⟩ = some (.int .i64 2) := T0 8 (by omega)
 have t9 : (w.alloc (.cells #[.int .i64 0, .int .i64 0, .int .i64 0] 160)).cell? ⟨0, 9, none⟩ = some (.int .i64 1) := T0 9 (by omega)
 have t10 : (w.alloc (.cells #[.int .i64 0, .int .i64 0, .int .i64 0] 160)).cell? ⟨0, 10, none⟩ = some (.int .i64 2) := T0 10 (by omega)
 have t11 : (w.alloc (.cells #[.int .i64 0, .int .i64 0, .int .i64 0] 160)).cell? ⟨0, 11, none⟩ = some (.int .i64 0) := T0 11 (by omega)
 have t12 : (w.alloc (.cells #[.int .i64 0, .int .i64 0, .int .i64 0] 160)).cell? ⟨0, 12, none⟩ = some (.int .i64 2) := T0 12 (by omega)
 have t13 : (w.alloc (.cells #[.int .i64 0, .int .i64 0, .int .i64 0] 160)).cell? ⟨0, 13, none⟩ = some (.int .i64 0) := T0 13 (by omega)
 have t14 : (w.alloc (.cells #[.int .i64 0, .int .i64 0, .int .i64 0] 160)).cell? ⟨0, 14, none⟩ = some (.int .i64 1) := T0 14 (by omega)
 have t15 : (w.alloc (.cells #[.int .i64 0, .int .i64 0, .int .i64 0] 160)).cell? ⟨0, 15, none⟩ = some (.int .i64 2) := T0 15 (by omega)
 have t16 : (w.alloc (.cells #[.int .i64 0, .int .i64 0, .int .i64 0] 160)).cell? ⟨0, 16, none⟩ = some (.int .i64 1) := T0 16 (by omega)
 have t17 : (w.alloc (.cells #[.int .i64 0, .int .i64 0, .int .i64 0] 160)).cell? ⟨0, 17, none⟩ = some (.int .i64 0) := T0 17 (by omega)
 clear T0
 go_enter Tryz.func122, Tryz.ntmps122
 go_wp2
 generalize w.alloc (.cells #[.int .i64 0, .int .i64 0, .int .i64 0] 160) = W at *
 clear t0 t1 t2 t3 t4 t5 t6 t7 t8 t9 t10 t11 t12 t13 t14 t15 t16 t17
 go_loopw [7] (fun i wr => ∃ k : Nat, k ≤ 6 ∧ i = .int .i64 k ∧ Hid (∀ j, j < k → ¬ [oN j 0, oN j 1, oN j 2] = os) ∧ Hid (wr.heap[w.heap.size]? = some (.cells #[.int .i64 0, .int .i64 0, .int .i64 0] 160 (0, 0))) ∧ Hid (Below w.heap.size w wr) ∧ Hid (w.heap.size < wr.heap.size)) (fun i _ => 6 - (intOf i).toNat)
 case atStart => exact ⟨0, Nat.zero_le _, rfl, Lib.hid (fun j hj => by omega), B0, d, Y0⟩
 case round =>
  clear B0 d Y0
  obtain ⟨k, hk, rfl, hno, B0, d, Y0⟩ := hrel
  by_cases hlt : k < 6
  ·
   have hI := idxO hlt
   have HIN := Lib.hid (oN_in hlt)
   have i1 : (0 : Int) ≤ (k : Int) := by omega
   have i2 : (k : Int) < 6 := by omega
   have HST : Hid (¬ [oN k 0, oN k 1, oN k 2] = os → ∀ j, j < k + 1 → ¬ [oN j 0, oN j 1, oN j 2] = os) := Lib.hid (fun he j hj => by
    by_cases e : j = k
    ·
     exact e ▸ he
    ·
     exact hno.out j (by omega))
   clear hno
   generalize oN k 0 = x at *
   generalize oN k 1 = y at *
   generalize oN k 2 = z at *
   have hal : Below wr.heap.size wr (wr.alloc (.cells #[.int .i64 x, .int .i64 y, .int .i64 z] 160)) := (Below.refl _ _).alloc (Nat.le_refl _) _
   have B1 : Hid ((wr.alloc (.cells #[.int .i64 x, .int .i64 y, .int .i64 z] 160)).heap[wr.heap.size]? = some (.cells #[.int .i64 x, .int .i64 y, .int .i64 z] 160 (0, 0))) := Lib.hid (heap_alloc_new wr _)
   have HQ := Lib.hid (fun w h g => equalInts_any (.slice (some ⟨wr.heap.size, 0, none⟩) 3 3) (.slice oa os.length oc) [x, y, z] os w h g (by show 3 ≤ 1048576; decide) HN.out)
   by_cases he : [x, y, z] = os
   ·
    rw [decide_eq_true he] at HQ
    have HE := Lib.hid he
    clear he HST
    go_wp2_with fail
    generalize wr.alloc (.cells #[.int .i64 x, .int .i64 y, .int .i64 z] 160) = W2 at *
    have d2 := Lib.hid (d.out.trans (hal.mono d.out.size))
    refine (HQ.out W2 (ints_three B1.out) (ints_below H.out d2.out)).mono ?_
    rintro e w3 ⟨rfl, c3⟩
    have B1' := (c3.block wr.heap.size (Array.getElem?_eq_some_iff.1 B1.out).1).trans B1.out
    have B0' := (c3.block w.heap.size (by have := Y0.out; have := hal.size; omega)).trans ((hal.block w.heap.size Y0.out).trans B0.out)
    have d3 := d2.out.trans (c3.mono d2.out.size)
    have p0 := (cell_of_row w3 _ 0 _ _ _ B1').trans (show _ = some (Value.int .i64 x) from rfl)
    have p1 := (cell_of_row w3 _ 1 _ _ _ B1').trans (show _ = some (Value.int .i64 y) from rfl)
    have p2 := (cell_of_row w3 _ 2 _ _ _ B1').trans (show _ = some (Value.int .i64 z) from rfl)
    have q0 := (cell_of_row w3 _ 0 _ _ _ B0').trans (show _ = some (Value.int .i64 0) from rfl)
    have q1 := (cell_of_row w3 _ 1 _ _ _ B0').trans (show _ = some (Value.int .i64 0) from rfl)
    have q2 := (cell_of_row w3 _ 2 _ _ _ B0').trans (show _ = some (Value.int .i64 0) from rfl)
    have f0 := frozen_of_row w3 _ 0 _ _ B0'
    have f1 := frozen_of_row w3 _ 1 _ _ B0'
    have f2 := frozen_of_row w3 _ 2 _ _ B0'
    have D := Lib.hid (((d3.setCell (p := ⟨w.heap.size, 0, none⟩) (Nat.le_refl _) (.int .i64 x)).setCell (p := ⟨w.heap.size, 1, none⟩) (Nat.le_refl _) (.int .i64 y)).setCell (p := ⟨w.heap.size, 2, none⟩) (Nat.le_refl _) (.int .i64 z))
    have r := heap_setCell_same _ w.heap.size 2 _ _ (.int .i64 z) (heap_setCell_same _ w.heap.size 1 _ _ (.int .i64 y) (heap_setCell_same w3 w.heap.size 0 _ _ (.int .i64 x) B0'))
    simp at r
    have e0 := (cell_of_row _ w.heap.size 0 _ _ _ r).trans (show _ = some (Value.int .i64 x) from rfl)
    have e1 := (cell_of_row _ w.heap.size 1 _ _ _ r).trans (show _ = some (Value.int .i64 y) from rfl)
    have e2 := (cell_of_row _ w.heap.size 2 _ _ _ r).trans (show _ = some (Value.int .i64 z) from rfl)
    clear r d3 c3 B0' B1' hal
    go_wp2
    refine bodyPost_ret (v := .tuple #[.agg #[.int .i64 x, .int .i64 y, .int .i64 z], .bool true]) ?_ rfl ?_
    ·
     simp [results, Tryz.f122, go_sem, e0, e1, e2]
    ·
     have he := HE.out
     subst he
     exact ⟨Or.inl ⟨HIN.out, rfl⟩, D.out⟩
   ·
    rw [decide_eq_false he] at HQ
    have HA := Lib.hid (HST.out he)
    clear he HST
    go_wp2_with fail
    generalize wr.alloc (.cells #[.int .i64 x, .int .i64 y, .int .i64 z] 160) = W2 at *
    have d2 := Lib.hid (d.out.trans (hal.mono d.out.size))
    refine (HQ.out W2 (ints_three B1.out) (ints_below H.out d2.out)).mono ?_
    rintro e w3 ⟨rfl, c3⟩
    have B0' := Lib.hid ((c3.block w.heap.size (by have := Y0.out; have := hal.size; omega)).trans ((hal.block w.heap.size Y0.out).trans B0.out))
    have d3 := Lib.hid (d2.out.trans (c3.mono d2.out.size))
    have Y3 : Hid (w.heap.size < w3.heap.size) := Lib.hid (by have := Y0.out; have := hal.size; have := c3.size; omega)
    clear c3 hal B1 hI
    go_wp2
    go_roundw
    case rel => exact ⟨k + 1, by omega, by go_num, HA, B0', d3, Y3⟩
    case measure => simp [intOf]; omega
  ·
   obtain rfl : k = 6 := by omega
   have HF := Lib.hid (order_all6 hno.out)
   clear hno
   have q0 := (cell_of_row wr _ 0 _ _ _ B0.out).trans (show _ = some (Value.int .i64 0) from rfl)
   have q1 := (cell_of_row wr _ 1 _ _ _ B0.out).trans (show _ = some (Value.int .i64 0) from rfl)
   have q2 := (cell_of_row wr _ 2 _ _ _ B0.out).trans (show _ = some (Value.int .i64 0) from rfl)
   have f0 := frozen_of_row wr _ 0 _ _ B0.out
   have f1 := frozen_of_row wr _ 1 _ _ B0.out
   have f2 := frozen_of_row wr _ 2 _ _ B0.out
   have D := Lib.hid (((d.out.setCell (p := ⟨w.heap.size, 0, none⟩) (Nat.le_refl _) (.int .i64 0)).setCell (p := ⟨w.heap.size, 1, none⟩) (Nat.le_refl _) (.int .i64 0)).setCell (p := ⟨w.heap.size, 2, none⟩) (Nat.le_refl _) (.int .i64 0))
   have r := heap_setCell_same _ w.heap.size 2 _ _ (.int .i64 0) (heap_setCell_same _ w.heap.size 1 _ _ (.int .i64 0) (heap_setCell_same wr w.heap.size 0 _ _ (.int .i64 0) B0.out))
   simp at r
   have e0 := (cell_of_row _ w.heap.size 0 _ _ _ r).trans (show _ = some (Value.int .i64 0) from rfl)
   have e1 := (cell_of_row _ w.heap.size 1 _ _ _ r).trans (show _ = some (Value.int .i64 0) from rfl)
   have e2 := (cell_of_row _ w.heap.size 2 _ _ _ r).trans (show _ = some (Value.int .i64 0) from rfl)
   clear r
   go_wp2
   refine bodyPost_ret (v := .tuple #[.agg #[.int .i64 0, .int .i64 0, .int .i64 0], .bool false]) ?_ rfl ?_
   ·
    simp [results, Tryz.f122, go_sem, e0, e1, e2]
   ·
    exact ⟨Or.inr ⟨HF.out, rfl⟩, D.out⟩
set_option maxHeartbeats 16000000 in
theorem implIsEngine (now cu st : Int) (sv ov av dv lv : Value) (ss : List (List VerD)) (os : List Int) (qs : List ActD) (ds : List FinD) (ls : List ChargeD) (w : World) (hT : OrdT w)
  (h0 : SlR tVersionS w sv ss) (h3 : SlR tInt w ov os) (h4 : SlR tActive w av qs) (h5 : SlR tFinished w dv ds) (h6 : SlR tCharge w lv ls) (hs : zL tVersionS ss + zL tInt os + zL tActive qs + zL tFinished ds + zL tCharge ls ≤ 1048576) :
  Calls Tryz.prog 61 #[.agg #[sv, .int .i64 now, .int .i64 cu, ov, av, dv, lv, .int .i64 st]] w (fun e w' => e = .returned (.bool (engB ((ss, now), cu, os, qs, ds, ls, st))) ∧ Below w.heap.size w w') := by
 have S0 : Hid (zL tVersionS ss ≤ 1048576) := hd (by omega)
 have S3 : Hid (zL tInt os ≤ 1048576) := hd (by omega)
 have S4 : Hid (zL tActive qs ≤ 1048576) := hd (by omega)
 have S5 : Hid (zL tFinished ds ≤ 1048576) := hd (by omega)
 have S6 : Hid (zL tCharge ls ≤ 1048576) := hd (by omega)
 clear hs
 obtain ⟨sa, sc, rfl⟩ := slR_len h0
 have H0 := hd h0
 obtain ⟨oa, oc, rfl⟩ := slR_len h3
 have H3 := hd h3
 obtain ⟨aa, ac, rfl⟩ := slR_len h4
 have H4 := hd h4
 obtain ⟨da, dc, rfl⟩ := slR_len h5
 have H5 := hd h5
 obtain ⟨la, lc, rfl⟩ := slR_len h6
 have H6 := hd h6
 have N0 := zL_len S0.out; have N3 := zL_len S3.out; have N4 := zL_len S4.out; have N5 := zL_len S5.out; have N6 := zL_len S6.out
 have HTB := hd hT
 clear h0 h3 h4 h5 h6 hT
 have d := hd (show Below w.heap.size w (w.alloc (.cells #[.slice sa ss.length sc, .int .i64 now, .int .i64 cu, .slice oa os.length oc, .slice aa qs.length ac, .slice da ds.length dc, .slice la ls.length lc, .int .i64 st] 40)) from ((Below.refl _ w).alloc (Nat.le_refl _) _))
 have B0 : Hid ((w.alloc (.cells #[.slice sa ss.length sc, .int .i64 now, .int .i64 cu, .slice oa os.length oc, .slice aa qs.length ac, .slice da ds.length dc, .slice la ls.length lc, .int .i64 st] 40)).heap[w.heap.size]? = some (.cells #[.slice sa ss.length sc, .int .i64 now, .int .i64 cu, .slice oa os.length oc, .slice aa qs.length ac, .slice da ds.length dc, .slice la ls.length lc, .int .i64 st] 40 (0, 0))) := hd (by
  exact heap_alloc_new w _)
 have YW : Hid (w.heap.size + 1 ≤ (w.alloc (.cells #[.slice sa ss.length sc, .int .i64 now, .int .i64 cu, .slice oa os.length oc, .slice aa qs.length ac, .slice da ds.length dc, .slice la ls.length lc, .int .i64 st] 40)).heap.size) := hd (by simp [World.size_alloc])
 go_enter Tryz.func61, Tryz.ntmps61
 go_wp2_with fail
 generalize (w.alloc (.cells #[.slice sa ss.length sc, .int .i64 now, .int .i64 cu, .slice oa os.length oc, .slice aa qs.length ac, .slice da ds.length dc, .slice la ls.length lc, .int .i64 st] 40)) = W at *
 have HO := hd (implOrderOf (.slice oa os.length oc) os W (slR_ints (slR_below tInt_law H3.out d.out)) N3 (HTB.out.on d.out))
 refine HO.out.mono ?_
 rintro e W1 ⟨hor, c⟩
 replace B0 := zb c B0
 replace d := zD d c
 have Z_W1 := hd (show W.heap.size ≤ W1.heap.size from c.size)
 clear c HO
 have HX : Hid (∃ z0 z1 z2 : Int, e = .returned (.tuple #[.agg #[.int .i64 z0, .int .i64 z1, .int .i64 z2], .bool (orderB os)])) := hd (by
  rcases hor with ⟨g, rfl⟩ | ⟨g, rfl⟩
  ·
   rw [g]; exact ⟨_, _, _, rfl⟩
  ·
   rw [g]; exact ⟨_, _, _, rfl⟩)
 obtain ⟨z0, z1, z2, rfl⟩ := HX.out
 clear HX hor
 have cp_B0_0 := cls8 B0.out
 have cal : Below W1.heap.size W1 (W1.alloc (.cells #[.int .i64 z0, .int .i64 z1, .int .i64 z2] 160)) := (Below.refl _ _).alloc (Nat.le_refl _) _
 have KB0 := hd ((cal.block w.heap.size (Array.getElem?_eq_some_iff.1 B0.out).1).trans B0.out)
 have k0 := cr 0 (Value.slice sa ss.length sc) KB0.out
 have k1 := cr 1 (Value.int .i64 now) KB0.out
 have k2 := cr 2 (Value.int .i64 cu) KB0.out
 have k3 := cr 3 (Value.slice oa os.length oc) KB0.out
 have k4 := cr 4 (Value.slice aa qs.length ac) KB0.out
 have k5 := cr 5 (Value.slice da ds.length dc) KB0.out
 have k6 := cr 6 (Value.slice la ls.length lc) KB0.out
 have k7 := cr 7 (Value.int .i64 st) KB0.out
 go_wp2_with fail
 clear cp_B0_0 k0 k1 k2 k3 k4 k5 k6 k7 KB0
 generalize hWq : (W1.alloc (.cells #[.int .i64 z0, .int .i64 z1, .int .i64 z2] 160)) = Wq at *
 clear hWq
 replace B0 := zb cal B0
 replace d := zD d cal
 have Z_Wq := hd (show W1.heap.size ≤ Wq.heap.size from cal.size)
 clear cal
 refine (implIsStore (.slice sa ss.length sc) ss now Wq (slR_below tVersionS_law H0.out d.out) S0.out).mono ?_
 rintro e W2 ⟨rfl, c⟩
 replace B0 := zb c B0
 replace d := zD d c
 have Z_W2 := hd (show Wq.heap.size ≤ W2.heap.size from c.size)
 clear c
 rcases Bool.eq_false_or_eq_true (storeB ss now) with hst | hst
 rotate_left
 ·
  rw [hst]
  have HF := hd (eng_no1 (e := ((ss, now), cu, os, qs, ds, ls, st)) hst)
  clear hst
  have cp_B0_0 := cls8 B0.out
  go_wp2
  clear cp_B0_0
  go_ret
  exact ⟨ret_b HF.out.symm, d.out⟩
 rw [hst]
 have HST := hd hst
 clear hst
 have cp_B0_0 := cls8 B0.out
 go_wp2_with fail
 clear cp_B0_0
 refine (hasSegment_any sa ss.length sc now cu W2 N0).mono ?_
 rintro e W1 ⟨rfl, c⟩
 replace B0 := zb c B0
 replace d := zD d c
 have Z_W1 := hd (show W2.heap.size ≤ W1.heap.size from c.size)
 clear c
 rcases Bool.eq_false_or_eq_true (decide (0 ≤ cu ∧ cu < (ss.length : Int))) with hcu | hcu
 rotate_left
 ·
  rw [hcu]
  have HF := hd (eng_no2 (e := ((ss, now), cu, os, qs, ds, ls, st)) (fun g => of_decide_eq_false hcu g.1))
  clear hcu
  have cp_B0_0 := cls8 B0.out
  go_wp2
  clear cp_B0_0
  go_ret
  exact ⟨ret_b HF.out.symm, d.out⟩
 rw [hcu]
 have HCU := hd hcu
 clear hcu
 rcases Bool.eq_false_or_eq_true (orderB os) with hor | hor
 rotate_left
 ·
  rw [hor]
  have HF := hd (eng_no3 (e := ((ss, now), cu, os, qs, ds, ls, st)) hor)
  clear hor
  have cp_B0_0 := cls8 B0.out
  go_wp2
  clear cp_B0_0
  go_ret
  exact ⟨ret_b HF.out.symm, d.out⟩
 rw [hor]
 have HOR := hd hor
 clear hor
 have cp_B0_0 := cls8 B0.out
 go_wp2_with fail
 clear cp_B0_0
 refine (isTime_any st _).mono ?_
 rintro e wx ⟨rfl, hwx⟩
 obtain rfl := hwx.symm
 rcases Bool.eq_false_or_eq_true (decide (0 ≤ st ∧ st ≤ 100000)) with hti | hti
 rotate_left
 ·
  rw [hti]
  have HF := hd (eng_no2 (e := ((ss, now), cu, os, qs, ds, ls, st)) (fun g => of_decide_eq_false hti g.2.2.1))
  clear hti
  have cp_B0_0 := cls8 B0.out
  go_wp2
  clear cp_B0_0
  go_ret
  exact ⟨ret_b HF.out.symm, d.out⟩
 rw [hti]
 have HTI := hd hti
 clear hti
 have cp_B0_0 := cls8 B0.out
 go_wp2_with fail
 clear cp_B0_0
 refine (areValid_act (.slice aa qs.length ac) qs sa sc ss now W1 (slR_below tActive_law H4.out d.out) S4.out N0).mono ?_
 rintro e W2 ⟨rfl, c⟩
 replace B0 := zb c B0
 replace d := zD d c
 have Z_W2 := hd (show W1.heap.size ≤ W2.heap.size from c.size)
 clear c
 rcases Bool.eq_false_or_eq_true (decide (qs.length ≤ 8) && actsB (ss, now) qs) with hva | hva
 rotate_left
 ·
  rw [hva]
  have HF := hd ((by
    rcases Bool.eq_false_or_eq_true (decide (qs.length ≤ 8)) with q | q
    ·
     rw [q, Bool.true_and] at hva; exact eng_no4 (e := ((ss, now), cu, os, qs, ds, ls, st)) hva
    ·
     exact eng_no2 (e := ((ss, now), cu, os, qs, ds, ls, st)) (fun g => of_decide_eq_false q g.2.1)))
  clear hva
  have cp_B0_0 := cls8 B0.out
  go_wp2
  clear cp_B0_0
  go_ret
  exact ⟨ret_b HF.out.symm, d.out⟩
 rw [hva]
 have HVA := hd hva
 clear hva
 have cp_B0_0 := cls8 B0.out
 go_wp2_with fail
 clear cp_B0_0
 refine (areFinished_any (.slice da ds.length dc) ds now W2 (slR_below tFinished_law H5.out d.out) S5.out).mono ?_
 rintro e W3 ⟨rfl, c⟩
 replace B0 := zb c B0
 replace d := zD d c
 have Z_W3 := hd (show W2.heap.size ≤ W3.heap.size from c.size)
 clear c
 rcases Bool.eq_false_or_eq_true (decide (ds.length ≤ 1000) && ds.all (finB now)) with hfi | hfi
 rotate_left
 ·
  rw [hfi]
  have HF := hd ((by
    rcases Bool.eq_false_or_eq_true (decide (ds.length ≤ 1000)) with q | q
    ·
     rw [q, Bool.true_and] at hfi; exact eng_no5 (e := ((ss, now), cu, os, qs, ds, ls, st)) hfi
    ·
     exact eng_no2 (e := ((ss, now), cu, os, qs, ds, ls, st)) (fun g => of_decide_eq_false q g.2.2.2.1)))
  clear hfi
  have cp_B0_0 := cls8 B0.out
  go_wp2
  clear cp_B0_0
  go_ret
  exact ⟨ret_b HF.out.symm, d.out⟩
 rw [hfi]
 have HFI := hd hfi
 clear hfi
 by_cases hp3 : ls.length ≤ 1000
 rotate_left
 ·
  have HF := hd (eng_no2 (e := ((ss, now), cu, os, qs, ds, ls, st)) (fun g => hp3 g.2.2.2.2))
  have f3 : decide ((ls.length : Int) ≤ 1000) = false := decide_eq_false (by omega)
  clear hp3
  have cp_B0_0 := cls8 B0.out
  go_wp2
  clear cp_B0_0
  go_ret
  exact ⟨ret_b HF.out.symm, d.out⟩
 have f3 : decide ((ls.length : Int) ≤ 1000) = true := decide_eq_true (by omega)
 have HP3 := hd hp3
 clear hp3
 have cp_B0_0 := cls8 B0.out
 go_wp2_with fail
 clear cp_B0_0 f3
 refine (allCharge (.slice la ls.length lc) ls W3 (slR_below tCharge_law H6.out d.out) S6.out).mono ?_
 rintro e W9 ⟨rfl, c⟩
 replace B0 := zb c B0
 replace d := zD d c
 have Z_W9 := hd (show W3.heap.size ≤ W9.heap.size from c.size)
 clear c
 have HT : Hid (ls.all chargeB = engB ((ss, now), cu, os, qs, ds, ls, st)) := hd (by
  have v1 := HVA.out
  have v2 := HFI.out
  simp only [Bool.and_eq_true, decide_eq_true_eq] at v1 v2
  rcases Bool.eq_false_or_eq_true (ls.all chargeB) with g | g
  ·
   rw [g]; exact (eng_yes (e := ((ss, now), cu, os, qs, ds, ls, st)) HST.out ⟨of_decide_eq_true HCU.out, v1.1, of_decide_eq_true HTI.out, v2.1, HP3.out⟩ HOR.out v1.2 v2.2 g).symm
  ·
   rw [g]; exact (eng_no6 (e := ((ss, now), cu, os, qs, ds, ls, st)) g).symm)
 rw [HT.out]
 have cp_B0_0 := cls8 B0.out
 go_wp2
 clear cp_B0_0
 go_ret
 exact ⟨rfl, d.out⟩
set_option maxHeartbeats 8000000 in
theorem specL9List (v : Value) (l : List RowD) (w : World) (h : SlR tRow w v l) (hs : zL tRow l ≤ 1048576) :
  Calls Tryz.prog 116 #[v] w (fun e w' => e = .returned (.bool (listB l)) ∧ Below w.heap.size w w') := by
 have hlen := zL_len hs
 have HS := hd hs
 have H := hd h
 obtain ⟨a, cap, rfl⟩ := slR_len h
 clear h hs
 go_enter Tryz.func116, Tryz.ntmps116
 go_wp2
 go_loopw [3] (fun i wr => ∃ k : Nat, k ≤ l.length ∧ i = .int .i64 k ∧ Hid (AllTo rowB (0, []) l k) ∧ Below w.heap.size w wr) (fun i _ => l.length - (intOf i).toNat)
 case atStart => exact ⟨0, Nat.zero_le _, rfl, hd (allTo_zero _ _ _), Below.refl _ _⟩
 case round =>
  obtain ⟨k, hk, rfl, hno, c⟩ := hrel
  by_cases hlt : k < l.length
  ·
   have i1 : (0 : Int) ≤ (k : Int) := by omega
   have i2 : (k : Int) < (l.length : Int) := by omega
   have hz := zL_at HS.out hlt
   obtain ⟨b, off, cap', cs, hv, hbl, hcs, hR⟩ := slR_at (slR_below tRow_law H.out c) hlt
   simp only [Value.slice.injEq] at hv
   obtain ⟨rfl, _, rfl⟩ := hv
   change tRow.R wr cs (l.getD k (0, [])) at hR
   change tRow.sz (l.getD k (0, [])) ≤ 1048576 at hz
   have HST : Hid (rowB (l.getD k (0, [])) = true → AllTo rowB (0, []) l (k + 1)) := hd (fun g => allTo_step hno.out g)
   have HNO : Hid (rowB (l.getD k (0, [])) = false → listB l = false) := hd (fun g => by unfold listB; rw [allB_no (0, []) hlt g]; simp)
   have cw := hd c
   clear hno c hbl
   generalize l.getD k (0, []) = r at *
   obtain ⟨id, xs⟩ := r
   obtain ⟨v1, rfl, h1⟩ := tRow_R hR
   rw [tRow_sz] at hz
   obtain ⟨xa, xc, rfl⟩ := slR_len h1
   have e0 : wr.cell? ⟨b, off + k * 2, none⟩ = some (Value.int .i64 id) := hcs 0 (by decide)
   have e1 : wr.cell? ⟨b, off + k * 2 + 1, none⟩ = some (Value.slice xa xs.length xc) := hcs 1 (by decide)
   have HX := hd (slR_ints h1)
   have HXL := hd (zL_len hz)
   clear hcs hR h1 hz
   cases hr : rowB (id, xs) with
   | true =>
    have HT := hd (HST.out hr)
    have HR := hd hr
    clear hr HST HNO
    go_wp2_with fail
    refine (specIsRow id (.slice xa xs.length xc) xs wr HX.out HXL.out).mono ?_
    rintro e w2 ⟨rfl, c2⟩
    rw [HR.out]
    have cw2 := hd (cw.out.trans (c2.mono cw.out.size))
    clear c2 e0 e1
    go_wp2
    go_roundw
    case rel => exact ⟨k + 1, by omega, by go_num, HT, cw2.out⟩
    case measure => simp [intOf]; omega
   | false =>
    have HF := hd (HNO.out hr)
    have HR := hd hr
    clear hr HST HNO
    go_wp2_with fail
    refine (specIsRow id (.slice xa xs.length xc) xs wr HX.out HXL.out).mono ?_
    rintro e w2 ⟨rfl, c2⟩
    rw [HR.out]
    have cw2 := hd (cw.out.trans (c2.mono cw.out.size))
    clear c2 e0 e1
    go_wp2
    go_ret
    exact ⟨ret_b HF.out.symm, cw2.out⟩
  ·
   obtain rfl : k = l.length := by omega
   have HA := hd (allB_yes (p := rowB) (0, []) hno.out)
   have cw := hd c
   clear hno c
   by_cases h9 : l.length ≤ 1000
   ·
    have HT : Hid (listB l = true) := hd (by unfold listB; rw [HA.out, decide_eq_true h9]; rfl)
    have h8 : (l.length : Int) ≤ 1000 := by omega
    clear h9
    go_wp2
    go_ret
    exact ⟨ret_b HT.out.symm, cw.out⟩
   ·
    have HT : Hid (listB l = false) := hd (by unfold listB; rw [decide_eq_false h9]; rfl)
    have h8 : ¬ (l.length : Int) ≤ 1000 := by omega
    clear h9
    go_wp2
    go_ret
    exact ⟨ret_b (by simpa using HT.out), cw.out⟩
set_option maxHeartbeats 8000000 in
theorem specL9Todo (v : Value) (l : List Int) (n : Nat) (w : World) (h : Ints w v l) (hn : l.length ≤ 1048576) (hn2 : n ≤ 1048576) :
  Calls Tryz.prog 176 #[v, .int .i64 n] w (fun e w' => e = .returned (.bool (todoB l n)) ∧ Below w.heap.size w w') := by
 have H := hd h
 obtain ⟨a, cap, rfl⟩ := slR_len (ints_slR h)
 clear h
 go_enter Tryz.func176, Tryz.ntmps176
 go_wp2
 go_loopw [5] (fun i wr => ∃ k : Nat, k ≤ l.length ∧ i = .int .i64 k ∧ Hid (TodoTo l n k) ∧ Below w.heap.size w wr) (fun i _ => l.length - (intOf i).toNat)
 case atStart => exact ⟨0, Nat.zero_le _, rfl, hd (todoTo_zero _ _), Below.refl _ _⟩
 case round =>
  obtain ⟨k, hk, rfl, hno, c⟩ := hrel
  have cw := hd c
  by_cases hlt : k < l.length
  ·
   obtain ⟨b, off, cap', hv, hbl, hc⟩ := ints_cell H.out (by omega)
   simp only [Value.slice.injEq] at hv
   obtain ⟨rfl, _, rfl⟩ := hv
   have hcell := (c.cell (p := ⟨b, off + k, none⟩) hbl).trans (hc k hlt)
   have i1 : (0 : Int) ≤ (k : Int) := by omega
   have i2 : (k : Int) < (l.length : Int) := by omega
   by_cases hin : 0 ≤ l.getD k 0 ∧ l.getD k 0 ≤ (n : Int) - 1
   ·
    by_cases hz : k = 0
    ·
     have HS : Hid (TodoTo l n (k + 1)) := hd (todoTo_step hno.out hin.1 (by omega) (fun g => by omega))
     have HI := hd (fun W => in_yes (l.getD k 0) 0 ((n : Int) - 1) W hin.1 hin.2)
     have hd0 : decide (0 < k) = false := by simp [hz]
     have hd2 : decide ((0 : Int) < (k : Int)) = false := by simp [hz]
     clear hc hz hin
     generalize l.getD k 0 = y at *
     go_wp2
     go_quiet ((go_at_call 55; exact Calls.quiet_of_same (HI.out _)))
     go_wp2
     go_roundw
     case rel => exact ⟨k + 1, by omega, by go_num, HS, below_same cw.out rfl rfl rfl rfl⟩
     case measure => simp [intOf]; omega
    ·
     have hcellp := (c.cell (p := ⟨b, off + (k - 1), none⟩) hbl).trans (hc (k - 1) (by omega))
     have HI := hd (fun W => in_yes (l.getD k 0) 0 ((n : Int) - 1) W hin.1 hin.2)
     have hd0 : 0 < k := by omega
     have i3 : (0 : Int) ≤ (k : Int) - 1 := by omega
     have i4 : (k : Int) - 1 < (l.length : Int) := by omega
     have i5 : ((k : Int) - 1).toNat = k - 1 := by omega
     have e1 : IntKind.i64.wrap ((k : Int) - 1) = (k : Int) - 1 := IntWalk.i64_in _ (by omega)
     by_cases hle : l.getD k 0 ≤ l.getD (k - 1) 0
     ·
      have HNO : Hid (todoB l n = false) := hd (decide_eq_false (fun g => todo_no hlt (fun q => by have := q.2 hd0; omega) g.2))
      clear hc hz hin
      generalize l.getD (k - 1) 0 = z at *
      generalize l.getD k 0 = y at *
      have hdl : decide (y ≤ z) = true := decide_eq_true hle
      go_wp2
      go_quiet ((go_at_call 55; exact Calls.quiet_of_same (HI.out _)))
      go_wp2
      go_ret
      exact ⟨ret_b HNO.out.symm, below_same cw.out rfl rfl rfl rfl⟩
     ·
      have HS : Hid (TodoTo l n (k + 1)) := hd (todoTo_step hno.out hin.1 (by omega) (fun _ => by omega))
      clear hc hz hin
      generalize l.getD (k - 1) 0 = z at *
      generalize l.getD k 0 = y at *
      have hdl : decide (y ≤ z) = false := decide_eq_false hle
      go_wp2
      go_quiet ((go_at_call 55; exact Calls.quiet_of_same (HI.out _)))
      go_wp2
      go_roundw
      case rel => exact ⟨k + 1, by omega, by go_num, HS, below_same cw.out rfl rfl rfl rfl⟩
      case measure => simp [intOf]; omega
   ·
    have HNO : Hid (todoB l n = false) := hd (decide_eq_false (fun g => todo_no hlt (fun q => hin ⟨q.1.1, by omega⟩) g.2))
    have HI := hd (fun W => in_no (l.getD k 0) 0 ((n : Int) - 1) W hin)
    clear hc hin
    generalize l.getD k 0 = y at *
    go_wp2
    go_quiet ((go_at_call 55; exact Calls.quiet_of_same (HI.out _)))
    go_wp2
    go_ret
    exact ⟨ret_b HNO.out.symm, below_same cw.out rfl rfl rfl rfl⟩
  ·
   obtain rfl : k = l.length := by omega
   have HA := hd hno.out
   clear hno c
   by_cases h9 : 1 ≤ l.length
   ·
    have HT : Hid (todoB l n = true) := hd (decide_eq_true ⟨h9, HA.out⟩)
    have h8 : (0 : Int) < (l.length : Int) := by omega
    clear h9
    go_wp2
    go_ret
    exact ⟨ret_b (by rw [HT.out]; exact decide_eq_true (by omega)), cw.out⟩
   ·
    have HT : Hid (todoB l n = false) := hd (decide_eq_false (fun g => h9 g.1))
    have h8 : ¬ (0 : Int) < (l.length : Int) := by omega
    clear h9
    go_wp2
    go_ret
    exact ⟨ret_b (by rw [HT.out]; exact decide_eq_false (by omega)), cw.out⟩
theorem in_any (a l h : Int) (w : World) : Calls Tryz.prog 55 #[.int .i64 a, .int .i64 l, .int .i64 h] w fun e w' => e = .returned (.bool (decide (l ≤ a ∧ a ≤ h))) ∧ w' = w := by
 by_cases g : l ≤ a ∧ a ≤ h
 ·
  rw [decide_eq_true g]; exact in_yes a l h w g.1 g.2
 ·
  rw [decide_eq_false g]; exact in_no a l h w g
set_option maxHeartbeats 8000000 in
theorem specIsCharge (sg ba : Int) (iv tv rv : Value) (is ts rs : List Int) (w : World) (h2 : SlR tInt w iv is) (h3 : SlR tInt w tv ts) (h4 : SlR tInt w rv rs) (n2 : is.length ≤ 1048576) (n3 : ts.length ≤ 1048576) (n4 : rs.length ≤ 1048576) :
  Calls Tryz.prog 117 #[.agg #[.int .i64 sg, .int .i64 ba, iv, tv, rv]] w (fun e w' => e = .returned (.bool (chargeB (sg, ba, is, ts, rs))) ∧ Below w.heap.size w w') := by
 obtain ⟨ia, ic, rfl⟩ := slR_len h2
 obtain ⟨ta, tc, rfl⟩ := slR_len h3
 obtain ⟨ra, rc, rfl⟩ := slR_len h4
 have H2 := hd h2; have H3 := hd h3; have H4 := hd h4
 clear h2 h3 h4
 have d := hd (show Below w.heap.size w (w.alloc (.cells #[.int .i64 sg, .int .i64 ba, .slice ia is.length ic, .slice ta ts.length tc, .slice ra rs.length rc] 154)) from ((Below.refl _ w).alloc (Nat.le_refl _) _))
 have B0 : Hid ((w.alloc (.cells #[.int .i64 sg, .int .i64 ba, .slice ia is.length ic, .slice ta ts.length tc, .slice ra rs.length rc] 154)).heap[w.heap.size]? = some (.cells #[.int .i64 sg, .int .i64 ba, .slice ia is.length ic, .slice ta ts.length tc, .slice ra rs.length rc] 154 (0, 0))) := hd (by
  exact heap_alloc_new w _)
 have YW : Hid (w.heap.size + 1 ≤ (w.alloc (.cells #[.int .i64 sg, .int .i64 ba, .slice ia is.length ic, .slice ta ts.length tc, .slice ra rs.length rc] 154)).heap.size) := hd (by simp [World.size_alloc])
 go_enter Tryz.func117, Tryz.ntmps117
 go_wp2_with fail
 generalize (w.alloc (.cells #[.int .i64 sg, .int .i64 ba, .slice ia is.length ic, .slice ta ts.length tc, .slice ra rs.length rc] 154)) = W at *
 refine (specIsSet (.slice ia is.length ic) is W (slR_ints (slR_below tInt_law H2.out d.out)) n2).mono ?_
 rintro e W1 ⟨rfl, c⟩
 replace B0 := zb c B0
 replace d := zD d c
 have Z_W1 := hd (show W.heap.size ≤ W1.heap.size from c.size)
 clear c
 rcases Bool.eq_false_or_eq_true (setB is) with hset | hset
 rotate_left
 ·
  rw [hset]
  have HF := hd (charge_no1 (x := (sg, ba, is, ts, rs)) hset)
  clear hset
  have cp_B0_0 := cls5 B0.out
  go_wp2
  clear cp_B0_0
  go_ret
  exact ⟨ret_b HF.out.symm, d.out⟩
 rw [hset]
 have HSET := hd hset
 clear hset
 by_cases hp1 : is.length ≠ 0
 rotate_left
 ·
  have HF := hd (charge_no2 (x := (sg, ba, is, ts, rs)) (fun g => by have := g.1.1; simp only at this; omega))
  have f1 : ((is.length : Int) == 0) = true := by simpa using hp1
  clear hp1
  have cp_B0_0 := cls5 B0.out
  go_wp2
  clear cp_B0_0
  go_ret
  exact ⟨ret_b HF.out.symm, d.out⟩
 have f1 : ((is.length : Int) == 0) = false := by simpa using hp1
 have HP1 := hd hp1
 clear hp1
 by_cases hp2 : ¬ 8 < is.length
 rotate_left
 ·
  have HF := hd (charge_no2 (x := (sg, ba, is, ts, rs)) (fun g => by have := g.1.2; simp only at this; omega))
  have f2 : decide ((8 : Int) < (is.length : Int)) = true := decide_eq_true (by omega)
  clear hp2
  have cp_B0_0 := cls5 B0.out
  go_wp2
  clear cp_B0_0
  go_ret
  exact ⟨ret_b HF.out.symm, d.out⟩
 have f2 : decide ((8 : Int) < (is.length : Int)) = false := decide_eq_false (by omega)
 have HP2 := hd hp2
 clear hp2
 by_cases hp3 : ts.length = is.length
 rotate_left
 ·
  have HF := hd (charge_no2 (x := (sg, ba, is, ts, rs)) (fun g => hp3 g.2.1.1))
  have f3 : ((ts.length : Int) != (is.length : Int)) = true := by rw [bne_iff_ne]; omega
  clear hp3
  have cp_B0_0 := cls5 B0.out
  go_wp2
  clear cp_B0_0
  go_ret
  exact ⟨ret_b HF.out.symm, d.out⟩
 have f3 : ((ts.length : Int) != (is.length : Int)) = false := by rw [bne_eq_false_iff_eq]; omega
 have HP3 := hd hp3
 clear hp3
 by_cases hp4 : rs.length = is.length
 rotate_left
 ·
  have HF := hd (charge_no2 (x := (sg, ba, is, ts, rs)) (fun g => hp4 g.2.1.2))
  have f4 : ((rs.length : Int) != (is.length : Int)) = true := by rw [bne_iff_ne]; omega
  clear hp4
  have cp_B0_0 := cls5 B0.out
  go_wp2
  clear cp_B0_0
  go_ret
  exact ⟨ret_b HF.out.symm, d.out⟩
 have f4 : ((rs.length : Int) != (is.length : Int)) = false := by rw [bne_eq_false_iff_eq]; omega
 have HP4 := hd hp4
 clear hp4
 have cp_B0_0 := cls5 B0.out
 go_wp2_with fail
 clear cp_B0_0 f1 f2 f3 f4
 refine (in_any sg 0 7 _).mono ?_
 rintro e wx ⟨rfl, hwx⟩
 obtain rfl := hwx.symm
 rcases Bool.eq_false_or_eq_true (decide (0 ≤ sg ∧ sg ≤ 7)) with hp5 | hp5
 rotate_left
 ·
  rw [hp5]
  have HF := hd (charge_no2 (x := (sg, ba, is, ts, rs)) (fun g => of_decide_eq_false hp5 g.2.2.1))
  clear hp5
  have cp_B0_0 := cls5 B0.out
  go_wp2
  clear cp_B0_0
  go_ret
  exact ⟨ret_b HF.out.symm, d.out⟩
 rw [hp5]
 have HP5 := hd hp5
 clear hp5
 have cp_B0_0 := cls5 B0.out
 go_wp2_with fail
 clear cp_B0_0
 refine (in_any ba 0 4 _).mono ?_
 rintro e wx ⟨rfl, hwx⟩
 obtain rfl := hwx.symm
 rcases Bool.eq_false_or_eq_true (decide (0 ≤ ba ∧ ba ≤ 4)) with hp6 | hp6
 rotate_left
 ·
  rw [hp6]
  have HF := hd (charge_no2 (x := (sg, ba, is, ts, rs)) (fun g => of_decide_eq_false hp6 g.2.2.2))
  clear hp6
  have cp_B0_0 := cls5 B0.out
  go_wp2
  clear cp_B0_0
  go_ret
  exact ⟨ret_b HF.out.symm, d.out⟩
 rw [hp6]
 have HP6 := hd hp6
 clear hp6
 have HH : Hid (chargeHP (sg, ba, is, ts, rs)) := hd ⟨⟨by have := HP1.out; show 1 ≤ is.length; omega, by have := HP2.out; show is.length ≤ 8; omega⟩, ⟨HP3.out, HP4.out⟩, of_decide_eq_true HP5.out, of_decide_eq_true HP6.out⟩
 have cp_B0_0 := cls5 B0.out
 go_wp2
 clear cp_B0_0
 go_loopw [4] (fun i wr => ∃ k : Nat, k ≤ is.length ∧ i = .int .i64 k ∧ Hid (AllTo tenB 0 ts k ∧ AllTo (getB ba) 0 rs k) ∧ Below W1.heap.size W1 wr) (fun i _ => is.length - (intOf i).toNat)
 case atStart => exact ⟨0, Nat.zero_le _, rfl, hd (⟨allTo_zero _ _ _, allTo_zero _ _ _⟩), Below.refl _ _⟩
 case round =>
  obtain ⟨k, hk, rfl, hno, c⟩ := hrel
  have cw := hd c
  replace B0 := zb c B0
  replace d := zD d c
  clear c
  by_cases hlt : k < is.length
  ·
   have i1 : (0 : Int) ≤ (k : Int) := by omega
   have i2 : (k : Int) < (is.length : Int) := by omega
   have hlt3 : k < ts.length := by have := HP3.out; omega
   have hlt4 : k < rs.length := by have := HP4.out; omega
   have i3 : (k : Int) < (ts.length : Int) := by omega
   have i4 : (k : Int) < (rs.length : Int) := by omega
   obtain ⟨b, off, cap', hv, hbl, hc⟩ := ints_cell (slR_ints H3.out) (by omega)
   simp only [Value.slice.injEq] at hv
   obtain ⟨rfl, _, rfl⟩ := hv
   have hcell := hc k hlt3
   obtain ⟨b2, off2, cap2, hv, hbl2, hc2⟩ := ints_cell (slR_ints H4.out) (by omega)
   simp only [Value.slice.injEq] at hv
   obtain ⟨rfl, _, rfl⟩ := hv
   have hcell2 := hc2 k hlt4
   have N3 : Hid (tenB (ts.getD k 0) = false → chargeB (sg, ba, is, ts, rs) = false) := hd (fun g => charge_no3 (x := (sg, ba, is, ts, rs)) (allB_no 0 hlt3 g))
   have N4 : Hid (getB ba (rs.getD k 0) = false → chargeB (sg, ba, is, ts, rs) = false) := hd (fun g => charge_no4 (x := (sg, ba, is, ts, rs)) (allB_no 0 hlt4 g))
   have Y3 : Hid (tenB (ts.getD k 0) = true → AllTo tenB 0 ts (k + 1)) := hd (fun g => allTo_step hno.out.1 g)
   have Y4 : Hid (getB ba (rs.getD k 0) = true → AllTo (getB ba) 0 rs (k + 1)) := hd (fun g => allTo_step hno.out.2 g)
   have BL := hd hbl; have BL2 := hd hbl2
   clear hc hc2 hno hbl hbl2 hlt3 hlt4
   generalize ts.getD k 0 = y at *
   generalize rs.getD k 0 = z at *
   have T0 := hd hcell; have R0 := hd hcell2
   clear hcell hcell2
   by_cases ht : 0 ≤ y ∧ y ≤ 3
   ·
    have HI := hd (fun W => in_yes y 0 3 W ht.1 ht.2)
    have HY3 := hd (Y3.out (decide_eq_true ht))
    clear ht
    by_cases hz : 0 ≤ z ∧ z ≤ ba
    ·
     have HI2 := hd (fun W => in_yes z 0 ba W hz.1 hz.2)
     have HY4 := hd (Y4.out (decide_eq_true hz))
     clear hz N3 N4 Y3 Y4
     go_wp2
     obtain ⟨p_B0_0, p_B0_1, p_B0_2, p_B0_3, p_B0_4⟩ := cls5 B0.out
     have p_T0 := cx d T0 BL
     have p_R0 := cx d R0 BL2
     refine wp_region_held_drew (S := fun w' => w'.cell? ⟨w.heap.size, 0, none⟩ = some (Value.int .i64 sg) ∧ w'.cell? ⟨w.heap.size, 1, none⟩ = some (Value.int .i64 ba) ∧ w'.cell? ⟨w.heap.size, 2, none⟩ = some (Value.slice ia is.length ic) ∧ w'.cell? ⟨w.heap.size, 3, none⟩ = some (Value.slice (some ⟨b, off, none⟩) ts.length tc) ∧ w'.cell? ⟨w.heap.size, 4, none⟩ = some (Value.slice (some ⟨b2, off2, none⟩) rs.length rc) ∧ w'.cell? ⟨b, off + k, none⟩ = some (Value.int .i64 y) ∧ w'.cell? ⟨b2, off2 + k, none⟩ = some (Value.int .i64 z)) (by kernel_rfl) ⟨p_B0_0, p_B0_1, p_B0_2, p_B0_3, p_B0_4, p_T0, p_R0⟩ (fun hHeld => ?_)
     clear p_B0_0 p_B0_1 p_B0_2 p_B0_3 p_B0_4 p_T0 p_R0
     have cdr : Below wr.heap.size wr wr.drew := below_drew (Below.refl _ _)
     replace B0 := zb cdr B0
     replace d := zD d cdr
     clear cdr
     refine tQ (i := 0) ?_
     try simp only [Act.put, lA, lB, lC]
     refine tQ (i := 1) ?_
     try simp only [Act.put, lA, lB, lC]
     refine tQ (i := 2) ?_
     try simp only [Act.put, lA, lB, lC]
     refine tQ (i := 3) ?_
     try simp only [Act.put, lA, lB, lC]
     refine tQ (i := 4) ?_
     try simp only [Act.put, lA, lB, lC]
     refine rA 5 (fun K hK => ?_)
     go_simp
     refine (HI.out _).mono ?_
     rintro e wx ⟨rfl, hwx⟩
     obtain rfl := hwx.symm
     obtain ⟨p_B0_0, p_B0_1, p_B0_2, p_B0_3, p_B0_4⟩ := cls5 B0.out
     have p_T0 := cx d T0 BL
     have p_R0 := cx d R0 BL2
     refine hK.out _ _ ⟨p_B0_0, p_B0_1, p_B0_2, p_B0_3, p_B0_4, p_T0, p_R0⟩ (fun hHeld => ?_)
     clear p_B0_0 p_B0_1 p_B0_2 p_B0_3 p_B0_4 p_T0 p_R0
     clear hK K
     try simp only [Act.put, lA, lB, lC]
     refine tQ (i := 6) ?_
     try simp only [Act.put, lA, lB, lC]
     refine tQ (i := 7) ?_
     try simp only [Act.put, lA, lB, lC]
     refine tQ (i := 8) ?_
     try simp only [Act.put, lA, lB, lC]
     refine tQ (i := 9) ?_
     try simp only [Act.put, lA, lB, lC]
     refine tQ (i := 10) ?_
     try simp only [Act.put, lA, lB, lC]
     refine tQ (i := 11) ?_
     try simp only [Act.put, lA, lB, lC]
     refine tQ (i := 12) ?_
     try simp only [Act.put, lA, lB, lC]
     refine tQ (i := 13) ?_
     try simp only [Act.put, lA, lB, lC]
     refine tQ (i := 14) ?_
     try simp only [Act.put, lA, lB, lC]
     refine rA 15 (fun K hK => ?_)
     go_simp
     refine (HI2.out _).mono ?_
     rintro e wx ⟨rfl, hwx⟩
     obtain rfl := hwx.symm
     obtain ⟨p_B0_0, p_B0_1, p_B0_2, p_B0_3, p_B0_4⟩ := cls5 B0.out
     have p_T0 := cx d T0 BL
     have p_R0 := cx d R0 BL2
     refine hK.out _ _ ⟨p_B0_0, p_B0_1, p_B0_2, p_B0_3, p_B0_4, p_T0, p_R0⟩ (fun hHeld => ?_)
     clear p_B0_0 p_B0_1 p_B0_2 p_B0_3 p_B0_4 p_T0 p_R0
     clear hK K
     try simp only [Act.put, lA, lB, lC]
     refine tQ (i := 16) ?_
     try simp only [Act.put, lA, lB, lC]
     refine tQ (i := 17) ?_
     try simp only [Act.put, lA, lB, lC]
     refine wpAnyH_done (by kernel_rfl) ?_ _
     clear hHeld
     go_wp2
     go_roundw
     case rel => exact ⟨k + 1, by omega, by go_num, hd ⟨HY3.out, HY4.out⟩, below_same cw.out rfl rfl rfl rfl⟩
     case measure => simp [intOf]; omega
    ·
     have HI2 := hd (fun W => in_no z 0 ba W hz)
     have HF := hd (N4.out (decide_eq_false hz))
     clear hz N3 N4 Y3 Y4
     go_wp2
     obtain ⟨p_B0_0, p_B0_1, p_B0_2, p_B0_3, p_B0_4⟩ := cls5 B0.out
     have p_T0 := cx d T0 BL
     have p_R0 := cx d R0 BL2
     refine wp_region_held_drew (S := fun w' => w'.cell? ⟨w.heap.size, 0, none⟩ = some (Value.int .i64 sg) ∧ w'.cell? ⟨w.heap.size, 1, none⟩ = some (Value.int .i64 ba) ∧ w'.cell? ⟨w.heap.size, 2, none⟩ = some (Value.slice ia is.length ic) ∧ w'.cell? ⟨w.heap.size, 3, none⟩ = some (Value.slice (some ⟨b, off, none⟩) ts.length tc) ∧ w'.cell? ⟨w.heap.size, 4, none⟩ = some (Value.slice (some ⟨b2, off2, none⟩) rs.length rc) ∧ w'.cell? ⟨b, off + k, none⟩ = some (Value.int .i64 y) ∧ w'.cell? ⟨b2, off2 + k, none⟩ = some (Value.int .i64 z)) (by kernel_rfl) ⟨p_B0_0, p_B0_1, p_B0_2, p_B0_3, p_B0_4, p_T0, p_R0⟩ (fun hHeld => ?_)
     clear p_B0_0 p_B0_1 p_B0_2 p_B0_3 p_B0_4 p_T0 p_R0
     have cdr : Below wr.heap.size wr wr.drew := below_drew (Below.refl _ _)
     replace B0 := zb cdr B0
     replace d := zD d cdr
     clear cdr
     refine tQ (i := 0) ?_
     try simp only [Act.put, lA, lB, lC]
     refine tQ (i := 1) ?_
     try simp only [Act.put, lA, lB, lC]
     refine tQ (i := 2) ?_
     try simp only [Act.put, lA, lB, lC]
     refine tQ (i := 3) ?_
     try simp only [Act.put, lA, lB, lC]
     refine tQ (i := 4) ?_
     try simp only [Act.put, lA, lB, lC]
     refine rA 5 (fun K hK => ?_)
     go_simp
     refine (HI.out _).mono ?_
     rintro e wx ⟨rfl, hwx⟩
     obtain rfl := hwx.symm
     obtain ⟨p_B0_0, p_B0_1, p_B0_2, p_B0_3, p_B0_4⟩ := cls5 B0.out
     have p_T0 := cx d T0 BL
     have p_R0 := cx d R0 BL2
     refine hK.out _ _ ⟨p_B0_0, p_B0_1, p_B0_2, p_B0_3, p_B0_4, p_T0, p_R0⟩ (fun hHeld => ?_)
     clear p_B0_0 p_B0_1 p_B0_2 p_B0_3 p_B0_4 p_T0 p_R0
     clear hK K
     try simp only [Act.put, lA, lB, lC]
     refine tQ (i := 6) ?_
     try simp only [Act.put, lA, lB, lC]
     refine tQ (i := 7) ?_
     try simp only [Act.put, lA, lB, lC]
     refine tQ (i := 8) ?_
     try simp only [Act.put, lA, lB, lC]
     refine tQ (i := 9) ?_
     try simp only [Act.put, lA, lB, lC]
     refine tQ (i := 10) ?_
     try simp only [Act.put, lA, lB, lC]
     refine tQ (i := 11) ?_
     try simp only [Act.put, lA, lB, lC]
     refine tQ (i := 12) ?_
     try simp only [Act.put, lA, lB, lC]
     refine tQ (i := 13) ?_
     try simp only [Act.put, lA, lB, lC]
     refine tQ (i := 14) ?_
     try simp only [Act.put, lA, lB, lC]
     refine rA 15 (fun K hK => ?_)
     go_simp
     refine (HI2.out _).mono ?_
     rintro e wx ⟨rfl, hwx⟩
     obtain rfl := hwx.symm
     obtain ⟨p_B0_0, p_B0_1, p_B0_2, p_B0_3, p_B0_4⟩ := cls5 B0.out
     have p_T0 := cx d T0 BL
     have p_R0 := cx d R0 BL2
     refine hK.out _ _ ⟨p_B0_0, p_B0_1, p_B0_2, p_B0_3, p_B0_4, p_T0, p_R0⟩ (fun hHeld => ?_)
     clear p_B0_0 p_B0_1 p_B0_2 p_B0_3 p_B0_4 p_T0 p_R0
     clear hK K
     try simp only [Act.put, lA, lB, lC]
     refine tQ (i := 16) ?_
     try simp only [Act.put, lA, lB, lC]
     refine tQ (i := 17) ?_
     try simp only [Act.put, lA, lB, lC]
     refine wpAnyH_done (by kernel_rfl) ?_ _
     clear hHeld
     go_wp2
     go_ret
     exact ⟨ret_b HF.out.symm, d.out⟩
   ·
    have HI := hd (fun W => in_no y 0 3 W ht)
    have HF := hd (N3.out (decide_eq_false ht))
    clear ht N3 N4 Y3 Y4
    go_wp2
    obtain ⟨p_B0_0, p_B0_1, p_B0_2, p_B0_3, p_B0_4⟩ := cls5 B0.out
    have p_T0 := cx d T0 BL
    have p_R0 := cx d R0 BL2
    refine wp_region_held_drew (S := fun w' => w'.cell? ⟨w.heap.size, 0, none⟩ = some (Value.int .i64 sg) ∧ w'.cell? ⟨w.heap.size, 1, none⟩ = some (Value.int .i64 ba) ∧ w'.cell? ⟨w.heap.size, 2, none⟩ = some (Value.slice ia is.length ic) ∧ w'.cell? ⟨w.heap.size, 3, none⟩ = some (Value.slice (some ⟨b, off, none⟩) ts.length tc) ∧ w'.cell? ⟨w.heap.size, 4, none⟩ = some (Value.slice (some ⟨b2, off2, none⟩) rs.length rc) ∧ w'.cell? ⟨b, off + k, none⟩ = some (Value.int .i64 y) ∧ w'.cell? ⟨b2, off2 + k, none⟩ = some (Value.int .i64 z)) (by kernel_rfl) ⟨p_B0_0, p_B0_1, p_B0_2, p_B0_3, p_B0_4, p_T0, p_R0⟩ (fun hHeld => ?_)
    clear p_B0_0 p_B0_1 p_B0_2 p_B0_3 p_B0_4 p_T0 p_R0
    have cdr : Below wr.heap.size wr wr.drew := below_drew (Below.refl _ _)
    replace B0 := zb cdr B0
    replace d := zD d cdr
    clear cdr
    refine tQ (i := 0) ?_
    try simp only [Act.put, lA, lB, lC]
    refine tQ (i := 1) ?_
    try simp only [Act.put, lA, lB, lC]
    refine tQ (i := 2) ?_
    try simp only [Act.put, lA, lB, lC]
    refine tQ (i := 3) ?_
    try simp only [Act.put, lA, lB, lC]
    refine tQ (i := 4) ?_
    try simp only [Act.put, lA, lB, lC]
    refine rA 5 (fun K hK => ?_)
    go_simp
    refine (HI.out _).mono ?_
    rintro e wx ⟨rfl, hwx⟩
    obtain rfl := hwx.symm
    obtain ⟨p_B0_0, p_B0_1, p_B0_2, p_B0_3, p_B0_4⟩ := cls5 B0.out
    have p_T0 := cx d T0 BL
    have p_R0 := cx d R0 BL2
    refine hK.out _ _ ⟨p_B0_0, p_B0_1, p_B0_2, p_B0_3, p_B0_4, p_T0, p_R0⟩ (fun hHeld => ?_)
    clear p_B0_0 p_B0_1 p_B0_2 p_B0_3 p_B0_4 p_T0 p_R0
    clear hK K
    try simp only [Act.put, lA, lB, lC]
    refine tQ (i := 6) ?_
    try simp only [Act.put, lA, lB, lC]
    refine tQ (i := 7) ?_
    try simp only [Act.put, lA, lB, lC]
    refine tO (i := 8) ?_
    try simp only [Act.put, lA, lB, lC]
    refine tO (i := 9) ?_
    try simp only [Act.put, lA, lB, lC]
    refine tO (i := 10) ?_
    try simp only [Act.put, lA, lB, lC]
    refine tO (i := 11) ?_
    try simp only [Act.put, lA, lB, lC]
    refine tO (i := 12) ?_
    try simp only [Act.put, lA, lB, lC]
    refine tO (i := 13) ?_
    try simp only [Act.put, lA, lB, lC]
    refine tO (i := 14) ?_
    try simp only [Act.put, lA, lB, lC]
    refine tO (i := 15) ?_
    try simp only [Act.put, lA, lB, lC]
    refine tO (i := 16) ?_
    try simp only [Act.put, lA, lB, lC]
    refine tQ (i := 17) ?_
    try simp only [Act.put, lA, lB, lC]
    refine wpAnyH_done (by kernel_rfl) ?_ _
    clear hHeld
    go_wp2
    go_ret
    exact ⟨ret_b HF.out.symm, d.out⟩
  ·
   obtain rfl : k = is.length := by omega
   have HT : Hid (chargeB (sg, ba, is, ts, rs) = true) := hd (charge_yes HSET.out HH.out (allB_yes 0 (by have := hno.out.1; have e := HP3.out; simp only; rw [e]; exact this)) (allB_yes 0 (by have := hno.out.2; have e := HP4.out; simp only; rw [e]; exact this)))
   clear hno
   have cp_B0_0 := cls5 B0.out
   go_wp2
   clear cp_B0_0
   go_ret
   exact ⟨ret_b HT.out.symm, d.out⟩
set_option maxHeartbeats 8000000 in
theorem specL9Active (now cu st a0 a1 a4 a6 a7 a8 : Int) (sa : Option Addr) (sc : Nat) (ov av dv lv v2 v3 v5 v9 : Value) (ss : List (List VerD)) (x2 : List CondD) (x3 x5 : List Int) (x9 : List RowD) (w : World)
  (h2 : SlR tCond w v2 x2) (h3 : SlR tInt w v3 x3) (h5 : SlR tInt w v5 x5) (h9 : SlR tRow w v9 x9) (n0 : ss.length ≤ 1048576) (s2 : zL tCond x2 ≤ 1048576) (s3 : zL tInt x3 ≤ 1048576) (s5 : zL tInt x5 ≤ 1048576) (s9 : zL tRow x9 ≤ 1048576) :
  Calls Tryz.prog 115 #[.agg #[.slice sa ss.length sc, .int .i64 now, .int .i64 cu, ov, av, dv, lv, .int .i64 st], .agg #[.int .i64 a0, .int .i64 a1, v2, v3, .int .i64 a4, v5, .int .i64 a6, .int .i64 a7, .int .i64 a8, v9]] w (fun e w' => e = .returned (.bool (actB (ss, now) ((a0, a1, x2, x3), a4, x5, a6, a7, a8, x9))) ∧ Below w.heap.size w w') := by
 obtain ⟨p2, c2, rfl⟩ := slR_len h2
 have H2 := hd h2; have N2 := hd (zL_len s2); have S2 := hd s2
 obtain ⟨p3, c3, rfl⟩ := slR_len h3
 have H3 := hd h3; have N3 := hd (zL_len s3); have S3 := hd s3
 obtain ⟨p5, c5, rfl⟩ := slR_len h5
 have H5 := hd h5; have N5 := hd (zL_len s5); have S5 := hd s5
 obtain ⟨p9, c9, rfl⟩ := slR_len h9
 have H9 := hd h9; have N9 := hd (zL_len s9); have S9 := hd s9
 clear h2 h3 h5 h9 s2 s3 s5 s9
 have d := hd (show Below w.heap.size w ((w.alloc (.cells #[.slice sa ss.length sc, .int .i64 now, .int .i64 cu, ov, av, dv, lv, .int .i64 st] 40)).alloc (.cells #[.int .i64 a0, .int .i64 a1, .slice p2 x2.length c2, .slice p3 x3.length c3, .int .i64 a4, .slice p5 x5.length c5, .int .i64 a6, .int .i64 a7, .int .i64 a8, .slice p9 x9.length c9] 93)) from (((Below.refl _ w).alloc (Nat.le_refl _) _).alloc (by simp) _))
 have B0 : Hid (((w.alloc (.cells #[.slice sa ss.length sc, .int .i64 now, .int .i64 cu, ov, av, dv, lv, .int .i64 st] 40)).alloc (.cells #[.int .i64 a0, .int .i64 a1, .slice p2 x2.length c2, .slice p3 x3.length c3, .int .i64 a4, .slice p5 x5.length c5, .int .i64 a6, .int .i64 a7, .int .i64 a8, .slice p9 x9.length c9] 93)).heap[w.heap.size]? = some (.cells #[.slice sa ss.length sc, .int .i64 now, .int .i64 cu, ov, av, dv, lv, .int .i64 st] 40 (0, 0))) := hd (by
  rw [Below.heap_alloc _ _ _ (by simp)]
  exact heap_alloc_new w _)
 have B1 : Hid (((w.alloc (.cells #[.slice sa ss.length sc, .int .i64 now, .int .i64 cu, ov, av, dv, lv, .int .i64 st] 40)).alloc (.cells #[.int .i64 a0, .int .i64 a1, .slice p2 x2.length c2, .slice p3 x3.length c3, .int .i64 a4, .slice p5 x5.length c5, .int .i64 a6, .int .i64 a7, .int .i64 a8, .slice p9 x9.length c9] 93)).heap[(w.heap.size + 1)]? = some (.cells #[.int .i64 a0, .int .i64 a1, .slice p2 x2.length c2, .slice p3 x3.length c3, .int .i64 a4, .slice p5 x5.length c5, .int .i64 a6, .int .i64 a7, .int .i64 a8, .slice p9 x9.length c9] 93 (0, 0))) := hd (by
  have := heap_alloc_new (w.alloc (.cells #[.slice sa ss.length sc, .int .i64 now, .int .i64 cu, ov, av, dv, lv, .int .i64 st] 40)) (.cells #[.int .i64 a0, .int .i64 a1, .slice p2 x2.length c2, .slice p3 x3.length c3, .int .i64 a4, .slice p5 x5.length c5, .int .i64 a6, .int .i64 a7, .int .i64 a8, .slice p9 x9.length c9] 93)
  simpa only [World.size_alloc] using this)
 have YW : Hid (w.heap.size + 2 ≤ ((w.alloc (.cells #[.slice sa ss.length sc, .int .i64 now, .int .i64 cu, ov, av, dv, lv, .int .i64 st] 40)).alloc (.cells #[.int .i64 a0, .int .i64 a1, .slice p2 x2.length c2, .slice p3 x3.length c3, .int .i64 a4, .slice p5 x5.length c5, .int .i64 a6, .int .i64 a7, .int .i64 a8, .slice p9 x9.length c9] 93)).heap.size) := hd (by simp [World.size_alloc])
 go_enter Tryz.func115, Tryz.ntmps115
 go_wp2_with fail
 generalize ((w.alloc (.cells #[.slice sa ss.length sc, .int .i64 now, .int .i64 cu, ov, av, dv, lv, .int .i64 st] 40)).alloc (.cells #[.int .i64 a0, .int .i64 a1, .slice p2 x2.length c2, .slice p3 x3.length c3, .int .i64 a4, .slice p5 x5.length c5, .int .i64 a6, .int .i64 a7, .int .i64 a8, .slice p9 x9.length c9] 93)) = W at *
 refine (specIsQuery a0 a1 (.slice p2 x2.length c2) (.slice p3 x3.length c3) x2 x3 W (slR_conds (slR_below tCond_law H2.out d.out)) N2.out (slR_ints (slR_below tInt_law H3.out d.out)) N3.out).mono ?_
 rintro e W1 ⟨rfl, c⟩
 replace B0 := zb c B0
 replace B1 := zb c B1
 replace d := zD d c
 have Z_W1 := hd (show W.heap.size ≤ W1.heap.size from c.size)
 clear c
 rcases Bool.eq_false_or_eq_true (queryB a0 a1 x2 x3) with hq | hq
 rotate_left
 ·
  rw [hq]
  have HF := hd (act_no1 (s := (ss, now)) (a := ((a0, a1, x2, x3), a4, x5, a6, a7, a8, x9)) hq)
  clear hq
  have cp_B0_0 := cls8 B0.out
  have cp_B1_0 := cls10 B1.out
  go_wp2
  clear cp_B0_0 cp_B1_0
  go_ret
  exact ⟨ret_b HF.out.symm, d.out⟩
 rw [hq]
 have HQ := hd hq
 clear hq
 have cp_B0_0 := cls8 B0.out
 have cp_B1_0 := cls10 B1.out
 go_wp2_with fail
 clear cp_B0_0 cp_B1_0
 refine (in_any a4 0 now _).mono ?_
 rintro e wx ⟨rfl, hwx⟩
 obtain rfl := hwx.symm
 rcases Bool.eq_false_or_eq_true (decide (0 ≤ a4 ∧ a4 ≤ now)) with tt1 | tt1
 rotate_left
 ·
  rw [tt1]
  have HF := hd (act_no2 (s := (ss, now)) (a := ((a0, a1, x2, x3), a4, x5, a6, a7, a8, x9)) (fun g => of_decide_eq_false tt1 g.1))
  clear tt1
  have cp_B0_0 := cls8 B0.out
  have cp_B1_0 := cls10 B1.out
  go_wp2
  clear cp_B0_0 cp_B1_0
  go_ret
  exact ⟨ret_b HF.out.symm, d.out⟩
 rw [tt1]
 have TT1 := hd tt1
 clear tt1
 have cp_B0_0 := cls8 B0.out
 have cp_B1_0 := cls10 B1.out
 go_wp2_with fail
 clear cp_B0_0 cp_B1_0
 refine (specL9Todo (.slice p5 x5.length c5) x5 ss.length W1 (slR_ints (slR_below tInt_law H5.out d.out)) N5.out n0).mono ?_
 rintro e W2 ⟨rfl, c⟩
 replace B0 := zb c B0
 replace B1 := zb c B1
 replace d := zD d c
 have Z_W2 := hd (show W1.heap.size ≤ W2.heap.size from c.size)
 clear c
 rcases Bool.eq_false_or_eq_true (todoB x5 ss.length) with htd | htd
 rotate_left
 ·
  rw [htd]
  have HF := hd (act_no3 (s := (ss, now)) (a := ((a0, a1, x2, x3), a4, x5, a6, a7, a8, x9)) htd)
  clear htd
  have cp_B0_0 := cls8 B0.out
  have cp_B1_0 := cls10 B1.out
  go_wp2
  clear cp_B0_0 cp_B1_0
  go_ret
  exact ⟨ret_b HF.out.symm, d.out⟩
 rw [htd]
 have HTD := hd htd
 clear htd
 have cp_B0_0 := cls8 B0.out
 have cp_B1_0 := cls10 B1.out
 go_wp2_with fail
 clear cp_B0_0 cp_B1_0
 refine (in_any a6 0 100000 _).mono ?_
 rintro e wx ⟨rfl, hwx⟩
 obtain rfl := hwx.symm
 rcases Bool.eq_false_or_eq_true (decide (0 ≤ a6 ∧ a6 ≤ 100000)) with tt2 | tt2
 rotate_left
 ·
  rw [tt2]
  have HF := hd (act_no2 (s := (ss, now)) (a := ((a0, a1, x2, x3), a4, x5, a6, a7, a8, x9)) (fun g => of_decide_eq_false tt2 g.2.1))
  clear tt2
  have cp_B0_0 := cls8 B0.out
  have cp_B1_0 := cls10 B1.out
  go_wp2
  clear cp_B0_0 cp_B1_0
  go_ret
  exact ⟨ret_b HF.out.symm, d.out⟩
 rw [tt2]
 have TT2 := hd tt2
 clear tt2
 have cp_B0_0 := cls8 B0.out
 have cp_B1_0 := cls10 B1.out
 go_wp2_with fail
 clear cp_B0_0 cp_B1_0
 refine (in_any a7 0 1000 _).mono ?_
 rintro e wx ⟨rfl, hwx⟩
 obtain rfl := hwx.symm
 rcases Bool.eq_false_or_eq_true (decide (0 ≤ a7 ∧ a7 ≤ 1000)) with tt3 | tt3
 rotate_left
 ·
  rw [tt3]
  have HF := hd (act_no2 (s := (ss, now)) (a := ((a0, a1, x2, x3), a4, x5, a6, a7, a8, x9)) (fun g => of_decide_eq_false tt3 g.2.2.1))
  clear tt3
  have cp_B0_0 := cls8 B0.out
  have cp_B1_0 := cls10 B1.out
  go_wp2
  clear cp_B0_0 cp_B1_0
  go_ret
  exact ⟨ret_b HF.out.symm, d.out⟩
 rw [tt3]
 have TT3 := hd tt3
 clear tt3
 have cp_B0_0 := cls8 B0.out
 have cp_B1_0 := cls10 B1.out
 go_wp2_with fail
 clear cp_B0_0 cp_B1_0
 refine (in_any a8 0 32 _).mono ?_
 rintro e wx ⟨rfl, hwx⟩
 obtain rfl := hwx.symm
 rcases Bool.eq_false_or_eq_true (decide (0 ≤ a8 ∧ a8 ≤ 32)) with tt4 | tt4
 rotate_left
 ·
  rw [tt4]
  have HF := hd (act_no2 (s := (ss, now)) (a := ((a0, a1, x2, x3), a4, x5, a6, a7, a8, x9)) (fun g => of_decide_eq_false tt4 g.2.2.2))
  clear tt4
  have cp_B0_0 := cls8 B0.out
  have cp_B1_0 := cls10 B1.out
  go_wp2
  clear cp_B0_0 cp_B1_0
  go_ret
  exact ⟨ret_b HF.out.symm, d.out⟩
 rw [tt4]
 have TT4 := hd tt4
 clear tt4
 have cp_B0_0 := cls8 B0.out
 have cp_B1_0 := cls10 B1.out
 go_wp2_with fail
 clear cp_B0_0 cp_B1_0
 refine (specL9List (.slice p9 x9.length c9) x9 W2 (slR_below tRow_law H9.out d.out) S9.out).mono ?_
 rintro e W3 ⟨rfl, c⟩
 replace B0 := zb c B0
 replace B1 := zb c B1
 replace d := zD d c
 have Z_W3 := hd (show W2.heap.size ≤ W3.heap.size from c.size)
 clear c
 have HT : Hid (listB x9 = actB (ss, now) ((a0, a1, x2, x3), a4, x5, a6, a7, a8, x9)) := hd (by
  rcases Bool.eq_false_or_eq_true (listB x9) with g | g
  ·
   rw [g]; exact (act_yes (s := (ss, now)) (a := ((a0, a1, x2, x3), a4, x5, a6, a7, a8, x9)) HQ.out ⟨of_decide_eq_true TT1.out, of_decide_eq_true TT2.out, of_decide_eq_true TT3.out, of_decide_eq_true TT4.out⟩ HTD.out g).symm
  ·
   rw [g]; exact (act_no4 (s := (ss, now)) (a := ((a0, a1, x2, x3), a4, x5, a6, a7, a8, x9)) g).symm)
 go_wp2
 go_ret
 exact ⟨ret_b HT.out, d.out⟩
set_option maxHeartbeats 8000000 in
theorem specVersion (id born died now : Int) (vv : Value) (xs : List Int) (w : World) (h : Ints w vv xs) (hn : xs.length ≤ 1048576) (hw : now ≤ 100000) :
  Calls Tryz.prog 174 #[.agg #[.int .i64 id, vv, .int .i64 born, .int .i64 died], .int .i64 now] w fun e w' => e = .returned (.bool (verB (id, xs, born, died) now)) ∧ Below w.heap.size w w' := by
 have HR := hd (fun W g => specIsRow id vv xs W g hn)
 have H := hd h
 clear hn
 obtain ⟨va, vc, rfl⟩ := ints_len h
 have d0 := hd (show Below w.heap.size w (w.alloc (.cells #[.int .i64 id, .slice va xs.length vc, .int .i64 born, .int .i64 died] 197)) from (Below.refl _ _).alloc (Nat.le_refl _) _)
 have B0 : Hid ((w.alloc (.cells #[.int .i64 id, .slice va xs.length vc, .int .i64 born, .int .i64 died] 197)).heap[w.heap.size]? = some (.cells #[.int .i64 id, .slice va xs.length vc, .int .i64 born, .int .i64 died] 197 (0, 0))) := hd (heap_alloc_new w _)
 have Y0 : Hid (w.heap.size < (w.alloc (.cells #[.int .i64 id, .slice va xs.length vc, .int .i64 born, .int .i64 died] 197)).heap.size) := hd (by simp [World.size_alloc])
 have HV : Hid (∀ r l, rowB (id, xs) = r → decide (lifeP born died now) = l → verB (id, xs, born, died) now = (r && l)) := hd (fun r l h1 h2 => by unfold verB; rw [h1]; show (r && decide (lifeP born died now)) = _; rw [h2])
 clear h
 cases hr : rowB (id, xs) with
 | false =>
  rw [hr] at HR
  rw [HV.out _ _ hr rfl, Bool.false_and]
  clear hr HV
  go_enter Tryz.func174, Tryz.ntmps174
  go_wp2_with fail
  generalize w.alloc (.cells #[.int .i64 id, .slice va xs.length vc, .int .i64 born, .int .i64 died] 197) = W at *
  refine (HR.out W (ints_below H.out d0.out)).mono ?_
  rintro e w1 ⟨rfl, b1⟩
  have k0 := (b1.block w.heap.size Y0.out).trans B0.out
  have b2 := d0.out.trans (b1.mono d0.out.size)
  go_wp2
  go_ret
  exact ⟨rfl, b2⟩
 | true =>
  rw [hr] at HR
  have HV2 := hd (fun l => HV.out _ l hr)
  clear hr HV
  by_cases h1 : 0 ≤ born ∧ born ≤ now
  ·
   obtain ⟨h1a, h1b⟩ := h1
   by_cases h2 : died = -1
   ·
    have hl : decide (lifeP born died now) = true := decide_eq_true ⟨h1a, h1b, Or.inl h2⟩
    rw [HV2.out _ hl]
    have e2 : (died == -1) = true := by simp [h2]
    clear hl h2
    go_enter Tryz.func174, Tryz.ntmps174
    go_wp2_with fail
    generalize w.alloc (.cells #[.int .i64 id, .slice va xs.length vc, .int .i64 born, .int .i64 died] 197) = W at *
    refine (HR.out W (ints_below H.out d0.out)).mono ?_
    rintro e w1 ⟨rfl, b1⟩
    have k0 := (b1.block w.heap.size Y0.out).trans B0.out
    have b2 := d0.out.trans (b1.mono d0.out.size)
    have p0 := cr 0 (Value.int .i64 id) k0
    have p1 := cr 1 (Value.slice va xs.length vc) k0
    have p2 := cr 2 (Value.int .i64 born) k0
    have p3 := cr 3 (Value.int .i64 died) k0
    clear k0
    go_wp2_with fail
    refine (in_yes born 0 now _ h1a h1b).mono ?_
    rintro e wx ⟨rfl, rfl⟩
    go_wp2
    go_ret
    exact ⟨rfl, b2⟩
   ·
    have e2 : (died == -1) = false := by simp [h2]
    by_cases h3 : born + 1 ≤ died ∧ died ≤ now
    ·
     have hl : decide (lifeP born died now) = true := decide_eq_true ⟨h1a, h1b, Or.inr ⟨by omega, h3.2⟩⟩
     rw [HV2.out _ hl]
     have H3 := hd h3
     clear hl h2 h3
     go_enter Tryz.func174, Tryz.ntmps174
     go_wp2_with fail
     generalize w.alloc (.cells #[.int .i64 id, .slice va xs.length vc, .int .i64 born, .int .i64 died] 197) = W at *
     refine (HR.out W (ints_below H.out d0.out)).mono ?_
     rintro e w1 ⟨rfl, b1⟩
     have k0 := (b1.block w.heap.size Y0.out).trans B0.out
     have b2 := d0.out.trans (b1.mono d0.out.size)
     have p0 := cr 0 (Value.int .i64 id) k0
     have p1 := cr 1 (Value.slice va xs.length vc) k0
     have p2 := cr 2 (Value.int .i64 born) k0
     have p3 := cr 3 (Value.int .i64 died) k0
     clear k0
     go_wp2_with fail
     refine (in_yes born 0 now _ h1a h1b).mono ?_
     rintro e wx ⟨rfl, rfl⟩
     go_wp2_with fail
     refine (in_yes died (born + 1) now _ H3.out.1 H3.out.2).mono ?_
     rintro e wx ⟨rfl, rfl⟩
     go_wp2
     go_ret
     exact ⟨rfl, b2⟩
    ·
     have hl : decide (lifeP born died now) = false := decide_eq_false (fun g => by unfold lifeP at g; omega)
     rw [HV2.out _ hl]
     have H3 := hd h3
     clear hl h2 h3
     go_enter Tryz.func174, Tryz.ntmps174
     go_wp2_with fail
     generalize w.alloc (.cells #[.int .i64 id, .slice va xs.length vc, .int .i64 born, .int .i64 died] 197) = W at *
     refine (HR.out W (ints_below H.out d0.out)).mono ?_
     rintro e w1 ⟨rfl, b1⟩
     have k0 := (b1.block w.heap.size Y0.out).trans B0.out
     have b2 := d0.out.trans (b1.mono d0.out.size)
     have p0 := cr 0 (Value.int .i64 id) k0
     have p1 := cr 1 (Value.slice va xs.length vc) k0
     have p2 := cr 2 (Value.int .i64 born) k0
     have p3 := cr 3 (Value.int .i64 died) k0
     clear k0
     go_wp2_with fail
     refine (in_yes born 0 now _ h1a h1b).mono ?_
     rintro e wx ⟨rfl, rfl⟩
     go_wp2_with fail
     refine (in_no died (born + 1) now _ H3.out).mono ?_
     rintro e wx ⟨rfl, rfl⟩
     go_wp2
     go_ret
     exact ⟨rfl, b2⟩
  ·
   have hl : decide (lifeP born died now) = false := decide_eq_false (fun g => h1 ⟨g.1, g.2.1⟩)
   rw [HV2.out _ hl]
   have H1 := hd h1
   clear hl h1
   go_enter Tryz.func174, Tryz.ntmps174
   go_wp2_with fail
   generalize w.alloc (.cells #[.int .i64 id, .slice va xs.length vc, .int .i64 born, .int .i64 died] 197) = W at *
   refine (HR.out W (ints_below H.out d0.out)).mono ?_
   rintro e w1 ⟨rfl, b1⟩
   have k0 := (b1.block w.heap.size Y0.out).trans B0.out
   have b2 := d0.out.trans (b1.mono d0.out.size)
   have p0 := cr 0 (Value.int .i64 id) k0
   have p1 := cr 1 (Value.slice va xs.length vc) k0
   have p2 := cr 2 (Value.int .i64 born) k0
   have p3 := cr 3 (Value.int .i64 died) k0
   clear k0
   go_wp2_with fail
   refine (in_no born 0 now _ H1.out).mono ?_
   rintro e wx ⟨rfl, rfl⟩
   go_wp2
   go_ret
   exact ⟨rfl, b2⟩
set_option maxHeartbeats 8000000 in
theorem specApart (i1 b1 d1 i2 b2 d2 : Int) (v1 v2 : Value) (w : World) :
  Calls Tryz.prog 175 #[.agg #[.int .i64 i1, v1, .int .i64 b1, .int .i64 d1], .agg #[.int .i64 i2, v2, .int .i64 b2, .int .i64 d2]] w fun e w' => e = .returned (.bool (decide (apartP i1 b1 d1 i2 b2 d2))) ∧ Below w.heap.size w w' := by
 have hb : Below w.heap.size w ((w.alloc (.cells #[.int .i64 i1, v1, .int .i64 b1, .int .i64 d1] 197)).alloc (.cells #[.int .i64 i2, v2, .int .i64 b2, .int .i64 d2] 197)) := ((Below.refl _ w).alloc (Nat.le_refl _) _).alloc (by simp) _
 by_cases q1 : i1 = i2
 ·
  have e1 : (i1 != i2) = false := by simp [q1]
  have Q1 := hd q1
  clear q1
  by_cases q2 : d1 = -1
  ·
   have e2 : (d1 != -1) = false := by simp [q2]
   have Q2 := hd q2
   clear q2
   by_cases q4 : d2 = -1
   ·
    have e4 : (d2 != -1) = false := by simp [q4]
    have HD : Hid (decide (apartP i1 b1 d1 i2 b2 d2) = false) := hd (by have h1 := Q1.out; have h2 := Q2.out; exact decide_eq_false (fun g => by unfold apartP at g; omega))
    rw [HD.out]
    clear q4
    go_enter Tryz.func175, Tryz.ntmps175
    go_wp2
    go_ret
    exact ⟨ret_b (by first | rfl | simp [*]), hb⟩
   ·
    have e4 : (d2 != -1) = true := by simp [q4]
    by_cases q5 : d2 ≤ b1
    ·
     have q6 : d2 ≤ b1 := q5
     have HD : Hid (decide (apartP i1 b1 d1 i2 b2 d2) = true) := hd (decide_eq_true (Or.inr (Or.inr ⟨q4, q5⟩)))
     rw [HD.out]
     clear q4
     go_enter Tryz.func175, Tryz.ntmps175
     go_wp2
     go_ret
     exact ⟨ret_b (by first | rfl | simp [*]), hb⟩
    ·
     have e5 : decide (d2 ≤ b1) = false := decide_eq_false q5
     have HD : Hid (decide (apartP i1 b1 d1 i2 b2 d2) = false) := hd (by have h1 := Q1.out; have h2 := Q2.out; exact decide_eq_false (fun g => by unfold apartP at g; omega))
     rw [HD.out]
     clear q4
     go_enter Tryz.func175, Tryz.ntmps175
     go_wp2
     go_ret
     exact ⟨ret_b (by first | rfl | simp [*]), hb⟩
  ·
   have e2 : (d1 != -1) = true := by simp [q2]
   have Q2 := hd q2
   clear q2
   by_cases q3 : d1 ≤ b2
   ·
    have q6 : d1 ≤ b2 := q3
    have HD : Hid (decide (apartP i1 b1 d1 i2 b2 d2) = true) := hd (decide_eq_true (Or.inr (Or.inl ⟨Q2.out, q3⟩)))
    rw [HD.out]
    go_enter Tryz.func175, Tryz.ntmps175
    go_wp2
    go_ret
    exact ⟨ret_b (by first | rfl | simp [*]), hb⟩
   ·
    have e3 : decide (d1 ≤ b2) = false := decide_eq_false q3
    have Q3 := hd q3
    by_cases q4 : d2 = -1
    ·
     have e4 : (d2 != -1) = false := by simp [q4]
     have HD : Hid (decide (apartP i1 b1 d1 i2 b2 d2) = false) := hd (by have h1 := Q1.out; have h2 := Q2.out; have h3 := Q3.out; exact decide_eq_false (fun g => by unfold apartP at g; omega))
     rw [HD.out]
     clear q4
     go_enter Tryz.func175, Tryz.ntmps175
     go_wp2
     go_ret
     exact ⟨ret_b (by first | rfl | simp [*]), hb⟩
    ·
     have e4 : (d2 != -1) = true := by simp [q4]
     by_cases q5 : d2 ≤ b1
     ·
      have q6 : d2 ≤ b1 := q5
      have HD : Hid (decide (apartP i1 b1 d1 i2 b2 d2) = true) := hd (decide_eq_true (Or.inr (Or.inr ⟨q4, q5⟩)))
      rw [HD.out]
      clear q4
      go_enter Tryz.func175, Tryz.ntmps175
      go_wp2
      go_ret
      exact ⟨ret_b (by first | rfl | simp [*]), hb⟩
     ·
      have e5 : decide (d2 ≤ b1) = false := decide_eq_false q5
      have HD : Hid (decide (apartP i1 b1 d1 i2 b2 d2) = false) := hd (by have h1 := Q1.out; have h2 := Q2.out; have h3 := Q3.out; exact decide_eq_false (fun g => by unfold apartP at g; omega))
      rw [HD.out]
      clear q4
      go_enter Tryz.func175, Tryz.ntmps175
      go_wp2
      go_ret
      exact ⟨ret_b (by first | rfl | simp [*]), hb⟩
 ·
  have e1 : (i1 != i2) = true := by simp [q1]
  have HD : Hid (decide (apartP i1 b1 d1 i2 b2 d2) = true) := hd (decide_eq_true (Or.inl q1))
  rw [HD.out]
  clear q1
  go_enter Tryz.func175, Tryz.ntmps175
  go_wp2
  go_ret
  exact ⟨ret_b (by first | rfl | simp [*]), hb⟩
/-- The answer: a slice of the call's own whose cells read as these versions. -/
def AllV (w : World) (l : List VerD) (e : Ending) (w' : World) : Prop := ∃ (v : Value) (L : List (List Value)), e = .returned v ∧ SlO 197 (tRaw 4) w' (since w) v L ∧ Sh tVersion w L l ∧ Below w.heap.size w w'
set_option maxHeartbeats 8000000 in
theorem specL7All (sv : Value) (ss : List (List VerD)) (now : Int) (w : World) (h : SlR tVersionS w sv ss) (hs : zL tVersionS ss ≤ 1048576) :
  Calls Tryz.prog 173 #[.agg #[sv, .int .i64 now]] w (AllV w ss.flatten) := by
 have H := hd h
 have HS := hd hs
 have hlen := zL_len hs
 have HF : Hid (ss.flatten.length ≤ 1048576) := hd (by have h1 := zL_all ss; have h2 := zL_len (T := tVersion) (xs := ss.flatten) (M := 1048576) (by omega); omega)
 obtain ⟨a, cap, rfl⟩ := slR_len h
 clear h hs
 have d0 := hd (show Below w.heap.size w ((w.alloc (.cells #[.slice a ss.length cap, .int .i64 now] 35)).alloc (.cells #[] 197)) from ((Below.refl _ _).alloc (Nat.le_refl _) _).alloc (by simp) _)
 have B0 : Hid (((w.alloc (.cells #[.slice a ss.length cap, .int .i64 now] 35)).alloc (.cells #[] 197)).heap[w.heap.size]? = some (.cells #[.slice a ss.length cap, .int .i64 now] 35 (0, 0))) := hd (by rw [Below.heap_alloc _ _ _ (by simp)]; exact heap_alloc_new w _)
 have Y0 : Hid (w.heap.size < ((w.alloc (.cells #[.slice a ss.length cap, .int .i64 now] 35)).alloc (.cells #[] 197)).heap.size) := hd (by simp [World.size_alloc]; omega)
 have P0 : Hid (SlO 197 (tRaw 4) ((w.alloc (.cells #[.slice a ss.length cap, .int .i64 now] 35)).alloc (.cells #[] 197)) (fun b => w.heap.size < b) (.slice (some ⟨w.heap.size + 1, 0, none⟩) 0 0) []) := hd (by have := slO_empty (T := tRaw 4) (w.alloc (.cells #[.slice a ss.length cap, .int .i64 now] 35)) 197 (fun b => w.heap.size < b) (by simp [World.size_alloc]); simpa only [World.size_alloc] using this)
 go_enter Tryz.func173, Tryz.ntmps173
 go_wp2
 go_loopw [3, 4] (fun o i wr => ∃ (k : Nat) (L : List (List Value)), k ≤ ss.length ∧ i = .int .i64 k ∧ SlO 197 (tRaw 4) wr (fun b => w.heap.size < b) o L ∧ Hid (Sh tVersion w L (cat ss k)) ∧ wr.heap[w.heap.size]? = some (.cells #[.slice a ss.length cap, .int .i64 now] 35 (0, 0)) ∧ Below w.heap.size w wr ∧ w.heap.size < wr.heap.size) (fun _ i _ => ss.length - (intOf i).toNat)
 case atStart => exact ⟨0, [], Nat.zero_le _, rfl, P0.out, hd (by rw [cat_zero]; exact sh_nil w), B0.out, d0.out, Y0.out⟩
 case round =>
  obtain ⟨k, L, hk, rfl, hown, hsh, hbox, hbel, hy⟩ := hrel
  clear d0 B0 Y0 P0
  obtain ⟨oa, oc, rfl⟩ := slO_len hown
  have c0 := cr 0 (Value.slice a ss.length cap) hbox
  by_cases hlt : k < ss.length
  ·
   obtain ⟨b, off, cap2, cs, hv, hbl, hcs, hR⟩ := slR_at H.out hlt
   simp only [Value.slice.injEq] at hv
   obtain ⟨rfl, _, rfl⟩ := hv
   obtain ⟨u, rfl, hU⟩ := hR
   have p0 : w.cell? ⟨b, off + k, none⟩ = some u := by have := hcs 0 Nat.one_pos; rw [show tVersionS.n = 1 from rfl, Nat.mul_one, Nat.add_zero] at this; exact this
   have hel := (hbel.cell (p := ⟨b, off + k, none⟩) hbl).trans p0
   obtain ⟨M, hM, hSh⟩ := slR_raw tVersion_law one_Version hU
   have HM := hd (slR_below (tRaw_law (by decide)) hM hbel)
   have HC : Hid (Sh tVersion w (L ++ M) (cat ss (k + 1))) := hd (by rw [← cat_step hlt]; exact sh_app hsh.out hSh)
   have HL : Hid (L.length + M.length ≤ 2097152) := hd (by have h1 := sh_len HC.out; have h2 := cat_le ss (k + 1); have h3 := HF.out; rw [List.length_append] at h1; omega)
   have i1 : (0 : Int) ≤ (k : Int) := by omega
   have i2 : (k : Int) < (ss.length : Int) := by omega
   obtain ⟨ua, uc, hu⟩ := slR_len hU
   have HOWN := hd hown
   have HB := hd hbox
   have HY := hd hy
   have HD := hd hbel
   have HUV : Hid (∃ m, u = .slice ua m uc) := hd ⟨_, hu⟩
   clear hcs p0 hU hM hSh hsh hown hbox hu hbel hy
   obtain ⟨m, rfl⟩ := HUV.out
   clear HUV
   go_wp2_with (at_builtin; refine append_flat (tRaw_law (by decide)) (flat_raw 4) info_R_Version Tryz.underlying198 rfl rfl (.tmp 13) (.tmp 18) rfl (fun b => w.heap.size < b) (fun b => w.heap.size < b) _ _ L M rfl rfl HOWN.out HM.out (fun b h => h) HY.out HL.out ?_)
   intro v' w4 ho4 t4
   have hb4 := (t4.block w.heap.size HY.out (fun h => Nat.lt_irrefl _ h)).trans HB.out
   have hy4 := Nat.lt_of_lt_of_le HY.out t4.size
   have hd4 := below_turn HD.out t4 (fun b h => Nat.le_of_lt h) (Nat.le_of_lt HY.out)
   clear HOWN HM HL HB HY HD t4 c0 hel
   go_wp2
   go_roundw
   case rel => exact ⟨k + 1, _, by omega, by go_num, ho4, HC, hb4, hd4, hy4⟩
   case measure => simp [intOf]; omega
  ·
   obtain rfl : k = ss.length := by omega
   have HC : Hid (Sh tVersion w L ss.flatten) := hd (by rw [← cat_all]; exact hsh.out)
   clear hsh
   go_wp2
   go_ret
   exact ⟨_, L, rfl, slO_mono hown (fun b h => Nat.le_of_lt h), HC.out, hbel⟩
set_option maxHeartbeats 8000000 in
theorem specIsStore (sv : Value) (ss : List (List VerD)) (now : Int) (w : World) (h : SlR tVersionS w sv ss) (hs : zL tVersionS ss ≤ 1048576) :
  Calls Tryz.prog 113 #[.agg #[sv, .int .i64 now]] w (fun e w' => e = .returned (.bool (storeB ss now)) ∧ Below w.heap.size w w') := by
 have hlen := zL_len hs
 obtain ⟨a, cap, rfl⟩ := slR_len h
 have HC := hd (fun W g => specL7All (.slice a ss.length cap) ss now W g hs)
 have HZF : Hid (zL tVersion ss.flatten ≤ 1048576) := hd (by have := zL_all ss; omega)
 have H := hd h
 have HS := hd hs
 have d0 := hd (show Below w.heap.size w (w.alloc (.cells #[.slice a ss.length cap, .int .i64 now] 35)) from (Below.refl _ _).alloc (Nat.le_refl _) _)
 have B0 : Hid ((w.alloc (.cells #[.slice a ss.length cap, .int .i64 now] 35)).heap[w.heap.size]? = some (.cells #[.slice a ss.length cap, .int .i64 now] 35 (0, 0))) := hd (heap_alloc_new w _)
 have Y0 : Hid (w.heap.size < (w.alloc (.cells #[.slice a ss.length cap, .int .i64 now] 35)).heap.size) := hd (by simp [World.size_alloc])
 clear h hs
 by_cases hc : 1 ≤ ss.length ∧ ss.length ≤ 8
 rotate_left
 ·
  have HF := hd (store_no_count (now := now) hc)
  have HI := hd (fun W => in_no (ss.length : Int) 1 8 W (by omega))
  clear hc
  rw [HF.out]
  go_enter Tryz.func113, Tryz.ntmps113
  go_wp2_with fail
  refine (HI.out _).mono ?_
  rintro e wx ⟨rfl, rfl⟩
  go_wp2
  go_ret
  exact ⟨rfl, d0.out⟩
 have HI1 := hd (fun W => in_yes (ss.length : Int) 1 8 W (by omega) (by omega))
 have HCN := hd hc
 by_cases hn : 0 ≤ now ∧ now ≤ 100000
 rotate_left
 ·
  have HF := hd (store_no_now (ss := ss) hn)
  have HI := hd (fun W => in_no now 0 100000 W hn)
  clear hn
  rw [HF.out]
  go_enter Tryz.func113, Tryz.ntmps113
  go_wp2_with fail
  refine (HI1.out _).mono ?_
  rintro e wx ⟨rfl, rfl⟩
  go_wp2_with fail
  refine (HI.out _).mono ?_
  rintro e wx ⟨rfl, rfl⟩
  go_wp2
  go_ret
  exact ⟨rfl, d0.out⟩
 have HI2 := hd (fun W => in_yes now 0 100000 W hn.1 hn.2)
 have HNN := hd hn
 clear hc hn
 go_enter Tryz.func113, Tryz.ntmps113
 go_wp2_with fail
 refine (HI1.out _).mono ?_
 rintro e wx ⟨rfl, rfl⟩
 go_wp2_with fail
 refine (HI2.out _).mono ?_
 rintro e wx ⟨rfl, rfl⟩
 go_wp2
 generalize w.alloc (.cells #[.slice a ss.length cap, .int .i64 now] 35) = W at *
 have q0 := cr 0 (Value.slice a ss.length cap) B0.out
 have q1 := cr 1 (Value.int .i64 now) B0.out
 have G0 := hd q0
 have G1 := hd q1
 have HW := hd (slR_below tVersionS_law H.out d0.out)
 clear q0 q1 B0
 go_loopw [3] (fun i wr => ∃ k : Nat, k ≤ ss.length ∧ i = .int .i64 k ∧ Hid (ShortP ss k) ∧ Below W.heap.size W wr) (fun i _ => ss.length - (intOf i).toNat)
 case atStart => exact ⟨0, Nat.zero_le _, rfl, hd (fun j hj => by omega), Below.refl _ _⟩
 case round =>
  obtain ⟨k, hk, rfl, hsh, hbel⟩ := hrel
  have p0 := (hbel.cell (p := ⟨w.heap.size, 0, none⟩) Y0.out).trans G0.out
  have p1 := (hbel.cell (p := ⟨w.heap.size, 1, none⟩) Y0.out).trans G1.out
  by_cases hlt : k < ss.length
  ·
   have i1 : (0 : Int) ≤ (k : Int) := by omega
   have i2 : (k : Int) < (ss.length : Int) := by omega
   obtain ⟨b, off, cap', cs, hv, hbl, hcs, hR⟩ := slR_at HW.out hlt
   simp only [Value.slice.injEq] at hv
   obtain ⟨rfl, _, rfl⟩ := hv
   obtain ⟨u, rfl, hU⟩ := hR
   change SlR tVersion W u (ss.getD k []) at hU
   have pe : W.cell? ⟨b, off + k, none⟩ = some u := by have := hcs 0 Nat.one_pos; rw [show tVersionS.n = 1 from rfl, Nat.mul_one, Nat.add_zero] at this; exact this
   have he := (hbel.cell (p := ⟨b, off + k, none⟩) hbl).trans pe
   have HNO := hd (fun g => store_no_short (ss := ss) (now := now) hlt g)
   have HYS : Hid ((ss.getD k []).length ≤ 4 → ShortP ss (k + 1)) := hd (fun g j hj => by
    by_cases e : j = k
    ·
     rw [e]; exact g
    ·
     exact hsh.out j (by omega))
   have HML := hd (zL_len (show zL tVersion (ss.getD k []) ≤ 1048576 from Nat.le_trans (zL_seg hlt) HS.out))
   obtain ⟨ua, uc, rfl⟩ := slR_len hU
   have HB := hd hbel
   clear hcs pe hU hsh hbel
   generalize (ss.getD k []).length = m at *
   by_cases hm : m ≤ 4
   ·
    have HY := hd (HYS.out hm)
    have hmi : ¬ (4 : Int) < (m : Int) := by omega
    clear HYS HNO
    go_wp2
    go_roundw
    case rel => exact ⟨k + 1, by omega, by go_num, HY, HB.out⟩
    case measure => simp [intOf]; omega
   ·
    have HF := hd (HNO.out hm)
    have hmi : (4 : Int) < (m : Int) := by omega
    clear HYS HNO
    go_wp2
    go_ret
    exact ⟨ret_b HF.out.symm, d0.out.trans (HB.out.mono d0.out.size)⟩
  ·
   obtain rfl : k = ss.length := by omega
   have HSH := hd hsh.out
   clear hsh
   have HB := hd hbel
   clear hbel
   go_wp2_with fail
   refine (HC.out wr (slR_below tVersionS_law HW.out HB.out)).mono ?_
   rintro e w1 ⟨v, L, rfl, hown, hshv, b1⟩
   have hVR := raw_reads (T := tVersion) (by decide) hown (sh_below tVersion_law hshv b1)
   obtain ⟨va, vc, rfl⟩ := slO_len hown
   rw [sh_len hshv] at *
   have V := hd hVR
   have b2 := HB.out.trans (b1.mono HB.out.size)
   have D1 := hd (d0.out.trans (b2.mono d0.out.size))
   have CN := hd ((b2.cell (p := ⟨w.heap.size, 1, none⟩) Y0.out).trans G1.out)
   have YN := hd (Nat.lt_of_lt_of_le Y0.out b2.size)
   have HFL := hd (zL_len HZF.out)
   clear hVR hown hshv b1 b2 HB p0 p1 HW G0 G1
   have hfl := HFL.out
   obtain ⟨l, hl⟩ : ∃ l, l = ss.flatten := ⟨_, rfl⟩
   have HLL := hd hl
   rw [← hl] at V HFL hfl ⊢
   clear hl
   go_wp2
   go_loopw [5] (fun i wr => ∃ k : Nat, k ≤ l.length ∧ i = .int .i64 k ∧ Hid (VersP l now k) ∧ Below w1.heap.size w1 wr) (fun i _ => l.length - (intOf i).toNat)
   case atStart => exact ⟨0, Nat.zero_le _, rfl, hd (fun j hj => by omega), Below.refl _ _⟩
   case round =>
    obtain ⟨k, hk, rfl, hvs, hbel⟩ := hrel
    by_cases hlt : k < l.length
    ·
     have i1 : (0 : Int) ≤ (k : Int) := by omega
     have i2 : (k : Int) < (l.length : Int) := by omega
     obtain ⟨b, off, cap', xa, xc, hv, hbl, c0, c1, c2, c3, hx⟩ := verR_at V.out hlt
     simp only [Value.slice.injEq] at hv
     obtain ⟨rfl, _, rfl⟩ := hv
     have HXL := hd (ver_len (by rw [HLL.out]; exact HZF.out) hlt)
     have HNV : Hid (verB (l.getD k v0D) now = false → storeB ss now = false) := hd (fun g => store_no_ver (i := k) (by rw [← HLL.out]; exact hlt) (by rw [← HLL.out]; exact g))
     have HNA : Hid (∀ j, j < k → apartB (l.getD k v0D) (l.getD j v0D) = false → storeB ss now = false) := hd (fun j hj g => store_no_apart (i := k) (k := j) (by rw [← HLL.out]; exact hlt) hj (by rw [← HLL.out]; exact g))
     have HST : Hid (verB (l.getD k v0D) now = true → (∀ j, j < k → apartB (l.getD k v0D) (l.getD j v0D) = true) → VersP l now (k + 1)) := hd (fun g1 g2 => vers_step hvs.out g1 g2)
     have HRX : Hid (Ints w1 (.slice xa (l.getD k v0D).2.1.length xc) (l.getD k v0D).2.1) := hd hx
     obtain ⟨x, hxe⟩ : ∃ x, x = l.getD k v0D := ⟨_, rfl⟩
     rw [← hxe] at HXL HNV HNA HST HRX c0 c1 c2 c3
     obtain ⟨id, xs, born, died⟩ := x
     simp only at c0 c1 c2 c3
     have C0 := hd c0
     have C1 := hd c1
     have C2 := hd c2
     have C3 := hd c3
     have HBL := hd hbl
     have d := hd hbel
     clear hx hxe c0 c1 c2 c3 hbl hbel hvs
     cases hver : verB (id, xs, born, died) now with
     | false =>
      have HF := hd (HNV.out hver)
      have HCV := hd (fun W g => hver ▸ specVersion id born died now (.slice xa xs.length xc) xs W g HXL.out HNN.out.2)
      clear hver HNV HNA HST
      go_wp2
      have p_C0 := cx d C0 HBL
      have p_C1 := cx d C1 HBL
      have p_C2 := cx d C2 HBL
      have p_C3 := cx d C3 HBL
      have p_CN := cx d CN YN
      refine wp_region_held_drew (S := fun w' => w'.cell? ⟨b, off + k * 4, none⟩ = some (Value.int .i64 id) ∧ w'.cell? ⟨b, off + k * 4 + 1, none⟩ = some (Value.slice xa xs.length xc) ∧ w'.cell? ⟨b, off + k * 4 + 2, none⟩ = some (Value.int .i64 born) ∧ w'.cell? ⟨b, off + k * 4 + 3, none⟩ = some (Value.int .i64 died) ∧ w'.cell? ⟨w.heap.size, 1, none⟩ = some (.int .i64 now)) (by kernel_rfl) ⟨p_C0, p_C1, p_C2, p_C3, p_CN⟩ (fun hHeld => ?_)
      clear p_C0 p_C1 p_C2 p_C3 p_CN
      have cdr : Below wr.heap.size wr wr.drew := below_drew (Below.refl _ _)
      replace d := zD d cdr
      clear cdr
      refine tQ (i := 0) ?_
      try simp only [Act.put, lA, lB, lC]
      refine tQ (i := 1) ?_
      try simp only [Act.put, lA, lB, lC]
      refine tQ (i := 2) ?_
      try simp only [Act.put, lA, lB, lC]
      refine tQ (i := 3) ?_
      try simp only [Act.put, lA, lB, lC]
      refine tQ (i := 4) ?_
      try simp only [Act.put, lA, lB, lC]
      refine tQ (i := 5) ?_
      try simp only [Act.put, lA, lB, lC]
      refine rA 6 (fun K hK => ?_)
      go_simp
      refine (HCV.out (wr.drew) (ints_below HRX.out d.out)).mono ?_
      rintro e w5 ⟨rfl, c5⟩
      replace d := zD d c5
      have Z_w5 := hd (show wr.heap.size ≤ w5.heap.size from c5.size)
      clear c5
      have p_C0 := cx d C0 HBL
      have p_C1 := cx d C1 HBL
      have p_C2 := cx d C2 HBL
      have p_C3 := cx d C3 HBL
      have p_CN := cx d CN YN
      refine hK.out _ _ ⟨p_C0, p_C1, p_C2, p_C3, p_CN⟩ (fun hHeld => ?_)
      clear p_C0 p_C1 p_C2 p_C3 p_CN
      clear hK K
      try simp only [Act.put, lA, lB, lC]
      refine tQ (i := 7) ?_
      try simp only [Act.put, lA, lB, lC]
      refine wpAnyH_done (by kernel_rfl) ?_ _
      clear hHeld
      go_wp2
      go_ret
      exact ⟨ret_b HF.out.symm, D1.out.trans (d.out.mono D1.out.size)⟩
     | true =>
      have HCV := hd (fun W g => hver ▸ specVersion id born died now (.slice xa xs.length xc) xs W g HXL.out HNN.out.2)
      have HST2 := hd (HST.out hver)
      clear hver HNV HST
      go_wp2
      have p_C0 := cx d C0 HBL
      have p_C1 := cx d C1 HBL
      have p_C2 := cx d C2 HBL
      have p_C3 := cx d C3 HBL
      have p_CN := cx d CN YN
      refine wp_region_held_drew (S := fun w' => w'.cell? ⟨b, off + k * 4, none⟩ = some (Value.int .i64 id) ∧ w'.cell? ⟨b, off + k * 4 + 1, none⟩ = some (Value.slice xa xs.length xc) ∧ w'.cell? ⟨b, off + k * 4 + 2, none⟩ = some (Value.int .i64 born) ∧ w'.cell? ⟨b, off + k * 4 + 3, none⟩ = some (Value.int .i64 died) ∧ w'.cell? ⟨w.heap.size, 1, none⟩ = some (.int .i64 now)) (by kernel_rfl) ⟨p_C0, p_C1, p_C2, p_C3, p_CN⟩ (fun hHeld => ?_)
      clear p_C0 p_C1 p_C2 p_C3 p_CN
      have cdr : Below wr.heap.size wr wr.drew := below_drew (Below.refl _ _)
      replace d := zD d cdr
      clear cdr
      refine tQ (i := 0) ?_
      try simp only [Act.put, lA, lB, lC]
      refine tQ (i := 1) ?_
      try simp only [Act.put, lA, lB, lC]
      refine tQ (i := 2) ?_
      try simp only [Act.put, lA, lB, lC]
      refine tQ (i := 3) ?_
      try simp only [Act.put, lA, lB, lC]
      refine tQ (i := 4) ?_
      try simp only [Act.put, lA, lB, lC]
      refine tQ (i := 5) ?_
      try simp only [Act.put, lA, lB, lC]
      refine rA 6 (fun K hK => ?_)
      go_simp
      refine (HCV.out (wr.drew) (ints_below HRX.out d.out)).mono ?_
      rintro e w5 ⟨rfl, c5⟩
      replace d := zD d c5
      have Z_w5 := hd (show wr.heap.size ≤ w5.heap.size from c5.size)
      clear c5
      have p_C0 := cx d C0 HBL
      have p_C1 := cx d C1 HBL
      have p_C2 := cx d C2 HBL
      have p_C3 := cx d C3 HBL
      have p_CN := cx d CN YN
      refine hK.out _ _ ⟨p_C0, p_C1, p_C2, p_C3, p_CN⟩ (fun hHeld => ?_)
      clear p_C0 p_C1 p_C2 p_C3 p_CN
      clear hK K
      try simp only [Act.put, lA, lB, lC]
      refine tQ (i := 7) ?_
      try simp only [Act.put, lA, lB, lC]
      refine wpAnyH_done (by kernel_rfl) ?_ _
      clear hHeld
      go_wp2
      go_loopw [6] (fun i wr => ∃ m : Nat, m ≤ k ∧ i = .int .i64 m ∧ Hid (∀ j, j < m → apartB (id, xs, born, died) (l.getD j v0D) = true) ∧ Below w1.heap.size w1 wr) (fun i _ => k - (intOf i).toNat)
      case atStart => exact ⟨0, Nat.zero_le _, rfl, hd (fun j hj => by omega), d.out⟩
      case round =>
       obtain ⟨m, hm, rfl, hap, hbel⟩ := hrel
       clear d
       by_cases hml : m < k
       ·
        have j1 : (0 : Int) ≤ (m : Int) := by omega
        have j2 : (m : Int) < (l.length : Int) := by omega
        have j3 : (m : Int) < (k : Int) := by omega
        obtain ⟨b2, off2, cap2, ya, yc, hv, hbl2, y0, y1, y2, y3, hy⟩ := verR_at V.out (k := m) (by omega)
        simp only [Value.slice.injEq, Option.some.injEq, Addr.mk.injEq] at hv
        obtain ⟨⟨rfl, rfl, _⟩, _, rfl⟩ := hv
        have HNX := hd (HNA.out m hml)
        have HYX : Hid (apartB (id, xs, born, died) (l.getD m v0D) = true → ∀ j, j < m + 1 → apartB (id, xs, born, died) (l.getD j v0D) = true) := hd (fun g j hj => by
         by_cases e : j = m
         ·
          rw [e]; exact g
         ·
          exact hap.out j (by omega))
        generalize l.getD m v0D = y at *
        obtain ⟨id2, ys, born2, died2⟩ := y
        simp only at y0 y1 y2 y3
        have E0 := hd y0
        have E1 := hd y1
        have E2 := hd y2
        have E3 := hd y3
        have d := hd hbel
        clear y0 y1 y2 y3 hy hap hbel
        have HCA := hd (specApart id born died id2 born2 died2 (.slice xa xs.length xc) (.slice ya ys.length yc))
        cases hapt : decide (apartP id born died id2 born2 died2) with
        | false =>
         have HF := hd (HNX.out hapt)
         rw [hapt] at HCA
         clear hapt HNX HYX
         go_wp2
         have p_C0 := cx d C0 HBL
         have p_C1 := cx d C1 HBL
         have p_C2 := cx d C2 HBL
         have p_C3 := cx d C3 HBL
         have p_E0 := cx d E0 HBL
         have p_E1 := cx d E1 HBL
         have p_E2 := cx d E2 HBL
         have p_E3 := cx d E3 HBL
         refine wp_region_held_drew (S := fun w' => w'.cell? ⟨b, off + k * 4, none⟩ = some (Value.int .i64 id) ∧ w'.cell? ⟨b, off + k * 4 + 1, none⟩ = some (Value.slice xa xs.length xc) ∧ w'.cell? ⟨b, off + k * 4 + 2, none⟩ = some (Value.int .i64 born) ∧ w'.cell? ⟨b, off + k * 4 + 3, none⟩ = some (Value.int .i64 died) ∧ w'.cell? ⟨b, off + m * 4, none⟩ = some (Value.int .i64 id2) ∧ w'.cell? ⟨b, off + m * 4 + 1, none⟩ = some (Value.slice ya ys.length yc) ∧ w'.cell? ⟨b, off + m * 4 + 2, none⟩ = some (Value.int .i64 born2) ∧ w'.cell? ⟨b, off + m * 4 + 3, none⟩ = some (Value.int .i64 died2)) (by kernel_rfl) ⟨p_C0, p_C1, p_C2, p_C3, p_E0, p_E1, p_E2, p_E3⟩ (fun hHeld => ?_)
         clear p_C0 p_C1 p_C2 p_C3 p_E0 p_E1 p_E2 p_E3
         have cdr : Below wr.heap.size wr wr.drew := below_drew (Below.refl _ _)
         replace d := zD d cdr
         clear cdr
         refine tQ (i := 0) ?_
         try simp only [Act.put, lA, lB, lC]
         refine tQ (i := 1) ?_
         try simp only [Act.put, lA, lB, lC]
         refine tQ (i := 2) ?_
         try simp only [Act.put, lA, lB, lC]
         refine tQ (i := 3) ?_
         try simp only [Act.put, lA, lB, lC]
         refine tQ (i := 4) ?_
         try simp only [Act.put, lA, lB, lC]
         refine tQ (i := 5) ?_
         try simp only [Act.put, lA, lB, lC]
         refine tQ (i := 6) ?_
         try simp only [Act.put, lA, lB, lC]
         refine tQ (i := 7) ?_
         try simp only [Act.put, lA, lB, lC]
         refine rA 8 (fun K hK => ?_)
         go_simp
         refine (HCA.out (wr.drew)).mono ?_
         rintro e w6 ⟨rfl, c6⟩
         replace d := zD d c6
         have Z_w6 := hd (show wr.heap.size ≤ w6.heap.size from c6.size)
         clear c6
         have p_C0 := cx d C0 HBL
         have p_C1 := cx d C1 HBL
         have p_C2 := cx d C2 HBL
         have p_C3 := cx d C3 HBL
         have p_E0 := cx d E0 HBL
         have p_E1 := cx d E1 HBL
         have p_E2 := cx d E2 HBL
         have p_E3 := cx d E3 HBL
         refine hK.out _ _ ⟨p_C0, p_C1, p_C2, p_C3, p_E0, p_E1, p_E2, p_E3⟩ (fun hHeld => ?_)
         clear p_C0 p_C1 p_C2 p_C3 p_E0 p_E1 p_E2 p_E3
         clear hK K
         try simp only [Act.put, lA, lB, lC]
         refine tQ (i := 9) ?_
         try simp only [Act.put, lA, lB, lC]
         refine wpAnyH_done (by kernel_rfl) ?_ _
         clear hHeld
         go_wp2
         go_ret
         exact ⟨ret_b HF.out.symm, D1.out.trans (d.out.mono D1.out.size)⟩
        | true =>
         have HA2 := hd (HYX.out hapt)
         rw [hapt] at HCA
         clear hapt HNX HYX
         go_wp2
         have p_C0 := cx d C0 HBL
         have p_C1 := cx d C1 HBL
         have p_C2 := cx d C2 HBL
         have p_C3 := cx d C3 HBL
         have p_E0 := cx d E0 HBL
         have p_E1 := cx d E1 HBL
         have p_E2 := cx d E2 HBL
         have p_E3 := cx d E3 HBL
         refine wp_region_held_drew (S := fun w' => w'.cell? ⟨b, off + k * 4, none⟩ = some (Value.int .i64 id) ∧ w'.cell? ⟨b, off + k * 4 + 1, none⟩ = some (Value.slice xa xs.length xc) ∧ w'.cell? ⟨b, off + k * 4 + 2, none⟩ = some (Value.int .i64 born) ∧ w'.cell? ⟨b, off + k * 4 + 3, none⟩ = some (Value.int .i64 died) ∧ w'.cell? ⟨b, off + m * 4, none⟩ = some (Value.int .i64 id2) ∧ w'.cell? ⟨b, off + m * 4 + 1, none⟩ = some (Value.slice ya ys.length yc) ∧ w'.cell? ⟨b, off + m * 4 + 2, none⟩ = some (Value.int .i64 born2) ∧ w'.cell? ⟨b, off + m * 4 + 3, none⟩ = some (Value.int .i64 died2)) (by kernel_rfl) ⟨p_C0, p_C1, p_C2, p_C3, p_E0, p_E1, p_E2, p_E3⟩ (fun hHeld => ?_)
         clear p_C0 p_C1 p_C2 p_C3 p_E0 p_E1 p_E2 p_E3
         have cdr : Below wr.heap.size wr wr.drew := below_drew (Below.refl _ _)
         replace d := zD d cdr
         clear cdr
         refine tQ (i := 0) ?_
         try simp only [Act.put, lA, lB, lC]
         refine tQ (i := 1) ?_
         try simp only [Act.put, lA, lB, lC]
         refine tQ (i := 2) ?_
         try simp only [Act.put, lA, lB, lC]
         refine tQ (i := 3) ?_
         try simp only [Act.put, lA, lB, lC]
         refine tQ (i := 4) ?_
         try simp only [Act.put, lA, lB, lC]
         refine tQ (i := 5) ?_
         try simp only [Act.put, lA, lB, lC]
         refine tQ (i := 6) ?_
         try simp only [Act.put, lA, lB, lC]
         refine tQ (i := 7) ?_
         try simp only [Act.put, lA, lB, lC]
         refine rA 8 (fun K hK => ?_)
         go_simp
         refine (HCA.out (wr.drew)).mono ?_
         rintro e w6 ⟨rfl, c6⟩
         replace d := zD d c6
         have Z_w6 := hd (show wr.heap.size ≤ w6.heap.size from c6.size)
         clear c6
         have p_C0 := cx d C0 HBL
         have p_C1 := cx d C1 HBL
         have p_C2 := cx d C2 HBL
         have p_C3 := cx d C3 HBL
         have p_E0 := cx d E0 HBL
         have p_E1 := cx d E1 HBL
         have p_E2 := cx d E2 HBL
         have p_E3 := cx d E3 HBL
         refine hK.out _ _ ⟨p_C0, p_C1, p_C2, p_C3, p_E0, p_E1, p_E2, p_E3⟩ (fun hHeld => ?_)
         clear p_C0 p_C1 p_C2 p_C3 p_E0 p_E1 p_E2 p_E3
         clear hK K
         try simp only [Act.put, lA, lB, lC]
         refine tQ (i := 9) ?_
         try simp only [Act.put, lA, lB, lC]
         refine wpAnyH_done (by kernel_rfl) ?_ _
         clear hHeld
         go_wp2
         go_roundw
         case rel => exact ⟨m + 1, by omega, by go_num, HA2, d.out⟩
         case measure => simp [intOf]; omega
       ·
        obtain rfl : m = k := by omega
        have HVK := hd (HST2.out hap.out)
        have HB := hd hbel
        clear hap hbel
        go_wp2
        go_roundw
        case rel => exact ⟨m + 1, by omega, by go_num, HVK, HB.out⟩
        case measure => simp [intOf]; omega
    ·
     obtain rfl : k = l.length := by omega
     have HT : Hid (storeB ss now = true) := hd (store_yes HCN.out HNN.out HSH.out (by rw [← HLL.out]; exact hvs.out))
     have HB := hd (D1.out.trans (hbel.mono D1.out.size))
     clear hvs hbel
     go_wp2
     go_ret
     exact ⟨ret_b HT.out.symm, HB.out⟩
/-- As far as k the order is one. -/
def OrdTo (os : List Int) (k : Nat) : Prop := ∀ i, i < k → (0 ≤ os.getD i 0 ∧ os.getD i 0 ≤ 2) ∧ os.getD i 0 ∉ os.take i
theorem orderB_len {os : List Int} (h : ¬ os.length = 3) : orderB os = false := by unfold orderB; rw [decide_eq_false h]; rfl
theorem orderB_yes {os : List Int} (hl : os.length = 3) (h : OrdTo os os.length) : orderB os = true := by
 unfold orderB
 rw [decide_eq_true hl, Bool.true_and, List.all_eq_true]
 intro i hi
 have := h i (List.mem_range.1 hi)
 simp only [Bool.and_eq_true, decide_eq_true_eq, Bool.not_eq_true', decide_eq_false_iff_not]
 exact this
theorem orderB_no {os : List Int} {k : Nat} (hk : k < os.length) (h : ¬ ((0 ≤ os.getD k 0 ∧ os.getD k 0 ≤ 2) ∧ os.getD k 0 ∉ os.take k)) : orderB os = false := by
 rw [Bool.eq_false_iff]
 intro g
 unfold orderB at g
 rw [Bool.and_eq_true, List.all_eq_true] at g
 have := g.2 k (List.mem_range.2 hk)
 simp only [Bool.and_eq_true, decide_eq_true_eq, Bool.not_eq_true', decide_eq_false_iff_not] at this
 exact h this
theorem ints_take {w : World} {b off cap n : Nat} {xs : List Int} (h : Ints w (.slice (some ⟨b, off, none⟩) n cap) xs) {k : Nat} (hk : k ≤ xs.length) (hp : 0 < xs.length) : Ints w (.slice (some ⟨b, off, none⟩) k cap) (xs.take k) := by
 rcases h with ⟨rfl, _⟩ | ⟨b', off', cap', hv, h2, h3, h4⟩
 ·
  simp at hp
 ·
  simp only [Value.slice.injEq, Option.some.injEq, Addr.mk.injEq] at hv
  obtain ⟨⟨rfl, rfl, _⟩, _, rfl⟩ := hv
  have hl : (xs.take k).length = k := by rw [List.length_take]; omega
  refine Or.inr ⟨b, off, cap, by rw [hl], by omega, h3, fun j hj => ?_⟩
  rw [hl] at hj
  rw [h4 j (by omega)]
  have h1 : j < (xs.take k).length := by omega
  simp [List.getD, hj, show j < xs.length by omega]
theorem ints_cap {w : World} {b off cap n : Nat} {xs : List Int} (h : Ints w (.slice (some ⟨b, off, none⟩) n cap) xs) (hp : 0 < xs.length) : xs.length ≤ cap := by
 rcases h with ⟨rfl, _⟩ | ⟨b', off', cap', hv, h2, _⟩
 ·
  simp at hp
 ·
  simp only [Value.slice.injEq] at hv
  obtain ⟨_, _, rfl⟩ := hv
  exact h2
theorem has_yes (v : Value) (xs : List Int) (x : Int) (w : World) (h : Ints w v xs) (hn : xs.length ≤ 1048576) (hm : x ∈ xs) :
  Calls Tryz.prog 67 #[v, .int .i64 x] w fun e w' => e = .returned (.bool true) ∧ w' = w :=
 (specHas v xs x w h hn).mono fun e w' g => ⟨by rw [g.1, decide_eq_true hm], g.2.symm⟩
theorem has_no (v : Value) (xs : List Int) (x : Int) (w : World) (h : Ints w v xs) (hn : xs.length ≤ 1048576) (hm : x ∉ xs) :
  Calls Tryz.prog 67 #[v, .int .i64 x] w fun e w' => e = .returned (.bool false) ∧ w' = w :=
 (specHas v xs x w h hn).mono fun e w' g => ⟨by rw [g.1, decide_eq_false hm], g.2.symm⟩
set_option maxHeartbeats 4000000 in
theorem specL6Order (v : Value) (os : List Int) (w : World) (h : Ints w v os) (hn : os.length ≤ 1048576) :
  Calls Tryz.prog 114 #[v] w fun e w' => e = .returned (.bool (orderB os)) ∧ Below w.heap.size w w' := by
 have H := hd h
 obtain ⟨a, cap, rfl⟩ := ints_len h
 clear h
 by_cases hl : os.length = 3
 ·
  have hne : ((os.length : Int) != 3) = false := by rw [hl]; rfl
  have HL := hd hl
  clear hl
  go_enter Tryz.func114, Tryz.ntmps114
  go_wp2
  clear hne
  go_loopw [3] (fun i wr => ∃ k : Nat, k ≤ os.length ∧ i = .int .i64 k ∧ Hid (OrdTo os k) ∧ Below w.heap.size w wr) (fun i _ => os.length - (intOf i).toNat)
  case atStart => exact ⟨0, Nat.zero_le _, rfl, hd (fun i hi => by omega), Below.refl _ _⟩
  case round =>
   obtain ⟨k, hk, rfl, hord, hbel⟩ := hrel
   by_cases hlt : k < os.length
   ·
    have I := ints_below H.out hbel
    obtain ⟨b, off, cap', hv, hbl, hc⟩ := ints_cell I (by omega)
    simp only [Value.slice.injEq] at hv
    obtain ⟨rfl, _, rfl⟩ := hv
    have hcell := hc k hlt
    have hcp := ints_cap I (by omega)
    have HT := hd (ints_take I hk (by omega))
    have HTL : Hid ((os.take k).length ≤ 1048576) := hd (by rw [List.length_take]; omega)
    have i1 : (0 : Int) ≤ (k : Int) := by omega
    have i2 : (k : Int) < (os.length : Int) := by omega
    have i3 : (k : Int) ≤ (cap : Int) := by omega
    have i4 : k ≤ cap := by omega
    have HNO := hd (fun h => orderB_no (os := os) hlt h)
    have HST : Hid ((0 ≤ os.getD k 0 ∧ os.getD k 0 ≤ 2) ∧ os.getD k 0 ∉ os.take k → OrdTo os (k + 1)) := hd (fun h i hi => by
     by_cases e : i = k
     ·
      rw [e]; exact h
     ·
      exact hord.out i (by omega))
    clear hc I hord
    generalize os.getD k 0 = y at *
    generalize os.take k = ts at *
    by_cases hin : 0 ≤ y ∧ y ≤ 2
    ·
     obtain ⟨g0, g1⟩ := hin
     by_cases hm : y ∈ ts
     ·
      have HF := hd (HNO.out (fun q => q.2 hm))
      have HM := hd hm
      clear hm HNO HST
      go_wp2
      go_quiet ((first | (go_at_call 55; exact Calls.quiet_of_same (in_yes _ _ _ _ (by omega) (by omega))) | (go_at_call 67; exact Calls.quiet_of_same (has_yes _ ts _ _ HT.out HTL.out HM.out))))
      go_wp2
      go_ret
      exact ⟨ret_b HF.out.symm, below_same hbel rfl rfl rfl rfl⟩
     ·
      have HS := hd (HST.out ⟨⟨g0, g1⟩, hm⟩)
      have HM := hd hm
      clear hm HNO HST
      go_wp2
      go_quiet ((first | (go_at_call 55; exact Calls.quiet_of_same (in_yes _ _ _ _ (by omega) (by omega))) | (go_at_call 67; exact Calls.quiet_of_same (has_no _ ts _ _ HT.out HTL.out HM.out))))
      go_wp2
      go_roundw
      case rel => exact ⟨k + 1, by omega, by go_num, HS, below_same hbel rfl rfl rfl rfl⟩
      case measure => simp [intOf]; omega
    ·
     have HF := hd (HNO.out (fun q => hin q.1))
     have HI := hd hin
     clear hin HNO HST
     go_wp2
     go_quiet ((go_at_call 55; exact Calls.quiet_of_same (in_no _ _ _ _ HI.out)))
     go_wp2
     go_ret
     exact ⟨ret_b HF.out.symm, below_same hbel rfl rfl rfl rfl⟩
   ·
    obtain rfl : k = os.length := by omega
    have HY := hd (orderB_yes HL.out hord.out)
    clear hord
    go_wp2
    go_ret
    exact ⟨ret_b HY.out.symm, hbel⟩
 ·
  have hne : ((os.length : Int) != 3) = true := by rw [bne_iff_ne]; omega
  have HF := hd (orderB_len hl)
  clear hl
  go_enter Tryz.func114, Tryz.ntmps114
  go_wp2
  go_ret
  exact ⟨ret_b HF.out.symm, Below.refl _ _⟩
end Go.Proofs.YtogbgeekmdnhlaaGreatDoor
