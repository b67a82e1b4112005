/-
 Texts of the proof, merged: Rec, RecLim, RecEq, RowIsP, VerP1, VerP2, HasSeg, QueryIsP, EngP2.
-/
import Derived.Test.YtnepfacnmaoieaaGreatDoorPK2
import Derived.Test.YtnepfacnmaoieaaGreatDoorPK3
import Derived.Test.YtnepfacnmaoieaaGreatDoorPK4
import Derived.Test.YtnepfacnmaoieaaGreatDoorPK5
import Derived.Test.YtnepfacnmaoieaaGreatDoorPK9
import Derived.Laws.CopyOwn
import Derived.Lib.MinMax
import Derived.Laws.StructEq
namespace Go.Proofs.YtnepfacnmaoieaaGreatDoor
open Go.RowKit
set_option maxRecDepth 100000
set_option linter.unusedVariables false
set_option linter.unusedSimpArgs false
/-- The record of a row. -/
def recV (id : Int) (xs : List Int) : Value := .agg #[.int .i64 id, .int .i64 xs.length, .int .i64 (xs.getD 0 0), .int .i64 (xs.getD 1 0), .int .i64 (xs.getD 2 0)]
theorem info_size {P : Program} {e : TypeId} {z : Option Value} {n b : Nat} (h : (P.info? e).map (fun i => (i.zero, i.size, i.bytes)) = some (z, n, b)) : (P.info? e).map (·.size) = some n := by
 cases hq : P.info? e with
 | none => rw [hq] at h; simp at h
 | some i => rw [hq] at h; simp at h; simp [h.2.1]
theorem copy_src {w : World} {a : Option Addr} {cap g : Nat} {xs : List Int} (h : Ints w (.slice a xs.length cap) xs) : 0 < ((xs.take 3).map (Value.int .i64)).length → (some ⟨g, 2, none⟩ : Option Addr) = some ⟨g, 2, none⟩ ∧ ∃ ad, a = some ad ∧ ∀ j v, ((xs.take 3).map (Value.int .i64))[j]? = some v → w.cell? (ad.add j) = some v := by
 intro h0
 refine ⟨rfl, ?_⟩
 rcases h with ⟨rfl, _⟩ | ⟨b, off, cap', e, _, _, hc⟩
 ·
  simp at h0
 ·
  simp only [Value.slice.injEq] at e
  obtain ⟨rfl, _, _⟩ := e
  refine ⟨_, rfl, fun j v hj => ?_⟩
  rw [Go.WideShapes.add_plain]
  rw [List.getElem?_map, List.getElem?_take] at hj
  by_cases hlt : j < 3
  ·
   rw [if_pos hlt] at hj
   by_cases hl : j < xs.length
   ·
    rw [hc j hl]
    rw [List.getElem?_eq_getElem hl] at hj
    simpa [List.getD, hl] using hj
   ·
    rw [List.getElem?_eq_none (by omega)] at hj
    simp at hj
  ·
   rw [if_neg hlt] at hj
   simp at hj
theorem splice_rec (a b : Value) (xs : List Int) : splice [a, b, .int .i64 0, .int .i64 0, .int .i64 0] 2 ((xs.take 3).map (Value.int .i64)) = [a, b, .int .i64 (xs.getD 0 0), .int .i64 (xs.getD 1 0), .int .i64 (xs.getD 2 0)] := by
 match xs with
 | [] => rfl
 | [x] => rfl
 | [x, y] => rfl
 | x :: y :: z :: r => rfl
set_option maxHeartbeats 4000000 in
theorem recordOf_any (id : Int) (vv : Value) (xs : List Int) (w : World) (h : Ints w vv xs) (hn : xs.length ≤ 1048576) :
  Calls Tryz.prog 270 #[.agg #[.int .i64 id, vv]] w fun e w' => e = .returned (recV id xs) ∧ Below w.heap.size w w' := by
 have H := Lib.hid h
 have HN := Lib.hid hn
 obtain ⟨va, vcap, rfl⟩ := ints_len h
 clear h hn
 go_enter Tryz.func270, Tryz.ntmps270
 go_wp2
 have hh : Below w.heap.size w (((w.alloc (.cells #[.int .i64 id, .slice va xs.length vcap] 75)).alloc (.cells #[.int .i64 0, .int .i64 0, .int .i64 0, .int .i64 0, .int .i64 0] 327)).alloc (.cells #[.int .i64 id, .int .i64 xs.length, .int .i64 0, .int .i64 0, .int .i64 0] 327)) := (((Below.refl _ w).alloc (Nat.le_refl _) _).alloc (by simp) _).alloc (by simp; omega) _
 have g2 : (((w.alloc (.cells #[.int .i64 id, .slice va xs.length vcap] 75)).alloc (.cells #[.int .i64 0, .int .i64 0, .int .i64 0, .int .i64 0, .int .i64 0] 327)).alloc (.cells #[.int .i64 id, .int .i64 xs.length, .int .i64 0, .int .i64 0, .int .i64 0] 327)).heap[w.heap.size + 2]? = some (.cells #[.int .i64 id, .int .i64 xs.length, .int .i64 0, .int .i64 0, .int .i64 0] 327 (0, 0)) := by
  have := heap_alloc_new ((w.alloc (.cells #[.int .i64 id, .slice va xs.length vcap] 75)).alloc (.cells #[.int .i64 0, .int .i64 0, .int .i64 0, .int .i64 0, .int .i64 0] 327)) (.cells #[.int .i64 id, .int .i64 xs.length, .int .i64 0, .int .i64 0, .int .i64 0] 327)
  simpa only [World.size_alloc] using this
 have g1 : (((w.alloc (.cells #[.int .i64 id, .slice va xs.length vcap] 75)).alloc (.cells #[.int .i64 0, .int .i64 0, .int .i64 0, .int .i64 0, .int .i64 0] 327)).alloc (.cells #[.int .i64 id, .int .i64 xs.length, .int .i64 0, .int .i64 0, .int .i64 0] 327)).heap[w.heap.size + 1]? = some (.cells #[.int .i64 0, .int .i64 0, .int .i64 0, .int .i64 0, .int .i64 0] 327 (0, 0)) := by
  rw [Below.heap_alloc _ _ _ (by simp)]
  have := heap_alloc_new (w.alloc (.cells #[.int .i64 id, .slice va xs.length vcap] 75)) (.cells #[.int .i64 0, .int .i64 0, .int .i64 0, .int .i64 0, .int .i64 0] 327)
  simpa only [World.size_alloc] using this
 have g0 : (((w.alloc (.cells #[.int .i64 id, .slice va xs.length vcap] 75)).alloc (.cells #[.int .i64 0, .int .i64 0, .int .i64 0, .int .i64 0, .int .i64 0] 327)).alloc (.cells #[.int .i64 id, .int .i64 xs.length, .int .i64 0, .int .i64 0, .int .i64 0] 327)).heap[w.heap.size]? = some (.cells #[.int .i64 id, .slice va xs.length vcap] 75 (0, 0)) := by
  rw [Below.heap_alloc _ _ _ (by simp; omega), Below.heap_alloc _ _ _ (by simp)]
  exact heap_alloc_new w _
 have hs : (((w.alloc (.cells #[.int .i64 id, .slice va xs.length vcap] 75)).alloc (.cells #[.int .i64 0, .int .i64 0, .int .i64 0, .int .i64 0, .int .i64 0] 327)).alloc (.cells #[.int .i64 id, .int .i64 xs.length, .int .i64 0, .int .i64 0, .int .i64 0] 327)).heap.size = w.heap.size + 3 := by simp [World.size_alloc]
 generalize (((w.alloc (.cells #[.int .i64 id, .slice va xs.length vcap] 75)).alloc (.cells #[.int .i64 0, .int .i64 0, .int .i64 0, .int .i64 0, .int .i64 0] 327)).alloc (.cells #[.int .i64 id, .int .i64 xs.length, .int .i64 0, .int .i64 0, .int .i64 0] 327)) = W at *
 have b0 := cell_of_row W _ 1 _ _ _ g0
 simp at b0
 have I2 := ints_below H.out hh
 refine wp_region_held_drew (S := fun w' => w'.cell? ⟨w.heap.size, 1, none⟩ = some (.slice va xs.length vcap)) (by kernel_rfl) b0 (fun hHeld => ?_)
 refine tQ (i := 0) ?_
 try simp only [Act.put, lA, lB, lC]
 refine tQ (i := 1) ?_
 try simp only [Act.put, lA, lB, lC]
 refine tQ (i := 2) ?_
 try simp only [Act.put, lA, lB, lC]
 refine tQ (i := 3) ?_
 try simp only [Act.put, lA, lB, lC]
 refine rA 4 (fun K hK => ?_)
 refine step_copy_splice rfl (.tmp 11) (.tmp 13) 25 25 rfl 3 Tryz.underlying25 (info_size Tryz.infoI64) _ _ _ _ _ _ rfl rfl (w.heap.size + 2) 2 [.int .i64 id, .int .i64 xs.length, .int .i64 0, .int .i64 0, .int .i64 0] _ g2 ((xs.take 3).map (Value.int .i64)) (by simp [Nat.min_comm]) (copy_src I2) (by simp; omega) (fun u hu => by obtain ⟨y, _, rfl⟩ := List.mem_map.1 hu; rfl) (w.heap.size + 2) W (below_drew (Below.refl _ W)) (Nat.le_refl _) ?_
 intro W2 G2 bA
 rw [splice_rec] at G2
 have k0 := (bA.block w.heap.size (by omega)).trans g0
 have b1 := cell_of_row W2 _ 1 _ _ _ k0
 simp at b1
 refine hK.out _ _ b1 (fun hHeld2 => ?_)
 clear hK K hHeld
 try simp only [Act.put, lA, lB, lC]
 refine wpAnyH_done (by kernel_rfl) ?_ _
 have k1 := (bA.block (w.heap.size + 1) (by omega)).trans g1
 have k2 := G2.out
 have hbb := hh.trans (bA.mono (by omega))
 clear G2 bA g0 g1 g2 I2 hHeld2 b0 b1 k0 hh hs
 obtain ⟨n, hn2⟩ : ∃ n : Nat, n = xs.length := ⟨_, rfl⟩
 have c0 := cell_of_row W2 _ 0 _ _ _ k2
 have d0 := cell_of_row W2 _ 0 _ _ _ k1
 have f0 := frozen_of_row W2 _ 0 _ _ k1
 have c1 := cell_of_row W2 _ 1 _ _ _ k2
 have d1 := cell_of_row W2 _ 1 _ _ _ k1
 have f1 := frozen_of_row W2 _ 1 _ _ k1
 have c2 := cell_of_row W2 _ 2 _ _ _ k2
 have d2 := cell_of_row W2 _ 2 _ _ _ k1
 have f2 := frozen_of_row W2 _ 2 _ _ k1
 have c3 := cell_of_row W2 _ 3 _ _ _ k2
 have d3 := cell_of_row W2 _ 3 _ _ _ k1
 have f3 := frozen_of_row W2 _ 3 _ _ k1
 have c4 := cell_of_row W2 _ 4 _ _ _ k2
 have d4 := cell_of_row W2 _ 4 _ _ _ k1
 have f4 := frozen_of_row W2 _ 4 _ _ k1
 simp at c0 c1 c2 c3 c4 d0 d1 d2 d3 d4
 clear k2 hn2
 generalize hx0 : xs[0]?.getD 0 = x0 at c2
 generalize hx1 : xs[1]?.getD 0 = x1 at c3
 generalize hx2 : xs[2]?.getD 0 = x2 at c4
 have HX := Lib.hid (And.intro hx0 (And.intro hx1 hx2))
 clear hx0 hx1 hx2
 go_wp2
 have r0 := heap_setCell_same W2 (w.heap.size + 1) 0 _ _ (.int .i64 id) k1
 have r1 := heap_setCell_same _ (w.heap.size + 1) 1 _ _ (.int .i64 xs.length) r0
 have r2 := heap_setCell_same _ (w.heap.size + 1) 2 _ _ (.int .i64 x0) r1
 have r3 := heap_setCell_same _ (w.heap.size + 1) 3 _ _ (.int .i64 x1) r2
 have r4 := heap_setCell_same _ (w.heap.size + 1) 4 _ _ (.int .i64 x2) r3
 have B4 := (((((hbb.setCell (p := ⟨w.heap.size + 1, 0, none⟩) (by simp) (.int .i64 id)).setCell (p := ⟨w.heap.size + 1, 1, none⟩) (by simp) (.int .i64 xs.length)).setCell (p := ⟨w.heap.size + 1, 2, none⟩) (by simp) (.int .i64 x0)).setCell (p := ⟨w.heap.size + 1, 3, none⟩) (by simp) (.int .i64 x1)).setCell (p := ⟨w.heap.size + 1, 4, none⟩) (by simp) (.int .i64 x2))
 clear r0 r1 r2 r3 k1
 have e0 := cell_of_row _ _ 0 _ _ _ r4
 have e1 := cell_of_row _ _ 1 _ _ _ r4
 have e2 := cell_of_row _ _ 2 _ _ _ r4
 have e3 := cell_of_row _ _ 3 _ _ _ r4
 have e4 := cell_of_row _ _ 4 _ _ _ r4
 simp at e0 e1 e2 e3 e4
 clear r4
 refine bodyPost_ret (v := .agg #[.int .i64 id, .int .i64 xs.length, .int .i64 x0, .int .i64 x1, .int .i64 x2]) ?_ rfl ?_
 ·
  simp [results, Tryz.f270, go_sem, e0, e1, e2, e3, e4]
 ·
  obtain ⟨rfl, rfl, rfl⟩ := HX.out
  exact ⟨by simp [recV], B4⟩
/-- A value moved into the range. -/
def limI (x : Int) : Int := min (max x 0) 99
theorem idx0 (a b c : Int) (w : World) : Sem.run Tryz.prog (Instr.index 325 (.agg #[.int .i64 a, .int .i64 b, .int .i64 c]) (.int .i64 0)) w = .ok (.int .i64 a) w := by
 have u := Tryz.underlying325
 have z := Tryz.sizeOf3
 have g := Tryz.isAgg3
 unfold Instr.index
 go_simp
theorem idx1 (a b c : Int) (w : World) : Sem.run Tryz.prog (Instr.index 325 (.agg #[.int .i64 a, .int .i64 b, .int .i64 c]) (.int .i64 1)) w = .ok (.int .i64 b) w := by
 have u := Tryz.underlying325
 have z := Tryz.sizeOf3
 have g := Tryz.isAgg3
 unfold Instr.index
 go_simp
theorem idx2 (a b c : Int) (w : World) : Sem.run Tryz.prog (Instr.index 325 (.agg #[.int .i64 a, .int .i64 b, .int .i64 c]) (.int .i64 2)) w = .ok (.int .i64 c) w := by
 have u := Tryz.underlying325
 have z := Tryz.sizeOf3
 have g := Tryz.isAgg3
 unfold Instr.index
 go_simp
set_option maxHeartbeats 4000000 in
theorem limited_any (a b c : Int) (w : World) :
  Calls Tryz.prog 284 #[.agg #[.int .i64 a, .int .i64 b, .int .i64 c]] w fun e w' => e = .returned (.agg #[.int .i64 (limI a), .int .i64 (limI b), .int .i64 (limI c)]) ∧ Below w.heap.size w w' := by
 have i0 := idx0 a b c
 have i1 := idx1 a b c
 have i2 := idx2 a b c
 go_enter Tryz.func284, Tryz.ntmps284
 go_wp2
 refine wp_loop_rounds 4 ?_
 rw [rounds_succ]
 go_wp2
 rw [rounds_succ]
 go_wp2
 rw [rounds_succ]
 go_wp2
 rw [rounds_succ]
 go_wp2
 refine bodyPost_ret (v := .agg #[.int .i64 (limI a), .int .i64 (limI b), .int .i64 (limI c)]) ?_ rfl ?_
 ·
  simp [results, Tryz.f284, go_sem, limI]
 refine ⟨rfl, ?_⟩
 exact ((Below.refl _ w).alloc (Nat.le_refl _) _).alloc (by simp) _
theorem eqIn_arr (d : Nat) (a b c x y z : Int) (w : World) : (Op.equalIn (d + 2) 325 (.agg #[.int .i64 a, .int .i64 b, .int .i64 c]) (.agg #[.int .i64 x, .int .i64 y, .int .i64 z])).run Tryz.prog w = .ok (a == x && b == y && c == z) w := by
 have u := Tryz.underlying325
 have u3 := Tryz.underlying3
 have z3 := Tryz.sizeOf3
 have g := Tryz.isAgg3
 rw [Op.equalIn]
 simp only [Sem.run_bind, run_underlying u, Result.andThen_ok, z3]
 simp only [Std.Legacy.Range.forIn_eq_forIn_range', Std.Legacy.Range.size]
 simp [List.range', g, z3, go_sem, run_equalIn_int (P := Tryz.prog) _ d _ _ _ _ _ u3]
 by_cases h1 : a = x <;> by_cases h2 : b = y <;> by_cases h3 : c = z <;> simp [h1, h2, h3]
theorem eql_arr (a b c x y z : Int) (w : World) : Sem.run Tryz.prog (binOp .eql 325 (.agg #[.int .i64 a, .int .i64 b, .int .i64 c]) (.agg #[.int .i64 x, .int .i64 y, .int .i64 z])) w = .ok (.bool (a == x && b == y && c == z)) w := by
 rw [run_eql_struct, show (10000 : Nat) = 9998 + 2 from rfl, eqIn_arr]
 rfl
theorem guard_arr (o1 o2 : Operand) (xs ys : Array Value) (w : World) : Sem.run Tryz.prog (eqGuard .eql 325 o1 o2 (.agg xs) (.agg ys)) w = .ok () w := run_eqGuard_agg w _ _ _ _ _ _ (by kernel_rfl)
theorem isRowId_yes (id : Int) (w : World) (h1 : 0 ≤ id) (h2 : id ≤ 999) : Calls Tryz.prog 283 #[.int .i64 id] w fun e w' => e = .returned (.bool true) ∧ w' = w := by
 go_enter Tryz.func283, Tryz.ntmps283
 go_wp2
 go_ret
 exact ⟨rfl, rfl⟩
theorem isRowId_no (id : Int) (w : World) (h : ¬ (0 ≤ id ∧ id ≤ 999)) : Calls Tryz.prog 283 #[.int .i64 id] w fun e w' => e = .returned (.bool false) ∧ w' = w := by
 by_cases h1 : 0 ≤ id
 ·
  have h2 : ¬ id ≤ 999 := fun g => h ⟨h1, g⟩
  clear h
  go_enter Tryz.func283, Tryz.ntmps283
  go_wp2
  go_ret
  exact ⟨rfl, rfl⟩
 ·
  clear h
  go_enter Tryz.func283, Tryz.ntmps283
  go_wp2
  go_ret
  exact ⟨rfl, rfl⟩
/-- Is a record valid? -/
def recB (id n a b c : Int) : Bool := decide (0 ≤ id ∧ id ≤ 999) && (decide (n = 3) && (a == limI a && b == limI b && c == limI c))
theorem lim_in (x : Int) : (x == limI x) = decide (0 ≤ x ∧ x ≤ 99) := by
 unfold limI
 by_cases h : 0 ≤ x ∧ x ≤ 99
 ·
  rw [decide_eq_true h, beq_iff_eq]; omega
 ·
  rw [decide_eq_false h, beq_eq_false_iff_ne]; omega
theorem recB_row (id : Int) (xs : List Int) : recB id xs.length (xs.getD 0 0) (xs.getD 1 0) (xs.getD 2 0) = rowB (id, xs) := by
 unfold recB rowB
 simp only [lim_in]
 match xs with
 | [] => simp
 | [x] => simp
 | [x, y] => simp
 | [x, y, z] => simp [List.all, Bool.and_assoc]
 | x :: y :: z :: u :: r =>
  have : ¬ ((r.length : Int) + 1 + 1 + 1 + 1 = 3) := by omega
  simp [this]
theorem below_from {W w8 w9 : World} (h : w8 = W.drew) (b : Below w8.heap.size w8 w9) : Below W.heap.size W w9 := by subst h; exact ⟨b.os, b.tape, b.output, b.size, b.block⟩
set_option maxHeartbeats 8000000 in
theorem isValid_id (id n a b c : Int) (w : World) (h : ¬ (0 ≤ id ∧ id ≤ 999)) :
  Calls Tryz.prog 271 #[.agg #[.int .i64 id, .int .i64 n, .int .i64 a, .int .i64 b, .int .i64 c]] w fun e w' => e = .returned (.bool (false)) ∧ Below w.heap.size w w' := by
 have HI := Lib.hid (fun w => isRowId_no id w h)
 clear h
 go_enter Tryz.func271, Tryz.ntmps271
 go_wp2
 have hh : Below w.heap.size w (w.alloc (.cells #[.int .i64 id, .int .i64 n, .int .i64 a, .int .i64 b, .int .i64 c] 327)) := (Below.refl _ w).alloc (Nat.le_refl _) _
 have g0 := heap_alloc_new w (.cells #[.int .i64 id, .int .i64 n, .int .i64 a, .int .i64 b, .int .i64 c] 327)
 have hlt : w.heap.size < (w.alloc (.cells #[.int .i64 id, .int .i64 n, .int .i64 a, .int .i64 b, .int .i64 c] 327)).heap.size := by simp
 generalize w.alloc (.cells #[.int .i64 id, .int .i64 n, .int .i64 a, .int .i64 b, .int .i64 c] 327) = W at *
 have q0 := cell_of_row W _ 0 _ _ _ g0
 have q1 := cell_of_row W _ 1 _ _ _ g0
 have q2 := cell_of_row W _ 2 _ _ _ g0
 have q3 := cell_of_row W _ 3 _ _ _ g0
 have q4 := cell_of_row W _ 4 _ _ _ g0
 simp at q0 q1 q2 q3 q4
 refine wp_region_held_drew (S := fun w' => w'.cell? ⟨w.heap.size, 0, none⟩ = some (.int .i64 id) ∧ w'.cell? ⟨w.heap.size, 1, none⟩ = some (.int .i64 n) ∧ w'.cell? ⟨w.heap.size, 2, none⟩ = some (.int .i64 a) ∧ w'.cell? ⟨w.heap.size, 3, none⟩ = some (.int .i64 b) ∧ w'.cell? ⟨w.heap.size, 4, none⟩ = some (.int .i64 c)) (by kernel_rfl) ⟨q0, q1, q2, q3, q4⟩ (fun hHeld => ?_)
 refine tQ (i := 0) ?_
 try simp only [Act.put, lA, lB, lC]
 refine tQ (i := 1) ?_
 try simp only [Act.put, lA, lB, lC]
 refine rA 2 (fun K hK => ?_)
 go_simp
 refine (HI.out _).mono ?_
 rintro e w8 ⟨rfl, rfl⟩
 refine hK.out _ _ ⟨q0, q1, q2, q3, q4⟩ (fun hHeld => ?_)
 clear hK K
 try simp only [Act.put, lA, lB, lC]
 refine tQ (i := 3) ?_
 try simp only [Act.put, lA, lB, lC]
 refine tO (i := 4) ?_
 try simp only [Act.put, lA, lB, lC]
 refine tO (i := 5) ?_
 try simp only [Act.put, lA, lB, lC]
 refine tO (i := 6) ?_
 try simp only [Act.put, lA, lB, lC]
 refine tQ (i := 7) ?_
 try simp only [Act.put, lA, lB, lC]
 refine tQ (i := 8) ?_
 try simp only [Act.put, lA, lB, lC]
 refine tO (i := 9) ?_
 try simp only [Act.put, lA, lB, lC]
 refine tO (i := 10) ?_
 try simp only [Act.put, lA, lB, lC]
 refine tO (i := 11) ?_
 try simp only [Act.put, lA, lB, lC]
 refine tO (i := 12) ?_
 try simp only [Act.put, lA, lB, lC]
 refine tO (i := 13) ?_
 try simp only [Act.put, lA, lB, lC]
 refine tO (i := 14) ?_
 try simp only [Act.put, lA, lB, lC]
 refine tQ (i := 15) ?_
 try simp only [Act.put, lA, lB, lC]
 refine tQ (i := 16) ?_
 try simp only [Act.put, lA, lB, lC]
 refine wpAnyH_done (by kernel_rfl) ?_ _
 have b11 : Below w.heap.size w W.drew := below_drew hh
 clear hHeld
 go_wp2
 go_ret
 exact ⟨rfl, b11⟩
set_option maxHeartbeats 8000000 in
theorem isValid_count (id n a b c : Int) (w : World) (h1 : 0 ≤ id) (h2 : id ≤ 999) (h3 : ¬ n = 3) :
  Calls Tryz.prog 271 #[.agg #[.int .i64 id, .int .i64 n, .int .i64 a, .int .i64 b, .int .i64 c]] w fun e w' => e = .returned (.bool (false)) ∧ Below w.heap.size w w' := by
 have HI := Lib.hid (fun w => isRowId_yes id w h1 h2)
 clear h1 h2
 have hd : (n == 3) = false := by simpa using h3
 clear h3
 go_enter Tryz.func271, Tryz.ntmps271
 go_wp2
 have hh : Below w.heap.size w (w.alloc (.cells #[.int .i64 id, .int .i64 n, .int .i64 a, .int .i64 b, .int .i64 c] 327)) := (Below.refl _ w).alloc (Nat.le_refl _) _
 have g0 := heap_alloc_new w (.cells #[.int .i64 id, .int .i64 n, .int .i64 a, .int .i64 b, .int .i64 c] 327)
 have hlt : w.heap.size < (w.alloc (.cells #[.int .i64 id, .int .i64 n, .int .i64 a, .int .i64 b, .int .i64 c] 327)).heap.size := by simp
 generalize w.alloc (.cells #[.int .i64 id, .int .i64 n, .int .i64 a, .int .i64 b, .int .i64 c] 327) = W at *
 have q0 := cell_of_row W _ 0 _ _ _ g0
 have q1 := cell_of_row W _ 1 _ _ _ g0
 have q2 := cell_of_row W _ 2 _ _ _ g0
 have q3 := cell_of_row W _ 3 _ _ _ g0
 have q4 := cell_of_row W _ 4 _ _ _ g0
 simp at q0 q1 q2 q3 q4
 refine wp_region_held_drew (S := fun w' => w'.cell? ⟨w.heap.size, 0, none⟩ = some (.int .i64 id) ∧ w'.cell? ⟨w.heap.size, 1, none⟩ = some (.int .i64 n) ∧ w'.cell? ⟨w.heap.size, 2, none⟩ = some (.int .i64 a) ∧ w'.cell? ⟨w.heap.size, 3, none⟩ = some (.int .i64 b) ∧ w'.cell? ⟨w.heap.size, 4, none⟩ = some (.int .i64 c)) (by kernel_rfl) ⟨q0, q1, q2, q3, q4⟩ (fun hHeld => ?_)
 refine tQ (i := 0) ?_
 try simp only [Act.put, lA, lB, lC]
 refine tQ (i := 1) ?_
 try simp only [Act.put, lA, lB, lC]
 refine rA 2 (fun K hK => ?_)
 go_simp
 refine (HI.out _).mono ?_
 rintro e w8 ⟨rfl, rfl⟩
 refine hK.out _ _ ⟨q0, q1, q2, q3, q4⟩ (fun hHeld => ?_)
 clear hK K
 try simp only [Act.put, lA, lB, lC]
 refine tQ (i := 3) ?_
 try simp only [Act.put, lA, lB, lC]
 refine tQ (i := 4) ?_
 try simp only [Act.put, lA, lB, lC]
 refine tQ (i := 5) ?_
 try simp only [Act.put, lA, lB, lC]
 refine tQ (i := 6) ?_
 try simp only [Act.put, lA, lB, lC]
 refine tQ (i := 7) ?_
 try simp only [Act.put, lA, lB, lC]
 refine tQ (i := 8) ?_
 try simp only [Act.put, lA, lB, lC]
 refine tO (i := 9) ?_
 try simp only [Act.put, lA, lB, lC]
 refine tO (i := 10) ?_
 try simp only [Act.put, lA, lB, lC]
 refine tO (i := 11) ?_
 try simp only [Act.put, lA, lB, lC]
 refine tO (i := 12) ?_
 try simp only [Act.put, lA, lB, lC]
 refine tO (i := 13) ?_
 try simp only [Act.put, lA, lB, lC]
 refine tO (i := 14) ?_
 try simp only [Act.put, lA, lB, lC]
 refine tQ (i := 15) ?_
 try simp only [Act.put, lA, lB, lC]
 refine tQ (i := 16) ?_
 try simp only [Act.put, lA, lB, lC]
 refine wpAnyH_done (by kernel_rfl) ?_ _
 have b11 : Below w.heap.size w W.drew := below_drew hh
 clear hHeld
 go_wp2
 go_ret
 exact ⟨rfl, b11⟩
set_option maxHeartbeats 8000000 in
theorem isValid_all (id n a b c : Int) (w : World) (h1 : 0 ≤ id) (h2 : id ≤ 999) (h3 : n = 3) :
  Calls Tryz.prog 271 #[.agg #[.int .i64 id, .int .i64 n, .int .i64 a, .int .i64 b, .int .i64 c]] w fun e w' => e = .returned (.bool (a == limI a && b == limI b && c == limI c)) ∧ Below w.heap.size w w' := by
 have HI := Lib.hid (fun w => isRowId_yes id w h1 h2)
 clear h1 h2
 have hd : (n == 3) = true := by simpa using h3
 clear h3
 have HL := Lib.hid (fun w => limited_any a b c w)
 have he := fun w => eql_arr a b c (limI a) (limI b) (limI c) w
 have hgd := fun (o1 o2 : Operand) (xs ys : Array Value) (w : World) => guard_arr o1 o2 xs ys w
 generalize hr : (a == limI a && b == limI b && c == limI c) = r at he ⊢
 clear hr
 go_enter Tryz.func271, Tryz.ntmps271
 go_wp2
 have hh : Below w.heap.size w (w.alloc (.cells #[.int .i64 id, .int .i64 n, .int .i64 a, .int .i64 b, .int .i64 c] 327)) := (Below.refl _ w).alloc (Nat.le_refl _) _
 have g0 := heap_alloc_new w (.cells #[.int .i64 id, .int .i64 n, .int .i64 a, .int .i64 b, .int .i64 c] 327)
 have hlt : w.heap.size < (w.alloc (.cells #[.int .i64 id, .int .i64 n, .int .i64 a, .int .i64 b, .int .i64 c] 327)).heap.size := by simp
 generalize w.alloc (.cells #[.int .i64 id, .int .i64 n, .int .i64 a, .int .i64 b, .int .i64 c] 327) = W at *
 have q0 := cell_of_row W _ 0 _ _ _ g0
 have q1 := cell_of_row W _ 1 _ _ _ g0
 have q2 := cell_of_row W _ 2 _ _ _ g0
 have q3 := cell_of_row W _ 3 _ _ _ g0
 have q4 := cell_of_row W _ 4 _ _ _ g0
 simp at q0 q1 q2 q3 q4
 refine wp_region_held_drew (S := fun w' => w'.cell? ⟨w.heap.size, 0, none⟩ = some (.int .i64 id) ∧ w'.cell? ⟨w.heap.size, 1, none⟩ = some (.int .i64 n) ∧ w'.cell? ⟨w.heap.size, 2, none⟩ = some (.int .i64 a) ∧ w'.cell? ⟨w.heap.size, 3, none⟩ = some (.int .i64 b) ∧ w'.cell? ⟨w.heap.size, 4, none⟩ = some (.int .i64 c)) (by kernel_rfl) ⟨q0, q1, q2, q3, q4⟩ (fun hHeld => ?_)
 refine tQ (i := 0) ?_
 try simp only [Act.put, lA, lB, lC]
 refine tQ (i := 1) ?_
 try simp only [Act.put, lA, lB, lC]
 refine rA 2 (fun K hK => ?_)
 go_simp
 refine (HI.out _).mono ?_
 rintro e w8 ⟨rfl, rfl⟩
 refine hK.out _ _ ⟨q0, q1, q2, q3, q4⟩ (fun hHeld => ?_)
 clear hK K
 try simp only [Act.put, lA, lB, lC]
 refine tQ (i := 3) ?_
 try simp only [Act.put, lA, lB, lC]
 refine tQ (i := 4) ?_
 try simp only [Act.put, lA, lB, lC]
 refine tQ (i := 5) ?_
 try simp only [Act.put, lA, lB, lC]
 refine tQ (i := 6) ?_
 try simp only [Act.put, lA, lB, lC]
 refine tQ (i := 7) ?_
 try simp only [Act.put, lA, lB, lC]
 refine tQ (i := 8) ?_
 try simp only [Act.put, lA, lB, lC]
 refine tQ (i := 9) ?_
 try simp only [Act.put, lA, lB, lC]
 refine tQ (i := 10) ?_
 try simp only [Act.put, lA, lB, lC]
 refine tQ (i := 11) ?_
 try simp only [Act.put, lA, lB, lC]
 refine tQ (i := 12) ?_
 try simp only [Act.put, lA, lB, lC]
 refine rA 13 (fun K hK => ?_)
 go_simp
 refine (HL.out _).mono ?_
 rintro e w9 ⟨rfl, b9⟩
 have b10 : Below W.heap.size W w9 := below_from rfl b9
 have g2 := (b10.block w.heap.size hlt).trans g0
 have r0 := cell_of_row w9 _ 0 _ _ _ g2
 have r1 := cell_of_row w9 _ 1 _ _ _ g2
 have r2 := cell_of_row w9 _ 2 _ _ _ g2
 have r3 := cell_of_row w9 _ 3 _ _ _ g2
 have r4 := cell_of_row w9 _ 4 _ _ _ g2
 simp at r0 r1 r2 r3 r4
 refine hK.out _ _ ⟨r0, r1, r2, r3, r4⟩ (fun hHeld => ?_)
 clear hK K
 try simp only [Act.put, lA, lB, lC]
 refine tQ (i := 14) ?_
 try simp only [Act.put, lA, lB, lC]
 refine tQ (i := 15) ?_
 try simp only [Act.put, lA, lB, lC]
 refine tQ (i := 16) ?_
 try simp only [Act.put, lA, lB, lC]
 refine wpAnyH_done (by kernel_rfl) ?_ _
 have b11 := hh.trans (b10.mono hh.size)
 clear hHeld b9 b10
 go_wp2
 go_ret
 exact ⟨rfl, b11⟩
theorem isValid_any (id n a b c : Int) (w : World) :
  Calls Tryz.prog 271 #[.agg #[.int .i64 id, .int .i64 n, .int .i64 a, .int .i64 b, .int .i64 c]] w fun e w' => e = .returned (.bool (recB id n a b c)) ∧ Below w.heap.size w w' := by
 by_cases h : 0 ≤ id ∧ id ≤ 999
 ·
  by_cases h3 : n = 3
  ·
   have e : recB id n a b c = (a == limI a && b == limI b && c == limI c) := by unfold recB; rw [decide_eq_true h, decide_eq_true h3]; simp
   rw [e]
   exact isValid_all id n a b c w h.1 h.2 h3
  ·
   have e : recB id n a b c = false := by unfold recB; rw [decide_eq_false h3]; simp
   rw [e]
   exact isValid_count id n a b c w h.1 h.2 h3
 ·
  have e : recB id n a b c = false := by unfold recB; rw [decide_eq_false h]; simp
  rw [e]
  exact isValid_id id n a b c w h
set_option maxHeartbeats 4000000 in
theorem implIsRow (id : Int) (vv : Value) (xs : List Int) (w : World) (h : Ints w vv xs) (hn : xs.length ≤ 1048576) :
  Calls Tryz.prog 242 #[.agg #[.int .i64 id, vv]] w fun e w' => e = .returned (.bool (rowB (id, xs))) ∧ Below w.heap.size w w' := by
 have HR := Lib.hid (fun w h => recordOf_any id vv xs w h hn)
 have HV := Lib.hid (fun w => isValid_any id xs.length (xs.getD 0 0) (xs.getD 1 0) (xs.getD 2 0) w)
 rw [recB_row] at HV
 have H := Lib.hid h
 unfold recV at HR
 clear h hn
 generalize xs.getD 0 0 = x0 at *
 generalize xs.getD 1 0 = x1 at *
 generalize xs.getD 2 0 = x2 at *
 generalize rowB (id, xs) = r at *
 go_enter Tryz.func242, Tryz.ntmps242
 go_wp2_with fail
 have hb : Below w.heap.size w (w.alloc (.cells #[.int .i64 id, vv] 75)) := (Below.refl _ w).alloc (Nat.le_refl _) _
 refine (HR.out _ (ints_below H.out hb)).mono ?_
 rintro e w1 ⟨rfl, b1⟩
 have b2 := hb.trans (b1.mono hb.size)
 clear hb b1
 go_wp2_with fail
 refine (HV.out _).mono ?_
 rintro e w2 ⟨rfl, b3⟩
 have b4 := b2.trans (b3.mono b2.size)
 clear b2 b3
 go_wp2
 go_ret
 exact ⟨rfl, b4⟩
set_option maxHeartbeats 4000000 in
theorem implVisible (id born died t : Int) (vv : Value) (w : World) :
  Calls Tryz.prog 269 #[.agg #[.int .i64 id, vv, .int .i64 born, .int .i64 died], .int .i64 t] w fun e w' => e = .returned (.bool (decide (visP born died t))) ∧ Below w.heap.size w w' := by
 have hb : Below w.heap.size w (w.alloc (.cells #[.int .i64 id, vv, .int .i64 born, .int .i64 died] 212)) := (Below.refl _ w).alloc (Nat.le_refl _) _
 by_cases h1 : born ≤ t
 ·
  by_cases h2 : died = -1
  ·
   have HD : Hid (decide (visP born died t) = true) := zh (decide_eq_true ⟨h1, Or.inl h2⟩)
   have e2 : (died == -1) = true := by simp [h2]
   clear h2
   rw [HD.out]
   go_enter Tryz.func269, Tryz.ntmps269
   go_wp2
   go_ret
   exact ⟨rfl, hb⟩
  ·
   have e2 : (died == -1) = false := by simp [h2]
   by_cases h3 : t < died
   ·
    have HD : Hid (decide (visP born died t) = true) := zh (decide_eq_true ⟨h1, Or.inr h3⟩)
    clear h2
    rw [HD.out]
    go_enter Tryz.func269, Tryz.ntmps269
    go_wp2
    go_ret
    exact ⟨ret_b (by simp [h3]), hb⟩
   ·
    have HD : Hid (decide (visP born died t) = false) := zh (decide_eq_false (fun g => by unfold visP at g; omega))
    have e3 : decide (t < died) = false := decide_eq_false h3
    clear h2
    rw [HD.out]
    go_enter Tryz.func269, Tryz.ntmps269
    go_wp2
    go_ret
    exact ⟨ret_b (by first | rfl | simp [h3]), hb⟩
 ·
  have HD : Hid (decide (visP born died t) = false) := zh (decide_eq_false (fun g => h1 g.1))
  rw [HD.out]
  go_enter Tryz.func269, Tryz.ntmps269
  go_wp2
  go_ret
  exact ⟨rfl, hb⟩
set_option maxHeartbeats 4000000 in
theorem verRow_any (id born died : Int) (va : Option Addr) (n vc : Nat) (w : World) :
  Calls Tryz.prog 265 #[.agg #[.int .i64 id, .slice va n vc, .int .i64 born, .int .i64 died]] w fun e w' => e = .returned (.agg #[.int .i64 id, .slice va n vc]) ∧ Below w.heap.size w w' := by
 have d0 := zh (show Below w.heap.size w ((w.alloc (.cells #[.int .i64 id, .slice va n vc, .int .i64 born, .int .i64 died] 212)).alloc (.cells #[.int .i64 id, .slice va n vc] 75)) from ((Below.refl _ w).alloc (Nat.le_refl _) _).alloc (by simp) _)
 have k1 : ((w.alloc (.cells #[.int .i64 id, .slice va n vc, .int .i64 born, .int .i64 died] 212)).alloc (.cells #[.int .i64 id, .slice va n vc] 75)).heap[w.heap.size + 1]? = some (.cells #[.int .i64 id, .slice va n vc] 75 (0, 0)) := by
  have := heap_alloc_new (w.alloc (.cells #[.int .i64 id, .slice va n vc, .int .i64 born, .int .i64 died] 212)) (.cells #[.int .i64 id, .slice va n vc] 75)
  simpa only [World.size_alloc] using this
 have e0 := cell_of_row _ _ 0 _ _ _ k1
 have e1 := cell_of_row _ _ 1 _ _ _ k1
 simp at e0 e1
 have E0 := zh e0
 have E1 := zh e1
 clear k1 e0 e1
 go_enter Tryz.func265, Tryz.ntmps265
 go_wp2
 refine bodyPost_ret (v := .agg #[.int .i64 id, .slice va n vc]) ?_ rfl ?_
 ·
  have e0 := E0.out
  have e1 := E1.out
  simp [results, Tryz.f265, go_sem, e0, e1]
 ·
  exact ⟨rfl, d0.out⟩
set_option maxHeartbeats 8000000 in
theorem isVersion_any (id born died now : Int) (vv : Value) (xs : List Int) (w : World) (h : Ints w vv xs) (hn : xs.length ≤ 1048576) :
  Calls Tryz.prog 237 #[.agg #[.int .i64 id, vv, .int .i64 born, .int .i64 died], .int .i64 now] w fun e w' => e = .returned (.bool (verB (id, xs, born, died) now)) ∧ Below w.heap.size w w' := by
 obtain ⟨va, vc, rfl⟩ := ints_len h
 have HR := zh (fun W g => implIsRow id (.slice va xs.length vc) xs W g hn)
 have H := zh h
 have d0 := zh (show Below w.heap.size w (w.alloc (.cells #[.int .i64 id, .slice va xs.length vc, .int .i64 born, .int .i64 died] 212)) from (Below.refl _ _).alloc (Nat.le_refl _) _)
 have B0 : Hid ((w.alloc (.cells #[.int .i64 id, .slice va xs.length vc, .int .i64 born, .int .i64 died] 212)).heap[w.heap.size]? = some (.cells #[.int .i64 id, .slice va xs.length vc, .int .i64 born, .int .i64 died] 212 (0, 0))) := zh (heap_alloc_new w _)
 have Y0 : Hid (w.heap.size < (w.alloc (.cells #[.int .i64 id, .slice va xs.length vc, .int .i64 born, .int .i64 died] 212)).heap.size) := zh (by simp [World.size_alloc])
 have HV : Hid (∀ r l, rowB (id, xs) = r → decide (lifeP born died now) = l → verB (id, xs, born, died) now = (r && l)) := zh (fun r l h1 h2 => by unfold verB; rw [h1]; show (r && decide (lifeP born died now)) = _; rw [h2])
 clear h hn
 cases hr : rowB (id, xs) with
 | false =>
  rw [hr] at HR
  rw [HV.out _ _ hr rfl, Bool.false_and]
  clear hr HV
  go_enter Tryz.func237, Tryz.ntmps237
  go_wp2_with fail
  generalize w.alloc (.cells #[.int .i64 id, .slice va xs.length vc, .int .i64 born, .int .i64 died] 212) = W at *
  refine (verRow_any id born died va xs.length vc W).mono ?_
  rintro e w0 ⟨rfl, b0⟩
  have D0 := zh (d0.out.trans (b0.mono d0.out.size))
  have K0 := zh ((b0.block w.heap.size Y0.out).trans B0.out)
  have YY := zh (Nat.lt_of_lt_of_le Y0.out b0.size)
  clear b0
  go_wp2_with fail
  refine (HR.out w0 (ints_below H.out D0.out)).mono ?_
  rintro e w1 ⟨rfl, b1⟩
  have k0 := (b1.block w.heap.size YY.out).trans K0.out
  have b2 := D0.out.trans (b1.mono D0.out.size)
  go_wp2
  go_ret
  exact ⟨rfl, b2⟩
 | true =>
  rw [hr] at HR
  have HV2 := zh (fun l => HV.out _ l hr)
  clear hr HV
  by_cases h1 : 0 ≤ born
  rotate_left
  ·
   have e1 : decide (0 ≤ born) = false := decide_eq_false h1
   have hl : decide (lifeP born died now) = false := decide_eq_false (fun g => by unfold lifeP at g; omega)
   rw [HV2.out _ hl]
   clear hl
   go_enter Tryz.func237, Tryz.ntmps237
   go_wp2_with fail
   generalize w.alloc (.cells #[.int .i64 id, .slice va xs.length vc, .int .i64 born, .int .i64 died] 212) = W at *
   refine (verRow_any id born died va xs.length vc W).mono ?_
   rintro e w0 ⟨rfl, b0⟩
   have D0 := zh (d0.out.trans (b0.mono d0.out.size))
   have K0 := zh ((b0.block w.heap.size Y0.out).trans B0.out)
   have YY := zh (Nat.lt_of_lt_of_le Y0.out b0.size)
   clear b0
   go_wp2_with fail
   refine (HR.out w0 (ints_below H.out D0.out)).mono ?_
   rintro e w1 ⟨rfl, b1⟩
   have k0 := (b1.block w.heap.size YY.out).trans K0.out
   have b2 := D0.out.trans (b1.mono D0.out.size)
   have p0 := cr 0 (Value.int .i64 id) k0
   have p1 := cr 1 (Value.slice va xs.length vc) k0
   have p2 := cr 2 (Value.int .i64 born) k0
   have p3 := cr 3 (Value.int .i64 died) k0
   clear k0
   go_wp2
   go_ret
   exact ⟨ret_b (by first | rfl | simp [*]), b2⟩
  by_cases h2 : born ≤ now
  rotate_left
  ·
   have e2 : decide (born ≤ now) = false := decide_eq_false h2
   have hl : decide (lifeP born died now) = false := decide_eq_false (fun g => by unfold lifeP at g; omega)
   rw [HV2.out _ hl]
   clear hl
   go_enter Tryz.func237, Tryz.ntmps237
   go_wp2_with fail
   generalize w.alloc (.cells #[.int .i64 id, .slice va xs.length vc, .int .i64 born, .int .i64 died] 212) = W at *
   refine (verRow_any id born died va xs.length vc W).mono ?_
   rintro e w0 ⟨rfl, b0⟩
   have D0 := zh (d0.out.trans (b0.mono d0.out.size))
   have K0 := zh ((b0.block w.heap.size Y0.out).trans B0.out)
   have YY := zh (Nat.lt_of_lt_of_le Y0.out b0.size)
   clear b0
   go_wp2_with fail
   refine (HR.out w0 (ints_below H.out D0.out)).mono ?_
   rintro e w1 ⟨rfl, b1⟩
   have k0 := (b1.block w.heap.size YY.out).trans K0.out
   have b2 := D0.out.trans (b1.mono D0.out.size)
   have p0 := cr 0 (Value.int .i64 id) k0
   have p1 := cr 1 (Value.slice va xs.length vc) k0
   have p2 := cr 2 (Value.int .i64 born) k0
   have p3 := cr 3 (Value.int .i64 died) k0
   clear k0
   go_wp2
   go_ret
   exact ⟨ret_b (by first | rfl | simp [*]), b2⟩
  by_cases h3 : died = -1
  ·
   have e3 : (died == -1) = true := by simp [h3]
   have hl : decide (lifeP born died now) = true := decide_eq_true ⟨h1, h2, Or.inl h3⟩
   rw [HV2.out _ hl]
   clear hl h3
   go_enter Tryz.func237, Tryz.ntmps237
   go_wp2_with fail
   generalize w.alloc (.cells #[.int .i64 id, .slice va xs.length vc, .int .i64 born, .int .i64 died] 212) = W at *
   refine (verRow_any id born died va xs.length vc W).mono ?_
   rintro e w0 ⟨rfl, b0⟩
   have D0 := zh (d0.out.trans (b0.mono d0.out.size))
   have K0 := zh ((b0.block w.heap.size Y0.out).trans B0.out)
   have YY := zh (Nat.lt_of_lt_of_le Y0.out b0.size)
   clear b0
   go_wp2_with fail
   refine (HR.out w0 (ints_below H.out D0.out)).mono ?_
   rintro e w1 ⟨rfl, b1⟩
   have k0 := (b1.block w.heap.size YY.out).trans K0.out
   have b2 := D0.out.trans (b1.mono D0.out.size)
   have p0 := cr 0 (Value.int .i64 id) k0
   have p1 := cr 1 (Value.slice va xs.length vc) k0
   have p2 := cr 2 (Value.int .i64 born) k0
   have p3 := cr 3 (Value.int .i64 died) k0
   clear k0
   go_wp2
   go_ret
   exact ⟨ret_b (by first | rfl | simp [*]), b2⟩
  have e3 : (died == -1) = false := by simp [h3]
  by_cases h4 : born < died
  rotate_left
  ·
   have e4 : decide (born < died) = false := decide_eq_false h4
   have hl : decide (lifeP born died now) = false := decide_eq_false (fun g => by unfold lifeP at g; omega)
   rw [HV2.out _ hl]
   clear hl h3
   go_enter Tryz.func237, Tryz.ntmps237
   go_wp2_with fail
   generalize w.alloc (.cells #[.int .i64 id, .slice va xs.length vc, .int .i64 born, .int .i64 died] 212) = W at *
   refine (verRow_any id born died va xs.length vc W).mono ?_
   rintro e w0 ⟨rfl, b0⟩
   have D0 := zh (d0.out.trans (b0.mono d0.out.size))
   have K0 := zh ((b0.block w.heap.size Y0.out).trans B0.out)
   have YY := zh (Nat.lt_of_lt_of_le Y0.out b0.size)
   clear b0
   go_wp2_with fail
   refine (HR.out w0 (ints_below H.out D0.out)).mono ?_
   rintro e w1 ⟨rfl, b1⟩
   have k0 := (b1.block w.heap.size YY.out).trans K0.out
   have b2 := D0.out.trans (b1.mono D0.out.size)
   have p0 := cr 0 (Value.int .i64 id) k0
   have p1 := cr 1 (Value.slice va xs.length vc) k0
   have p2 := cr 2 (Value.int .i64 born) k0
   have p3 := cr 3 (Value.int .i64 died) k0
   clear k0
   go_wp2
   go_ret
   exact ⟨ret_b (by first | rfl | simp [*]), b2⟩
  by_cases h5 : died ≤ now
  ·
   have hl : decide (lifeP born died now) = true := decide_eq_true ⟨h1, h2, Or.inr ⟨h4, h5⟩⟩
   rw [HV2.out _ hl]
   clear hl h3
   go_enter Tryz.func237, Tryz.ntmps237
   go_wp2_with fail
   generalize w.alloc (.cells #[.int .i64 id, .slice va xs.length vc, .int .i64 born, .int .i64 died] 212) = W at *
   refine (verRow_any id born died va xs.length vc W).mono ?_
   rintro e w0 ⟨rfl, b0⟩
   have D0 := zh (d0.out.trans (b0.mono d0.out.size))
   have K0 := zh ((b0.block w.heap.size Y0.out).trans B0.out)
   have YY := zh (Nat.lt_of_lt_of_le Y0.out b0.size)
   clear b0
   go_wp2_with fail
   refine (HR.out w0 (ints_below H.out D0.out)).mono ?_
   rintro e w1 ⟨rfl, b1⟩
   have k0 := (b1.block w.heap.size YY.out).trans K0.out
   have b2 := D0.out.trans (b1.mono D0.out.size)
   have p0 := cr 0 (Value.int .i64 id) k0
   have p1 := cr 1 (Value.slice va xs.length vc) k0
   have p2 := cr 2 (Value.int .i64 born) k0
   have p3 := cr 3 (Value.int .i64 died) k0
   clear k0
   go_wp2
   go_ret
   exact ⟨ret_b (by first | rfl | simp [*]), b2⟩
  ·
   have e5 : decide (died ≤ now) = false := decide_eq_false h5
   have hl : decide (lifeP born died now) = false := decide_eq_false (fun g => by unfold lifeP at g; omega)
   rw [HV2.out _ hl]
   clear hl h3
   go_enter Tryz.func237, Tryz.ntmps237
   go_wp2_with fail
   generalize w.alloc (.cells #[.int .i64 id, .slice va xs.length vc, .int .i64 born, .int .i64 died] 212) = W at *
   refine (verRow_any id born died va xs.length vc W).mono ?_
   rintro e w0 ⟨rfl, b0⟩
   have D0 := zh (d0.out.trans (b0.mono d0.out.size))
   have K0 := zh ((b0.block w.heap.size Y0.out).trans B0.out)
   have YY := zh (Nat.lt_of_lt_of_le Y0.out b0.size)
   clear b0
   go_wp2_with fail
   refine (HR.out w0 (ints_below H.out D0.out)).mono ?_
   rintro e w1 ⟨rfl, b1⟩
   have k0 := (b1.block w.heap.size YY.out).trans K0.out
   have b2 := D0.out.trans (b1.mono D0.out.size)
   have p0 := cr 0 (Value.int .i64 id) k0
   have p1 := cr 1 (Value.slice va xs.length vc) k0
   have p2 := cr 2 (Value.int .i64 born) k0
   have p3 := cr 3 (Value.int .i64 died) k0
   clear k0
   go_wp2
   go_ret
   exact ⟨ret_b (by first | rfl | simp [*]), b2⟩
set_option maxHeartbeats 8000000 in
theorem seenWith_any (i1 b1 d1 i2 b2 d2 : Int) (a1 a2 : Option Addr) (n1 c1 n2 c2 : Nat) (w : World) :
  Calls Tryz.prog 239 #[.agg #[.int .i64 i1, .slice a1 n1 c1, .int .i64 b1, .int .i64 d1], .agg #[.int .i64 i2, .slice a2 n2 c2, .int .i64 b2, .int .i64 d2]] w fun e w' => e = .returned (.bool (decide (seenP i1 b1 d1 i2 b2 d2))) ∧ Below w.heap.size w w' := by
 have d0 := zh (show Below w.heap.size w ((w.alloc (.cells #[.int .i64 i1, .slice a1 n1 c1, .int .i64 b1, .int .i64 d1] 212)).alloc (.cells #[.int .i64 i2, .slice a2 n2 c2, .int .i64 b2, .int .i64 d2] 212)) from ((Below.refl _ _).alloc (Nat.le_refl _) _).alloc (by simp) _)
 have B1 : Hid (((w.alloc (.cells #[.int .i64 i1, .slice a1 n1 c1, .int .i64 b1, .int .i64 d1] 212)).alloc (.cells #[.int .i64 i2, .slice a2 n2 c2, .int .i64 b2, .int .i64 d2] 212)).heap[w.heap.size + 1]? = some (.cells #[.int .i64 i2, .slice a2 n2 c2, .int .i64 b2, .int .i64 d2] 212 (0, 0))) := zh (by
  have := heap_alloc_new (w.alloc (.cells #[.int .i64 i1, .slice a1 n1 c1, .int .i64 b1, .int .i64 d1] 212)) (.cells #[.int .i64 i2, .slice a2 n2 c2, .int .i64 b2, .int .i64 d2] 212)
  simpa only [World.size_alloc] using this)
 have B0 : Hid (((w.alloc (.cells #[.int .i64 i1, .slice a1 n1 c1, .int .i64 b1, .int .i64 d1] 212)).alloc (.cells #[.int .i64 i2, .slice a2 n2 c2, .int .i64 b2, .int .i64 d2] 212)).heap[w.heap.size]? = some (.cells #[.int .i64 i1, .slice a1 n1 c1, .int .i64 b1, .int .i64 d1] 212 (0, 0))) := zh (by
  rw [Below.heap_alloc _ _ _ (by simp)]
  exact heap_alloc_new w _)
 have Y1 : Hid (w.heap.size + 1 < ((w.alloc (.cells #[.int .i64 i1, .slice a1 n1 c1, .int .i64 b1, .int .i64 d1] 212)).alloc (.cells #[.int .i64 i2, .slice a2 n2 c2, .int .i64 b2, .int .i64 d2] 212)).heap.size) := zh (by simp [World.size_alloc])
 by_cases q1 : i1 = i2
 rotate_left
 ·
  have e1 : (i1 == i2) = false := by simp [q1]
  have HD : Hid (decide (seenP i1 b1 d1 i2 b2 d2) = false) := zh (decide_eq_false (fun g => q1 g.1))
  rw [HD.out]
  clear q1
  go_enter Tryz.func239, Tryz.ntmps239
  go_wp2
  go_ret
  exact ⟨rfl, d0.out⟩
 have e1 : (i1 == i2) = true := by simp [q1]
 have Q1 := zh q1
 clear q1
 have HV1 := zh (fun W => implVisible i1 b1 d1 (max b1 b2) (.slice a1 n1 c1) W)
 have HV2 := zh (fun W => implVisible i2 b2 d2 (max b1 b2) (.slice a2 n2 c2) W)
 have HM : Hid (∃ t, t = max b1 b2) := zh ⟨_, rfl⟩
 cases h1 : decide (visP b1 d1 (max b1 b2)) with
 | false =>
  have HD : Hid (decide (seenP i1 b1 d1 i2 b2 d2) = false) := zh (decide_eq_false (fun g => by have := decide_eq_true g.2.1; rw [h1] at this; cases this))
  rw [HD.out]
  rw [h1] at HV1
  clear h1
  go_enter Tryz.func239, Tryz.ntmps239
  go_wp2_with fail
  generalize ((w.alloc (.cells #[.int .i64 i1, .slice a1 n1 c1, .int .i64 b1, .int .i64 d1] 212)).alloc (.cells #[.int .i64 i2, .slice a2 n2 c2, .int .i64 b2, .int .i64 d2] 212)) = W at *
  refine (HV1.out W).mono ?_
  rintro e w1 ⟨rfl, c1⟩
  have D1 := d0.out.trans (c1.mono d0.out.size)
  go_wp2
  go_ret
  exact ⟨rfl, D1⟩
 | true =>
  rw [h1] at HV1
  have H1 := zh (of_decide_eq_true h1)
  clear h1
  obtain ⟨r, hr⟩ : ∃ r, r = decide (visP b2 d2 (max b1 b2)) := ⟨_, rfl⟩
  have HD : Hid (decide (seenP i1 b1 d1 i2 b2 d2) = r) := zh (by
   rw [hr]
   by_cases g : visP b2 d2 (max b1 b2)
   ·
    rw [decide_eq_true g, decide_eq_true ⟨Q1.out, H1.out, g⟩]
   ·
    rw [decide_eq_false g, decide_eq_false (fun q => g q.2.2)])
  rw [← hr] at HV2
  rw [HD.out]
  clear hr
  go_enter Tryz.func239, Tryz.ntmps239
  go_wp2_with fail
  generalize ((w.alloc (.cells #[.int .i64 i1, .slice a1 n1 c1, .int .i64 b1, .int .i64 d1] 212)).alloc (.cells #[.int .i64 i2, .slice a2 n2 c2, .int .i64 b2, .int .i64 d2] 212)) = W at *
  refine (HV1.out W).mono ?_
  rintro e w1 ⟨rfl, e9⟩
  have D1 := zh (d0.out.trans (e9.mono d0.out.size))
  have k1 := (e9.block (w.heap.size + 1) Y1.out).trans B1.out
  have p0 := cr 0 (Value.int .i64 i2) k1
  have p1 := cr 1 (Value.slice a2 n2 c2) k1
  have p2 := cr 2 (Value.int .i64 b2) k1
  have p3 := cr 3 (Value.int .i64 d2) k1
  clear k1 e9
  go_wp2_with fail
  refine (HV2.out w1).mono ?_
  rintro e w2 ⟨rfl, e8⟩
  have D2 := D1.out.trans (e8.mono D1.out.size)
  clear p0 p1 p2 p3
  go_wp2
  go_ret
  exact ⟨rfl, D2⟩
set_option maxHeartbeats 8000000 in
theorem isSegmentCount_any (n : Int) (w : World) : Calls Tryz.prog 194 #[.int .i64 n] w fun e w' => e = .returned (.bool (decide (1 ≤ n ∧ n ≤ 8))) ∧ w' = w := by
 by_cases h1 : 1 ≤ n
 ·
  by_cases h2 : n ≤ 8
  ·
   rw [decide_eq_true ⟨h1, h2⟩]
   go_enter Tryz.func194, Tryz.ntmps194
   go_wp2
   go_ret
   exact ⟨ret_b (by first | rfl | simp [h2]), rfl⟩
  ·
   rw [decide_eq_false (fun g => h2 g.2)]
   go_enter Tryz.func194, Tryz.ntmps194
   go_wp2
   go_ret
   exact ⟨ret_b (by first | rfl | simp [h2] | (simp; omega)), rfl⟩
 ·
  rw [decide_eq_false (fun g => h1 g.1)]
  go_enter Tryz.func194, Tryz.ntmps194
  go_wp2
  go_ret
  exact ⟨rfl, rfl⟩
set_option maxHeartbeats 8000000 in
theorem isTime_any (n : Int) (w : World) : Calls Tryz.prog 133 #[.int .i64 n] w fun e w' => e = .returned (.bool (decide (0 ≤ n ∧ n ≤ 100000))) ∧ w' = w := by
 by_cases h1 : 0 ≤ n
 ·
  by_cases h2 : n ≤ 100000
  ·
   rw [decide_eq_true ⟨h1, h2⟩]
   go_enter Tryz.func133, Tryz.ntmps133
   go_wp2
   go_ret
   exact ⟨ret_b (by first | rfl | simp [h2]), rfl⟩
  ·
   rw [decide_eq_false (fun g => h2 g.2)]
   go_enter Tryz.func133, Tryz.ntmps133
   go_wp2
   go_ret
   exact ⟨ret_b (by first | rfl | simp [h2] | (simp; omega)), rfl⟩
 ·
  rw [decide_eq_false (fun g => h1 g.1)]
  go_enter Tryz.func133, Tryz.ntmps133
  go_wp2
  go_ret
  exact ⟨rfl, rfl⟩
/-- Some version of the slice is seen with this one. -/
def anyB (x : VerD) (l : List VerD) : Bool := l.any (fun y => seenB x y)
theorem any_yes {x : VerD} {l : List VerD} {j : Nat} (hj : j < l.length) (h : seenB x (l.getD j v0D) = true) : anyB x l = true := by
 unfold anyB
 rw [List.any_eq_true]
 have e : l.getD j v0D = l[j] := by simp [List.getD, hj]
 exact ⟨l[j], List.getElem_mem _, by rw [← e]; exact h⟩
theorem any_no {x : VerD} {l : List VerD} (h : ∀ j, j < l.length → seenB x (l.getD j v0D) = false) : anyB x l = false := by
 unfold anyB
 rw [List.any_eq_false]
 intro y hy
 obtain ⟨j, hj, rfl⟩ := List.getElem_of_mem hy
 have := h j hj
 have e : l.getD j v0D = l[j] := by simp [List.getD, hj]
 rw [e] at this
 rw [this]; simp
set_option maxHeartbeats 8000000 in
theorem indexSeen (v : Value) (l : List VerD) (i1 b1 d1 : Int) (xs1 : List Int) (a1 : Option Addr) (n1 cc1 : Nat) (w : World) (h : SlR tVersion w v l) (hs : l.length ≤ 1048576) :
  Calls Tryz.prog 268 #[v, .func (.func 239) #[.agg #[.int .i64 i1, .slice a1 n1 cc1, .int .i64 b1, .int .i64 d1]] #[]] w fun e w' => (∃ r : Int, e = .returned (.int .i64 r) ∧ decide (0 ≤ r) = anyB (i1, xs1, b1, d1) l) ∧ Below w.heap.size w w' := by
 have H := zh h
 obtain ⟨a, cap, rfl⟩ := slR_len h
 clear h
 go_enter Tryz.func268, Tryz.ntmps268
 go_wp2
 go_loopw [8] (fun i wr => ∃ k : Nat, k ≤ l.length ∧ i = .int .i64 k ∧ Hid (∀ j, j < k → seenB (i1, xs1, b1, d1) (l.getD j v0D) = false) ∧ Below w.heap.size w wr) (fun i _ => l.length - (intOf i).toNat)
 case atStart => exact ⟨0, Nat.zero_le _, rfl, zh (fun j hj => by omega), Below.refl _ _⟩
 case round =>
  obtain ⟨k, hk, rfl, hall, hbel⟩ := hrel
  by_cases hlt : k < l.length
  ·
   have i1' : (0 : Int) ≤ (k : Int) := by omega
   have i2' : (k : Int) < (l.length : Int) := by omega
   obtain ⟨b, off, cap', xa, xc, hv, hbl, c0, c1, c2, c3, hx⟩ := verR_at (slR_below tVersion_law H.out hbel) hlt
   simp only [Value.slice.injEq] at hv
   obtain ⟨rfl, _, rfl⟩ := hv
   have HYS := zh (fun g => any_yes (x := (i1, xs1, b1, d1)) hlt g)
   have HNO : Hid (seenB (i1, xs1, b1, d1) (l.getD k v0D) = false → ∀ j, j < k + 1 → seenB (i1, xs1, b1, d1) (l.getD j v0D) = false) := zh (fun g j hj => by
    by_cases e : j = k
    ·
     rw [e]; exact g
    ·
     exact hall.out j (by omega))
   have d := zh hbel
   clear hall hx hbel
   generalize l.getD k v0D = y at *
   obtain ⟨id2, ys, born2, died2⟩ := y
   simp only at c0 c1 c2 c3
   have HC := zh (fun W => seenWith_any i1 b1 d1 id2 born2 died2 a1 xa n1 cc1 ys.length xc W)
   cases hse : seenB (i1, xs1, b1, d1) (id2, ys, born2, died2) with
   | true =>
    have HT := zh (HYS.out hse)
    rw [show decide (seenP i1 b1 d1 id2 born2 died2) = true from hse] at HC
    clear hse HYS HNO
    go_wp2_with fail
    refine (HC.out _).mono ?_
    rintro e w2 ⟨rfl, b2⟩
    have d2 := zh (d.out.trans (b2.mono d.out.size))
    clear b2 c0 c1 c2 c3 d
    go_wp2
    go_ret
    exact ⟨⟨_, rfl, by rw [HT.out]; exact decide_eq_true i1'⟩, d2.out⟩
   | false =>
    have HN := zh (HNO.out hse)
    rw [show decide (seenP i1 b1 d1 id2 born2 died2) = false from hse] at HC
    clear hse HYS HNO
    go_wp2_with fail
    refine (HC.out _).mono ?_
    rintro e w2 ⟨rfl, b2⟩
    have d2 := zh (d.out.trans (b2.mono d.out.size))
    clear b2 c0 c1 c2 c3 d
    go_wp2
    go_roundw
    case rel => exact ⟨k + 1, by omega, by go_num, HN, d2.out⟩
    case measure => simp [intOf]; omega
  ·
   obtain rfl : k = l.length := by omega
   have HF := zh (any_no hall.out)
   clear hall
   go_wp2
   go_ret
   exact ⟨⟨-1, rfl, by rw [HF.out]; rfl⟩, hbel⟩
set_option maxHeartbeats 8000000 in
theorem containsSeen (v : Value) (l : List VerD) (i1 b1 d1 : Int) (xs1 : List Int) (a1 : Option Addr) (n1 c1 : Nat) (w : World) (h : SlR tVersion w v l) (hs : l.length ≤ 1048576) :
  Calls Tryz.prog 238 #[v, .func (.func 239) #[.agg #[.int .i64 i1, .slice a1 n1 c1, .int .i64 b1, .int .i64 d1]] #[]] w fun e w' => e = .returned (.bool (anyB (i1, xs1, b1, d1) l)) ∧ Below w.heap.size w w' := by
 have HC := zh (indexSeen v l i1 b1 d1 xs1 a1 n1 c1 w h hs)
 clear h hs
 go_enter Tryz.func238, Tryz.ntmps238
 go_wp2_with fail
 refine HC.out.mono ?_
 rintro e w1 ⟨⟨r, rfl, hr⟩, b1⟩
 have HR := zh hr
 clear hr
 go_wp2
 go_ret
 exact ⟨ret_b (by rw [← HR.out]), b1⟩
set_option maxHeartbeats 4000000 in
theorem hasSegment_any (a : Option Addr) (n cap : Nat) (now g : Int) (w : World) (hn : n ≤ 1048576) :
  Calls Tryz.prog 132 #[.agg #[.slice a n cap, .int .i64 now], .int .i64 g] w (fun e w' => e = .returned (.bool (decide (0 ≤ g ∧ g < n))) ∧ Below w.heap.size w w') := by
 have d := zh (show Below w.heap.size w (w.alloc (.cells #[.slice a n cap, .int .i64 now] 35)) from (Below.refl _ _).alloc (Nat.le_refl _) _)
 by_cases h1 : 0 ≤ g
 ·
  by_cases h2 : g < n
  ·
   have HF : Hid (decide (0 ≤ g ∧ g < n) = true) := zh (decide_eq_true ⟨h1, h2⟩)
   have f1 : decide (0 ≤ g) = true := decide_eq_true h1
   have f2 : decide (g < n) = true := decide_eq_true h2
   rw [HF.out]
   clear h1 h2
   go_enter Tryz.func132, Tryz.ntmps132
   go_wp2
   go_ret
   exact ⟨rfl, d.out⟩
  ·
   have HF : Hid (decide (0 ≤ g ∧ g < n) = false) := zh (decide_eq_false (fun q => h2 q.2))
   have f1 : decide (0 ≤ g) = true := decide_eq_true h1
   have f2 : decide (g < n) = false := decide_eq_false h2
   rw [HF.out]
   clear h1 h2
   go_enter Tryz.func132, Tryz.ntmps132
   go_wp2
   go_ret
   exact ⟨rfl, d.out⟩
 ·
  have HF : Hid (decide (0 ≤ g ∧ g < n) = false) := zh (decide_eq_false (fun q => h1 q.1))
  have f1 : decide (0 ≤ g) = false := decide_eq_false h1
  rw [HF.out]
  clear h1
  go_enter Tryz.func132, Tryz.ntmps132
  go_wp2
  go_ret
  exact ⟨rfl, d.out⟩
theorem box_cells4 {W w : World} {t : TypeId} {x y z u : Value} {b : Nat} (h : W.heap[b]? = some (.cells #[x, y, z, u] t (0, 0))) (hb : Below W.heap.size W w) :
  w.cell? ⟨b, 0, none⟩ = some x ∧ w.cell? ⟨b, 1, none⟩ = some y ∧ w.cell? ⟨b, 2, none⟩ = some z ∧ w.cell? ⟨b, 3, none⟩ = some u := by
 have hlt := (Array.getElem?_eq_some_iff.1 h).1
 have h' := (hb.block b hlt).trans h
 exact ⟨(cell_of_row w b 0 _ _ _ h').trans rfl, (cell_of_row w b 1 _ _ _ h').trans rfl, (cell_of_row w b 2 _ _ _ h').trans rfl, (cell_of_row w b 3 _ _ _ h').trans rfl⟩
theorem isField_yes (n : Int) (w : World) (h1 : 0 ≤ n) (h2 : n < 3) : Calls Tryz.prog 249 #[.int .i64 n] w fun e w' => e = .returned (.bool true) ∧ w' = w := by
 go_enter Tryz.func249, Tryz.ntmps249
 go_wp2
 go_ret
 exact ⟨rfl, rfl⟩
theorem isField_no (n : Int) (w : World) (h : ¬ (0 ≤ n ∧ n < 3)) : Calls Tryz.prog 249 #[.int .i64 n] w fun e w' => e = .returned (.bool false) ∧ w' = w := by
 by_cases h1 : 0 ≤ n
 ·
  have h2 : ¬ n < 3 := fun g => h ⟨h1, g⟩
  clear h
  go_enter Tryz.func249, Tryz.ntmps249
  go_wp2
  go_ret
  exact ⟨rfl, rfl⟩
 ·
  clear h
  go_enter Tryz.func249, Tryz.ntmps249
  go_wp2
  go_ret
  exact ⟨rfl, rfl⟩
theorem isTenant_yes (n : Int) (w : World) (h1 : 0 ≤ n) (h2 : n < 4) : Calls Tryz.prog 202 #[.int .i64 n] w fun e w' => e = .returned (.bool true) ∧ w' = w := by
 go_enter Tryz.func202, Tryz.ntmps202
 go_wp2
 go_ret
 exact ⟨rfl, rfl⟩
theorem isTenant_no (n : Int) (w : World) (h : ¬ (0 ≤ n ∧ n < 4)) : Calls Tryz.prog 202 #[.int .i64 n] w fun e w' => e = .returned (.bool false) ∧ w' = w := by
 by_cases h1 : 0 ≤ n
 ·
  have h2 : ¬ n < 4 := fun g => h ⟨h1, g⟩
  clear h
  go_enter Tryz.func202, Tryz.ntmps202
  go_wp2
  go_ret
  exact ⟨rfl, rfl⟩
 ·
  clear h
  go_enter Tryz.func202, Tryz.ntmps202
  go_wp2
  go_ret
  exact ⟨rfl, rfl⟩
theorem isQNum_yes (n : Int) (w : World) (h1 : 0 ≤ n) (h2 : n < 24) : Calls Tryz.prog 215 #[.int .i64 n] w fun e w' => e = .returned (.bool true) ∧ w' = w := by
 go_enter Tryz.func215, Tryz.ntmps215
 go_wp2
 go_ret
 exact ⟨rfl, rfl⟩
theorem isQNum_no (n : Int) (w : World) (h : ¬ (0 ≤ n ∧ n < 24)) : Calls Tryz.prog 215 #[.int .i64 n] w fun e w' => e = .returned (.bool false) ∧ w' = w := by
 by_cases h1 : 0 ≤ n
 ·
  have h2 : ¬ n < 24 := fun g => h ⟨h1, g⟩
  clear h
  go_enter Tryz.func215, Tryz.ntmps215
  go_wp2
  go_ret
  exact ⟨rfl, rfl⟩
 ·
  clear h
  go_enter Tryz.func215, Tryz.ntmps215
  go_wp2
  go_ret
  exact ⟨rfl, rfl⟩
/-- Can a field have the values from l to h? -/
theorem isFieldRange_is (l h : Int) (w : World) : Calls Tryz.prog 272 #[.int .i64 l, .int .i64 h] w fun e w' => e = .returned (.bool (decide (0 ≤ l ∧ l ≤ h) && decide (h ≤ 99))) ∧ w' = w := by
 obtain ⟨r, hr⟩ : ∃ r, (decide (0 ≤ l ∧ l ≤ h) && decide (h ≤ 99)) = r := ⟨_, rfl⟩
 rw [hr]
 by_cases h2 : 0 ≤ l
 ·
  by_cases h3 : l ≤ h
  ·
   by_cases h4 : h ≤ 99
   ·
    have HX := trivial
    have HT : Hid (r = true) := Lib.hid (by rw [← hr, decide_eq_true (And.intro h2 h3), decide_eq_true h4]; rfl)
    clear HX hr
    go_enter Tryz.func272, Tryz.ntmps272
    go_wp2
    go_ret
    exact ⟨ret_b HT.out.symm, rfl⟩
   ·
    have HX := trivial
    have HT : Hid (r = false) := Lib.hid (by rw [← hr, decide_eq_false h4, Bool.and_false])
    clear HX hr
    go_enter Tryz.func272, Tryz.ntmps272
    go_wp2
    go_ret
    exact ⟨ret_b HT.out.symm, rfl⟩
  ·
   have HX := trivial
   have HT : Hid (r = false) := Lib.hid (by rw [← hr, decide_eq_false (fun g => h3 g.2), Bool.false_and])
   clear HX hr
   go_enter Tryz.func272, Tryz.ntmps272
   go_wp2
   go_ret
   exact ⟨ret_b HT.out.symm, rfl⟩
 ·
  have HX := trivial
  have HT : Hid (r = false) := Lib.hid (by rw [← hr, decide_eq_false (fun g => h2 g.1), Bool.false_and])
  clear HX hr
  go_enter Tryz.func272, Tryz.ntmps272
  go_wp2
  go_ret
  exact ⟨ret_b HT.out.symm, rfl⟩
set_option maxHeartbeats 4000000 in
theorem implIsCond (f l h : Int) (w : World) : Calls Tryz.prog 248 #[condV f l h] w fun e w' => e = .returned (.bool (condB (f, l, h))) ∧ Below w.heap.size w w' := by
 have hb : Below w.heap.size w (w.alloc (.cells #[.int .i64 f, .int .i64 l, .int .i64 h] 177)) := (Below.refl _ w).alloc (Nat.le_refl _) _
 by_cases h1 : 0 ≤ f ∧ f < 3
 ·
  have H1 := Lib.hid (fun w => isField_yes f w h1.1 h1.2)
  have H2 := Lib.hid (fun w => isFieldRange_is l h w)
  have HE : Hid (condB (f, l, h) = (decide (0 ≤ l ∧ l ≤ h) && decide (h ≤ 99))) := Lib.hid (by unfold condB; rw [decide_eq_true (by omega : 0 ≤ f ∧ f ≤ 2), Bool.true_and])
  clear h1
  generalize (decide (0 ≤ l ∧ l ≤ h) && decide (h ≤ 99)) = r at *
  go_enter Tryz.func248, Tryz.ntmps248
  go_wp2_with fail
  refine (H1.out _).mono ?_
  rintro e w1 ⟨rfl, rfl⟩
  go_wp2_with fail
  refine (H2.out _).mono ?_
  rintro e w1 ⟨rfl, rfl⟩
  go_wp2
  go_ret
  exact ⟨ret_b HE.out.symm, hb⟩
 ·
  have H1 := Lib.hid (fun w => isField_no f w h1)
  have HT : Hid (condB (f, l, h) = false) := Lib.hid (by unfold condB; rw [decide_eq_false (by omega : ¬ (0 ≤ f ∧ f ≤ 2)), Bool.false_and])
  clear h1
  go_enter Tryz.func248, Tryz.ntmps248
  go_wp2_with fail
  refine (H1.out _).mono ?_
  rintro e w1 ⟨rfl, rfl⟩
  go_wp2
  go_ret
  exact ⟨ret_b HT.out.symm, hb⟩
/-- Are these the conditions of a query? -/
def condsV (cs : List CondD) : Bool := decide (cs.length ≤ 3) && condsB cs
theorem condsV_bad {cs : List CondD} {k : Nat} (hk : k < cs.length) (h : condB (cs.getD k c0D) = false ∨ (0 < k ∧ ¬ (cs.getD (k - 1) c0D).1 < (cs.getD k c0D).1)) : condsV cs = false := by
 unfold condsV; rw [condsB_bad hk h, Bool.and_false]
set_option maxHeartbeats 8000000 in
theorem areValid_any (v : Value) (cs : List CondD) (w : World) (h : CondsR w v cs) (hn : cs.length ≤ 1048576) :
  Calls Tryz.prog 216 #[v] w fun e w' => e = .returned (.bool (condsV cs)) ∧ Below w.heap.size w w' := by
 have H := Lib.hid h
 obtain ⟨a, cap, rfl⟩ := condsR_len h
 clear h
 by_cases hbig : 3 < cs.length
 ·
  have HF : Hid (condsV cs = false) := Lib.hid (by unfold condsV; rw [decide_eq_false (by omega)]; simp)
  have i0 : (3 : Int) < (cs.length : Int) := by omega
  have hd : decide ((3 : Int) < (cs.length : Int)) = true := decide_eq_true i0
  have hdn : decide (3 < cs.length) = true := decide_eq_true hbig
  go_enter Tryz.func216, Tryz.ntmps216
  go_wp2
  go_ret
  exact ⟨ret_b HF.out.symm, Below.refl _ _⟩
 have HT : Hid (CondsTo cs cs.length → condsV cs = true) := Lib.hid (fun g => by unfold condsV; rw [decide_eq_true (by omega), condsB_all g]; rfl)
 have hd : decide ((3 : Int) < (cs.length : Int)) = false := decide_eq_false (by omega)
 have hdn : decide (3 < cs.length) = false := decide_eq_false hbig
 clear hbig
 go_enter Tryz.func216, Tryz.ntmps216
 go_wp2
 clear hd hdn
 go_loopw [10] (fun i wr => ∃ k : Nat, k ≤ cs.length ∧ i = .int .i64 k ∧ Hid (CondsTo cs k) ∧ Below w.heap.size w wr) (fun i _ => cs.length - (intOf i).toNat)
 case atStart => exact ⟨0, Nat.zero_le _, rfl, Lib.hid (fun i hi => by omega), Below.refl _ _⟩
 case round =>
  obtain ⟨k, hk, rfl, hall, hbel⟩ := hrel
  by_cases hlt : k < cs.length
  ·
   have H1 := Lib.hid (condsR_below H.out hbel)
   obtain ⟨b, off, cap', hv, hbl, hc1, hc2, hc3⟩ := condsR_at H1.out hlt
   simp only [Value.slice.injEq] at hv
   obtain ⟨rfl, _, rfl⟩ := hv
   have HBAD := Lib.hid (condsV_bad (cs := cs) (k := k) hlt)
   have HSTEP := Lib.hid (condsTo_step hall.out)
   have HR0 : Hid (∀ w, Calls Tryz.prog 248 #[condV (cs.getD k c0D).1 (cs.getD k c0D).2.1 (cs.getD k c0D).2.2] w fun e w' => e = .returned (.bool (condB (cs.getD k c0D))) ∧ Below w.heap.size w w') := Lib.hid (fun w => implIsCond (cs.getD k c0D).1 (cs.getD k c0D).2.1 (cs.getD k c0D).2.2 w)
   have i1 : (0 : Int) ≤ (k : Int) := by omega
   have i2 : (k : Int) < (cs.length : Int) := by omega
   clear hall
   cases hrb : condB (cs.getD k c0D) with
   | false =>
    have HF := Lib.hid (HBAD.out (Or.inl hrb))
    have HR := Lib.hid (fun w => (HR0.out w))
    rw [hrb] at HR
    clear hrb HBAD HSTEP H1 HR0
    generalize (cs.getD k c0D).1 = cf at *
    generalize (cs.getD k c0D).2.1 = cl at *
    generalize (cs.getD k c0D).2.2 = ch at *
    go_wp2
    have hW : Below wr.heap.size wr (wr.alloc (.cells #[.int .i64 cf, .int .i64 cl, .int .i64 ch] 177)) := (Below.refl _ wr).alloc (Nat.le_refl _) _
    have g0 := heap_alloc_new wr (.cells #[.int .i64 cf, .int .i64 cl, .int .i64 ch] 177)
    have hlt2 : wr.heap.size < (wr.alloc (.cells #[.int .i64 cf, .int .i64 cl, .int .i64 ch] 177)).heap.size := by simp
    generalize wr.alloc (.cells #[.int .i64 cf, .int .i64 cl, .int .i64 ch] 177) = W at *
    have q0 := cell_of_row W _ 0 _ _ _ g0
    have q1 := cell_of_row W _ 1 _ _ _ g0
    have q2 := cell_of_row W _ 2 _ _ _ g0
    simp at q0 q1 q2
    refine wp_region_held_drew (S := fun w' => w'.cell? ⟨wr.heap.size, 0, none⟩ = some (.int .i64 cf) ∧ w'.cell? ⟨wr.heap.size, 1, none⟩ = some (.int .i64 cl) ∧ w'.cell? ⟨wr.heap.size, 2, none⟩ = some (.int .i64 ch)) (by kernel_rfl) ⟨q0, q1, q2⟩ (fun hHeld => ?_)
    refine tQ (i := 0) ?_
    try simp only [Act.put, lA, lB, lC]
    refine rA 1 (fun K hK => ?_)
    go_simp
    refine (HR.out _).mono ?_
    rintro e w8 ⟨rfl, b9⟩
    have b10 : Below W.heap.size W w8 := ⟨b9.os, b9.tape, b9.output, b9.size, b9.block⟩
    have s0 := (b10.cell (p := ⟨wr.heap.size, 0, none⟩) hlt2).trans q0
    have s1 := (b10.cell (p := ⟨wr.heap.size, 1, none⟩) hlt2).trans q1
    have s2 := (b10.cell (p := ⟨wr.heap.size, 2, none⟩) hlt2).trans q2
    refine hK.out _ _ ⟨s0, s1, s2⟩ (fun hHeld => ?_)
    clear hK K
    try simp only [Act.put, lA, lB, lC]
    refine tQ (i := 2) ?_
    try simp only [Act.put, lA, lB, lC]
    refine tQ (i := 3) ?_
    try simp only [Act.put, lA, lB, lC]
    refine tO (i := 4) ?_
    try simp only [Act.put, lA, lB, lC]
    refine tO (i := 5) ?_
    try simp only [Act.put, lA, lB, lC]
    refine tO (i := 6) ?_
    try simp only [Act.put, lA, lB, lC]
    refine tO (i := 7) ?_
    try simp only [Act.put, lA, lB, lC]
    refine tO (i := 8) ?_
    try simp only [Act.put, lA, lB, lC]
    refine tO (i := 9) ?_
    try simp only [Act.put, lA, lB, lC]
    refine tO (i := 10) ?_
    try simp only [Act.put, lA, lB, lC]
    refine tO (i := 11) ?_
    try simp only [Act.put, lA, lB, lC]
    refine tO (i := 12) ?_
    try simp only [Act.put, lA, lB, lC]
    refine tO (i := 13) ?_
    try simp only [Act.put, lA, lB, lC]
    refine tO (i := 14) ?_
    try simp only [Act.put, lA, lB, lC]
    refine tO (i := 15) ?_
    try simp only [Act.put, lA, lB, lC]
    refine tO (i := 16) ?_
    try simp only [Act.put, lA, lB, lC]
    refine tQ (i := 17) ?_
    try simp only [Act.put, lA, lB, lC]
    refine wpAnyH_done (by kernel_rfl) ?_ _
    have b11 := hbel.trans ((hW.trans (b10.mono hW.size)).mono hbel.size)
    clear s0 s1 s2 hHeld b9 b10
    try clear s3
    go_wp2
    go_ret
    exact ⟨ret_b HF.out.symm, b11⟩
   | true =>
    have HR := Lib.hid (fun w => (HR0.out w))
    rw [hrb] at HR
    clear HR0
    by_cases hz : k = 0
    ·
     have HA := Lib.hid (HSTEP.out hrb (fun g => absurd g (by omega)))
     have hg : decide ((0 : Int) < (k : Int)) = false := decide_eq_false (by omega)
     have hgn : decide (0 < k) = false := decide_eq_false (by omega)
     clear hrb HBAD HSTEP H1 hz
     generalize (cs.getD k c0D).1 = cf at *
     generalize (cs.getD k c0D).2.1 = cl at *
     generalize (cs.getD k c0D).2.2 = ch at *
     go_wp2
     have hW : Below wr.heap.size wr (wr.alloc (.cells #[.int .i64 cf, .int .i64 cl, .int .i64 ch] 177)) := (Below.refl _ wr).alloc (Nat.le_refl _) _
     have g0 := heap_alloc_new wr (.cells #[.int .i64 cf, .int .i64 cl, .int .i64 ch] 177)
     have hlt2 : wr.heap.size < (wr.alloc (.cells #[.int .i64 cf, .int .i64 cl, .int .i64 ch] 177)).heap.size := by simp
     generalize wr.alloc (.cells #[.int .i64 cf, .int .i64 cl, .int .i64 ch] 177) = W at *
     have q0 := cell_of_row W _ 0 _ _ _ g0
     have q1 := cell_of_row W _ 1 _ _ _ g0
     have q2 := cell_of_row W _ 2 _ _ _ g0
     simp at q0 q1 q2
     refine wp_region_held_drew (S := fun w' => w'.cell? ⟨wr.heap.size, 0, none⟩ = some (.int .i64 cf) ∧ w'.cell? ⟨wr.heap.size, 1, none⟩ = some (.int .i64 cl) ∧ w'.cell? ⟨wr.heap.size, 2, none⟩ = some (.int .i64 ch)) (by kernel_rfl) ⟨q0, q1, q2⟩ (fun hHeld => ?_)
     refine tQ (i := 0) ?_
     try simp only [Act.put, lA, lB, lC]
     refine rA 1 (fun K hK => ?_)
     go_simp
     refine (HR.out _).mono ?_
     rintro e w8 ⟨rfl, b9⟩
     have b10 : Below W.heap.size W w8 := ⟨b9.os, b9.tape, b9.output, b9.size, b9.block⟩
     have s0 := (b10.cell (p := ⟨wr.heap.size, 0, none⟩) hlt2).trans q0
     have s1 := (b10.cell (p := ⟨wr.heap.size, 1, none⟩) hlt2).trans q1
     have s2 := (b10.cell (p := ⟨wr.heap.size, 2, none⟩) hlt2).trans q2
     refine hK.out _ _ ⟨s0, s1, s2⟩ (fun hHeld => ?_)
     clear hK K
     try simp only [Act.put, lA, lB, lC]
     refine tQ (i := 2) ?_
     try simp only [Act.put, lA, lB, lC]
     refine tQ (i := 3) ?_
     try simp only [Act.put, lA, lB, lC]
     refine tQ (i := 4) ?_
     try simp only [Act.put, lA, lB, lC]
     refine tQ (i := 5) ?_
     try simp only [Act.put, lA, lB, lC]
     refine tQ (i := 6) ?_
     try simp only [Act.put, lA, lB, lC]
     refine tO (i := 7) ?_
     try simp only [Act.put, lA, lB, lC]
     refine tO (i := 8) ?_
     try simp only [Act.put, lA, lB, lC]
     refine tO (i := 9) ?_
     try simp only [Act.put, lA, lB, lC]
     refine tO (i := 10) ?_
     try simp only [Act.put, lA, lB, lC]
     refine tO (i := 11) ?_
     try simp only [Act.put, lA, lB, lC]
     refine tO (i := 12) ?_
     try simp only [Act.put, lA, lB, lC]
     refine tO (i := 13) ?_
     try simp only [Act.put, lA, lB, lC]
     refine tO (i := 14) ?_
     try simp only [Act.put, lA, lB, lC]
     refine tO (i := 15) ?_
     try simp only [Act.put, lA, lB, lC]
     refine tQ (i := 16) ?_
     try simp only [Act.put, lA, lB, lC]
     refine tQ (i := 17) ?_
     try simp only [Act.put, lA, lB, lC]
     refine wpAnyH_done (by kernel_rfl) ?_ _
     have b11 := hbel.trans ((hW.trans (b10.mono hW.size)).mono hbel.size)
     clear s0 s1 s2 hHeld b9 b10
     try clear s3
     go_wp2
     go_roundw
     case rel => exact ⟨k + 1, by omega, by go_num, HA, b11⟩
     case measure => simp [intOf]; omega
    ·
     obtain ⟨m, hkm⟩ : ∃ m, k = m + 1 := ⟨k - 1, by omega⟩
     have hml : m < cs.length := by omega
     obtain ⟨b', off', cap'', hv', _, hc0, _, _⟩ := condsR_at H1.out hml
     simp only [Value.slice.injEq, Option.some.injEq, Addr.mk.injEq] at hv'
     obtain ⟨⟨rfl, rfl, _⟩, _, rfl⟩ := hv'
     have hg : decide ((0 : Int) < (k : Int)) = true := decide_eq_true (by omega)
     have hgn : decide (0 < k) = true := decide_eq_true (by omega)
     have j1 : (0 : Int) ≤ (m : Int) := by omega
     have j2 : (m : Int) < (cs.length : Int) := by omega
     have hsub : IntKind.i64.wrap ((k : Int) - 1) = (m : Int) := by rw [IntWalk.i64_in _ (by omega)]; omega
     rw [show k - 1 = m by omega] at HBAD HSTEP
     by_cases hle : (cs.getD k c0D).1 ≤ (cs.getD m c0D).1
     ·
      have HF := Lib.hid (HBAD.out (Or.inr ⟨by omega, by omega⟩))
      have hd := decide_eq_true hle
      clear hrb HBAD HSTEP H1 hz hle hkm
      generalize (cs.getD k c0D).1 = cf at *
      generalize (cs.getD k c0D).2.1 = cl at *
      generalize (cs.getD k c0D).2.2 = ch at *
      generalize (cs.getD m c0D).1 = fp at *
      go_wp2
      have hW : Below wr.heap.size wr (wr.alloc (.cells #[.int .i64 cf, .int .i64 cl, .int .i64 ch] 177)) := (Below.refl _ wr).alloc (Nat.le_refl _) _
      have g0 := heap_alloc_new wr (.cells #[.int .i64 cf, .int .i64 cl, .int .i64 ch] 177)
      have hlt2 : wr.heap.size < (wr.alloc (.cells #[.int .i64 cf, .int .i64 cl, .int .i64 ch] 177)).heap.size := by simp
      generalize wr.alloc (.cells #[.int .i64 cf, .int .i64 cl, .int .i64 ch] 177) = W at *
      have q0 := cell_of_row W _ 0 _ _ _ g0
      have q1 := cell_of_row W _ 1 _ _ _ g0
      have q2 := cell_of_row W _ 2 _ _ _ g0
      simp at q0 q1 q2
      have p0 := (hW.cell (p := ⟨b, off + m * 3, none⟩) hbl).trans hc0
      refine wp_region_held_drew (S := fun w' => w'.cell? ⟨wr.heap.size, 0, none⟩ = some (.int .i64 cf) ∧ w'.cell? ⟨wr.heap.size, 1, none⟩ = some (.int .i64 cl) ∧ w'.cell? ⟨wr.heap.size, 2, none⟩ = some (.int .i64 ch) ∧ w'.cell? ⟨b, off + m * 3, none⟩ = some (.int .i64 fp)) (by kernel_rfl) ⟨q0, q1, q2, p0⟩ (fun hHeld => ?_)
      refine tQ (i := 0) ?_
      try simp only [Act.put, lA, lB, lC]
      refine rA 1 (fun K hK => ?_)
      go_simp
      refine (HR.out _).mono ?_
      rintro e w8 ⟨rfl, b9⟩
      have b10 : Below W.heap.size W w8 := ⟨b9.os, b9.tape, b9.output, b9.size, b9.block⟩
      have s0 := (b10.cell (p := ⟨wr.heap.size, 0, none⟩) hlt2).trans q0
      have s1 := (b10.cell (p := ⟨wr.heap.size, 1, none⟩) hlt2).trans q1
      have s2 := (b10.cell (p := ⟨wr.heap.size, 2, none⟩) hlt2).trans q2
      have s3 := (b10.cell (p := ⟨b, off + m * 3, none⟩) (Nat.lt_of_lt_of_le hbl hW.size)).trans p0
      refine hK.out _ _ ⟨s0, s1, s2, s3⟩ (fun hHeld => ?_)
      clear hK K
      try simp only [Act.put, lA, lB, lC]
      refine tQ (i := 2) ?_
      try simp only [Act.put, lA, lB, lC]
      refine tQ (i := 3) ?_
      try simp only [Act.put, lA, lB, lC]
      refine tQ (i := 4) ?_
      try simp only [Act.put, lA, lB, lC]
      refine tQ (i := 5) ?_
      try simp only [Act.put, lA, lB, lC]
      refine tQ (i := 6) ?_
      try simp only [Act.put, lA, lB, lC]
      refine tQ (i := 7) ?_
      try simp only [Act.put, lA, lB, lC]
      refine tQ (i := 8) ?_
      try simp only [Act.put, lA, lB, lC]
      refine tQ (i := 9) ?_
      try simp only [Act.put, lA, lB, lC]
      refine tQ (i := 10) ?_
      try simp only [Act.put, lA, lB, lC]
      refine tQ (i := 11) ?_
      try simp only [Act.put, lA, lB, lC]
      refine tQ (i := 12) ?_
      try simp only [Act.put, lA, lB, lC]
      refine tQ (i := 13) ?_
      try simp only [Act.put, lA, lB, lC]
      refine tQ (i := 14) ?_
      try simp only [Act.put, lA, lB, lC]
      refine tQ (i := 15) ?_
      try simp only [Act.put, lA, lB, lC]
      refine tQ (i := 16) ?_
      try simp only [Act.put, lA, lB, lC]
      refine tQ (i := 17) ?_
      try simp only [Act.put, lA, lB, lC]
      refine wpAnyH_done (by kernel_rfl) ?_ _
      have b11 := hbel.trans ((hW.trans (b10.mono hW.size)).mono hbel.size)
      clear s0 s1 s2 hHeld b9 b10
      try clear s3
      go_wp2
      go_ret
      exact ⟨ret_b HF.out.symm, b11⟩
     ·
      have HA := Lib.hid (HSTEP.out hrb (fun _ => by omega))
      have hd := decide_eq_false hle
      clear hrb HBAD HSTEP H1 hz hle hkm
      generalize (cs.getD k c0D).1 = cf at *
      generalize (cs.getD k c0D).2.1 = cl at *
      generalize (cs.getD k c0D).2.2 = ch at *
      generalize (cs.getD m c0D).1 = fp at *
      go_wp2
      have hW : Below wr.heap.size wr (wr.alloc (.cells #[.int .i64 cf, .int .i64 cl, .int .i64 ch] 177)) := (Below.refl _ wr).alloc (Nat.le_refl _) _
      have g0 := heap_alloc_new wr (.cells #[.int .i64 cf, .int .i64 cl, .int .i64 ch] 177)
      have hlt2 : wr.heap.size < (wr.alloc (.cells #[.int .i64 cf, .int .i64 cl, .int .i64 ch] 177)).heap.size := by simp
      generalize wr.alloc (.cells #[.int .i64 cf, .int .i64 cl, .int .i64 ch] 177) = W at *
      have q0 := cell_of_row W _ 0 _ _ _ g0
      have q1 := cell_of_row W _ 1 _ _ _ g0
      have q2 := cell_of_row W _ 2 _ _ _ g0
      simp at q0 q1 q2
      have p0 := (hW.cell (p := ⟨b, off + m * 3, none⟩) hbl).trans hc0
      refine wp_region_held_drew (S := fun w' => w'.cell? ⟨wr.heap.size, 0, none⟩ = some (.int .i64 cf) ∧ w'.cell? ⟨wr.heap.size, 1, none⟩ = some (.int .i64 cl) ∧ w'.cell? ⟨wr.heap.size, 2, none⟩ = some (.int .i64 ch) ∧ w'.cell? ⟨b, off + m * 3, none⟩ = some (.int .i64 fp)) (by kernel_rfl) ⟨q0, q1, q2, p0⟩ (fun hHeld => ?_)
      refine tQ (i := 0) ?_
      try simp only [Act.put, lA, lB, lC]
      refine rA 1 (fun K hK => ?_)
      go_simp
      refine (HR.out _).mono ?_
      rintro e w8 ⟨rfl, b9⟩
      have b10 : Below W.heap.size W w8 := ⟨b9.os, b9.tape, b9.output, b9.size, b9.block⟩
      have s0 := (b10.cell (p := ⟨wr.heap.size, 0, none⟩) hlt2).trans q0
      have s1 := (b10.cell (p := ⟨wr.heap.size, 1, none⟩) hlt2).trans q1
      have s2 := (b10.cell (p := ⟨wr.heap.size, 2, none⟩) hlt2).trans q2
      have s3 := (b10.cell (p := ⟨b, off + m * 3, none⟩) (Nat.lt_of_lt_of_le hbl hW.size)).trans p0
      refine hK.out _ _ ⟨s0, s1, s2, s3⟩ (fun hHeld => ?_)
      clear hK K
      try simp only [Act.put, lA, lB, lC]
      refine tQ (i := 2) ?_
      try simp only [Act.put, lA, lB, lC]
      refine tQ (i := 3) ?_
      try simp only [Act.put, lA, lB, lC]
      refine tQ (i := 4) ?_
      try simp only [Act.put, lA, lB, lC]
      refine tQ (i := 5) ?_
      try simp only [Act.put, lA, lB, lC]
      refine tQ (i := 6) ?_
      try simp only [Act.put, lA, lB, lC]
      refine tQ (i := 7) ?_
      try simp only [Act.put, lA, lB, lC]
      refine tQ (i := 8) ?_
      try simp only [Act.put, lA, lB, lC]
      refine tQ (i := 9) ?_
      try simp only [Act.put, lA, lB, lC]
      refine tQ (i := 10) ?_
      try simp only [Act.put, lA, lB, lC]
      refine tQ (i := 11) ?_
      try simp only [Act.put, lA, lB, lC]
      refine tQ (i := 12) ?_
      try simp only [Act.put, lA, lB, lC]
      refine tQ (i := 13) ?_
      try simp only [Act.put, lA, lB, lC]
      refine tQ (i := 14) ?_
      try simp only [Act.put, lA, lB, lC]
      refine tQ (i := 15) ?_
      try simp only [Act.put, lA, lB, lC]
      refine tQ (i := 16) ?_
      try simp only [Act.put, lA, lB, lC]
      refine tQ (i := 17) ?_
      try simp only [Act.put, lA, lB, lC]
      refine wpAnyH_done (by kernel_rfl) ?_ _
      have b11 := hbel.trans ((hW.trans (b10.mono hW.size)).mono hbel.size)
      clear s0 s1 s2 hHeld b9 b10
      try clear s3
      go_wp2
      go_roundw
      case rel => exact ⟨k + 1, by omega, by go_num, HA, b11⟩
      case measure => simp [intOf]; omega
  ·
   obtain rfl : k = cs.length := by omega
   have HA := Lib.hid (HT.out hall.out)
   clear hall
   go_wp2
   go_ret
   exact ⟨ret_b HA.out.symm, hbel⟩
set_option maxHeartbeats 4000000 in
theorem isOut_any (v : Value) (os : List Int) (w : World) (h : Ints w v os) (hn : os.length ≤ 1048576) :
  Calls Tryz.prog 217 #[v] w fun e w' => e = .returned (.bool (fieldsB os)) ∧ Below w.heap.size w w' := by
 have H := Lib.hid h
 obtain ⟨a, cap, rfl⟩ := ints_len h
 clear h
 by_cases hl : os.length < 1
 ·
  have HF : Hid (fieldsB os = false) := Lib.hid (by unfold fieldsB; rw [decide_eq_false (by omega : ¬ (1 ≤ os.length ∧ os.length ≤ 3)), Bool.and_false])
  have e0 : (os.length : Int) < 1 := by omega
  go_enter Tryz.func217, Tryz.ntmps217
  go_wp2
  go_ret
  exact ⟨ret_b HF.out.symm, Below.refl _ _⟩
 by_cases hg : 3 < os.length
 ·
  have HF : Hid (fieldsB os = false) := Lib.hid (by unfold fieldsB; rw [decide_eq_false (by omega : ¬ (1 ≤ os.length ∧ os.length ≤ 3)), Bool.and_false])
  have e0 : ¬ (os.length : Int) < 1 := by omega
  have e1 : (3 : Int) < (os.length : Int) := by omega
  go_enter Tryz.func217, Tryz.ntmps217
  go_wp2
  go_ret
  exact ⟨ret_b HF.out.symm, Below.refl _ _⟩
 have HT : Hid ((∀ k, k < os.length → 0 ≤ os.getD k 0 ∧ os.getD k 0 ≤ 2) → fieldsB os = true) := Lib.hid (fun g => by rw [fieldsB_all g]; exact decide_eq_true (by omega))
 have e0 : ¬ (os.length : Int) < 1 := by omega
 have e1 : ¬ (3 : Int) < (os.length : Int) := by omega
 go_enter Tryz.func217, Tryz.ntmps217
 go_wp2
 clear e0 e1 hl hg
 go_loopw [15] (fun i wr => ∃ k : Nat, k ≤ os.length ∧ i = .int .i64 k ∧ Hid (∀ j, j < k → 0 ≤ os.getD j 0 ∧ os.getD j 0 ≤ 2) ∧ wr = w) (fun i _ => os.length - (intOf i).toNat)
 case atStart => exact ⟨0, Nat.zero_le _, rfl, Lib.hid (fun j hj => by omega), rfl⟩
 case round =>
  obtain ⟨k, hk, rfl, hall, rfl⟩ := hrel
  by_cases hlt : k < os.length
  ·
   obtain ⟨b, off, cap', hv, hbl, hc⟩ := ints_cell H.out (by omega)
   simp only [Value.slice.injEq] at hv
   obtain ⟨rfl, _, rfl⟩ := hv
   have hcell := hc k hlt
   have i1 : (0 : Int) ≤ (k : Int) := by omega
   have i2 : (k : Int) < (os.length : Int) := by omega
   clear hc
   by_cases hi : 0 ≤ os.getD k 0 ∧ os.getD k 0 ≤ 2
   ·
    have HA : Hid (∀ j, j < k + 1 → 0 ≤ os.getD j 0 ∧ os.getD j 0 ≤ 2) := Lib.hid (fun j hj => by
     by_cases e : j = k
     ·
      subst e; exact hi
     ·
      exact hall.out j (by omega))
    have HI := Lib.hid (fun w => isField_yes (os.getD k 0) w hi.1 (by omega))
    clear hi hall
    generalize os.getD k 0 = x at *
    go_wp2_with fail
    refine (HI.out _).mono ?_
    rintro e w1 ⟨rfl, rfl⟩
    go_wp2
    go_roundw
    case rel => exact ⟨k + 1, by omega, by go_num, HA, by simp⟩
    case measure => simp [intOf]; omega
   ·
    have HF := Lib.hid (fieldsB_bad hlt hi)
    have HI := Lib.hid (fun w => isField_no (os.getD k 0) w (by omega))
    clear hi hall
    generalize os.getD k 0 = x at *
    go_wp2_with fail
    refine (HI.out _).mono ?_
    rintro e w1 ⟨rfl, rfl⟩
    go_wp2
    go_ret
    exact ⟨ret_b HF.out.symm, Below.refl _ _⟩
  ·
   obtain rfl : k = os.length := by omega
   have HE := Lib.hid (HT.out hall.out)
   clear hall
   go_wp2
   go_ret
   exact ⟨ret_b HE.out.symm, Below.refl _ _⟩
set_option maxHeartbeats 4000000 in
theorem implIsQuery (id tn : Int) (cv ov : Value) (cs : List CondD) (os : List Int) (w : World) (h : CondsR w cv cs) (hn : cs.length ≤ 1048576) (g : Ints w ov os) (hm : os.length ≤ 1048576) :
  Calls Tryz.prog 164 #[qV id tn cv ov] w fun e w' => e = .returned (.bool (queryB id tn cs os)) ∧ Below w.heap.size w w' := by
 obtain ⟨va, vcap, rfl⟩ := condsR_len h
 obtain ⟨oa, ocap, rfl⟩ := ints_len g
 have hb0 : Below w.heap.size w (w.alloc (.cells #[.int .i64 id, .int .i64 tn, .slice va cs.length vcap, .slice oa os.length ocap] 53)) := (Below.refl _ w).alloc (Nat.le_refl _) _
 have HB0 := Lib.hid hb0
 have HG0 := Lib.hid (heap_alloc_new w (.cells #[.int .i64 id, .int .i64 tn, .slice va cs.length vcap, .slice oa os.length ocap] 53))
 have HH := Lib.hid (condsR_below h hb0)
 have HO := Lib.hid (ints_below g hb0)
 have HV := Lib.hid (fun w h => areValid_any (.slice va cs.length vcap) cs w h hn)
 have HU := Lib.hid (fun w h => isOut_any (.slice oa os.length ocap) os w h hm)
 clear h g hn hm hb0
 have HQ : Hid (queryB id tn cs os = (decide (0 ≤ id ∧ id < 24) && (decide (0 ≤ tn ∧ tn < 4) && (condsV cs && fieldsB os)))) := Lib.hid (by
  unfold queryB condsV
  rw [show decide (0 ≤ id ∧ id < 24) = decide (0 ≤ id ∧ id ≤ 23) by congr 1; apply propext; omega, show decide (0 ≤ tn ∧ tn < 4) = decide (0 ≤ tn ∧ tn ≤ 3) by congr 1; apply propext; omega]
  cases condsB cs <;> cases decide (0 ≤ id ∧ id ≤ 23) <;> cases decide (0 ≤ tn ∧ tn ≤ 3) <;> cases decide (cs.length ≤ 3) <;> cases fieldsB os <;> rfl)
 by_cases h1 : 0 ≤ id ∧ id < 24
 ·
  have H1 := Lib.hid (fun w => isQNum_yes id w h1.1 h1.2)
  rw [decide_eq_true h1, Bool.true_and] at HQ
  clear h1
  by_cases h2 : 0 ≤ tn ∧ tn < 4
  ·
   have H2 := Lib.hid (fun w => isTenant_yes tn w h2.1 h2.2)
   rw [decide_eq_true h2, Bool.true_and] at HQ
   clear h2
   cases h3 : condsV cs with
   | false =>
    have HT : Hid (queryB id tn cs os = false) := Lib.hid (by rw [HQ.out, h3, Bool.false_and])
    rw [h3] at HV
    clear h3 HQ
    go_enter Tryz.func164, Tryz.ntmps164
    go_wp2_with fail
    generalize w.alloc (.cells #[.int .i64 id, .int .i64 tn, .slice va cs.length vcap, .slice oa os.length ocap] 53) = W at *
    obtain ⟨p0, p1, p2, p3⟩ := box_cells4 HG0.out (Below.refl _ _)
    refine (H1.out _).mono ?_
    rintro e w1 ⟨rfl, rfl⟩
    go_wp2_with fail
    refine (H2.out _).mono ?_
    rintro e w2 ⟨rfl, rfl⟩
    go_wp2_with fail
    refine (HV.out _ HH.out).mono ?_
    rintro e w3 ⟨rfl, b3⟩
    have c3 := HB0.out.trans (b3.mono HB0.out.size)
    go_wp2
    go_ret
    exact ⟨ret_b HT.out.symm, c3⟩
   | true =>
    have HT : Hid (queryB id tn cs os = fieldsB os) := Lib.hid (by rw [HQ.out, h3, Bool.true_and])
    rw [h3] at HV
    clear h3 HQ
    generalize fieldsB os = r at *
    go_enter Tryz.func164, Tryz.ntmps164
    go_wp2_with fail
    generalize w.alloc (.cells #[.int .i64 id, .int .i64 tn, .slice va cs.length vcap, .slice oa os.length ocap] 53) = W at *
    obtain ⟨p0, p1, p2, p3⟩ := box_cells4 HG0.out (Below.refl _ _)
    refine (H1.out _).mono ?_
    rintro e w1 ⟨rfl, rfl⟩
    go_wp2_with fail
    refine (H2.out _).mono ?_
    rintro e w2 ⟨rfl, rfl⟩
    go_wp2_with fail
    refine (HV.out _ HH.out).mono ?_
    rintro e w3 ⟨rfl, b3⟩
    have c3 := HB0.out.trans (b3.mono HB0.out.size)
    clear p0 p1 p2 p3
    obtain ⟨p0, p1, p2, p3⟩ := box_cells4 HG0.out b3
    have I3 := Lib.hid (ints_below HO.out b3)
    clear b3
    go_wp2_with fail
    refine (HU.out _ I3.out).mono ?_
    rintro e w4 ⟨rfl, b4⟩
    have c4 := c3.trans (b4.mono c3.size)
    go_wp2
    go_ret
    exact ⟨ret_b HT.out.symm, c4⟩
  ·
   have H2 := Lib.hid (fun w => isTenant_no tn w h2)
   have HT : Hid (queryB id tn cs os = false) := Lib.hid (by rw [HQ.out, decide_eq_false h2, Bool.false_and])
   clear h2 HQ
   go_enter Tryz.func164, Tryz.ntmps164
   go_wp2_with fail
   generalize w.alloc (.cells #[.int .i64 id, .int .i64 tn, .slice va cs.length vcap, .slice oa os.length ocap] 53) = W at *
   obtain ⟨p0, p1, p2, p3⟩ := box_cells4 HG0.out (Below.refl _ _)
   refine (H1.out _).mono ?_
   rintro e w1 ⟨rfl, rfl⟩
   go_wp2_with fail
   refine (H2.out _).mono ?_
   rintro e w2 ⟨rfl, rfl⟩
   go_wp2
   go_ret
   exact ⟨ret_b HT.out.symm, HB0.out⟩
 ·
  have H1 := Lib.hid (fun w => isQNum_no id w h1)
  have HT : Hid (queryB id tn cs os = false) := Lib.hid (by rw [HQ.out, decide_eq_false h1, Bool.false_and])
  clear h1 HQ
  go_enter Tryz.func164, Tryz.ntmps164
  go_wp2_with fail
  generalize w.alloc (.cells #[.int .i64 id, .int .i64 tn, .slice va cs.length vcap, .slice oa os.length ocap] 53) = W at *
  obtain ⟨p0, p1, p2, p3⟩ := box_cells4 HG0.out (Below.refl _ _)
  refine (H1.out _).mono ?_
  rintro e w1 ⟨rfl, rfl⟩
  go_wp2
  go_ret
  exact ⟨ret_b HT.out.symm, HB0.out⟩
set_option maxHeartbeats 4000000 in
theorem isLimit_any (n : Int) (w : World) :
  Calls Tryz.prog 62 #[.int .i64 n] w (fun e w' => e = .returned (.bool (decide (0 ≤ n ∧ n ≤ 32))) ∧ Below w.heap.size w w') := by
 have d := zh (show Below w.heap.size w w from Below.refl _ _)
 by_cases h1 : 0 ≤ n
 ·
  by_cases h2 : n ≤ 32
  ·
   have HF : Hid (decide (0 ≤ n ∧ n ≤ 32) = true) := zh (decide_eq_true ⟨h1, h2⟩)
   have f1 : decide (0 ≤ n) = true := decide_eq_true h1
   have f2 : decide (n ≤ 32) = true := decide_eq_true h2
   rw [HF.out]
   clear h1 h2
   go_enter Tryz.func62, Tryz.ntmps62
   go_wp2
   go_ret
   exact ⟨rfl, d.out⟩
  ·
   have HF : Hid (decide (0 ≤ n ∧ n ≤ 32) = false) := zh (decide_eq_false (fun q => h2 q.2))
   have f1 : decide (0 ≤ n) = true := decide_eq_true h1
   have f2 : decide (n ≤ 32) = false := decide_eq_false h2
   rw [HF.out]
   clear h1 h2
   go_enter Tryz.func62, Tryz.ntmps62
   go_wp2
   go_ret
   exact ⟨rfl, d.out⟩
 ·
  have HF : Hid (decide (0 ≤ n ∧ n ≤ 32) = false) := zh (decide_eq_false (fun q => h1 q.1))
  have f1 : decide (0 ≤ n) = false := decide_eq_false h1
  rw [HF.out]
  clear h1
  go_enter Tryz.func62, Tryz.ntmps62
  go_wp2
  go_ret
  exact ⟨rfl, d.out⟩
set_option maxHeartbeats 4000000 in
theorem canGet_any (sg ba : Int) (p2 p3 p4 : Option Addr) (n2 c2 n3 c3 n4 c4 : Nat) (y : Int) (w : World) :
  Calls Tryz.prog 203 #[.agg #[.int .i64 sg, .int .i64 ba, .slice p2 n2 c2, .slice p3 n3 c3, .slice p4 n4 c4], .int .i64 y] w (fun e w' => e = .returned (.bool (decide (0 ≤ y ∧ y ≤ ba))) ∧ Below w.heap.size w w') := by
 have d := zh (show Below w.heap.size w (w.alloc (.cells #[.int .i64 sg, .int .i64 ba, .slice p2 n2 c2, .slice p3 n3 c3, .slice p4 n4 c4] 162)) from (Below.refl _ _).alloc (Nat.le_refl _) _)
 by_cases h1 : 0 ≤ y
 ·
  by_cases h2 : y ≤ ba
  ·
   have HF : Hid (decide (0 ≤ y ∧ y ≤ ba) = true) := zh (decide_eq_true ⟨h1, h2⟩)
   have f1 : decide (0 ≤ y) = true := decide_eq_true h1
   have f2 : decide (y ≤ ba) = true := decide_eq_true h2
   rw [HF.out]
   clear h1 h2
   go_enter Tryz.func203, Tryz.ntmps203
   go_wp2
   go_ret
   exact ⟨rfl, d.out⟩
  ·
   have HF : Hid (decide (0 ≤ y ∧ y ≤ ba) = false) := zh (decide_eq_false (fun q => h2 q.2))
   have f1 : decide (0 ≤ y) = true := decide_eq_true h1
   have f2 : decide (y ≤ ba) = false := decide_eq_false h2
   rw [HF.out]
   clear h1 h2
   go_enter Tryz.func203, Tryz.ntmps203
   go_wp2
   go_ret
   exact ⟨rfl, d.out⟩
 ·
  have HF : Hid (decide (0 ≤ y ∧ y ≤ ba) = false) := zh (decide_eq_false (fun q => h1 q.1))
  have f1 : decide (0 ≤ y) = false := decide_eq_false h1
  rw [HF.out]
  clear h1
  go_enter Tryz.func203, Tryz.ntmps203
  go_wp2
  go_ret
  exact ⟨rfl, d.out⟩
set_option maxHeartbeats 8000000 in
theorem allRows  (v : Value) (l : List RowD) (w : World)  (h : SlR tRow w v l) (hs : zL tRow l ≤ 1048576) :
  Calls Tryz.prog 241 #[v, .func (.func 242) #[] #[]] w (fun e w' => e = .returned (.bool (l.all (rowB))) ∧ Below w.heap.size w w') := by
 have hlen := zL_len hs
 have HS := zh hs
 have H := zh h
 obtain ⟨a, cap, rfl⟩ := slR_len h
 clear h hs
 go_enter Tryz.func241, Tryz.ntmps241
 go_wp2
 go_loopw [9] (fun i wr => ∃ k : Nat, k ≤ l.length ∧ i = .int .i64 k ∧ Hid (AllTo (rowB) ((0, []) : RowD) l k) ∧ Below w.heap.size w wr) (fun i _ => l.length - (intOf i).toNat)
 case atStart => exact ⟨0, Nat.zero_le _, rfl, zh (allTo_zero _ _ _), Below.refl _ _⟩
 case round =>
  obtain ⟨k, hk, rfl, hno, c⟩ := hrel
  have cw := zh c
  by_cases hlt : k < l.length
  ·
   have i1 : (0 : Int) ≤ (k : Int) := by omega
   have i2 : (k : Int) < (l.length : Int) := by omega
   have hz := zL_at HS.out hlt
   change tRow.sz (l.getD k ((0, []) : RowD)) ≤ 1048576 at hz
   have HST : Hid ((rowB) (l.getD k ((0, []) : RowD)) = true → AllTo (rowB) ((0, []) : RowD) l (k + 1)) := zh (fun g => allTo_step hno.out g)
   have HNO : Hid ((rowB) (l.getD k ((0, []) : RowD)) = false → l.all (rowB) = false) := zh (fun g => allB_no ((0, []) : RowD) hlt g)
   obtain ⟨b, off, cap', cs, hv, hbl, hcs, hR⟩ := slR_at (slR_below tRow_law H.out c) hlt
   simp only [Value.slice.injEq] at hv
   obtain ⟨rfl, _, rfl⟩ := hv
   change tRow.R wr cs (l.getD k (0, [])) at hR
   generalize l.getD k ((0, []) : RowD) = r at *
   obtain ⟨id, xs⟩ := r
   obtain ⟨v1, rfl, h1⟩ := tRow_R hR
   rw [tRow_sz] at hz
   obtain ⟨xa, xc, rfl⟩ := slR_len h1
   have e0 : wr.cell? ⟨b, off + k * 2, none⟩ = some (Value.int .i64 id) := hcs 0 (by decide)
   have e1 : wr.cell? ⟨b, off + k * 2 + 1, none⟩ = some (Value.slice xa xs.length xc) := hcs 1 (by decide)
   have hal : Below wr.heap.size wr (wr.alloc (.cells #[.int .i64 id, .slice xa xs.length xc] 75)) := (Below.refl _ _).alloc (Nat.le_refl _) _
   have HC0 := implIsRow id (.slice xa xs.length xc) xs _ (slR_ints (slR_below tInt_law h1 hal)) (zL_len hz)
   have HC := zh (HC0.mono (fun e w' hh => (⟨hh.1, hal.trans (hh.2.mono hal.size)⟩ : e = .returned (.bool (rowB (id, xs))) ∧ Below wr.heap.size wr w')))
   clear HC0 hal hcs hR h1 hz hbl
   clear hno c
   obtain ⟨bv, hbv⟩ : ∃ bv, bv = rowB (id, xs) := ⟨_, rfl⟩
   rw [← hbv] at HC HST HNO
   clear hbv
   cases bv with
   | true =>
    have HT := zh (HST.out rfl)
    clear HST HNO
    go_wp2_with fail
    refine HC.out.mono ?_
    rintro e w2 ⟨rfl, c2⟩
    have cw2 := zh (cw.out.trans (c2.mono cw.out.size))
    clear c2 HC e0 e1
    go_wp2
    go_roundw
    case rel => exact ⟨k + 1, by omega, by go_num, HT, cw2.out⟩
    case measure => simp [intOf]; omega
   | false =>
    have HF := zh (HNO.out rfl)
    clear HST HNO
    go_wp2_with fail
    refine HC.out.mono ?_
    rintro e w2 ⟨rfl, c2⟩
    have cw2 := zh (cw.out.trans (c2.mono cw.out.size))
    clear c2 HC e0 e1
    go_wp2
    go_ret
    exact ⟨ret_b HF.out.symm, cw2.out⟩
  ·
   obtain rfl : k = l.length := by omega
   have HA := zh (allB_yes (p := rowB) ((0, []) : RowD) hno.out)
   clear hno c
   go_wp2
   go_ret
   exact ⟨ret_b HA.out.symm, cw.out⟩
theorem isTenant_ten (n : Int) (w : World) : Calls Tryz.prog 202 #[.int .i64 n] w fun e w' => e = .returned (.bool (tenB n)) ∧ Below w.heap.size w w' := by
 by_cases h : 0 ≤ n ∧ n < 4
 ·
  have e : tenB n = true := decide_eq_true ⟨h.1, by omega⟩
  rw [e]
  exact (isTenant_yes n w h.1 h.2).mono (fun e w' hh => ⟨hh.1, by rw [hh.2]; exact Below.refl _ _⟩)
 ·
  have e : tenB n = false := decide_eq_false (fun g => h ⟨g.1, by omega⟩)
  rw [e]
  exact (isTenant_no n w h).mono (fun e w' hh => ⟨hh.1, by rw [hh.2]; exact Below.refl _ _⟩)
set_option maxHeartbeats 8000000 in
theorem allTen  (v : Value) (l : List Int) (w : World)  (h : SlR tInt w v l) (hs : zL tInt l ≤ 1048576) :
  Calls Tryz.prog 201 #[v, .func (.func 202) #[] #[]] w (fun e w' => e = .returned (.bool (l.all (tenB))) ∧ Below w.heap.size w w') := by
 have hlen := zL_len hs
 have HS := zh hs
 have H := zh h
 obtain ⟨a, cap, rfl⟩ := slR_len h
 clear h hs
 go_enter Tryz.func201, Tryz.ntmps201
 go_wp2
 go_loopw [9] (fun i wr => ∃ k : Nat, k ≤ l.length ∧ i = .int .i64 k ∧ Hid (AllTo (tenB) 0 l k) ∧ Below w.heap.size w wr) (fun i _ => l.length - (intOf i).toNat)
 case atStart => exact ⟨0, Nat.zero_le _, rfl, zh (allTo_zero _ _ _), Below.refl _ _⟩
 case round =>
  obtain ⟨k, hk, rfl, hno, c⟩ := hrel
  have cw := zh c
  by_cases hlt : k < l.length
  ·
   have i1 : (0 : Int) ≤ (k : Int) := by omega
   have i2 : (k : Int) < (l.length : Int) := by omega
   have hz := zL_at HS.out hlt
   change tInt.sz (l.getD k 0) ≤ 1048576 at hz
   have HST : Hid ((tenB) (l.getD k 0) = true → AllTo (tenB) 0 l (k + 1)) := zh (fun g => allTo_step hno.out g)
   have HNO : Hid ((tenB) (l.getD k 0) = false → l.all (tenB) = false) := zh (fun g => allB_no 0 hlt g)
   obtain ⟨b, off, cap', hv, hbl, hc⟩ := ints_cell (slR_ints (slR_below tInt_law H.out c)) (by omega)
   simp only [Value.slice.injEq] at hv
   obtain ⟨rfl, _, rfl⟩ := hv
   have e0 := hc k hlt
   clear hc hbl hz
   generalize l.getD k 0 = y at *
   have HC := zh (isTenant_ten y wr)
   clear hno c
   obtain ⟨bv, hbv⟩ : ∃ bv, bv = tenB y := ⟨_, rfl⟩
   rw [← hbv] at HC HST HNO
   clear hbv
   cases bv with
   | true =>
    have HT := zh (HST.out rfl)
    clear HST HNO
    go_wp2_with fail
    refine HC.out.mono ?_
    rintro e w2 ⟨rfl, c2⟩
    have cw2 := zh (cw.out.trans (c2.mono cw.out.size))
    clear c2 HC e0
    go_wp2
    go_roundw
    case rel => exact ⟨k + 1, by omega, by go_num, HT, cw2.out⟩
    case measure => simp [intOf]; omega
   | false =>
    have HF := zh (HNO.out rfl)
    clear HST HNO
    go_wp2_with fail
    refine HC.out.mono ?_
    rintro e w2 ⟨rfl, c2⟩
    have cw2 := zh (cw.out.trans (c2.mono cw.out.size))
    clear c2 HC e0
    go_wp2
    go_ret
    exact ⟨ret_b HF.out.symm, cw2.out⟩
  ·
   obtain rfl : k = l.length := by omega
   have HA := zh (allB_yes (p := tenB) 0 hno.out)
   clear hno c
   go_wp2
   go_ret
   exact ⟨ret_b HA.out.symm, cw.out⟩
set_option maxHeartbeats 8000000 in
theorem allGet (sg ba : Int) (p2 p3 p4 : Option Addr) (n2 c2 n3 c3 n4 c4 : Nat) (v : Value) (l : List Int) (w : World)  (h : SlR tInt w v l) (hs : zL tInt l ≤ 1048576) :
  Calls Tryz.prog 201 #[v, .func (.func 203) #[.agg #[.int .i64 sg, .int .i64 ba, .slice p2 n2 c2, .slice p3 n3 c3, .slice p4 n4 c4]] #[]] w (fun e w' => e = .returned (.bool (l.all (getB ba))) ∧ Below w.heap.size w w') := by
 have hlen := zL_len hs
 have HS := zh hs
 have H := zh h
 obtain ⟨a, cap, rfl⟩ := slR_len h
 clear h hs
 go_enter Tryz.func201, Tryz.ntmps201
 go_wp2
 go_loopw [9] (fun i wr => ∃ k : Nat, k ≤ l.length ∧ i = .int .i64 k ∧ Hid (AllTo (getB ba) 0 l k) ∧ Below w.heap.size w wr) (fun i _ => l.length - (intOf i).toNat)
 case atStart => exact ⟨0, Nat.zero_le _, rfl, zh (allTo_zero _ _ _), Below.refl _ _⟩
 case round =>
  obtain ⟨k, hk, rfl, hno, c⟩ := hrel
  have cw := zh c
  by_cases hlt : k < l.length
  ·
   have i1 : (0 : Int) ≤ (k : Int) := by omega
   have i2 : (k : Int) < (l.length : Int) := by omega
   have hz := zL_at HS.out hlt
   change tInt.sz (l.getD k 0) ≤ 1048576 at hz
   have HST : Hid ((getB ba) (l.getD k 0) = true → AllTo (getB ba) 0 l (k + 1)) := zh (fun g => allTo_step hno.out g)
   have HNO : Hid ((getB ba) (l.getD k 0) = false → l.all (getB ba) = false) := zh (fun g => allB_no 0 hlt g)
   obtain ⟨b, off, cap', hv, hbl, hc⟩ := ints_cell (slR_ints (slR_below tInt_law H.out c)) (by omega)
   simp only [Value.slice.injEq] at hv
   obtain ⟨rfl, _, rfl⟩ := hv
   have e0 := hc k hlt
   clear hc hbl hz
   generalize l.getD k 0 = y at *
   have HC : Hid (Calls Tryz.prog 203 #[.agg #[.int .i64 sg, .int .i64 ba, .slice p2 n2 c2, .slice p3 n3 c3, .slice p4 n4 c4], .int .i64 y] wr (fun e w' => e = .returned (.bool (getB ba y)) ∧ Below wr.heap.size wr w')) := zh (canGet_any sg ba p2 p3 p4 n2 c2 n3 c3 n4 c4 y wr)
   clear hno c
   obtain ⟨bv, hbv⟩ : ∃ bv, bv = getB ba y := ⟨_, rfl⟩
   rw [← hbv] at HC HST HNO
   clear hbv
   cases bv with
   | true =>
    have HT := zh (HST.out rfl)
    clear HST HNO
    go_wp2_with fail
    refine HC.out.mono ?_
    rintro e w2 ⟨rfl, c2⟩
    have cw2 := zh (cw.out.trans (c2.mono cw.out.size))
    clear c2 HC e0
    go_wp2
    go_roundw
    case rel => exact ⟨k + 1, by omega, by go_num, HT, cw2.out⟩
    case measure => simp [intOf]; omega
   | false =>
    have HF := zh (HNO.out rfl)
    clear HST HNO
    go_wp2_with fail
    refine HC.out.mono ?_
    rintro e w2 ⟨rfl, c2⟩
    have cw2 := zh (cw.out.trans (c2.mono cw.out.size))
    clear c2 HC e0
    go_wp2
    go_ret
    exact ⟨ret_b HF.out.symm, cw2.out⟩
  ·
   obtain rfl : k = l.length := by omega
   have HA := zh (allB_yes (p := getB ba) 0 hno.out)
   clear hno c
   go_wp2
   go_ret
   exact ⟨ret_b HA.out.symm, cw.out⟩
theorem list_split (l : List RowD) : listB l = (decide (l.length ≤ 1000) && l.all rowB) := rfl
def ansB (q : QD) (t : Int) (rs : List RowD) (now : Int) : Bool := (qdB q && decide (0 ≤ t ∧ t ≤ now)) && listB rs
theorem ans_no1 {q : QD} {t now : Int} {rs : List RowD} (h : qdB q = false) : ansB q t rs now = false := by unfold ansB; rw [h]; rfl
theorem ans_no2 {q : QD} {t now : Int} {rs : List RowD} (h : ¬ (0 ≤ t ∧ t ≤ now)) : ansB q t rs now = false := by unfold ansB; rw [decide_eq_false h]; simp
theorem ans_no3 {q : QD} {t now : Int} {rs : List RowD} (h : listB rs = false) : ansB q t rs now = false := by unfold ansB; rw [h]; simp
theorem ans_yes {q : QD} {t now : Int} {rs : List RowD} (h1 : qdB q = true) (h2 : 0 ≤ t ∧ t ≤ now) (h3 : listB rs = true) : ansB q t rs now = true := by unfold ansB; rw [h1, decide_eq_true h2, h3]; rfl
set_option maxHeartbeats 8000000 in
theorem isAnswer_any (a0 a1 t now : Int) (v2 v3 rv : Value) (x2 : List CondD) (x3 : List Int) (rs : List RowD) (w : World) (h2 : SlR tCond w v2 x2) (h3 : SlR tInt w v3 x3) (h9 : SlR tRow w rv rs) (s2 : zL tCond x2 ≤ 1048576) (s3 : zL tInt x3 ≤ 1048576) (s9 : zL tRow rs ≤ 1048576) :
  Calls Tryz.prog 199 #[.agg #[.int .i64 a0, .int .i64 a1, v2, v3], .int .i64 t, rv, .int .i64 now] w (fun e w' => e = .returned (.bool (ansB (a0, a1, x2, x3) t rs now)) ∧ Below w.heap.size w w') := by
 obtain ⟨p2, c2, rfl⟩ := slR_len h2
 obtain ⟨p3, c3, rfl⟩ := slR_len h3
 obtain ⟨p9, c9, rfl⟩ := slR_len h9
 have H2 := zh h2; have H3 := zh h3; have H9 := zh h9; have N2 := zh (zL_len s2); have N3 := zh (zL_len s3); have S9 := zh s9; have n9 := zL_len s9
 clear h2 h3 h9 s2 s3 s9
 have d := zh (show Below w.heap.size w (w.alloc (.cells #[.int .i64 a0, .int .i64 a1, .slice p2 x2.length c2, .slice p3 x3.length c3] 53)) from ((Below.refl _ w).alloc (Nat.le_refl _) _))
 have B0 : Hid ((w.alloc (.cells #[.int .i64 a0, .int .i64 a1, .slice p2 x2.length c2, .slice p3 x3.length c3] 53)).heap[w.heap.size]? = some (.cells #[.int .i64 a0, .int .i64 a1, .slice p2 x2.length c2, .slice p3 x3.length c3] 53 (0, 0))) := zh (by
  exact heap_alloc_new w _)
 have YW : Hid (w.heap.size + 1 ≤ (w.alloc (.cells #[.int .i64 a0, .int .i64 a1, .slice p2 x2.length c2, .slice p3 x3.length c3] 53)).heap.size) := zh (by simp [World.size_alloc])
 go_enter Tryz.func199, Tryz.ntmps199
 go_wp2_with fail
 generalize (w.alloc (.cells #[.int .i64 a0, .int .i64 a1, .slice p2 x2.length c2, .slice p3 x3.length c3] 53)) = W at *
 refine (implIsQuery a0 a1 (.slice p2 x2.length c2) (.slice p3 x3.length c3) x2 x3 W (slR_conds (slR_below tCond_law H2.out d.out)) N2.out (slR_ints (slR_below tInt_law H3.out d.out)) N3.out).mono ?_
 rintro e W1 ⟨rfl, c⟩
 replace B0 := zb c B0
 replace d := zD d c
 have Z_W1 := zh (show W.heap.size ≤ W1.heap.size from c.size)
 clear c
 rcases Bool.eq_false_or_eq_true (queryB a0 a1 x2 x3) with hq | hq
 rotate_left
 ·
  rw [hq]
  have HF := zh (ans_no1 (q := (a0, a1, x2, x3)) (t := t) (now := now) (rs := rs) hq)
  clear hq
  have cp_B0_0 := cls4 B0.out
  go_wp2
  clear cp_B0_0
  go_ret
  exact ⟨ret_b HF.out.symm, d.out⟩
 rw [hq]
 have HQ := zh hq
 clear hq
 by_cases hp1 : 0 ≤ t
 rotate_left
 ·
  have HF := zh (ans_no2 (q := (a0, a1, x2, x3)) (t := t) (now := now) (rs := rs) (fun g => hp1 g.1))
  have f1 : decide (0 ≤ t) = false := decide_eq_false hp1
  clear hp1
  have cp_B0_0 := cls4 B0.out
  go_wp2
  clear cp_B0_0
  go_ret
  exact ⟨ret_b HF.out.symm, d.out⟩
 have f1 : decide (0 ≤ t) = true := decide_eq_true hp1
 have HP1 := zh hp1
 clear hp1
 by_cases hp2 : t ≤ now
 rotate_left
 ·
  have HF := zh (ans_no2 (q := (a0, a1, x2, x3)) (t := t) (now := now) (rs := rs) (fun g => hp2 g.2))
  have f2 : decide (t ≤ now) = false := decide_eq_false hp2
  clear hp2
  have cp_B0_0 := cls4 B0.out
  go_wp2
  clear cp_B0_0
  go_ret
  exact ⟨ret_b HF.out.symm, d.out⟩
 have f2 : decide (t ≤ now) = true := decide_eq_true hp2
 have HP2 := zh hp2
 clear hp2
 by_cases hp3 : rs.length ≤ 1000
 rotate_left
 ·
  have HF := zh (ans_no3 (q := (a0, a1, x2, x3)) (t := t) (now := now) (rs := rs) (by rw [list_split, decide_eq_false hp3]; rfl))
  have f3 : decide ((rs.length : Int) ≤ 1000) = false := decide_eq_false (by omega)
  clear hp3
  have cp_B0_0 := cls4 B0.out
  go_wp2
  clear cp_B0_0
  go_ret
  exact ⟨ret_b HF.out.symm, d.out⟩
 have f3 : decide ((rs.length : Int) ≤ 1000) = true := decide_eq_true (by omega)
 have HP3 := zh hp3
 clear hp3
 have HC := zh (allRows (.slice p9 rs.length c9) rs W1 (slR_below tRow_law H9.out d.out) S9.out)
 have cp_B0_0 := cls4 B0.out
 go_wp2_with fail
 clear cp_B0_0 f1 f2 f3
 refine HC.out.mono ?_
 rintro e W8 ⟨rfl, c⟩
 replace B0 := zb c B0
 replace d := zD d c
 have Z_W8 := zh (show W1.heap.size ≤ W8.heap.size from c.size)
 clear c HC
 have HT : Hid (rs.all rowB = ansB (a0, a1, x2, x3) t rs now) := zh (by
  rcases Bool.eq_false_or_eq_true (rs.all rowB) with g | g
  ·
   rw [g]; exact (ans_yes (q := (a0, a1, x2, x3)) (t := t) (now := now) (rs := rs) HQ.out ⟨HP1.out, HP2.out⟩ (by rw [list_split, decide_eq_true HP3.out, g]; rfl)).symm
  ·
   rw [g]; exact (ans_no3 (q := (a0, a1, x2, x3)) (t := t) (now := now) (rs := rs) (by rw [list_split, g]; simp)).symm)
 rw [HT.out]
 have cp_B0_0 := cls4 B0.out
 go_wp2
 clear cp_B0_0
 go_ret
 exact ⟨rfl, d.out⟩
set_option maxHeartbeats 8000000 in
theorem areSegments_any (v : Value) (l : List Int) (sa : Option Addr) (n sc : Nat) (now : Int) (w : World) (h : SlR tInt w v l) (hl : l.length ≤ 1048576) (hn : n ≤ 1048576) :
  Calls Tryz.prog 240 #[v, .agg #[.slice sa n sc, .int .i64 now]] w (fun e w' => e = .returned (.bool (decide (TodoTo l n l.length))) ∧ Below w.heap.size w w') := by
 obtain ⟨a, cap, rfl⟩ := slR_len h
 have H := zh h
 clear h
 have d := zh (show Below w.heap.size w (w.alloc (.cells #[.slice sa n sc, .int .i64 now] 35)) from ((Below.refl _ w).alloc (Nat.le_refl _) _))
 have B0 : Hid ((w.alloc (.cells #[.slice sa n sc, .int .i64 now] 35)).heap[w.heap.size]? = some (.cells #[.slice sa n sc, .int .i64 now] 35 (0, 0))) := zh (by
  exact heap_alloc_new w _)
 have YW : Hid (w.heap.size + 1 ≤ (w.alloc (.cells #[.slice sa n sc, .int .i64 now] 35)).heap.size) := zh (by simp [World.size_alloc])
 go_enter Tryz.func240, Tryz.ntmps240
 go_wp2
 generalize (w.alloc (.cells #[.slice sa n sc, .int .i64 now] 35)) = W at *
 go_loopw [9] (fun i wr => ∃ k : Nat, k ≤ l.length ∧ i = .int .i64 k ∧ Hid (TodoTo l n k) ∧ Below W.heap.size W wr) (fun i _ => l.length - (intOf i).toNat)
 case atStart => exact ⟨0, Nat.zero_le _, rfl, zh (todoTo_zero _ _), Below.refl _ _⟩
 case round =>
  obtain ⟨k, hk, rfl, hno, c⟩ := hrel
  have cw := zh c
  replace B0 := zb c B0
  replace d := zD d c
  clear c
  by_cases hlt : k < l.length
  ·
   have i1 : (0 : Int) ≤ (k : Int) := by omega
   have i2 : (k : Int) < (l.length : Int) := by omega
   obtain ⟨b, off, cap', hv, hbl, hc⟩ := ints_cell (slR_ints (slR_below tInt_law H.out d.out)) (by omega)
   simp only [Value.slice.injEq] at hv
   obtain ⟨rfl, _, rfl⟩ := hv
   have e0 := hc k hlt
   have HS : Hid ((0 ≤ l.getD k 0 ∧ l.getD k 0 < n) → (0 < k → l.getD (k - 1) 0 < l.getD k 0) → TodoTo l n (k + 1)) := zh (fun g1 g2 => todoTo_step hno.out g1.1 g1.2 g2)
   have HN : Hid (¬ ((0 ≤ l.getD k 0 ∧ l.getD k 0 < n) ∧ (0 < k → l.getD (k - 1) 0 < l.getD k 0)) → decide (TodoTo l n l.length) = false) := zh (fun g => decide_eq_false (todo_no hlt g))
   clear hno
   by_cases hz : k = 0
   ·
    have f1 : decide ((0 : Int) < (k : Int)) = false := decide_eq_false (by omega)
    have f1n : decide (0 < k) = false := decide_eq_false (by omega)
    have HK := zh hz
    clear hz hc
    generalize l.getD k 0 = y at *
    have cp_B0_0 := cls2 B0.out
    go_wp2_with fail
    clear cp_B0_0
    refine (hasSegment_any sa n sc now y wr hn).mono ?_
    rintro e w2 ⟨rfl, c⟩
    have d2 := zh c
    replace B0 := zb c B0
    replace d := zD d c
    have Z_w2 := zh (show wr.heap.size ≤ w2.heap.size from c.size)
    clear c
    by_cases hin : 0 ≤ y ∧ y < (n : Int)
    rotate_left
    ·
     have HF := zh (HN.out (fun g => hin g.1))
     rw [decide_eq_false hin]
     clear hin HN HS
     have cp_B0_0 := cls2 B0.out
     go_wp2
     clear cp_B0_0
     go_ret
     exact ⟨ret_b HF.out.symm, d.out⟩
    rw [decide_eq_true hin]
    have HIN := zh hin
    clear hin
    have HT := zh (HS.out HIN.out (fun g => absurd g (by have := HK.out; omega)))
    clear HS HN
    have cp_B0_0 := cls2 B0.out
    go_wp2
    clear cp_B0_0
    go_roundw
    case rel => exact ⟨k + 1, by omega, by go_num, HT, cw.out.trans (d2.out.mono cw.out.size)⟩
    case measure => simp [intOf]; omega
   ·
    have HK : Hid (0 < k) := zh (by omega)
    have f1 : decide ((0 : Int) < (k : Int)) = true := decide_eq_true (by omega)
    have f1n : decide (0 < k) = true := decide_eq_true (by omega)
    have i3 : (0 : Int) ≤ (k : Int) - 1 := by omega
    have i4 : (k : Int) - 1 < (l.length : Int) := by omega
    have i5 : ((k : Int) - 1).toNat = k - 1 := by omega
    have i6 : IntKind.i64.wrap ((k : Int) - 1) = (k : Int) - 1 := IntWalk.i64_in _ (by omega)
    have g0 := hc (k - 1) (by omega)
    clear hz hc
    generalize l.getD (k - 1) 0 = z at *
    generalize l.getD k 0 = y at *
    have cp_B0_0 := cls2 B0.out
    go_wp2_with fail
    clear cp_B0_0
    refine (hasSegment_any sa n sc now y wr hn).mono ?_
    rintro e w2 ⟨rfl, c⟩
    have d2 := zh c
    replace B0 := zb c B0
    replace d := zD d c
    have Z_w2 := zh (show wr.heap.size ≤ w2.heap.size from c.size)
    clear c
    by_cases hin : 0 ≤ y ∧ y < (n : Int)
    rotate_left
    ·
     have HF := zh (HN.out (fun g => hin g.1))
     rw [decide_eq_false hin]
     clear hin HN HS
     have cp_B0_0 := cls2 B0.out
     go_wp2
     clear cp_B0_0
     go_ret
     exact ⟨ret_b HF.out.symm, d.out⟩
    rw [decide_eq_true hin]
    have HIN := zh hin
    clear hin
    have g1 := (d2.out.cell (p := ⟨b, off + (k - 1), none⟩) (show b < wr.heap.size from hbl)).trans g0
    clear g0
    by_cases hle : z < y
    rotate_left
    ·
     have HF := zh (HN.out (fun g => hle (g.2 HK.out)))
     have f2 : decide (y ≤ z) = true := decide_eq_true (by omega)
     clear hle HN HS
     have cp_B0_0 := cls2 B0.out
     go_wp2
     clear cp_B0_0
     go_ret
     exact ⟨ret_b HF.out.symm, d.out⟩
    have HT := zh (HS.out HIN.out (fun _ => hle))
    have f2 : decide (y ≤ z) = false := decide_eq_false (by omega)
    clear hle HS HN
    have cp_B0_0 := cls2 B0.out
    go_wp2
    clear cp_B0_0
    go_roundw
    case rel => exact ⟨k + 1, by omega, by go_num, HT, cw.out.trans (d2.out.mono cw.out.size)⟩
    case measure => simp [intOf]; omega
  ·
   obtain rfl : k = l.length := by omega
   have HT : Hid (decide (TodoTo l n l.length) = true) := zh (decide_eq_true hno.out)
   clear hno
   have cp_B0_0 := cls2 B0.out
   go_wp2
   clear cp_B0_0
   go_ret
   exact ⟨ret_b HT.out.symm, d.out⟩
end Go.Proofs.YtnepfacnmaoieaaGreatDoor
