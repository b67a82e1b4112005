/-
 Texts of the proof, merged: Rec, RecLim, RecEq, RowIsP, CopyP.
-/
import Derived.Test.YtededfficggkaaaDoorI2
import Derived.Test.YtededfficggkaaaDoorI4
import Derived.Test.YtededfficggkaaaDoorI5
import Derived.Laws.CopyOwn
import Derived.Lib.MinMax
import Derived.Laws.StructEq
namespace Go.Proofs.YtededfficggkaaaDoor
open Go.RowKit
set_option linter.unusedVariables false
set_option linter.unusedSimpArgs false
/-- The record of a row. -/
def recV (id : Int) (xs : List Int) : Value := .agg #[.int .i64 id, .int .i64 xs.length, .int .i64 (xs.getD 0 0), .int .i64 (xs.getD 1 0), .int .i64 (xs.getD 2 0)]
theorem info_size {P : Program} {e : TypeId} {z : Option Value} {n b : Nat} (h : (P.info? e).map (fun i => (i.zero, i.size, i.bytes)) = some (z, n, b)) : (P.info? e).map (·.size) = some n := by
 cases hq : P.info? e with
 | none => rw [hq] at h; simp at h
 | some i => rw [hq] at h; simp at h; simp [h.2.1]
theorem copy_src {w : World} {a : Option Addr} {cap g : Nat} {xs : List Int} (h : Ints w (.slice a xs.length cap) xs) : 0 < ((xs.take 3).map (Value.int .i64)).length → (some ⟨g, 2, none⟩ : Option Addr) = some ⟨g, 2, none⟩ ∧ ∃ ad, a = some ad ∧ ∀ j v, ((xs.take 3).map (Value.int .i64))[j]? = some v → w.cell? (ad.add j) = some v := by
 intro h0
 refine ⟨rfl, ?_⟩
 rcases h with ⟨rfl, _⟩ | ⟨b, off, cap', e, _, _, hc⟩
 ·
  simp at h0
 ·
  simp only [Value.slice.injEq] at e
  obtain ⟨rfl, _, _⟩ := e
  refine ⟨_, rfl, fun j v hj => ?_⟩
  rw [Go.WideShapes.add_plain]
  rw [List.getElem?_map, List.getElem?_take] at hj
  by_cases hlt : j < 3
  ·
   rw [if_pos hlt] at hj
   by_cases hl : j < xs.length
   ·
    rw [hc j hl]
    rw [List.getElem?_eq_getElem hl] at hj
    simpa [List.getD, hl] using hj
   ·
    rw [List.getElem?_eq_none (by omega)] at hj
    simp at hj
  ·
   rw [if_neg hlt] at hj
   simp at hj
theorem splice_rec (a b : Value) (xs : List Int) : splice [a, b, .int .i64 0, .int .i64 0, .int .i64 0] 2 ((xs.take 3).map (Value.int .i64)) = [a, b, .int .i64 (xs.getD 0 0), .int .i64 (xs.getD 1 0), .int .i64 (xs.getD 2 0)] := by
 match xs with
 | [] => rfl
 | [x] => rfl
 | [x, y] => rfl
 | x :: y :: z :: r => rfl
set_option maxHeartbeats 4000000 in
set_option maxRecDepth 100000 in
theorem recordOf_any (id : Int) (vv : Value) (xs : List Int) (w : World) (h : Ints w vv xs) (hn : xs.length ≤ 1048576) :
  Calls Tryd.prog 121 #[.agg #[.int .i64 id, vv]] w fun e w' => e = .returned (recV id xs) ∧ Below w.heap.size w w' := by
 have H := Lib.hid h
 have HN := Lib.hid hn
 obtain ⟨va, vcap, rfl⟩ := ints_len h
 clear h hn
 go_enter Tryd.func121, Tryd.ntmps121
 go_wp2
 have hh : Below w.heap.size w (((w.alloc (.cells #[.int .i64 id, .slice va xs.length vcap] 51)).alloc (.cells #[.int .i64 0, .int .i64 0, .int .i64 0, .int .i64 0, .int .i64 0] 166)).alloc (.cells #[.int .i64 id, .int .i64 xs.length, .int .i64 0, .int .i64 0, .int .i64 0] 166)) := (((Below.refl _ w).alloc (Nat.le_refl _) _).alloc (by simp) _).alloc (by simp; omega) _
 have g2 : (((w.alloc (.cells #[.int .i64 id, .slice va xs.length vcap] 51)).alloc (.cells #[.int .i64 0, .int .i64 0, .int .i64 0, .int .i64 0, .int .i64 0] 166)).alloc (.cells #[.int .i64 id, .int .i64 xs.length, .int .i64 0, .int .i64 0, .int .i64 0] 166)).heap[w.heap.size + 2]? = some (.cells #[.int .i64 id, .int .i64 xs.length, .int .i64 0, .int .i64 0, .int .i64 0] 166 (0, 0)) := by
  have := heap_alloc_new ((w.alloc (.cells #[.int .i64 id, .slice va xs.length vcap] 51)).alloc (.cells #[.int .i64 0, .int .i64 0, .int .i64 0, .int .i64 0, .int .i64 0] 166)) (.cells #[.int .i64 id, .int .i64 xs.length, .int .i64 0, .int .i64 0, .int .i64 0] 166)
  simpa only [World.size_alloc] using this
 have g1 : (((w.alloc (.cells #[.int .i64 id, .slice va xs.length vcap] 51)).alloc (.cells #[.int .i64 0, .int .i64 0, .int .i64 0, .int .i64 0, .int .i64 0] 166)).alloc (.cells #[.int .i64 id, .int .i64 xs.length, .int .i64 0, .int .i64 0, .int .i64 0] 166)).heap[w.heap.size + 1]? = some (.cells #[.int .i64 0, .int .i64 0, .int .i64 0, .int .i64 0, .int .i64 0] 166 (0, 0)) := by
  rw [Below.heap_alloc _ _ _ (by simp)]
  have := heap_alloc_new (w.alloc (.cells #[.int .i64 id, .slice va xs.length vcap] 51)) (.cells #[.int .i64 0, .int .i64 0, .int .i64 0, .int .i64 0, .int .i64 0] 166)
  simpa only [World.size_alloc] using this
 have g0 : (((w.alloc (.cells #[.int .i64 id, .slice va xs.length vcap] 51)).alloc (.cells #[.int .i64 0, .int .i64 0, .int .i64 0, .int .i64 0, .int .i64 0] 166)).alloc (.cells #[.int .i64 id, .int .i64 xs.length, .int .i64 0, .int .i64 0, .int .i64 0] 166)).heap[w.heap.size]? = some (.cells #[.int .i64 id, .slice va xs.length vcap] 51 (0, 0)) := by
  rw [Below.heap_alloc _ _ _ (by simp; omega), Below.heap_alloc _ _ _ (by simp)]
  exact heap_alloc_new w _
 have hs : (((w.alloc (.cells #[.int .i64 id, .slice va xs.length vcap] 51)).alloc (.cells #[.int .i64 0, .int .i64 0, .int .i64 0, .int .i64 0, .int .i64 0] 166)).alloc (.cells #[.int .i64 id, .int .i64 xs.length, .int .i64 0, .int .i64 0, .int .i64 0] 166)).heap.size = w.heap.size + 3 := by simp [World.size_alloc]
 generalize (((w.alloc (.cells #[.int .i64 id, .slice va xs.length vcap] 51)).alloc (.cells #[.int .i64 0, .int .i64 0, .int .i64 0, .int .i64 0, .int .i64 0] 166)).alloc (.cells #[.int .i64 id, .int .i64 xs.length, .int .i64 0, .int .i64 0, .int .i64 0] 166)) = W at *
 have b0 := cell_of_row W _ 1 _ _ _ g0
 simp at b0
 have I2 := ints_below H.out hh
 refine wp_region_held_drew (S := fun w' => w'.cell? ⟨w.heap.size, 1, none⟩ = some (.slice va xs.length vcap)) (by kernel_rfl) b0 (fun hHeld => ?_)
 refine tR (i := 0) (v := ?_) ?_ ?_; rotate_left
 ·
  intro w hSw; (try dsimp only at hSw); go_simp; try (with_reducible rfl)
 try simp only [Act.put, lA, lB, lC]
 refine tR (i := 1) (v := ?_) ?_ ?_; rotate_left
 ·
  intro w hSw; (try dsimp only at hSw); go_simp; try (with_reducible rfl)
 try simp only [Act.put, lA, lB, lC]
 refine tR (i := 2) (v := ?_) ?_ ?_; rotate_left
 ·
  intro w hSw; (try dsimp only at hSw); go_simp; try (with_reducible rfl)
 try simp only [Act.put, lA, lB, lC]
 refine tR (i := 3) (v := ?_) ?_ ?_; rotate_left
 ·
  intro w hSw; (try dsimp only at hSw); go_simp; try (with_reducible rfl)
 try simp only [Act.put, lA, lB, lC]
 refine wpAnyH_ready (rs := [4]) (by kernel_rfl) (by simp) ?_
 refine AllReadyH.cons (o := _) (by simp only [hA, hB, hC]; rfl) (fun K hK => ?_) AllReadyH.nil
 refine step_copy_splice rfl (.tmp 11) (.tmp 13) 24 24 rfl 3 Tryd.underlying24 (info_size Tryd.infoI64) _ _ _ _ _ _ rfl rfl (w.heap.size + 2) 2 [.int .i64 id, .int .i64 xs.length, .int .i64 0, .int .i64 0, .int .i64 0] _ g2 ((xs.take 3).map (Value.int .i64)) (by simp [Nat.min_comm]) (copy_src I2) (by simp; omega) (fun u hu => by obtain ⟨y, _, rfl⟩ := List.mem_map.1 hu; rfl) (w.heap.size + 2) W (below_drew (Below.refl _ W)) (Nat.le_refl _) ?_
 intro W2 G2 bA
 rw [splice_rec] at G2
 have k0 := (bA.block w.heap.size (by omega)).trans g0
 have b1 := cell_of_row W2 _ 1 _ _ _ k0
 simp at b1
 refine hK.out _ _ b1 (fun hHeld2 => ?_)
 clear hK K hHeld
 try simp only [Act.put, lA, lB, lC]
 refine wpAnyH_done (by kernel_rfl) ?_ _
 have k1 := (bA.block (w.heap.size + 1) (by omega)).trans g1
 have k2 := G2.out
 have hbb := hh.trans (bA.mono (by omega))
 clear G2 bA g0 g1 g2 I2 hHeld2 b0 b1 k0 hh hs
 obtain ⟨n, hn2⟩ : ∃ n : Nat, n = xs.length := ⟨_, rfl⟩
 have c0 := cell_of_row W2 _ 0 _ _ _ k2
 have d0 := cell_of_row W2 _ 0 _ _ _ k1
 have f0 := frozen_of_row W2 _ 0 _ _ k1
 have c1 := cell_of_row W2 _ 1 _ _ _ k2
 have d1 := cell_of_row W2 _ 1 _ _ _ k1
 have f1 := frozen_of_row W2 _ 1 _ _ k1
 have c2 := cell_of_row W2 _ 2 _ _ _ k2
 have d2 := cell_of_row W2 _ 2 _ _ _ k1
 have f2 := frozen_of_row W2 _ 2 _ _ k1
 have c3 := cell_of_row W2 _ 3 _ _ _ k2
 have d3 := cell_of_row W2 _ 3 _ _ _ k1
 have f3 := frozen_of_row W2 _ 3 _ _ k1
 have c4 := cell_of_row W2 _ 4 _ _ _ k2
 have d4 := cell_of_row W2 _ 4 _ _ _ k1
 have f4 := frozen_of_row W2 _ 4 _ _ k1
 simp at c0 c1 c2 c3 c4 d0 d1 d2 d3 d4
 clear k2 hn2
 generalize hx0 : xs[0]?.getD 0 = x0 at c2
 generalize hx1 : xs[1]?.getD 0 = x1 at c3
 generalize hx2 : xs[2]?.getD 0 = x2 at c4
 have HX := Lib.hid (And.intro hx0 (And.intro hx1 hx2))
 clear hx0 hx1 hx2
 go_wp2
 have r0 := heap_setCell_same W2 (w.heap.size + 1) 0 _ _ (.int .i64 id) k1
 have r1 := heap_setCell_same _ (w.heap.size + 1) 1 _ _ (.int .i64 xs.length) r0
 have r2 := heap_setCell_same _ (w.heap.size + 1) 2 _ _ (.int .i64 x0) r1
 have r3 := heap_setCell_same _ (w.heap.size + 1) 3 _ _ (.int .i64 x1) r2
 have r4 := heap_setCell_same _ (w.heap.size + 1) 4 _ _ (.int .i64 x2) r3
 have B4 := (((((hbb.setCell (p := ⟨w.heap.size + 1, 0, none⟩) (by simp) (.int .i64 id)).setCell (p := ⟨w.heap.size + 1, 1, none⟩) (by simp) (.int .i64 xs.length)).setCell (p := ⟨w.heap.size + 1, 2, none⟩) (by simp) (.int .i64 x0)).setCell (p := ⟨w.heap.size + 1, 3, none⟩) (by simp) (.int .i64 x1)).setCell (p := ⟨w.heap.size + 1, 4, none⟩) (by simp) (.int .i64 x2))
 clear r0 r1 r2 r3 k1
 have e0 := cell_of_row _ _ 0 _ _ _ r4
 have e1 := cell_of_row _ _ 1 _ _ _ r4
 have e2 := cell_of_row _ _ 2 _ _ _ r4
 have e3 := cell_of_row _ _ 3 _ _ _ r4
 have e4 := cell_of_row _ _ 4 _ _ _ r4
 simp at e0 e1 e2 e3 e4
 clear r4
 refine bodyPost_ret (v := .agg #[.int .i64 id, .int .i64 xs.length, .int .i64 x0, .int .i64 x1, .int .i64 x2]) ?_ rfl ?_
 ·
  simp [results, Tryd.f121, go_sem, e0, e1, e2, e3, e4]
 ·
  obtain ⟨rfl, rfl, rfl⟩ := HX.out
  exact ⟨by simp [recV], B4⟩
/-- A value moved into the range. -/
def limI (x : Int) : Int := min (max x 0) 99
theorem idx0 (a b c : Int) (w : World) : Sem.run Tryd.prog (Instr.index 164 (.agg #[.int .i64 a, .int .i64 b, .int .i64 c]) (.int .i64 0)) w = .ok (.int .i64 a) w := by
 have u := Tryd.underlying164
 have z := Tryd.sizeOf3
 have g := Tryd.isAgg3
 unfold Instr.index
 go_simp
theorem idx1 (a b c : Int) (w : World) : Sem.run Tryd.prog (Instr.index 164 (.agg #[.int .i64 a, .int .i64 b, .int .i64 c]) (.int .i64 1)) w = .ok (.int .i64 b) w := by
 have u := Tryd.underlying164
 have z := Tryd.sizeOf3
 have g := Tryd.isAgg3
 unfold Instr.index
 go_simp
theorem idx2 (a b c : Int) (w : World) : Sem.run Tryd.prog (Instr.index 164 (.agg #[.int .i64 a, .int .i64 b, .int .i64 c]) (.int .i64 2)) w = .ok (.int .i64 c) w := by
 have u := Tryd.underlying164
 have z := Tryd.sizeOf3
 have g := Tryd.isAgg3
 unfold Instr.index
 go_simp
set_option maxHeartbeats 4000000 in
set_option maxRecDepth 100000 in
theorem limited_any (a b c : Int) (w : World) :
  Calls Tryd.prog 142 #[.agg #[.int .i64 a, .int .i64 b, .int .i64 c]] w fun e w' => e = .returned (.agg #[.int .i64 (limI a), .int .i64 (limI b), .int .i64 (limI c)]) ∧ Below w.heap.size w w' := by
 have i0 := idx0 a b c
 have i1 := idx1 a b c
 have i2 := idx2 a b c
 go_enter Tryd.func142, Tryd.ntmps142
 go_wp2
 refine wp_loop_rounds 4 ?_
 rw [rounds_succ]
 go_wp2
 rw [rounds_succ]
 go_wp2
 rw [rounds_succ]
 go_wp2
 rw [rounds_succ]
 go_wp2
 refine bodyPost_ret (v := .agg #[.int .i64 (limI a), .int .i64 (limI b), .int .i64 (limI c)]) ?_ rfl ?_
 ·
  simp [results, Tryd.f142, go_sem, limI]
 refine ⟨rfl, ?_⟩
 exact ((Below.refl _ w).alloc (Nat.le_refl _) _).alloc (by simp) _
theorem eqIn_arr (d : Nat) (a b c x y z : Int) (w : World) : (Op.equalIn (d + 2) 164 (.agg #[.int .i64 a, .int .i64 b, .int .i64 c]) (.agg #[.int .i64 x, .int .i64 y, .int .i64 z])).run Tryd.prog w = .ok (a == x && b == y && c == z) w := by
 have u := Tryd.underlying164
 have u3 := Tryd.underlying3
 have z3 := Tryd.sizeOf3
 have g := Tryd.isAgg3
 rw [Op.equalIn]
 simp only [Sem.run_bind, run_underlying u, Result.andThen_ok, z3]
 simp only [Std.Legacy.Range.forIn_eq_forIn_range', Std.Legacy.Range.size]
 simp [List.range', g, z3, go_sem, run_equalIn_int (P := Tryd.prog) _ d _ _ _ _ _ u3]
 by_cases h1 : a = x <;> by_cases h2 : b = y <;> by_cases h3 : c = z <;> simp [h1, h2, h3]
theorem eql_arr (a b c x y z : Int) (w : World) : Sem.run Tryd.prog (binOp .eql 164 (.agg #[.int .i64 a, .int .i64 b, .int .i64 c]) (.agg #[.int .i64 x, .int .i64 y, .int .i64 z])) w = .ok (.bool (a == x && b == y && c == z)) w := by
 rw [run_eql_struct, show (10000 : Nat) = 9998 + 2 from rfl, eqIn_arr]
 rfl
theorem guard_arr (o1 o2 : Operand) (xs ys : Array Value) (w : World) : Sem.run Tryd.prog (eqGuard .eql 164 o1 o2 (.agg xs) (.agg ys)) w = .ok () w := run_eqGuard_agg w _ _ _ _ _ _ (by kernel_rfl)
theorem isRowId_yes (id : Int) (w : World) (h1 : 0 ≤ id) (h2 : id ≤ 999) : Calls Tryd.prog 141 #[.int .i64 id] w fun e w' => e = .returned (.bool true) ∧ w' = w := by
 go_enter Tryd.func141, Tryd.ntmps141
 go_wp2
 go_ret
 exact ⟨rfl, rfl⟩
theorem isRowId_no (id : Int) (w : World) (h : ¬ (0 ≤ id ∧ id ≤ 999)) : Calls Tryd.prog 141 #[.int .i64 id] w fun e w' => e = .returned (.bool false) ∧ w' = w := by
 by_cases h1 : 0 ≤ id
 ·
  have h2 : ¬ id ≤ 999 := fun g => h ⟨h1, g⟩
  clear h
  go_enter Tryd.func141, Tryd.ntmps141
  go_wp2
  go_ret
  exact ⟨rfl, rfl⟩
 ·
  clear h
  go_enter Tryd.func141, Tryd.ntmps141
  go_wp2
  go_ret
  exact ⟨rfl, rfl⟩
/-- Is a record valid? -/
def recB (id n a b c : Int) : Bool := decide (0 ≤ id ∧ id ≤ 999) && (decide (n = 3) && (a == limI a && b == limI b && c == limI c))
theorem lim_in (x : Int) : (x == limI x) = decide (0 ≤ x ∧ x ≤ 99) := by
 unfold limI
 by_cases h : 0 ≤ x ∧ x ≤ 99
 ·
  rw [decide_eq_true h, beq_iff_eq]; omega
 ·
  rw [decide_eq_false h, beq_eq_false_iff_ne]; omega
theorem recB_row (id : Int) (xs : List Int) : recB id xs.length (xs.getD 0 0) (xs.getD 1 0) (xs.getD 2 0) = rowB (id, xs) := by
 unfold recB rowB
 simp only [lim_in]
 match xs with
 | [] => simp
 | [x] => simp
 | [x, y] => simp
 | [x, y, z] => simp [List.all, Bool.and_assoc]
 | x :: y :: z :: u :: r =>
  have : ¬ ((r.length : Int) + 1 + 1 + 1 + 1 = 3) := by omega
  simp [this]
theorem below_from {W w8 w9 : World} (h : w8 = W.drew) (b : Below w8.heap.size w8 w9) : Below W.heap.size W w9 := by subst h; exact ⟨b.os, b.tape, b.output, b.size, b.block⟩
set_option maxHeartbeats 8000000 in
set_option maxRecDepth 100000 in
theorem isValid_id (id n a b c : Int) (w : World) (h : ¬ (0 ≤ id ∧ id ≤ 999)) :
  Calls Tryd.prog 122 #[.agg #[.int .i64 id, .int .i64 n, .int .i64 a, .int .i64 b, .int .i64 c]] w fun e w' => e = .returned (.bool (false)) ∧ Below w.heap.size w w' := by
 have HI := Lib.hid (fun w => isRowId_no id w h)
 clear h
 go_enter Tryd.func122, Tryd.ntmps122
 go_wp2
 have hh : Below w.heap.size w (w.alloc (.cells #[.int .i64 id, .int .i64 n, .int .i64 a, .int .i64 b, .int .i64 c] 166)) := (Below.refl _ w).alloc (Nat.le_refl _) _
 have g0 := heap_alloc_new w (.cells #[.int .i64 id, .int .i64 n, .int .i64 a, .int .i64 b, .int .i64 c] 166)
 have hlt : w.heap.size < (w.alloc (.cells #[.int .i64 id, .int .i64 n, .int .i64 a, .int .i64 b, .int .i64 c] 166)).heap.size := by simp
 generalize w.alloc (.cells #[.int .i64 id, .int .i64 n, .int .i64 a, .int .i64 b, .int .i64 c] 166) = W at *
 have q0 := cell_of_row W _ 0 _ _ _ g0
 have q1 := cell_of_row W _ 1 _ _ _ g0
 have q2 := cell_of_row W _ 2 _ _ _ g0
 have q3 := cell_of_row W _ 3 _ _ _ g0
 have q4 := cell_of_row W _ 4 _ _ _ g0
 simp at q0 q1 q2 q3 q4
 refine wp_region_held_drew (S := fun w' => w'.cell? ⟨w.heap.size, 0, none⟩ = some (.int .i64 id) ∧ w'.cell? ⟨w.heap.size, 1, none⟩ = some (.int .i64 n) ∧ w'.cell? ⟨w.heap.size, 2, none⟩ = some (.int .i64 a) ∧ w'.cell? ⟨w.heap.size, 3, none⟩ = some (.int .i64 b) ∧ w'.cell? ⟨w.heap.size, 4, none⟩ = some (.int .i64 c)) (by kernel_rfl) ⟨q0, q1, q2, q3, q4⟩ (fun hHeld => ?_)
 refine tR (i := 0) (v := ?_) ?_ ?_; rotate_left
 ·
  intro w hSw; (try dsimp only at hSw); go_simp; try (with_reducible rfl)
 try simp only [Act.put, lA, lB, lC]
 refine tR (i := 1) (v := ?_) ?_ ?_; rotate_left
 ·
  intro w hSw; (try dsimp only at hSw); go_simp; try (with_reducible rfl)
 try simp only [Act.put, lA, lB, lC]
 refine wpAnyH_ready (rs := [2]) (by kernel_rfl) (by simp) ?_
 refine AllReadyH.cons (o := _) (by simp only [hA, hB, hC]; rfl) (fun K hK => ?_) AllReadyH.nil
 go_simp
 refine (HI.out _).mono ?_
 rintro e w8 ⟨rfl, rfl⟩
 refine hK.out _ _ ⟨q0, q1, q2, q3, q4⟩ (fun hHeld => ?_)
 clear hK K
 try simp only [Act.put, lA, lB, lC]
 refine tR (i := 3) (v := ?_) ?_ ?_; rotate_left
 ·
  intro w hSw; (try dsimp only at hSw); go_simp; try (with_reducible rfl)
 try simp only [Act.put, lA, lB, lC]
 refine tO (i := 4) ?_
 try simp only [Act.put, lA, lB, lC]
 refine tO (i := 5) ?_
 try simp only [Act.put, lA, lB, lC]
 refine tO (i := 6) ?_
 try simp only [Act.put, lA, lB, lC]
 refine tR (i := 7) (v := ?_) ?_ ?_; rotate_left
 ·
  intro w hSw; (try dsimp only at hSw); go_simp; try (with_reducible rfl)
 try simp only [Act.put, lA, lB, lC]
 refine tR (i := 8) (v := ?_) ?_ ?_; rotate_left
 ·
  intro w hSw; (try dsimp only at hSw); go_simp; try (with_reducible rfl)
 try simp only [Act.put, lA, lB, lC]
 refine tO (i := 9) ?_
 try simp only [Act.put, lA, lB, lC]
 refine tO (i := 10) ?_
 try simp only [Act.put, lA, lB, lC]
 refine tO (i := 11) ?_
 try simp only [Act.put, lA, lB, lC]
 refine tO (i := 12) ?_
 try simp only [Act.put, lA, lB, lC]
 refine tO (i := 13) ?_
 try simp only [Act.put, lA, lB, lC]
 refine tO (i := 14) ?_
 try simp only [Act.put, lA, lB, lC]
 refine tR (i := 15) (v := ?_) ?_ ?_; rotate_left
 ·
  intro w hSw; (try dsimp only at hSw); go_simp; try (with_reducible rfl)
 try simp only [Act.put, lA, lB, lC]
 refine tR (i := 16) (v := ?_) ?_ ?_; rotate_left
 ·
  intro w hSw; (try dsimp only at hSw); go_simp; try (with_reducible rfl)
 try simp only [Act.put, lA, lB, lC]
 refine wpAnyH_done (by kernel_rfl) ?_ _
 have b11 : Below w.heap.size w W.drew := below_drew hh
 clear hHeld
 go_wp2
 go_ret
 exact ⟨rfl, b11⟩
set_option maxHeartbeats 8000000 in
set_option maxRecDepth 100000 in
theorem isValid_count (id n a b c : Int) (w : World) (h1 : 0 ≤ id) (h2 : id ≤ 999) (h3 : ¬ n = 3) :
  Calls Tryd.prog 122 #[.agg #[.int .i64 id, .int .i64 n, .int .i64 a, .int .i64 b, .int .i64 c]] w fun e w' => e = .returned (.bool (false)) ∧ Below w.heap.size w w' := by
 have HI := Lib.hid (fun w => isRowId_yes id w h1 h2)
 clear h1 h2
 have hd : (n == 3) = false := by simpa using h3
 clear h3
 go_enter Tryd.func122, Tryd.ntmps122
 go_wp2
 have hh : Below w.heap.size w (w.alloc (.cells #[.int .i64 id, .int .i64 n, .int .i64 a, .int .i64 b, .int .i64 c] 166)) := (Below.refl _ w).alloc (Nat.le_refl _) _
 have g0 := heap_alloc_new w (.cells #[.int .i64 id, .int .i64 n, .int .i64 a, .int .i64 b, .int .i64 c] 166)
 have hlt : w.heap.size < (w.alloc (.cells #[.int .i64 id, .int .i64 n, .int .i64 a, .int .i64 b, .int .i64 c] 166)).heap.size := by simp
 generalize w.alloc (.cells #[.int .i64 id, .int .i64 n, .int .i64 a, .int .i64 b, .int .i64 c] 166) = W at *
 have q0 := cell_of_row W _ 0 _ _ _ g0
 have q1 := cell_of_row W _ 1 _ _ _ g0
 have q2 := cell_of_row W _ 2 _ _ _ g0
 have q3 := cell_of_row W _ 3 _ _ _ g0
 have q4 := cell_of_row W _ 4 _ _ _ g0
 simp at q0 q1 q2 q3 q4
 refine wp_region_held_drew (S := fun w' => w'.cell? ⟨w.heap.size, 0, none⟩ = some (.int .i64 id) ∧ w'.cell? ⟨w.heap.size, 1, none⟩ = some (.int .i64 n) ∧ w'.cell? ⟨w.heap.size, 2, none⟩ = some (.int .i64 a) ∧ w'.cell? ⟨w.heap.size, 3, none⟩ = some (.int .i64 b) ∧ w'.cell? ⟨w.heap.size, 4, none⟩ = some (.int .i64 c)) (by kernel_rfl) ⟨q0, q1, q2, q3, q4⟩ (fun hHeld => ?_)
 refine tR (i := 0) (v := ?_) ?_ ?_; rotate_left
 ·
  intro w hSw; (try dsimp only at hSw); go_simp; try (with_reducible rfl)
 try simp only [Act.put, lA, lB, lC]
 refine tR (i := 1) (v := ?_) ?_ ?_; rotate_left
 ·
  intro w hSw; (try dsimp only at hSw); go_simp; try (with_reducible rfl)
 try simp only [Act.put, lA, lB, lC]
 refine wpAnyH_ready (rs := [2]) (by kernel_rfl) (by simp) ?_
 refine AllReadyH.cons (o := _) (by simp only [hA, hB, hC]; rfl) (fun K hK => ?_) AllReadyH.nil
 go_simp
 refine (HI.out _).mono ?_
 rintro e w8 ⟨rfl, rfl⟩
 refine hK.out _ _ ⟨q0, q1, q2, q3, q4⟩ (fun hHeld => ?_)
 clear hK K
 try simp only [Act.put, lA, lB, lC]
 refine tR (i := 3) (v := ?_) ?_ ?_; rotate_left
 ·
  intro w hSw; (try dsimp only at hSw); go_simp; try (with_reducible rfl)
 try simp only [Act.put, lA, lB, lC]
 refine tR (i := 4) (v := ?_) ?_ ?_; rotate_left
 ·
  intro w hSw; (try dsimp only at hSw); go_simp; try (with_reducible rfl)
 try simp only [Act.put, lA, lB, lC]
 refine tR (i := 5) (v := ?_) ?_ ?_; rotate_left
 ·
  intro w hSw; (try dsimp only at hSw); go_simp; try (with_reducible rfl)
 try simp only [Act.put, lA, lB, lC]
 refine tR (i := 6) (v := ?_) ?_ ?_; rotate_left
 ·
  intro w hSw; (try dsimp only at hSw); go_simp; try (with_reducible rfl)
 try simp only [Act.put, lA, lB, lC]
 refine tR (i := 7) (v := ?_) ?_ ?_; rotate_left
 ·
  intro w hSw; (try dsimp only at hSw); go_simp; try (with_reducible rfl)
 try simp only [Act.put, lA, lB, lC]
 refine tR (i := 8) (v := ?_) ?_ ?_; rotate_left
 ·
  intro w hSw; (try dsimp only at hSw); go_simp; try (with_reducible rfl)
 try simp only [Act.put, lA, lB, lC]
 refine tO (i := 9) ?_
 try simp only [Act.put, lA, lB, lC]
 refine tO (i := 10) ?_
 try simp only [Act.put, lA, lB, lC]
 refine tO (i := 11) ?_
 try simp only [Act.put, lA, lB, lC]
 refine tO (i := 12) ?_
 try simp only [Act.put, lA, lB, lC]
 refine tO (i := 13) ?_
 try simp only [Act.put, lA, lB, lC]
 refine tO (i := 14) ?_
 try simp only [Act.put, lA, lB, lC]
 refine tR (i := 15) (v := ?_) ?_ ?_; rotate_left
 ·
  intro w hSw; (try dsimp only at hSw); go_simp; try (with_reducible rfl)
 try simp only [Act.put, lA, lB, lC]
 refine tR (i := 16) (v := ?_) ?_ ?_; rotate_left
 ·
  intro w hSw; (try dsimp only at hSw); go_simp; try (with_reducible rfl)
 try simp only [Act.put, lA, lB, lC]
 refine wpAnyH_done (by kernel_rfl) ?_ _
 have b11 : Below w.heap.size w W.drew := below_drew hh
 clear hHeld
 go_wp2
 go_ret
 exact ⟨rfl, b11⟩
set_option maxHeartbeats 8000000 in
set_option maxRecDepth 100000 in
theorem isValid_all (id n a b c : Int) (w : World) (h1 : 0 ≤ id) (h2 : id ≤ 999) (h3 : n = 3) :
  Calls Tryd.prog 122 #[.agg #[.int .i64 id, .int .i64 n, .int .i64 a, .int .i64 b, .int .i64 c]] w fun e w' => e = .returned (.bool (a == limI a && b == limI b && c == limI c)) ∧ Below w.heap.size w w' := by
 have HI := Lib.hid (fun w => isRowId_yes id w h1 h2)
 clear h1 h2
 have hd : (n == 3) = true := by simpa using h3
 clear h3
 have HL := Lib.hid (fun w => limited_any a b c w)
 have he := fun w => eql_arr a b c (limI a) (limI b) (limI c) w
 have hgd := fun (o1 o2 : Operand) (xs ys : Array Value) (w : World) => guard_arr o1 o2 xs ys w
 generalize hr : (a == limI a && b == limI b && c == limI c) = r at he ⊢
 clear hr
 go_enter Tryd.func122, Tryd.ntmps122
 go_wp2
 have hh : Below w.heap.size w (w.alloc (.cells #[.int .i64 id, .int .i64 n, .int .i64 a, .int .i64 b, .int .i64 c] 166)) := (Below.refl _ w).alloc (Nat.le_refl _) _
 have g0 := heap_alloc_new w (.cells #[.int .i64 id, .int .i64 n, .int .i64 a, .int .i64 b, .int .i64 c] 166)
 have hlt : w.heap.size < (w.alloc (.cells #[.int .i64 id, .int .i64 n, .int .i64 a, .int .i64 b, .int .i64 c] 166)).heap.size := by simp
 generalize w.alloc (.cells #[.int .i64 id, .int .i64 n, .int .i64 a, .int .i64 b, .int .i64 c] 166) = W at *
 have q0 := cell_of_row W _ 0 _ _ _ g0
 have q1 := cell_of_row W _ 1 _ _ _ g0
 have q2 := cell_of_row W _ 2 _ _ _ g0
 have q3 := cell_of_row W _ 3 _ _ _ g0
 have q4 := cell_of_row W _ 4 _ _ _ g0
 simp at q0 q1 q2 q3 q4
 refine wp_region_held_drew (S := fun w' => w'.cell? ⟨w.heap.size, 0, none⟩ = some (.int .i64 id) ∧ w'.cell? ⟨w.heap.size, 1, none⟩ = some (.int .i64 n) ∧ w'.cell? ⟨w.heap.size, 2, none⟩ = some (.int .i64 a) ∧ w'.cell? ⟨w.heap.size, 3, none⟩ = some (.int .i64 b) ∧ w'.cell? ⟨w.heap.size, 4, none⟩ = some (.int .i64 c)) (by kernel_rfl) ⟨q0, q1, q2, q3, q4⟩ (fun hHeld => ?_)
 refine tR (i := 0) (v := ?_) ?_ ?_; rotate_left
 ·
  intro w hSw; (try dsimp only at hSw); go_simp; try (with_reducible rfl)
 try simp only [Act.put, lA, lB, lC]
 refine tR (i := 1) (v := ?_) ?_ ?_; rotate_left
 ·
  intro w hSw; (try dsimp only at hSw); go_simp; try (with_reducible rfl)
 try simp only [Act.put, lA, lB, lC]
 refine wpAnyH_ready (rs := [2]) (by kernel_rfl) (by simp) ?_
 refine AllReadyH.cons (o := _) (by simp only [hA, hB, hC]; rfl) (fun K hK => ?_) AllReadyH.nil
 go_simp
 refine (HI.out _).mono ?_
 rintro e w8 ⟨rfl, rfl⟩
 refine hK.out _ _ ⟨q0, q1, q2, q3, q4⟩ (fun hHeld => ?_)
 clear hK K
 try simp only [Act.put, lA, lB, lC]
 refine tR (i := 3) (v := ?_) ?_ ?_; rotate_left
 ·
  intro w hSw; (try dsimp only at hSw); go_simp; try (with_reducible rfl)
 try simp only [Act.put, lA, lB, lC]
 refine tR (i := 4) (v := ?_) ?_ ?_; rotate_left
 ·
  intro w hSw; (try dsimp only at hSw); go_simp; try (with_reducible rfl)
 try simp only [Act.put, lA, lB, lC]
 refine tR (i := 5) (v := ?_) ?_ ?_; rotate_left
 ·
  intro w hSw; (try dsimp only at hSw); go_simp; try (with_reducible rfl)
 try simp only [Act.put, lA, lB, lC]
 refine tR (i := 6) (v := ?_) ?_ ?_; rotate_left
 ·
  intro w hSw; (try dsimp only at hSw); go_simp; try (with_reducible rfl)
 try simp only [Act.put, lA, lB, lC]
 refine tR (i := 7) (v := ?_) ?_ ?_; rotate_left
 ·
  intro w hSw; (try dsimp only at hSw); go_simp; try (with_reducible rfl)
 try simp only [Act.put, lA, lB, lC]
 refine tR (i := 8) (v := ?_) ?_ ?_; rotate_left
 ·
  intro w hSw; (try dsimp only at hSw); go_simp; try (with_reducible rfl)
 try simp only [Act.put, lA, lB, lC]
 refine tR (i := 9) (v := ?_) ?_ ?_; rotate_left
 ·
  intro w hSw; (try dsimp only at hSw); go_simp; try (with_reducible rfl)
 try simp only [Act.put, lA, lB, lC]
 refine tR (i := 10) (v := ?_) ?_ ?_; rotate_left
 ·
  intro w hSw; (try dsimp only at hSw); go_simp; try (with_reducible rfl)
 try simp only [Act.put, lA, lB, lC]
 refine tR (i := 11) (v := ?_) ?_ ?_; rotate_left
 ·
  intro w hSw; (try dsimp only at hSw); go_simp; try (with_reducible rfl)
 try simp only [Act.put, lA, lB, lC]
 refine tR (i := 12) (v := ?_) ?_ ?_; rotate_left
 ·
  intro w hSw; (try dsimp only at hSw); go_simp; try (with_reducible rfl)
 try simp only [Act.put, lA, lB, lC]
 refine wpAnyH_ready (rs := [13]) (by kernel_rfl) (by simp) ?_
 refine AllReadyH.cons (o := _) (by simp only [hA, hB, hC]; rfl) (fun K hK => ?_) AllReadyH.nil
 go_simp
 refine (HL.out _).mono ?_
 rintro e w9 ⟨rfl, b9⟩
 have b10 : Below W.heap.size W w9 := below_from rfl b9
 have g2 := (b10.block w.heap.size hlt).trans g0
 have r0 := cell_of_row w9 _ 0 _ _ _ g2
 have r1 := cell_of_row w9 _ 1 _ _ _ g2
 have r2 := cell_of_row w9 _ 2 _ _ _ g2
 have r3 := cell_of_row w9 _ 3 _ _ _ g2
 have r4 := cell_of_row w9 _ 4 _ _ _ g2
 simp at r0 r1 r2 r3 r4
 refine hK.out _ _ ⟨r0, r1, r2, r3, r4⟩ (fun hHeld => ?_)
 clear hK K
 try simp only [Act.put, lA, lB, lC]
 refine tR (i := 14) (v := ?_) ?_ ?_; rotate_left
 ·
  intro w hSw; (try dsimp only at hSw); go_simp; try (with_reducible rfl)
 try simp only [Act.put, lA, lB, lC]
 refine tR (i := 15) (v := ?_) ?_ ?_; rotate_left
 ·
  intro w hSw; (try dsimp only at hSw); go_simp; try (with_reducible rfl)
 try simp only [Act.put, lA, lB, lC]
 refine tR (i := 16) (v := ?_) ?_ ?_; rotate_left
 ·
  intro w hSw; (try dsimp only at hSw); go_simp; try (with_reducible rfl)
 try simp only [Act.put, lA, lB, lC]
 refine wpAnyH_done (by kernel_rfl) ?_ _
 have b11 := hh.trans (b10.mono hh.size)
 clear hHeld b9 b10
 go_wp2
 go_ret
 exact ⟨rfl, b11⟩
theorem isValid_any (id n a b c : Int) (w : World) :
  Calls Tryd.prog 122 #[.agg #[.int .i64 id, .int .i64 n, .int .i64 a, .int .i64 b, .int .i64 c]] w fun e w' => e = .returned (.bool (recB id n a b c)) ∧ Below w.heap.size w w' := by
 by_cases h : 0 ≤ id ∧ id ≤ 999
 ·
  by_cases h3 : n = 3
  ·
   have e : recB id n a b c = (a == limI a && b == limI b && c == limI c) := by unfold recB; rw [decide_eq_true h, decide_eq_true h3]; simp
   rw [e]
   exact isValid_all id n a b c w h.1 h.2 h3
  ·
   have e : recB id n a b c = false := by unfold recB; rw [decide_eq_false h3]; simp
   rw [e]
   exact isValid_count id n a b c w h.1 h.2 h3
 ·
  have e : recB id n a b c = false := by unfold recB; rw [decide_eq_false h]; simp
  rw [e]
  exact isValid_id id n a b c w h
set_option maxHeartbeats 4000000 in
set_option maxRecDepth 100000 in
theorem implIsRow (id : Int) (vv : Value) (xs : List Int) (w : World) (h : Ints w vv xs) (hn : xs.length ≤ 1048576) :
  Calls Tryd.prog 83 #[.agg #[.int .i64 id, vv]] w fun e w' => e = .returned (.bool (rowB (id, xs))) ∧ Below w.heap.size w w' := by
 have HR := Lib.hid (fun w h => recordOf_any id vv xs w h hn)
 have HV := Lib.hid (fun w => isValid_any id xs.length (xs.getD 0 0) (xs.getD 1 0) (xs.getD 2 0) w)
 rw [recB_row] at HV
 have H := Lib.hid h
 unfold recV at HR
 clear h hn
 generalize xs.getD 0 0 = x0 at *
 generalize xs.getD 1 0 = x1 at *
 generalize xs.getD 2 0 = x2 at *
 generalize rowB (id, xs) = r at *
 go_enter Tryd.func83, Tryd.ntmps83
 go_wp2_with fail
 have hb : Below w.heap.size w (w.alloc (.cells #[.int .i64 id, vv] 51)) := (Below.refl _ w).alloc (Nat.le_refl _) _
 refine (HR.out _ (ints_below H.out hb)).mono ?_
 rintro e w1 ⟨rfl, b1⟩
 have b2 := hb.trans (b1.mono hb.size)
 clear hb b1
 go_wp2_with fail
 refine (HV.out _).mono ?_
 rintro e w2 ⟨rfl, b3⟩
 have b4 := b2.trans (b3.mono b2.size)
 clear b2 b3
 go_wp2
 go_ret
 exact ⟨rfl, b4⟩
set_option maxHeartbeats 2000000 in
set_option maxRecDepth 100000 in
theorem copyInts_any (v : Value) (xs : List Int) (w : World) (h : Ints w v xs) (hn : xs.length ≤ 1048576) :
  Calls Tryd.prog 74 #[v] w (FreshInts w xs) := by
 have H := Lib.hid h
 have HN := Lib.hid hn
 obtain ⟨a, cap, rfl⟩ := ints_len h
 clear h hn
 go_enter Tryd.func74, Tryd.ntmps74
 go_wp2_with (at_builtin; refine wpl_app_ints rfl _ (.tmp 3) rfl w.heap.size _ _ [] xs rfl rfl (ownsN_nil _ _) H.out (Nat.le_refl _) (by have := HN.out; simp; omega) ?_)
 intro u w4 oB bB
 obtain ⟨pa, pc, rfl⟩ := ints_len (ownsN_ints oB)
 go_wp2
 go_ret
 exact ⟨_, rfl, oB, bB⟩
end Go.Proofs.YtededfficggkaaaDoor
