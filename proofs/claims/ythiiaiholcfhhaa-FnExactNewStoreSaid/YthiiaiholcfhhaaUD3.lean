/-
  Texts of the proof, merged: RowIsP, VerP1, VerP2, VerP3, VerP4, VerP9, VerP10, RowAreP, SpanVal, SpanSl, FreshInts, FindSpec, CopyP, CopyEachVersion, VerP5, VerP6, UpdMath, UpdOwn, CopyVersX, CopyStoreX, UpdMath2, UpdOwn2, UpdP3.
-/
import Derived.Test.YthiiaiholcfhhaaUD2
import Derived.Lib.MinMax
namespace Go.Proofs.Ythiiaiholcfhhaa
open Go.RowKit
set_option linter.unusedVariables false
set_option linter.unusedSimpArgs false
theorem isRowId_yes (id : Int) (w : World) (h1 : 0 ≤ id) (h2 : id ≤ 999) : Calls Try.prog 116 #[.int .i64 id] w fun e w' => e = .returned (.bool true) ∧ w' = w := by
  go_enter Try.func116, Try.ntmps116
  go_wp2
  go_ret
  exact ⟨rfl, rfl⟩
theorem isRowId_no (id : Int) (w : World) (h : ¬ (0 ≤ id ∧ id ≤ 999)) : Calls Try.prog 116 #[.int .i64 id] w fun e w' => e = .returned (.bool false) ∧ w' = w := by
  by_cases h1 : 0 ≤ id
  · have h2 : ¬ id ≤ 999 := fun g => h ⟨h1, g⟩
    clear h
    go_enter Try.func116, Try.ntmps116
    go_wp2
    go_ret
    exact ⟨rfl, rfl⟩
  · clear h
    go_enter Try.func116, Try.ntmps116
    go_wp2
    go_ret
    exact ⟨rfl, rfl⟩
/-- Is a record valid? -/
def recB (id n a b c : Int) : Bool := decide (0 ≤ id ∧ id ≤ 999) && (decide (n = 3) && (a == limI a && b == limI b && c == limI c))
theorem lim_in (x : Int) : (x == limI x) = decide (0 ≤ x ∧ x ≤ 99) := by
  unfold limI
  by_cases h : 0 ≤ x ∧ x ≤ 99
  · rw [decide_eq_true h, beq_iff_eq]; omega
  · rw [decide_eq_false h, beq_eq_false_iff_ne]; omega
theorem recB_row (id : Int) (xs : List Int) : recB id xs.length (xs.getD 0 0) (xs.getD 1 0) (xs.getD 2 0) = rowB (id, xs) := by
  unfold recB rowB
  simp only [lim_in]
  match xs with
  | [] => simp
  | [x] => simp
  | [x, y] => simp
  | [x, y, z] => simp [List.all, Bool.and_assoc]
  | x :: y :: z :: u :: r =>
    have : ¬ ((r.length : Int) + 1 + 1 + 1 + 1 = 3) := by omega
    simp [this]
theorem below_from {W w8 w9 : World} (h : w8 = W.drew) (b : Below w8.heap.size w8 w9) : Below W.heap.size W w9 := by subst h; exact ⟨b.os, b.tape, b.output, b.size, b.block⟩
set_option maxHeartbeats 8000000 in
set_option maxRecDepth 100000 in
theorem isValid_id (id n a b c : Int) (w : World) (h : ¬ (0 ≤ id ∧ id ≤ 999)) :
    Calls Try.prog 107 #[.agg #[.int .i64 id, .int .i64 n, .int .i64 a, .int .i64 b, .int .i64 c]] w fun e w' => e = .returned (.bool (false)) ∧ Below w.heap.size w w' := by
  have HI := Lib.hid (fun w => isRowId_no id w h)
  clear h
  go_enter Try.func107, Try.ntmps107
  go_wp2
  have hh : Below w.heap.size w (w.alloc (.cells #[.int .i64 id, .int .i64 n, .int .i64 a, .int .i64 b, .int .i64 c] 154)) := (Below.refl _ w).alloc (Nat.le_refl _) _
  have g0 := heap_alloc_new w (.cells #[.int .i64 id, .int .i64 n, .int .i64 a, .int .i64 b, .int .i64 c] 154)
  have hlt : w.heap.size < (w.alloc (.cells #[.int .i64 id, .int .i64 n, .int .i64 a, .int .i64 b, .int .i64 c] 154)).heap.size := by simp
  generalize w.alloc (.cells #[.int .i64 id, .int .i64 n, .int .i64 a, .int .i64 b, .int .i64 c] 154) = W at *
  have q0 := cell_of_row W _ 0 _ _ _ g0
  have q1 := cell_of_row W _ 1 _ _ _ g0
  have q2 := cell_of_row W _ 2 _ _ _ g0
  have q3 := cell_of_row W _ 3 _ _ _ g0
  have q4 := cell_of_row W _ 4 _ _ _ g0
  simp at q0 q1 q2 q3 q4
  refine wp_region_held_drew (S := fun w' => w'.cell? ⟨w.heap.size, 0, none⟩ = some (.int .i64 id) ∧ w'.cell? ⟨w.heap.size, 1, none⟩ = some (.int .i64 n) ∧ w'.cell? ⟨w.heap.size, 2, none⟩ = some (.int .i64 a) ∧ w'.cell? ⟨w.heap.size, 3, none⟩ = some (.int .i64 b) ∧ w'.cell? ⟨w.heap.size, 4, none⟩ = some (.int .i64 c)) (by kernel_rfl) ⟨q0, q1, q2, q3, q4⟩ (fun hHeld => ?_)
  refine take_runs (i := 0) (v := ?_) (by simp only [List.getElem?_toArray, List.getElem?_cons_succ, List.getElem?_cons_zero]; rfl) (by kernel_rfl) (by kernel_rfl) (by kernel_rfl) rfl (by exact fun _ _ _ h => h) (by rfl) ?_ (by assumption) ?_
  rotate_left
  · intro w hSw; (try dsimp only at hSw); go_simp; try (with_reducible rfl)
  try simp only [Act.put, List.setIfInBounds_toArray, List.set_cons_zero, List.set_cons_succ]
  refine take_runs (i := 1) (v := ?_) (by simp only [List.getElem?_toArray, List.getElem?_cons_succ, List.getElem?_cons_zero]; rfl) (by kernel_rfl) (by kernel_rfl) (by kernel_rfl) rfl (by exact fun _ _ _ h => h) (by rfl) ?_ (by assumption) ?_
  rotate_left
  · intro w hSw; (try dsimp only at hSw); go_simp; try (with_reducible rfl)
  try simp only [Act.put, List.setIfInBounds_toArray, List.set_cons_zero, List.set_cons_succ]
  refine wpAnyH_ready (rs := [2]) (by kernel_rfl) (by simp) ?_
  refine AllReadyH.cons (o := _) (by simp only [List.getElem?_toArray, List.getElem?_cons_succ, List.getElem?_cons_zero]; rfl) (fun K hK => ?_) AllReadyH.nil
  go_simp
  refine (HI.out _).mono ?_
  rintro e w8 ⟨rfl, rfl⟩
  refine hK.out _ _ ⟨q0, q1, q2, q3, q4⟩ (fun hHeld => ?_)
  clear hK K
  try simp only [Act.put, List.setIfInBounds_toArray, List.set_cons_zero, List.set_cons_succ]
  refine take_runs (i := 3) (v := ?_) (by simp only [List.getElem?_toArray, List.getElem?_cons_succ, List.getElem?_cons_zero]; rfl) (by kernel_rfl) (by kernel_rfl) (by kernel_rfl) rfl (by exact fun _ _ _ h => h) (by rfl) ?_ (by assumption) ?_
  rotate_left
  · intro w hSw; (try dsimp only at hSw); go_simp; try (with_reducible rfl)
  try simp only [Act.put, List.setIfInBounds_toArray, List.set_cons_zero, List.set_cons_succ]
  refine take_over (i := 4) (by simp only [List.getElem?_toArray, List.getElem?_cons_succ, List.getElem?_cons_zero]; rfl) (by kernel_rfl) (by kernel_rfl) (by kernel_rfl) rfl (by exact fun _ _ _ h => h) (by rfl) (by assumption) ?_
  try simp only [Act.put, List.setIfInBounds_toArray, List.set_cons_zero, List.set_cons_succ]
  refine take_over (i := 5) (by simp only [List.getElem?_toArray, List.getElem?_cons_succ, List.getElem?_cons_zero]; rfl) (by kernel_rfl) (by kernel_rfl) (by kernel_rfl) rfl (by exact fun _ _ _ h => h) (by rfl) (by assumption) ?_
  try simp only [Act.put, List.setIfInBounds_toArray, List.set_cons_zero, List.set_cons_succ]
  refine take_over (i := 6) (by simp only [List.getElem?_toArray, List.getElem?_cons_succ, List.getElem?_cons_zero]; rfl) (by kernel_rfl) (by kernel_rfl) (by kernel_rfl) rfl (by exact fun _ _ _ h => h) (by rfl) (by assumption) ?_
  try simp only [Act.put, List.setIfInBounds_toArray, List.set_cons_zero, List.set_cons_succ]
  refine take_runs (i := 7) (v := ?_) (by simp only [List.getElem?_toArray, List.getElem?_cons_succ, List.getElem?_cons_zero]; rfl) (by kernel_rfl) (by kernel_rfl) (by kernel_rfl) rfl (by exact fun _ _ _ h => h) (by rfl) ?_ (by assumption) ?_
  rotate_left
  · intro w hSw; (try dsimp only at hSw); go_simp; try (with_reducible rfl)
  try simp only [Act.put, List.setIfInBounds_toArray, List.set_cons_zero, List.set_cons_succ]
  refine take_runs (i := 8) (v := ?_) (by simp only [List.getElem?_toArray, List.getElem?_cons_succ, List.getElem?_cons_zero]; rfl) (by kernel_rfl) (by kernel_rfl) (by kernel_rfl) rfl (by exact fun _ _ _ h => h) (by rfl) ?_ (by assumption) ?_
  rotate_left
  · intro w hSw; (try dsimp only at hSw); go_simp; try (with_reducible rfl)
  try simp only [Act.put, List.setIfInBounds_toArray, List.set_cons_zero, List.set_cons_succ]
  refine take_over (i := 9) (by simp only [List.getElem?_toArray, List.getElem?_cons_succ, List.getElem?_cons_zero]; rfl) (by kernel_rfl) (by kernel_rfl) (by kernel_rfl) rfl (by exact fun _ _ _ h => h) (by rfl) (by assumption) ?_
  try simp only [Act.put, List.setIfInBounds_toArray, List.set_cons_zero, List.set_cons_succ]
  refine take_over (i := 10) (by simp only [List.getElem?_toArray, List.getElem?_cons_succ, List.getElem?_cons_zero]; rfl) (by kernel_rfl) (by kernel_rfl) (by kernel_rfl) rfl (by exact fun _ _ _ h => h) (by rfl) (by assumption) ?_
  try simp only [Act.put, List.setIfInBounds_toArray, List.set_cons_zero, List.set_cons_succ]
  refine take_over (i := 11) (by simp only [List.getElem?_toArray, List.getElem?_cons_succ, List.getElem?_cons_zero]; rfl) (by kernel_rfl) (by kernel_rfl) (by kernel_rfl) rfl (by exact fun _ _ _ h => h) (by rfl) (by assumption) ?_
  try simp only [Act.put, List.setIfInBounds_toArray, List.set_cons_zero, List.set_cons_succ]
  refine take_over (i := 12) (by simp only [List.getElem?_toArray, List.getElem?_cons_succ, List.getElem?_cons_zero]; rfl) (by kernel_rfl) (by kernel_rfl) (by kernel_rfl) rfl (by exact fun _ _ _ h => h) (by rfl) (by assumption) ?_
  try simp only [Act.put, List.setIfInBounds_toArray, List.set_cons_zero, List.set_cons_succ]
  refine take_over (i := 13) (by simp only [List.getElem?_toArray, List.getElem?_cons_succ, List.getElem?_cons_zero]; rfl) (by kernel_rfl) (by kernel_rfl) (by kernel_rfl) rfl (by exact fun _ _ _ h => h) (by rfl) (by assumption) ?_
  try simp only [Act.put, List.setIfInBounds_toArray, List.set_cons_zero, List.set_cons_succ]
  refine take_over (i := 14) (by simp only [List.getElem?_toArray, List.getElem?_cons_succ, List.getElem?_cons_zero]; rfl) (by kernel_rfl) (by kernel_rfl) (by kernel_rfl) rfl (by exact fun _ _ _ h => h) (by rfl) (by assumption) ?_
  try simp only [Act.put, List.setIfInBounds_toArray, List.set_cons_zero, List.set_cons_succ]
  refine take_runs (i := 15) (v := ?_) (by simp only [List.getElem?_toArray, List.getElem?_cons_succ, List.getElem?_cons_zero]; rfl) (by kernel_rfl) (by kernel_rfl) (by kernel_rfl) rfl (by exact fun _ _ _ h => h) (by rfl) ?_ (by assumption) ?_
  rotate_left
  · intro w hSw; (try dsimp only at hSw); go_simp; try (with_reducible rfl)
  try simp only [Act.put, List.setIfInBounds_toArray, List.set_cons_zero, List.set_cons_succ]
  refine take_runs (i := 16) (v := ?_) (by simp only [List.getElem?_toArray, List.getElem?_cons_succ, List.getElem?_cons_zero]; rfl) (by kernel_rfl) (by kernel_rfl) (by kernel_rfl) rfl (by exact fun _ _ _ h => h) (by rfl) ?_ (by assumption) ?_
  rotate_left
  · intro w hSw; (try dsimp only at hSw); go_simp; try (with_reducible rfl)
  try simp only [Act.put, List.setIfInBounds_toArray, List.set_cons_zero, List.set_cons_succ]
  refine wpAnyH_done (by kernel_rfl) ?_ _
  have b11 : Below w.heap.size w W.drew := below_drew hh
  clear hHeld
  go_wp2
  go_ret
  exact ⟨rfl, b11⟩
set_option maxHeartbeats 8000000 in
set_option maxRecDepth 100000 in
theorem isValid_count (id n a b c : Int) (w : World) (h1 : 0 ≤ id) (h2 : id ≤ 999) (h3 : ¬ n = 3) :
    Calls Try.prog 107 #[.agg #[.int .i64 id, .int .i64 n, .int .i64 a, .int .i64 b, .int .i64 c]] w fun e w' => e = .returned (.bool (false)) ∧ Below w.heap.size w w' := by
  have HI := Lib.hid (fun w => isRowId_yes id w h1 h2)
  clear h1 h2
  have hd : (n == 3) = false := by simpa using h3
  clear h3
  go_enter Try.func107, Try.ntmps107
  go_wp2
  have hh : Below w.heap.size w (w.alloc (.cells #[.int .i64 id, .int .i64 n, .int .i64 a, .int .i64 b, .int .i64 c] 154)) := (Below.refl _ w).alloc (Nat.le_refl _) _
  have g0 := heap_alloc_new w (.cells #[.int .i64 id, .int .i64 n, .int .i64 a, .int .i64 b, .int .i64 c] 154)
  have hlt : w.heap.size < (w.alloc (.cells #[.int .i64 id, .int .i64 n, .int .i64 a, .int .i64 b, .int .i64 c] 154)).heap.size := by simp
  generalize w.alloc (.cells #[.int .i64 id, .int .i64 n, .int .i64 a, .int .i64 b, .int .i64 c] 154) = W at *
  have q0 := cell_of_row W _ 0 _ _ _ g0
  have q1 := cell_of_row W _ 1 _ _ _ g0
  have q2 := cell_of_row W _ 2 _ _ _ g0
  have q3 := cell_of_row W _ 3 _ _ _ g0
  have q4 := cell_of_row W _ 4 _ _ _ g0
  simp at q0 q1 q2 q3 q4
  refine wp_region_held_drew (S := fun w' => w'.cell? ⟨w.heap.size, 0, none⟩ = some (.int .i64 id) ∧ w'.cell? ⟨w.heap.size, 1, none⟩ = some (.int .i64 n) ∧ w'.cell? ⟨w.heap.size, 2, none⟩ = some (.int .i64 a) ∧ w'.cell? ⟨w.heap.size, 3, none⟩ = some (.int .i64 b) ∧ w'.cell? ⟨w.heap.size, 4, none⟩ = some (.int .i64 c)) (by kernel_rfl) ⟨q0, q1, q2, q3, q4⟩ (fun hHeld => ?_)
  refine take_runs (i := 0) (v := ?_) (by simp only [List.getElem?_toArray, List.getElem?_cons_succ, List.getElem?_cons_zero]; rfl) (by kernel_rfl) (by kernel_rfl) (by kernel_rfl) rfl (by exact fun _ _ _ h => h) (by rfl) ?_ (by assumption) ?_
  rotate_left
  · intro w hSw; (try dsimp only at hSw); go_simp; try (with_reducible rfl)
  try simp only [Act.put, List.setIfInBounds_toArray, List.set_cons_zero, List.set_cons_succ]
  refine take_runs (i := 1) (v := ?_) (by simp only [List.getElem?_toArray, List.getElem?_cons_succ, List.getElem?_cons_zero]; rfl) (by kernel_rfl) (by kernel_rfl) (by kernel_rfl) rfl (by exact fun _ _ _ h => h) (by rfl) ?_ (by assumption) ?_
  rotate_left
  · intro w hSw; (try dsimp only at hSw); go_simp; try (with_reducible rfl)
  try simp only [Act.put, List.setIfInBounds_toArray, List.set_cons_zero, List.set_cons_succ]
  refine wpAnyH_ready (rs := [2]) (by kernel_rfl) (by simp) ?_
  refine AllReadyH.cons (o := _) (by simp only [List.getElem?_toArray, List.getElem?_cons_succ, List.getElem?_cons_zero]; rfl) (fun K hK => ?_) AllReadyH.nil
  go_simp
  refine (HI.out _).mono ?_
  rintro e w8 ⟨rfl, rfl⟩
  refine hK.out _ _ ⟨q0, q1, q2, q3, q4⟩ (fun hHeld => ?_)
  clear hK K
  try simp only [Act.put, List.setIfInBounds_toArray, List.set_cons_zero, List.set_cons_succ]
  refine take_runs (i := 3) (v := ?_) (by simp only [List.getElem?_toArray, List.getElem?_cons_succ, List.getElem?_cons_zero]; rfl) (by kernel_rfl) (by kernel_rfl) (by kernel_rfl) rfl (by exact fun _ _ _ h => h) (by rfl) ?_ (by assumption) ?_
  rotate_left
  · intro w hSw; (try dsimp only at hSw); go_simp; try (with_reducible rfl)
  try simp only [Act.put, List.setIfInBounds_toArray, List.set_cons_zero, List.set_cons_succ]
  refine take_runs (i := 4) (v := ?_) (by simp only [List.getElem?_toArray, List.getElem?_cons_succ, List.getElem?_cons_zero]; rfl) (by kernel_rfl) (by kernel_rfl) (by kernel_rfl) rfl (by exact fun _ _ _ h => h) (by rfl) ?_ (by assumption) ?_
  rotate_left
  · intro w hSw; (try dsimp only at hSw); go_simp; try (with_reducible rfl)
  try simp only [Act.put, List.setIfInBounds_toArray, List.set_cons_zero, List.set_cons_succ]
  refine take_runs (i := 5) (v := ?_) (by simp only [List.getElem?_toArray, List.getElem?_cons_succ, List.getElem?_cons_zero]; rfl) (by kernel_rfl) (by kernel_rfl) (by kernel_rfl) rfl (by exact fun _ _ _ h => h) (by rfl) ?_ (by assumption) ?_
  rotate_left
  · intro w hSw; (try dsimp only at hSw); go_simp; try (with_reducible rfl)
  try simp only [Act.put, List.setIfInBounds_toArray, List.set_cons_zero, List.set_cons_succ]
  refine take_runs (i := 6) (v := ?_) (by simp only [List.getElem?_toArray, List.getElem?_cons_succ, List.getElem?_cons_zero]; rfl) (by kernel_rfl) (by kernel_rfl) (by kernel_rfl) rfl (by exact fun _ _ _ h => h) (by rfl) ?_ (by assumption) ?_
  rotate_left
  · intro w hSw; (try dsimp only at hSw); go_simp; try (with_reducible rfl)
  try simp only [Act.put, List.setIfInBounds_toArray, List.set_cons_zero, List.set_cons_succ]
  refine take_runs (i := 7) (v := ?_) (by simp only [List.getElem?_toArray, List.getElem?_cons_succ, List.getElem?_cons_zero]; rfl) (by kernel_rfl) (by kernel_rfl) (by kernel_rfl) rfl (by exact fun _ _ _ h => h) (by rfl) ?_ (by assumption) ?_
  rotate_left
  · intro w hSw; (try dsimp only at hSw); go_simp; try (with_reducible rfl)
  try simp only [Act.put, List.setIfInBounds_toArray, List.set_cons_zero, List.set_cons_succ]
  refine take_runs (i := 8) (v := ?_) (by simp only [List.getElem?_toArray, List.getElem?_cons_succ, List.getElem?_cons_zero]; rfl) (by kernel_rfl) (by kernel_rfl) (by kernel_rfl) rfl (by exact fun _ _ _ h => h) (by rfl) ?_ (by assumption) ?_
  rotate_left
  · intro w hSw; (try dsimp only at hSw); go_simp; try (with_reducible rfl)
  try simp only [Act.put, List.setIfInBounds_toArray, List.set_cons_zero, List.set_cons_succ]
  refine take_over (i := 9) (by simp only [List.getElem?_toArray, List.getElem?_cons_succ, List.getElem?_cons_zero]; rfl) (by kernel_rfl) (by kernel_rfl) (by kernel_rfl) rfl (by exact fun _ _ _ h => h) (by rfl) (by assumption) ?_
  try simp only [Act.put, List.setIfInBounds_toArray, List.set_cons_zero, List.set_cons_succ]
  refine take_over (i := 10) (by simp only [List.getElem?_toArray, List.getElem?_cons_succ, List.getElem?_cons_zero]; rfl) (by kernel_rfl) (by kernel_rfl) (by kernel_rfl) rfl (by exact fun _ _ _ h => h) (by rfl) (by assumption) ?_
  try simp only [Act.put, List.setIfInBounds_toArray, List.set_cons_zero, List.set_cons_succ]
  refine take_over (i := 11) (by simp only [List.getElem?_toArray, List.getElem?_cons_succ, List.getElem?_cons_zero]; rfl) (by kernel_rfl) (by kernel_rfl) (by kernel_rfl) rfl (by exact fun _ _ _ h => h) (by rfl) (by assumption) ?_
  try simp only [Act.put, List.setIfInBounds_toArray, List.set_cons_zero, List.set_cons_succ]
  refine take_over (i := 12) (by simp only [List.getElem?_toArray, List.getElem?_cons_succ, List.getElem?_cons_zero]; rfl) (by kernel_rfl) (by kernel_rfl) (by kernel_rfl) rfl (by exact fun _ _ _ h => h) (by rfl) (by assumption) ?_
  try simp only [Act.put, List.setIfInBounds_toArray, List.set_cons_zero, List.set_cons_succ]
  refine take_over (i := 13) (by simp only [List.getElem?_toArray, List.getElem?_cons_succ, List.getElem?_cons_zero]; rfl) (by kernel_rfl) (by kernel_rfl) (by kernel_rfl) rfl (by exact fun _ _ _ h => h) (by rfl) (by assumption) ?_
  try simp only [Act.put, List.setIfInBounds_toArray, List.set_cons_zero, List.set_cons_succ]
  refine take_over (i := 14) (by simp only [List.getElem?_toArray, List.getElem?_cons_succ, List.getElem?_cons_zero]; rfl) (by kernel_rfl) (by kernel_rfl) (by kernel_rfl) rfl (by exact fun _ _ _ h => h) (by rfl) (by assumption) ?_
  try simp only [Act.put, List.setIfInBounds_toArray, List.set_cons_zero, List.set_cons_succ]
  refine take_runs (i := 15) (v := ?_) (by simp only [List.getElem?_toArray, List.getElem?_cons_succ, List.getElem?_cons_zero]; rfl) (by kernel_rfl) (by kernel_rfl) (by kernel_rfl) rfl (by exact fun _ _ _ h => h) (by rfl) ?_ (by assumption) ?_
  rotate_left
  · intro w hSw; (try dsimp only at hSw); go_simp; try (with_reducible rfl)
  try simp only [Act.put, List.setIfInBounds_toArray, List.set_cons_zero, List.set_cons_succ]
  refine take_runs (i := 16) (v := ?_) (by simp only [List.getElem?_toArray, List.getElem?_cons_succ, List.getElem?_cons_zero]; rfl) (by kernel_rfl) (by kernel_rfl) (by kernel_rfl) rfl (by exact fun _ _ _ h => h) (by rfl) ?_ (by assumption) ?_
  rotate_left
  · intro w hSw; (try dsimp only at hSw); go_simp; try (with_reducible rfl)
  try simp only [Act.put, List.setIfInBounds_toArray, List.set_cons_zero, List.set_cons_succ]
  refine wpAnyH_done (by kernel_rfl) ?_ _
  have b11 : Below w.heap.size w W.drew := below_drew hh
  clear hHeld
  go_wp2
  go_ret
  exact ⟨rfl, b11⟩
set_option maxHeartbeats 8000000 in
set_option maxRecDepth 100000 in
theorem isValid_all (id n a b c : Int) (w : World) (h1 : 0 ≤ id) (h2 : id ≤ 999) (h3 : n = 3) :
    Calls Try.prog 107 #[.agg #[.int .i64 id, .int .i64 n, .int .i64 a, .int .i64 b, .int .i64 c]] w fun e w' => e = .returned (.bool (a == limI a && b == limI b && c == limI c)) ∧ Below w.heap.size w w' := by
  have HI := Lib.hid (fun w => isRowId_yes id w h1 h2)
  clear h1 h2
  have hd : (n == 3) = true := by simpa using h3
  clear h3
  have HL := Lib.hid (fun w => limited_any a b c w)
  have he := fun w => eql_arr a b c (limI a) (limI b) (limI c) w
  have hgd := fun (o1 o2 : Operand) (xs ys : Array Value) (w : World) => guard_arr o1 o2 xs ys w
  generalize hr : (a == limI a && b == limI b && c == limI c) = r at he ⊢
  clear hr
  go_enter Try.func107, Try.ntmps107
  go_wp2
  have hh : Below w.heap.size w (w.alloc (.cells #[.int .i64 id, .int .i64 n, .int .i64 a, .int .i64 b, .int .i64 c] 154)) := (Below.refl _ w).alloc (Nat.le_refl _) _
  have g0 := heap_alloc_new w (.cells #[.int .i64 id, .int .i64 n, .int .i64 a, .int .i64 b, .int .i64 c] 154)
  have hlt : w.heap.size < (w.alloc (.cells #[.int .i64 id, .int .i64 n, .int .i64 a, .int .i64 b, .int .i64 c] 154)).heap.size := by simp
  generalize w.alloc (.cells #[.int .i64 id, .int .i64 n, .int .i64 a, .int .i64 b, .int .i64 c] 154) = W at *
  have q0 := cell_of_row W _ 0 _ _ _ g0
  have q1 := cell_of_row W _ 1 _ _ _ g0
  have q2 := cell_of_row W _ 2 _ _ _ g0
  have q3 := cell_of_row W _ 3 _ _ _ g0
  have q4 := cell_of_row W _ 4 _ _ _ g0
  simp at q0 q1 q2 q3 q4
  refine wp_region_held_drew (S := fun w' => w'.cell? ⟨w.heap.size, 0, none⟩ = some (.int .i64 id) ∧ w'.cell? ⟨w.heap.size, 1, none⟩ = some (.int .i64 n) ∧ w'.cell? ⟨w.heap.size, 2, none⟩ = some (.int .i64 a) ∧ w'.cell? ⟨w.heap.size, 3, none⟩ = some (.int .i64 b) ∧ w'.cell? ⟨w.heap.size, 4, none⟩ = some (.int .i64 c)) (by kernel_rfl) ⟨q0, q1, q2, q3, q4⟩ (fun hHeld => ?_)
  refine take_runs (i := 0) (v := ?_) (by simp only [List.getElem?_toArray, List.getElem?_cons_succ, List.getElem?_cons_zero]; rfl) (by kernel_rfl) (by kernel_rfl) (by kernel_rfl) rfl (by exact fun _ _ _ h => h) (by rfl) ?_ (by assumption) ?_
  rotate_left
  · intro w hSw; (try dsimp only at hSw); go_simp; try (with_reducible rfl)
  try simp only [Act.put, List.setIfInBounds_toArray, List.set_cons_zero, List.set_cons_succ]
  refine take_runs (i := 1) (v := ?_) (by simp only [List.getElem?_toArray, List.getElem?_cons_succ, List.getElem?_cons_zero]; rfl) (by kernel_rfl) (by kernel_rfl) (by kernel_rfl) rfl (by exact fun _ _ _ h => h) (by rfl) ?_ (by assumption) ?_
  rotate_left
  · intro w hSw; (try dsimp only at hSw); go_simp; try (with_reducible rfl)
  try simp only [Act.put, List.setIfInBounds_toArray, List.set_cons_zero, List.set_cons_succ]
  refine wpAnyH_ready (rs := [2]) (by kernel_rfl) (by simp) ?_
  refine AllReadyH.cons (o := _) (by simp only [List.getElem?_toArray, List.getElem?_cons_succ, List.getElem?_cons_zero]; rfl) (fun K hK => ?_) AllReadyH.nil
  go_simp
  refine (HI.out _).mono ?_
  rintro e w8 ⟨rfl, rfl⟩
  refine hK.out _ _ ⟨q0, q1, q2, q3, q4⟩ (fun hHeld => ?_)
  clear hK K
  try simp only [Act.put, List.setIfInBounds_toArray, List.set_cons_zero, List.set_cons_succ]
  refine take_runs (i := 3) (v := ?_) (by simp only [List.getElem?_toArray, List.getElem?_cons_succ, List.getElem?_cons_zero]; rfl) (by kernel_rfl) (by kernel_rfl) (by kernel_rfl) rfl (by exact fun _ _ _ h => h) (by rfl) ?_ (by assumption) ?_
  rotate_left
  · intro w hSw; (try dsimp only at hSw); go_simp; try (with_reducible rfl)
  try simp only [Act.put, List.setIfInBounds_toArray, List.set_cons_zero, List.set_cons_succ]
  refine take_runs (i := 4) (v := ?_) (by simp only [List.getElem?_toArray, List.getElem?_cons_succ, List.getElem?_cons_zero]; rfl) (by kernel_rfl) (by kernel_rfl) (by kernel_rfl) rfl (by exact fun _ _ _ h => h) (by rfl) ?_ (by assumption) ?_
  rotate_left
  · intro w hSw; (try dsimp only at hSw); go_simp; try (with_reducible rfl)
  try simp only [Act.put, List.setIfInBounds_toArray, List.set_cons_zero, List.set_cons_succ]
  refine take_runs (i := 5) (v := ?_) (by simp only [List.getElem?_toArray, List.getElem?_cons_succ, List.getElem?_cons_zero]; rfl) (by kernel_rfl) (by kernel_rfl) (by kernel_rfl) rfl (by exact fun _ _ _ h => h) (by rfl) ?_ (by assumption) ?_
  rotate_left
  · intro w hSw; (try dsimp only at hSw); go_simp; try (with_reducible rfl)
  try simp only [Act.put, List.setIfInBounds_toArray, List.set_cons_zero, List.set_cons_succ]
  refine take_runs (i := 6) (v := ?_) (by simp only [List.getElem?_toArray, List.getElem?_cons_succ, List.getElem?_cons_zero]; rfl) (by kernel_rfl) (by kernel_rfl) (by kernel_rfl) rfl (by exact fun _ _ _ h => h) (by rfl) ?_ (by assumption) ?_
  rotate_left
  · intro w hSw; (try dsimp only at hSw); go_simp; try (with_reducible rfl)
  try simp only [Act.put, List.setIfInBounds_toArray, List.set_cons_zero, List.set_cons_succ]
  refine take_runs (i := 7) (v := ?_) (by simp only [List.getElem?_toArray, List.getElem?_cons_succ, List.getElem?_cons_zero]; rfl) (by kernel_rfl) (by kernel_rfl) (by kernel_rfl) rfl (by exact fun _ _ _ h => h) (by rfl) ?_ (by assumption) ?_
  rotate_left
  · intro w hSw; (try dsimp only at hSw); go_simp; try (with_reducible rfl)
  try simp only [Act.put, List.setIfInBounds_toArray, List.set_cons_zero, List.set_cons_succ]
  refine take_runs (i := 8) (v := ?_) (by simp only [List.getElem?_toArray, List.getElem?_cons_succ, List.getElem?_cons_zero]; rfl) (by kernel_rfl) (by kernel_rfl) (by kernel_rfl) rfl (by exact fun _ _ _ h => h) (by rfl) ?_ (by assumption) ?_
  rotate_left
  · intro w hSw; (try dsimp only at hSw); go_simp; try (with_reducible rfl)
  try simp only [Act.put, List.setIfInBounds_toArray, List.set_cons_zero, List.set_cons_succ]
  refine take_runs (i := 9) (v := ?_) (by simp only [List.getElem?_toArray, List.getElem?_cons_succ, List.getElem?_cons_zero]; rfl) (by kernel_rfl) (by kernel_rfl) (by kernel_rfl) rfl (by exact fun _ _ _ h => h) (by rfl) ?_ (by assumption) ?_
  rotate_left
  · intro w hSw; (try dsimp only at hSw); go_simp; try (with_reducible rfl)
  try simp only [Act.put, List.setIfInBounds_toArray, List.set_cons_zero, List.set_cons_succ]
  refine take_runs (i := 10) (v := ?_) (by simp only [List.getElem?_toArray, List.getElem?_cons_succ, List.getElem?_cons_zero]; rfl) (by kernel_rfl) (by kernel_rfl) (by kernel_rfl) rfl (by exact fun _ _ _ h => h) (by rfl) ?_ (by assumption) ?_
  rotate_left
  · intro w hSw; (try dsimp only at hSw); go_simp; try (with_reducible rfl)
  try simp only [Act.put, List.setIfInBounds_toArray, List.set_cons_zero, List.set_cons_succ]
  refine take_runs (i := 11) (v := ?_) (by simp only [List.getElem?_toArray, List.getElem?_cons_succ, List.getElem?_cons_zero]; rfl) (by kernel_rfl) (by kernel_rfl) (by kernel_rfl) rfl (by exact fun _ _ _ h => h) (by rfl) ?_ (by assumption) ?_
  rotate_left
  · intro w hSw; (try dsimp only at hSw); go_simp; try (with_reducible rfl)
  try simp only [Act.put, List.setIfInBounds_toArray, List.set_cons_zero, List.set_cons_succ]
  refine take_runs (i := 12) (v := ?_) (by simp only [List.getElem?_toArray, List.getElem?_cons_succ, List.getElem?_cons_zero]; rfl) (by kernel_rfl) (by kernel_rfl) (by kernel_rfl) rfl (by exact fun _ _ _ h => h) (by rfl) ?_ (by assumption) ?_
  rotate_left
  · intro w hSw; (try dsimp only at hSw); go_simp; try (with_reducible rfl)
  try simp only [Act.put, List.setIfInBounds_toArray, List.set_cons_zero, List.set_cons_succ]
  refine wpAnyH_ready (rs := [13]) (by kernel_rfl) (by simp) ?_
  refine AllReadyH.cons (o := _) (by simp only [List.getElem?_toArray, List.getElem?_cons_succ, List.getElem?_cons_zero]; rfl) (fun K hK => ?_) AllReadyH.nil
  go_simp
  refine (HL.out _).mono ?_
  rintro e w9 ⟨rfl, b9⟩
  have b10 : Below W.heap.size W w9 := below_from rfl b9
  have g2 := (b10.block w.heap.size hlt).trans g0
  have r0 := cell_of_row w9 _ 0 _ _ _ g2
  have r1 := cell_of_row w9 _ 1 _ _ _ g2
  have r2 := cell_of_row w9 _ 2 _ _ _ g2
  have r3 := cell_of_row w9 _ 3 _ _ _ g2
  have r4 := cell_of_row w9 _ 4 _ _ _ g2
  simp at r0 r1 r2 r3 r4
  refine hK.out _ _ ⟨r0, r1, r2, r3, r4⟩ (fun hHeld => ?_)
  clear hK K
  try simp only [Act.put, List.setIfInBounds_toArray, List.set_cons_zero, List.set_cons_succ]
  refine take_runs (i := 14) (v := ?_) (by simp only [List.getElem?_toArray, List.getElem?_cons_succ, List.getElem?_cons_zero]; rfl) (by kernel_rfl) (by kernel_rfl) (by kernel_rfl) rfl (by exact fun _ _ _ h => h) (by rfl) ?_ (by assumption) ?_
  rotate_left
  · intro w hSw; (try dsimp only at hSw); go_simp; try (with_reducible rfl)
  try simp only [Act.put, List.setIfInBounds_toArray, List.set_cons_zero, List.set_cons_succ]
  refine take_runs (i := 15) (v := ?_) (by simp only [List.getElem?_toArray, List.getElem?_cons_succ, List.getElem?_cons_zero]; rfl) (by kernel_rfl) (by kernel_rfl) (by kernel_rfl) rfl (by exact fun _ _ _ h => h) (by rfl) ?_ (by assumption) ?_
  rotate_left
  · intro w hSw; (try dsimp only at hSw); go_simp; try (with_reducible rfl)
  try simp only [Act.put, List.setIfInBounds_toArray, List.set_cons_zero, List.set_cons_succ]
  refine take_runs (i := 16) (v := ?_) (by simp only [List.getElem?_toArray, List.getElem?_cons_succ, List.getElem?_cons_zero]; rfl) (by kernel_rfl) (by kernel_rfl) (by kernel_rfl) rfl (by exact fun _ _ _ h => h) (by rfl) ?_ (by assumption) ?_
  rotate_left
  · intro w hSw; (try dsimp only at hSw); go_simp; try (with_reducible rfl)
  try simp only [Act.put, List.setIfInBounds_toArray, List.set_cons_zero, List.set_cons_succ]
  refine wpAnyH_done (by kernel_rfl) ?_ _
  have b11 := hh.trans (b10.mono hh.size)
  clear hHeld b9 b10
  go_wp2
  go_ret
  exact ⟨rfl, b11⟩
theorem isValid_any (id n a b c : Int) (w : World) :
    Calls Try.prog 107 #[.agg #[.int .i64 id, .int .i64 n, .int .i64 a, .int .i64 b, .int .i64 c]] w fun e w' => e = .returned (.bool (recB id n a b c)) ∧ Below w.heap.size w w' := by
  by_cases h : 0 ≤ id ∧ id ≤ 999
  · by_cases h3 : n = 3
    · have e : recB id n a b c = (a == limI a && b == limI b && c == limI c) := by unfold recB; rw [decide_eq_true h, decide_eq_true h3]; simp
      rw [e]
      exact isValid_all id n a b c w h.1 h.2 h3
    · have e : recB id n a b c = false := by unfold recB; rw [decide_eq_false h3]; simp
      rw [e]
      exact isValid_count id n a b c w h.1 h.2 h3
  · have e : recB id n a b c = false := by unfold recB; rw [decide_eq_false h]; simp
    rw [e]
    exact isValid_id id n a b c w h
set_option maxHeartbeats 4000000 in
set_option maxRecDepth 100000 in
theorem implIsRow (id : Int) (vv : Value) (xs : List Int) (w : World) (h : Ints w vv xs) (hn : xs.length ≤ 1048576) :
    Calls Try.prog 88 #[.agg #[.int .i64 id, vv]] w fun e w' => e = .returned (.bool (rowB (id, xs))) ∧ Below w.heap.size w w' := by
  have HR := Lib.hid (fun w h => recordOf_any id vv xs w h hn)
  have HV := Lib.hid (fun w => isValid_any id xs.length (xs.getD 0 0) (xs.getD 1 0) (xs.getD 2 0) w)
  rw [recB_row] at HV
  have H := Lib.hid h
  unfold recV at HR
  clear h hn
  generalize xs.getD 0 0 = x0 at *
  generalize xs.getD 1 0 = x1 at *
  generalize xs.getD 2 0 = x2 at *
  generalize rowB (id, xs) = r at *
  go_enter Try.func88, Try.ntmps88
  go_wp2_with fail
  have hb : Below w.heap.size w (w.alloc (.cells #[.int .i64 id, vv] 29)) := (Below.refl _ w).alloc (Nat.le_refl _) _
  refine (HR.out _ (ints_below H.out hb)).mono ?_
  rintro e w1 ⟨rfl, b1⟩
  have b2 := hb.trans (b1.mono hb.size)
  clear hb b1
  go_wp2_with fail
  refine (HV.out _).mono ?_
  rintro e w2 ⟨rfl, b3⟩
  have b4 := b2.trans (b3.mono b2.size)
  clear b2 b3
  go_wp2
  go_ret
  exact ⟨rfl, b4⟩
end Go.Proofs.Ythiiaiholcfhhaa
namespace Go.Proofs.Ythiiaiholcfhhaa
open Go.RowKit
set_option linter.unusedVariables false
set_option linter.unusedSimpArgs false
end Go.Proofs.Ythiiaiholcfhhaa
namespace Go.Proofs.Ythiiaiholcfhhaa
open Go.RowKit
set_option linter.unusedVariables false
set_option linter.unusedSimpArgs false
set_option maxHeartbeats 8000000 in
set_option maxRecDepth 100000 in
theorem isSegmentCount_any (n : Int) (w : World) : Calls Try.prog 66 #[.int .i64 n] w fun e w' => e = .returned (.bool (decide (1 ≤ n ∧ n ≤ 8))) ∧ w' = w := by
  by_cases h1 : 1 ≤ n
  · by_cases h2 : n ≤ 8
    · rw [decide_eq_true ⟨h1, h2⟩]
      go_enter Try.func66, Try.ntmps66
      go_wp2
      go_ret
      exact ⟨ret_b (by first | rfl | simp [h2]), rfl⟩
    · rw [decide_eq_false (fun g => h2 g.2)]
      go_enter Try.func66, Try.ntmps66
      go_wp2
      go_ret
      exact ⟨ret_b (by first | rfl | simp [h2] | (simp; omega)), rfl⟩
  · rw [decide_eq_false (fun g => h1 g.1)]
    go_enter Try.func66, Try.ntmps66
    go_wp2
    go_ret
    exact ⟨rfl, rfl⟩
end Go.Proofs.Ythiiaiholcfhhaa
namespace Go.Proofs.Ythiiaiholcfhhaa
open Go.RowKit
set_option linter.unusedVariables false
set_option linter.unusedSimpArgs false
theorem info_R_ptr : ElemInfo (tRaw 1) 102 (.pointer none) := elemInfo_of (by kernel_rfl)
/-- A slice as a value: its address, length and capacity. -/
abbrev SegV := Option Addr × Nat × Nat
def s0V : SegV := (none, 0, 0)
def segV (u : SegV) : Value := .slice u.1 u.2.1 u.2.2
def cutV (u : SegV) : Value := .slice u.1 u.2.1 u.2.1
def ptrV (b : Nat) : Value := .pointer (some ⟨b, 0, none⟩)
/-- A slice of slices is read. -/
def LsR (w : World) (v : Value) (us : List SegV) : Prop := SlR (tRaw 1) w v (us.map (fun u => [segV u])) ∧ ∀ j, j < us.length → (us.getD j s0V).2.1 ≤ (us.getD j s0V).2.2
theorem lsR_below {W w : World} {v : Value} {us : List SegV} (h : LsR W v us) (hb : Below W.heap.size W w) : LsR w v us := ⟨slR_below (tRaw_law (by decide)) h.1 hb, h.2⟩
theorem lsR_len {w : World} {v : Value} {us : List SegV} (h : LsR w v us) : ∃ a cap, v = .slice a us.length cap := by
  obtain ⟨a, cap, e⟩ := slR_len h.1
  rw [List.length_map] at e
  exact ⟨a, cap, e⟩
theorem lsR_at {w : World} {v : Value} {us : List SegV} (h : LsR w v us) {k : Nat} (hk : k < us.length) : ∃ b off cap, v = .slice (some ⟨b, off, none⟩) us.length cap ∧ b < w.heap.size ∧ w.cell? ⟨b, off + k, none⟩ = some (segV (us.getD k s0V)) ∧ (us.getD k s0V).2.1 ≤ (us.getD k s0V).2.2 := by
  obtain ⟨b, off, cap, cs, hv, hb, hc, hR⟩ := slR_at h.1 (k := k) (by rw [List.length_map]; exact hk)
  rw [List.length_map] at hv
  obtain ⟨e, _⟩ := hR
  have e2 : (us.map (fun u => [segV u])).getD k (tRaw 1).d = [segV (us.getD k s0V)] := by simp [List.getD, hk]
  rw [e2] at e
  have := hc 0 (by decide)
  rw [show (tRaw 1).n = 1 from rfl, Nat.mul_one, Nat.add_zero, e] at this
  exact ⟨b, off, cap, hv, hb, this, h.2 k hk⟩
/-- The row of a segment's block. -/
def segRow (u : SegV) : Obj := .cells #[cutV u] 131 (0, 0)
/-- What tableOf answers: new pointers to new segments. -/
def TabN (B : Nat) (w : World) (g : Nat) (bs : List Nat) (us : List SegV) : Prop :=
  B ≤ g ∧ g < w.heap.size ∧ bs.length = us.length ∧ (∀ j, j < us.length → w.cell? ⟨g, j, none⟩ = some (ptrV (bs.getD j 0)) ∧ w.heap[bs.getD j 0]? = some (segRow (us.getD j s0V)) ∧ g < bs.getD j 0) ∧ ∀ i j, i < us.length → j < us.length → i ≠ j → bs.getD i 0 ≠ bs.getD j 0
def FreshTabO (w : World) (us : List SegV) (e : Ending) (w' : World) : Prop := ∃ g bs, e = .returned (.slice (some ⟨g, 0, none⟩) us.length us.length) ∧ w'.ownsRow w.heap.size 102 1 (.slice (some ⟨g, 0, none⟩) us.length us.length) us.length (bs.map ptrV) ∧ TabN w.heap.size w' g bs us ∧ Below w.heap.size w w'
theorem ptr_set {bs : List Nat} {n k b : Nat} (hb : bs.length = k) (hk : k < n) : (bs.map ptrV ++ List.replicate (n - k) (Value.pointer none)).set k (ptrV b) = (bs ++ [b]).map ptrV ++ List.replicate (n - (k + 1)) (Value.pointer none) := by
  have hl : (bs.map ptrV).length = k := by rw [List.length_map]; exact hb
  rw [List.set_append_right _ _ (by omega), hl, Nat.sub_self, show n - k = (n - (k + 1)) + 1 by omega, List.replicate_succ, List.set_cons_zero, List.map_append, List.append_assoc]
  rfl
theorem getD_app_lt {bs : List Nat} {b j : Nat} (h : j < bs.length) : (bs ++ [b]).getD j 0 = bs.getD j 0 := by simp [List.getD, List.getElem?_append_left h]
theorem getD_app_eq {bs : List Nat} {b j : Nat} (h : j = bs.length) : (bs ++ [b]).getD j 0 = b := by subst h; simp [List.getD]
set_option maxHeartbeats 8000000 in
set_option maxRecDepth 100000 in
theorem tableOf_own (v : Value) (us : List SegV) (w : World) (h : LsR w v us) (hn : us.length ≤ 1048576) :
    Calls Try.prog 67 #[v] w (FreshTabO w us) := by
  obtain ⟨i0, hi, hz0, hz1, hz2⟩ := info_R_ptr
  have HI := Lib.hid hi; have HZ0 := Lib.hid hz0; have HZ1 : Hid (i0.size = 1) := Lib.hid hz1; have HZ2 := Lib.hid hz2
  clear hi hz0 hz1 hz2
  have H := Lib.hid h
  obtain ⟨a, cap, rfl⟩ := lsR_len h
  clear h
  go_enter Try.func67, Try.ntmps67
  go_wp2_with (at_make; refine wpList_make_full _ rfl (.tmp 7) (.tmp 7) 95 rfl w.heap.size 102 i0 (.pointer none) 1 Try.underlying95 HI.out HZ0.out HZ1.out _ _ _ _ us.length rfl rfl rfl rfl (by have := Nat.mul_le_mul HZ2.out hn; omega) (by unfold maxLen; omega) (Nat.le_refl _) ?_)
  intro w1 hown0 hg0
  have hbel1 := (Below.refl w.heap.size w).grown hg0 (Nat.le_refl _) (fun k hk => by cases hk)
  have hz : (madeCells #[Value.pointer none] us.length).toList = List.replicate us.length (Value.pointer none) := by
    apply List.ext_getElem?
    intro i
    unfold madeCells
    rw [Array.getElem?_toList, Array.getElem?_map]
    by_cases q : i < us.length
    · rw [Array.getElem?_range, if_pos q]
      simp [q, Nat.mod_one]
    · rw [Array.getElem?_range, if_neg q]
      simp [q]
  rw [hz] at hown0
  clear hg0 hz
  go_wp2
  go_loopw [11] (fun i wr => ∃ (k : Nat) (bs : List Nat), k ≤ us.length ∧ i = .int .i64 k ∧ bs.length = k ∧ wr.ownsRow w.heap.size 102 1 (.slice (some ⟨w.heap.size, 0, none⟩) us.length us.length) us.length (bs.map ptrV ++ List.replicate (us.length - k) (Value.pointer none)) ∧ Hid (∀ j, j < k → wr.heap[bs.getD j 0]? = some (segRow (us.getD j s0V)) ∧ w.heap.size < bs.getD j 0 ∧ bs.getD j 0 < wr.heap.size) ∧ Hid (∀ i j, i < k → j < k → i ≠ j → bs.getD i 0 ≠ bs.getD j 0) ∧ Below w.heap.size w wr ∧ w.heap.size < wr.heap.size) (fun i _ => us.length - (intOf i).toNat)
  case atStart => exact ⟨0, [], Nat.zero_le _, rfl, rfl, hown0, Lib.hid (fun j hj => by omega), Lib.hid (fun i j hi => by omega), hbel1, (hown0.lt w.heap.size rfl).2⟩
  case round =>
    obtain ⟨k, bs, hk, rfl, hbs, hown, hrow, hdis, hbel, hsz⟩ := hrel
    clear hown0 hbel1
    by_cases hlt : k < us.length
    · have i1 : (0 : Int) ≤ (k : Int) := by omega
      have i2 : (k : Int) < (us.length : Int) := by omega
      obtain ⟨b, off, cap', hv, hbl, c0, hle⟩ := lsR_at (lsR_below H.out hbel) hlt
      simp only [Value.slice.injEq] at hv
      obtain ⟨rfl, _, rfl⟩ := hv
      have hset := ptr_set (b := wr.heap.size) hbs hlt
      have r1 := (World.ownsRow.stored hown k (ptrV wr.heap.size)).1
      rw [hset] at r1
      have r2 := r1.alloc (.cells #[cutV (us.getD k s0V)] 131)
      have y0 : ∃ x, wr.cell? ⟨w.heap.size, k, none⟩ = some x := ⟨_, (World.ownsRow.cellAt hown k (by omega)).trans (List.getElem?_eq_getElem (by simp; omega))⟩
      obtain ⟨y, y0⟩ := y0
      have f0 := World.ownsRow.frozenAt hown k
      have tt : Turn (fun x => x = w.heap.size) wr (wr.setCell ⟨w.heap.size, k, none⟩ (ptrV wr.heap.size)) := turn_set (G := fun x => x = w.heap.size) (g := w.heap.size) (j := k) (u := ptrV wr.heap.size) rfl
      have hs0 : (wr.setCell ⟨w.heap.size, k, none⟩ (ptrV wr.heap.size)).heap.size = wr.heap.size := by simp [World.setCell]
      have hal : Below (wr.setCell ⟨w.heap.size, k, none⟩ (ptrV wr.heap.size)).heap.size (wr.setCell ⟨w.heap.size, k, none⟩ (ptrV wr.heap.size)) ((wr.setCell ⟨w.heap.size, k, none⟩ (ptrV wr.heap.size)).alloc (.cells #[cutV (us.getD k s0V)] 131)) := (Below.refl _ _).alloc (Nat.le_refl _) _
      have hnew : ((wr.setCell ⟨w.heap.size, k, none⟩ (ptrV wr.heap.size)).alloc (.cells #[cutV (us.getD k s0V)] 131)).heap[wr.heap.size]? = some (.cells #[cutV (us.getD k s0V)] 131 (0, 0)) := by
        have := heap_alloc_new (wr.setCell ⟨w.heap.size, k, none⟩ (ptrV wr.heap.size)) (.cells #[cutV (us.getD k s0V)] 131)
        rw [hs0] at this; exact this
      have hs1 : ((wr.setCell ⟨w.heap.size, k, none⟩ (ptrV wr.heap.size)).alloc (.cells #[cutV (us.getD k s0V)] 131)).heap.size = wr.heap.size + 1 := by rw [World.size_alloc, hs0]
      have R2 := Lib.hid r2
      have HROW : Hid (∀ j, j < k + 1 → ((wr.setCell ⟨w.heap.size, k, none⟩ (ptrV wr.heap.size)).alloc (.cells #[cutV (us.getD k s0V)] 131)).heap[(bs ++ [wr.heap.size]).getD j 0]? = some (segRow (us.getD j s0V)) ∧ w.heap.size < (bs ++ [wr.heap.size]).getD j 0 ∧ (bs ++ [wr.heap.size]).getD j 0 < ((wr.setCell ⟨w.heap.size, k, none⟩ (ptrV wr.heap.size)).alloc (.cells #[cutV (us.getD k s0V)] 131)).heap.size) := Lib.hid (fun j hj => by
        by_cases e : j = k
        · rw [getD_app_eq (by omega), e]
          exact ⟨hnew, hsz, by omega⟩
        · rw [getD_app_lt (by omega)]
          obtain ⟨g1, g2, g3⟩ := hrow.out j (by omega)
          exact ⟨(hal.block _ (by omega)).trans ((tt.block _ g3 (fun q => by omega)).trans g1), g2, by omega⟩)
      have HDIS : Hid (∀ i j, i < k + 1 → j < k + 1 → i ≠ j → (bs ++ [wr.heap.size]).getD i 0 ≠ (bs ++ [wr.heap.size]).getD j 0) := Lib.hid (fun i j hi hj hij => by
        by_cases e1 : i = k
        · rw [getD_app_eq (by omega), getD_app_lt (by omega)]
          have := (hrow.out j (by omega)).2.2; omega
        · by_cases e2 : j = k
          · rw [getD_app_lt (by omega), getD_app_eq (by omega)]
            have := (hrow.out i (by omega)).2.2; omega
          · rw [getD_app_lt (by omega), getD_app_lt (by omega)]
            exact hdis.out i j (by omega) (by omega) hij)
      have D2 : Hid (Below w.heap.size w ((wr.setCell ⟨w.heap.size, k, none⟩ (ptrV wr.heap.size)).alloc (.cells #[cutV (us.getD k s0V)] 131))) := Lib.hid ((below_turn hbel tt (fun x hx => by omega) (by omega)).trans (hal.mono (by omega)))
      have S2 : Hid (w.heap.size < ((wr.setCell ⟨w.heap.size, k, none⟩ (ptrV wr.heap.size)).alloc (.cells #[cutV (us.getD k s0V)] 131)).heap.size) := Lib.hid (by omega)
      have HBL : Hid ((bs ++ [wr.heap.size]).length = k + 1) := Lib.hid (by rw [List.length_append]; simp; omega)
      clear hset r1 r2 hal tt hnew hs0 hs1 hrow hdis hown hbel hbs
      generalize us.getD k s0V = u at *
      obtain ⟨ua, n, uc⟩ := u
      simp only [segV, cutV, ptrV] at *
      have j1 : (n : Int) ≤ (uc : Int) := by omega
      go_wp2
      go_roundw
      case rel => exact ⟨k + 1, _, by omega, by go_num, HBL.out, R2.out, HROW, HDIS, D2.out, S2.out⟩
      case measure => simp [intOf]; omega
    · obtain rfl : k = us.length := by omega
      have HO := Lib.hid hown
      clear hown
      go_wp2
      go_ret
      have ho := HO.out
      refine ⟨w.heap.size, bs, rfl, by simpa using ho, ⟨Nat.le_refl _, hsz, hbs, fun j hj => ⟨?_, (hrow.out j hj).1, (hrow.out j hj).2.1⟩, hdis.out⟩, hbel⟩
      refine (World.ownsRow.cellAt ho j (by omega)).trans ?_
      rw [List.getElem?_append_left (by rw [List.length_map]; omega), List.getElem?_map]
      simp [List.getD, show j < bs.length by omega]
end Go.Proofs.Ythiiaiholcfhhaa
namespace Go.Proofs.Ythiiaiholcfhhaa
open Go.RowKit
set_option linter.unusedVariables false
set_option linter.unusedSimpArgs false
end Go.Proofs.Ythiiaiholcfhhaa
namespace Go.Proofs.Ythiiaiholcfhhaa
open Go.RowKit
set_option linter.unusedVariables false
set_option linter.unusedSimpArgs false
/-- The row of a segment's block. -/
def segCells (v : Value) : Obj := .cells #[v] 131 (0, 0)
def tSegP : Ty (List VerD) where
  n := 1
  d := []
  R := fun w cs xs => ∃ b v, cs = [ptrV b] ∧ w.heap[b]? = some (segCells v) ∧ SlR tVersion w v xs
  O := fun w F cs xs => ∃ (b : Nat) (v : Value) (F1 : Nat → Prop), cs = [ptrV b] ∧ F b ∧ w.heap[b]? = some (segCells v) ∧ SlO 88 tVersion w F1 v xs ∧ (∀ k, F1 k → F k) ∧ ¬ F1 b
  sz := fun _ => 0
  nd := fun _ => 0
  nv := fun _ => 0
  md := fun x _ => x
  mv := fun x _ => x
  ok := fun _ => True
  s := 0
theorem tSegP_law : tSegP.Law where
  pos := Nat.one_pos
  len := fun {w cs x} h => by obtain ⟨b, v, rfl, _⟩ := h; rfl
  below := fun {W w cs x} h hb => by
    obtain ⟨b, v, e, h1, h2⟩ := h
    exact ⟨b, v, e, (hb.block b (Array.getElem?_eq_some_iff.1 h1).1).trans h1, slR_below tVersion_law h2 hb⟩
  reads := fun {w F cs x} h => by
    obtain ⟨b, v, F1, e, _, h1, h2, _⟩ := h
    exact ⟨b, v, e, h1, slO_reads tVersion_law h2⟩
  turn := fun {w w' F G cs x} h k hd => by
    obtain ⟨b, v, F1, e, h0, h1, h2, h3, h4⟩ := h
    exact ⟨b, v, F1, e, h0, (k.block b (Array.getElem?_eq_some_iff.1 h1).1 (hd b h0)).trans h1, slO_turn tVersion_law h2 k (fun b g => hd b (h3 b g)), h3, h4⟩
  mono := fun {w F F' cs x} h hf => by
    obtain ⟨b, v, F1, e, h0, h1, h2, h3, h4⟩ := h
    exact ⟨b, v, F1, e, hf b h0, h1, h2, fun k g => hf k (h3 k g), h4⟩
  lt := fun {w F cs x} h => by
    obtain ⟨b, v, F1, e, h0, h1, h2, h3, h4⟩ := h
    exact ⟨b, v, _, e, ⟨h0, (Array.getElem?_eq_some_iff.1 h1).1⟩, h1, slO_lt tVersion_law h2, fun k g => ⟨h3 k g.1, g.2⟩, fun g => h4 g.1⟩
  nd_le := fun x => Nat.zero_le _
  nv_le := fun x => Nat.zero_le _
/-- What add leaves. -/
def Added (w : World) (b D : Nat) (F : Nat → Prop) (xs : List VerD) (e : Ending) (w' : World) : Prop :=
  ∃ v', e = .returned (.tuple #[]) ∧ w'.heap[b]? = some (segCells v') ∧ SlO 88 tVersion w' F v' xs ∧ Turn (fun k => k = b ∨ (F k ∧ k < D)) w w'
set_option maxHeartbeats 8000000 in
set_option maxRecDepth 100000 in
theorem add_any (b D : Nat) (F : Nat → Prop) (v0 : Value) (ys : List VerD) (id born died : Int) (xa : Option Addr) (xc : Nat) (xs : List Int) (w : World) (hb : w.heap[b]? = some (segCells v0)) (h0 : SlO 88 tVersion w (fun k => F k ∧ k < D) v0 ys)
    (hD : D ≤ w.heap.size) (hbD : b < D) (hFb : ¬ F b) (hf : ∀ k, D ≤ k → F k) (hx : SlO 3 tInt w (fun k => D ≤ k) (.slice xa xs.length xc) xs) (hn : ys.length ≤ 1048576) :
    Calls Try.prog 68 #[ptrV b, .agg #[.int .i64 id, .slice xa xs.length xc, .int .i64 born, .int .i64 died]] w (Added w b D F (ys ++ [(id, xs, born, died)])) := by
  obtain ⟨va, vc, rfl⟩ := slO_len h0
  have hal : Below w.heap.size w (w.alloc (.cells #[.int .i64 id, .slice xa xs.length xc, .int .i64 born, .int .i64 died] 88)) := (Below.refl _ _).alloc (Nat.le_refl _) _
  have d := Lib.hid hal
  have BV : Hid ((w.alloc (.cells #[.int .i64 id, .slice xa xs.length xc, .int .i64 born, .int .i64 died] 88)).heap[w.heap.size]? = some (.cells #[.int .i64 id, .slice xa xs.length xc, .int .i64 born, .int .i64 died] 88 (0, 0))) := Lib.hid (heap_alloc_new w _)
  have BS : Hid ((w.alloc (.cells #[.int .i64 id, .slice xa xs.length xc, .int .i64 born, .int .i64 died] 88)).heap[b]? = some (.cells #[.slice va ys.length vc] 131 (0, 0))) := Lib.hid ((hal.block b (by omega)).trans hb)
  have PP := Lib.hid (slO_fresh tVersion_law h0 hal)
  have QP := Lib.hid (fun k (h : F k ∧ k < D) => h)
  have PX := Lib.hid (slO_lt tInt_law (slO_fresh tInt_law hx hal))
  have QX := Lib.hid (fun k (h : D ≤ k ∧ k < (w.alloc (.cells #[.int .i64 id, .slice xa xs.length xc, .int .i64 born, .int .i64 died] 88)).heap.size) => h)
  have Z0 : Hid (w.heap.size < (w.alloc (.cells #[.int .i64 id, .slice xa xs.length xc, .int .i64 born, .int .i64 died] 88)).heap.size) := Lib.hid (by simp [World.size_alloc])
  have Z1 := Lib.hid hD
  have Z2 := Lib.hid hbD
  have HFB := Lib.hid hFb
  have HF := Lib.hid hf
  have HN := Lib.hid hn
  clear hb h0 hD hbD hFb hf hx hn hal
  unfold ptrV
  go_enter Try.func68, Try.ntmps68
  go_wp2
  generalize w.alloc (.cells #[.int .i64 id, .slice xa xs.length xc, .int .i64 born, .int .i64 died] 88) = W at *
  have p_BV_0 := (cell_of_row W _ 0 _ _ _ BV.out).trans (show _ = some (Value.int .i64 id) from rfl)
  have p_BV_1 := (cell_of_row W _ 1 _ _ _ BV.out).trans (show _ = some (Value.slice xa xs.length xc) from rfl)
  have p_BV_2 := (cell_of_row W _ 2 _ _ _ BV.out).trans (show _ = some (Value.int .i64 born) from rfl)
  have p_BV_3 := (cell_of_row W _ 3 _ _ _ BV.out).trans (show _ = some (Value.int .i64 died) from rfl)
  refine wp_region_held_drew (S := fun w' => w'.cell? ⟨w.heap.size, 0, none⟩ = some (Value.int .i64 id) ∧ w'.cell? ⟨w.heap.size, 1, none⟩ = some (Value.slice xa xs.length xc) ∧ w'.cell? ⟨w.heap.size, 2, none⟩ = some (Value.int .i64 born) ∧ w'.cell? ⟨w.heap.size, 3, none⟩ = some (Value.int .i64 died)) (by kernel_rfl) ⟨p_BV_0, p_BV_1, p_BV_2, p_BV_3⟩ (fun hHeld => ?_)
  clear p_BV_0 p_BV_1 p_BV_2 p_BV_3
  have cdr : Below W.heap.size W W.drew := below_drew (Below.refl _ _)
  replace BV := Lib.hid ((cdr.block w.heap.size (Array.getElem?_eq_some_iff.1 BV.out).1).trans BV.out)
  replace BS := Lib.hid ((cdr.block b (Array.getElem?_eq_some_iff.1 BS.out).1).trans BS.out)
  replace PP := Lib.hid (slO_fresh tVersion_law PP.out cdr)
  replace PX := Lib.hid (slO_fresh tInt_law PX.out cdr)
  replace d := Lib.hid (d.out.trans (cdr.mono d.out.size))
  clear cdr
  have Z_dr := Lib.hid (show W.heap.size ≤ W.drew.heap.size from Nat.le_refl _)
  generalize W.drew = Wd at *
  refine take_runs (i := 0) (v := ?_) (by simp only [List.getElem?_toArray, List.getElem?_cons_succ, List.getElem?_cons_zero]; rfl) (by kernel_rfl) (by kernel_rfl) (by kernel_rfl) rfl (by exact fun _ _ _ h => h) (by rfl) ?_ (by assumption) ?_
  rotate_left
  · intro w hSw; (try dsimp only at hSw); go_simp; try (with_reducible rfl)
  try simp only [Act.put, List.setIfInBounds_toArray, List.set_cons_zero, List.set_cons_succ]
  refine take_runs (i := 1) (v := ?_) (by simp only [List.getElem?_toArray, List.getElem?_cons_succ, List.getElem?_cons_zero]; rfl) (by kernel_rfl) (by kernel_rfl) (by kernel_rfl) rfl (by exact fun _ _ _ h => h) (by rfl) ?_ (by assumption) ?_
  rotate_left
  · intro w hSw; (try dsimp only at hSw); go_simp; try (with_reducible rfl)
  try simp only [Act.put, List.setIfInBounds_toArray, List.set_cons_zero, List.set_cons_succ]
  refine take_runs (i := 2) (v := ?_) (by simp only [List.getElem?_toArray, List.getElem?_cons_succ, List.getElem?_cons_zero]; rfl) (by kernel_rfl) (by kernel_rfl) (by kernel_rfl) rfl (by exact fun _ _ _ h => h) (by rfl) ?_ (by assumption) ?_
  rotate_left
  · intro w hSw; (try dsimp only at hSw); go_simp; try (with_reducible rfl)
  try simp only [Act.put, List.setIfInBounds_toArray, List.set_cons_zero, List.set_cons_succ]
  refine take_runs (i := 3) (v := ?_) (by simp only [List.getElem?_toArray, List.getElem?_cons_succ, List.getElem?_cons_zero]; rfl) (by kernel_rfl) (by kernel_rfl) (by kernel_rfl) rfl (by exact fun _ _ _ h => h) (by rfl) ?_ (by assumption) ?_
  rotate_left
  · intro w hSw; (try dsimp only at hSw); go_simp; try (with_reducible rfl)
  try simp only [Act.put, List.setIfInBounds_toArray, List.set_cons_zero, List.set_cons_succ]
  refine take_runs (i := 5) (v := ?_) (by simp only [List.getElem?_toArray, List.getElem?_cons_succ, List.getElem?_cons_zero]; rfl) (by kernel_rfl) (by kernel_rfl) (by kernel_rfl) rfl (by exact fun _ _ _ h => h) (by rfl) ?_ (by assumption) ?_
  rotate_left
  · intro w hSw; (try dsimp only at hSw); go_simp; try (with_reducible rfl)
  try simp only [Act.put, List.setIfInBounds_toArray, List.set_cons_zero, List.set_cons_succ]
  refine wpAnyH_ready (rs := [4, 6]) (by kernel_rfl) (by simp) ?_
  refine (AllReadyH.cons (o := _) (by simp only [List.getElem?_toArray, List.getElem?_cons_succ, List.getElem?_cons_zero]; rfl) (fun K hK => ?_) (AllReadyH.cons (o := _) (by simp only [List.getElem?_toArray, List.getElem?_cons_succ, List.getElem?_cons_zero]; rfl) (fun K hK => ?_) AllReadyH.nil))
  · have p_BS_0 := (cell_of_row Wd _ 0 _ _ _ BS.out).trans (show _ = some (Value.slice va ys.length vc) from rfl)
    go_simp
    clear p_BS_0
    have p_BV_0 := (cell_of_row Wd _ 0 _ _ _ BV.out).trans (show _ = some (Value.int .i64 id) from rfl)
    have p_BV_1 := (cell_of_row Wd _ 1 _ _ _ BV.out).trans (show _ = some (Value.slice xa xs.length xc) from rfl)
    have p_BV_2 := (cell_of_row Wd _ 2 _ _ _ BV.out).trans (show _ = some (Value.int .i64 born) from rfl)
    have p_BV_3 := (cell_of_row Wd _ 3 _ _ _ BV.out).trans (show _ = some (Value.int .i64 died) from rfl)
    refine hK.out _ _ ⟨p_BV_0, p_BV_1, p_BV_2, p_BV_3⟩ (fun hHeld => ?_)
    clear p_BV_0 p_BV_1 p_BV_2 p_BV_3
    clear hK K
    try simp only [Act.put, List.setIfInBounds_toArray, List.set_cons_zero, List.set_cons_succ]
    refine wpAnyH_ready (rs := [6]) (by kernel_rfl) (by simp) ?_
    refine (AllReadyH.cons (o := _) (by simp only [List.getElem?_toArray, List.getElem?_cons_succ, List.getElem?_cons_zero]; rfl) (fun K hK => ?_) AllReadyH.nil)
    go_simp
    have hal : Below Wd.heap.size Wd (Wd.alloc (.cells #[.int .i64 id, .slice xa xs.length xc, .int .i64 born, .int .i64 died] 88)) := (Below.refl _ _).alloc (Nat.le_refl _) _
    have KBV := BV
    have KBS := BS
    have KPP := PP
    have KPX := PX
    have Kd := d
    replace BV := Lib.hid ((hal.block w.heap.size (Array.getElem?_eq_some_iff.1 BV.out).1).trans BV.out)
    replace BS := Lib.hid ((hal.block b (Array.getElem?_eq_some_iff.1 BS.out).1).trans BS.out)
    replace PP := Lib.hid (slO_fresh tVersion_law PP.out hal)
    replace PX := Lib.hid (slO_fresh tInt_law PX.out hal)
    replace d := Lib.hid (d.out.trans (hal.mono d.out.size))
    clear hal
    have p_BV_0 := (cell_of_row (Wd.alloc (.cells #[.int .i64 id, .slice xa xs.length xc, .int .i64 born, .int .i64 died] 88)) _ 0 _ _ _ BV.out).trans (show _ = some (Value.int .i64 id) from rfl)
    have p_BV_1 := (cell_of_row (Wd.alloc (.cells #[.int .i64 id, .slice xa xs.length xc, .int .i64 born, .int .i64 died] 88)) _ 1 _ _ _ BV.out).trans (show _ = some (Value.slice xa xs.length xc) from rfl)
    have p_BV_2 := (cell_of_row (Wd.alloc (.cells #[.int .i64 id, .slice xa xs.length xc, .int .i64 born, .int .i64 died] 88)) _ 2 _ _ _ BV.out).trans (show _ = some (Value.int .i64 born) from rfl)
    have p_BV_3 := (cell_of_row (Wd.alloc (.cells #[.int .i64 id, .slice xa xs.length xc, .int .i64 born, .int .i64 died] 88)) _ 3 _ _ _ BV.out).trans (show _ = some (Value.int .i64 died) from rfl)
    refine hK.out _ _ ⟨p_BV_0, p_BV_1, p_BV_2, p_BV_3⟩ (fun hHeld => ?_)
    clear p_BV_0 p_BV_1 p_BV_2 p_BV_3
    clear hK K
    try simp only [Act.put, List.setIfInBounds_toArray, List.set_cons_zero, List.set_cons_succ]
    refine wpAnyH_ready (rs := [7]) (by kernel_rfl) (by simp) ?_
    refine (AllReadyH.cons (o := _) (by simp only [List.getElem?_toArray, List.getElem?_cons_succ, List.getElem?_cons_zero]; rfl) (fun K hK => ?_) AllReadyH.nil)
    have y0 := Z0.out
    have y1 := Z1.out
    have y2 := Z2.out
    have y3 := Z_dr.out
    have hsX : W.heap.size ≤ Wd.heap.size := Z_dr.out
    have hnew : tVersion.O Wd (fun k => D ≤ k) [.int .i64 id, .slice xa xs.length xc, .int .i64 born, .int .i64 died] (id, xs, born, died) := tVersion_mkO KPX.out (fun k h => by have r := QX.out k h; exact r.1)
    refine step_append_T tVersion_law info_T_Version Try.underlying89 rfl rfl (.tmp 8) (.tmp 10) rfl F D _ ys rfl KPP.out (by omega) HF.out HN.out [.int .i64 id, .slice xa xs.length xc, .int .i64 born, .int .i64 died] (id, xs, born, died) hnew (by simp [Value.oneCell']) 1 _ rfl rfl ?_
    intro v' w6 o6 t6
    obtain ⟨ga, gc, hv⟩ := slO_len o6
    have hvl : (ys ++ [((id, xs, born, died) : VerD)]).length = ys.length + 1 := by simp
    rw [hvl] at hv
    subst hv
    have yd := Kd.out.size
    replace BS := Lib.hid ((t6.block b (by omega) (fun h => HFB.out h.1)).trans KBS.out)
    replace BV := Lib.hid ((t6.block w.heap.size (by omega) (fun h => by have r := h.2; omega)).trans KBV.out)
    have TT : Hid (Turn (fun k => k = b ∨ (F k ∧ k < D)) w w6) := Lib.hid ((turn_below Kd.out).trans (t6.mono (fun k h => Or.inr h)))
    have PG := Lib.hid o6
    have Z6 := Lib.hid t6.size
    clear hnew hsX o6 t6 yd hvl PP PX KPP KPX KBS KBV Kd d y0 y1 y2 y3
    have p_BV_0 := (cell_of_row w6 _ 0 _ _ _ BV.out).trans (show _ = some (Value.int .i64 id) from rfl)
    have p_BV_1 := (cell_of_row w6 _ 1 _ _ _ BV.out).trans (show _ = some (Value.slice xa xs.length xc) from rfl)
    have p_BV_2 := (cell_of_row w6 _ 2 _ _ _ BV.out).trans (show _ = some (Value.int .i64 born) from rfl)
    have p_BV_3 := (cell_of_row w6 _ 3 _ _ _ BV.out).trans (show _ = some (Value.int .i64 died) from rfl)
    refine hK.out _ _ ⟨p_BV_0, p_BV_1, p_BV_2, p_BV_3⟩ (fun hHeld => ?_)
    clear p_BV_0 p_BV_1 p_BV_2 p_BV_3
    clear hK K
    try simp only [Act.put, List.setIfInBounds_toArray, List.set_cons_zero, List.set_cons_succ]
    refine take_runs (i := 8) (v := ?_) (by simp only [List.getElem?_toArray, List.getElem?_cons_succ, List.getElem?_cons_zero]; rfl) (by kernel_rfl) (by kernel_rfl) (by kernel_rfl) rfl (by exact fun _ _ _ h => h) (by rfl) ?_ (by assumption) ?_
    rotate_left
    · intro w hSw; (try dsimp only at hSw); go_simp; try (with_reducible rfl)
    try simp only [Act.put, List.setIfInBounds_toArray, List.set_cons_zero, List.set_cons_succ]
    refine take_runs (i := 9) (v := ?_) (by simp only [List.getElem?_toArray, List.getElem?_cons_succ, List.getElem?_cons_zero]; rfl) (by kernel_rfl) (by kernel_rfl) (by kernel_rfl) rfl (by exact fun _ _ _ h => h) (by rfl) ?_ (by assumption) ?_
    rotate_left
    · intro w hSw; (try dsimp only at hSw); go_simp; try (with_reducible rfl)
    try simp only [Act.put, List.setIfInBounds_toArray, List.set_cons_zero, List.set_cons_succ]
    refine wpAnyH_ready (rs := [10]) (by kernel_rfl) (by simp) ?_
    refine (AllReadyH.cons (o := _) (by simp only [List.getElem?_toArray, List.getElem?_cons_succ, List.getElem?_cons_zero]; rfl) (fun K hK => ?_) AllReadyH.nil)
    have cx1 := (cell_of_row w6 _ 0 _ _ _ BS.out).trans (show _ = some (Value.slice va ys.length vc) from rfl)
    have fx1 := frozen_of_row w6 _ 0 _ _ BS.out
    go_simp
    clear cx1 fx1
    have tt : Turn (fun k => k = b) w6 (w6.setCell ⟨b, 0, none⟩ (.slice ga (ys.length + 1) gc)) := turn_set (G := fun k => k = b) (g := b) (j := 0) (u := .slice ga (ys.length + 1) gc) rfl
    have r := heap_setCell_same w6 b 0 _ _ (.slice ga (ys.length + 1) gc) BS.out
    replace BS : Hid ((w6.setCell ⟨b, 0, none⟩ (.slice ga (ys.length + 1) gc)).heap[b]? = some (.cells #[.slice ga (ys.length + 1) gc] 131 (0, 0))) := Lib.hid (by simpa using r)
    have y0 := Z0.out; have y1 := Z1.out; have y2 := Z2.out; have y6 := Z6.out
    have hbw : w.heap.size < w6.heap.size := (Array.getElem?_eq_some_iff.1 BV.out).1
    replace BV := Lib.hid ((tt.block w.heap.size hbw (fun h => by omega)).trans BV.out)
    replace PG := Lib.hid (slO_turn tVersion_law PG.out tt (fun k h1 h2 => HFB.out (by rw [← h2]; exact h1)))
    replace TT := Lib.hid (TT.out.trans (tt.mono (fun k h => Or.inl h)))
    clear tt r hbw y0 y1 y2 y6
    generalize (w6.setCell ⟨b, 0, none⟩ (.slice ga (ys.length + 1) gc)) = w7 at *
    have p_BV_0 := (cell_of_row w7 _ 0 _ _ _ BV.out).trans (show _ = some (Value.int .i64 id) from rfl)
    have p_BV_1 := (cell_of_row w7 _ 1 _ _ _ BV.out).trans (show _ = some (Value.slice xa xs.length xc) from rfl)
    have p_BV_2 := (cell_of_row w7 _ 2 _ _ _ BV.out).trans (show _ = some (Value.int .i64 born) from rfl)
    have p_BV_3 := (cell_of_row w7 _ 3 _ _ _ BV.out).trans (show _ = some (Value.int .i64 died) from rfl)
    refine hK.out _ _ ⟨p_BV_0, p_BV_1, p_BV_2, p_BV_3⟩ (fun hHeld => ?_)
    clear p_BV_0 p_BV_1 p_BV_2 p_BV_3
    clear hK K
    try simp only [Act.put, List.setIfInBounds_toArray, List.set_cons_zero, List.set_cons_succ]
    refine wpAnyH_done (by kernel_rfl) ?_ _
    clear hHeld
    go_wp2
    refine bodyPost_ret (v := .tuple #[]) ?_ rfl ?_
    · simp [results, Try.f68, go_sem]
    · exact ⟨_, rfl, BS.out, PG.out, TT.out⟩
  · go_simp
    have hal : Below Wd.heap.size Wd (Wd.alloc (.cells #[.int .i64 id, .slice xa xs.length xc, .int .i64 born, .int .i64 died] 88)) := (Below.refl _ _).alloc (Nat.le_refl _) _
    have KBV := BV
    have KBS := BS
    have KPP := PP
    have KPX := PX
    have Kd := d
    replace BV := Lib.hid ((hal.block w.heap.size (Array.getElem?_eq_some_iff.1 BV.out).1).trans BV.out)
    replace BS := Lib.hid ((hal.block b (Array.getElem?_eq_some_iff.1 BS.out).1).trans BS.out)
    replace PP := Lib.hid (slO_fresh tVersion_law PP.out hal)
    replace PX := Lib.hid (slO_fresh tInt_law PX.out hal)
    replace d := Lib.hid (d.out.trans (hal.mono d.out.size))
    clear hal
    have p_BV_0 := (cell_of_row (Wd.alloc (.cells #[.int .i64 id, .slice xa xs.length xc, .int .i64 born, .int .i64 died] 88)) _ 0 _ _ _ BV.out).trans (show _ = some (Value.int .i64 id) from rfl)
    have p_BV_1 := (cell_of_row (Wd.alloc (.cells #[.int .i64 id, .slice xa xs.length xc, .int .i64 born, .int .i64 died] 88)) _ 1 _ _ _ BV.out).trans (show _ = some (Value.slice xa xs.length xc) from rfl)
    have p_BV_2 := (cell_of_row (Wd.alloc (.cells #[.int .i64 id, .slice xa xs.length xc, .int .i64 born, .int .i64 died] 88)) _ 2 _ _ _ BV.out).trans (show _ = some (Value.int .i64 born) from rfl)
    have p_BV_3 := (cell_of_row (Wd.alloc (.cells #[.int .i64 id, .slice xa xs.length xc, .int .i64 born, .int .i64 died] 88)) _ 3 _ _ _ BV.out).trans (show _ = some (Value.int .i64 died) from rfl)
    refine hK.out _ _ ⟨p_BV_0, p_BV_1, p_BV_2, p_BV_3⟩ (fun hHeld => ?_)
    clear p_BV_0 p_BV_1 p_BV_2 p_BV_3
    clear hK K
    try simp only [Act.put, List.setIfInBounds_toArray, List.set_cons_zero, List.set_cons_succ]
    refine wpAnyH_ready (rs := [4]) (by kernel_rfl) (by simp) ?_
    refine (AllReadyH.cons (o := _) (by simp only [List.getElem?_toArray, List.getElem?_cons_succ, List.getElem?_cons_zero]; rfl) (fun K hK => ?_) AllReadyH.nil)
    have p_BS_0 := (cell_of_row (Wd.alloc (.cells #[.int .i64 id, .slice xa xs.length xc, .int .i64 born, .int .i64 died] 88)) _ 0 _ _ _ BS.out).trans (show _ = some (Value.slice va ys.length vc) from rfl)
    go_simp
    clear p_BS_0
    have p_BV_0 := (cell_of_row (Wd.alloc (.cells #[.int .i64 id, .slice xa xs.length xc, .int .i64 born, .int .i64 died] 88)) _ 0 _ _ _ BV.out).trans (show _ = some (Value.int .i64 id) from rfl)
    have p_BV_1 := (cell_of_row (Wd.alloc (.cells #[.int .i64 id, .slice xa xs.length xc, .int .i64 born, .int .i64 died] 88)) _ 1 _ _ _ BV.out).trans (show _ = some (Value.slice xa xs.length xc) from rfl)
    have p_BV_2 := (cell_of_row (Wd.alloc (.cells #[.int .i64 id, .slice xa xs.length xc, .int .i64 born, .int .i64 died] 88)) _ 2 _ _ _ BV.out).trans (show _ = some (Value.int .i64 born) from rfl)
    have p_BV_3 := (cell_of_row (Wd.alloc (.cells #[.int .i64 id, .slice xa xs.length xc, .int .i64 born, .int .i64 died] 88)) _ 3 _ _ _ BV.out).trans (show _ = some (Value.int .i64 died) from rfl)
    refine hK.out _ _ ⟨p_BV_0, p_BV_1, p_BV_2, p_BV_3⟩ (fun hHeld => ?_)
    clear p_BV_0 p_BV_1 p_BV_2 p_BV_3
    clear hK K
    try simp only [Act.put, List.setIfInBounds_toArray, List.set_cons_zero, List.set_cons_succ]
    refine wpAnyH_ready (rs := [7]) (by kernel_rfl) (by simp) ?_
    refine (AllReadyH.cons (o := _) (by simp only [List.getElem?_toArray, List.getElem?_cons_succ, List.getElem?_cons_zero]; rfl) (fun K hK => ?_) AllReadyH.nil)
    have y0 := Z0.out
    have y1 := Z1.out
    have y2 := Z2.out
    have y3 := Z_dr.out
    have hsX : W.heap.size ≤ Wd.heap.size := Z_dr.out
    have hnew : tVersion.O Wd (fun k => D ≤ k) [.int .i64 id, .slice xa xs.length xc, .int .i64 born, .int .i64 died] (id, xs, born, died) := tVersion_mkO KPX.out (fun k h => by have r := QX.out k h; exact r.1)
    refine step_append_T tVersion_law info_T_Version Try.underlying89 rfl rfl (.tmp 8) (.tmp 10) rfl F D _ ys rfl KPP.out (by omega) HF.out HN.out [.int .i64 id, .slice xa xs.length xc, .int .i64 born, .int .i64 died] (id, xs, born, died) hnew (by simp [Value.oneCell']) 1 _ rfl rfl ?_
    intro v' w6 o6 t6
    obtain ⟨ga, gc, hv⟩ := slO_len o6
    have hvl : (ys ++ [((id, xs, born, died) : VerD)]).length = ys.length + 1 := by simp
    rw [hvl] at hv
    subst hv
    have yd := Kd.out.size
    replace BS := Lib.hid ((t6.block b (by omega) (fun h => HFB.out h.1)).trans KBS.out)
    replace BV := Lib.hid ((t6.block w.heap.size (by omega) (fun h => by have r := h.2; omega)).trans KBV.out)
    have TT : Hid (Turn (fun k => k = b ∨ (F k ∧ k < D)) w w6) := Lib.hid ((turn_below Kd.out).trans (t6.mono (fun k h => Or.inr h)))
    have PG := Lib.hid o6
    have Z6 := Lib.hid t6.size
    clear hnew hsX o6 t6 yd hvl PP PX KPP KPX KBS KBV Kd d y0 y1 y2 y3
    have p_BV_0 := (cell_of_row w6 _ 0 _ _ _ BV.out).trans (show _ = some (Value.int .i64 id) from rfl)
    have p_BV_1 := (cell_of_row w6 _ 1 _ _ _ BV.out).trans (show _ = some (Value.slice xa xs.length xc) from rfl)
    have p_BV_2 := (cell_of_row w6 _ 2 _ _ _ BV.out).trans (show _ = some (Value.int .i64 born) from rfl)
    have p_BV_3 := (cell_of_row w6 _ 3 _ _ _ BV.out).trans (show _ = some (Value.int .i64 died) from rfl)
    refine hK.out _ _ ⟨p_BV_0, p_BV_1, p_BV_2, p_BV_3⟩ (fun hHeld => ?_)
    clear p_BV_0 p_BV_1 p_BV_2 p_BV_3
    clear hK K
    try simp only [Act.put, List.setIfInBounds_toArray, List.set_cons_zero, List.set_cons_succ]
    refine take_runs (i := 8) (v := ?_) (by simp only [List.getElem?_toArray, List.getElem?_cons_succ, List.getElem?_cons_zero]; rfl) (by kernel_rfl) (by kernel_rfl) (by kernel_rfl) rfl (by exact fun _ _ _ h => h) (by rfl) ?_ (by assumption) ?_
    rotate_left
    · intro w hSw; (try dsimp only at hSw); go_simp; try (with_reducible rfl)
    try simp only [Act.put, List.setIfInBounds_toArray, List.set_cons_zero, List.set_cons_succ]
    refine take_runs (i := 9) (v := ?_) (by simp only [List.getElem?_toArray, List.getElem?_cons_succ, List.getElem?_cons_zero]; rfl) (by kernel_rfl) (by kernel_rfl) (by kernel_rfl) rfl (by exact fun _ _ _ h => h) (by rfl) ?_ (by assumption) ?_
    rotate_left
    · intro w hSw; (try dsimp only at hSw); go_simp; try (with_reducible rfl)
    try simp only [Act.put, List.setIfInBounds_toArray, List.set_cons_zero, List.set_cons_succ]
    refine wpAnyH_ready (rs := [10]) (by kernel_rfl) (by simp) ?_
    refine (AllReadyH.cons (o := _) (by simp only [List.getElem?_toArray, List.getElem?_cons_succ, List.getElem?_cons_zero]; rfl) (fun K hK => ?_) AllReadyH.nil)
    have cx1 := (cell_of_row w6 _ 0 _ _ _ BS.out).trans (show _ = some (Value.slice va ys.length vc) from rfl)
    have fx1 := frozen_of_row w6 _ 0 _ _ BS.out
    go_simp
    clear cx1 fx1
    have tt : Turn (fun k => k = b) w6 (w6.setCell ⟨b, 0, none⟩ (.slice ga (ys.length + 1) gc)) := turn_set (G := fun k => k = b) (g := b) (j := 0) (u := .slice ga (ys.length + 1) gc) rfl
    have r := heap_setCell_same w6 b 0 _ _ (.slice ga (ys.length + 1) gc) BS.out
    replace BS : Hid ((w6.setCell ⟨b, 0, none⟩ (.slice ga (ys.length + 1) gc)).heap[b]? = some (.cells #[.slice ga (ys.length + 1) gc] 131 (0, 0))) := Lib.hid (by simpa using r)
    have y0 := Z0.out; have y1 := Z1.out; have y2 := Z2.out; have y6 := Z6.out
    have hbw : w.heap.size < w6.heap.size := (Array.getElem?_eq_some_iff.1 BV.out).1
    replace BV := Lib.hid ((tt.block w.heap.size hbw (fun h => by omega)).trans BV.out)
    replace PG := Lib.hid (slO_turn tVersion_law PG.out tt (fun k h1 h2 => HFB.out (by rw [← h2]; exact h1)))
    replace TT := Lib.hid (TT.out.trans (tt.mono (fun k h => Or.inl h)))
    clear tt r hbw y0 y1 y2 y6
    generalize (w6.setCell ⟨b, 0, none⟩ (.slice ga (ys.length + 1) gc)) = w7 at *
    have p_BV_0 := (cell_of_row w7 _ 0 _ _ _ BV.out).trans (show _ = some (Value.int .i64 id) from rfl)
    have p_BV_1 := (cell_of_row w7 _ 1 _ _ _ BV.out).trans (show _ = some (Value.slice xa xs.length xc) from rfl)
    have p_BV_2 := (cell_of_row w7 _ 2 _ _ _ BV.out).trans (show _ = some (Value.int .i64 born) from rfl)
    have p_BV_3 := (cell_of_row w7 _ 3 _ _ _ BV.out).trans (show _ = some (Value.int .i64 died) from rfl)
    refine hK.out _ _ ⟨p_BV_0, p_BV_1, p_BV_2, p_BV_3⟩ (fun hHeld => ?_)
    clear p_BV_0 p_BV_1 p_BV_2 p_BV_3
    clear hK K
    try simp only [Act.put, List.setIfInBounds_toArray, List.set_cons_zero, List.set_cons_succ]
    refine wpAnyH_done (by kernel_rfl) ?_ _
    clear hHeld
    go_wp2
    refine bodyPost_ret (v := .tuple #[]) ?_ rfl ?_
    · simp [results, Try.f68, go_sem]
    · exact ⟨_, rfl, BS.out, PG.out, TT.out⟩
end Go.Proofs.Ythiiaiholcfhhaa
namespace Go.Proofs.Ythiiaiholcfhhaa
open Go.RowKit
set_option linter.unusedVariables false
set_option linter.unusedSimpArgs false
/-- A table that is owned, taken apart. -/
theorem tab_parts {w : World} {F : Nat → Prop} {g n cap : Nat} {ps : List (List VerD)} (h : SlO 102 tSegP w F (.slice (some ⟨g, 0, none⟩) n cap) ps) (hn : n = ps.length) :
    g < w.heap.size ∧ ∃ (bs : Nat → Nat) (vs : Nat → Value) (Fs : Nat → Nat → Prop), (∀ j, j < n → w.cell? ⟨g, j, none⟩ = some (ptrV (bs j)) ∧ w.heap[bs j]? = some (segCells (vs j)) ∧ SlO 88 tVersion w (Fs j) (vs j) (ps.getD j []) ∧ ∀ b, Fs j b → F b ∧ b < w.heap.size) ∧ ∀ i j, i < n → j < n → i ≠ j → ∀ b, Fs i b → ¬ Fs j b := by
  obtain ⟨L, us, Fs, h1, h2, h3, h4⟩ := slO_lt tSegP_law h
  refine ⟨(h2 g rfl).2, ?_⟩
  subst hn
  haveI : Inhabited (Nat × Value × (Nat → Prop)) := ⟨(0, .slice none 0 0, fun _ => False)⟩
  obtain ⟨f, hf⟩ := Go.Deep.choose_lt (α := Nat × Value × (Nat → Prop)) (n := ps.length) (p := fun j u => us j = [ptrV u.1] ∧ w.heap[u.1]? = some (segCells u.2.1) ∧ SlO 88 tVersion w u.2.2 u.2.1 (ps.getD j []) ∧ ∀ b, u.2.2 b → Fs j b) (fun j hj => by
    obtain ⟨_, hO, _⟩ := h3 j hj
    obtain ⟨b, v, F1, e, _, g1, g2, g3, _⟩ := hO
    exact ⟨(b, v, F1), e, g1, g2, g3⟩)
  refine ⟨fun j => (f j).1, fun j => (f j).2.1, fun j => (f j).2.2, fun j hj => ?_, fun i j hi hj hij b hb hc => h4 i j hi hj hij b ((hf i hi).2.2.2 b hb) ((hf j hj).2.2.2 b hc)⟩
  obtain ⟨g1, g2, g3, g4⟩ := hf j hj
  refine ⟨?_, g2, g3, fun b hb => ((h3 j hj).2.2 b (g4 b hb)).1⟩
  have hc := (h3 j hj).1 0 (by decide)
  rw [show tSegP.n = 1 from rfl, Nat.mul_one, Nat.add_zero, g1] at hc
  exact (World.ownsRow.cellAt h1 j (by show j < ps.length * 1; omega)).trans hc
theorem val_set {vs : Nat → Value} {n k : Nat} (hk : k < n) : ((List.range k).map vs ++ List.replicate (n - k) (Value.slice none 0 0)).set k (vs k) = (List.range (k + 1)).map vs ++ List.replicate (n - (k + 1)) (Value.slice none 0 0) := by
  have hl : ((List.range k).map vs).length = k := by simp
  rw [List.set_append_right _ _ (by omega), hl, Nat.sub_self, show n - k = (n - (k + 1)) + 1 by omega, List.replicate_succ, List.set_cons_zero, List.range_succ, List.map_append, List.append_assoc]
  rfl
def Listed (w : World) (F : Nat → Prop) (ps : List (List VerD)) (e : Ending) (w' : World) : Prop := ∃ v, e = .returned v ∧ SlO 89 tVersionS w' (fun b => F b ∨ w.heap.size ≤ b) v ps ∧ Below w.heap.size w w'
set_option maxHeartbeats 8000000 in
set_option maxRecDepth 100000 in
theorem lists_any (g n : Nat) (F : Nat → Prop) (ps : List (List VerD)) (w : World) (h : SlO 102 tSegP w F (.slice (some ⟨g, 0, none⟩) n n) ps) (hn : n = ps.length) (hl : n ≤ 1048576) :
    Calls Try.prog 60 #[.slice (some ⟨g, 0, none⟩) n n] w (Listed w F ps) := by
  obtain ⟨i0, hi, hz0, hz1, hz2⟩ := info_T_VersionS
  have HI := Lib.hid hi; have HZ0 := Lib.hid hz0; have HZ1 : Hid (i0.size = 1) := Lib.hid hz1; have HZ2 := Lib.hid hz2
  clear hi hz0 hz1 hz2
  obtain ⟨hg, bs, vs, Fs, hp, hd⟩ := tab_parts h hn
  have HP := Lib.hid hp
  have HD := Lib.hid hd
  have HG := Lib.hid hg
  have HN := Lib.hid hn
  clear h hp hd hg hn
  go_enter Try.func60, Try.ntmps60
  go_wp2_with (at_make; refine wpList_make_full _ rfl (.tmp 7) (.tmp 7) 39 rfl w.heap.size 89 i0 (.slice none 0 0) 1 Try.underlying39 HI.out HZ0.out HZ1.out _ _ _ _ n rfl rfl rfl rfl (by have := Nat.mul_le_mul HZ2.out hl; omega) (by unfold maxLen; omega) (Nat.le_refl _) ?_)
  intro w1 hown0 hg0
  have hbel1 := (Below.refl w.heap.size w).grown hg0 (Nat.le_refl _) (fun k hk => by cases hk)
  have hz : (madeCells #[Value.slice none 0 0] n).toList = List.replicate n (Value.slice none 0 0) := by
    apply List.ext_getElem?
    intro i
    unfold madeCells
    rw [Array.getElem?_toList, Array.getElem?_map]
    by_cases q : i < n
    · rw [Array.getElem?_range, if_pos q]
      simp [q, Nat.mod_one]
    · rw [Array.getElem?_range, if_neg q]
      simp [q]
  rw [hz] at hown0
  clear hg0 hz
  go_wp2
  go_loopw [11] (fun i wr => ∃ k : Nat, k ≤ n ∧ i = .int .i64 k ∧ wr.ownsRow w.heap.size 89 1 (.slice (some ⟨w.heap.size, 0, none⟩) n n) n ((List.range k).map vs ++ List.replicate (n - k) (Value.slice none 0 0)) ∧ Below w.heap.size w wr) (fun i _ => n - (intOf i).toNat)
  case atStart => exact ⟨0, Nat.zero_le _, rfl, hown0, hbel1⟩
  case round =>
    obtain ⟨k, hk, rfl, hown, hbel⟩ := hrel
    clear hown0 hbel1
    by_cases hlt : k < n
    · have i1 : (0 : Int) ≤ (k : Int) := by omega
      have i2 : (k : Int) < (n : Int) := by omega
      obtain ⟨c0, r0, o0, _⟩ := HP.out k hlt
      have p0 := (hbel.cell (p := ⟨g, k, none⟩) HG.out).trans c0
      have r1 := (hbel.block _ (Array.getElem?_eq_some_iff.1 r0).1).trans r0
      have q0 := (cell_of_row wr _ 0 _ _ _ r1).trans (show _ = some (vs k) from rfl)
      have hst := (World.ownsRow.stored hown k (vs k)).1
      rw [val_set hlt] at hst
      have y0 : ∃ x, wr.cell? ⟨w.heap.size, k, none⟩ = some x := ⟨_, (World.ownsRow.cellAt hown k (by omega)).trans (List.getElem?_eq_getElem (by simp; omega))⟩
      obtain ⟨y, y0⟩ := y0
      have f0 := World.ownsRow.frozenAt hown k
      have B3 := Lib.hid (hbel.setCell (p := ⟨w.heap.size, k, none⟩) (Nat.le_refl _) (vs k))
      have HST := Lib.hid hst
      obtain ⟨va, vc, hv⟩ := slO_len o0
      unfold ptrV at p0
      clear hst hown hbel c0 r0 r1 o0
      rw [hv] at q0
      have HV := Lib.hid hv
      generalize bs k = pb at *
      clear hv
      obtain ⟨m, hm⟩ : ∃ m, m = (ps.getD k []).length := ⟨_, rfl⟩
      have HVM : Hid (vs k = .slice va m vc) := Lib.hid (by rw [hm]; exact HV.out)
      rw [← hm] at q0
      rw [HVM.out] at B3 HST
      clear hm HV
      go_wp2
      go_roundw
      case rel => exact ⟨k + 1, by omega, by go_num, HST.out, B3.out⟩
      case measure => simp [intOf]; omega
    · obtain rfl : k = n := by omega
      have HO := Lib.hid hown
      have HB := Lib.hid hbel
      clear hown hbel
      go_wp2
      go_ret
      have ho := HO.out
      rw [Nat.sub_self, List.replicate_zero, List.append_nil] at ho
      have hnk := HN.out
      refine ⟨_, rfl, ⟨_, fun j => [vs j], Fs, by rw [← hnk]; exact row_low ho (Nat.zero_le _), fun b hb => ?_, fun j hj => ⟨fun i hi => ?_, ⟨vs j, rfl, ?_⟩, fun b hb => ?_⟩, fun i j hi hj hij => HD.out i j (by omega) (by omega) hij⟩, HB.out⟩
      · simp [Value.ownBlock] at hb; right; omega
      · have hi0 : i = 0 := by have : i < 1 := hi; omega
        subst hi0
        rw [show tVersionS.n = 1 from rfl, Nat.mul_one, Nat.add_zero, List.getElem?_map, List.getElem?_range (by omega)]
        rfl
      · exact slO_turn (G := fun _ => False) tVersion_law (HP.out j (by omega)).2.2.1 (turn_below HB.out) (fun _ _ => not_false)
      · obtain ⟨q1, q2⟩ := (HP.out j (by omega)).2.2.2 b hb
        refine ⟨Or.inl q1, fun q => ?_⟩
        simp [Value.ownBlock] at q
        omega
end Go.Proofs.Ythiiaiholcfhhaa
namespace Go.Proofs.Ythiiaiholcfhhaa
open Go.RowKit
set_option linter.unusedVariables false
set_option linter.unusedSimpArgs false
set_option maxHeartbeats 8000000 in
set_option maxRecDepth 100000 in
theorem implAreRows (v : Value) (rs : List RowD) (w : World) (h : RowsR w v rs) (hs : szL rs ≤ 1048576) :
    Calls Try.prog 65 #[v] w fun e w' => e = .returned (.bool (areB rs)) ∧ Below w.heap.size w w' := by
  have H := Lib.hid h
  have HS := Lib.hid hs
  have hlen := szL_len hs
  obtain ⟨a, cap, rfl⟩ := rowsR_len h
  clear h hs
  by_cases hbig : 32 < rs.length
  · have HF : Hid (areB rs = false) := Lib.hid (by unfold areB; rw [decide_eq_false (by omega)]; simp)
    have i0 : (32 : Int) < (rs.length : Int) := by omega
    have hd : decide ((32 : Int) < (rs.length : Int)) = true := decide_eq_true i0
    have hdn : decide (32 < rs.length) = true := decide_eq_true hbig
    go_enter Try.func65, Try.ntmps65
    go_wp2
    go_ret
    exact ⟨ret_b HF.out.symm, Below.refl _ _⟩
  have HT := Lib.hid (areB_all (rs := rs))
  have hd : decide ((32 : Int) < (rs.length : Int)) = false := decide_eq_false (by omega)
  have hdn : decide (32 < rs.length) = false := decide_eq_false hbig
  have HBIG := Lib.hid hbig
  clear hbig
  go_enter Try.func65, Try.ntmps65
  go_wp2
  clear hd hdn
  go_loopw [10] (fun i wr => ∃ k : Nat, k ≤ rs.length ∧ i = .int .i64 k ∧ Hid (AreTo rs k) ∧ Below w.heap.size w wr) (fun i _ => rs.length - (intOf i).toNat)
  case atStart => exact ⟨0, Nat.zero_le _, rfl, Lib.hid (fun i hi => by omega), Below.refl _ _⟩
  case round =>
    obtain ⟨k, hk, rfl, hall, hbel⟩ := hrel
    by_cases hlt : k < rs.length
    · have H1 := Lib.hid (rowsR_below H.out hbel)
      obtain ⟨b, off, cap', vv, hv, hbl, hc1, hc2, hI⟩ := rowsR_at H1.out hlt
      simp only [Value.slice.injEq] at hv
      obtain ⟨rfl, _, rfl⟩ := hv
      have hxl := szL_row HS.out hlt
      have HBAD := Lib.hid (areB_bad (rs := rs) (k := k) hlt)
      have HSTEP := Lib.hid (areTo_step hall.out)
      have HR := Lib.hid (fun w h => implIsRow (rs.getD k (0, [])).1 vv (rs.getD k (0, [])).2 w h hxl)
      have i1 : (0 : Int) ≤ (k : Int) := by omega
      have i2 : (k : Int) < (rs.length : Int) := by omega
      clear hall
      have er : (((rs.getD k (0, [])).1, (rs.getD k (0, [])).2) : RowD) = rs.getD k (0, []) := rfl
      rw [er] at HR
      clear er
      cases hrb : rowB (rs.getD k (0, [])) with
      | false =>
        have HF := Lib.hid (HBAD.out (Or.inl hrb))
        rw [hrb] at HR
        clear hrb HBAD HSTEP H1
        generalize (rs.getD k (0, [])).1 = id at *
        generalize (rs.getD k (0, [])).2 = xs at *
        obtain ⟨va, vcap, rfl⟩ := ints_len hI
        go_wp2
        have hW : Below wr.heap.size wr (wr.alloc (.cells #[.int .i64 id, .slice va xs.length vcap] 29)) := (Below.refl _ wr).alloc (Nat.le_refl _) _
        have g0 := heap_alloc_new wr (.cells #[.int .i64 id, .slice va xs.length vcap] 29)
        have hlt2 : wr.heap.size < (wr.alloc (.cells #[.int .i64 id, .slice va xs.length vcap] 29)).heap.size := by simp
        generalize wr.alloc (.cells #[.int .i64 id, .slice va xs.length vcap] 29) = W at *
        have q0 := cell_of_row W _ 0 _ _ _ g0
        have q1 := cell_of_row W _ 1 _ _ _ g0
        simp at q0 q1
        have hIW := ints_below hI hW
        refine wp_region_held_drew (S := fun w' => w'.cell? ⟨wr.heap.size, 0, none⟩ = some (.int .i64 id) ∧ w'.cell? ⟨wr.heap.size, 1, none⟩ = some (.slice va xs.length vcap)) (by kernel_rfl) ⟨q0, q1⟩ (fun hHeld => ?_)
        refine take_runs (i := 0) (v := ?_) (by simp only [List.getElem?_toArray, List.getElem?_cons_succ, List.getElem?_cons_zero]; rfl) (by kernel_rfl) (by kernel_rfl) (by kernel_rfl) rfl (by exact fun _ _ _ h => h) (by rfl) ?_ (by assumption) ?_
        rotate_left
        · intro w hSw; (try dsimp only at hSw); go_simp; try (with_reducible rfl)
        try simp only [Act.put, List.setIfInBounds_toArray, List.set_cons_zero, List.set_cons_succ]
        refine wpAnyH_ready (rs := [1]) (by kernel_rfl) (by simp) ?_
        refine AllReadyH.cons (o := _) (by simp only [List.getElem?_toArray, List.getElem?_cons_succ, List.getElem?_cons_zero]; rfl) (fun K hK => ?_) AllReadyH.nil
        go_simp
        refine (HR.out _ (by exact ints_heap hIW rfl)).mono ?_
        rintro e w8 ⟨rfl, b9⟩
        have b10 : Below W.heap.size W w8 := ⟨b9.os, b9.tape, b9.output, b9.size, b9.block⟩
        have s1 := (b10.cell (p := ⟨wr.heap.size, 0, none⟩) hlt2).trans q0
        have s2 := (b10.cell (p := ⟨wr.heap.size, 1, none⟩) hlt2).trans q1
        refine hK.out _ _ ⟨s1, s2⟩ (fun hHeld => ?_)
        clear hK K
        try simp only [Act.put, List.setIfInBounds_toArray, List.set_cons_zero, List.set_cons_succ]
        refine take_runs (i := 2) (v := ?_) (by simp only [List.getElem?_toArray, List.getElem?_cons_succ, List.getElem?_cons_zero]; rfl) (by kernel_rfl) (by kernel_rfl) (by kernel_rfl) rfl (by exact fun _ _ _ h => h) (by rfl) ?_ (by assumption) ?_
        rotate_left
        · intro w hSw; (try dsimp only at hSw); go_simp; try (with_reducible rfl)
        try simp only [Act.put, List.setIfInBounds_toArray, List.set_cons_zero, List.set_cons_succ]
        refine take_runs (i := 3) (v := ?_) (by simp only [List.getElem?_toArray, List.getElem?_cons_succ, List.getElem?_cons_zero]; rfl) (by kernel_rfl) (by kernel_rfl) (by kernel_rfl) rfl (by exact fun _ _ _ h => h) (by rfl) ?_ (by assumption) ?_
        rotate_left
        · intro w hSw; (try dsimp only at hSw); go_simp; try (with_reducible rfl)
        try simp only [Act.put, List.setIfInBounds_toArray, List.set_cons_zero, List.set_cons_succ]
        refine take_over (i := 4) (by simp only [List.getElem?_toArray, List.getElem?_cons_succ, List.getElem?_cons_zero]; rfl) (by kernel_rfl) (by kernel_rfl) (by kernel_rfl) rfl (by exact fun _ _ _ h => h) (by rfl) (by assumption) ?_
        try simp only [Act.put, List.setIfInBounds_toArray, List.set_cons_zero, List.set_cons_succ]
        refine take_over (i := 5) (by simp only [List.getElem?_toArray, List.getElem?_cons_succ, List.getElem?_cons_zero]; rfl) (by kernel_rfl) (by kernel_rfl) (by kernel_rfl) rfl (by exact fun _ _ _ h => h) (by rfl) (by assumption) ?_
        try simp only [Act.put, List.setIfInBounds_toArray, List.set_cons_zero, List.set_cons_succ]
        refine take_over (i := 6) (by simp only [List.getElem?_toArray, List.getElem?_cons_succ, List.getElem?_cons_zero]; rfl) (by kernel_rfl) (by kernel_rfl) (by kernel_rfl) rfl (by exact fun _ _ _ h => h) (by rfl) (by assumption) ?_
        try simp only [Act.put, List.setIfInBounds_toArray, List.set_cons_zero, List.set_cons_succ]
        refine take_over (i := 7) (by simp only [List.getElem?_toArray, List.getElem?_cons_succ, List.getElem?_cons_zero]; rfl) (by kernel_rfl) (by kernel_rfl) (by kernel_rfl) rfl (by exact fun _ _ _ h => h) (by rfl) (by assumption) ?_
        try simp only [Act.put, List.setIfInBounds_toArray, List.set_cons_zero, List.set_cons_succ]
        refine take_over (i := 8) (by simp only [List.getElem?_toArray, List.getElem?_cons_succ, List.getElem?_cons_zero]; rfl) (by kernel_rfl) (by kernel_rfl) (by kernel_rfl) rfl (by exact fun _ _ _ h => h) (by rfl) (by assumption) ?_
        try simp only [Act.put, List.setIfInBounds_toArray, List.set_cons_zero, List.set_cons_succ]
        refine take_over (i := 9) (by simp only [List.getElem?_toArray, List.getElem?_cons_succ, List.getElem?_cons_zero]; rfl) (by kernel_rfl) (by kernel_rfl) (by kernel_rfl) rfl (by exact fun _ _ _ h => h) (by rfl) (by assumption) ?_
        try simp only [Act.put, List.setIfInBounds_toArray, List.set_cons_zero, List.set_cons_succ]
        refine take_over (i := 10) (by simp only [List.getElem?_toArray, List.getElem?_cons_succ, List.getElem?_cons_zero]; rfl) (by kernel_rfl) (by kernel_rfl) (by kernel_rfl) rfl (by exact fun _ _ _ h => h) (by rfl) (by assumption) ?_
        try simp only [Act.put, List.setIfInBounds_toArray, List.set_cons_zero, List.set_cons_succ]
        refine take_over (i := 11) (by simp only [List.getElem?_toArray, List.getElem?_cons_succ, List.getElem?_cons_zero]; rfl) (by kernel_rfl) (by kernel_rfl) (by kernel_rfl) rfl (by exact fun _ _ _ h => h) (by rfl) (by assumption) ?_
        try simp only [Act.put, List.setIfInBounds_toArray, List.set_cons_zero, List.set_cons_succ]
        refine take_over (i := 12) (by simp only [List.getElem?_toArray, List.getElem?_cons_succ, List.getElem?_cons_zero]; rfl) (by kernel_rfl) (by kernel_rfl) (by kernel_rfl) rfl (by exact fun _ _ _ h => h) (by rfl) (by assumption) ?_
        try simp only [Act.put, List.setIfInBounds_toArray, List.set_cons_zero, List.set_cons_succ]
        refine take_over (i := 13) (by simp only [List.getElem?_toArray, List.getElem?_cons_succ, List.getElem?_cons_zero]; rfl) (by kernel_rfl) (by kernel_rfl) (by kernel_rfl) rfl (by exact fun _ _ _ h => h) (by rfl) (by assumption) ?_
        try simp only [Act.put, List.setIfInBounds_toArray, List.set_cons_zero, List.set_cons_succ]
        refine take_over (i := 14) (by simp only [List.getElem?_toArray, List.getElem?_cons_succ, List.getElem?_cons_zero]; rfl) (by kernel_rfl) (by kernel_rfl) (by kernel_rfl) rfl (by exact fun _ _ _ h => h) (by rfl) (by assumption) ?_
        try simp only [Act.put, List.setIfInBounds_toArray, List.set_cons_zero, List.set_cons_succ]
        refine take_over (i := 15) (by simp only [List.getElem?_toArray, List.getElem?_cons_succ, List.getElem?_cons_zero]; rfl) (by kernel_rfl) (by kernel_rfl) (by kernel_rfl) rfl (by exact fun _ _ _ h => h) (by rfl) (by assumption) ?_
        try simp only [Act.put, List.setIfInBounds_toArray, List.set_cons_zero, List.set_cons_succ]
        refine take_over (i := 16) (by simp only [List.getElem?_toArray, List.getElem?_cons_succ, List.getElem?_cons_zero]; rfl) (by kernel_rfl) (by kernel_rfl) (by kernel_rfl) rfl (by exact fun _ _ _ h => h) (by rfl) (by assumption) ?_
        try simp only [Act.put, List.setIfInBounds_toArray, List.set_cons_zero, List.set_cons_succ]
        refine take_runs (i := 17) (v := ?_) (by simp only [List.getElem?_toArray, List.getElem?_cons_succ, List.getElem?_cons_zero]; rfl) (by kernel_rfl) (by kernel_rfl) (by kernel_rfl) rfl (by exact fun _ _ _ h => h) (by rfl) ?_ (by assumption) ?_
        rotate_left
        · intro w hSw; (try dsimp only at hSw); go_simp; try (with_reducible rfl)
        try simp only [Act.put, List.setIfInBounds_toArray, List.set_cons_zero, List.set_cons_succ]
        refine wpAnyH_done (by kernel_rfl) ?_ _
        have b11 := hbel.trans ((hW.trans (b10.mono hW.size)).mono hbel.size)
        clear s1 s2 hHeld b9 b10
        try clear s3
        go_wp2
        go_ret
        exact ⟨ret_b HF.out.symm, b11⟩
      | true =>
        rw [hrb] at HR
        by_cases hz : k = 0
        · have HA := Lib.hid (HSTEP.out hrb (fun g => absurd g (by omega)))
          have hg : decide ((0 : Int) < (k : Int)) = false := decide_eq_false (by omega)
          have hgn : decide (0 < k) = false := decide_eq_false (by omega)
          clear hrb HBAD HSTEP H1 hz
          generalize (rs.getD k (0, [])).1 = id at *
          generalize (rs.getD k (0, [])).2 = xs at *
          obtain ⟨va, vcap, rfl⟩ := ints_len hI
          go_wp2
          have hW : Below wr.heap.size wr (wr.alloc (.cells #[.int .i64 id, .slice va xs.length vcap] 29)) := (Below.refl _ wr).alloc (Nat.le_refl _) _
          have g0 := heap_alloc_new wr (.cells #[.int .i64 id, .slice va xs.length vcap] 29)
          have hlt2 : wr.heap.size < (wr.alloc (.cells #[.int .i64 id, .slice va xs.length vcap] 29)).heap.size := by simp
          generalize wr.alloc (.cells #[.int .i64 id, .slice va xs.length vcap] 29) = W at *
          have q0 := cell_of_row W _ 0 _ _ _ g0
          have q1 := cell_of_row W _ 1 _ _ _ g0
          simp at q0 q1
          have hIW := ints_below hI hW
          refine wp_region_held_drew (S := fun w' => w'.cell? ⟨wr.heap.size, 0, none⟩ = some (.int .i64 id) ∧ w'.cell? ⟨wr.heap.size, 1, none⟩ = some (.slice va xs.length vcap)) (by kernel_rfl) ⟨q0, q1⟩ (fun hHeld => ?_)
          refine take_runs (i := 0) (v := ?_) (by simp only [List.getElem?_toArray, List.getElem?_cons_succ, List.getElem?_cons_zero]; rfl) (by kernel_rfl) (by kernel_rfl) (by kernel_rfl) rfl (by exact fun _ _ _ h => h) (by rfl) ?_ (by assumption) ?_
          rotate_left
          · intro w hSw; (try dsimp only at hSw); go_simp; try (with_reducible rfl)
          try simp only [Act.put, List.setIfInBounds_toArray, List.set_cons_zero, List.set_cons_succ]
          refine wpAnyH_ready (rs := [1]) (by kernel_rfl) (by simp) ?_
          refine AllReadyH.cons (o := _) (by simp only [List.getElem?_toArray, List.getElem?_cons_succ, List.getElem?_cons_zero]; rfl) (fun K hK => ?_) AllReadyH.nil
          go_simp
          refine (HR.out _ (by exact ints_heap hIW rfl)).mono ?_
          rintro e w8 ⟨rfl, b9⟩
          have b10 : Below W.heap.size W w8 := ⟨b9.os, b9.tape, b9.output, b9.size, b9.block⟩
          have s1 := (b10.cell (p := ⟨wr.heap.size, 0, none⟩) hlt2).trans q0
          have s2 := (b10.cell (p := ⟨wr.heap.size, 1, none⟩) hlt2).trans q1
          refine hK.out _ _ ⟨s1, s2⟩ (fun hHeld => ?_)
          clear hK K
          try simp only [Act.put, List.setIfInBounds_toArray, List.set_cons_zero, List.set_cons_succ]
          refine take_runs (i := 2) (v := ?_) (by simp only [List.getElem?_toArray, List.getElem?_cons_succ, List.getElem?_cons_zero]; rfl) (by kernel_rfl) (by kernel_rfl) (by kernel_rfl) rfl (by exact fun _ _ _ h => h) (by rfl) ?_ (by assumption) ?_
          rotate_left
          · intro w hSw; (try dsimp only at hSw); go_simp; try (with_reducible rfl)
          try simp only [Act.put, List.setIfInBounds_toArray, List.set_cons_zero, List.set_cons_succ]
          refine take_runs (i := 3) (v := ?_) (by simp only [List.getElem?_toArray, List.getElem?_cons_succ, List.getElem?_cons_zero]; rfl) (by kernel_rfl) (by kernel_rfl) (by kernel_rfl) rfl (by exact fun _ _ _ h => h) (by rfl) ?_ (by assumption) ?_
          rotate_left
          · intro w hSw; (try dsimp only at hSw); go_simp; try (with_reducible rfl)
          try simp only [Act.put, List.setIfInBounds_toArray, List.set_cons_zero, List.set_cons_succ]
          refine take_runs (i := 4) (v := ?_) (by simp only [List.getElem?_toArray, List.getElem?_cons_succ, List.getElem?_cons_zero]; rfl) (by kernel_rfl) (by kernel_rfl) (by kernel_rfl) rfl (by exact fun _ _ _ h => h) (by rfl) ?_ (by assumption) ?_
          rotate_left
          · intro w hSw; (try dsimp only at hSw); go_simp; try (with_reducible rfl)
          try simp only [Act.put, List.setIfInBounds_toArray, List.set_cons_zero, List.set_cons_succ]
          refine take_runs (i := 5) (v := ?_) (by simp only [List.getElem?_toArray, List.getElem?_cons_succ, List.getElem?_cons_zero]; rfl) (by kernel_rfl) (by kernel_rfl) (by kernel_rfl) rfl (by exact fun _ _ _ h => h) (by rfl) ?_ (by assumption) ?_
          rotate_left
          · intro w hSw; (try dsimp only at hSw); go_simp; try (with_reducible rfl)
          try simp only [Act.put, List.setIfInBounds_toArray, List.set_cons_zero, List.set_cons_succ]
          refine take_runs (i := 6) (v := ?_) (by simp only [List.getElem?_toArray, List.getElem?_cons_succ, List.getElem?_cons_zero]; rfl) (by kernel_rfl) (by kernel_rfl) (by kernel_rfl) rfl (by exact fun _ _ _ h => h) (by rfl) ?_ (by assumption) ?_
          rotate_left
          · intro w hSw; (try dsimp only at hSw); go_simp; try (with_reducible rfl)
          try simp only [Act.put, List.setIfInBounds_toArray, List.set_cons_zero, List.set_cons_succ]
          refine take_over (i := 7) (by simp only [List.getElem?_toArray, List.getElem?_cons_succ, List.getElem?_cons_zero]; rfl) (by kernel_rfl) (by kernel_rfl) (by kernel_rfl) rfl (by exact fun _ _ _ h => h) (by rfl) (by assumption) ?_
          try simp only [Act.put, List.setIfInBounds_toArray, List.set_cons_zero, List.set_cons_succ]
          refine take_over (i := 8) (by simp only [List.getElem?_toArray, List.getElem?_cons_succ, List.getElem?_cons_zero]; rfl) (by kernel_rfl) (by kernel_rfl) (by kernel_rfl) rfl (by exact fun _ _ _ h => h) (by rfl) (by assumption) ?_
          try simp only [Act.put, List.setIfInBounds_toArray, List.set_cons_zero, List.set_cons_succ]
          refine take_over (i := 9) (by simp only [List.getElem?_toArray, List.getElem?_cons_succ, List.getElem?_cons_zero]; rfl) (by kernel_rfl) (by kernel_rfl) (by kernel_rfl) rfl (by exact fun _ _ _ h => h) (by rfl) (by assumption) ?_
          try simp only [Act.put, List.setIfInBounds_toArray, List.set_cons_zero, List.set_cons_succ]
          refine take_over (i := 10) (by simp only [List.getElem?_toArray, List.getElem?_cons_succ, List.getElem?_cons_zero]; rfl) (by kernel_rfl) (by kernel_rfl) (by kernel_rfl) rfl (by exact fun _ _ _ h => h) (by rfl) (by assumption) ?_
          try simp only [Act.put, List.setIfInBounds_toArray, List.set_cons_zero, List.set_cons_succ]
          refine take_over (i := 11) (by simp only [List.getElem?_toArray, List.getElem?_cons_succ, List.getElem?_cons_zero]; rfl) (by kernel_rfl) (by kernel_rfl) (by kernel_rfl) rfl (by exact fun _ _ _ h => h) (by rfl) (by assumption) ?_
          try simp only [Act.put, List.setIfInBounds_toArray, List.set_cons_zero, List.set_cons_succ]
          refine take_over (i := 12) (by simp only [List.getElem?_toArray, List.getElem?_cons_succ, List.getElem?_cons_zero]; rfl) (by kernel_rfl) (by kernel_rfl) (by kernel_rfl) rfl (by exact fun _ _ _ h => h) (by rfl) (by assumption) ?_
          try simp only [Act.put, List.setIfInBounds_toArray, List.set_cons_zero, List.set_cons_succ]
          refine take_over (i := 13) (by simp only [List.getElem?_toArray, List.getElem?_cons_succ, List.getElem?_cons_zero]; rfl) (by kernel_rfl) (by kernel_rfl) (by kernel_rfl) rfl (by exact fun _ _ _ h => h) (by rfl) (by assumption) ?_
          try simp only [Act.put, List.setIfInBounds_toArray, List.set_cons_zero, List.set_cons_succ]
          refine take_over (i := 14) (by simp only [List.getElem?_toArray, List.getElem?_cons_succ, List.getElem?_cons_zero]; rfl) (by kernel_rfl) (by kernel_rfl) (by kernel_rfl) rfl (by exact fun _ _ _ h => h) (by rfl) (by assumption) ?_
          try simp only [Act.put, List.setIfInBounds_toArray, List.set_cons_zero, List.set_cons_succ]
          refine take_over (i := 15) (by simp only [List.getElem?_toArray, List.getElem?_cons_succ, List.getElem?_cons_zero]; rfl) (by kernel_rfl) (by kernel_rfl) (by kernel_rfl) rfl (by exact fun _ _ _ h => h) (by rfl) (by assumption) ?_
          try simp only [Act.put, List.setIfInBounds_toArray, List.set_cons_zero, List.set_cons_succ]
          refine take_runs (i := 16) (v := ?_) (by simp only [List.getElem?_toArray, List.getElem?_cons_succ, List.getElem?_cons_zero]; rfl) (by kernel_rfl) (by kernel_rfl) (by kernel_rfl) rfl (by exact fun _ _ _ h => h) (by rfl) ?_ (by assumption) ?_
          rotate_left
          · intro w hSw; (try dsimp only at hSw); go_simp; try (with_reducible rfl)
          try simp only [Act.put, List.setIfInBounds_toArray, List.set_cons_zero, List.set_cons_succ]
          refine take_runs (i := 17) (v := ?_) (by simp only [List.getElem?_toArray, List.getElem?_cons_succ, List.getElem?_cons_zero]; rfl) (by kernel_rfl) (by kernel_rfl) (by kernel_rfl) rfl (by exact fun _ _ _ h => h) (by rfl) ?_ (by assumption) ?_
          rotate_left
          · intro w hSw; (try dsimp only at hSw); go_simp; try (with_reducible rfl)
          try simp only [Act.put, List.setIfInBounds_toArray, List.set_cons_zero, List.set_cons_succ]
          refine wpAnyH_done (by kernel_rfl) ?_ _
          have b11 := hbel.trans ((hW.trans (b10.mono hW.size)).mono hbel.size)
          clear s1 s2 hHeld b9 b10
          try clear s3
          go_wp2
          go_roundw
          case rel => exact ⟨k + 1, by omega, by go_num, HA, b11⟩
          case measure => simp [intOf]; omega
        · obtain ⟨m, hkm⟩ : ∃ m, k = m + 1 := ⟨k - 1, by omega⟩
          have hml : m < rs.length := by omega
          obtain ⟨b', off', cap'', vv', hv', _, hc0, _, _⟩ := rowsR_at H1.out hml
          simp only [Value.slice.injEq, Option.some.injEq, Addr.mk.injEq] at hv'
          obtain ⟨⟨rfl, rfl, _⟩, _, rfl⟩ := hv'
          have hg : decide ((0 : Int) < (k : Int)) = true := decide_eq_true (by omega)
          have hgn : decide (0 < k) = true := decide_eq_true (by omega)
          have j1 : (0 : Int) ≤ (m : Int) := by omega
          have j2 : (m : Int) < (rs.length : Int) := by omega
          have hsub : IntKind.i64.wrap ((k : Int) - 1) = (m : Int) := by rw [IntWalk.i64_in _ (by omega)]; omega
          rw [show k - 1 = m by omega] at HBAD HSTEP
          by_cases hle : (rs.getD k (0, [])).1 ≤ (rs.getD m (0, [])).1
          · have HF := Lib.hid (HBAD.out (Or.inr ⟨by omega, by omega⟩))
            have hd := decide_eq_true hle
            clear hrb HBAD HSTEP H1 hz hle hkm
            generalize (rs.getD k (0, [])).1 = id at *
            generalize (rs.getD k (0, [])).2 = xs at *
            obtain ⟨va, vcap, rfl⟩ := ints_len hI
            generalize (rs.getD m (0, [])).1 = idp at *
            go_wp2
            have hW : Below wr.heap.size wr (wr.alloc (.cells #[.int .i64 id, .slice va xs.length vcap] 29)) := (Below.refl _ wr).alloc (Nat.le_refl _) _
            have g0 := heap_alloc_new wr (.cells #[.int .i64 id, .slice va xs.length vcap] 29)
            have hlt2 : wr.heap.size < (wr.alloc (.cells #[.int .i64 id, .slice va xs.length vcap] 29)).heap.size := by simp
            generalize wr.alloc (.cells #[.int .i64 id, .slice va xs.length vcap] 29) = W at *
            have q0 := cell_of_row W _ 0 _ _ _ g0
            have q1 := cell_of_row W _ 1 _ _ _ g0
            simp at q0 q1
            have hIW := ints_below hI hW
            have p0 := (hW.cell (p := ⟨b, off + m * 2, none⟩) hbl).trans hc0
            refine wp_region_held_drew (S := fun w' => w'.cell? ⟨wr.heap.size, 0, none⟩ = some (.int .i64 id) ∧ w'.cell? ⟨wr.heap.size, 1, none⟩ = some (.slice va xs.length vcap) ∧ w'.cell? ⟨b, off + m * 2, none⟩ = some (.int .i64 idp)) (by kernel_rfl) ⟨q0, q1, p0⟩ (fun hHeld => ?_)
            refine take_runs (i := 0) (v := ?_) (by simp only [List.getElem?_toArray, List.getElem?_cons_succ, List.getElem?_cons_zero]; rfl) (by kernel_rfl) (by kernel_rfl) (by kernel_rfl) rfl (by exact fun _ _ _ h => h) (by rfl) ?_ (by assumption) ?_
            rotate_left
            · intro w hSw; (try dsimp only at hSw); go_simp; try (with_reducible rfl)
            try simp only [Act.put, List.setIfInBounds_toArray, List.set_cons_zero, List.set_cons_succ]
            refine wpAnyH_ready (rs := [1]) (by kernel_rfl) (by simp) ?_
            refine AllReadyH.cons (o := _) (by simp only [List.getElem?_toArray, List.getElem?_cons_succ, List.getElem?_cons_zero]; rfl) (fun K hK => ?_) AllReadyH.nil
            go_simp
            refine (HR.out _ (by exact ints_heap hIW rfl)).mono ?_
            rintro e w8 ⟨rfl, b9⟩
            have b10 : Below W.heap.size W w8 := ⟨b9.os, b9.tape, b9.output, b9.size, b9.block⟩
            have s1 := (b10.cell (p := ⟨wr.heap.size, 0, none⟩) hlt2).trans q0
            have s2 := (b10.cell (p := ⟨wr.heap.size, 1, none⟩) hlt2).trans q1
            have s3 := (b10.cell (p := ⟨b, off + m * 2, none⟩) (Nat.lt_of_lt_of_le hbl hW.size)).trans p0
            refine hK.out _ _ ⟨s1, s2, s3⟩ (fun hHeld => ?_)
            clear hK K
            try simp only [Act.put, List.setIfInBounds_toArray, List.set_cons_zero, List.set_cons_succ]
            refine take_runs (i := 2) (v := ?_) (by simp only [List.getElem?_toArray, List.getElem?_cons_succ, List.getElem?_cons_zero]; rfl) (by kernel_rfl) (by kernel_rfl) (by kernel_rfl) rfl (by exact fun _ _ _ h => h) (by rfl) ?_ (by assumption) ?_
            rotate_left
            · intro w hSw; (try dsimp only at hSw); go_simp; try (with_reducible rfl)
            try simp only [Act.put, List.setIfInBounds_toArray, List.set_cons_zero, List.set_cons_succ]
            refine take_runs (i := 3) (v := ?_) (by simp only [List.getElem?_toArray, List.getElem?_cons_succ, List.getElem?_cons_zero]; rfl) (by kernel_rfl) (by kernel_rfl) (by kernel_rfl) rfl (by exact fun _ _ _ h => h) (by rfl) ?_ (by assumption) ?_
            rotate_left
            · intro w hSw; (try dsimp only at hSw); go_simp; try (with_reducible rfl)
            try simp only [Act.put, List.setIfInBounds_toArray, List.set_cons_zero, List.set_cons_succ]
            refine take_runs (i := 4) (v := ?_) (by simp only [List.getElem?_toArray, List.getElem?_cons_succ, List.getElem?_cons_zero]; rfl) (by kernel_rfl) (by kernel_rfl) (by kernel_rfl) rfl (by exact fun _ _ _ h => h) (by rfl) ?_ (by assumption) ?_
            rotate_left
            · intro w hSw; (try dsimp only at hSw); go_simp; try (with_reducible rfl)
            try simp only [Act.put, List.setIfInBounds_toArray, List.set_cons_zero, List.set_cons_succ]
            refine take_runs (i := 5) (v := ?_) (by simp only [List.getElem?_toArray, List.getElem?_cons_succ, List.getElem?_cons_zero]; rfl) (by kernel_rfl) (by kernel_rfl) (by kernel_rfl) rfl (by exact fun _ _ _ h => h) (by rfl) ?_ (by assumption) ?_
            rotate_left
            · intro w hSw; (try dsimp only at hSw); go_simp; try (with_reducible rfl)
            try simp only [Act.put, List.setIfInBounds_toArray, List.set_cons_zero, List.set_cons_succ]
            refine take_runs (i := 6) (v := ?_) (by simp only [List.getElem?_toArray, List.getElem?_cons_succ, List.getElem?_cons_zero]; rfl) (by kernel_rfl) (by kernel_rfl) (by kernel_rfl) rfl (by exact fun _ _ _ h => h) (by rfl) ?_ (by assumption) ?_
            rotate_left
            · intro w hSw; (try dsimp only at hSw); go_simp; try (with_reducible rfl)
            try simp only [Act.put, List.setIfInBounds_toArray, List.set_cons_zero, List.set_cons_succ]
            refine take_runs (i := 7) (v := ?_) (by simp only [List.getElem?_toArray, List.getElem?_cons_succ, List.getElem?_cons_zero]; rfl) (by kernel_rfl) (by kernel_rfl) (by kernel_rfl) rfl (by exact fun _ _ _ h => h) (by rfl) ?_ (by assumption) ?_
            rotate_left
            · intro w hSw; (try dsimp only at hSw); go_simp; try (with_reducible rfl)
            try simp only [Act.put, List.setIfInBounds_toArray, List.set_cons_zero, List.set_cons_succ]
            refine take_runs (i := 8) (v := ?_) (by simp only [List.getElem?_toArray, List.getElem?_cons_succ, List.getElem?_cons_zero]; rfl) (by kernel_rfl) (by kernel_rfl) (by kernel_rfl) rfl (by exact fun _ _ _ h => h) (by rfl) ?_ (by assumption) ?_
            rotate_left
            · intro w hSw; (try dsimp only at hSw); go_simp; try (with_reducible rfl)
            try simp only [Act.put, List.setIfInBounds_toArray, List.set_cons_zero, List.set_cons_succ]
            refine take_runs (i := 9) (v := ?_) (by simp only [List.getElem?_toArray, List.getElem?_cons_succ, List.getElem?_cons_zero]; rfl) (by kernel_rfl) (by kernel_rfl) (by kernel_rfl) rfl (by exact fun _ _ _ h => h) (by rfl) ?_ (by assumption) ?_
            rotate_left
            · intro w hSw; (try dsimp only at hSw); go_simp; try (with_reducible rfl)
            try simp only [Act.put, List.setIfInBounds_toArray, List.set_cons_zero, List.set_cons_succ]
            refine take_runs (i := 10) (v := ?_) (by simp only [List.getElem?_toArray, List.getElem?_cons_succ, List.getElem?_cons_zero]; rfl) (by kernel_rfl) (by kernel_rfl) (by kernel_rfl) rfl (by exact fun _ _ _ h => h) (by rfl) ?_ (by assumption) ?_
            rotate_left
            · intro w hSw; (try dsimp only at hSw); go_simp; try (with_reducible rfl)
            try simp only [Act.put, List.setIfInBounds_toArray, List.set_cons_zero, List.set_cons_succ]
            refine take_runs (i := 11) (v := ?_) (by simp only [List.getElem?_toArray, List.getElem?_cons_succ, List.getElem?_cons_zero]; rfl) (by kernel_rfl) (by kernel_rfl) (by kernel_rfl) rfl (by exact fun _ _ _ h => h) (by rfl) ?_ (by assumption) ?_
            rotate_left
            · intro w hSw; (try dsimp only at hSw); go_simp; try (with_reducible rfl)
            try simp only [Act.put, List.setIfInBounds_toArray, List.set_cons_zero, List.set_cons_succ]
            refine take_runs (i := 12) (v := ?_) (by simp only [List.getElem?_toArray, List.getElem?_cons_succ, List.getElem?_cons_zero]; rfl) (by kernel_rfl) (by kernel_rfl) (by kernel_rfl) rfl (by exact fun _ _ _ h => h) (by rfl) ?_ (by assumption) ?_
            rotate_left
            · intro w hSw; (try dsimp only at hSw); go_simp; try (with_reducible rfl)
            try simp only [Act.put, List.setIfInBounds_toArray, List.set_cons_zero, List.set_cons_succ]
            refine take_runs (i := 13) (v := ?_) (by simp only [List.getElem?_toArray, List.getElem?_cons_succ, List.getElem?_cons_zero]; rfl) (by kernel_rfl) (by kernel_rfl) (by kernel_rfl) rfl (by exact fun _ _ _ h => h) (by rfl) ?_ (by assumption) ?_
            rotate_left
            · intro w hSw; (try dsimp only at hSw); go_simp; try (with_reducible rfl)
            try simp only [Act.put, List.setIfInBounds_toArray, List.set_cons_zero, List.set_cons_succ]
            refine take_runs (i := 14) (v := ?_) (by simp only [List.getElem?_toArray, List.getElem?_cons_succ, List.getElem?_cons_zero]; rfl) (by kernel_rfl) (by kernel_rfl) (by kernel_rfl) rfl (by exact fun _ _ _ h => h) (by rfl) ?_ (by assumption) ?_
            rotate_left
            · intro w hSw; (try dsimp only at hSw); go_simp; try (with_reducible rfl)
            try simp only [Act.put, List.setIfInBounds_toArray, List.set_cons_zero, List.set_cons_succ]
            refine take_runs (i := 15) (v := ?_) (by simp only [List.getElem?_toArray, List.getElem?_cons_succ, List.getElem?_cons_zero]; rfl) (by kernel_rfl) (by kernel_rfl) (by kernel_rfl) rfl (by exact fun _ _ _ h => h) (by rfl) ?_ (by assumption) ?_
            rotate_left
            · intro w hSw; (try dsimp only at hSw); go_simp; try (with_reducible rfl)
            try simp only [Act.put, List.setIfInBounds_toArray, List.set_cons_zero, List.set_cons_succ]
            refine take_runs (i := 16) (v := ?_) (by simp only [List.getElem?_toArray, List.getElem?_cons_succ, List.getElem?_cons_zero]; rfl) (by kernel_rfl) (by kernel_rfl) (by kernel_rfl) rfl (by exact fun _ _ _ h => h) (by rfl) ?_ (by assumption) ?_
            rotate_left
            · intro w hSw; (try dsimp only at hSw); go_simp; try (with_reducible rfl)
            try simp only [Act.put, List.setIfInBounds_toArray, List.set_cons_zero, List.set_cons_succ]
            refine take_runs (i := 17) (v := ?_) (by simp only [List.getElem?_toArray, List.getElem?_cons_succ, List.getElem?_cons_zero]; rfl) (by kernel_rfl) (by kernel_rfl) (by kernel_rfl) rfl (by exact fun _ _ _ h => h) (by rfl) ?_ (by assumption) ?_
            rotate_left
            · intro w hSw; (try dsimp only at hSw); go_simp; try (with_reducible rfl)
            try simp only [Act.put, List.setIfInBounds_toArray, List.set_cons_zero, List.set_cons_succ]
            refine wpAnyH_done (by kernel_rfl) ?_ _
            have b11 := hbel.trans ((hW.trans (b10.mono hW.size)).mono hbel.size)
            clear s1 s2 hHeld b9 b10
            try clear s3
            go_wp2
            go_ret
            exact ⟨ret_b HF.out.symm, b11⟩
          · have HA := Lib.hid (HSTEP.out hrb (fun _ => by omega))
            have hd := decide_eq_false hle
            clear hrb HBAD HSTEP H1 hz hle hkm
            generalize (rs.getD k (0, [])).1 = id at *
            generalize (rs.getD k (0, [])).2 = xs at *
            obtain ⟨va, vcap, rfl⟩ := ints_len hI
            generalize (rs.getD m (0, [])).1 = idp at *
            go_wp2
            have hW : Below wr.heap.size wr (wr.alloc (.cells #[.int .i64 id, .slice va xs.length vcap] 29)) := (Below.refl _ wr).alloc (Nat.le_refl _) _
            have g0 := heap_alloc_new wr (.cells #[.int .i64 id, .slice va xs.length vcap] 29)
            have hlt2 : wr.heap.size < (wr.alloc (.cells #[.int .i64 id, .slice va xs.length vcap] 29)).heap.size := by simp
            generalize wr.alloc (.cells #[.int .i64 id, .slice va xs.length vcap] 29) = W at *
            have q0 := cell_of_row W _ 0 _ _ _ g0
            have q1 := cell_of_row W _ 1 _ _ _ g0
            simp at q0 q1
            have hIW := ints_below hI hW
            have p0 := (hW.cell (p := ⟨b, off + m * 2, none⟩) hbl).trans hc0
            refine wp_region_held_drew (S := fun w' => w'.cell? ⟨wr.heap.size, 0, none⟩ = some (.int .i64 id) ∧ w'.cell? ⟨wr.heap.size, 1, none⟩ = some (.slice va xs.length vcap) ∧ w'.cell? ⟨b, off + m * 2, none⟩ = some (.int .i64 idp)) (by kernel_rfl) ⟨q0, q1, p0⟩ (fun hHeld => ?_)
            refine take_runs (i := 0) (v := ?_) (by simp only [List.getElem?_toArray, List.getElem?_cons_succ, List.getElem?_cons_zero]; rfl) (by kernel_rfl) (by kernel_rfl) (by kernel_rfl) rfl (by exact fun _ _ _ h => h) (by rfl) ?_ (by assumption) ?_
            rotate_left
            · intro w hSw; (try dsimp only at hSw); go_simp; try (with_reducible rfl)
            try simp only [Act.put, List.setIfInBounds_toArray, List.set_cons_zero, List.set_cons_succ]
            refine wpAnyH_ready (rs := [1]) (by kernel_rfl) (by simp) ?_
            refine AllReadyH.cons (o := _) (by simp only [List.getElem?_toArray, List.getElem?_cons_succ, List.getElem?_cons_zero]; rfl) (fun K hK => ?_) AllReadyH.nil
            go_simp
            refine (HR.out _ (by exact ints_heap hIW rfl)).mono ?_
            rintro e w8 ⟨rfl, b9⟩
            have b10 : Below W.heap.size W w8 := ⟨b9.os, b9.tape, b9.output, b9.size, b9.block⟩
            have s1 := (b10.cell (p := ⟨wr.heap.size, 0, none⟩) hlt2).trans q0
            have s2 := (b10.cell (p := ⟨wr.heap.size, 1, none⟩) hlt2).trans q1
            have s3 := (b10.cell (p := ⟨b, off + m * 2, none⟩) (Nat.lt_of_lt_of_le hbl hW.size)).trans p0
            refine hK.out _ _ ⟨s1, s2, s3⟩ (fun hHeld => ?_)
            clear hK K
            try simp only [Act.put, List.setIfInBounds_toArray, List.set_cons_zero, List.set_cons_succ]
            refine take_runs (i := 2) (v := ?_) (by simp only [List.getElem?_toArray, List.getElem?_cons_succ, List.getElem?_cons_zero]; rfl) (by kernel_rfl) (by kernel_rfl) (by kernel_rfl) rfl (by exact fun _ _ _ h => h) (by rfl) ?_ (by assumption) ?_
            rotate_left
            · intro w hSw; (try dsimp only at hSw); go_simp; try (with_reducible rfl)
            try simp only [Act.put, List.setIfInBounds_toArray, List.set_cons_zero, List.set_cons_succ]
            refine take_runs (i := 3) (v := ?_) (by simp only [List.getElem?_toArray, List.getElem?_cons_succ, List.getElem?_cons_zero]; rfl) (by kernel_rfl) (by kernel_rfl) (by kernel_rfl) rfl (by exact fun _ _ _ h => h) (by rfl) ?_ (by assumption) ?_
            rotate_left
            · intro w hSw; (try dsimp only at hSw); go_simp; try (with_reducible rfl)
            try simp only [Act.put, List.setIfInBounds_toArray, List.set_cons_zero, List.set_cons_succ]
            refine take_runs (i := 4) (v := ?_) (by simp only [List.getElem?_toArray, List.getElem?_cons_succ, List.getElem?_cons_zero]; rfl) (by kernel_rfl) (by kernel_rfl) (by kernel_rfl) rfl (by exact fun _ _ _ h => h) (by rfl) ?_ (by assumption) ?_
            rotate_left
            · intro w hSw; (try dsimp only at hSw); go_simp; try (with_reducible rfl)
            try simp only [Act.put, List.setIfInBounds_toArray, List.set_cons_zero, List.set_cons_succ]
            refine take_runs (i := 5) (v := ?_) (by simp only [List.getElem?_toArray, List.getElem?_cons_succ, List.getElem?_cons_zero]; rfl) (by kernel_rfl) (by kernel_rfl) (by kernel_rfl) rfl (by exact fun _ _ _ h => h) (by rfl) ?_ (by assumption) ?_
            rotate_left
            · intro w hSw; (try dsimp only at hSw); go_simp; try (with_reducible rfl)
            try simp only [Act.put, List.setIfInBounds_toArray, List.set_cons_zero, List.set_cons_succ]
            refine take_runs (i := 6) (v := ?_) (by simp only [List.getElem?_toArray, List.getElem?_cons_succ, List.getElem?_cons_zero]; rfl) (by kernel_rfl) (by kernel_rfl) (by kernel_rfl) rfl (by exact fun _ _ _ h => h) (by rfl) ?_ (by assumption) ?_
            rotate_left
            · intro w hSw; (try dsimp only at hSw); go_simp; try (with_reducible rfl)
            try simp only [Act.put, List.setIfInBounds_toArray, List.set_cons_zero, List.set_cons_succ]
            refine take_runs (i := 7) (v := ?_) (by simp only [List.getElem?_toArray, List.getElem?_cons_succ, List.getElem?_cons_zero]; rfl) (by kernel_rfl) (by kernel_rfl) (by kernel_rfl) rfl (by exact fun _ _ _ h => h) (by rfl) ?_ (by assumption) ?_
            rotate_left
            · intro w hSw; (try dsimp only at hSw); go_simp; try (with_reducible rfl)
            try simp only [Act.put, List.setIfInBounds_toArray, List.set_cons_zero, List.set_cons_succ]
            refine take_runs (i := 8) (v := ?_) (by simp only [List.getElem?_toArray, List.getElem?_cons_succ, List.getElem?_cons_zero]; rfl) (by kernel_rfl) (by kernel_rfl) (by kernel_rfl) rfl (by exact fun _ _ _ h => h) (by rfl) ?_ (by assumption) ?_
            rotate_left
            · intro w hSw; (try dsimp only at hSw); go_simp; try (with_reducible rfl)
            try simp only [Act.put, List.setIfInBounds_toArray, List.set_cons_zero, List.set_cons_succ]
            refine take_runs (i := 9) (v := ?_) (by simp only [List.getElem?_toArray, List.getElem?_cons_succ, List.getElem?_cons_zero]; rfl) (by kernel_rfl) (by kernel_rfl) (by kernel_rfl) rfl (by exact fun _ _ _ h => h) (by rfl) ?_ (by assumption) ?_
            rotate_left
            · intro w hSw; (try dsimp only at hSw); go_simp; try (with_reducible rfl)
            try simp only [Act.put, List.setIfInBounds_toArray, List.set_cons_zero, List.set_cons_succ]
            refine take_runs (i := 10) (v := ?_) (by simp only [List.getElem?_toArray, List.getElem?_cons_succ, List.getElem?_cons_zero]; rfl) (by kernel_rfl) (by kernel_rfl) (by kernel_rfl) rfl (by exact fun _ _ _ h => h) (by rfl) ?_ (by assumption) ?_
            rotate_left
            · intro w hSw; (try dsimp only at hSw); go_simp; try (with_reducible rfl)
            try simp only [Act.put, List.setIfInBounds_toArray, List.set_cons_zero, List.set_cons_succ]
            refine take_runs (i := 11) (v := ?_) (by simp only [List.getElem?_toArray, List.getElem?_cons_succ, List.getElem?_cons_zero]; rfl) (by kernel_rfl) (by kernel_rfl) (by kernel_rfl) rfl (by exact fun _ _ _ h => h) (by rfl) ?_ (by assumption) ?_
            rotate_left
            · intro w hSw; (try dsimp only at hSw); go_simp; try (with_reducible rfl)
            try simp only [Act.put, List.setIfInBounds_toArray, List.set_cons_zero, List.set_cons_succ]
            refine take_runs (i := 12) (v := ?_) (by simp only [List.getElem?_toArray, List.getElem?_cons_succ, List.getElem?_cons_zero]; rfl) (by kernel_rfl) (by kernel_rfl) (by kernel_rfl) rfl (by exact fun _ _ _ h => h) (by rfl) ?_ (by assumption) ?_
            rotate_left
            · intro w hSw; (try dsimp only at hSw); go_simp; try (with_reducible rfl)
            try simp only [Act.put, List.setIfInBounds_toArray, List.set_cons_zero, List.set_cons_succ]
            refine take_runs (i := 13) (v := ?_) (by simp only [List.getElem?_toArray, List.getElem?_cons_succ, List.getElem?_cons_zero]; rfl) (by kernel_rfl) (by kernel_rfl) (by kernel_rfl) rfl (by exact fun _ _ _ h => h) (by rfl) ?_ (by assumption) ?_
            rotate_left
            · intro w hSw; (try dsimp only at hSw); go_simp; try (with_reducible rfl)
            try simp only [Act.put, List.setIfInBounds_toArray, List.set_cons_zero, List.set_cons_succ]
            refine take_runs (i := 14) (v := ?_) (by simp only [List.getElem?_toArray, List.getElem?_cons_succ, List.getElem?_cons_zero]; rfl) (by kernel_rfl) (by kernel_rfl) (by kernel_rfl) rfl (by exact fun _ _ _ h => h) (by rfl) ?_ (by assumption) ?_
            rotate_left
            · intro w hSw; (try dsimp only at hSw); go_simp; try (with_reducible rfl)
            try simp only [Act.put, List.setIfInBounds_toArray, List.set_cons_zero, List.set_cons_succ]
            refine take_runs (i := 15) (v := ?_) (by simp only [List.getElem?_toArray, List.getElem?_cons_succ, List.getElem?_cons_zero]; rfl) (by kernel_rfl) (by kernel_rfl) (by kernel_rfl) rfl (by exact fun _ _ _ h => h) (by rfl) ?_ (by assumption) ?_
            rotate_left
            · intro w hSw; (try dsimp only at hSw); go_simp; try (with_reducible rfl)
            try simp only [Act.put, List.setIfInBounds_toArray, List.set_cons_zero, List.set_cons_succ]
            refine take_runs (i := 16) (v := ?_) (by simp only [List.getElem?_toArray, List.getElem?_cons_succ, List.getElem?_cons_zero]; rfl) (by kernel_rfl) (by kernel_rfl) (by kernel_rfl) rfl (by exact fun _ _ _ h => h) (by rfl) ?_ (by assumption) ?_
            rotate_left
            · intro w hSw; (try dsimp only at hSw); go_simp; try (with_reducible rfl)
            try simp only [Act.put, List.setIfInBounds_toArray, List.set_cons_zero, List.set_cons_succ]
            refine take_runs (i := 17) (v := ?_) (by simp only [List.getElem?_toArray, List.getElem?_cons_succ, List.getElem?_cons_zero]; rfl) (by kernel_rfl) (by kernel_rfl) (by kernel_rfl) rfl (by exact fun _ _ _ h => h) (by rfl) ?_ (by assumption) ?_
            rotate_left
            · intro w hSw; (try dsimp only at hSw); go_simp; try (with_reducible rfl)
            try simp only [Act.put, List.setIfInBounds_toArray, List.set_cons_zero, List.set_cons_succ]
            refine wpAnyH_done (by kernel_rfl) ?_ _
            have b11 := hbel.trans ((hW.trans (b10.mono hW.size)).mono hbel.size)
            clear s1 s2 hHeld b9 b10
            try clear s3
            go_wp2
            go_roundw
            case rel => exact ⟨k + 1, by omega, by go_num, HA, b11⟩
            case measure => simp [intOf]; omega
    · obtain rfl : k = rs.length := by omega
      have HA := Lib.hid (HT.out hall.out)
      rw [decide_eq_true (by have := HBIG.out; omega)] at HA
      clear hall
      go_wp2
      go_ret
      exact ⟨ret_b HA.out.symm, hbel⟩
end Go.Proofs.Ythiiaiholcfhhaa
namespace Go.Proofs.Ythiiaiholcfhhaa
open Go.RowKit
set_option linter.unusedVariables false
end Go.Proofs.Ythiiaiholcfhhaa
namespace Go.Proofs.Ythiiaiholcfhhaa
open Go.RowKit
set_option linter.unusedVariables false
end Go.Proofs.Ythiiaiholcfhhaa
namespace Go.Proofs.Ythiiaiholcfhhaa
open Go.RowKit
end Go.Proofs.Ythiiaiholcfhhaa
namespace Go.Proofs.Ythiiaiholcfhhaa
open Go.RowKit
set_option linter.unusedVariables false
set_option linter.unusedSimpArgs false
end Go.Proofs.Ythiiaiholcfhhaa
namespace Go.Proofs.Ythiiaiholcfhhaa
open Go.RowKit
set_option linter.unusedVariables false
set_option linter.unusedSimpArgs false
end Go.Proofs.Ythiiaiholcfhhaa
namespace Go.Proofs.Ythiiaiholcfhhaa
open Go.RowKit
set_option linter.unusedVariables false
set_option linter.unusedSimpArgs false
set_option maxHeartbeats 2000000 in
set_option maxRecDepth 100000 in
theorem copyLVersionint (v : Value) (xs : List Int) (w : World) (h : SlR tInt w v xs) (hn : xs.length ≤ 1048576) :
    Calls Try.prog 89 #[v] w (FreshS 3 tInt w xs) := by
  have H := Lib.hid h
  have HN := Lib.hid hn
  obtain ⟨a, cap, rfl⟩ := slR_len h
  clear h hn
  go_enter Try.func89, Try.ntmps89
  go_wp2_with (at_builtin; refine append_flat tInt_law flat_int info_T_int Try.underlying22 rfl rfl _ (.tmp 3) rfl (fun _ => False) (since w) _ _ [] xs rfl rfl (slO_nil _ _ _ _) H.out (fun _ h => h.elim) (Nat.le_refl _) (by have := HN.out; simp; omega) ?_)
  intro v' w1 o1 t1
  obtain ⟨va, vc, rfl⟩ := slO_len o1
  have b1 := below_turn (Below.refl w.heap.size w) t1 (fun _ h => h.elim) (Nat.le_refl _)
  go_wp2
  go_ret
  exact ⟨_, rfl, o1, b1⟩
end Go.Proofs.Ythiiaiholcfhhaa
namespace Go.Proofs.Ythiiaiholcfhhaa
open Go.RowKit
set_option linter.unusedVariables false
set_option linter.unusedSimpArgs false
def possP (ss : List (List VerD)) (now : Int) : Prop := ShortP ss ss.length ∧ VersP ss.flatten now ss.flatten.length
instance (ss : List (List VerD)) (now : Int) : Decidable (possP ss now) := by unfold possP; infer_instance
end Go.Proofs.Ythiiaiholcfhhaa
namespace Go.Proofs.Ythiiaiholcfhhaa
open Go.RowKit
set_option linter.unusedVariables false
set_option linter.unusedSimpArgs false
end Go.Proofs.Ythiiaiholcfhhaa
namespace Go.Proofs.Ythiiaiholcfhhaa
open Go.RowKit
set_option linter.unusedVariables false
set_option linter.unusedSimpArgs false
/-- An update: its kind, row, field and value. -/
abbrev UpdD := Int × (Int × List Int) × Int × Int
def insP (u : UpdD) : Prop := u.1 = 1 ∧ rowB u.2.1 = true ∧ u.2.2.1 = 0 ∧ u.2.2.2 = 0
def delP (u : UpdD) : Prop := u.1 = 2 ∧ (0 ≤ u.2.1.1 ∧ u.2.1.1 ≤ 999) ∧ u.2.1.2.length = 0 ∧ u.2.2.1 = 0 ∧ u.2.2.2 = 0
def setP (u : UpdD) : Prop := u.1 = 3 ∧ (0 ≤ u.2.1.1 ∧ u.2.1.1 ≤ 999) ∧ u.2.1.2.length = 0 ∧ (0 ≤ u.2.2.1 ∧ u.2.2.1 ≤ 2) ∧ (0 ≤ u.2.2.2 ∧ u.2.2.2 ≤ 99)
instance (u : UpdD) : Decidable (insP u) := by unfold insP; infer_instance
instance (u : UpdD) : Decidable (delP u) := by unfold delP; infer_instance
instance (u : UpdD) : Decidable (setP u) := by unfold setP; infer_instance
def updB (u : UpdD) : Bool := decide (insP u) || (decide (delP u) || decide (setP u))
/- Where the living version of a row lies, and where there is room. -/
def aliveB (id : Int) (v : VerD) : Bool := decide (v.1 = id ∧ v.2.2.2 = -1)
def hasB (id : Int) (l : List VerD) : Bool := l.any (aliveB id)
def segI (ss : List (List VerD)) (id : Int) : Nat := ss.findIdx (hasB id)
def freeB (l : List VerD) : Bool := decide (l.length < 4)
def roomI (ss : List (List VerD)) : Nat := ss.findIdx freeB
/- What an update makes. -/
def okP (ss : List (List VerD)) (now : Int) (u : UpdD) : Prop := storeB ss now = true ∧ updB u = true ∧ now < 100000 ∧ (u.1 = 1 ↔ ¬ segI ss u.2.1.1 < ss.length) ∧ (u.1 ≠ 2 → roomI ss < ss.length)
instance (ss : List (List VerD)) (now : Int) (u : UpdD) : Decidable (okP ss now u) := by unfold okP; infer_instance
/- A store stays valid. -/
/- Reclaiming. -/
end Go.Proofs.Ythiiaiholcfhhaa
namespace Go.Proofs.Ythiiaiholcfhhaa
open Go.RowKit
set_option linter.unusedVariables false
set_option linter.unusedSimpArgs false
section
variable {α : Type} {T : Ty α}
end
end Go.Proofs.Ythiiaiholcfhhaa
namespace Go.Proofs.Ythiiaiholcfhhaa
open Go.RowKit
set_option linter.unusedVariables false
set_option linter.unusedSimpArgs false
end Go.Proofs.Ythiiaiholcfhhaa
namespace Go.Proofs.Ythiiaiholcfhhaa
open Go.RowKit
set_option linter.unusedVariables false
set_option linter.unusedSimpArgs false
end Go.Proofs.Ythiiaiholcfhhaa
namespace Go.Proofs.Ythiiaiholcfhhaa
open Go.RowKit
set_option linter.unusedVariables false
set_option linter.unusedSimpArgs false
end Go.Proofs.Ythiiaiholcfhhaa
namespace Go.Proofs.Ythiiaiholcfhhaa
open Go.RowKit
set_option linter.unusedVariables false
set_option linter.unusedSimpArgs false
end Go.Proofs.Ythiiaiholcfhhaa
namespace Go.Proofs.Ythiiaiholcfhhaa
open Go.RowKit
set_option linter.unusedVariables false
set_option linter.unusedSimpArgs false
/-- A new version, its values in new memory. -/
def FreshV (w : World) (id born : Int) (xs : List Int) (e : Ending) (w' : World) : Prop := ∃ (ua : Option Addr) (uc : Nat), e = .returned (.agg #[.int .i64 id, .slice ua xs.length uc, .int .i64 born, .int .i64 (-1)]) ∧ SlO 3 tInt w' (since w) (.slice ua xs.length uc) xs ∧ Below w.heap.size w w'
set_option maxHeartbeats 16000000 in
set_option maxRecDepth 100000 in
theorem newVersion_any (id born : Int) (vv : Value) (xs : List Int) (w : World) (h : SlR tInt w vv xs) (hn : xs.length ≤ 1048576) :
    Calls Try.prog 69 #[.agg #[.int .i64 id, vv], .int .i64 born] w (FreshV w id born xs) := by
  obtain ⟨va, vc, rfl⟩ := slR_len h
  have H := Lib.hid h
  have HN := Lib.hid hn
  have d := Lib.hid (show Below w.heap.size w ((w.alloc (.cells #[.int .i64 id, .slice va xs.length vc] 29)).alloc (.cells #[.int .i64 0, .slice none 0 0, .int .i64 0, .int .i64 0] 88)) from ((Below.refl _ _).alloc (Nat.le_refl _) _).alloc (by simp <;> omega) _)
  have B0 : Hid (((w.alloc (.cells #[.int .i64 id, .slice va xs.length vc] 29)).alloc (.cells #[.int .i64 0, .slice none 0 0, .int .i64 0, .int .i64 0] 88)).heap[w.heap.size]? = some (.cells #[.int .i64 id, .slice va xs.length vc] 29 (0, 0))) := Lib.hid (by
    rw [Below.heap_alloc _ _ _ (by simp)]; exact heap_alloc_new w _)
  have B1 : Hid (((w.alloc (.cells #[.int .i64 id, .slice va xs.length vc] 29)).alloc (.cells #[.int .i64 0, .slice none 0 0, .int .i64 0, .int .i64 0] 88)).heap[(w.heap.size + 1)]? = some (.cells #[.int .i64 0, .slice none 0 0, .int .i64 0, .int .i64 0] 88 (0, 0))) := Lib.hid (by
    have := heap_alloc_new (w.alloc (.cells #[.int .i64 id, .slice va xs.length vc] 29)) (.cells #[.int .i64 0, .slice none 0 0, .int .i64 0, .int .i64 0] 88)
    simpa only [World.size_alloc] using this)
  have YW : Hid (w.heap.size + 1 < ((w.alloc (.cells #[.int .i64 id, .slice va xs.length vc] 29)).alloc (.cells #[.int .i64 0, .slice none 0 0, .int .i64 0, .int .i64 0] 88)).heap.size) := Lib.hid (by simp)
  clear h hn
  go_enter Try.func69, Try.ntmps69
  go_wp2
  generalize ((w.alloc (.cells #[.int .i64 id, .slice va xs.length vc] 29)).alloc (.cells #[.int .i64 0, .slice none 0 0, .int .i64 0, .int .i64 0] 88)) = W at *
  have p_B0_0 := (cell_of_row W _ 0 _ _ _ B0.out).trans (show _ = some (Value.int .i64 id) from rfl)
  have p_B0_1 := (cell_of_row W _ 1 _ _ _ B0.out).trans (show _ = some (Value.slice va xs.length vc) from rfl)
  refine wp_region_held_drew (S := fun w' => w'.cell? ⟨w.heap.size, 0, none⟩ = some (Value.int .i64 id) ∧ w'.cell? ⟨w.heap.size, 1, none⟩ = some (Value.slice va xs.length vc)) (by kernel_rfl) ⟨p_B0_0, p_B0_1⟩ (fun hHeld => ?_)
  clear p_B0_0 p_B0_1
  have cdr : Below W.heap.size W W.drew := below_drew (Below.refl _ _)
  replace B0 := Lib.hid ((cdr.block w.heap.size (Array.getElem?_eq_some_iff.1 B0.out).1).trans B0.out)
  replace B1 := Lib.hid ((cdr.block (w.heap.size + 1) (Array.getElem?_eq_some_iff.1 B1.out).1).trans B1.out)
  replace d := Lib.hid (d.out.trans (cdr.mono d.out.size))
  clear cdr
  have Z_dr := Lib.hid (show W.heap.size ≤ W.drew.heap.size from Nat.le_refl _)
  generalize W.drew = Wd at *
  refine take_runs (i := 0) (v := ?_) (by simp only [List.getElem?_toArray, List.getElem?_cons_succ, List.getElem?_cons_zero]; rfl) (by kernel_rfl) (by kernel_rfl) (by kernel_rfl) rfl (by exact fun _ _ _ h => h) (by rfl) ?_ (by assumption) ?_
  rotate_left
  · intro w hSw; (try dsimp only at hSw); go_simp; try (with_reducible rfl)
  try simp only [Act.put, List.setIfInBounds_toArray, List.set_cons_zero, List.set_cons_succ]
  refine take_runs (i := 1) (v := ?_) (by simp only [List.getElem?_toArray, List.getElem?_cons_succ, List.getElem?_cons_zero]; rfl) (by kernel_rfl) (by kernel_rfl) (by kernel_rfl) rfl (by exact fun _ _ _ h => h) (by rfl) ?_ (by assumption) ?_
  rotate_left
  · intro w hSw; (try dsimp only at hSw); go_simp; try (with_reducible rfl)
  try simp only [Act.put, List.setIfInBounds_toArray, List.set_cons_zero, List.set_cons_succ]
  refine take_runs (i := 2) (v := ?_) (by simp only [List.getElem?_toArray, List.getElem?_cons_succ, List.getElem?_cons_zero]; rfl) (by kernel_rfl) (by kernel_rfl) (by kernel_rfl) rfl (by exact fun _ _ _ h => h) (by rfl) ?_ (by assumption) ?_
  rotate_left
  · intro w hSw; (try dsimp only at hSw); go_simp; try (with_reducible rfl)
  try simp only [Act.put, List.setIfInBounds_toArray, List.set_cons_zero, List.set_cons_succ]
  refine take_runs (i := 3) (v := ?_) (by simp only [List.getElem?_toArray, List.getElem?_cons_succ, List.getElem?_cons_zero]; rfl) (by kernel_rfl) (by kernel_rfl) (by kernel_rfl) rfl (by exact fun _ _ _ h => h) (by rfl) ?_ (by assumption) ?_
  rotate_left
  · intro w hSw; (try dsimp only at hSw); go_simp; try (with_reducible rfl)
  try simp only [Act.put, List.setIfInBounds_toArray, List.set_cons_zero, List.set_cons_succ]
  refine take_runs (i := 5) (v := ?_) (by simp only [List.getElem?_toArray, List.getElem?_cons_succ, List.getElem?_cons_zero]; rfl) (by kernel_rfl) (by kernel_rfl) (by kernel_rfl) rfl (by exact fun _ _ _ h => h) (by rfl) ?_ (by assumption) ?_
  rotate_left
  · intro w hSw; (try dsimp only at hSw); go_simp; try (with_reducible rfl)
  try simp only [Act.put, List.setIfInBounds_toArray, List.set_cons_zero, List.set_cons_succ]
  refine wpAnyH_ready (rs := [4]) (by kernel_rfl) (by simp) ?_
  refine (AllReadyH.cons (o := _) (by simp only [List.getElem?_toArray, List.getElem?_cons_succ, List.getElem?_cons_zero]; rfl) (fun K hK => ?_) AllReadyH.nil)
  go_simp
  refine (copyLVersionint (.slice va xs.length vc) xs Wd (slR_below tInt_law H.out d.out) HN.out).mono ?_
  rintro e w5 ⟨u, rfl, ou, c5⟩
  obtain ⟨ua, uc, rfl⟩ := slO_len ou
  have PX := Lib.hid (slO_lt tInt_law ou)
  have QX := Lib.hid (fun q (h : since Wd q ∧ q < w5.heap.size) => (show Wd.heap.size ≤ q ∧ q < w5.heap.size from h))
  replace B0 := Lib.hid ((c5.block w.heap.size (Array.getElem?_eq_some_iff.1 B0.out).1).trans B0.out)
  replace B1 := Lib.hid ((c5.block (w.heap.size + 1) (Array.getElem?_eq_some_iff.1 B1.out).1).trans B1.out)
  replace d := Lib.hid (d.out.trans (c5.mono d.out.size))
  have Z_w5 := Lib.hid (show Wd.heap.size ≤ w5.heap.size from c5.size)
  clear c5 ou
  have p_B0_0 := (cell_of_row w5 _ 0 _ _ _ B0.out).trans (show _ = some (Value.int .i64 id) from rfl)
  have p_B0_1 := (cell_of_row w5 _ 1 _ _ _ B0.out).trans (show _ = some (Value.slice va xs.length vc) from rfl)
  refine hK.out _ _ ⟨p_B0_0, p_B0_1⟩ (fun hHeld => ?_)
  clear p_B0_0 p_B0_1
  clear hK K
  try simp only [Act.put, List.setIfInBounds_toArray, List.set_cons_zero, List.set_cons_succ]
  refine take_runs (i := 6) (v := ?_) (by simp only [List.getElem?_toArray, List.getElem?_cons_succ, List.getElem?_cons_zero]; rfl) (by kernel_rfl) (by kernel_rfl) (by kernel_rfl) rfl (by exact fun _ _ _ h => h) (by rfl) ?_ (by assumption) ?_
  rotate_left
  · intro w hSw; (try dsimp only at hSw); go_simp; try (with_reducible rfl)
  try simp only [Act.put, List.setIfInBounds_toArray, List.set_cons_zero, List.set_cons_succ]
  refine wpAnyH_ready (rs := [7]) (by kernel_rfl) (by simp) ?_
  refine (AllReadyH.cons (o := _) (by simp only [List.getElem?_toArray, List.getElem?_cons_succ, List.getElem?_cons_zero]; rfl) (fun K hK => ?_) AllReadyH.nil)
  have p_B1_0 := (cell_of_row w5 _ 0 _ _ _ B1.out).trans (show _ = some (Value.int .i64 0) from rfl)
  have p_B1_1 := (cell_of_row w5 _ 1 _ _ _ B1.out).trans (show _ = some (Value.slice none 0 0) from rfl)
  have p_B1_2 := (cell_of_row w5 _ 2 _ _ _ B1.out).trans (show _ = some (Value.int .i64 0) from rfl)
  have p_B1_3 := (cell_of_row w5 _ 3 _ _ _ B1.out).trans (show _ = some (Value.int .i64 0) from rfl)
  have f_B1_0 := frozen_of_row w5 _ 0 _ _ B1.out
  have f_B1_1 := frozen_of_row w5 _ 1 _ _ B1.out
  have f_B1_2 := frozen_of_row w5 _ 2 _ _ B1.out
  have f_B1_3 := frozen_of_row w5 _ 3 _ _ B1.out
  go_simp
  clear p_B1_0 p_B1_1 p_B1_2 p_B1_3 f_B1_0 f_B1_1 f_B1_2 f_B1_3
  have tt : Turn (fun q => q = (w.heap.size + 1)) w5 ((((w5.setCell ⟨w.heap.size + 1, 0, none⟩ (.int .i64 id)).setCell ⟨w.heap.size + 1, 1, none⟩ (.slice ua xs.length uc)).setCell ⟨w.heap.size + 1, 2, none⟩ (.int .i64 born)).setCell ⟨w.heap.size + 1, 3, none⟩ (.int .i64 (-1))) := (((((Turn.refl (fun q => q = (w.heap.size + 1)) w5).trans (turn_set (G := fun q => q = (w.heap.size + 1)) (g := w.heap.size + 1) (j := 0) (u := .int .i64 id) rfl)).trans (turn_set (G := fun q => q = (w.heap.size + 1)) (g := w.heap.size + 1) (j := 1) (u := .slice ua xs.length uc) rfl)).trans (turn_set (G := fun q => q = (w.heap.size + 1)) (g := w.heap.size + 1) (j := 2) (u := .int .i64 born) rfl)).trans (turn_set (G := fun q => q = (w.heap.size + 1)) (g := w.heap.size + 1) (j := 3) (u := .int .i64 (-1)) rfl))
  have r := (heap_setCell_same _ (w.heap.size + 1) 3 _ _ (.int .i64 (-1)) (heap_setCell_same _ (w.heap.size + 1) 2 _ _ (.int .i64 born) (heap_setCell_same _ (w.heap.size + 1) 1 _ _ (.slice ua xs.length uc) (heap_setCell_same w5 (w.heap.size + 1) 0 _ _ (.int .i64 id) B1.out))))
  simp at r
  generalize ((((w5.setCell ⟨w.heap.size + 1, 0, none⟩ (.int .i64 id)).setCell ⟨w.heap.size + 1, 1, none⟩ (.slice ua xs.length uc)).setCell ⟨w.heap.size + 1, 2, none⟩ (.int .i64 born)).setCell ⟨w.heap.size + 1, 3, none⟩ (.int .i64 (-1))) = w6 at *
  have y0 := YW.out
  have y1 := Z_dr.out
  have y2 := Z_w5.out
  have yd : w.heap.size ≤ w5.heap.size := d.out.size
  replace B0 := Lib.hid ((tt.block w.heap.size (Array.getElem?_eq_some_iff.1 B0.out).1 (fun h => by have r2 : _ = w.heap.size + 1 := h; omega)).trans B0.out)
  replace PX := Lib.hid (slO_turn tInt_law PX.out tt (fun b h1 h2 => by have r1 := QX.out b h1; have r2 : _ = w.heap.size + 1 := h2; omega))
  replace d := Lib.hid (below_turn d.out tt (fun b h => by have r2 : _ = w.heap.size + 1 := h; omega) (by omega))
  have Z_w6 := Lib.hid (show w5.heap.size ≤ w6.heap.size from tt.size)
  clear yd y0 y1 y2
  replace B1 : Hid (w6.heap[w.heap.size + 1]? = some (.cells #[.int .i64 id, .slice ua xs.length uc, .int .i64 born, .int .i64 (-1)] 88 (0, 0))) := Lib.hid r
  clear r tt
  have p_B0_0 := (cell_of_row w6 _ 0 _ _ _ B0.out).trans (show _ = some (Value.int .i64 id) from rfl)
  have p_B0_1 := (cell_of_row w6 _ 1 _ _ _ B0.out).trans (show _ = some (Value.slice va xs.length vc) from rfl)
  refine hK.out _ _ ⟨p_B0_0, p_B0_1⟩ (fun hHeld => ?_)
  clear p_B0_0 p_B0_1
  clear hK K
  try simp only [Act.put, List.setIfInBounds_toArray, List.set_cons_zero, List.set_cons_succ]
  refine wpAnyH_done (by kernel_rfl) ?_ _
  clear hHeld
  have y0 := YW.out
  have y1 := Z_dr.out
  have y2 := Z_w5.out
  have y3 := Z_w6.out
  have e0 := (cell_of_row w6 _ 0 _ _ _ B1.out).trans (show _ = some (Value.int .i64 id) from rfl)
  have e1 := (cell_of_row w6 _ 1 _ _ _ B1.out).trans (show _ = some (Value.slice ua xs.length uc) from rfl)
  have e2 := (cell_of_row w6 _ 2 _ _ _ B1.out).trans (show _ = some (Value.int .i64 born) from rfl)
  have e3 := (cell_of_row w6 _ 3 _ _ _ B1.out).trans (show _ = some (Value.int .i64 (-1)) from rfl)
  have QE := Lib.hid (fun q h => (show w.heap.size ≤ q by have r1 := QX.out q h; omega))
  clear y0 y1 y2 y3
  go_wp2
  refine bodyPost_ret (v := .agg #[.int .i64 id, .slice ua xs.length uc, .int .i64 born, .int .i64 (-1)]) ?_ rfl ⟨ua, uc, rfl, slO_mono PX.out QE.out, d.out⟩
  simp [results, Try.f69, go_sem, e0, e1, e2, e3]
end Go.Proofs.Ythiiaiholcfhhaa
