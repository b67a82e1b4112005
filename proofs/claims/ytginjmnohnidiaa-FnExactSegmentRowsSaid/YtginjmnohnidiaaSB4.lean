/-
  Texts of the proof, merged: RowIsP, VerP1, VerP2, VerP3, VerP4, VerP5, VerP6, RowOrd, RowEqP.
-/
import Derived.Test.YtginjmnohnidiaaSB3
import Derived.Lib.MinMax
import Derived.Lib.Small
namespace Go.Proofs.Ytginjmnohnidiaa
open Go.RowKit
set_option linter.unusedVariables false
set_option linter.unusedSimpArgs false
theorem isRowId_yes (id : Int) (w : World) (h1 : 0 ≤ id) (h2 : id ≤ 999) : Calls Try.prog 146 #[.int .i64 id] w fun e w' => e = .returned (.bool true) ∧ w' = w := by
  go_enter Try.func146, Try.ntmps146
  go_wp2
  go_ret
  exact ⟨rfl, rfl⟩
theorem isRowId_no (id : Int) (w : World) (h : ¬ (0 ≤ id ∧ id ≤ 999)) : Calls Try.prog 146 #[.int .i64 id] w fun e w' => e = .returned (.bool false) ∧ w' = w := by
  by_cases h1 : 0 ≤ id
  · have h2 : ¬ id ≤ 999 := fun g => h ⟨h1, g⟩
    clear h
    go_enter Try.func146, Try.ntmps146
    go_wp2
    go_ret
    exact ⟨rfl, rfl⟩
  · clear h
    go_enter Try.func146, Try.ntmps146
    go_wp2
    go_ret
    exact ⟨rfl, rfl⟩
/-- Is a record valid? -/
def recB (id n a b c : Int) : Bool := decide (0 ≤ id ∧ id ≤ 999) && (decide (n = 3) && (a == limI a && b == limI b && c == limI c))
theorem lim_in (x : Int) : (x == limI x) = decide (0 ≤ x ∧ x ≤ 99) := by
  unfold limI
  by_cases h : 0 ≤ x ∧ x ≤ 99
  · rw [decide_eq_true h, beq_iff_eq]; omega
  · rw [decide_eq_false h, beq_eq_false_iff_ne]; omega
theorem recB_row (id : Int) (xs : List Int) : recB id xs.length (xs.getD 0 0) (xs.getD 1 0) (xs.getD 2 0) = rowB (id, xs) := by
  unfold recB rowB
  simp only [lim_in]
  match xs with
  | [] => simp
  | [x] => simp
  | [x, y] => simp
  | [x, y, z] => simp [List.all, Bool.and_assoc]
  | x :: y :: z :: u :: r =>
    have : ¬ ((r.length : Int) + 1 + 1 + 1 + 1 = 3) := by omega
    simp [this]
theorem below_from {W w8 w9 : World} (h : w8 = W.drew) (b : Below w8.heap.size w8 w9) : Below W.heap.size W w9 := by subst h; exact ⟨b.os, b.tape, b.output, b.size, b.block⟩
set_option maxHeartbeats 8000000 in
set_option maxRecDepth 100000 in
theorem isValid_id (id n a b c : Int) (w : World) (h : ¬ (0 ≤ id ∧ id ≤ 999)) :
    Calls Try.prog 136 #[.agg #[.int .i64 id, .int .i64 n, .int .i64 a, .int .i64 b, .int .i64 c]] w fun e w' => e = .returned (.bool (false)) ∧ Below w.heap.size w w' := by
  have HI := Lib.hid (fun w => isRowId_no id w h)
  clear h
  go_enter Try.func136, Try.ntmps136
  go_wp2
  have hh : Below w.heap.size w (w.alloc (.cells #[.int .i64 id, .int .i64 n, .int .i64 a, .int .i64 b, .int .i64 c] 157)) := (Below.refl _ w).alloc (Nat.le_refl _) _
  have g0 := heap_alloc_new w (.cells #[.int .i64 id, .int .i64 n, .int .i64 a, .int .i64 b, .int .i64 c] 157)
  have hlt : w.heap.size < (w.alloc (.cells #[.int .i64 id, .int .i64 n, .int .i64 a, .int .i64 b, .int .i64 c] 157)).heap.size := by simp
  generalize w.alloc (.cells #[.int .i64 id, .int .i64 n, .int .i64 a, .int .i64 b, .int .i64 c] 157) = W at *
  have q0 := cell_of_row W _ 0 _ _ _ g0
  have q1 := cell_of_row W _ 1 _ _ _ g0
  have q2 := cell_of_row W _ 2 _ _ _ g0
  have q3 := cell_of_row W _ 3 _ _ _ g0
  have q4 := cell_of_row W _ 4 _ _ _ g0
  simp at q0 q1 q2 q3 q4
  refine wp_region_held_drew (S := fun w' => w'.cell? ⟨w.heap.size, 0, none⟩ = some (.int .i64 id) ∧ w'.cell? ⟨w.heap.size, 1, none⟩ = some (.int .i64 n) ∧ w'.cell? ⟨w.heap.size, 2, none⟩ = some (.int .i64 a) ∧ w'.cell? ⟨w.heap.size, 3, none⟩ = some (.int .i64 b) ∧ w'.cell? ⟨w.heap.size, 4, none⟩ = some (.int .i64 c)) (by kernel_rfl) ⟨q0, q1, q2, q3, q4⟩ (fun hHeld => ?_)
  refine take_runs (i := 0) (v := ?_) (by simp only [List.getElem?_toArray, List.getElem?_cons_succ, List.getElem?_cons_zero]; rfl) (by kernel_rfl) (by kernel_rfl) (by kernel_rfl) rfl (by exact fun _ _ _ h => h) (by rfl) ?_ (by assumption) ?_
  rotate_left
  · intro w hSw; (try dsimp only at hSw); go_simp; try (with_reducible rfl)
  try simp only [Act.put, List.setIfInBounds_toArray, List.set_cons_zero, List.set_cons_succ]
  refine take_runs (i := 1) (v := ?_) (by simp only [List.getElem?_toArray, List.getElem?_cons_succ, List.getElem?_cons_zero]; rfl) (by kernel_rfl) (by kernel_rfl) (by kernel_rfl) rfl (by exact fun _ _ _ h => h) (by rfl) ?_ (by assumption) ?_
  rotate_left
  · intro w hSw; (try dsimp only at hSw); go_simp; try (with_reducible rfl)
  try simp only [Act.put, List.setIfInBounds_toArray, List.set_cons_zero, List.set_cons_succ]
  refine wpAnyH_ready (rs := [2]) (by kernel_rfl) (by simp) ?_
  refine AllReadyH.cons (o := _) (by simp only [List.getElem?_toArray, List.getElem?_cons_succ, List.getElem?_cons_zero]; rfl) (fun K hK => ?_) AllReadyH.nil
  go_simp
  refine (HI.out _).mono ?_
  rintro e w8 ⟨rfl, rfl⟩
  refine hK.out _ _ ⟨q0, q1, q2, q3, q4⟩ (fun hHeld => ?_)
  clear hK K
  try simp only [Act.put, List.setIfInBounds_toArray, List.set_cons_zero, List.set_cons_succ]
  refine take_runs (i := 3) (v := ?_) (by simp only [List.getElem?_toArray, List.getElem?_cons_succ, List.getElem?_cons_zero]; rfl) (by kernel_rfl) (by kernel_rfl) (by kernel_rfl) rfl (by exact fun _ _ _ h => h) (by rfl) ?_ (by assumption) ?_
  rotate_left
  · intro w hSw; (try dsimp only at hSw); go_simp; try (with_reducible rfl)
  try simp only [Act.put, List.setIfInBounds_toArray, List.set_cons_zero, List.set_cons_succ]
  refine take_over (i := 4) (by simp only [List.getElem?_toArray, List.getElem?_cons_succ, List.getElem?_cons_zero]; rfl) (by kernel_rfl) (by kernel_rfl) (by kernel_rfl) rfl (by exact fun _ _ _ h => h) (by rfl) (by assumption) ?_
  try simp only [Act.put, List.setIfInBounds_toArray, List.set_cons_zero, List.set_cons_succ]
  refine take_over (i := 5) (by simp only [List.getElem?_toArray, List.getElem?_cons_succ, List.getElem?_cons_zero]; rfl) (by kernel_rfl) (by kernel_rfl) (by kernel_rfl) rfl (by exact fun _ _ _ h => h) (by rfl) (by assumption) ?_
  try simp only [Act.put, List.setIfInBounds_toArray, List.set_cons_zero, List.set_cons_succ]
  refine take_over (i := 6) (by simp only [List.getElem?_toArray, List.getElem?_cons_succ, List.getElem?_cons_zero]; rfl) (by kernel_rfl) (by kernel_rfl) (by kernel_rfl) rfl (by exact fun _ _ _ h => h) (by rfl) (by assumption) ?_
  try simp only [Act.put, List.setIfInBounds_toArray, List.set_cons_zero, List.set_cons_succ]
  refine take_runs (i := 7) (v := ?_) (by simp only [List.getElem?_toArray, List.getElem?_cons_succ, List.getElem?_cons_zero]; rfl) (by kernel_rfl) (by kernel_rfl) (by kernel_rfl) rfl (by exact fun _ _ _ h => h) (by rfl) ?_ (by assumption) ?_
  rotate_left
  · intro w hSw; (try dsimp only at hSw); go_simp; try (with_reducible rfl)
  try simp only [Act.put, List.setIfInBounds_toArray, List.set_cons_zero, List.set_cons_succ]
  refine take_runs (i := 8) (v := ?_) (by simp only [List.getElem?_toArray, List.getElem?_cons_succ, List.getElem?_cons_zero]; rfl) (by kernel_rfl) (by kernel_rfl) (by kernel_rfl) rfl (by exact fun _ _ _ h => h) (by rfl) ?_ (by assumption) ?_
  rotate_left
  · intro w hSw; (try dsimp only at hSw); go_simp; try (with_reducible rfl)
  try simp only [Act.put, List.setIfInBounds_toArray, List.set_cons_zero, List.set_cons_succ]
  refine take_over (i := 9) (by simp only [List.getElem?_toArray, List.getElem?_cons_succ, List.getElem?_cons_zero]; rfl) (by kernel_rfl) (by kernel_rfl) (by kernel_rfl) rfl (by exact fun _ _ _ h => h) (by rfl) (by assumption) ?_
  try simp only [Act.put, List.setIfInBounds_toArray, List.set_cons_zero, List.set_cons_succ]
  refine take_over (i := 10) (by simp only [List.getElem?_toArray, List.getElem?_cons_succ, List.getElem?_cons_zero]; rfl) (by kernel_rfl) (by kernel_rfl) (by kernel_rfl) rfl (by exact fun _ _ _ h => h) (by rfl) (by assumption) ?_
  try simp only [Act.put, List.setIfInBounds_toArray, List.set_cons_zero, List.set_cons_succ]
  refine take_over (i := 11) (by simp only [List.getElem?_toArray, List.getElem?_cons_succ, List.getElem?_cons_zero]; rfl) (by kernel_rfl) (by kernel_rfl) (by kernel_rfl) rfl (by exact fun _ _ _ h => h) (by rfl) (by assumption) ?_
  try simp only [Act.put, List.setIfInBounds_toArray, List.set_cons_zero, List.set_cons_succ]
  refine take_over (i := 12) (by simp only [List.getElem?_toArray, List.getElem?_cons_succ, List.getElem?_cons_zero]; rfl) (by kernel_rfl) (by kernel_rfl) (by kernel_rfl) rfl (by exact fun _ _ _ h => h) (by rfl) (by assumption) ?_
  try simp only [Act.put, List.setIfInBounds_toArray, List.set_cons_zero, List.set_cons_succ]
  refine take_over (i := 13) (by simp only [List.getElem?_toArray, List.getElem?_cons_succ, List.getElem?_cons_zero]; rfl) (by kernel_rfl) (by kernel_rfl) (by kernel_rfl) rfl (by exact fun _ _ _ h => h) (by rfl) (by assumption) ?_
  try simp only [Act.put, List.setIfInBounds_toArray, List.set_cons_zero, List.set_cons_succ]
  refine take_over (i := 14) (by simp only [List.getElem?_toArray, List.getElem?_cons_succ, List.getElem?_cons_zero]; rfl) (by kernel_rfl) (by kernel_rfl) (by kernel_rfl) rfl (by exact fun _ _ _ h => h) (by rfl) (by assumption) ?_
  try simp only [Act.put, List.setIfInBounds_toArray, List.set_cons_zero, List.set_cons_succ]
  refine take_runs (i := 15) (v := ?_) (by simp only [List.getElem?_toArray, List.getElem?_cons_succ, List.getElem?_cons_zero]; rfl) (by kernel_rfl) (by kernel_rfl) (by kernel_rfl) rfl (by exact fun _ _ _ h => h) (by rfl) ?_ (by assumption) ?_
  rotate_left
  · intro w hSw; (try dsimp only at hSw); go_simp; try (with_reducible rfl)
  try simp only [Act.put, List.setIfInBounds_toArray, List.set_cons_zero, List.set_cons_succ]
  refine take_runs (i := 16) (v := ?_) (by simp only [List.getElem?_toArray, List.getElem?_cons_succ, List.getElem?_cons_zero]; rfl) (by kernel_rfl) (by kernel_rfl) (by kernel_rfl) rfl (by exact fun _ _ _ h => h) (by rfl) ?_ (by assumption) ?_
  rotate_left
  · intro w hSw; (try dsimp only at hSw); go_simp; try (with_reducible rfl)
  try simp only [Act.put, List.setIfInBounds_toArray, List.set_cons_zero, List.set_cons_succ]
  refine wpAnyH_done (by kernel_rfl) ?_ _
  have b11 : Below w.heap.size w W.drew := below_drew hh
  clear hHeld
  go_wp2
  go_ret
  exact ⟨rfl, b11⟩
set_option maxHeartbeats 8000000 in
set_option maxRecDepth 100000 in
theorem isValid_count (id n a b c : Int) (w : World) (h1 : 0 ≤ id) (h2 : id ≤ 999) (h3 : ¬ n = 3) :
    Calls Try.prog 136 #[.agg #[.int .i64 id, .int .i64 n, .int .i64 a, .int .i64 b, .int .i64 c]] w fun e w' => e = .returned (.bool (false)) ∧ Below w.heap.size w w' := by
  have HI := Lib.hid (fun w => isRowId_yes id w h1 h2)
  clear h1 h2
  have hd : (n == 3) = false := by simpa using h3
  clear h3
  go_enter Try.func136, Try.ntmps136
  go_wp2
  have hh : Below w.heap.size w (w.alloc (.cells #[.int .i64 id, .int .i64 n, .int .i64 a, .int .i64 b, .int .i64 c] 157)) := (Below.refl _ w).alloc (Nat.le_refl _) _
  have g0 := heap_alloc_new w (.cells #[.int .i64 id, .int .i64 n, .int .i64 a, .int .i64 b, .int .i64 c] 157)
  have hlt : w.heap.size < (w.alloc (.cells #[.int .i64 id, .int .i64 n, .int .i64 a, .int .i64 b, .int .i64 c] 157)).heap.size := by simp
  generalize w.alloc (.cells #[.int .i64 id, .int .i64 n, .int .i64 a, .int .i64 b, .int .i64 c] 157) = W at *
  have q0 := cell_of_row W _ 0 _ _ _ g0
  have q1 := cell_of_row W _ 1 _ _ _ g0
  have q2 := cell_of_row W _ 2 _ _ _ g0
  have q3 := cell_of_row W _ 3 _ _ _ g0
  have q4 := cell_of_row W _ 4 _ _ _ g0
  simp at q0 q1 q2 q3 q4
  refine wp_region_held_drew (S := fun w' => w'.cell? ⟨w.heap.size, 0, none⟩ = some (.int .i64 id) ∧ w'.cell? ⟨w.heap.size, 1, none⟩ = some (.int .i64 n) ∧ w'.cell? ⟨w.heap.size, 2, none⟩ = some (.int .i64 a) ∧ w'.cell? ⟨w.heap.size, 3, none⟩ = some (.int .i64 b) ∧ w'.cell? ⟨w.heap.size, 4, none⟩ = some (.int .i64 c)) (by kernel_rfl) ⟨q0, q1, q2, q3, q4⟩ (fun hHeld => ?_)
  refine take_runs (i := 0) (v := ?_) (by simp only [List.getElem?_toArray, List.getElem?_cons_succ, List.getElem?_cons_zero]; rfl) (by kernel_rfl) (by kernel_rfl) (by kernel_rfl) rfl (by exact fun _ _ _ h => h) (by rfl) ?_ (by assumption) ?_
  rotate_left
  · intro w hSw; (try dsimp only at hSw); go_simp; try (with_reducible rfl)
  try simp only [Act.put, List.setIfInBounds_toArray, List.set_cons_zero, List.set_cons_succ]
  refine take_runs (i := 1) (v := ?_) (by simp only [List.getElem?_toArray, List.getElem?_cons_succ, List.getElem?_cons_zero]; rfl) (by kernel_rfl) (by kernel_rfl) (by kernel_rfl) rfl (by exact fun _ _ _ h => h) (by rfl) ?_ (by assumption) ?_
  rotate_left
  · intro w hSw; (try dsimp only at hSw); go_simp; try (with_reducible rfl)
  try simp only [Act.put, List.setIfInBounds_toArray, List.set_cons_zero, List.set_cons_succ]
  refine wpAnyH_ready (rs := [2]) (by kernel_rfl) (by simp) ?_
  refine AllReadyH.cons (o := _) (by simp only [List.getElem?_toArray, List.getElem?_cons_succ, List.getElem?_cons_zero]; rfl) (fun K hK => ?_) AllReadyH.nil
  go_simp
  refine (HI.out _).mono ?_
  rintro e w8 ⟨rfl, rfl⟩
  refine hK.out _ _ ⟨q0, q1, q2, q3, q4⟩ (fun hHeld => ?_)
  clear hK K
  try simp only [Act.put, List.setIfInBounds_toArray, List.set_cons_zero, List.set_cons_succ]
  refine take_runs (i := 3) (v := ?_) (by simp only [List.getElem?_toArray, List.getElem?_cons_succ, List.getElem?_cons_zero]; rfl) (by kernel_rfl) (by kernel_rfl) (by kernel_rfl) rfl (by exact fun _ _ _ h => h) (by rfl) ?_ (by assumption) ?_
  rotate_left
  · intro w hSw; (try dsimp only at hSw); go_simp; try (with_reducible rfl)
  try simp only [Act.put, List.setIfInBounds_toArray, List.set_cons_zero, List.set_cons_succ]
  refine take_runs (i := 4) (v := ?_) (by simp only [List.getElem?_toArray, List.getElem?_cons_succ, List.getElem?_cons_zero]; rfl) (by kernel_rfl) (by kernel_rfl) (by kernel_rfl) rfl (by exact fun _ _ _ h => h) (by rfl) ?_ (by assumption) ?_
  rotate_left
  · intro w hSw; (try dsimp only at hSw); go_simp; try (with_reducible rfl)
  try simp only [Act.put, List.setIfInBounds_toArray, List.set_cons_zero, List.set_cons_succ]
  refine take_runs (i := 5) (v := ?_) (by simp only [List.getElem?_toArray, List.getElem?_cons_succ, List.getElem?_cons_zero]; rfl) (by kernel_rfl) (by kernel_rfl) (by kernel_rfl) rfl (by exact fun _ _ _ h => h) (by rfl) ?_ (by assumption) ?_
  rotate_left
  · intro w hSw; (try dsimp only at hSw); go_simp; try (with_reducible rfl)
  try simp only [Act.put, List.setIfInBounds_toArray, List.set_cons_zero, List.set_cons_succ]
  refine take_runs (i := 6) (v := ?_) (by simp only [List.getElem?_toArray, List.getElem?_cons_succ, List.getElem?_cons_zero]; rfl) (by kernel_rfl) (by kernel_rfl) (by kernel_rfl) rfl (by exact fun _ _ _ h => h) (by rfl) ?_ (by assumption) ?_
  rotate_left
  · intro w hSw; (try dsimp only at hSw); go_simp; try (with_reducible rfl)
  try simp only [Act.put, List.setIfInBounds_toArray, List.set_cons_zero, List.set_cons_succ]
  refine take_runs (i := 7) (v := ?_) (by simp only [List.getElem?_toArray, List.getElem?_cons_succ, List.getElem?_cons_zero]; rfl) (by kernel_rfl) (by kernel_rfl) (by kernel_rfl) rfl (by exact fun _ _ _ h => h) (by rfl) ?_ (by assumption) ?_
  rotate_left
  · intro w hSw; (try dsimp only at hSw); go_simp; try (with_reducible rfl)
  try simp only [Act.put, List.setIfInBounds_toArray, List.set_cons_zero, List.set_cons_succ]
  refine take_runs (i := 8) (v := ?_) (by simp only [List.getElem?_toArray, List.getElem?_cons_succ, List.getElem?_cons_zero]; rfl) (by kernel_rfl) (by kernel_rfl) (by kernel_rfl) rfl (by exact fun _ _ _ h => h) (by rfl) ?_ (by assumption) ?_
  rotate_left
  · intro w hSw; (try dsimp only at hSw); go_simp; try (with_reducible rfl)
  try simp only [Act.put, List.setIfInBounds_toArray, List.set_cons_zero, List.set_cons_succ]
  refine take_over (i := 9) (by simp only [List.getElem?_toArray, List.getElem?_cons_succ, List.getElem?_cons_zero]; rfl) (by kernel_rfl) (by kernel_rfl) (by kernel_rfl) rfl (by exact fun _ _ _ h => h) (by rfl) (by assumption) ?_
  try simp only [Act.put, List.setIfInBounds_toArray, List.set_cons_zero, List.set_cons_succ]
  refine take_over (i := 10) (by simp only [List.getElem?_toArray, List.getElem?_cons_succ, List.getElem?_cons_zero]; rfl) (by kernel_rfl) (by kernel_rfl) (by kernel_rfl) rfl (by exact fun _ _ _ h => h) (by rfl) (by assumption) ?_
  try simp only [Act.put, List.setIfInBounds_toArray, List.set_cons_zero, List.set_cons_succ]
  refine take_over (i := 11) (by simp only [List.getElem?_toArray, List.getElem?_cons_succ, List.getElem?_cons_zero]; rfl) (by kernel_rfl) (by kernel_rfl) (by kernel_rfl) rfl (by exact fun _ _ _ h => h) (by rfl) (by assumption) ?_
  try simp only [Act.put, List.setIfInBounds_toArray, List.set_cons_zero, List.set_cons_succ]
  refine take_over (i := 12) (by simp only [List.getElem?_toArray, List.getElem?_cons_succ, List.getElem?_cons_zero]; rfl) (by kernel_rfl) (by kernel_rfl) (by kernel_rfl) rfl (by exact fun _ _ _ h => h) (by rfl) (by assumption) ?_
  try simp only [Act.put, List.setIfInBounds_toArray, List.set_cons_zero, List.set_cons_succ]
  refine take_over (i := 13) (by simp only [List.getElem?_toArray, List.getElem?_cons_succ, List.getElem?_cons_zero]; rfl) (by kernel_rfl) (by kernel_rfl) (by kernel_rfl) rfl (by exact fun _ _ _ h => h) (by rfl) (by assumption) ?_
  try simp only [Act.put, List.setIfInBounds_toArray, List.set_cons_zero, List.set_cons_succ]
  refine take_over (i := 14) (by simp only [List.getElem?_toArray, List.getElem?_cons_succ, List.getElem?_cons_zero]; rfl) (by kernel_rfl) (by kernel_rfl) (by kernel_rfl) rfl (by exact fun _ _ _ h => h) (by rfl) (by assumption) ?_
  try simp only [Act.put, List.setIfInBounds_toArray, List.set_cons_zero, List.set_cons_succ]
  refine take_runs (i := 15) (v := ?_) (by simp only [List.getElem?_toArray, List.getElem?_cons_succ, List.getElem?_cons_zero]; rfl) (by kernel_rfl) (by kernel_rfl) (by kernel_rfl) rfl (by exact fun _ _ _ h => h) (by rfl) ?_ (by assumption) ?_
  rotate_left
  · intro w hSw; (try dsimp only at hSw); go_simp; try (with_reducible rfl)
  try simp only [Act.put, List.setIfInBounds_toArray, List.set_cons_zero, List.set_cons_succ]
  refine take_runs (i := 16) (v := ?_) (by simp only [List.getElem?_toArray, List.getElem?_cons_succ, List.getElem?_cons_zero]; rfl) (by kernel_rfl) (by kernel_rfl) (by kernel_rfl) rfl (by exact fun _ _ _ h => h) (by rfl) ?_ (by assumption) ?_
  rotate_left
  · intro w hSw; (try dsimp only at hSw); go_simp; try (with_reducible rfl)
  try simp only [Act.put, List.setIfInBounds_toArray, List.set_cons_zero, List.set_cons_succ]
  refine wpAnyH_done (by kernel_rfl) ?_ _
  have b11 : Below w.heap.size w W.drew := below_drew hh
  clear hHeld
  go_wp2
  go_ret
  exact ⟨rfl, b11⟩
set_option maxHeartbeats 8000000 in
set_option maxRecDepth 100000 in
theorem isValid_all (id n a b c : Int) (w : World) (h1 : 0 ≤ id) (h2 : id ≤ 999) (h3 : n = 3) :
    Calls Try.prog 136 #[.agg #[.int .i64 id, .int .i64 n, .int .i64 a, .int .i64 b, .int .i64 c]] w fun e w' => e = .returned (.bool (a == limI a && b == limI b && c == limI c)) ∧ Below w.heap.size w w' := by
  have HI := Lib.hid (fun w => isRowId_yes id w h1 h2)
  clear h1 h2
  have hd : (n == 3) = true := by simpa using h3
  clear h3
  have HL := Lib.hid (fun w => limited_any a b c w)
  have he := fun w => eql_arr a b c (limI a) (limI b) (limI c) w
  have hgd := fun (o1 o2 : Operand) (xs ys : Array Value) (w : World) => guard_arr o1 o2 xs ys w
  generalize hr : (a == limI a && b == limI b && c == limI c) = r at he ⊢
  clear hr
  go_enter Try.func136, Try.ntmps136
  go_wp2
  have hh : Below w.heap.size w (w.alloc (.cells #[.int .i64 id, .int .i64 n, .int .i64 a, .int .i64 b, .int .i64 c] 157)) := (Below.refl _ w).alloc (Nat.le_refl _) _
  have g0 := heap_alloc_new w (.cells #[.int .i64 id, .int .i64 n, .int .i64 a, .int .i64 b, .int .i64 c] 157)
  have hlt : w.heap.size < (w.alloc (.cells #[.int .i64 id, .int .i64 n, .int .i64 a, .int .i64 b, .int .i64 c] 157)).heap.size := by simp
  generalize w.alloc (.cells #[.int .i64 id, .int .i64 n, .int .i64 a, .int .i64 b, .int .i64 c] 157) = W at *
  have q0 := cell_of_row W _ 0 _ _ _ g0
  have q1 := cell_of_row W _ 1 _ _ _ g0
  have q2 := cell_of_row W _ 2 _ _ _ g0
  have q3 := cell_of_row W _ 3 _ _ _ g0
  have q4 := cell_of_row W _ 4 _ _ _ g0
  simp at q0 q1 q2 q3 q4
  refine wp_region_held_drew (S := fun w' => w'.cell? ⟨w.heap.size, 0, none⟩ = some (.int .i64 id) ∧ w'.cell? ⟨w.heap.size, 1, none⟩ = some (.int .i64 n) ∧ w'.cell? ⟨w.heap.size, 2, none⟩ = some (.int .i64 a) ∧ w'.cell? ⟨w.heap.size, 3, none⟩ = some (.int .i64 b) ∧ w'.cell? ⟨w.heap.size, 4, none⟩ = some (.int .i64 c)) (by kernel_rfl) ⟨q0, q1, q2, q3, q4⟩ (fun hHeld => ?_)
  refine take_runs (i := 0) (v := ?_) (by simp only [List.getElem?_toArray, List.getElem?_cons_succ, List.getElem?_cons_zero]; rfl) (by kernel_rfl) (by kernel_rfl) (by kernel_rfl) rfl (by exact fun _ _ _ h => h) (by rfl) ?_ (by assumption) ?_
  rotate_left
  · intro w hSw; (try dsimp only at hSw); go_simp; try (with_reducible rfl)
  try simp only [Act.put, List.setIfInBounds_toArray, List.set_cons_zero, List.set_cons_succ]
  refine take_runs (i := 1) (v := ?_) (by simp only [List.getElem?_toArray, List.getElem?_cons_succ, List.getElem?_cons_zero]; rfl) (by kernel_rfl) (by kernel_rfl) (by kernel_rfl) rfl (by exact fun _ _ _ h => h) (by rfl) ?_ (by assumption) ?_
  rotate_left
  · intro w hSw; (try dsimp only at hSw); go_simp; try (with_reducible rfl)
  try simp only [Act.put, List.setIfInBounds_toArray, List.set_cons_zero, List.set_cons_succ]
  refine wpAnyH_ready (rs := [2]) (by kernel_rfl) (by simp) ?_
  refine AllReadyH.cons (o := _) (by simp only [List.getElem?_toArray, List.getElem?_cons_succ, List.getElem?_cons_zero]; rfl) (fun K hK => ?_) AllReadyH.nil
  go_simp
  refine (HI.out _).mono ?_
  rintro e w8 ⟨rfl, rfl⟩
  refine hK.out _ _ ⟨q0, q1, q2, q3, q4⟩ (fun hHeld => ?_)
  clear hK K
  try simp only [Act.put, List.setIfInBounds_toArray, List.set_cons_zero, List.set_cons_succ]
  refine take_runs (i := 3) (v := ?_) (by simp only [List.getElem?_toArray, List.getElem?_cons_succ, List.getElem?_cons_zero]; rfl) (by kernel_rfl) (by kernel_rfl) (by kernel_rfl) rfl (by exact fun _ _ _ h => h) (by rfl) ?_ (by assumption) ?_
  rotate_left
  · intro w hSw; (try dsimp only at hSw); go_simp; try (with_reducible rfl)
  try simp only [Act.put, List.setIfInBounds_toArray, List.set_cons_zero, List.set_cons_succ]
  refine take_runs (i := 4) (v := ?_) (by simp only [List.getElem?_toArray, List.getElem?_cons_succ, List.getElem?_cons_zero]; rfl) (by kernel_rfl) (by kernel_rfl) (by kernel_rfl) rfl (by exact fun _ _ _ h => h) (by rfl) ?_ (by assumption) ?_
  rotate_left
  · intro w hSw; (try dsimp only at hSw); go_simp; try (with_reducible rfl)
  try simp only [Act.put, List.setIfInBounds_toArray, List.set_cons_zero, List.set_cons_succ]
  refine take_runs (i := 5) (v := ?_) (by simp only [List.getElem?_toArray, List.getElem?_cons_succ, List.getElem?_cons_zero]; rfl) (by kernel_rfl) (by kernel_rfl) (by kernel_rfl) rfl (by exact fun _ _ _ h => h) (by rfl) ?_ (by assumption) ?_
  rotate_left
  · intro w hSw; (try dsimp only at hSw); go_simp; try (with_reducible rfl)
  try simp only [Act.put, List.setIfInBounds_toArray, List.set_cons_zero, List.set_cons_succ]
  refine take_runs (i := 6) (v := ?_) (by simp only [List.getElem?_toArray, List.getElem?_cons_succ, List.getElem?_cons_zero]; rfl) (by kernel_rfl) (by kernel_rfl) (by kernel_rfl) rfl (by exact fun _ _ _ h => h) (by rfl) ?_ (by assumption) ?_
  rotate_left
  · intro w hSw; (try dsimp only at hSw); go_simp; try (with_reducible rfl)
  try simp only [Act.put, List.setIfInBounds_toArray, List.set_cons_zero, List.set_cons_succ]
  refine take_runs (i := 7) (v := ?_) (by simp only [List.getElem?_toArray, List.getElem?_cons_succ, List.getElem?_cons_zero]; rfl) (by kernel_rfl) (by kernel_rfl) (by kernel_rfl) rfl (by exact fun _ _ _ h => h) (by rfl) ?_ (by assumption) ?_
  rotate_left
  · intro w hSw; (try dsimp only at hSw); go_simp; try (with_reducible rfl)
  try simp only [Act.put, List.setIfInBounds_toArray, List.set_cons_zero, List.set_cons_succ]
  refine take_runs (i := 8) (v := ?_) (by simp only [List.getElem?_toArray, List.getElem?_cons_succ, List.getElem?_cons_zero]; rfl) (by kernel_rfl) (by kernel_rfl) (by kernel_rfl) rfl (by exact fun _ _ _ h => h) (by rfl) ?_ (by assumption) ?_
  rotate_left
  · intro w hSw; (try dsimp only at hSw); go_simp; try (with_reducible rfl)
  try simp only [Act.put, List.setIfInBounds_toArray, List.set_cons_zero, List.set_cons_succ]
  refine take_runs (i := 9) (v := ?_) (by simp only [List.getElem?_toArray, List.getElem?_cons_succ, List.getElem?_cons_zero]; rfl) (by kernel_rfl) (by kernel_rfl) (by kernel_rfl) rfl (by exact fun _ _ _ h => h) (by rfl) ?_ (by assumption) ?_
  rotate_left
  · intro w hSw; (try dsimp only at hSw); go_simp; try (with_reducible rfl)
  try simp only [Act.put, List.setIfInBounds_toArray, List.set_cons_zero, List.set_cons_succ]
  refine take_runs (i := 10) (v := ?_) (by simp only [List.getElem?_toArray, List.getElem?_cons_succ, List.getElem?_cons_zero]; rfl) (by kernel_rfl) (by kernel_rfl) (by kernel_rfl) rfl (by exact fun _ _ _ h => h) (by rfl) ?_ (by assumption) ?_
  rotate_left
  · intro w hSw; (try dsimp only at hSw); go_simp; try (with_reducible rfl)
  try simp only [Act.put, List.setIfInBounds_toArray, List.set_cons_zero, List.set_cons_succ]
  refine take_runs (i := 11) (v := ?_) (by simp only [List.getElem?_toArray, List.getElem?_cons_succ, List.getElem?_cons_zero]; rfl) (by kernel_rfl) (by kernel_rfl) (by kernel_rfl) rfl (by exact fun _ _ _ h => h) (by rfl) ?_ (by assumption) ?_
  rotate_left
  · intro w hSw; (try dsimp only at hSw); go_simp; try (with_reducible rfl)
  try simp only [Act.put, List.setIfInBounds_toArray, List.set_cons_zero, List.set_cons_succ]
  refine take_runs (i := 12) (v := ?_) (by simp only [List.getElem?_toArray, List.getElem?_cons_succ, List.getElem?_cons_zero]; rfl) (by kernel_rfl) (by kernel_rfl) (by kernel_rfl) rfl (by exact fun _ _ _ h => h) (by rfl) ?_ (by assumption) ?_
  rotate_left
  · intro w hSw; (try dsimp only at hSw); go_simp; try (with_reducible rfl)
  try simp only [Act.put, List.setIfInBounds_toArray, List.set_cons_zero, List.set_cons_succ]
  refine wpAnyH_ready (rs := [13]) (by kernel_rfl) (by simp) ?_
  refine AllReadyH.cons (o := _) (by simp only [List.getElem?_toArray, List.getElem?_cons_succ, List.getElem?_cons_zero]; rfl) (fun K hK => ?_) AllReadyH.nil
  go_simp
  refine (HL.out _).mono ?_
  rintro e w9 ⟨rfl, b9⟩
  have b10 : Below W.heap.size W w9 := below_from rfl b9
  have g2 := (b10.block w.heap.size hlt).trans g0
  have r0 := cell_of_row w9 _ 0 _ _ _ g2
  have r1 := cell_of_row w9 _ 1 _ _ _ g2
  have r2 := cell_of_row w9 _ 2 _ _ _ g2
  have r3 := cell_of_row w9 _ 3 _ _ _ g2
  have r4 := cell_of_row w9 _ 4 _ _ _ g2
  simp at r0 r1 r2 r3 r4
  refine hK.out _ _ ⟨r0, r1, r2, r3, r4⟩ (fun hHeld => ?_)
  clear hK K
  try simp only [Act.put, List.setIfInBounds_toArray, List.set_cons_zero, List.set_cons_succ]
  refine take_runs (i := 14) (v := ?_) (by simp only [List.getElem?_toArray, List.getElem?_cons_succ, List.getElem?_cons_zero]; rfl) (by kernel_rfl) (by kernel_rfl) (by kernel_rfl) rfl (by exact fun _ _ _ h => h) (by rfl) ?_ (by assumption) ?_
  rotate_left
  · intro w hSw; (try dsimp only at hSw); go_simp; try (with_reducible rfl)
  try simp only [Act.put, List.setIfInBounds_toArray, List.set_cons_zero, List.set_cons_succ]
  refine take_runs (i := 15) (v := ?_) (by simp only [List.getElem?_toArray, List.getElem?_cons_succ, List.getElem?_cons_zero]; rfl) (by kernel_rfl) (by kernel_rfl) (by kernel_rfl) rfl (by exact fun _ _ _ h => h) (by rfl) ?_ (by assumption) ?_
  rotate_left
  · intro w hSw; (try dsimp only at hSw); go_simp; try (with_reducible rfl)
  try simp only [Act.put, List.setIfInBounds_toArray, List.set_cons_zero, List.set_cons_succ]
  refine take_runs (i := 16) (v := ?_) (by simp only [List.getElem?_toArray, List.getElem?_cons_succ, List.getElem?_cons_zero]; rfl) (by kernel_rfl) (by kernel_rfl) (by kernel_rfl) rfl (by exact fun _ _ _ h => h) (by rfl) ?_ (by assumption) ?_
  rotate_left
  · intro w hSw; (try dsimp only at hSw); go_simp; try (with_reducible rfl)
  try simp only [Act.put, List.setIfInBounds_toArray, List.set_cons_zero, List.set_cons_succ]
  refine wpAnyH_done (by kernel_rfl) ?_ _
  have b11 := hh.trans (b10.mono hh.size)
  clear hHeld b9 b10
  go_wp2
  go_ret
  exact ⟨rfl, b11⟩
theorem isValid_any (id n a b c : Int) (w : World) :
    Calls Try.prog 136 #[.agg #[.int .i64 id, .int .i64 n, .int .i64 a, .int .i64 b, .int .i64 c]] w fun e w' => e = .returned (.bool (recB id n a b c)) ∧ Below w.heap.size w w' := by
  by_cases h : 0 ≤ id ∧ id ≤ 999
  · by_cases h3 : n = 3
    · have e : recB id n a b c = (a == limI a && b == limI b && c == limI c) := by unfold recB; rw [decide_eq_true h, decide_eq_true h3]; simp
      rw [e]
      exact isValid_all id n a b c w h.1 h.2 h3
    · have e : recB id n a b c = false := by unfold recB; rw [decide_eq_false h3]; simp
      rw [e]
      exact isValid_count id n a b c w h.1 h.2 h3
  · have e : recB id n a b c = false := by unfold recB; rw [decide_eq_false h]; simp
    rw [e]
    exact isValid_id id n a b c w h
set_option maxHeartbeats 4000000 in
set_option maxRecDepth 100000 in
theorem implIsRow (id : Int) (vv : Value) (xs : List Int) (w : World) (h : Ints w vv xs) (hn : xs.length ≤ 1048576) :
    Calls Try.prog 103 #[.agg #[.int .i64 id, vv]] w fun e w' => e = .returned (.bool (rowB (id, xs))) ∧ Below w.heap.size w w' := by
  have HR := Lib.hid (fun w h => recordOf_any id vv xs w h hn)
  have HV := Lib.hid (fun w => isValid_any id xs.length (xs.getD 0 0) (xs.getD 1 0) (xs.getD 2 0) w)
  rw [recB_row] at HV
  have H := Lib.hid h
  unfold recV at HR
  clear h hn
  generalize xs.getD 0 0 = x0 at *
  generalize xs.getD 1 0 = x1 at *
  generalize xs.getD 2 0 = x2 at *
  generalize rowB (id, xs) = r at *
  go_enter Try.func103, Try.ntmps103
  go_wp2_with fail
  have hb : Below w.heap.size w (w.alloc (.cells #[.int .i64 id, vv] 76)) := (Below.refl _ w).alloc (Nat.le_refl _) _
  refine (HR.out _ (ints_below H.out hb)).mono ?_
  rintro e w1 ⟨rfl, b1⟩
  have b2 := hb.trans (b1.mono hb.size)
  clear hb b1
  go_wp2_with fail
  refine (HV.out _).mono ?_
  rintro e w2 ⟨rfl, b3⟩
  have b4 := b2.trans (b3.mono b2.size)
  clear b2 b3
  go_wp2
  go_ret
  exact ⟨rfl, b4⟩
end Go.Proofs.Ytginjmnohnidiaa
namespace Go.Proofs.Ytginjmnohnidiaa
open Go.RowKit
set_option linter.unusedVariables false
set_option linter.unusedSimpArgs false
set_option maxHeartbeats 4000000 in
set_option maxRecDepth 100000 in
theorem implVisible (id born died t : Int) (vv : Value) (w : World) :
    Calls Try.prog 37 #[.agg #[.int .i64 id, vv, .int .i64 born, .int .i64 died], .int .i64 t] w fun e w' => e = .returned (.bool (decide (visP born died t))) ∧ Below w.heap.size w w' := by
  have hb : Below w.heap.size w (w.alloc (.cells #[.int .i64 id, vv, .int .i64 born, .int .i64 died] 62)) := (Below.refl _ w).alloc (Nat.le_refl _) _
  by_cases h1 : born ≤ t
  · by_cases h2 : died = -1
    · have HD : Hid (decide (visP born died t) = true) := Lib.hid (decide_eq_true ⟨h1, Or.inl h2⟩)
      have e2 : (died == -1) = true := by simp [h2]
      clear h2
      rw [HD.out]
      go_enter Try.func37, Try.ntmps37
      go_wp2
      go_ret
      exact ⟨rfl, hb⟩
    · have e2 : (died == -1) = false := by simp [h2]
      by_cases h3 : t < died
      · have HD : Hid (decide (visP born died t) = true) := Lib.hid (decide_eq_true ⟨h1, Or.inr h3⟩)
        clear h2
        rw [HD.out]
        go_enter Try.func37, Try.ntmps37
        go_wp2
        go_ret
        exact ⟨ret_b (by simp [h3]), hb⟩
      · have HD : Hid (decide (visP born died t) = false) := Lib.hid (decide_eq_false (fun g => by unfold visP at g; omega))
        have e3 : decide (t < died) = false := decide_eq_false h3
        clear h2
        rw [HD.out]
        go_enter Try.func37, Try.ntmps37
        go_wp2
        go_ret
        exact ⟨ret_b (by first | rfl | simp [h3]), hb⟩
  · have HD : Hid (decide (visP born died t) = false) := Lib.hid (decide_eq_false (fun g => h1 g.1))
    rw [HD.out]
    go_enter Try.func37, Try.ntmps37
    go_wp2
    go_ret
    exact ⟨rfl, hb⟩
set_option maxHeartbeats 4000000 in
set_option maxRecDepth 100000 in
theorem verRow_any (id born died : Int) (va : Option Addr) (n vc : Nat) (w : World) :
    Calls Try.prog 114 #[.agg #[.int .i64 id, .slice va n vc, .int .i64 born, .int .i64 died]] w fun e w' => e = .returned (.agg #[.int .i64 id, .slice va n vc]) ∧ Below w.heap.size w w' := by
  have d0 := Lib.hid (show Below w.heap.size w ((w.alloc (.cells #[.int .i64 id, .slice va n vc, .int .i64 born, .int .i64 died] 62)).alloc (.cells #[.int .i64 id, .slice va n vc] 76)) from ((Below.refl _ w).alloc (Nat.le_refl _) _).alloc (by simp) _)
  have k1 : ((w.alloc (.cells #[.int .i64 id, .slice va n vc, .int .i64 born, .int .i64 died] 62)).alloc (.cells #[.int .i64 id, .slice va n vc] 76)).heap[w.heap.size + 1]? = some (.cells #[.int .i64 id, .slice va n vc] 76 (0, 0)) := by
    have := heap_alloc_new (w.alloc (.cells #[.int .i64 id, .slice va n vc, .int .i64 born, .int .i64 died] 62)) (.cells #[.int .i64 id, .slice va n vc] 76)
    simpa only [World.size_alloc] using this
  have e0 := cell_of_row _ _ 0 _ _ _ k1
  have e1 := cell_of_row _ _ 1 _ _ _ k1
  simp at e0 e1
  have E0 := Lib.hid e0
  have E1 := Lib.hid e1
  clear k1 e0 e1
  go_enter Try.func114, Try.ntmps114
  go_wp2
  refine bodyPost_ret (v := .agg #[.int .i64 id, .slice va n vc]) ?_ rfl ?_
  · have e0 := E0.out
    have e1 := E1.out
    simp [results, Try.f114, go_sem, e0, e1]
  · exact ⟨rfl, d0.out⟩
set_option maxHeartbeats 8000000 in
set_option maxRecDepth 100000 in
theorem isVersion_any (id born died now : Int) (vv : Value) (xs : List Int) (w : World) (h : Ints w vv xs) (hn : xs.length ≤ 1048576) :
    Calls Try.prog 111 #[.agg #[.int .i64 id, vv, .int .i64 born, .int .i64 died], .int .i64 now] w fun e w' => e = .returned (.bool (verB (id, xs, born, died) now)) ∧ Below w.heap.size w w' := by
  obtain ⟨va, vc, rfl⟩ := ints_len h
  have HR := Lib.hid (fun W g => implIsRow id (.slice va xs.length vc) xs W g hn)
  have H := Lib.hid h
  have d0 := Lib.hid (show Below w.heap.size w (w.alloc (.cells #[.int .i64 id, .slice va xs.length vc, .int .i64 born, .int .i64 died] 62)) from (Below.refl _ _).alloc (Nat.le_refl _) _)
  have B0 : Hid ((w.alloc (.cells #[.int .i64 id, .slice va xs.length vc, .int .i64 born, .int .i64 died] 62)).heap[w.heap.size]? = some (.cells #[.int .i64 id, .slice va xs.length vc, .int .i64 born, .int .i64 died] 62 (0, 0))) := Lib.hid (heap_alloc_new w _)
  have Y0 : Hid (w.heap.size < (w.alloc (.cells #[.int .i64 id, .slice va xs.length vc, .int .i64 born, .int .i64 died] 62)).heap.size) := Lib.hid (by simp [World.size_alloc])
  have HV : Hid (∀ r l, rowB (id, xs) = r → decide (lifeP born died now) = l → verB (id, xs, born, died) now = (r && l)) := Lib.hid (fun r l h1 h2 => by unfold verB; rw [h1]; show (r && decide (lifeP born died now)) = _; rw [h2])
  clear h hn
  cases hr : rowB (id, xs) with
  | false =>
    rw [hr] at HR
    rw [HV.out _ _ hr rfl, Bool.false_and]
    clear hr HV
    go_enter Try.func111, Try.ntmps111
    go_wp2_with fail
    generalize w.alloc (.cells #[.int .i64 id, .slice va xs.length vc, .int .i64 born, .int .i64 died] 62) = W at *
    refine (verRow_any id born died va xs.length vc W).mono ?_
    rintro e w0 ⟨rfl, b0⟩
    have D0 := Lib.hid (d0.out.trans (b0.mono d0.out.size))
    have K0 := Lib.hid ((b0.block w.heap.size Y0.out).trans B0.out)
    have YY := Lib.hid (Nat.lt_of_lt_of_le Y0.out b0.size)
    clear b0
    go_wp2_with fail
    refine (HR.out w0 (ints_below H.out D0.out)).mono ?_
    rintro e w1 ⟨rfl, b1⟩
    have k0 := (b1.block w.heap.size YY.out).trans K0.out
    have b2 := D0.out.trans (b1.mono D0.out.size)
    go_wp2
    go_ret
    exact ⟨rfl, b2⟩
  | true =>
    rw [hr] at HR
    have HV2 := Lib.hid (fun l => HV.out _ l hr)
    clear hr HV
    by_cases h1 : 0 ≤ born
    rotate_left
    · have e1 : decide (0 ≤ born) = false := decide_eq_false h1
      have hl : decide (lifeP born died now) = false := decide_eq_false (fun g => by unfold lifeP at g; omega)
      rw [HV2.out _ hl]
      clear hl
      go_enter Try.func111, Try.ntmps111
      go_wp2_with fail
      generalize w.alloc (.cells #[.int .i64 id, .slice va xs.length vc, .int .i64 born, .int .i64 died] 62) = W at *
      refine (verRow_any id born died va xs.length vc W).mono ?_
      rintro e w0 ⟨rfl, b0⟩
      have D0 := Lib.hid (d0.out.trans (b0.mono d0.out.size))
      have K0 := Lib.hid ((b0.block w.heap.size Y0.out).trans B0.out)
      have YY := Lib.hid (Nat.lt_of_lt_of_le Y0.out b0.size)
      clear b0
      go_wp2_with fail
      refine (HR.out w0 (ints_below H.out D0.out)).mono ?_
      rintro e w1 ⟨rfl, b1⟩
      have k0 := (b1.block w.heap.size YY.out).trans K0.out
      have b2 := D0.out.trans (b1.mono D0.out.size)
      have p0 := (cell_of_row w1 _ 0 _ _ _ k0).trans (show _ = some (Value.int .i64 id) from rfl)
      have p1 := (cell_of_row w1 _ 1 _ _ _ k0).trans (show _ = some (Value.slice va xs.length vc) from rfl)
      have p2 := (cell_of_row w1 _ 2 _ _ _ k0).trans (show _ = some (Value.int .i64 born) from rfl)
      have p3 := (cell_of_row w1 _ 3 _ _ _ k0).trans (show _ = some (Value.int .i64 died) from rfl)
      clear k0
      go_wp2
      go_ret
      exact ⟨ret_b (by first | rfl | simp [*]), b2⟩
    by_cases h2 : born ≤ now
    rotate_left
    · have e2 : decide (born ≤ now) = false := decide_eq_false h2
      have hl : decide (lifeP born died now) = false := decide_eq_false (fun g => by unfold lifeP at g; omega)
      rw [HV2.out _ hl]
      clear hl
      go_enter Try.func111, Try.ntmps111
      go_wp2_with fail
      generalize w.alloc (.cells #[.int .i64 id, .slice va xs.length vc, .int .i64 born, .int .i64 died] 62) = W at *
      refine (verRow_any id born died va xs.length vc W).mono ?_
      rintro e w0 ⟨rfl, b0⟩
      have D0 := Lib.hid (d0.out.trans (b0.mono d0.out.size))
      have K0 := Lib.hid ((b0.block w.heap.size Y0.out).trans B0.out)
      have YY := Lib.hid (Nat.lt_of_lt_of_le Y0.out b0.size)
      clear b0
      go_wp2_with fail
      refine (HR.out w0 (ints_below H.out D0.out)).mono ?_
      rintro e w1 ⟨rfl, b1⟩
      have k0 := (b1.block w.heap.size YY.out).trans K0.out
      have b2 := D0.out.trans (b1.mono D0.out.size)
      have p0 := (cell_of_row w1 _ 0 _ _ _ k0).trans (show _ = some (Value.int .i64 id) from rfl)
      have p1 := (cell_of_row w1 _ 1 _ _ _ k0).trans (show _ = some (Value.slice va xs.length vc) from rfl)
      have p2 := (cell_of_row w1 _ 2 _ _ _ k0).trans (show _ = some (Value.int .i64 born) from rfl)
      have p3 := (cell_of_row w1 _ 3 _ _ _ k0).trans (show _ = some (Value.int .i64 died) from rfl)
      clear k0
      go_wp2
      go_ret
      exact ⟨ret_b (by first | rfl | simp [*]), b2⟩
    by_cases h3 : died = -1
    · have e3 : (died == -1) = true := by simp [h3]
      have hl : decide (lifeP born died now) = true := decide_eq_true ⟨h1, h2, Or.inl h3⟩
      rw [HV2.out _ hl]
      clear hl h3
      go_enter Try.func111, Try.ntmps111
      go_wp2_with fail
      generalize w.alloc (.cells #[.int .i64 id, .slice va xs.length vc, .int .i64 born, .int .i64 died] 62) = W at *
      refine (verRow_any id born died va xs.length vc W).mono ?_
      rintro e w0 ⟨rfl, b0⟩
      have D0 := Lib.hid (d0.out.trans (b0.mono d0.out.size))
      have K0 := Lib.hid ((b0.block w.heap.size Y0.out).trans B0.out)
      have YY := Lib.hid (Nat.lt_of_lt_of_le Y0.out b0.size)
      clear b0
      go_wp2_with fail
      refine (HR.out w0 (ints_below H.out D0.out)).mono ?_
      rintro e w1 ⟨rfl, b1⟩
      have k0 := (b1.block w.heap.size YY.out).trans K0.out
      have b2 := D0.out.trans (b1.mono D0.out.size)
      have p0 := (cell_of_row w1 _ 0 _ _ _ k0).trans (show _ = some (Value.int .i64 id) from rfl)
      have p1 := (cell_of_row w1 _ 1 _ _ _ k0).trans (show _ = some (Value.slice va xs.length vc) from rfl)
      have p2 := (cell_of_row w1 _ 2 _ _ _ k0).trans (show _ = some (Value.int .i64 born) from rfl)
      have p3 := (cell_of_row w1 _ 3 _ _ _ k0).trans (show _ = some (Value.int .i64 died) from rfl)
      clear k0
      go_wp2
      go_ret
      exact ⟨ret_b (by first | rfl | simp [*]), b2⟩
    have e3 : (died == -1) = false := by simp [h3]
    by_cases h4 : born < died
    rotate_left
    · have e4 : decide (born < died) = false := decide_eq_false h4
      have hl : decide (lifeP born died now) = false := decide_eq_false (fun g => by unfold lifeP at g; omega)
      rw [HV2.out _ hl]
      clear hl h3
      go_enter Try.func111, Try.ntmps111
      go_wp2_with fail
      generalize w.alloc (.cells #[.int .i64 id, .slice va xs.length vc, .int .i64 born, .int .i64 died] 62) = W at *
      refine (verRow_any id born died va xs.length vc W).mono ?_
      rintro e w0 ⟨rfl, b0⟩
      have D0 := Lib.hid (d0.out.trans (b0.mono d0.out.size))
      have K0 := Lib.hid ((b0.block w.heap.size Y0.out).trans B0.out)
      have YY := Lib.hid (Nat.lt_of_lt_of_le Y0.out b0.size)
      clear b0
      go_wp2_with fail
      refine (HR.out w0 (ints_below H.out D0.out)).mono ?_
      rintro e w1 ⟨rfl, b1⟩
      have k0 := (b1.block w.heap.size YY.out).trans K0.out
      have b2 := D0.out.trans (b1.mono D0.out.size)
      have p0 := (cell_of_row w1 _ 0 _ _ _ k0).trans (show _ = some (Value.int .i64 id) from rfl)
      have p1 := (cell_of_row w1 _ 1 _ _ _ k0).trans (show _ = some (Value.slice va xs.length vc) from rfl)
      have p2 := (cell_of_row w1 _ 2 _ _ _ k0).trans (show _ = some (Value.int .i64 born) from rfl)
      have p3 := (cell_of_row w1 _ 3 _ _ _ k0).trans (show _ = some (Value.int .i64 died) from rfl)
      clear k0
      go_wp2
      go_ret
      exact ⟨ret_b (by first | rfl | simp [*]), b2⟩
    by_cases h5 : died ≤ now
    · have hl : decide (lifeP born died now) = true := decide_eq_true ⟨h1, h2, Or.inr ⟨h4, h5⟩⟩
      rw [HV2.out _ hl]
      clear hl h3
      go_enter Try.func111, Try.ntmps111
      go_wp2_with fail
      generalize w.alloc (.cells #[.int .i64 id, .slice va xs.length vc, .int .i64 born, .int .i64 died] 62) = W at *
      refine (verRow_any id born died va xs.length vc W).mono ?_
      rintro e w0 ⟨rfl, b0⟩
      have D0 := Lib.hid (d0.out.trans (b0.mono d0.out.size))
      have K0 := Lib.hid ((b0.block w.heap.size Y0.out).trans B0.out)
      have YY := Lib.hid (Nat.lt_of_lt_of_le Y0.out b0.size)
      clear b0
      go_wp2_with fail
      refine (HR.out w0 (ints_below H.out D0.out)).mono ?_
      rintro e w1 ⟨rfl, b1⟩
      have k0 := (b1.block w.heap.size YY.out).trans K0.out
      have b2 := D0.out.trans (b1.mono D0.out.size)
      have p0 := (cell_of_row w1 _ 0 _ _ _ k0).trans (show _ = some (Value.int .i64 id) from rfl)
      have p1 := (cell_of_row w1 _ 1 _ _ _ k0).trans (show _ = some (Value.slice va xs.length vc) from rfl)
      have p2 := (cell_of_row w1 _ 2 _ _ _ k0).trans (show _ = some (Value.int .i64 born) from rfl)
      have p3 := (cell_of_row w1 _ 3 _ _ _ k0).trans (show _ = some (Value.int .i64 died) from rfl)
      clear k0
      go_wp2
      go_ret
      exact ⟨ret_b (by first | rfl | simp [*]), b2⟩
    · have e5 : decide (died ≤ now) = false := decide_eq_false h5
      have hl : decide (lifeP born died now) = false := decide_eq_false (fun g => by unfold lifeP at g; omega)
      rw [HV2.out _ hl]
      clear hl h3
      go_enter Try.func111, Try.ntmps111
      go_wp2_with fail
      generalize w.alloc (.cells #[.int .i64 id, .slice va xs.length vc, .int .i64 born, .int .i64 died] 62) = W at *
      refine (verRow_any id born died va xs.length vc W).mono ?_
      rintro e w0 ⟨rfl, b0⟩
      have D0 := Lib.hid (d0.out.trans (b0.mono d0.out.size))
      have K0 := Lib.hid ((b0.block w.heap.size Y0.out).trans B0.out)
      have YY := Lib.hid (Nat.lt_of_lt_of_le Y0.out b0.size)
      clear b0
      go_wp2_with fail
      refine (HR.out w0 (ints_below H.out D0.out)).mono ?_
      rintro e w1 ⟨rfl, b1⟩
      have k0 := (b1.block w.heap.size YY.out).trans K0.out
      have b2 := D0.out.trans (b1.mono D0.out.size)
      have p0 := (cell_of_row w1 _ 0 _ _ _ k0).trans (show _ = some (Value.int .i64 id) from rfl)
      have p1 := (cell_of_row w1 _ 1 _ _ _ k0).trans (show _ = some (Value.slice va xs.length vc) from rfl)
      have p2 := (cell_of_row w1 _ 2 _ _ _ k0).trans (show _ = some (Value.int .i64 born) from rfl)
      have p3 := (cell_of_row w1 _ 3 _ _ _ k0).trans (show _ = some (Value.int .i64 died) from rfl)
      clear k0
      go_wp2
      go_ret
      exact ⟨ret_b (by first | rfl | simp [*]), b2⟩
end Go.Proofs.Ytginjmnohnidiaa
namespace Go.Proofs.Ytginjmnohnidiaa
open Go.RowKit
set_option linter.unusedVariables false
set_option linter.unusedSimpArgs false
set_option maxHeartbeats 8000000 in
set_option maxRecDepth 100000 in
theorem seenWith_any (i1 b1 d1 i2 b2 d2 : Int) (a1 a2 : Option Addr) (n1 c1 n2 c2 : Nat) (w : World) :
    Calls Try.prog 113 #[.agg #[.int .i64 i1, .slice a1 n1 c1, .int .i64 b1, .int .i64 d1], .agg #[.int .i64 i2, .slice a2 n2 c2, .int .i64 b2, .int .i64 d2]] w fun e w' => e = .returned (.bool (decide (seenP i1 b1 d1 i2 b2 d2))) ∧ Below w.heap.size w w' := by
  have d0 := Lib.hid (show Below w.heap.size w ((w.alloc (.cells #[.int .i64 i1, .slice a1 n1 c1, .int .i64 b1, .int .i64 d1] 62)).alloc (.cells #[.int .i64 i2, .slice a2 n2 c2, .int .i64 b2, .int .i64 d2] 62)) from ((Below.refl _ _).alloc (Nat.le_refl _) _).alloc (by simp) _)
  have B1 : Hid (((w.alloc (.cells #[.int .i64 i1, .slice a1 n1 c1, .int .i64 b1, .int .i64 d1] 62)).alloc (.cells #[.int .i64 i2, .slice a2 n2 c2, .int .i64 b2, .int .i64 d2] 62)).heap[w.heap.size + 1]? = some (.cells #[.int .i64 i2, .slice a2 n2 c2, .int .i64 b2, .int .i64 d2] 62 (0, 0))) := Lib.hid (by
    have := heap_alloc_new (w.alloc (.cells #[.int .i64 i1, .slice a1 n1 c1, .int .i64 b1, .int .i64 d1] 62)) (.cells #[.int .i64 i2, .slice a2 n2 c2, .int .i64 b2, .int .i64 d2] 62)
    simpa only [World.size_alloc] using this)
  have B0 : Hid (((w.alloc (.cells #[.int .i64 i1, .slice a1 n1 c1, .int .i64 b1, .int .i64 d1] 62)).alloc (.cells #[.int .i64 i2, .slice a2 n2 c2, .int .i64 b2, .int .i64 d2] 62)).heap[w.heap.size]? = some (.cells #[.int .i64 i1, .slice a1 n1 c1, .int .i64 b1, .int .i64 d1] 62 (0, 0))) := Lib.hid (by
    rw [Below.heap_alloc _ _ _ (by simp)]
    exact heap_alloc_new w _)
  have Y1 : Hid (w.heap.size + 1 < ((w.alloc (.cells #[.int .i64 i1, .slice a1 n1 c1, .int .i64 b1, .int .i64 d1] 62)).alloc (.cells #[.int .i64 i2, .slice a2 n2 c2, .int .i64 b2, .int .i64 d2] 62)).heap.size) := Lib.hid (by simp [World.size_alloc])
  by_cases q1 : i1 = i2
  rotate_left
  · have e1 : (i1 == i2) = false := by simp [q1]
    have HD : Hid (decide (seenP i1 b1 d1 i2 b2 d2) = false) := Lib.hid (decide_eq_false (fun g => q1 g.1))
    rw [HD.out]
    clear q1
    go_enter Try.func113, Try.ntmps113
    go_wp2
    go_ret
    exact ⟨rfl, d0.out⟩
  have e1 : (i1 == i2) = true := by simp [q1]
  have Q1 := Lib.hid q1
  clear q1
  have HV1 := Lib.hid (fun W => implVisible i1 b1 d1 (max b1 b2) (.slice a1 n1 c1) W)
  have HV2 := Lib.hid (fun W => implVisible i2 b2 d2 (max b1 b2) (.slice a2 n2 c2) W)
  have HM : Hid (∃ t, t = max b1 b2) := Lib.hid ⟨_, rfl⟩
  cases h1 : decide (visP b1 d1 (max b1 b2)) with
  | false =>
    have HD : Hid (decide (seenP i1 b1 d1 i2 b2 d2) = false) := Lib.hid (decide_eq_false (fun g => by have := decide_eq_true g.2.1; rw [h1] at this; cases this))
    rw [HD.out]
    rw [h1] at HV1
    clear h1
    go_enter Try.func113, Try.ntmps113
    go_wp2_with fail
    generalize ((w.alloc (.cells #[.int .i64 i1, .slice a1 n1 c1, .int .i64 b1, .int .i64 d1] 62)).alloc (.cells #[.int .i64 i2, .slice a2 n2 c2, .int .i64 b2, .int .i64 d2] 62)) = W at *
    refine (HV1.out W).mono ?_
    rintro e w1 ⟨rfl, c1⟩
    have D1 := d0.out.trans (c1.mono d0.out.size)
    go_wp2
    go_ret
    exact ⟨rfl, D1⟩
  | true =>
    rw [h1] at HV1
    have H1 := Lib.hid (of_decide_eq_true h1)
    clear h1
    obtain ⟨r, hr⟩ : ∃ r, r = decide (visP b2 d2 (max b1 b2)) := ⟨_, rfl⟩
    have HD : Hid (decide (seenP i1 b1 d1 i2 b2 d2) = r) := Lib.hid (by
      rw [hr]
      by_cases g : visP b2 d2 (max b1 b2)
      · rw [decide_eq_true g, decide_eq_true ⟨Q1.out, H1.out, g⟩]
      · rw [decide_eq_false g, decide_eq_false (fun q => g q.2.2)])
    rw [← hr] at HV2
    rw [HD.out]
    clear hr
    go_enter Try.func113, Try.ntmps113
    go_wp2_with fail
    generalize ((w.alloc (.cells #[.int .i64 i1, .slice a1 n1 c1, .int .i64 b1, .int .i64 d1] 62)).alloc (.cells #[.int .i64 i2, .slice a2 n2 c2, .int .i64 b2, .int .i64 d2] 62)) = W at *
    refine (HV1.out W).mono ?_
    rintro e w1 ⟨rfl, e9⟩
    have D1 := Lib.hid (d0.out.trans (e9.mono d0.out.size))
    have k1 := (e9.block (w.heap.size + 1) Y1.out).trans B1.out
    have p0 := (cell_of_row w1 _ 0 _ _ _ k1).trans (show _ = some (Value.int .i64 i2) from rfl)
    have p1 := (cell_of_row w1 _ 1 _ _ _ k1).trans (show _ = some (Value.slice a2 n2 c2) from rfl)
    have p2 := (cell_of_row w1 _ 2 _ _ _ k1).trans (show _ = some (Value.int .i64 b2) from rfl)
    have p3 := (cell_of_row w1 _ 3 _ _ _ k1).trans (show _ = some (Value.int .i64 d2) from rfl)
    clear k1 e9
    go_wp2_with fail
    refine (HV2.out w1).mono ?_
    rintro e w2 ⟨rfl, e8⟩
    have D2 := D1.out.trans (e8.mono D1.out.size)
    clear p0 p1 p2 p3
    go_wp2
    go_ret
    exact ⟨rfl, D2⟩
set_option maxHeartbeats 8000000 in
set_option maxRecDepth 100000 in
theorem isSegmentCount_any (n : Int) (w : World) : Calls Try.prog 70 #[.int .i64 n] w fun e w' => e = .returned (.bool (decide (1 ≤ n ∧ n ≤ 8))) ∧ w' = w := by
  by_cases h1 : 1 ≤ n
  · by_cases h2 : n ≤ 8
    · rw [decide_eq_true ⟨h1, h2⟩]
      go_enter Try.func70, Try.ntmps70
      go_wp2
      go_ret
      exact ⟨ret_b (by first | rfl | simp [h2]), rfl⟩
    · rw [decide_eq_false (fun g => h2 g.2)]
      go_enter Try.func70, Try.ntmps70
      go_wp2
      go_ret
      exact ⟨ret_b (by first | rfl | simp [h2] | (simp; omega)), rfl⟩
  · rw [decide_eq_false (fun g => h1 g.1)]
    go_enter Try.func70, Try.ntmps70
    go_wp2
    go_ret
    exact ⟨rfl, rfl⟩
set_option maxHeartbeats 8000000 in
set_option maxRecDepth 100000 in
theorem isTime_any (n : Int) (w : World) : Calls Try.prog 83 #[.int .i64 n] w fun e w' => e = .returned (.bool (decide (0 ≤ n ∧ n ≤ 100000))) ∧ w' = w := by
  by_cases h1 : 0 ≤ n
  · by_cases h2 : n ≤ 100000
    · rw [decide_eq_true ⟨h1, h2⟩]
      go_enter Try.func83, Try.ntmps83
      go_wp2
      go_ret
      exact ⟨ret_b (by first | rfl | simp [h2]), rfl⟩
    · rw [decide_eq_false (fun g => h2 g.2)]
      go_enter Try.func83, Try.ntmps83
      go_wp2
      go_ret
      exact ⟨ret_b (by first | rfl | simp [h2] | (simp; omega)), rfl⟩
  · rw [decide_eq_false (fun g => h1 g.1)]
    go_enter Try.func83, Try.ntmps83
    go_wp2
    go_ret
    exact ⟨rfl, rfl⟩
/-- Some version of the slice is seen with this one. -/
def anyB (x : VerD) (l : List VerD) : Bool := l.any (fun y => seenB x y)
theorem any_yes {x : VerD} {l : List VerD} {j : Nat} (hj : j < l.length) (h : seenB x (l.getD j v0D) = true) : anyB x l = true := by
  unfold anyB
  rw [List.any_eq_true]
  have e : l.getD j v0D = l[j] := by simp [List.getD, hj]
  exact ⟨l[j], List.getElem_mem _, by rw [← e]; exact h⟩
theorem any_no {x : VerD} {l : List VerD} (h : ∀ j, j < l.length → seenB x (l.getD j v0D) = false) : anyB x l = false := by
  unfold anyB
  rw [List.any_eq_false]
  intro y hy
  obtain ⟨j, hj, rfl⟩ := List.getElem_of_mem hy
  have := h j hj
  have e : l.getD j v0D = l[j] := by simp [List.getD, hj]
  rw [e] at this
  rw [this]; simp
set_option maxHeartbeats 8000000 in
set_option maxRecDepth 100000 in
theorem indexSeen (v : Value) (l : List VerD) (i1 b1 d1 : Int) (xs1 : List Int) (a1 : Option Addr) (n1 cc1 : Nat) (w : World) (h : SlR tVersion w v l) (hs : l.length ≤ 1048576) :
    Calls Try.prog 137 #[v, .func (.func 113) #[.agg #[.int .i64 i1, .slice a1 n1 cc1, .int .i64 b1, .int .i64 d1]] #[]] w fun e w' => (∃ r : Int, e = .returned (.int .i64 r) ∧ decide (0 ≤ r) = anyB (i1, xs1, b1, d1) l) ∧ Below w.heap.size w w' := by
  have H := Lib.hid h
  obtain ⟨a, cap, rfl⟩ := slR_len h
  clear h
  go_enter Try.func137, Try.ntmps137
  go_wp2
  go_loopw [8] (fun i wr => ∃ k : Nat, k ≤ l.length ∧ i = .int .i64 k ∧ Hid (∀ j, j < k → seenB (i1, xs1, b1, d1) (l.getD j v0D) = false) ∧ Below w.heap.size w wr) (fun i _ => l.length - (intOf i).toNat)
  case atStart => exact ⟨0, Nat.zero_le _, rfl, Lib.hid (fun j hj => by omega), Below.refl _ _⟩
  case round =>
    obtain ⟨k, hk, rfl, hall, hbel⟩ := hrel
    by_cases hlt : k < l.length
    · have i1' : (0 : Int) ≤ (k : Int) := by omega
      have i2' : (k : Int) < (l.length : Int) := by omega
      obtain ⟨b, off, cap', xa, xc, hv, hbl, c0, c1, c2, c3, hx⟩ := verR_at (slR_below tVersion_law H.out hbel) hlt
      simp only [Value.slice.injEq] at hv
      obtain ⟨rfl, _, rfl⟩ := hv
      have HYS := Lib.hid (fun g => any_yes (x := (i1, xs1, b1, d1)) hlt g)
      have HNO : Hid (seenB (i1, xs1, b1, d1) (l.getD k v0D) = false → ∀ j, j < k + 1 → seenB (i1, xs1, b1, d1) (l.getD j v0D) = false) := Lib.hid (fun g j hj => by
        by_cases e : j = k
        · rw [e]; exact g
        · exact hall.out j (by omega))
      have d := Lib.hid hbel
      clear hall hx hbel
      generalize l.getD k v0D = y at *
      obtain ⟨id2, ys, born2, died2⟩ := y
      simp only at c0 c1 c2 c3
      have HC := Lib.hid (fun W => seenWith_any i1 b1 d1 id2 born2 died2 a1 xa n1 cc1 ys.length xc W)
      cases hse : seenB (i1, xs1, b1, d1) (id2, ys, born2, died2) with
      | true =>
        have HT := Lib.hid (HYS.out hse)
        rw [show decide (seenP i1 b1 d1 id2 born2 died2) = true from hse] at HC
        clear hse HYS HNO
        go_wp2_with fail
        refine (HC.out _).mono ?_
        rintro e w2 ⟨rfl, b2⟩
        have d2 := Lib.hid (d.out.trans (b2.mono d.out.size))
        clear b2 c0 c1 c2 c3 d
        go_wp2
        go_ret
        exact ⟨⟨_, rfl, by rw [HT.out]; exact decide_eq_true i1'⟩, d2.out⟩
      | false =>
        have HN := Lib.hid (HNO.out hse)
        rw [show decide (seenP i1 b1 d1 id2 born2 died2) = false from hse] at HC
        clear hse HYS HNO
        go_wp2_with fail
        refine (HC.out _).mono ?_
        rintro e w2 ⟨rfl, b2⟩
        have d2 := Lib.hid (d.out.trans (b2.mono d.out.size))
        clear b2 c0 c1 c2 c3 d
        go_wp2
        go_roundw
        case rel => exact ⟨k + 1, by omega, by go_num, HN, d2.out⟩
        case measure => simp [intOf]; omega
    · obtain rfl : k = l.length := by omega
      have HF := Lib.hid (any_no hall.out)
      clear hall
      go_wp2
      go_ret
      exact ⟨⟨-1, rfl, by rw [HF.out]; rfl⟩, hbel⟩
set_option maxHeartbeats 8000000 in
set_option maxRecDepth 100000 in
theorem containsSeen (v : Value) (l : List VerD) (i1 b1 d1 : Int) (xs1 : List Int) (a1 : Option Addr) (n1 c1 : Nat) (w : World) (h : SlR tVersion w v l) (hs : l.length ≤ 1048576) :
    Calls Try.prog 112 #[v, .func (.func 113) #[.agg #[.int .i64 i1, .slice a1 n1 c1, .int .i64 b1, .int .i64 d1]] #[]] w fun e w' => e = .returned (.bool (anyB (i1, xs1, b1, d1) l)) ∧ Below w.heap.size w w' := by
  have HC := Lib.hid (indexSeen v l i1 b1 d1 xs1 a1 n1 c1 w h hs)
  clear h hs
  go_enter Try.func112, Try.ntmps112
  go_wp2_with fail
  refine HC.out.mono ?_
  rintro e w1 ⟨⟨r, rfl, hr⟩, b1⟩
  have HR := Lib.hid hr
  clear hr
  go_wp2
  go_ret
  exact ⟨ret_b (by rw [← HR.out]), b1⟩
end Go.Proofs.Ytginjmnohnidiaa
namespace Go.Proofs.Ytginjmnohnidiaa
open Go.RowKit
set_option linter.unusedVariables false
set_option linter.unusedSimpArgs false
theorem info_R_ptr : ElemInfo (tRaw 1) 102 (.pointer none) := elemInfo_of (by kernel_rfl)
/-- A slice as a value: its address, length and capacity. -/
abbrev SegV := Option Addr × Nat × Nat
def s0V : SegV := (none, 0, 0)
def segV (u : SegV) : Value := .slice u.1 u.2.1 u.2.2
def cutV (u : SegV) : Value := .slice u.1 u.2.1 u.2.1
def ptrV (b : Nat) : Value := .pointer (some ⟨b, 0, none⟩)
/-- A slice of slices is read. -/
def LsR (w : World) (v : Value) (us : List SegV) : Prop := SlR (tRaw 1) w v (us.map (fun u => [segV u])) ∧ ∀ j, j < us.length → (us.getD j s0V).2.1 ≤ (us.getD j s0V).2.2
theorem lsR_below {W w : World} {v : Value} {us : List SegV} (h : LsR W v us) (hb : Below W.heap.size W w) : LsR w v us := ⟨slR_below (tRaw_law (by decide)) h.1 hb, h.2⟩
theorem lsR_len {w : World} {v : Value} {us : List SegV} (h : LsR w v us) : ∃ a cap, v = .slice a us.length cap := by
  obtain ⟨a, cap, e⟩ := slR_len h.1
  rw [List.length_map] at e
  exact ⟨a, cap, e⟩
theorem lsR_at {w : World} {v : Value} {us : List SegV} (h : LsR w v us) {k : Nat} (hk : k < us.length) : ∃ b off cap, v = .slice (some ⟨b, off, none⟩) us.length cap ∧ b < w.heap.size ∧ w.cell? ⟨b, off + k, none⟩ = some (segV (us.getD k s0V)) ∧ (us.getD k s0V).2.1 ≤ (us.getD k s0V).2.2 := by
  obtain ⟨b, off, cap, cs, hv, hb, hc, hR⟩ := slR_at h.1 (k := k) (by rw [List.length_map]; exact hk)
  rw [List.length_map] at hv
  obtain ⟨e, _⟩ := hR
  have e2 : (us.map (fun u => [segV u])).getD k (tRaw 1).d = [segV (us.getD k s0V)] := by simp [List.getD, hk]
  rw [e2] at e
  have := hc 0 (by decide)
  rw [show (tRaw 1).n = 1 from rfl, Nat.mul_one, Nat.add_zero, e] at this
  exact ⟨b, off, cap, hv, hb, this, h.2 k hk⟩
/-- The row of a segment's block. -/
def segRow (u : SegV) : Obj := .cells #[cutV u] 131 (0, 0)
/-- What tableOf answers: new pointers to new segments. -/
def TabN (B : Nat) (w : World) (g : Nat) (bs : List Nat) (us : List SegV) : Prop :=
  B ≤ g ∧ g < w.heap.size ∧ bs.length = us.length ∧ (∀ j, j < us.length → w.cell? ⟨g, j, none⟩ = some (ptrV (bs.getD j 0)) ∧ w.heap[bs.getD j 0]? = some (segRow (us.getD j s0V)) ∧ g < bs.getD j 0) ∧ ∀ i j, i < us.length → j < us.length → i ≠ j → bs.getD i 0 ≠ bs.getD j 0
def FreshTab (w : World) (us : List SegV) (e : Ending) (w' : World) : Prop := ∃ g bs, e = .returned (.slice (some ⟨g, 0, none⟩) us.length us.length) ∧ TabN w.heap.size w' g bs us ∧ Below w.heap.size w w'
def FreshTabO (w : World) (us : List SegV) (e : Ending) (w' : World) : Prop := ∃ g bs, e = .returned (.slice (some ⟨g, 0, none⟩) us.length us.length) ∧ w'.ownsRow w.heap.size 102 1 (.slice (some ⟨g, 0, none⟩) us.length us.length) us.length (bs.map ptrV) ∧ TabN w.heap.size w' g bs us ∧ Below w.heap.size w w'
theorem ptr_set {bs : List Nat} {n k b : Nat} (hb : bs.length = k) (hk : k < n) : (bs.map ptrV ++ List.replicate (n - k) (Value.pointer none)).set k (ptrV b) = (bs ++ [b]).map ptrV ++ List.replicate (n - (k + 1)) (Value.pointer none) := by
  have hl : (bs.map ptrV).length = k := by rw [List.length_map]; exact hb
  rw [List.set_append_right _ _ (by omega), hl, Nat.sub_self, show n - k = (n - (k + 1)) + 1 by omega, List.replicate_succ, List.set_cons_zero, List.map_append, List.append_assoc]
  rfl
theorem getD_app_lt {bs : List Nat} {b j : Nat} (h : j < bs.length) : (bs ++ [b]).getD j 0 = bs.getD j 0 := by simp [List.getD, List.getElem?_append_left h]
theorem getD_app_eq {bs : List Nat} {b j : Nat} (h : j = bs.length) : (bs ++ [b]).getD j 0 = b := by subst h; simp [List.getD]
set_option maxHeartbeats 8000000 in
set_option maxRecDepth 100000 in
theorem tableOf_own (v : Value) (us : List SegV) (w : World) (h : LsR w v us) (hn : us.length ≤ 1048576) :
    Calls Try.prog 71 #[v] w (FreshTabO w us) := by
  obtain ⟨i0, hi, hz0, hz1, hz2⟩ := info_R_ptr
  have HI := Lib.hid hi; have HZ0 := Lib.hid hz0; have HZ1 : Hid (i0.size = 1) := Lib.hid hz1; have HZ2 := Lib.hid hz2
  clear hi hz0 hz1 hz2
  have H := Lib.hid h
  obtain ⟨a, cap, rfl⟩ := lsR_len h
  clear h
  go_enter Try.func71, Try.ntmps71
  go_wp2_with (at_make; refine wpList_make_full _ rfl (.tmp 7) (.tmp 7) 100 rfl w.heap.size 102 i0 (.pointer none) 1 Try.underlying100 HI.out HZ0.out HZ1.out _ _ _ _ us.length rfl rfl rfl rfl (by have := Nat.mul_le_mul HZ2.out hn; omega) (by unfold maxLen; omega) (Nat.le_refl _) ?_)
  intro w1 hown0 hg0
  have hbel1 := (Below.refl w.heap.size w).grown hg0 (Nat.le_refl _) (fun k hk => by cases hk)
  have hz : (madeCells #[Value.pointer none] us.length).toList = List.replicate us.length (Value.pointer none) := by
    apply List.ext_getElem?
    intro i
    unfold madeCells
    rw [Array.getElem?_toList, Array.getElem?_map]
    by_cases q : i < us.length
    · rw [Array.getElem?_range, if_pos q]
      simp [q, Nat.mod_one]
    · rw [Array.getElem?_range, if_neg q]
      simp [q]
  rw [hz] at hown0
  clear hg0 hz
  go_wp2
  go_loopw [11] (fun i wr => ∃ (k : Nat) (bs : List Nat), k ≤ us.length ∧ i = .int .i64 k ∧ bs.length = k ∧ wr.ownsRow w.heap.size 102 1 (.slice (some ⟨w.heap.size, 0, none⟩) us.length us.length) us.length (bs.map ptrV ++ List.replicate (us.length - k) (Value.pointer none)) ∧ Hid (∀ j, j < k → wr.heap[bs.getD j 0]? = some (segRow (us.getD j s0V)) ∧ w.heap.size < bs.getD j 0 ∧ bs.getD j 0 < wr.heap.size) ∧ Hid (∀ i j, i < k → j < k → i ≠ j → bs.getD i 0 ≠ bs.getD j 0) ∧ Below w.heap.size w wr ∧ w.heap.size < wr.heap.size) (fun i _ => us.length - (intOf i).toNat)
  case atStart => exact ⟨0, [], Nat.zero_le _, rfl, rfl, hown0, Lib.hid (fun j hj => by omega), Lib.hid (fun i j hi => by omega), hbel1, (hown0.lt w.heap.size rfl).2⟩
  case round =>
    obtain ⟨k, bs, hk, rfl, hbs, hown, hrow, hdis, hbel, hsz⟩ := hrel
    clear hown0 hbel1
    by_cases hlt : k < us.length
    · have i1 : (0 : Int) ≤ (k : Int) := by omega
      have i2 : (k : Int) < (us.length : Int) := by omega
      obtain ⟨b, off, cap', hv, hbl, c0, hle⟩ := lsR_at (lsR_below H.out hbel) hlt
      simp only [Value.slice.injEq] at hv
      obtain ⟨rfl, _, rfl⟩ := hv
      have hset := ptr_set (b := wr.heap.size) hbs hlt
      have r1 := (World.ownsRow.stored hown k (ptrV wr.heap.size)).1
      rw [hset] at r1
      have r2 := r1.alloc (.cells #[cutV (us.getD k s0V)] 131)
      have y0 : ∃ x, wr.cell? ⟨w.heap.size, k, none⟩ = some x := ⟨_, (World.ownsRow.cellAt hown k (by omega)).trans (List.getElem?_eq_getElem (by simp; omega))⟩
      obtain ⟨y, y0⟩ := y0
      have f0 := World.ownsRow.frozenAt hown k
      have tt : Turn (fun x => x = w.heap.size) wr (wr.setCell ⟨w.heap.size, k, none⟩ (ptrV wr.heap.size)) := turn_set (G := fun x => x = w.heap.size) (g := w.heap.size) (j := k) (u := ptrV wr.heap.size) rfl
      have hs0 : (wr.setCell ⟨w.heap.size, k, none⟩ (ptrV wr.heap.size)).heap.size = wr.heap.size := by simp [World.setCell]
      have hal : Below (wr.setCell ⟨w.heap.size, k, none⟩ (ptrV wr.heap.size)).heap.size (wr.setCell ⟨w.heap.size, k, none⟩ (ptrV wr.heap.size)) ((wr.setCell ⟨w.heap.size, k, none⟩ (ptrV wr.heap.size)).alloc (.cells #[cutV (us.getD k s0V)] 131)) := (Below.refl _ _).alloc (Nat.le_refl _) _
      have hnew : ((wr.setCell ⟨w.heap.size, k, none⟩ (ptrV wr.heap.size)).alloc (.cells #[cutV (us.getD k s0V)] 131)).heap[wr.heap.size]? = some (.cells #[cutV (us.getD k s0V)] 131 (0, 0)) := by
        have := heap_alloc_new (wr.setCell ⟨w.heap.size, k, none⟩ (ptrV wr.heap.size)) (.cells #[cutV (us.getD k s0V)] 131)
        rw [hs0] at this; exact this
      have hs1 : ((wr.setCell ⟨w.heap.size, k, none⟩ (ptrV wr.heap.size)).alloc (.cells #[cutV (us.getD k s0V)] 131)).heap.size = wr.heap.size + 1 := by rw [World.size_alloc, hs0]
      have R2 := Lib.hid r2
      have HROW : Hid (∀ j, j < k + 1 → ((wr.setCell ⟨w.heap.size, k, none⟩ (ptrV wr.heap.size)).alloc (.cells #[cutV (us.getD k s0V)] 131)).heap[(bs ++ [wr.heap.size]).getD j 0]? = some (segRow (us.getD j s0V)) ∧ w.heap.size < (bs ++ [wr.heap.size]).getD j 0 ∧ (bs ++ [wr.heap.size]).getD j 0 < ((wr.setCell ⟨w.heap.size, k, none⟩ (ptrV wr.heap.size)).alloc (.cells #[cutV (us.getD k s0V)] 131)).heap.size) := Lib.hid (fun j hj => by
        by_cases e : j = k
        · rw [getD_app_eq (by omega), e]
          exact ⟨hnew, hsz, by omega⟩
        · rw [getD_app_lt (by omega)]
          obtain ⟨g1, g2, g3⟩ := hrow.out j (by omega)
          exact ⟨(hal.block _ (by omega)).trans ((tt.block _ g3 (fun q => by omega)).trans g1), g2, by omega⟩)
      have HDIS : Hid (∀ i j, i < k + 1 → j < k + 1 → i ≠ j → (bs ++ [wr.heap.size]).getD i 0 ≠ (bs ++ [wr.heap.size]).getD j 0) := Lib.hid (fun i j hi hj hij => by
        by_cases e1 : i = k
        · rw [getD_app_eq (by omega), getD_app_lt (by omega)]
          have := (hrow.out j (by omega)).2.2; omega
        · by_cases e2 : j = k
          · rw [getD_app_lt (by omega), getD_app_eq (by omega)]
            have := (hrow.out i (by omega)).2.2; omega
          · rw [getD_app_lt (by omega), getD_app_lt (by omega)]
            exact hdis.out i j (by omega) (by omega) hij)
      have D2 : Hid (Below w.heap.size w ((wr.setCell ⟨w.heap.size, k, none⟩ (ptrV wr.heap.size)).alloc (.cells #[cutV (us.getD k s0V)] 131))) := Lib.hid ((below_turn hbel tt (fun x hx => by omega) (by omega)).trans (hal.mono (by omega)))
      have S2 : Hid (w.heap.size < ((wr.setCell ⟨w.heap.size, k, none⟩ (ptrV wr.heap.size)).alloc (.cells #[cutV (us.getD k s0V)] 131)).heap.size) := Lib.hid (by omega)
      have HBL : Hid ((bs ++ [wr.heap.size]).length = k + 1) := Lib.hid (by rw [List.length_append]; simp; omega)
      clear hset r1 r2 hal tt hnew hs0 hs1 hrow hdis hown hbel hbs
      generalize us.getD k s0V = u at *
      obtain ⟨ua, n, uc⟩ := u
      simp only [segV, cutV, ptrV] at *
      have j1 : (n : Int) ≤ (uc : Int) := by omega
      go_wp2
      go_roundw
      case rel => exact ⟨k + 1, _, by omega, by go_num, HBL.out, R2.out, HROW, HDIS, D2.out, S2.out⟩
      case measure => simp [intOf]; omega
    · obtain rfl : k = us.length := by omega
      have HO := Lib.hid hown
      clear hown
      go_wp2
      go_ret
      have ho := HO.out
      refine ⟨w.heap.size, bs, rfl, by simpa using ho, ⟨Nat.le_refl _, hsz, hbs, fun j hj => ⟨?_, (hrow.out j hj).1, (hrow.out j hj).2.1⟩, hdis.out⟩, hbel⟩
      refine (World.ownsRow.cellAt ho j (by omega)).trans ?_
      rw [List.getElem?_append_left (by rw [List.length_map]; omega), List.getElem?_map]
      simp [List.getD, show j < bs.length by omega]
theorem tableOf_any (v : Value) (us : List SegV) (w : World) (h : LsR w v us) (hn : us.length ≤ 1048576) :
    Calls Try.prog 71 #[v] w (FreshTab w us) :=
  (tableOf_own v us w h hn).mono (by
    rintro e w1 ⟨g, bs, he, _, ht, hb⟩
    exact ⟨g, bs, he, ht, hb⟩)
end Go.Proofs.Ytginjmnohnidiaa
namespace Go.Proofs.Ytginjmnohnidiaa
open Go.RowKit
set_option linter.unusedVariables false
set_option linter.unusedSimpArgs false
theorem info_R_Row : ElemInfo (tRaw 2) 76 (.agg #[.int .i64 0, .slice none 0 0]) := elemInfo_of (by kernel_rfl)
theorem tabN_below {B : Nat} {w w' : World} {g : Nat} {bs : List Nat} {us : List SegV} (h : TabN B w g bs us) (hb : Below w.heap.size w w') : TabN B w' g bs us := by
  obtain ⟨h1, h2, h3, h4, h5⟩ := h
  refine ⟨h1, Nat.lt_of_lt_of_le h2 hb.size, h3, fun j hj => ?_, h5⟩
  obtain ⟨g1, g2, g3⟩ := h4 j hj
  exact ⟨(hb.cell (p := ⟨g, j, none⟩) h2).trans g1, (hb.block _ (Array.getElem?_eq_some_iff.1 g2).1).trans g2, g3⟩
theorem slR_cut {α : Type} {T : Ty α} {w : World} {a : Option Addr} {n c : Nat} {xs : List α} (h : SlR T w (.slice a n c) xs) : SlR T w (.slice a n n) xs ∧ n = xs.length ∧ n ≤ c := by
  rcases h with ⟨rfl, a', cap, e⟩ | ⟨b, off, cap, us, e, h2, h3, h4⟩
  · simp only [Value.slice.injEq] at e
    obtain ⟨rfl, rfl, rfl⟩ := e
    exact ⟨Or.inl ⟨rfl, _, _, rfl⟩, rfl, Nat.zero_le _⟩
  · simp only [Value.slice.injEq] at e
    obtain ⟨rfl, rfl, rfl⟩ := e
    exact ⟨Or.inr ⟨b, off, _, us, rfl, Nat.le_refl _, h3, h4⟩, rfl, h2⟩
/-- The segments as they are named by values. -/
def SegsR (w : World) (us : List SegV) (ss : List (List VerD)) : Prop := us.length = ss.length ∧ ∀ j, j < ss.length → SlR tVersion w (cutV (us.getD j s0V)) (ss.getD j []) ∧ (us.getD j s0V).2.1 = (ss.getD j []).length
theorem segsR_below {W w : World} {us : List SegV} {ss : List (List VerD)} (h : SegsR W us ss) (hb : Below W.heap.size W w) : SegsR w us ss := ⟨h.1, fun j hj => ⟨slR_below tVersion_law (h.2 j hj).1 hb, (h.2 j hj).2⟩⟩
theorem slR_ls {w : World} {v : Value} {ss : List (List VerD)} (h : SlR tVersionS w v ss) : ∃ us, LsR w v us ∧ SegsR w us ss := by
  rcases h with ⟨rfl, a, cap, rfl⟩ | ⟨b, off, cap, us, rfl, h2, h3, h4⟩
  · exact ⟨[], ⟨Or.inl ⟨rfl, a, cap, rfl⟩, fun j hj => by simp at hj⟩, rfl, fun j hj => by simp at hj⟩
  · haveI : Inhabited SegV := ⟨s0V⟩
    obtain ⟨f, hf⟩ := Go.Deep.choose_lt (α := SegV) (n := ss.length) (p := fun j u => w.cell? ⟨b, off + j, none⟩ = some (segV u) ∧ SlR tVersion w (cutV u) (ss.getD j []) ∧ u.2.1 = (ss.getD j []).length ∧ u.2.1 ≤ u.2.2) (fun j hj => by
      obtain ⟨hc, hR⟩ := h4 j hj
      obtain ⟨v, e, hv⟩ := hR
      have h0 := hc 0 (by decide)
      rw [show tVersionS.n = 1 from rfl, Nat.mul_one, Nat.add_zero, e] at h0
      obtain ⟨a, c, rfl⟩ := slR_len hv
      obtain ⟨k1, k2, k3⟩ := slR_cut hv
      exact ⟨(a, (ss.getD j []).length, c), h0, k1, rfl, k3⟩)
    have hg : ∀ j, j < ss.length → ((List.range ss.length).map f).getD j s0V = f j := fun j hj => by simp [List.getD, hj]
    refine ⟨(List.range ss.length).map f, ⟨Or.inr ⟨b, off, cap, fun j => [segV (f j)], by simp, by simpa using h2, h3, fun j hj => ?_⟩, fun j hj => ?_⟩, by simp, fun j hj => ?_⟩
    · have hj' : j < ss.length := by simpa using hj
      refine ⟨fun i hi => ?_, ?_⟩
      · have hi0 : i = 0 := by have : i < 1 := hi; omega
        subst hi0
        rw [show (tRaw 1).n = 1 from rfl, Nat.mul_one, Nat.add_zero]
        exact (hf j hj').1
      · have e : (((List.range ss.length).map f).map (fun u => [segV u])).getD j (tRaw 1).d = [segV (f j)] := by simp [List.getD, hj']
        rw [e]
        exact ⟨rfl, rfl, fun u hu => by simp at hu; subst hu; rfl⟩
    · have hj' : j < ss.length := by simpa using hj
      rw [hg j hj']; exact (hf j hj').2.2.2
    · rw [hg j hj]; exact ⟨(hf j hj).2.1, (hf j hj).2.2.1⟩
/-- Rows in a slice of the call's own that name what was there. -/
def RowsRaw (w0 w : World) (rs : List RowD) (e : Ending) (w' : World) : Prop := ∃ (v : Value) (L : List (List Value)), e = .returned v ∧ SlO 76 (tRaw 2) w' (since w) v L ∧ Sh tRow w0 L rs ∧ Below w.heap.size w w'
set_option maxHeartbeats 8000000 in
set_option maxRecDepth 100000 in
theorem segRowsAt (b0 : Nat) (u : SegV) (l : List VerD) (t : Int) (w0 w : World) (hw : Below w0.heap.size w0 w) (hb0 : w.heap[b0]? = some (segRow u)) (h : SlR tVersion w0 (cutV u) l) (hlu : u.2.1 = l.length) (hs : zL tVersion l ≤ 1048576) :
    Calls Try.prog 87 #[ptrV b0, .int .i64 t] w (RowsRaw w0 w (rowsV l t)) := by
  have hlen := zL_len hs
  obtain ⟨a, un, uc⟩ := u
  simp only at hlu
  subst hlu
  have H : Hid (SlR tVersion w0 (.slice a l.length l.length) l) := Lib.hid h
  have HW := Lib.hid hw
  have HB : Hid (w.heap[b0]? = some (.cells #[.slice a l.length l.length] 131 (0, 0))) := Lib.hid hb0
  have q0 := (cell_of_row w _ 0 _ _ _ HB.out).trans (show _ = some (Value.slice a l.length l.length) from rfl)
  clear h hb0 hs hw
  unfold ptrV
  go_enter Try.func87, Try.ntmps87
  go_wp2
  clear q0
  go_loopw [5, 13] (fun o i wr => ∃ (k : Nat) (L : List (List Value)), k ≤ l.length ∧ i = .int .i64 k ∧ SlO 76 (tRaw 2) wr (since w) o L ∧ Hid (Sh tRow w0 L (rowsV (l.take k) t)) ∧ Below w.heap.size w wr) (fun _ i _ => l.length - (intOf i).toNat)
  case atStart => exact ⟨0, [], Nat.zero_le _, rfl, slO_nil _ _ _ _, Lib.hid (sh_nil w0), Below.refl _ _⟩
  case round =>
    obtain ⟨k, L, hk, rfl, hown, hsh, hbel⟩ := hrel
    obtain ⟨oa, oc, rfl⟩ := slO_len hown
    by_cases hlt : k < l.length
    · have i1 : (0 : Int) ≤ (k : Int) := by omega
      have i2 : (k : Int) < (l.length : Int) := by omega
      obtain ⟨b, off, cap', xa, xc, hv, hbl, c0, c1, c2, c3, hx⟩ := verR_at H.out hlt
      simp only [Value.slice.injEq] at hv
      obtain ⟨rfl, _, rfl⟩ := hv
      have HTY := Lib.hid (fun g => rowsV_yes (t := t) hlt g)
      have HTN := Lib.hid (fun g => rowsV_no (t := t) hlt g)
      have HLL : Hid (L.length ≤ 1048576) := Lib.hid (by have h1 := sh_len hsh.out; have h2 := rowsV_take l t k; omega)
      generalize l.getD k v0D = x at *
      obtain ⟨id, xs, born, died⟩ := x
      simp only at c0 c1 c2 c3
      have HX := Lib.hid (ints_slR hx)
      have HV := Lib.hid (fun W => implVisible id born died t (.slice xa xs.length xc) W)
      have e0 := ((HW.out.trans (hbel.mono HW.out.size)).cell (p := ⟨b, off + k * 4, none⟩) hbl).trans c0
      have e1 := ((HW.out.trans (hbel.mono HW.out.size)).cell (p := ⟨b, off + k * 4 + 1, none⟩) hbl).trans c1
      have e2 := ((HW.out.trans (hbel.mono HW.out.size)).cell (p := ⟨b, off + k * 4 + 2, none⟩) hbl).trans c2
      have e3 := ((HW.out.trans (hbel.mono HW.out.size)).cell (p := ⟨b, off + k * 4 + 3, none⟩) hbl).trans c3
      have hal : Below wr.heap.size wr (wr.alloc (.cells #[.int .i64 id, .slice xa xs.length xc, .int .i64 born, .int .i64 died] 62)) := (Below.refl _ _).alloc (Nat.le_refl _) _
      have BV : Hid ((wr.alloc (.cells #[.int .i64 id, .slice xa xs.length xc, .int .i64 born, .int .i64 died] 62)).heap[wr.heap.size]? = some (.cells #[.int .i64 id, .slice xa xs.length xc, .int .i64 born, .int .i64 died] 62 (0, 0))) := Lib.hid (heap_alloc_new wr _)
      have YV : Hid (wr.heap.size < (wr.alloc (.cells #[.int .i64 id, .slice xa xs.length xc, .int .i64 born, .int .i64 died] 62)).heap.size) := Lib.hid (by simp [World.size_alloc])
      have PF := Lib.hid (slO_fresh (tRaw_law (by decide)) (slO_lt (tRaw_law (by decide)) hown) hal)
      have d := Lib.hid (hbel.trans (hal.mono hbel.size))
      have DZ := Lib.hid hbel.size
      clear hown hbel hal hx c0 c1 c2 c3 hbl
      go_wp2_with fail
      clear e0 e1 e2 e3
      generalize wr.alloc (.cells #[.int .i64 id, .slice xa xs.length xc, .int .i64 born, .int .i64 died] 62) = W1 at *
      cases hvis : decide (visP born died t) with
      | false =>
        have HT2 := Lib.hid (HTN.out hvis)
        rw [hvis] at HV
        clear hvis HTY HTN
        refine (HV.out W1).mono ?_
        rintro e w2 ⟨rfl, b2⟩
        have PF2 := Lib.hid (slO_fresh (tRaw_law (by decide)) PF.out b2)
        have d2 := Lib.hid (d.out.trans (b2.mono d.out.size))
        clear PF d b2
        go_wp2
        go_roundw
        case rel => exact ⟨k + 1, L, by omega, by go_num, slO_mono PF2.out (fun b h => h.1), Lib.hid (by rw [HT2.out]; exact hsh.out), d2.out⟩
        case measure => simp [intOf]; omega
      | true =>
        have HT2 := Lib.hid (HTY.out hvis)
        rw [hvis] at HV
        clear hvis HTY HTN
        refine (HV.out W1).mono ?_
        rintro e w2 ⟨rfl, b2⟩
        have kv := (b2.block wr.heap.size YV.out).trans BV.out
        have p0 := (cell_of_row w2 _ 0 _ _ _ kv).trans (show _ = some (Value.int .i64 id) from rfl)
        have p1 := (cell_of_row w2 _ 1 _ _ _ kv).trans (show _ = some (Value.slice xa xs.length xc) from rfl)
        have p2 := (cell_of_row w2 _ 2 _ _ _ kv).trans (show _ = some (Value.int .i64 born) from rfl)
        have p3 := (cell_of_row w2 _ 3 _ _ _ kv).trans (show _ = some (Value.int .i64 died) from rfl)
        have PF2 := Lib.hid (slO_fresh (tRaw_law (by decide)) PF.out b2)
        have d2 := Lib.hid (d.out.trans (b2.mono d.out.size))
        have Z2 := Lib.hid b2.size
        clear PF d b2 kv
        go_wp2_with fail
        refine (verRow_any id born died xa xs.length xc w2).mono ?_
        rintro e w3 ⟨rfl, b3⟩
        clear p0 p1 p2 p3
        have PF3 := Lib.hid (slO_fresh (tRaw_law (by decide)) PF2.out b3)
        have d3 := Lib.hid (d2.out.trans (b3.mono d2.out.size))
        have Z3 := Lib.hid (Nat.le_trans (Nat.le_of_lt YV.out) (Nat.le_trans Z2.out b3.size))
        have ON : Hid ((tRaw 2).O w3 (fun b => wr.heap.size ≤ b) [.int .i64 id, .slice xa xs.length xc] [.int .i64 id, .slice xa xs.length xc]) := Lib.hid ⟨rfl, rfl, by simp [Value.oneCell']⟩
        clear PF2 d2 b3
        go_wp2_with (at_builtin; refine append_T (tRaw_law (by decide)) info_R_Row Try.underlying24 rfl rfl (.tmp 20) (.tmp 23) rfl (since w) wr.heap.size _ L rfl PF3.out Z3.out (fun b hb => Nat.le_trans DZ.out hb) HLL.out [.int .i64 id, .slice xa xs.length xc] [.int .i64 id, .slice xa xs.length xc] ON.out (by simp [Value.oneCell']) 1 _ rfl rfl ?_)
        intro v' w4 o4 t4
        have d4 := Lib.hid (below_turn d3.out t4 (fun b hb => hb.1) d3.out.size)
        have SH : Hid (Sh tRow w0 (L ++ [[.int .i64 id, .slice xa xs.length xc]]) (rowsV (List.take (k + 1) l) t)) := Lib.hid (by rw [HT2.out]; exact sh_app hsh.out (sh_one (tRow_mkR HX.out)))
        have O4 := Lib.hid o4
        clear PF3 d3 t4 o4
        go_wp2
        go_roundw
        case rel => exact ⟨k + 1, _, by omega, by go_num, O4.out, SH, d4.out⟩
        case measure => simp [intOf]; omega
    · obtain rfl : k = l.length := by omega
      rw [List.take_length] at hsh
      go_wp2
      go_ret
      exact ⟨_, L, rfl, hown, hsh.out, hbel⟩
end Go.Proofs.Ytginjmnohnidiaa
namespace Go.Proofs.Ytginjmnohnidiaa
open Go.RowKit
set_option linter.unusedVariables false
set_option linter.unusedSimpArgs false
def possP (ss : List (List VerD)) (now : Int) : Prop := ShortP ss ss.length ∧ VersP ss.flatten now ss.flatten.length
instance (ss : List (List VerD)) (now : Int) : Decidable (possP ss now) := by unfold possP; infer_instance
def possB (ss : List (List VerD)) (now : Int) : Bool := decide (possP ss now)
theorem poss_short {ss : List (List VerD)} {now : Int} {i : Nat} (hi : i < ss.length) (h : ¬ (ss.getD i []).length ≤ 4) : possB ss now = false := decide_eq_false (fun g => h (g.1 i hi))
theorem poss_ver {ss : List (List VerD)} {now : Int} {i : Nat} (hi : i < ss.flatten.length) (h : verB (ss.flatten.getD i v0D) now = false) : possB ss now = false := decide_eq_false (fun g => by
  have := (g.2 i hi).1; rw [h] at this; cases this)
theorem take_get {l : List VerD} {i j : Nat} (h : j < (l.take i).length) : (l.take i)[j] = l.getD j v0D := by
  have h2 : j < i ∧ j < l.length := by rw [List.length_take] at h; omega
  simp [List.getD, h2.1, h2.2]
/-- One that is seen with an earlier one: the store is not possible. -/
theorem poss_seen {ss : List (List VerD)} {now : Int} {i : Nat} (hv : VersP ss.flatten now i) (hi : i < ss.flatten.length) (h1 : verB (ss.flatten.getD i v0D) now = true) (h : anyB (ss.flatten.getD i v0D) (ss.flatten.take i) = true) : possB ss now = false := decide_eq_false (fun g => by
  unfold anyB at h
  rw [List.any_eq_true] at h
  obtain ⟨y, hy, hs⟩ := h
  obtain ⟨j, hj, rfl⟩ := List.getElem_of_mem hy
  have hji : j < i := by rw [List.length_take] at hj; omega
  have e : (ss.flatten.take i)[j] = ss.flatten.getD j v0D := take_get hj
  rw [e, seenB_apart h1 (hv j hji).1, (g.2 i hi).2 j hji] at hs
  cases hs)
theorem poss_step {ss : List (List VerD)} {now : Int} {i : Nat} (hv : VersP ss.flatten now i) (hi : i < ss.flatten.length) (h1 : verB (ss.flatten.getD i v0D) now = true) (h : anyB (ss.flatten.getD i v0D) (ss.flatten.take i) = false) : VersP ss.flatten now (i + 1) := by
  refine vers_step hv h1 (fun k hk => ?_)
  unfold anyB at h
  rw [List.any_eq_false] at h
  have hkl : k < (ss.flatten.take i).length := by rw [List.length_take]; omega
  have := h _ (List.getElem_mem hkl)
  have e : (ss.flatten.take i)[k] = ss.flatten.getD k v0D := take_get hkl
  rw [e, seenB_apart h1 (hv k hk).1] at this
  simpa using this
theorem poss_yes {ss : List (List VerD)} {now : Int} (h1 : ShortP ss ss.length) (h2 : VersP ss.flatten now ss.flatten.length) : possB ss now = true := decide_eq_true ⟨h1, h2⟩
theorem store_poss (ss : List (List VerD)) (now : Int) : storeB ss now = (decide (1 ≤ (ss.length : Int) ∧ (ss.length : Int) ≤ 8) && decide (0 ≤ now ∧ now ≤ 100000) && possB ss now) := by
  unfold storeB possB
  by_cases h1 : 1 ≤ ss.length ∧ ss.length ≤ 8
  · by_cases h2 : 0 ≤ now ∧ now ≤ 100000
    · rw [decide_eq_true (show 1 ≤ (ss.length : Int) ∧ (ss.length : Int) ≤ 8 by omega), decide_eq_true h2]
      by_cases h3 : possP ss now
      · rw [decide_eq_true h3, decide_eq_true ⟨⟨h1, h2⟩, h3⟩]; rfl
      · rw [decide_eq_false h3, decide_eq_false (fun g => h3 g.2)]; rfl
    · rw [decide_eq_false h2, decide_eq_false (fun g => h2 g.1.2), Bool.and_false]; rfl
  · rw [decide_eq_false (show ¬ (1 ≤ (ss.length : Int) ∧ (ss.length : Int) ≤ 8) by omega), decide_eq_false (fun g => h1 g.1.1)]; rfl
theorem cat_take (ss : List (List VerD)) (k : Nat) : ss.flatten.take (cat ss k).length = cat ss k := by
  unfold cat
  have e : ss.flatten = (ss.take k).flatten ++ (ss.drop k).flatten := by rw [← List.flatten_append, List.take_append_drop]
  rw [e, List.take_left]
set_option maxHeartbeats 16000000 in
set_option maxRecDepth 100000 in
theorem isPossible_any (B g : Nat) (bs : List Nat) (us : List SegV) (ss : List (List VerD)) (now : Int) (w : World) (ht : TabN B w g bs us) (hr : SegsR w us ss) (hs : zL tVersionS ss ≤ 1048576) :
    Calls Try.prog 84 #[.slice (some ⟨g, 0, none⟩) us.length us.length, .int .i64 now] w (fun e w' => e = .returned (.bool (possB ss now)) ∧ Below w.heap.size w w') := by
  have hlen := zL_len hs
  have HZF : Hid (zL tVersion ss.flatten ≤ 1048576) := Lib.hid (by have := zL_all ss; omega)
  have HFL := Lib.hid (zL_len HZF.out)
  have HS := Lib.hid hs
  have hul := hr.1
  have HR := Lib.hid hr
  have HT := Lib.hid ht
  rw [hul]
  have HUL := Lib.hid hul
  clear ht hr hs hul
  go_enter Try.func84, Try.ntmps84
  go_wp2
  go_loopw [5, 12] (fun o i wr => ∃ (k : Nat) (L : List (List Value)), k ≤ ss.length ∧ i = .int .i64 k ∧ SlO 62 (tRaw 4) wr (since w) o L ∧ Hid (Sh tVersion w L (cat ss k)) ∧ Hid (ShortP ss k) ∧ Hid (VersP ss.flatten now (cat ss k).length) ∧ Below w.heap.size w wr) (fun _ i _ => ss.length - (intOf i).toNat)
  case atStart => exact ⟨0, [], Nat.zero_le _, rfl, slO_nil _ _ _ _, Lib.hid (by rw [cat_zero]; exact sh_nil w), Lib.hid (fun j hj => by omega), Lib.hid (by rw [cat_zero]; exact fun j hj => by simp at hj), Below.refl _ _⟩
  case round =>
    obtain ⟨k, L, hk, rfl, hown, hsh, hshort, hvers, hbel⟩ := hrel
    obtain ⟨oa, oc, rfl⟩ := slO_len hown
    by_cases hlt : k < ss.length
    · have i1 : (0 : Int) ≤ (k : Int) := by omega
      have i2 : (k : Int) < (ss.length : Int) := by omega
      obtain ⟨_, tg, tl, trow, _⟩ := tabN_below HT.out hbel
      obtain ⟨r0, r1, _⟩ := trow k (by have := HUL.out; omega)
      obtain ⟨s1, s2⟩ := HR.out.2 k hlt
      have HSM := Lib.hid (zL_seg hlt)
      have HCI := Lib.hid (fun j hj => cat_in (ss := ss) (k := k) (j := j) hlt hj)
      have HCL := Lib.hid (cat_len hlt)
      have HCF := Lib.hid (cat_le ss (k + 1))
      have HNS := Lib.hid (fun h => poss_short (ss := ss) (now := now) hlt h)
      have HYS : Hid ((ss.getD k []).length ≤ 4 → ShortP ss (k + 1)) := Lib.hid (fun g j hj => by
        by_cases e : j = k
        · rw [e]; exact g
        · exact hshort.out j (by omega))
      have HVS := hvers
      have HSH := hsh
      have HOW := Lib.hid hown
      have HB := Lib.hid hbel
      clear trow tg tl hown hbel hshort hvers hsh
      generalize us.getD k s0V = u at *
      generalize bs.getD k 0 = pb at *
      obtain ⟨ua, m0, uc⟩ := u
      simp only at s2
      subst s2
      have p1 := (cell_of_row wr _ 0 _ _ _ r1).trans (show _ = some (Value.slice ua (ss.getD k []).length (ss.getD k []).length) from rfl)
      have P1 := Lib.hid p1
      have RS : Hid (SlR tVersion w (.slice ua (ss.getD k []).length (ss.getD k []).length) (ss.getD k [])) := Lib.hid s1
      have RR := Lib.hid r0
      unfold ptrV at r0
      clear s1 r1
      have HML : Hid ((ss.getD k []).length ≤ 1048576) := Lib.hid (zL_len (T := tVersion) (Nat.le_trans HSM.out HS.out))
      generalize ss.getD k [] = seg at *
      obtain ⟨m, hm⟩ : ∃ m, m = seg.length := ⟨_, rfl⟩
      have HM := Lib.hid hm
      rw [← hm] at p1 P1 RS HCL HML HNS HYS
      clear hm
      by_cases h4 : m ≤ 4
      rotate_left
      · have HF := Lib.hid (HNS.out h4)
        have h5 : (4 : Int) < (m : Int) := by omega
        clear HNS HYS
        go_wp2
        go_ret
        exact ⟨ret_b HF.out.symm, HB.out⟩
      have HSK := Lib.hid (HYS.out h4)
      have h5 : ¬ (4 : Int) < (m : Int) := by omega
      clear HNS HYS
      go_wp2
      clear r0 p1 h5
      go_loopw [5, 27] (fun o i wi => ∃ (j : Nat) (L : List (List Value)), j ≤ m ∧ i = .int .i64 j ∧ SlO 62 (tRaw 4) wi (since w) o L ∧ Hid (Sh tVersion w L (ss.flatten.take ((cat ss k).length + j))) ∧ Hid (VersP ss.flatten now ((cat ss k).length + j)) ∧ Below w.heap.size w wi) (fun _ i _ => m - (intOf i).toNat)
      case atStart => exact ⟨0, L, Nat.zero_le _, rfl, HOW.out, Lib.hid (by rw [Nat.add_zero, cat_take]; exact HSH.out), Lib.hid (by rw [Nat.add_zero]; exact HVS.out), HB.out⟩
      case round =>
        obtain ⟨j, L2, hj, rfl, hown, hsh, hvers, hbel⟩ := hrel
        clear HOW HSH HVS HB
        obtain ⟨oa2, oc2, rfl⟩ := slO_len hown
        by_cases hjl : j < m
        · have j1 : (0 : Int) ≤ (j : Int) := by omega
          have j2 : (j : Int) < (m : Int) := by omega
          have hjs : j < seg.length := by have := HM.out; omega
          obtain ⟨b, off, cap', xa, xc, hv, hbl, c0, c1, c2, c3, hx⟩ := verR_at RS.out hjs
          simp only [Value.slice.injEq] at hv
          obtain ⟨rfl, hm1, hm2⟩ := hv
          clear hm1 hm2
          have hif : (cat ss k).length + j < ss.flatten.length := by have := HCL.out; have := HCF.out; omega
          have hci := HCI.out j hjs
          have HXL := Lib.hid (ver_len (l := ss.flatten) HZF.out hif)
          have HNV := Lib.hid (fun q => poss_ver (ss := ss) (now := now) hif q)
          have HNA := Lib.hid (fun q r => poss_seen (ss := ss) (now := now) hvers.out hif q r)
          have HST := Lib.hid (fun q r => poss_step (ss := ss) (now := now) hvers.out hif q r)
          have HTK := Lib.hid (take_getD hif)
          rw [hci] at HXL HNV HNA HST HTK
          have HLL : Hid (L2.length ≤ 1048576 ∧ (ss.flatten.take ((cat ss k).length + j)).length ≤ 1048576) := Lib.hid (by
            have h1 := sh_len hsh.out; have h2 := HFL.out; rw [List.length_take] at h1 ⊢; omega)
          clear hci hif hvers
          generalize seg.getD j v0D = x at *
          obtain ⟨id, xs, born, died⟩ := x
          simp only at c0 c1 c2 c3 HXL
          have e0 := (hbel.cell (p := ⟨b, off + j * 4, none⟩) hbl).trans c0
          have e1 := (hbel.cell (p := ⟨b, off + j * 4 + 1, none⟩) hbl).trans c1
          have e2 := (hbel.cell (p := ⟨b, off + j * 4 + 2, none⟩) hbl).trans c2
          have e3 := (hbel.cell (p := ⟨b, off + j * 4 + 3, none⟩) hbl).trans c3
          have hal : Below wr.heap.size wr (wr.alloc (.cells #[.int .i64 id, .slice xa xs.length xc, .int .i64 born, .int .i64 died] 62)) := (Below.refl _ _).alloc (Nat.le_refl _) _
          have BV : Hid ((wr.alloc (.cells #[.int .i64 id, .slice xa xs.length xc, .int .i64 born, .int .i64 died] 62)).heap[wr.heap.size]? = some (.cells #[.int .i64 id, .slice xa xs.length xc, .int .i64 born, .int .i64 died] 62 (0, 0))) := Lib.hid (heap_alloc_new wr _)
          have YV : Hid (wr.heap.size < (wr.alloc (.cells #[.int .i64 id, .slice xa xs.length xc, .int .i64 born, .int .i64 died] 62)).heap.size) := Lib.hid (by simp [World.size_alloc])
          have PF := Lib.hid (slO_fresh (tRaw_law (by decide)) (slO_lt (tRaw_law (by decide)) hown) hal)
          have d := Lib.hid (hbel.trans (hal.mono hbel.size))
          have DZ := Lib.hid hbel.size
          have HX : Hid (Ints w (.slice xa xs.length xc) xs) := Lib.hid hx
          have HSH := hsh
          have HIV := Lib.hid (fun W h => isVersion_any id born died now (.slice xa xs.length xc) xs W h HXL.out)
          clear hown hbel hal hx c0 c1 c2 c3 hbl hsh
          cases hver : verB (id, xs, born, died) now with
          | false =>
            have HF := Lib.hid (HNV.out hver)
            rw [hver] at HIV
            clear hver HNV HNA HST
            go_wp2_with fail
            clear e0 e1 e2 e3
            generalize wr.alloc (.cells #[.int .i64 id, .slice xa xs.length xc, .int .i64 born, .int .i64 died] 62) = W1 at *
            refine (HIV.out W1 (ints_below HX.out d.out)).mono ?_
            rintro e w2 ⟨rfl, b2⟩
            have d2 := d.out.trans (b2.mono d.out.size)
            go_wp2
            go_ret
            exact ⟨ret_b HF.out.symm, d2⟩
          | true =>
            have HNA2 := Lib.hid (fun r => HNA.out hver r)
            have HST2 := Lib.hid (fun r => HST.out hver r)
            rw [hver] at HIV
            clear hver HNV HNA HST
            go_wp2_with fail
            clear e0 e1 e2 e3
            generalize wr.alloc (.cells #[.int .i64 id, .slice xa xs.length xc, .int .i64 born, .int .i64 died] 62) = W1 at *
            refine (HIV.out W1 (ints_below HX.out d.out)).mono ?_
            rintro e w2 ⟨rfl, b2⟩
            have kv := (b2.block wr.heap.size YV.out).trans BV.out
            have p0 := (cell_of_row w2 _ 0 _ _ _ kv).trans (show _ = some (Value.int .i64 id) from rfl)
            have p1 := (cell_of_row w2 _ 1 _ _ _ kv).trans (show _ = some (Value.slice xa xs.length xc) from rfl)
            have p2 := (cell_of_row w2 _ 2 _ _ _ kv).trans (show _ = some (Value.int .i64 born) from rfl)
            have p3 := (cell_of_row w2 _ 3 _ _ _ kv).trans (show _ = some (Value.int .i64 died) from rfl)
            have KV := Lib.hid kv
            have PF2 := Lib.hid (slO_fresh (tRaw_law (by decide)) PF.out b2)
            have d2 := Lib.hid (d.out.trans (b2.mono d.out.size))
            have Z2 := Lib.hid (Nat.lt_of_lt_of_le YV.out b2.size)
            have HO := Lib.hid (raw_reads (T := tVersion) (by decide) PF2.out (sh_below tVersion_law HSH.out d2.out))
            have HCS := Lib.hid (fun W h => containsSeen (.slice oa2 L2.length oc2) (ss.flatten.take ((cat ss k).length + j)) id born died xs xa xs.length xc W h HLL.out.2)
            clear PF d b2 kv
            cases hany : anyB (id, xs, born, died) (ss.flatten.take ((cat ss k).length + j)) with
            | true =>
              have HF := Lib.hid (HNA2.out hany)
              rw [hany] at HCS
              clear hany HNA2 HST2
              go_wp2_with fail
              refine (HCS.out w2 HO.out).mono ?_
              rintro e w3 ⟨rfl, b3⟩
              have d3 := d2.out.trans (b3.mono d2.out.size)
              clear p0 p1 p2 p3
              go_wp2
              go_ret
              exact ⟨ret_b HF.out.symm, d3⟩
            | false =>
              have HV2 := Lib.hid (HST2.out hany)
              rw [hany] at HCS
              clear hany HNA2 HST2
              go_wp2_with fail
              refine (HCS.out w2 HO.out).mono ?_
              rintro e w3 ⟨rfl, b3⟩
              have kv := (b3.block wr.heap.size Z2.out).trans KV.out
              clear p0 p1 p2 p3
              have p0 := (cell_of_row w3 _ 0 _ _ _ kv).trans (show _ = some (Value.int .i64 id) from rfl)
              have p1 := (cell_of_row w3 _ 1 _ _ _ kv).trans (show _ = some (Value.slice xa xs.length xc) from rfl)
              have p2 := (cell_of_row w3 _ 2 _ _ _ kv).trans (show _ = some (Value.int .i64 born) from rfl)
              have p3 := (cell_of_row w3 _ 3 _ _ _ kv).trans (show _ = some (Value.int .i64 died) from rfl)
              have PF3 := Lib.hid (slO_fresh (tRaw_law (by decide)) PF2.out b3)
              have d3 := Lib.hid (d2.out.trans (b3.mono d2.out.size))
              have Z3 := Lib.hid (Nat.le_trans (Nat.le_of_lt Z2.out) b3.size)
              have ON : Hid ((tRaw 4).O w3 (fun b => wr.heap.size ≤ b) [.int .i64 id, .slice xa xs.length xc, .int .i64 born, .int .i64 died] [.int .i64 id, .slice xa xs.length xc, .int .i64 born, .int .i64 died]) := Lib.hid ⟨rfl, rfl, by simp [Value.oneCell']⟩
              clear PF2 d2 b3 kv KV HO
              go_wp2_with (at_builtin; refine append_T (tRaw_law (by decide)) info_R_Version Try.underlying97 rfl rfl (.tmp 41) (.tmp 43) rfl (since w) wr.heap.size _ L2 rfl PF3.out Z3.out (fun b hb => Nat.le_trans DZ.out hb) HLL.out.1 [.int .i64 id, .slice xa xs.length xc, .int .i64 born, .int .i64 died] [.int .i64 id, .slice xa xs.length xc, .int .i64 born, .int .i64 died] ON.out (by simp [Value.oneCell']) 1 _ rfl rfl ?_)
              intro v' w4 o4 t4
              have d4 := Lib.hid (below_turn d3.out t4 (fun b hb => hb.1) d3.out.size)
              have SH : Hid (Sh tVersion w (L2 ++ [[.int .i64 id, .slice xa xs.length xc, .int .i64 born, .int .i64 died]]) (ss.flatten.take ((cat ss k).length + (j + 1)))) := Lib.hid (by rw [← Nat.add_assoc, HTK.out]; exact sh_app HSH.out (sh_one (tVersion_mkR (ints_slR HX.out))))
              have O4 := Lib.hid o4
              clear PF3 d3 t4 o4 p0 p1 p2 p3
              go_wp2
              go_roundw
              case rel => exact ⟨j + 1, _, by omega, by go_num, O4.out, SH, HV2, d4.out⟩
              case measure => simp [intOf]; omega
        · obtain rfl : j = m := by omega
          have SH : Hid (Sh tVersion w L2 (cat ss (k + 1))) := Lib.hid (by have := hsh.out; rw [← HCL.out, cat_take] at this; exact this)
          have HV2 : Hid (VersP ss.flatten now (cat ss (k + 1)).length) := Lib.hid (by rw [HCL.out]; exact hvers.out)
          have O2 := Lib.hid hown
          have HB := Lib.hid hbel
          clear hsh hvers hown hbel
          go_wp2
          go_roundw
          case rel => exact ⟨k + 1, L2, by omega, by go_num, O2.out, SH, HSK, HV2, HB.out⟩
          case measure => simp [intOf]; omega
    · obtain rfl : k = ss.length := by omega
      have HY := Lib.hid (poss_yes hshort.out (by have := hvers.out; rw [cat_all] at this; exact this))
      clear hsh hshort hvers
      go_wp2
      go_ret
      exact ⟨ret_b HY.out.symm, hbel⟩
end Go.Proofs.Ytginjmnohnidiaa
namespace Go.Proofs.Ytginjmnohnidiaa
open Go.RowKit
set_option linter.unusedVariables false
set_option linter.unusedSimpArgs false
set_option maxHeartbeats 8000000 in
set_option maxRecDepth 100000 in
theorem implIsStore (sv : Value) (ss : List (List VerD)) (now : Int) (w : World) (h : SlR tVersionS w sv ss) (hs : zL tVersionS ss ≤ 1048576) :
    Calls Try.prog 33 #[.agg #[sv, .int .i64 now]] w (fun e w' => e = .returned (.bool (storeB ss now)) ∧ Below w.heap.size w w') := by
  obtain ⟨us, hls, hsr⟩ := slR_ls h
  have HUL := Lib.hid hsr.1
  obtain ⟨a, cap, rfl⟩ := slR_len h
  have hlen := zL_len hs
  have HSS := Lib.hid hs
  have H := Lib.hid h
  have HLS := Lib.hid hls
  have HSR := Lib.hid hsr
  have d0 := Lib.hid (show Below w.heap.size w (w.alloc (.cells #[.slice a ss.length cap, .int .i64 now] 45)) from (Below.refl _ _).alloc (Nat.le_refl _) _)
  have B0 : Hid ((w.alloc (.cells #[.slice a ss.length cap, .int .i64 now] 45)).heap[w.heap.size]? = some (.cells #[.slice a ss.length cap, .int .i64 now] 45 (0, 0))) := Lib.hid (heap_alloc_new w _)
  have Y0 : Hid (w.heap.size < (w.alloc (.cells #[.slice a ss.length cap, .int .i64 now] 45)).heap.size) := Lib.hid (by simp [World.size_alloc])
  clear hls hsr h hs
  rw [store_poss]
  have HC1 := Lib.hid (isSegmentCount_any (ss.length : Int))
  have HC2 := Lib.hid (isTime_any now)
  have HPS : Hid (∀ (B g : Nat) (bs : List Nat) (W : World), TabN B W g bs us → SegsR W us ss → Calls Try.prog 84 #[.slice (some ⟨g, 0, none⟩) us.length us.length, .int .i64 now] W (fun e w' => e = .returned (.bool (possB ss now)) ∧ Below W.heap.size W w')) := Lib.hid (fun B g bs W h1 h2 => isPossible_any B g bs us ss now W h1 h2 HSS.out)
  have HTB := Lib.hid (fun W h => tableOf_any (.slice a ss.length cap) us W h (by have := HUL.out; omega))
  generalize possB ss now = pb at *
  have B1 := B0
  have d := d0
  cases hc1 : decide (1 ≤ (ss.length : Int) ∧ (ss.length : Int) ≤ 8) with
  | false =>
    rw [hc1] at HC1
    rw [Bool.false_and, Bool.false_and]
    clear hc1
    go_enter Try.func33, Try.ntmps33
    go_wp2
    generalize w.alloc (.cells #[.slice a ss.length cap, .int .i64 now] 45) = W at *
    have p_B0_0 := (cell_of_row W _ 0 _ _ _ B0.out).trans (show _ = some (Value.slice a ss.length cap) from rfl)
    have p_B0_1 := (cell_of_row W _ 1 _ _ _ B0.out).trans (show _ = some (Value.int .i64 now) from rfl)
    refine wp_region_held_drew (S := fun w' => w'.cell? ⟨w.heap.size, 0, none⟩ = some (Value.slice a ss.length cap) ∧ w'.cell? ⟨w.heap.size, 1, none⟩ = some (Value.int .i64 now)) (by kernel_rfl) ⟨p_B0_0, p_B0_1⟩ (fun hHeld => ?_)
    clear p_B0_0 p_B0_1
    have cdr : Below W.heap.size W W.drew := below_drew (Below.refl _ _)
    replace B0 := Lib.hid ((cdr.block w.heap.size (Array.getElem?_eq_some_iff.1 B0.out).1).trans B0.out)
    replace d := Lib.hid (d.out.trans (cdr.mono d.out.size))
    clear cdr
    refine take_runs (i := 0) (v := ?_) (by simp only [List.getElem?_toArray, List.getElem?_cons_succ, List.getElem?_cons_zero]; rfl) (by kernel_rfl) (by kernel_rfl) (by kernel_rfl) rfl (by exact fun _ _ _ h => h) (by rfl) ?_ (by assumption) ?_
    rotate_left
    · intro w hSw; (try dsimp only at hSw); go_simp; try (with_reducible rfl)
    try simp only [Act.put, List.setIfInBounds_toArray, List.set_cons_zero, List.set_cons_succ]
    refine take_runs (i := 1) (v := ?_) (by simp only [List.getElem?_toArray, List.getElem?_cons_succ, List.getElem?_cons_zero]; rfl) (by kernel_rfl) (by kernel_rfl) (by kernel_rfl) rfl (by exact fun _ _ _ h => h) (by rfl) ?_ (by assumption) ?_
    rotate_left
    · intro w hSw; (try dsimp only at hSw); go_simp; try (with_reducible rfl)
    try simp only [Act.put, List.setIfInBounds_toArray, List.set_cons_zero, List.set_cons_succ]
    refine take_runs (i := 2) (v := ?_) (by simp only [List.getElem?_toArray, List.getElem?_cons_succ, List.getElem?_cons_zero]; rfl) (by kernel_rfl) (by kernel_rfl) (by kernel_rfl) rfl (by exact fun _ _ _ h => h) (by rfl) ?_ (by assumption) ?_
    rotate_left
    · intro w hSw; (try dsimp only at hSw); go_simp; try (with_reducible rfl)
    try simp only [Act.put, List.setIfInBounds_toArray, List.set_cons_zero, List.set_cons_succ]
    refine wpAnyH_ready (rs := [3]) (by kernel_rfl) (by simp) ?_
    refine (AllReadyH.cons (o := _) (by simp only [List.getElem?_toArray, List.getElem?_cons_succ, List.getElem?_cons_zero]; rfl) (fun K hK => ?_) AllReadyH.nil)
    go_simp
    refine (HC1.out (W.drew)).mono ?_
    rintro e wx ⟨rfl, rfl⟩
    have p_B0_0 := (cell_of_row (W.drew) _ 0 _ _ _ B0.out).trans (show _ = some (Value.slice a ss.length cap) from rfl)
    have p_B0_1 := (cell_of_row (W.drew) _ 1 _ _ _ B0.out).trans (show _ = some (Value.int .i64 now) from rfl)
    refine hK.out _ _ ⟨p_B0_0, p_B0_1⟩ (fun hHeld => ?_)
    clear p_B0_0 p_B0_1
    clear hK K
    try simp only [Act.put, List.setIfInBounds_toArray, List.set_cons_zero, List.set_cons_succ]
    refine take_runs (i := 4) (v := ?_) (by simp only [List.getElem?_toArray, List.getElem?_cons_succ, List.getElem?_cons_zero]; rfl) (by kernel_rfl) (by kernel_rfl) (by kernel_rfl) rfl (by exact fun _ _ _ h => h) (by rfl) ?_ (by assumption) ?_
    rotate_left
    · intro w hSw; (try dsimp only at hSw); go_simp; try (with_reducible rfl)
    try simp only [Act.put, List.setIfInBounds_toArray, List.set_cons_zero, List.set_cons_succ]
    refine take_over (i := 5) (by simp only [List.getElem?_toArray, List.getElem?_cons_succ, List.getElem?_cons_zero]; rfl) (by kernel_rfl) (by kernel_rfl) (by kernel_rfl) rfl (by exact fun _ _ _ h => h) (by rfl) (by assumption) ?_
    try simp only [Act.put, List.setIfInBounds_toArray, List.set_cons_zero, List.set_cons_succ]
    refine take_over (i := 6) (by simp only [List.getElem?_toArray, List.getElem?_cons_succ, List.getElem?_cons_zero]; rfl) (by kernel_rfl) (by kernel_rfl) (by kernel_rfl) rfl (by exact fun _ _ _ h => h) (by rfl) (by assumption) ?_
    try simp only [Act.put, List.setIfInBounds_toArray, List.set_cons_zero, List.set_cons_succ]
    refine take_over (i := 7) (by simp only [List.getElem?_toArray, List.getElem?_cons_succ, List.getElem?_cons_zero]; rfl) (by kernel_rfl) (by kernel_rfl) (by kernel_rfl) rfl (by exact fun _ _ _ h => h) (by rfl) (by assumption) ?_
    try simp only [Act.put, List.setIfInBounds_toArray, List.set_cons_zero, List.set_cons_succ]
    refine take_runs (i := 8) (v := ?_) (by simp only [List.getElem?_toArray, List.getElem?_cons_succ, List.getElem?_cons_zero]; rfl) (by kernel_rfl) (by kernel_rfl) (by kernel_rfl) rfl (by exact fun _ _ _ h => h) (by rfl) ?_ (by assumption) ?_
    rotate_left
    · intro w hSw; (try dsimp only at hSw); go_simp; try (with_reducible rfl)
    try simp only [Act.put, List.setIfInBounds_toArray, List.set_cons_zero, List.set_cons_succ]
    refine take_runs (i := 9) (v := ?_) (by simp only [List.getElem?_toArray, List.getElem?_cons_succ, List.getElem?_cons_zero]; rfl) (by kernel_rfl) (by kernel_rfl) (by kernel_rfl) rfl (by exact fun _ _ _ h => h) (by rfl) ?_ (by assumption) ?_
    rotate_left
    · intro w hSw; (try dsimp only at hSw); go_simp; try (with_reducible rfl)
    try simp only [Act.put, List.setIfInBounds_toArray, List.set_cons_zero, List.set_cons_succ]
    refine take_over (i := 10) (by simp only [List.getElem?_toArray, List.getElem?_cons_succ, List.getElem?_cons_zero]; rfl) (by kernel_rfl) (by kernel_rfl) (by kernel_rfl) rfl (by exact fun _ _ _ h => h) (by rfl) (by assumption) ?_
    try simp only [Act.put, List.setIfInBounds_toArray, List.set_cons_zero, List.set_cons_succ]
    refine take_over (i := 11) (by simp only [List.getElem?_toArray, List.getElem?_cons_succ, List.getElem?_cons_zero]; rfl) (by kernel_rfl) (by kernel_rfl) (by kernel_rfl) rfl (by exact fun _ _ _ h => h) (by rfl) (by assumption) ?_
    try simp only [Act.put, List.setIfInBounds_toArray, List.set_cons_zero, List.set_cons_succ]
    refine take_over (i := 12) (by simp only [List.getElem?_toArray, List.getElem?_cons_succ, List.getElem?_cons_zero]; rfl) (by kernel_rfl) (by kernel_rfl) (by kernel_rfl) rfl (by exact fun _ _ _ h => h) (by rfl) (by assumption) ?_
    try simp only [Act.put, List.setIfInBounds_toArray, List.set_cons_zero, List.set_cons_succ]
    refine take_over (i := 13) (by simp only [List.getElem?_toArray, List.getElem?_cons_succ, List.getElem?_cons_zero]; rfl) (by kernel_rfl) (by kernel_rfl) (by kernel_rfl) rfl (by exact fun _ _ _ h => h) (by rfl) (by assumption) ?_
    try simp only [Act.put, List.setIfInBounds_toArray, List.set_cons_zero, List.set_cons_succ]
    refine take_over (i := 14) (by simp only [List.getElem?_toArray, List.getElem?_cons_succ, List.getElem?_cons_zero]; rfl) (by kernel_rfl) (by kernel_rfl) (by kernel_rfl) rfl (by exact fun _ _ _ h => h) (by rfl) (by assumption) ?_
    try simp only [Act.put, List.setIfInBounds_toArray, List.set_cons_zero, List.set_cons_succ]
    refine take_over (i := 15) (by simp only [List.getElem?_toArray, List.getElem?_cons_succ, List.getElem?_cons_zero]; rfl) (by kernel_rfl) (by kernel_rfl) (by kernel_rfl) rfl (by exact fun _ _ _ h => h) (by rfl) (by assumption) ?_
    try simp only [Act.put, List.setIfInBounds_toArray, List.set_cons_zero, List.set_cons_succ]
    refine take_runs (i := 16) (v := ?_) (by simp only [List.getElem?_toArray, List.getElem?_cons_succ, List.getElem?_cons_zero]; rfl) (by kernel_rfl) (by kernel_rfl) (by kernel_rfl) rfl (by exact fun _ _ _ h => h) (by rfl) ?_ (by assumption) ?_
    rotate_left
    · intro w hSw; (try dsimp only at hSw); go_simp; try (with_reducible rfl)
    try simp only [Act.put, List.setIfInBounds_toArray, List.set_cons_zero, List.set_cons_succ]
    refine take_runs (i := 17) (v := ?_) (by simp only [List.getElem?_toArray, List.getElem?_cons_succ, List.getElem?_cons_zero]; rfl) (by kernel_rfl) (by kernel_rfl) (by kernel_rfl) rfl (by exact fun _ _ _ h => h) (by rfl) ?_ (by assumption) ?_
    rotate_left
    · intro w hSw; (try dsimp only at hSw); go_simp; try (with_reducible rfl)
    try simp only [Act.put, List.setIfInBounds_toArray, List.set_cons_zero, List.set_cons_succ]
    refine wpAnyH_done (by kernel_rfl) ?_ _
    clear hHeld
    go_wp2
    go_ret
    exact ⟨rfl, d.out⟩
  | true =>
    rw [hc1] at HC1
    rw [Bool.true_and]
    clear hc1
    cases hc2 : decide (0 ≤ now ∧ now ≤ 100000) with
    | false =>
      rw [hc2] at HC2
      rw [Bool.false_and]
      clear hc2
      go_enter Try.func33, Try.ntmps33
      go_wp2
      generalize w.alloc (.cells #[.slice a ss.length cap, .int .i64 now] 45) = W at *
      have p_B0_0 := (cell_of_row W _ 0 _ _ _ B0.out).trans (show _ = some (Value.slice a ss.length cap) from rfl)
      have p_B0_1 := (cell_of_row W _ 1 _ _ _ B0.out).trans (show _ = some (Value.int .i64 now) from rfl)
      refine wp_region_held_drew (S := fun w' => w'.cell? ⟨w.heap.size, 0, none⟩ = some (Value.slice a ss.length cap) ∧ w'.cell? ⟨w.heap.size, 1, none⟩ = some (Value.int .i64 now)) (by kernel_rfl) ⟨p_B0_0, p_B0_1⟩ (fun hHeld => ?_)
      clear p_B0_0 p_B0_1
      have cdr : Below W.heap.size W W.drew := below_drew (Below.refl _ _)
      replace B0 := Lib.hid ((cdr.block w.heap.size (Array.getElem?_eq_some_iff.1 B0.out).1).trans B0.out)
      replace d := Lib.hid (d.out.trans (cdr.mono d.out.size))
      clear cdr
      refine take_runs (i := 0) (v := ?_) (by simp only [List.getElem?_toArray, List.getElem?_cons_succ, List.getElem?_cons_zero]; rfl) (by kernel_rfl) (by kernel_rfl) (by kernel_rfl) rfl (by exact fun _ _ _ h => h) (by rfl) ?_ (by assumption) ?_
      rotate_left
      · intro w hSw; (try dsimp only at hSw); go_simp; try (with_reducible rfl)
      try simp only [Act.put, List.setIfInBounds_toArray, List.set_cons_zero, List.set_cons_succ]
      refine take_runs (i := 1) (v := ?_) (by simp only [List.getElem?_toArray, List.getElem?_cons_succ, List.getElem?_cons_zero]; rfl) (by kernel_rfl) (by kernel_rfl) (by kernel_rfl) rfl (by exact fun _ _ _ h => h) (by rfl) ?_ (by assumption) ?_
      rotate_left
      · intro w hSw; (try dsimp only at hSw); go_simp; try (with_reducible rfl)
      try simp only [Act.put, List.setIfInBounds_toArray, List.set_cons_zero, List.set_cons_succ]
      refine take_runs (i := 2) (v := ?_) (by simp only [List.getElem?_toArray, List.getElem?_cons_succ, List.getElem?_cons_zero]; rfl) (by kernel_rfl) (by kernel_rfl) (by kernel_rfl) rfl (by exact fun _ _ _ h => h) (by rfl) ?_ (by assumption) ?_
      rotate_left
      · intro w hSw; (try dsimp only at hSw); go_simp; try (with_reducible rfl)
      try simp only [Act.put, List.setIfInBounds_toArray, List.set_cons_zero, List.set_cons_succ]
      refine wpAnyH_ready (rs := [3]) (by kernel_rfl) (by simp) ?_
      refine (AllReadyH.cons (o := _) (by simp only [List.getElem?_toArray, List.getElem?_cons_succ, List.getElem?_cons_zero]; rfl) (fun K hK => ?_) AllReadyH.nil)
      go_simp
      refine (HC1.out (W.drew)).mono ?_
      rintro e wx ⟨rfl, rfl⟩
      have p_B0_0 := (cell_of_row (W.drew) _ 0 _ _ _ B0.out).trans (show _ = some (Value.slice a ss.length cap) from rfl)
      have p_B0_1 := (cell_of_row (W.drew) _ 1 _ _ _ B0.out).trans (show _ = some (Value.int .i64 now) from rfl)
      refine hK.out _ _ ⟨p_B0_0, p_B0_1⟩ (fun hHeld => ?_)
      clear p_B0_0 p_B0_1
      clear hK K
      try simp only [Act.put, List.setIfInBounds_toArray, List.set_cons_zero, List.set_cons_succ]
      refine take_runs (i := 4) (v := ?_) (by simp only [List.getElem?_toArray, List.getElem?_cons_succ, List.getElem?_cons_zero]; rfl) (by kernel_rfl) (by kernel_rfl) (by kernel_rfl) rfl (by exact fun _ _ _ h => h) (by rfl) ?_ (by assumption) ?_
      rotate_left
      · intro w hSw; (try dsimp only at hSw); go_simp; try (with_reducible rfl)
      try simp only [Act.put, List.setIfInBounds_toArray, List.set_cons_zero, List.set_cons_succ]
      refine take_runs (i := 5) (v := ?_) (by simp only [List.getElem?_toArray, List.getElem?_cons_succ, List.getElem?_cons_zero]; rfl) (by kernel_rfl) (by kernel_rfl) (by kernel_rfl) rfl (by exact fun _ _ _ h => h) (by rfl) ?_ (by assumption) ?_
      rotate_left
      · intro w hSw; (try dsimp only at hSw); go_simp; try (with_reducible rfl)
      try simp only [Act.put, List.setIfInBounds_toArray, List.set_cons_zero, List.set_cons_succ]
      refine take_runs (i := 6) (v := ?_) (by simp only [List.getElem?_toArray, List.getElem?_cons_succ, List.getElem?_cons_zero]; rfl) (by kernel_rfl) (by kernel_rfl) (by kernel_rfl) rfl (by exact fun _ _ _ h => h) (by rfl) ?_ (by assumption) ?_
      rotate_left
      · intro w hSw; (try dsimp only at hSw); go_simp; try (with_reducible rfl)
      try simp only [Act.put, List.setIfInBounds_toArray, List.set_cons_zero, List.set_cons_succ]
      refine wpAnyH_ready (rs := [7]) (by kernel_rfl) (by simp) ?_
      refine (AllReadyH.cons (o := _) (by simp only [List.getElem?_toArray, List.getElem?_cons_succ, List.getElem?_cons_zero]; rfl) (fun K hK => ?_) AllReadyH.nil)
      go_simp
      refine (HC2.out (W.drew)).mono ?_
      rintro e wx ⟨rfl, rfl⟩
      have p_B0_0 := (cell_of_row (W.drew) _ 0 _ _ _ B0.out).trans (show _ = some (Value.slice a ss.length cap) from rfl)
      have p_B0_1 := (cell_of_row (W.drew) _ 1 _ _ _ B0.out).trans (show _ = some (Value.int .i64 now) from rfl)
      refine hK.out _ _ ⟨p_B0_0, p_B0_1⟩ (fun hHeld => ?_)
      clear p_B0_0 p_B0_1
      clear hK K
      try simp only [Act.put, List.setIfInBounds_toArray, List.set_cons_zero, List.set_cons_succ]
      refine take_runs (i := 8) (v := ?_) (by simp only [List.getElem?_toArray, List.getElem?_cons_succ, List.getElem?_cons_zero]; rfl) (by kernel_rfl) (by kernel_rfl) (by kernel_rfl) rfl (by exact fun _ _ _ h => h) (by rfl) ?_ (by assumption) ?_
      rotate_left
      · intro w hSw; (try dsimp only at hSw); go_simp; try (with_reducible rfl)
      try simp only [Act.put, List.setIfInBounds_toArray, List.set_cons_zero, List.set_cons_succ]
      refine take_runs (i := 9) (v := ?_) (by simp only [List.getElem?_toArray, List.getElem?_cons_succ, List.getElem?_cons_zero]; rfl) (by kernel_rfl) (by kernel_rfl) (by kernel_rfl) rfl (by exact fun _ _ _ h => h) (by rfl) ?_ (by assumption) ?_
      rotate_left
      · intro w hSw; (try dsimp only at hSw); go_simp; try (with_reducible rfl)
      try simp only [Act.put, List.setIfInBounds_toArray, List.set_cons_zero, List.set_cons_succ]
      refine take_over (i := 10) (by simp only [List.getElem?_toArray, List.getElem?_cons_succ, List.getElem?_cons_zero]; rfl) (by kernel_rfl) (by kernel_rfl) (by kernel_rfl) rfl (by exact fun _ _ _ h => h) (by rfl) (by assumption) ?_
      try simp only [Act.put, List.setIfInBounds_toArray, List.set_cons_zero, List.set_cons_succ]
      refine take_over (i := 11) (by simp only [List.getElem?_toArray, List.getElem?_cons_succ, List.getElem?_cons_zero]; rfl) (by kernel_rfl) (by kernel_rfl) (by kernel_rfl) rfl (by exact fun _ _ _ h => h) (by rfl) (by assumption) ?_
      try simp only [Act.put, List.setIfInBounds_toArray, List.set_cons_zero, List.set_cons_succ]
      refine take_over (i := 12) (by simp only [List.getElem?_toArray, List.getElem?_cons_succ, List.getElem?_cons_zero]; rfl) (by kernel_rfl) (by kernel_rfl) (by kernel_rfl) rfl (by exact fun _ _ _ h => h) (by rfl) (by assumption) ?_
      try simp only [Act.put, List.setIfInBounds_toArray, List.set_cons_zero, List.set_cons_succ]
      refine take_over (i := 13) (by simp only [List.getElem?_toArray, List.getElem?_cons_succ, List.getElem?_cons_zero]; rfl) (by kernel_rfl) (by kernel_rfl) (by kernel_rfl) rfl (by exact fun _ _ _ h => h) (by rfl) (by assumption) ?_
      try simp only [Act.put, List.setIfInBounds_toArray, List.set_cons_zero, List.set_cons_succ]
      refine take_over (i := 14) (by simp only [List.getElem?_toArray, List.getElem?_cons_succ, List.getElem?_cons_zero]; rfl) (by kernel_rfl) (by kernel_rfl) (by kernel_rfl) rfl (by exact fun _ _ _ h => h) (by rfl) (by assumption) ?_
      try simp only [Act.put, List.setIfInBounds_toArray, List.set_cons_zero, List.set_cons_succ]
      refine take_over (i := 15) (by simp only [List.getElem?_toArray, List.getElem?_cons_succ, List.getElem?_cons_zero]; rfl) (by kernel_rfl) (by kernel_rfl) (by kernel_rfl) rfl (by exact fun _ _ _ h => h) (by rfl) (by assumption) ?_
      try simp only [Act.put, List.setIfInBounds_toArray, List.set_cons_zero, List.set_cons_succ]
      refine take_runs (i := 16) (v := ?_) (by simp only [List.getElem?_toArray, List.getElem?_cons_succ, List.getElem?_cons_zero]; rfl) (by kernel_rfl) (by kernel_rfl) (by kernel_rfl) rfl (by exact fun _ _ _ h => h) (by rfl) ?_ (by assumption) ?_
      rotate_left
      · intro w hSw; (try dsimp only at hSw); go_simp; try (with_reducible rfl)
      try simp only [Act.put, List.setIfInBounds_toArray, List.set_cons_zero, List.set_cons_succ]
      refine take_runs (i := 17) (v := ?_) (by simp only [List.getElem?_toArray, List.getElem?_cons_succ, List.getElem?_cons_zero]; rfl) (by kernel_rfl) (by kernel_rfl) (by kernel_rfl) rfl (by exact fun _ _ _ h => h) (by rfl) ?_ (by assumption) ?_
      rotate_left
      · intro w hSw; (try dsimp only at hSw); go_simp; try (with_reducible rfl)
      try simp only [Act.put, List.setIfInBounds_toArray, List.set_cons_zero, List.set_cons_succ]
      refine wpAnyH_done (by kernel_rfl) ?_ _
      clear hHeld
      go_wp2
      go_ret
      exact ⟨rfl, d.out⟩
    | true =>
      rw [hc2] at HC2
      rw [Bool.true_and]
      clear hc2
      go_enter Try.func33, Try.ntmps33
      go_wp2
      generalize w.alloc (.cells #[.slice a ss.length cap, .int .i64 now] 45) = W at *
      have p_B0_0 := (cell_of_row W _ 0 _ _ _ B0.out).trans (show _ = some (Value.slice a ss.length cap) from rfl)
      have p_B0_1 := (cell_of_row W _ 1 _ _ _ B0.out).trans (show _ = some (Value.int .i64 now) from rfl)
      refine wp_region_held_drew (S := fun w' => w'.cell? ⟨w.heap.size, 0, none⟩ = some (Value.slice a ss.length cap) ∧ w'.cell? ⟨w.heap.size, 1, none⟩ = some (Value.int .i64 now)) (by kernel_rfl) ⟨p_B0_0, p_B0_1⟩ (fun hHeld => ?_)
      clear p_B0_0 p_B0_1
      have cdr : Below W.heap.size W W.drew := below_drew (Below.refl _ _)
      replace B0 := Lib.hid ((cdr.block w.heap.size (Array.getElem?_eq_some_iff.1 B0.out).1).trans B0.out)
      replace d := Lib.hid (d.out.trans (cdr.mono d.out.size))
      clear cdr
      refine take_runs (i := 0) (v := ?_) (by simp only [List.getElem?_toArray, List.getElem?_cons_succ, List.getElem?_cons_zero]; rfl) (by kernel_rfl) (by kernel_rfl) (by kernel_rfl) rfl (by exact fun _ _ _ h => h) (by rfl) ?_ (by assumption) ?_
      rotate_left
      · intro w hSw; (try dsimp only at hSw); go_simp; try (with_reducible rfl)
      try simp only [Act.put, List.setIfInBounds_toArray, List.set_cons_zero, List.set_cons_succ]
      refine take_runs (i := 1) (v := ?_) (by simp only [List.getElem?_toArray, List.getElem?_cons_succ, List.getElem?_cons_zero]; rfl) (by kernel_rfl) (by kernel_rfl) (by kernel_rfl) rfl (by exact fun _ _ _ h => h) (by rfl) ?_ (by assumption) ?_
      rotate_left
      · intro w hSw; (try dsimp only at hSw); go_simp; try (with_reducible rfl)
      try simp only [Act.put, List.setIfInBounds_toArray, List.set_cons_zero, List.set_cons_succ]
      refine take_runs (i := 2) (v := ?_) (by simp only [List.getElem?_toArray, List.getElem?_cons_succ, List.getElem?_cons_zero]; rfl) (by kernel_rfl) (by kernel_rfl) (by kernel_rfl) rfl (by exact fun _ _ _ h => h) (by rfl) ?_ (by assumption) ?_
      rotate_left
      · intro w hSw; (try dsimp only at hSw); go_simp; try (with_reducible rfl)
      try simp only [Act.put, List.setIfInBounds_toArray, List.set_cons_zero, List.set_cons_succ]
      refine wpAnyH_ready (rs := [3]) (by kernel_rfl) (by simp) ?_
      refine (AllReadyH.cons (o := _) (by simp only [List.getElem?_toArray, List.getElem?_cons_succ, List.getElem?_cons_zero]; rfl) (fun K hK => ?_) AllReadyH.nil)
      go_simp
      refine (HC1.out (W.drew)).mono ?_
      rintro e wx ⟨rfl, rfl⟩
      have p_B0_0 := (cell_of_row (W.drew) _ 0 _ _ _ B0.out).trans (show _ = some (Value.slice a ss.length cap) from rfl)
      have p_B0_1 := (cell_of_row (W.drew) _ 1 _ _ _ B0.out).trans (show _ = some (Value.int .i64 now) from rfl)
      refine hK.out _ _ ⟨p_B0_0, p_B0_1⟩ (fun hHeld => ?_)
      clear p_B0_0 p_B0_1
      clear hK K
      try simp only [Act.put, List.setIfInBounds_toArray, List.set_cons_zero, List.set_cons_succ]
      refine take_runs (i := 4) (v := ?_) (by simp only [List.getElem?_toArray, List.getElem?_cons_succ, List.getElem?_cons_zero]; rfl) (by kernel_rfl) (by kernel_rfl) (by kernel_rfl) rfl (by exact fun _ _ _ h => h) (by rfl) ?_ (by assumption) ?_
      rotate_left
      · intro w hSw; (try dsimp only at hSw); go_simp; try (with_reducible rfl)
      try simp only [Act.put, List.setIfInBounds_toArray, List.set_cons_zero, List.set_cons_succ]
      refine take_runs (i := 5) (v := ?_) (by simp only [List.getElem?_toArray, List.getElem?_cons_succ, List.getElem?_cons_zero]; rfl) (by kernel_rfl) (by kernel_rfl) (by kernel_rfl) rfl (by exact fun _ _ _ h => h) (by rfl) ?_ (by assumption) ?_
      rotate_left
      · intro w hSw; (try dsimp only at hSw); go_simp; try (with_reducible rfl)
      try simp only [Act.put, List.setIfInBounds_toArray, List.set_cons_zero, List.set_cons_succ]
      refine take_runs (i := 6) (v := ?_) (by simp only [List.getElem?_toArray, List.getElem?_cons_succ, List.getElem?_cons_zero]; rfl) (by kernel_rfl) (by kernel_rfl) (by kernel_rfl) rfl (by exact fun _ _ _ h => h) (by rfl) ?_ (by assumption) ?_
      rotate_left
      · intro w hSw; (try dsimp only at hSw); go_simp; try (with_reducible rfl)
      try simp only [Act.put, List.setIfInBounds_toArray, List.set_cons_zero, List.set_cons_succ]
      refine wpAnyH_ready (rs := [7]) (by kernel_rfl) (by simp) ?_
      refine (AllReadyH.cons (o := _) (by simp only [List.getElem?_toArray, List.getElem?_cons_succ, List.getElem?_cons_zero]; rfl) (fun K hK => ?_) AllReadyH.nil)
      go_simp
      refine (HC2.out (W.drew)).mono ?_
      rintro e wx ⟨rfl, rfl⟩
      have p_B0_0 := (cell_of_row (W.drew) _ 0 _ _ _ B0.out).trans (show _ = some (Value.slice a ss.length cap) from rfl)
      have p_B0_1 := (cell_of_row (W.drew) _ 1 _ _ _ B0.out).trans (show _ = some (Value.int .i64 now) from rfl)
      refine hK.out _ _ ⟨p_B0_0, p_B0_1⟩ (fun hHeld => ?_)
      clear p_B0_0 p_B0_1
      clear hK K
      try simp only [Act.put, List.setIfInBounds_toArray, List.set_cons_zero, List.set_cons_succ]
      refine take_runs (i := 8) (v := ?_) (by simp only [List.getElem?_toArray, List.getElem?_cons_succ, List.getElem?_cons_zero]; rfl) (by kernel_rfl) (by kernel_rfl) (by kernel_rfl) rfl (by exact fun _ _ _ h => h) (by rfl) ?_ (by assumption) ?_
      rotate_left
      · intro w hSw; (try dsimp only at hSw); go_simp; try (with_reducible rfl)
      try simp only [Act.put, List.setIfInBounds_toArray, List.set_cons_zero, List.set_cons_succ]
      refine take_runs (i := 9) (v := ?_) (by simp only [List.getElem?_toArray, List.getElem?_cons_succ, List.getElem?_cons_zero]; rfl) (by kernel_rfl) (by kernel_rfl) (by kernel_rfl) rfl (by exact fun _ _ _ h => h) (by rfl) ?_ (by assumption) ?_
      rotate_left
      · intro w hSw; (try dsimp only at hSw); go_simp; try (with_reducible rfl)
      try simp only [Act.put, List.setIfInBounds_toArray, List.set_cons_zero, List.set_cons_succ]
      refine take_runs (i := 10) (v := ?_) (by simp only [List.getElem?_toArray, List.getElem?_cons_succ, List.getElem?_cons_zero]; rfl) (by kernel_rfl) (by kernel_rfl) (by kernel_rfl) rfl (by exact fun _ _ _ h => h) (by rfl) ?_ (by assumption) ?_
      rotate_left
      · intro w hSw; (try dsimp only at hSw); go_simp; try (with_reducible rfl)
      try simp only [Act.put, List.setIfInBounds_toArray, List.set_cons_zero, List.set_cons_succ]
      refine take_runs (i := 11) (v := ?_) (by simp only [List.getElem?_toArray, List.getElem?_cons_succ, List.getElem?_cons_zero]; rfl) (by kernel_rfl) (by kernel_rfl) (by kernel_rfl) rfl (by exact fun _ _ _ h => h) (by rfl) ?_ (by assumption) ?_
      rotate_left
      · intro w hSw; (try dsimp only at hSw); go_simp; try (with_reducible rfl)
      try simp only [Act.put, List.setIfInBounds_toArray, List.set_cons_zero, List.set_cons_succ]
      refine take_runs (i := 13) (v := ?_) (by simp only [List.getElem?_toArray, List.getElem?_cons_succ, List.getElem?_cons_zero]; rfl) (by kernel_rfl) (by kernel_rfl) (by kernel_rfl) rfl (by exact fun _ _ _ h => h) (by rfl) ?_ (by assumption) ?_
      rotate_left
      · intro w hSw; (try dsimp only at hSw); go_simp; try (with_reducible rfl)
      try simp only [Act.put, List.setIfInBounds_toArray, List.set_cons_zero, List.set_cons_succ]
      refine take_runs (i := 14) (v := ?_) (by simp only [List.getElem?_toArray, List.getElem?_cons_succ, List.getElem?_cons_zero]; rfl) (by kernel_rfl) (by kernel_rfl) (by kernel_rfl) rfl (by exact fun _ _ _ h => h) (by rfl) ?_ (by assumption) ?_
      rotate_left
      · intro w hSw; (try dsimp only at hSw); go_simp; try (with_reducible rfl)
      try simp only [Act.put, List.setIfInBounds_toArray, List.set_cons_zero, List.set_cons_succ]
      refine wpAnyH_ready (rs := [12]) (by kernel_rfl) (by simp) ?_
      refine (AllReadyH.cons (o := _) (by simp only [List.getElem?_toArray, List.getElem?_cons_succ, List.getElem?_cons_zero]; rfl) (fun K hK => ?_) AllReadyH.nil)
      go_simp
      refine (HTB.out (W.drew) (lsR_below HLS.out d.out)).mono ?_
      rintro e w5 ⟨g, bs, rfl, ht, c5⟩
      have HT5 := Lib.hid ht
      replace B0 := Lib.hid ((c5.block w.heap.size (Array.getElem?_eq_some_iff.1 B0.out).1).trans B0.out)
      replace d := Lib.hid (d.out.trans (c5.mono d.out.size))
      have Z_w5 := Lib.hid (show W.heap.size ≤ w5.heap.size from c5.size)
      clear c5 ht
      have p_B0_0 := (cell_of_row w5 _ 0 _ _ _ B0.out).trans (show _ = some (Value.slice a ss.length cap) from rfl)
      have p_B0_1 := (cell_of_row w5 _ 1 _ _ _ B0.out).trans (show _ = some (Value.int .i64 now) from rfl)
      refine hK.out _ _ ⟨p_B0_0, p_B0_1⟩ (fun hHeld => ?_)
      clear p_B0_0 p_B0_1
      clear hK K
      try simp only [Act.put, List.setIfInBounds_toArray, List.set_cons_zero, List.set_cons_succ]
      refine wpAnyH_ready (rs := [15]) (by kernel_rfl) (by simp) ?_
      refine (AllReadyH.cons (o := _) (by simp only [List.getElem?_toArray, List.getElem?_cons_succ, List.getElem?_cons_zero]; rfl) (fun K hK => ?_) AllReadyH.nil)
      go_simp
      refine (HPS.out _ g bs w5 HT5.out (segsR_below HSR.out d.out)).mono ?_
      rintro e w6 ⟨rfl, c6⟩
      replace B0 := Lib.hid ((c6.block w.heap.size (Array.getElem?_eq_some_iff.1 B0.out).1).trans B0.out)
      replace d := Lib.hid (d.out.trans (c6.mono d.out.size))
      have Z_w6 := Lib.hid (show w5.heap.size ≤ w6.heap.size from c6.size)
      clear c6
      have p_B0_0 := (cell_of_row w6 _ 0 _ _ _ B0.out).trans (show _ = some (Value.slice a ss.length cap) from rfl)
      have p_B0_1 := (cell_of_row w6 _ 1 _ _ _ B0.out).trans (show _ = some (Value.int .i64 now) from rfl)
      refine hK.out _ _ ⟨p_B0_0, p_B0_1⟩ (fun hHeld => ?_)
      clear p_B0_0 p_B0_1
      clear hK K
      try simp only [Act.put, List.setIfInBounds_toArray, List.set_cons_zero, List.set_cons_succ]
      refine take_runs (i := 16) (v := ?_) (by simp only [List.getElem?_toArray, List.getElem?_cons_succ, List.getElem?_cons_zero]; rfl) (by kernel_rfl) (by kernel_rfl) (by kernel_rfl) rfl (by exact fun _ _ _ h => h) (by rfl) ?_ (by assumption) ?_
      rotate_left
      · intro w hSw; (try dsimp only at hSw); go_simp; try (with_reducible rfl)
      try simp only [Act.put, List.setIfInBounds_toArray, List.set_cons_zero, List.set_cons_succ]
      refine take_runs (i := 17) (v := ?_) (by simp only [List.getElem?_toArray, List.getElem?_cons_succ, List.getElem?_cons_zero]; rfl) (by kernel_rfl) (by kernel_rfl) (by kernel_rfl) rfl (by exact fun _ _ _ h => h) (by rfl) ?_ (by assumption) ?_
      rotate_left
      · intro w hSw; (try dsimp only at hSw); go_simp; try (with_reducible rfl)
      try simp only [Act.put, List.setIfInBounds_toArray, List.set_cons_zero, List.set_cons_succ]
      refine wpAnyH_done (by kernel_rfl) ?_ _
      clear hHeld
      go_wp2
      go_ret
      exact ⟨rfl, d.out⟩
/-- What checkStore answers. -/
def CheckN (w : World) (us : List SegV) (e : Ending) (w' : World) : Prop := ∃ g bs, e = .returned (.tuple #[.slice (some ⟨g, 0, none⟩) us.length us.length, .bool true]) ∧ TabN w.heap.size w' g bs us ∧ Below w.heap.size w w'
set_option maxHeartbeats 8000000 in
set_option maxRecDepth 100000 in
theorem checkStore_no (sv : Value) (ss : List (List VerD)) (now : Int) (w : World) (h : SlR tVersionS w sv ss) (hs : zL tVersionS ss ≤ 1048576) (hst : storeB ss now = false) :
    Calls Try.prog 86 #[.agg #[sv, .int .i64 now]] w (fun e w' => e = .returned (.tuple #[.slice none 0 0, .bool false]) ∧ Below w.heap.size w w') := by
  obtain ⟨us, hls, hsr⟩ := slR_ls h
  have HUL := Lib.hid hsr.1
  obtain ⟨a, cap, rfl⟩ := slR_len h
  have hlen := zL_len hs
  have HSS := Lib.hid hs
  have H := Lib.hid h
  have HLS := Lib.hid hls
  have HSR := Lib.hid hsr
  have d0 := Lib.hid (show Below w.heap.size w (w.alloc (.cells #[.slice a ss.length cap, .int .i64 now] 45)) from (Below.refl _ _).alloc (Nat.le_refl _) _)
  have B0 : Hid ((w.alloc (.cells #[.slice a ss.length cap, .int .i64 now] 45)).heap[w.heap.size]? = some (.cells #[.slice a ss.length cap, .int .i64 now] 45 (0, 0))) := Lib.hid (heap_alloc_new w _)
  have Y0 : Hid (w.heap.size < (w.alloc (.cells #[.slice a ss.length cap, .int .i64 now] 45)).heap.size) := Lib.hid (by simp [World.size_alloc])
  have HI := Lib.hid (fun W g => implIsStore (.slice a ss.length cap) ss now W g HSS.out)
  rw [hst] at HI
  clear hls hsr h hs hst
  go_enter Try.func86, Try.ntmps86
  go_wp2_with fail
  generalize w.alloc (.cells #[.slice a ss.length cap, .int .i64 now] 45) = W at *
  refine (HI.out W (slR_below tVersionS_law H.out d0.out)).mono ?_
  rintro e w1 ⟨rfl, b1⟩
  have D1 := Lib.hid (d0.out.trans (b1.mono d0.out.size))
  have k0 := (b1.block w.heap.size Y0.out).trans B0.out
  have p0 := (cell_of_row w1 _ 0 _ _ _ k0).trans (show _ = some (Value.slice a ss.length cap) from rfl)
  clear b1 k0
  go_wp2
  go_ret2
  exact ⟨rfl, D1.out⟩
set_option maxHeartbeats 8000000 in
set_option maxRecDepth 100000 in
theorem checkStore_yes (sv : Value) (ss : List (List VerD)) (now : Int) (us : List SegV) (w : World) (h : SlR tVersionS w sv ss) (hs : zL tVersionS ss ≤ 1048576) (hst : storeB ss now = true) (hls : LsR w sv us) (hsr : SegsR w us ss) :
    Calls Try.prog 86 #[.agg #[sv, .int .i64 now]] w (CheckN w us) := by
  have HUL := Lib.hid hsr.1
  obtain ⟨a, cap, rfl⟩ := slR_len h
  have hlen := zL_len hs
  have HSS := Lib.hid hs
  have H := Lib.hid h
  have HLS := Lib.hid hls
  have HSR := Lib.hid hsr
  have d0 := Lib.hid (show Below w.heap.size w (w.alloc (.cells #[.slice a ss.length cap, .int .i64 now] 45)) from (Below.refl _ _).alloc (Nat.le_refl _) _)
  have B0 : Hid ((w.alloc (.cells #[.slice a ss.length cap, .int .i64 now] 45)).heap[w.heap.size]? = some (.cells #[.slice a ss.length cap, .int .i64 now] 45 (0, 0))) := Lib.hid (heap_alloc_new w _)
  have Y0 : Hid (w.heap.size < (w.alloc (.cells #[.slice a ss.length cap, .int .i64 now] 45)).heap.size) := Lib.hid (by simp [World.size_alloc])
  have HI := Lib.hid (fun W g => implIsStore (.slice a ss.length cap) ss now W g HSS.out)
  rw [hst] at HI
  clear hls hsr h hs hst
  go_enter Try.func86, Try.ntmps86
  go_wp2_with fail
  generalize w.alloc (.cells #[.slice a ss.length cap, .int .i64 now] 45) = W at *
  refine (HI.out W (slR_below tVersionS_law H.out d0.out)).mono ?_
  rintro e w1 ⟨rfl, b1⟩
  have D1 := Lib.hid (d0.out.trans (b1.mono d0.out.size))
  have k0 := (b1.block w.heap.size Y0.out).trans B0.out
  have p0 := (cell_of_row w1 _ 0 _ _ _ k0).trans (show _ = some (Value.slice a ss.length cap) from rfl)
  clear b1 k0
  go_wp2_with fail
  refine (tableOf_any (.slice a ss.length cap) us w1 (lsR_below HLS.out D1.out) (by have := HUL.out; omega)).mono ?_
  rintro e w2 ⟨g, bs, rfl, ht, b2⟩
  have D2 := Lib.hid (D1.out.trans (b2.mono D1.out.size))
  have HT := Lib.hid ht
  clear ht b2 p0
  go_wp2
  go_ret2
  exact ⟨g, bs, rfl, ⟨Nat.le_trans D1.out.size HT.out.1, HT.out.2⟩, D2.out⟩
end Go.Proofs.Ytginjmnohnidiaa
namespace Go.Proofs.Ytginjmnohnidiaa
open Go.RowKit
set_option linter.unusedVariables false
theorem lessL_irr : ∀ xs : List Int, lessL xs xs = false
  | [] => rfl
  | x :: xs => by simp only [lessL, if_true]; exact lessL_irr xs
theorem lessL_tri : ∀ xs ys : List Int, lessL xs ys = false → lessL ys xs = false → xs = ys
  | [], [], _, _ => rfl
  | [], y :: ys, h, _ => by simp [lessL] at h
  | x :: xs, [], _, h => by simp [lessL] at h
  | x :: xs, y :: ys, h1, h2 => by
    by_cases e : x = y
    · subst e
      simp only [lessL, if_true] at h1 h2
      rw [lessL_tri xs ys h1 h2]
    · simp only [lessL, if_neg e, if_neg (fun g => e (Eq.symm g)), decide_eq_false_iff_not] at h1 h2
      omega
theorem lessL_trans : ∀ xs ys zs : List Int, lessL xs ys = true → lessL ys zs = true → lessL xs zs = true
  | _, _, [], _, h => by cases ‹List Int› <;> simp [lessL] at h
  | _, [], _ :: _, h, _ => by cases ‹List Int› <;> simp [lessL] at h
  | [], y :: ys, z :: zs, _, _ => rfl
  | x :: xs, y :: ys, z :: zs, h1, h2 => by
    by_cases e : x = y
    · subst e
      by_cases e2 : x = z
      · subst e2
        simp only [lessL, if_true] at h1 h2 ⊢
        exact lessL_trans xs ys zs h1 h2
      · simp only [lessL, if_neg e2] at h2 ⊢
        exact h2
    · by_cases e2 : y = z
      · subst e2
        simp only [lessL, if_neg e] at h1 ⊢
        exact h1
      · simp only [lessL, if_neg e, if_neg e2, decide_eq_true_eq] at h1 h2
        have e3 : ¬ x = z := by omega
        simp only [lessL, if_neg e3, decide_eq_true_eq]
        omega
theorem rowLess_irr (a : RowD) : rowLess a a = false := by unfold rowLess; rw [if_pos rfl]; exact lessL_irr _
theorem rowLess_tri (a b : RowD) (h1 : rowLess a b = false) (h2 : rowLess b a = false) : a = b := by
  unfold rowLess at h1 h2
  by_cases e : a.1 = b.1
  · rw [if_pos e] at h1
    rw [if_pos e.symm] at h2
    exact Prod.ext e (lessL_tri _ _ h1 h2)
  · rw [if_neg e, decide_eq_false_iff_not] at h1
    rw [if_neg (fun g => e g.symm), decide_eq_false_iff_not] at h2
    omega
theorem rowLess_trans (a b c : RowD) (h1 : rowLess a b = true) (h2 : rowLess b c = true) : rowLess a c = true := by
  unfold rowLess at *
  by_cases e : a.1 = b.1
  · rw [if_pos e] at h1
    by_cases e2 : b.1 = c.1
    · rw [if_pos e2] at h2
      rw [if_pos (e.trans e2)]
      exact lessL_trans _ _ _ h1 h2
    · rw [if_neg e2] at h2
      rw [if_neg (fun g => e2 (e.symm.trans g)), e]
      exact h2
  · rw [if_neg e, decide_eq_true_eq] at h1
    by_cases e2 : b.1 = c.1
    · rw [if_neg (fun g => e (g.trans e2.symm)), ← e2]
      exact decide_eq_true h1
    · rw [if_neg e2, decide_eq_true_eq] at h2
      rw [if_neg (by omega)]
      exact decide_eq_true (by omega)
theorem rowLess_asym {a b : RowD} (h : rowLess a b = true) : rowLess b a = false := by
  rw [Bool.eq_false_iff]
  intro g
  have := rowLess_trans a b a h g
  rw [rowLess_irr] at this
  exact Bool.noConfusion this
theorem rowLess_ntrans (a b c : RowD) (h1 : rowLess a b = false) (h2 : rowLess b c = false) : rowLess a c = false := by
  rw [Bool.eq_false_iff]
  intro g
  cases h3 : rowLess b a with
  | true => rw [rowLess_trans b a c h3 g] at h2; exact Bool.noConfusion h2
  | false => rw [rowLess_tri a b h1 h3] at g; rw [g] at h2; exact Bool.noConfusion h2
/-- Sorted: none before one that is less. -/
def SortedL (rs : List RowD) : Prop := rs.Pairwise (fun a b => rowLess b a = false)
theorem insAt_spec (rs : List RowD) (r : RowD) : ∀ k, (∀ i, insAt rs r k ≤ i → i < k → rowLess r (rs.getD i (0, [])) = true) ∧ (∀ p, insAt rs r k = p + 1 → rowLess r (rs.getD p (0, [])) = false)
  | 0 => ⟨fun i _ h => by omega, fun p h => by simp [insAt] at h⟩
  | k + 1 => by
    obtain ⟨h1, h2⟩ := insAt_spec rs r k
    cases h : rowLess r (rs.getD k (0, [])) with
    | true =>
      rw [insAt_down h]
      refine ⟨fun i hi hk => ?_, h2⟩
      by_cases e : i = k
      · rw [e]; exact h
      · exact h1 i hi (by omega)
    | false =>
      rw [insAt_stop h]
      refine ⟨fun i hi hk => by omega, fun p hp => ?_⟩
      rw [show p = k by omega]
      exact h
theorem sorted_at {rs : List RowD} (h : SortedL rs) {i j : Nat} (hij : i < j) (hj : j < rs.length) : rowLess (rs.getD j (0, [])) (rs.getD i (0, [])) = false := by
  have := List.pairwise_iff_getElem.1 h i j (by omega) hj hij
  have hi : i < rs.length := by omega
  simpa [List.getD, hi, hj] using this
theorem getD_at {rs : List RowD} {i : Nat} (hi : i < rs.length) : rs.getD i (0, []) = rs[i] := by simp [List.getD, hi]
theorem insL_sorted {rs : List RowD} {r : RowD} (h : SortedL rs) : SortedL (insL rs r) := by
  obtain ⟨h1, h2⟩ := insAt_spec rs r rs.length
  have hle := insAt_le rs r rs.length
  unfold insL SortedL
  generalize insAt rs r rs.length = p at *
  have hlow : ∀ x ∈ rs.take p, rowLess r x = false := by
    intro x hx
    obtain ⟨i, hi, rfl⟩ := List.getElem_of_mem hx
    rw [List.length_take] at hi
    obtain ⟨q, rfl⟩ : ∃ q, p = q + 1 := ⟨p - 1, by omega⟩
    have hq := h2 q rfl
    rw [List.getElem_take, ← getD_at (by omega)]
    by_cases e : i = q
    · rw [e]; exact hq
    · exact rowLess_ntrans _ _ _ hq (sorted_at h (by omega) (by omega))
  have hhigh : ∀ x ∈ rs.drop p, rowLess x r = false := by
    intro x hx
    obtain ⟨i, hi, rfl⟩ := List.getElem_of_mem hx
    rw [List.length_drop] at hi
    rw [List.getElem_drop, ← getD_at (by omega)]
    exact rowLess_asym (h1 (p + i) (by omega) (by omega))
  have hs : (rs.take p ++ rs.drop p).Pairwise (fun a b => rowLess b a = false) := by rw [List.take_append_drop]; exact h
  obtain ⟨s1, s2, s3⟩ := List.pairwise_append.1 hs
  refine List.pairwise_append.2 ⟨s1, List.pairwise_cons.2 ⟨hhigh, s2⟩, fun a ha b hb => ?_⟩
  rcases List.mem_cons.1 hb with rfl | hb
  · exact hlow a ha
  · exact s3 a ha b hb
theorem foldl_sorted (a : List RowD) : ∀ acc, SortedL acc → SortedL (a.foldl insL acc) := by
  induction a with
  | nil => intro acc h; exact h
  | cons r a ih => intro acc h; exact ih _ (insL_sorted h)
theorem sortL_sorted (a : List RowD) : SortedL (sortL a) := foldl_sorted a [] List.Pairwise.nil
/-- There is one sorted permutation. -/
theorem sortL_unique {a b : List RowD} (hp : b.Perm a) (hs : SortedL b) : b = sortL a :=
  List.Perm.eq_of_pairwise (le := fun x y => rowLess y x = false) (fun x y _ _ h1 h2 => rowLess_tri x y h2 h1) hs (sortL_sorted a) (hp.trans (sortL_perm a).symm)
/-! The program's comparison: a number below zero, zero, or above zero. -/
def cmpL : List Int → List Int → Int
  | [], [] => 0
  | [], _ :: _ => -1
  | _ :: _, [] => 1
  | x :: xs, y :: ys => if Lib.compareInt x y = 0 then cmpL xs ys else Lib.compareInt x y
def cmpR (a b : RowD) : Int := if Lib.compareInt a.1 b.1 = 0 then cmpL a.2 b.2 else Lib.compareInt a.1 b.1
theorem compareInt_zero (x y : Int) : Lib.compareInt x y = 0 ↔ x = y := by unfold Lib.compareInt; split <;> (try split) <;> omega
theorem compareInt_neg (x y : Int) : Lib.compareInt x y < 0 ↔ x < y := by unfold Lib.compareInt; split <;> (try split) <;> omega
theorem cmpL_less : ∀ xs ys : List Int, decide (cmpL xs ys < 0) = lessL xs ys
  | [], [] => by simp [cmpL, lessL]
  | [], _ :: _ => by simp [cmpL, lessL]
  | _ :: _, [] => by simp [cmpL, lessL]
  | x :: xs, y :: ys => by
    unfold cmpL lessL
    by_cases e : x = y
    · rw [if_pos ((compareInt_zero x y).2 e), if_pos e]
      exact cmpL_less xs ys
    · rw [if_neg (fun g => e ((compareInt_zero x y).1 g)), if_neg e]
      exact decide_eq_decide.2 (compareInt_neg x y)
theorem cmpR_less (a b : RowD) : decide (cmpR a b < 0) = rowLess a b := by
  unfold cmpR rowLess
  by_cases e : a.1 = b.1
  · rw [if_pos ((compareInt_zero _ _).2 e), if_pos e]
    exact cmpL_less _ _
  · rw [if_neg (fun g => e ((compareInt_zero _ _).1 g)), if_neg e]
    exact decide_eq_decide.2 (compareInt_neg _ _)
theorem cmpL_step {xs ys : List Int} {k : Nat} (hx : k < xs.length) (hy : k < ys.length) (h : Lib.compareInt (xs.getD k 0) (ys.getD k 0) = 0) : cmpL (xs.drop k) (ys.drop k) = cmpL (xs.drop (k + 1)) (ys.drop (k + 1)) := by
  rw [List.drop_eq_getElem_cons hx, List.drop_eq_getElem_cons hy]
  have e : Lib.compareInt xs[k] ys[k] = 0 := by simpa [List.getD, hx, hy] using h
  simp only [cmpL, e, if_true]
theorem cmpL_ne {xs ys : List Int} {k : Nat} (hx : k < xs.length) (hy : k < ys.length) (h : ¬ Lib.compareInt (xs.getD k 0) (ys.getD k 0) = 0) : cmpL (xs.drop k) (ys.drop k) = Lib.compareInt (xs.getD k 0) (ys.getD k 0) := by
  rw [List.drop_eq_getElem_cons hx, List.drop_eq_getElem_cons hy]
  have e : ¬ Lib.compareInt xs[k] ys[k] = 0 := by simpa [List.getD, hx, hy] using h
  simp only [cmpL, if_neg e]
  simp [List.getD, hx, hy]
theorem cmpL_long {xs ys : List Int} (hx : ys.length < xs.length) : cmpL (xs.drop ys.length) (ys.drop ys.length) = 1 := by
  rw [List.drop_length, List.drop_eq_getElem_cons hx]
  rfl
theorem cmpL_end {xs ys : List Int} (h : xs.length ≤ ys.length) : cmpL (xs.drop xs.length) (ys.drop xs.length) = if xs.length < ys.length then -1 else 0 := by
  rw [List.drop_length]
  by_cases e : xs.length < ys.length
  · rw [if_pos e, List.drop_eq_getElem_cons e]
    rfl
  · rw [if_neg e, List.drop_eq_nil_of_le (by omega)]
    rfl
end Go.Proofs.Ytginjmnohnidiaa
namespace Go.Proofs.Ytginjmnohnidiaa
open Go.RowKit
set_option linter.unusedVariables false
set_option linter.unusedSimpArgs false
theorem box2 {W w : World} {g : Nat} {i j x y : Value} (g0 : W.heap[g]? = some (.cells #[i, x] 76 (0, 0))) (g1 : W.heap[g + 1]? = some (.cells #[j, y] 76 (0, 0))) (hz : g + 1 < W.heap.size) (hb : Below W.heap.size W w) :
    w.cell? ⟨g, 0, none⟩ = some i ∧ w.cell? ⟨g, 1, none⟩ = some x ∧ w.cell? ⟨g + 1, 0, none⟩ = some j ∧ w.cell? ⟨g + 1, 1, none⟩ = some y := by
  have h0 := (hb.block g (by omega)).trans g0
  have h1 := (hb.block (g + 1) hz).trans g1
  have a0 := cell_of_row w _ 0 _ _ _ h0
  have a1 := cell_of_row w _ 1 _ _ _ h0
  have a2 := cell_of_row w _ 0 _ _ _ h1
  have a3 := cell_of_row w _ 1 _ _ _ h1
  simp at a0 a1 a2 a3
  exact ⟨a0, a1, a2, a3⟩
end Go.Proofs.Ytginjmnohnidiaa
