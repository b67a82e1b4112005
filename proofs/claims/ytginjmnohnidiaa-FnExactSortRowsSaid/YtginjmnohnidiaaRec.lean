/-
  The program's record of a row: the number, how many values, and the first three of them.
-/
import Derived.Test.YtginjmnohnidiaaTake
import Derived.Laws.CopyOwn
namespace Go.Proofs.Ytginjmnohnidiaa
open Go.RowKit
set_option linter.unusedVariables false
set_option linter.unusedSimpArgs false
/-- The record of a row. -/
def recV (id : Int) (xs : List Int) : Value := .agg #[.int .i64 id, .int .i64 xs.length, .int .i64 (xs.getD 0 0), .int .i64 (xs.getD 1 0), .int .i64 (xs.getD 2 0)]
theorem info_size {P : Program} {e : TypeId} {z : Option Value} {n b : Nat} (h : (P.info? e).map (fun i => (i.zero, i.size, i.bytes)) = some (z, n, b)) : (P.info? e).map (·.size) = some n := by
  cases hq : P.info? e with
  | none => rw [hq] at h; simp at h
  | some i => rw [hq] at h; simp at h; simp [h.2.1]
theorem copy_src {w : World} {a : Option Addr} {cap g : Nat} {xs : List Int} (h : Ints w (.slice a xs.length cap) xs) : 0 < ((xs.take 3).map (Value.int .i64)).length → (some ⟨g, 2, none⟩ : Option Addr) = some ⟨g, 2, none⟩ ∧ ∃ ad, a = some ad ∧ ∀ j v, ((xs.take 3).map (Value.int .i64))[j]? = some v → w.cell? (ad.add j) = some v := by
  intro h0
  refine ⟨rfl, ?_⟩
  rcases h with ⟨rfl, _⟩ | ⟨b, off, cap', e, _, _, hc⟩
  · simp at h0
  · simp only [Value.slice.injEq] at e
    obtain ⟨rfl, _, _⟩ := e
    refine ⟨_, rfl, fun j v hj => ?_⟩
    rw [Go.WideShapes.add_plain]
    rw [List.getElem?_map, List.getElem?_take] at hj
    by_cases hlt : j < 3
    · rw [if_pos hlt] at hj
      by_cases hl : j < xs.length
      · rw [hc j hl]
        rw [List.getElem?_eq_getElem hl] at hj
        simpa [List.getD, hl] using hj
      · rw [List.getElem?_eq_none (by omega)] at hj
        simp at hj
    · rw [if_neg hlt] at hj
      simp at hj
theorem splice_rec (a b : Value) (xs : List Int) : splice [a, b, .int .i64 0, .int .i64 0, .int .i64 0] 2 ((xs.take 3).map (Value.int .i64)) = [a, b, .int .i64 (xs.getD 0 0), .int .i64 (xs.getD 1 0), .int .i64 (xs.getD 2 0)] := by
  match xs with
  | [] => rfl
  | [x] => rfl
  | [x, y] => rfl
  | x :: y :: z :: r => rfl
set_option maxHeartbeats 4000000 in
set_option maxRecDepth 100000 in
theorem recordOf_any (id : Int) (vv : Value) (xs : List Int) (w : World) (h : Ints w vv xs) (hn : xs.length ≤ 1048576) :
    Calls Try.prog 135 #[.agg #[.int .i64 id, vv]] w fun e w' => e = .returned (recV id xs) ∧ Below w.heap.size w w' := by
  have H := Lib.hid h
  have HN := Lib.hid hn
  obtain ⟨va, vcap, rfl⟩ := ints_len h
  clear h hn
  go_enter Try.func135, Try.ntmps135
  go_wp2
  have hh : Below w.heap.size w (((w.alloc (.cells #[.int .i64 id, .slice va xs.length vcap] 76)).alloc (.cells #[.int .i64 0, .int .i64 0, .int .i64 0, .int .i64 0, .int .i64 0] 157)).alloc (.cells #[.int .i64 id, .int .i64 xs.length, .int .i64 0, .int .i64 0, .int .i64 0] 157)) := (((Below.refl _ w).alloc (Nat.le_refl _) _).alloc (by simp) _).alloc (by simp; omega) _
  have g2 : (((w.alloc (.cells #[.int .i64 id, .slice va xs.length vcap] 76)).alloc (.cells #[.int .i64 0, .int .i64 0, .int .i64 0, .int .i64 0, .int .i64 0] 157)).alloc (.cells #[.int .i64 id, .int .i64 xs.length, .int .i64 0, .int .i64 0, .int .i64 0] 157)).heap[w.heap.size + 2]? = some (.cells #[.int .i64 id, .int .i64 xs.length, .int .i64 0, .int .i64 0, .int .i64 0] 157 (0, 0)) := by
    have := heap_alloc_new ((w.alloc (.cells #[.int .i64 id, .slice va xs.length vcap] 76)).alloc (.cells #[.int .i64 0, .int .i64 0, .int .i64 0, .int .i64 0, .int .i64 0] 157)) (.cells #[.int .i64 id, .int .i64 xs.length, .int .i64 0, .int .i64 0, .int .i64 0] 157)
    simpa only [World.size_alloc] using this
  have g1 : (((w.alloc (.cells #[.int .i64 id, .slice va xs.length vcap] 76)).alloc (.cells #[.int .i64 0, .int .i64 0, .int .i64 0, .int .i64 0, .int .i64 0] 157)).alloc (.cells #[.int .i64 id, .int .i64 xs.length, .int .i64 0, .int .i64 0, .int .i64 0] 157)).heap[w.heap.size + 1]? = some (.cells #[.int .i64 0, .int .i64 0, .int .i64 0, .int .i64 0, .int .i64 0] 157 (0, 0)) := by
    rw [Below.heap_alloc _ _ _ (by simp)]
    have := heap_alloc_new (w.alloc (.cells #[.int .i64 id, .slice va xs.length vcap] 76)) (.cells #[.int .i64 0, .int .i64 0, .int .i64 0, .int .i64 0, .int .i64 0] 157)
    simpa only [World.size_alloc] using this
  have g0 : (((w.alloc (.cells #[.int .i64 id, .slice va xs.length vcap] 76)).alloc (.cells #[.int .i64 0, .int .i64 0, .int .i64 0, .int .i64 0, .int .i64 0] 157)).alloc (.cells #[.int .i64 id, .int .i64 xs.length, .int .i64 0, .int .i64 0, .int .i64 0] 157)).heap[w.heap.size]? = some (.cells #[.int .i64 id, .slice va xs.length vcap] 76 (0, 0)) := by
    rw [Below.heap_alloc _ _ _ (by simp; omega), Below.heap_alloc _ _ _ (by simp)]
    exact heap_alloc_new w _
  have hs : (((w.alloc (.cells #[.int .i64 id, .slice va xs.length vcap] 76)).alloc (.cells #[.int .i64 0, .int .i64 0, .int .i64 0, .int .i64 0, .int .i64 0] 157)).alloc (.cells #[.int .i64 id, .int .i64 xs.length, .int .i64 0, .int .i64 0, .int .i64 0] 157)).heap.size = w.heap.size + 3 := by simp [World.size_alloc]
  generalize (((w.alloc (.cells #[.int .i64 id, .slice va xs.length vcap] 76)).alloc (.cells #[.int .i64 0, .int .i64 0, .int .i64 0, .int .i64 0, .int .i64 0] 157)).alloc (.cells #[.int .i64 id, .int .i64 xs.length, .int .i64 0, .int .i64 0, .int .i64 0] 157)) = W at *
  have b0 := cell_of_row W _ 1 _ _ _ g0
  simp at b0
  have I2 := ints_below H.out hh
  refine wp_region_held_drew (S := fun w' => w'.cell? ⟨w.heap.size, 1, none⟩ = some (.slice va xs.length vcap)) (by kernel_rfl) b0 (fun hHeld => ?_)
  refine take_runs (i := 0) (v := ?_) (by simp only [List.getElem?_toArray, List.getElem?_cons_succ, List.getElem?_cons_zero]; rfl) (by kernel_rfl) (by kernel_rfl) (by kernel_rfl) rfl (by exact fun _ _ _ h => h) (by rfl) ?_ (by assumption) ?_
  rotate_left
  · intro w hSw; (try dsimp only at hSw); go_simp; try (with_reducible rfl)
  try simp only [Act.put, List.setIfInBounds_toArray, List.set_cons_zero, List.set_cons_succ]
  refine take_runs (i := 1) (v := ?_) (by simp only [List.getElem?_toArray, List.getElem?_cons_succ, List.getElem?_cons_zero]; rfl) (by kernel_rfl) (by kernel_rfl) (by kernel_rfl) rfl (by exact fun _ _ _ h => h) (by rfl) ?_ (by assumption) ?_
  rotate_left
  · intro w hSw; (try dsimp only at hSw); go_simp; try (with_reducible rfl)
  try simp only [Act.put, List.setIfInBounds_toArray, List.set_cons_zero, List.set_cons_succ]
  refine take_runs (i := 2) (v := ?_) (by simp only [List.getElem?_toArray, List.getElem?_cons_succ, List.getElem?_cons_zero]; rfl) (by kernel_rfl) (by kernel_rfl) (by kernel_rfl) rfl (by exact fun _ _ _ h => h) (by rfl) ?_ (by assumption) ?_
  rotate_left
  · intro w hSw; (try dsimp only at hSw); go_simp; try (with_reducible rfl)
  try simp only [Act.put, List.setIfInBounds_toArray, List.set_cons_zero, List.set_cons_succ]
  refine take_runs (i := 3) (v := ?_) (by simp only [List.getElem?_toArray, List.getElem?_cons_succ, List.getElem?_cons_zero]; rfl) (by kernel_rfl) (by kernel_rfl) (by kernel_rfl) rfl (by exact fun _ _ _ h => h) (by rfl) ?_ (by assumption) ?_
  rotate_left
  · intro w hSw; (try dsimp only at hSw); go_simp; try (with_reducible rfl)
  try simp only [Act.put, List.setIfInBounds_toArray, List.set_cons_zero, List.set_cons_succ]
  refine wpAnyH_ready (rs := [4]) (by kernel_rfl) (by simp) ?_
  refine AllReadyH.cons (o := _) (by simp only [List.getElem?_toArray, List.getElem?_cons_succ, List.getElem?_cons_zero]; rfl) (fun K hK => ?_) AllReadyH.nil
  refine step_copy_splice rfl (.tmp 11) (.tmp 13) 31 31 rfl 3 Try.underlying31 (info_size Try.infoI64) _ _ _ _ _ _ rfl rfl (w.heap.size + 2) 2 [.int .i64 id, .int .i64 xs.length, .int .i64 0, .int .i64 0, .int .i64 0] _ g2 ((xs.take 3).map (Value.int .i64)) (by simp [Nat.min_comm]) (copy_src I2) (by simp; omega) (fun u hu => by obtain ⟨y, _, rfl⟩ := List.mem_map.1 hu; rfl) (w.heap.size + 2) W (below_drew (Below.refl _ W)) (Nat.le_refl _) ?_
  intro W2 G2 bA
  rw [splice_rec] at G2
  have k0 := (bA.block w.heap.size (by omega)).trans g0
  have b1 := cell_of_row W2 _ 1 _ _ _ k0
  simp at b1
  refine hK.out _ _ b1 (fun hHeld2 => ?_)
  clear hK K hHeld
  try simp only [Act.put, List.setIfInBounds_toArray, List.set_cons_zero, List.set_cons_succ]
  refine wpAnyH_done (by kernel_rfl) ?_ _
  have k1 := (bA.block (w.heap.size + 1) (by omega)).trans g1
  have k2 := G2.out
  have hbb := hh.trans (bA.mono (by omega))
  clear G2 bA g0 g1 g2 I2 hHeld2 b0 b1 k0 hh hs
  obtain ⟨n, hn2⟩ : ∃ n : Nat, n = xs.length := ⟨_, rfl⟩
  have c0 := cell_of_row W2 _ 0 _ _ _ k2
  have d0 := cell_of_row W2 _ 0 _ _ _ k1
  have f0 := frozen_of_row W2 _ 0 _ _ k1
  have c1 := cell_of_row W2 _ 1 _ _ _ k2
  have d1 := cell_of_row W2 _ 1 _ _ _ k1
  have f1 := frozen_of_row W2 _ 1 _ _ k1
  have c2 := cell_of_row W2 _ 2 _ _ _ k2
  have d2 := cell_of_row W2 _ 2 _ _ _ k1
  have f2 := frozen_of_row W2 _ 2 _ _ k1
  have c3 := cell_of_row W2 _ 3 _ _ _ k2
  have d3 := cell_of_row W2 _ 3 _ _ _ k1
  have f3 := frozen_of_row W2 _ 3 _ _ k1
  have c4 := cell_of_row W2 _ 4 _ _ _ k2
  have d4 := cell_of_row W2 _ 4 _ _ _ k1
  have f4 := frozen_of_row W2 _ 4 _ _ k1
  simp at c0 c1 c2 c3 c4 d0 d1 d2 d3 d4
  clear k2 hn2
  generalize hx0 : xs[0]?.getD 0 = x0 at c2
  generalize hx1 : xs[1]?.getD 0 = x1 at c3
  generalize hx2 : xs[2]?.getD 0 = x2 at c4
  have HX := Lib.hid (And.intro hx0 (And.intro hx1 hx2))
  clear hx0 hx1 hx2
  go_wp2
  have r0 := heap_setCell_same W2 (w.heap.size + 1) 0 _ _ (.int .i64 id) k1
  have r1 := heap_setCell_same _ (w.heap.size + 1) 1 _ _ (.int .i64 xs.length) r0
  have r2 := heap_setCell_same _ (w.heap.size + 1) 2 _ _ (.int .i64 x0) r1
  have r3 := heap_setCell_same _ (w.heap.size + 1) 3 _ _ (.int .i64 x1) r2
  have r4 := heap_setCell_same _ (w.heap.size + 1) 4 _ _ (.int .i64 x2) r3
  have B4 := (((((hbb.setCell (p := ⟨w.heap.size + 1, 0, none⟩) (by simp) (.int .i64 id)).setCell (p := ⟨w.heap.size + 1, 1, none⟩) (by simp) (.int .i64 xs.length)).setCell (p := ⟨w.heap.size + 1, 2, none⟩) (by simp) (.int .i64 x0)).setCell (p := ⟨w.heap.size + 1, 3, none⟩) (by simp) (.int .i64 x1)).setCell (p := ⟨w.heap.size + 1, 4, none⟩) (by simp) (.int .i64 x2))
  clear r0 r1 r2 r3 k1
  have e0 := cell_of_row _ _ 0 _ _ _ r4
  have e1 := cell_of_row _ _ 1 _ _ _ r4
  have e2 := cell_of_row _ _ 2 _ _ _ r4
  have e3 := cell_of_row _ _ 3 _ _ _ r4
  have e4 := cell_of_row _ _ 4 _ _ _ r4
  simp at e0 e1 e2 e3 e4
  clear r4
  refine bodyPost_ret (v := .agg #[.int .i64 id, .int .i64 xs.length, .int .i64 x0, .int .i64 x1, .int .i64 x2]) ?_ rfl ?_
  · simp [results, Try.f135, go_sem, e0, e1, e2, e3, e4]
  · obtain ⟨rfl, rfl, rfl⟩ := HX.out
    exact ⟨by simp [recV], B4⟩
end Go.Proofs.Ytginjmnohnidiaa
