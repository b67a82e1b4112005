/-
  The program's FormatRow: it returns the text 'fmtRow'.
-/
import Derived.Test.YtjmiihgaaagojaaDoorRowJoinP
namespace Go.Proofs.YtjmiihgaaagojaaDoor
open Go.RowKit
set_option linter.unusedVariables false
set_option linter.unusedSimpArgs false
theorem fmtR (n : Int) (w : World) (h0 : 0 ≤ n) (h1 : n ≤ 999) (hT : Tab w) : Calls Tryd.prog 20 #[.int .i64 n] w fun e w' => e = .returned (.string (strB (Lib.itoa n))) ∧ Below w.heap.size w w' := implFmt n w (by omega) (by omega) hT
theorem listTo_len {xs : List Int} (hr : ∀ j, j < xs.length → 0 ≤ xs.getD j 0 ∧ xs.getD j 0 ≤ 999) : ∀ k, k ≤ xs.length → (listTo xs k).length ≤ 45 * k
  | 0, _ => by simp [listTo]
  | k + 1, h => by
    have ih := listTo_len hr k (by omega)
    have hx := hr k (by omega)
    have hl := Lib.itoa_length_le (xs.getD k 0) (by omega) (by omega)
    unfold listTo
    split
    · rw [List.nil_append]; omega
    · simp only [List.length_append, List.length_cons, List.length_nil]; omega
set_option maxHeartbeats 4000000 in
set_option maxRecDepth 100000 in
theorem implFormatRow (id : Int) (vv : Value) (xs : List Int) (w : World) (h : Ints w vv xs) (hn : xs.length ≤ 1048576) (hT : Tab w) :
    Calls Tryd.prog 8 #[.agg #[.int .i64 id, vv]] w fun e w' => e = .returned (.string (strB (fmtRow (id, xs)))) ∧ Below w.heap.size w w' := by
  have H := Lib.hid h
  have HT := Lib.hid hT
  clear hT
  obtain ⟨va, vcap, rfl⟩ := ints_len h
  have hb0 : Below w.heap.size w (w.alloc (.cells #[.int .i64 id, .slice va xs.length vcap] 27)) := (Below.refl _ w).alloc (Nat.le_refl _) _
  have g0 : (w.alloc (.cells #[.int .i64 id, .slice va xs.length vcap] 27)).heap[w.heap.size]? = some (.cells #[.int .i64 id, .slice va xs.length vcap] 27 (0, 0)) := heap_alloc_new w _
  have HI := Lib.hid (ints_below h hb0)
  have HS := Lib.hid (fun w h => implIsRow id (.slice va xs.length vcap) xs w h hn)
  clear h
  cases hrb : rowB (id, xs) with
  | false =>
    have HF : Hid (fmtRow (id, xs) = []) := Lib.hid (by unfold fmtRow; rw [hrb]; rfl)
    rw [hrb] at HS
    clear hrb
    go_enter Tryd.func8, Tryd.ntmps8
    go_wp2_with fail
    refine (HS.out _ HI.out).mono ?_
    rintro e w2 ⟨rfl, b2⟩
    have b3 := hb0.trans (b2.mono hb0.size)
    go_wp2
    go_ret
    exact ⟨ret_s HF.out.symm, b3⟩
  | true =>
    obtain ⟨⟨r0, r1⟩, rl, rr⟩ := row_parts hrb
    have HF : Hid (fmtRow (id, xs) = Lib.itoa id ++ [58] ++ listTo xs xs.length) := Lib.hid (by unfold fmtRow; rw [hrb]; rfl)
    have HA := Lib.hid (fun w h => fmtR id w r0 r1 h)
    have hr9 : ∀ j, j < xs.length → 0 ≤ xs.getD j 0 ∧ xs.getD j 0 ≤ 999 := fun j hj => ⟨(rr j hj).1, by have := (rr j hj).2; omega⟩
    have hl9 := listTo_len hr9 xs.length (Nat.le_refl _)
    have HB := Lib.hid (fun w h hT => joinInts_any (.slice va xs.length vcap) xs w h rl hr9 hT (by omega))
    have HL9 := Lib.hid hl9
    clear hl9 hr9
    have hlx := Lib.hid (Lib.itoa_length_le id (by omega) (by omega))
    rw [hrb] at HS
    have RL := Lib.hid rl
    clear hrb rr rl
    generalize listTo xs xs.length = t at *
    have e58 : (⟨#[58]⟩ : ByteArray) = strB [58] := rfl
    have d0 := strB_add (Lib.itoa id) [58] (by have := hlx.out; simp; omega)
    go_enter Tryd.func8, Tryd.ntmps8
    go_wp2_with fail
    refine (HS.out _ HI.out).mono ?_
    rintro e w2 ⟨rfl, b2⟩
    have b3 := hb0.trans (b2.mono hb0.size)
    have c0 := box_cells g0 b2
    have I2 := Lib.hid (ints_below HI.out b2)
    go_wp2
    refine wp_region_held_drew (S := fun w' => w'.cell? ⟨w.heap.size, 0, none⟩ = some (.int .i64 id) ∧ w'.cell? ⟨w.heap.size, 1, none⟩ = some (.slice va xs.length vcap)) (by kernel_rfl) ⟨c0.1, c0.2⟩ (fun hHeld => ?_)
    have e0 := below_drew (Below.refl w2.heap.size w2)
    refine take_runs (i := 0) (v := ?_) (by simp only [List.getElem?_toArray, List.getElem?_cons_succ, List.getElem?_cons_zero]; rfl) (by kernel_rfl) (by kernel_rfl) (by kernel_rfl) rfl (by exact fun _ _ _ h => h) (by rfl) ?_ (by assumption) ?_
    rotate_left
    · intro w hSw; (try dsimp only at hSw); go_simp; try (with_reducible rfl)
    try simp only [Act.put, List.setIfInBounds_toArray, List.set_cons_zero, List.set_cons_succ]
    refine take_runs (i := 1) (v := ?_) (by simp only [List.getElem?_toArray, List.getElem?_cons_succ, List.getElem?_cons_zero]; rfl) (by kernel_rfl) (by kernel_rfl) (by kernel_rfl) rfl (by exact fun _ _ _ h => h) (by rfl) ?_ (by assumption) ?_
    rotate_left
    · intro w hSw; (try dsimp only at hSw); go_simp; try (with_reducible rfl)
    try simp only [Act.put, List.setIfInBounds_toArray, List.set_cons_zero, List.set_cons_succ]
    refine take_runs (i := 4) (v := ?_) (by simp only [List.getElem?_toArray, List.getElem?_cons_succ, List.getElem?_cons_zero]; rfl) (by kernel_rfl) (by kernel_rfl) (by kernel_rfl) rfl (by exact fun _ _ _ h => h) (by rfl) ?_ (by assumption) ?_
    rotate_left
    · intro w hSw; (try dsimp only at hSw); go_simp; try (with_reducible rfl)
    try simp only [Act.put, List.setIfInBounds_toArray, List.set_cons_zero, List.set_cons_succ]
    refine take_runs (i := 5) (v := ?_) (by simp only [List.getElem?_toArray, List.getElem?_cons_succ, List.getElem?_cons_zero]; rfl) (by kernel_rfl) (by kernel_rfl) (by kernel_rfl) rfl (by exact fun _ _ _ h => h) (by rfl) ?_ (by assumption) ?_
    rotate_left
    · intro w hSw; (try dsimp only at hSw); go_simp; try (with_reducible rfl)
    try simp only [Act.put, List.setIfInBounds_toArray, List.set_cons_zero, List.set_cons_succ]
    refine wpAnyH_ready (rs := [2]) (by kernel_rfl) (by simp) ?_
    refine AllReadyH.cons (o := _) (by simp only [List.getElem?_toArray, List.getElem?_cons_succ, List.getElem?_cons_zero]; rfl) (fun K hK => ?_) AllReadyH.nil
    go_simp
    refine (HA.out _ (HT.out.on (b3.trans (e0.mono b3.size)))).mono ?_
    rintro e x1 ⟨rfl, c1⟩
    have f1 := e0.trans (c1.mono e0.size)
    refine hK.out _ _ (box_cells g0 (b2.trans (f1.mono b2.size))) (fun hHeld1 => ?_)
    clear hK K
    try simp only [Act.put, List.setIfInBounds_toArray, List.set_cons_zero, List.set_cons_succ]
    refine take_runs (i := 3) (v := ?_) (by simp only [List.getElem?_toArray, List.getElem?_cons_succ, List.getElem?_cons_zero]; rfl) (by kernel_rfl) (by kernel_rfl) (by kernel_rfl) rfl (by exact fun _ _ _ h => h) (by rfl) ?_ (by assumption) ?_
    rotate_left
    · intro w hSw; (try dsimp only at hSw); go_simp; try (with_reducible rfl)
    try simp only [Act.put, List.setIfInBounds_toArray, List.set_cons_zero, List.set_cons_succ]
    refine wpAnyH_ready (rs := [6]) (by kernel_rfl) (by simp) ?_
    refine AllReadyH.cons (o := _) (by simp only [List.getElem?_toArray, List.getElem?_cons_succ, List.getElem?_cons_zero]; rfl) (fun K hK => ?_) AllReadyH.nil
    go_simp
    refine (HB.out _ (ints_below I2.out f1) (HT.out.on (b3.trans (f1.mono b3.size)))).mono ?_
    rintro e x2 ⟨rfl, c2⟩
    have hl := HL9.out
    have f2 := f1.trans (c2.mono f1.size)
    refine hK.out _ _ (box_cells g0 (b2.trans (f2.mono b2.size))) (fun hHeld2 => ?_)
    clear hK K
    try simp only [Act.put, List.setIfInBounds_toArray, List.set_cons_zero, List.set_cons_succ]
    have d1 := strB_add (Lib.itoa id ++ [58]) t (by have := hlx.out; have := RL.out; simp; omega)
    refine take_runs (i := 7) (v := ?_) (by simp only [List.getElem?_toArray, List.getElem?_cons_succ, List.getElem?_cons_zero]; rfl) (by kernel_rfl) (by kernel_rfl) (by kernel_rfl) rfl (by exact fun _ _ _ h => h) (by rfl) ?_ (by assumption) ?_
    rotate_left
    · intro w hSw; (try dsimp only at hSw); go_simp; try (with_reducible rfl)
    try simp only [Act.put, List.setIfInBounds_toArray, List.set_cons_zero, List.set_cons_succ]
    refine take_runs (i := 8) (v := ?_) (by simp only [List.getElem?_toArray, List.getElem?_cons_succ, List.getElem?_cons_zero]; rfl) (by kernel_rfl) (by kernel_rfl) (by kernel_rfl) rfl (by exact fun _ _ _ h => h) (by rfl) ?_ (by assumption) ?_
    rotate_left
    · intro w hSw; (try dsimp only at hSw); go_simp; try (with_reducible rfl)
    try simp only [Act.put, List.setIfInBounds_toArray, List.set_cons_zero, List.set_cons_succ]
    refine wpAnyH_done (by kernel_rfl) ?_ _
    have b9 := b3.trans (f2.mono b3.size)
    go_wp2
    go_ret
    exact ⟨ret_s (by rw [HF.out]; simp), b9⟩
end Go.Proofs.YtjmiihgaaagojaaDoor
