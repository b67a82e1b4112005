/-
  The walk of the specification's FormatRow: it returns the text 'fmtRow'.
-/
import Derived.Test.YtjmiihgaaagojaaDoorRowSpec
import Derived.Test.YtjmiihgaaagojaaDoorRowLaw1
import Derived.Test.YtjmiihgaaagojaaDoorFmtSet
import Derived.Test.YtjmiihgaaagojaaDoorTake
namespace Go.Proofs.YtjmiihgaaagojaaDoor
open Go.RowKit
set_option linter.unusedVariables false
set_option linter.unusedSimpArgs false
/-- The text of the first k numbers. -/
def listTo (xs : List Int) : Nat → List UInt8
  | 0 => []
  | k + 1 => (if k = 0 then [] else listTo xs k ++ [44]) ++ Lib.itoa (xs.getD k 0)
def fmtRow (r : RowD) : List UInt8 := if rowB r then Lib.itoa r.1 ++ [58] ++ listTo r.2 r.2.length else []
theorem row_parts {id : Int} {xs : List Int} (h : rowB (id, xs) = true) : (0 ≤ id ∧ id ≤ 999) ∧ xs.length = 3 ∧ ∀ j, j < xs.length → 0 ≤ xs.getD j 0 ∧ xs.getD j 0 ≤ 99 := by
  unfold rowB at h
  simp only [Bool.and_eq_true, decide_eq_true_eq, List.all_eq_true] at h
  obtain ⟨h1, h2, h3⟩ := h
  refine ⟨h1, h3, fun j hj => ?_⟩
  have e : xs.getD j 0 = xs[j] := by simp [List.getD, hj]
  rw [e]
  exact h2 _ (List.getElem_mem hj)
theorem fmtAny (n : Int) (w : World) (h0 : 0 ≤ n) (h1 : n ≤ 999) : Calls Tryd.prog 16 #[.int .i64 n] w fun e w' => e = .returned (.string (strB (Lib.itoa n))) ∧ Below w.heap.size w w' := specFmt n w (by omega) (by omega)
set_option maxHeartbeats 8000000 in
set_option maxRecDepth 100000 in
theorem l3List_any (v : Value) (xs : List Int) (w : World) (h : Ints w v xs) (hn : xs.length ≤ 1000) (hr : ∀ j, j < xs.length → 0 ≤ xs.getD j 0 ∧ xs.getD j 0 ≤ 999) :
    Calls Tryd.prog 17 #[v] w fun e w' => e = .returned (.string (strB (listTo xs xs.length))) ∧ Below w.heap.size w w' ∧ (listTo xs xs.length).length ≤ 45 * xs.length := by
  have H := Lib.hid h
  have HR := Lib.hid hr
  obtain ⟨a, cap, rfl⟩ := ints_len h
  clear h hr
  go_enter Tryd.func17, Tryd.ntmps17
  go_wp2
  go_loopw [3, 4] (fun s i wr => ∃ k : Nat, k ≤ xs.length ∧ i = .int .i64 k ∧ s = .string (strB (listTo xs k)) ∧ (listTo xs k).length ≤ 45 * k ∧ Below w.heap.size w wr) (fun _ i _ => xs.length - (intOf i).toNat)
  case atStart => exact ⟨0, Nat.zero_le _, rfl, rfl, by simp [listTo], Below.refl _ _⟩
  case round =>
    obtain ⟨k, hk, rfl, rfl, hll, hbel⟩ := hrel
    by_cases hlt : k < xs.length
    · obtain ⟨b, off, cap', hv, hbl, hc⟩ := ints_cell H.out (by omega)
      simp only [Value.slice.injEq] at hv
      obtain ⟨rfl, _, rfl⟩ := hv
      have hcell := (hbel.cell (p := ⟨b, off + k, none⟩) hbl).trans (hc k hlt)
      have i1 : (0 : Int) ≤ (k : Int) := by omega
      have i2 : (k : Int) < (xs.length : Int) := by omega
      have hx := HR.out k hlt
      have hlx := Lib.hid (Lib.itoa_length_le (xs.getD k 0) (by omega) (by omega))
      have HF := Lib.hid (fun w => fmtAny (xs.getD k 0) w hx.1 hx.2)
      have HS : Hid (listTo xs (k + 1) = (if k = 0 then [] else listTo xs k ++ [44]) ++ Lib.itoa (xs.getD k 0)) := Lib.hid rfl
      clear hc hx
      generalize listTo xs k = t at *
      generalize xs.getD k 0 = x at *
      by_cases hz : k = 0
      · have hg : decide ((0 : Int) < (k : Int)) = false := decide_eq_false (by omega)
        have hgn : decide (0 < k) = false := decide_eq_false (by omega)
        have ht : t = [] := List.eq_nil_of_length_eq_zero (by omega)
        have HS2 : Hid (listTo xs (k + 1) = t ++ Lib.itoa x) := Lib.hid (by rw [HS.out, if_pos hz, ht])
        have d1 := strB_add t (Lib.itoa x) (by have := hlx.out; omega)
        have HLEN : Hid ((t ++ Lib.itoa x).length ≤ 45 * (k + 1)) := Lib.hid (by have := hlx.out; simp; omega)
        clear hz ht HS
        go_wp2_with fail
        refine (HF.out _).mono ?_
        rintro e w5 ⟨rfl, hb5⟩
        have hb6 := hbel.trans (hb5.mono hbel.size)
        go_wp2
        go_roundw
        case rel => exact ⟨k + 1, by omega, by go_num, by rw [HS2.out], by rw [HS2.out]; exact HLEN.out, hb6⟩
        case measure => simp [intOf]; omega
      · have hg : decide ((0 : Int) < (k : Int)) = true := decide_eq_true (by omega)
        have hgn : decide (0 < k) = true := decide_eq_true (by omega)
        have HS2 : Hid (listTo xs (k + 1) = (t ++ [44]) ++ Lib.itoa x) := Lib.hid (by rw [HS.out, if_neg hz])
        have d0 := strB_add t [44] (by simp; omega)
        have d1 := strB_add (t ++ [44]) (Lib.itoa x) (by have := hlx.out; simp; omega)
        have HLEN : Hid (((t ++ [44]) ++ Lib.itoa x).length ≤ 45 * (k + 1)) := Lib.hid (by have := hlx.out; simp; omega)
        have e44 : (⟨#[44]⟩ : ByteArray) = strB [44] := rfl
        clear hz HS
        go_wp2_with fail
        refine (HF.out _).mono ?_
        rintro e w5 ⟨rfl, hb5⟩
        have hb6 := hbel.trans (hb5.mono hbel.size)
        go_wp2
        go_roundw
        case rel => exact ⟨k + 1, by omega, by go_num, by rw [HS2.out, List.append_assoc]; rfl, by rw [HS2.out]; exact HLEN.out, hb6⟩
        case measure => simp [intOf]; omega
    · obtain rfl : k = xs.length := by omega
      go_wp2
      go_ret
      exact ⟨rfl, hbel, hll⟩
set_option maxHeartbeats 4000000 in
set_option maxRecDepth 100000 in
theorem specFormatRow (id : Int) (vv : Value) (xs : List Int) (w : World) (h : Ints w vv xs) (hn : xs.length ≤ 1048576) :
    Calls Tryd.prog 6 #[.agg #[.int .i64 id, vv]] w fun e w' => e = .returned (.string (strB (fmtRow (id, xs)))) ∧ Below w.heap.size w w' := by
  have H := Lib.hid h
  obtain ⟨va, vcap, rfl⟩ := ints_len h
  have hb0 : Below w.heap.size w (w.alloc (.cells #[.int .i64 id, .slice va xs.length vcap] 27)) := (Below.refl _ w).alloc (Nat.le_refl _) _
  have g0 : (w.alloc (.cells #[.int .i64 id, .slice va xs.length vcap] 27)).heap[w.heap.size]? = some (.cells #[.int .i64 id, .slice va xs.length vcap] 27 (0, 0)) := heap_alloc_new w _
  have HI := Lib.hid (ints_below h hb0)
  have HS := Lib.hid (fun w h => specIsRow id (.slice va xs.length vcap) xs w h hn)
  clear h
  cases hrb : rowB (id, xs) with
  | false =>
    have HF : Hid (fmtRow (id, xs) = []) := Lib.hid (by unfold fmtRow; rw [hrb]; rfl)
    rw [hrb] at HS
    clear hrb
    go_enter Tryd.func6, Tryd.ntmps6
    go_wp2_with fail
    refine (HS.out _ HI.out).mono ?_
    rintro e w2 ⟨rfl, b2⟩
    have b3 := hb0.trans (b2.mono hb0.size)
    go_wp2
    go_ret
    exact ⟨ret_s HF.out.symm, b3⟩
  | true =>
    obtain ⟨⟨r0, r1⟩, rl, rr⟩ := row_parts hrb
    have HF : Hid (fmtRow (id, xs) = Lib.itoa id ++ [58] ++ listTo xs xs.length) := Lib.hid (by unfold fmtRow; rw [hrb]; rfl)
    have HA := Lib.hid (fun w => fmtAny id w r0 r1)
    have HB := Lib.hid (fun w h => l3List_any (.slice va xs.length vcap) xs w h (by omega) (fun j hj => ⟨(rr j hj).1, by have := (rr j hj).2; omega⟩))
    have hlx := Lib.hid (Lib.itoa_length_le id (by omega) (by omega))
    rw [hrb] at HS
    have RL := Lib.hid rl
    clear hrb rr rl
    generalize listTo xs xs.length = t at *
    have e58 : (⟨#[58]⟩ : ByteArray) = strB [58] := rfl
    have d0 := strB_add (Lib.itoa id) [58] (by have := hlx.out; simp; omega)
    go_enter Tryd.func6, Tryd.ntmps6
    go_wp2_with fail
    refine (HS.out _ HI.out).mono ?_
    rintro e w2 ⟨rfl, b2⟩
    have b3 := hb0.trans (b2.mono hb0.size)
    have c0 := box_cells g0 b2
    have I2 := Lib.hid (ints_below HI.out b2)
    go_wp2
    refine wp_region_held_drew (S := fun w' => w'.cell? ⟨w.heap.size, 0, none⟩ = some (.int .i64 id) ∧ w'.cell? ⟨w.heap.size, 1, none⟩ = some (.slice va xs.length vcap)) (by kernel_rfl) ⟨c0.1, c0.2⟩ (fun hHeld => ?_)
    have e0 := below_drew (Below.refl w2.heap.size w2)
    refine take_runs (i := 0) (v := ?_) (by simp only [List.getElem?_toArray, List.getElem?_cons_succ, List.getElem?_cons_zero]; rfl) (by kernel_rfl) (by kernel_rfl) (by kernel_rfl) rfl (by exact fun _ _ _ h => h) (by rfl) ?_ (by assumption) ?_
    rotate_left
    · intro w hSw; (try dsimp only at hSw); go_simp; try (with_reducible rfl)
    try simp only [Act.put, List.setIfInBounds_toArray, List.set_cons_zero, List.set_cons_succ]
    refine take_runs (i := 1) (v := ?_) (by simp only [List.getElem?_toArray, List.getElem?_cons_succ, List.getElem?_cons_zero]; rfl) (by kernel_rfl) (by kernel_rfl) (by kernel_rfl) rfl (by exact fun _ _ _ h => h) (by rfl) ?_ (by assumption) ?_
    rotate_left
    · intro w hSw; (try dsimp only at hSw); go_simp; try (with_reducible rfl)
    try simp only [Act.put, List.setIfInBounds_toArray, List.set_cons_zero, List.set_cons_succ]
    refine take_runs (i := 4) (v := ?_) (by simp only [List.getElem?_toArray, List.getElem?_cons_succ, List.getElem?_cons_zero]; rfl) (by kernel_rfl) (by kernel_rfl) (by kernel_rfl) rfl (by exact fun _ _ _ h => h) (by rfl) ?_ (by assumption) ?_
    rotate_left
    · intro w hSw; (try dsimp only at hSw); go_simp; try (with_reducible rfl)
    try simp only [Act.put, List.setIfInBounds_toArray, List.set_cons_zero, List.set_cons_succ]
    refine take_runs (i := 5) (v := ?_) (by simp only [List.getElem?_toArray, List.getElem?_cons_succ, List.getElem?_cons_zero]; rfl) (by kernel_rfl) (by kernel_rfl) (by kernel_rfl) rfl (by exact fun _ _ _ h => h) (by rfl) ?_ (by assumption) ?_
    rotate_left
    · intro w hSw; (try dsimp only at hSw); go_simp; try (with_reducible rfl)
    try simp only [Act.put, List.setIfInBounds_toArray, List.set_cons_zero, List.set_cons_succ]
    refine wpAnyH_ready (rs := [2]) (by kernel_rfl) (by simp) ?_
    refine AllReadyH.cons (o := _) (by simp only [List.getElem?_toArray, List.getElem?_cons_succ, List.getElem?_cons_zero]; rfl) (fun K hK => ?_) AllReadyH.nil
    go_simp
    refine (HA.out _).mono ?_
    rintro e x1 ⟨rfl, c1⟩
    have f1 := e0.trans (c1.mono e0.size)
    refine hK.out _ _ (box_cells g0 (b2.trans (f1.mono b2.size))) (fun hHeld1 => ?_)
    clear hK K
    try simp only [Act.put, List.setIfInBounds_toArray, List.set_cons_zero, List.set_cons_succ]
    refine take_runs (i := 3) (v := ?_) (by simp only [List.getElem?_toArray, List.getElem?_cons_succ, List.getElem?_cons_zero]; rfl) (by kernel_rfl) (by kernel_rfl) (by kernel_rfl) rfl (by exact fun _ _ _ h => h) (by rfl) ?_ (by assumption) ?_
    rotate_left
    · intro w hSw; (try dsimp only at hSw); go_simp; try (with_reducible rfl)
    try simp only [Act.put, List.setIfInBounds_toArray, List.set_cons_zero, List.set_cons_succ]
    refine wpAnyH_ready (rs := [6]) (by kernel_rfl) (by simp) ?_
    refine AllReadyH.cons (o := _) (by simp only [List.getElem?_toArray, List.getElem?_cons_succ, List.getElem?_cons_zero]; rfl) (fun K hK => ?_) AllReadyH.nil
    go_simp
    refine (HB.out _ (ints_below I2.out f1)).mono ?_
    rintro e x2 ⟨rfl, c2, hl⟩
    have f2 := f1.trans (c2.mono f1.size)
    refine hK.out _ _ (box_cells g0 (b2.trans (f2.mono b2.size))) (fun hHeld2 => ?_)
    clear hK K
    try simp only [Act.put, List.setIfInBounds_toArray, List.set_cons_zero, List.set_cons_succ]
    have d1 := strB_add (Lib.itoa id ++ [58]) t (by have := hlx.out; have := RL.out; simp; omega)
    refine take_runs (i := 7) (v := ?_) (by simp only [List.getElem?_toArray, List.getElem?_cons_succ, List.getElem?_cons_zero]; rfl) (by kernel_rfl) (by kernel_rfl) (by kernel_rfl) rfl (by exact fun _ _ _ h => h) (by rfl) ?_ (by assumption) ?_
    rotate_left
    · intro w hSw; (try dsimp only at hSw); go_simp; try (with_reducible rfl)
    try simp only [Act.put, List.setIfInBounds_toArray, List.set_cons_zero, List.set_cons_succ]
    refine take_runs (i := 8) (v := ?_) (by simp only [List.getElem?_toArray, List.getElem?_cons_succ, List.getElem?_cons_zero]; rfl) (by kernel_rfl) (by kernel_rfl) (by kernel_rfl) rfl (by exact fun _ _ _ h => h) (by rfl) ?_ (by assumption) ?_
    rotate_left
    · intro w hSw; (try dsimp only at hSw); go_simp; try (with_reducible rfl)
    try simp only [Act.put, List.setIfInBounds_toArray, List.set_cons_zero, List.set_cons_succ]
    refine wpAnyH_done (by kernel_rfl) ?_ _
    have b9 := b3.trans (f2.mono b3.size)
    go_wp2
    go_ret
    exact ⟨ret_s (by rw [HF.out]; simp), b9⟩
end Go.Proofs.YtjmiihgaaagojaaDoor
