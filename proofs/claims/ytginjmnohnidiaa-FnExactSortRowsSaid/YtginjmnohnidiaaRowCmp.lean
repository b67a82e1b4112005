/-
  The program's comparison of two rows, for sorting.
-/
import Derived.Test.YtginjmnohnidiaaRowOrd
import Derived.Test.YtginjmnohnidiaaRowEqP
import Derived.Test.YtginjmnohnidiaaShelf
import Derived.Sort.Grow
namespace Go.Proofs.Ytginjmnohnidiaa
open Go.RowKit
set_option linter.unusedVariables false
set_option linter.unusedSimpArgs false
set_option maxHeartbeats 4000000 in
set_option maxRecDepth 100000 in
theorem cmpOr_any (b : Nat) (x y : Int) (w : World) (h0 : w.cell? ⟨b, 0, none⟩ = some (.int .i64 x)) (h1 : w.cell? ⟨b, 1, none⟩ = some (.int .i64 y)) :
    Calls Try.prog 96 #[.slice (some ⟨b, 0, none⟩) 2 2] w fun e w' => e = .returned (.int .i64 (if x = 0 then y else x)) ∧ w' = w := by
  by_cases hx : x = 0
  · subst hx
    rw [if_pos rfl]
    by_cases hy : y = 0
    · subst hy
      go_enter Try.func96, Try.ntmps96
      go_wp2
      refine wp_loop_rounds 3 ?_
      rw [rounds_succ]
      go_wp2
      rw [rounds_succ]
      go_wp2
      rw [rounds_succ]
      go_wp2
      go_ret
      exact ⟨rfl, rfl⟩
    · have hd : (y != 0) = true := by simpa using hy
      go_enter Try.func96, Try.ntmps96
      go_wp2
      refine wp_loop_rounds 3 ?_
      rw [rounds_succ]
      go_wp2
      rw [rounds_succ]
      go_wp2
      go_ret
      exact ⟨rfl, rfl⟩
  · rw [if_neg hx]
    have hd : (x != 0) = true := by simpa using hx
    go_enter Try.func96, Try.ntmps96
    go_wp2
    refine wp_loop_rounds 3 ?_
    rw [rounds_succ]
    go_wp2
    go_ret
    exact ⟨rfl, rfl⟩
theorem ret_ii {a b : Int} (h : a = b) : Ending.returned (.int .i64 a) = .returned (.int .i64 b) := by rw [h]
set_option maxHeartbeats 8000000 in
set_option maxRecDepth 100000 in
theorem compareInts_any (v u : Value) (xs ys : List Int) (w : World) (h : Ints w v xs) (g : Ints w u ys) (hn : xs.length ≤ 1048576) (hm : ys.length ≤ 1048576) :
    Calls Try.prog 98 #[v, u] w fun e w' => e = .returned (.int .i64 (cmpL xs ys)) ∧ w' = w := by
  have H := Lib.hid h
  have G := Lib.hid g
  obtain ⟨a, cap, rfl⟩ := ints_len h
  obtain ⟨a2, cap2, rfl⟩ := ints_len g
  clear h g
  have HC := Lib.hid (fun x y w => Try.cmp_Compare_int x y w)
  go_enter Try.func98, Try.ntmps98
  go_wp2
  go_loopw [11] (fun i wr => ∃ k : Nat, k ≤ xs.length ∧ k ≤ ys.length ∧ i = .int .i64 k ∧ Hid (cmpL (xs.drop k) (ys.drop k) = cmpL xs ys) ∧ wr = w) (fun i _ => xs.length - (intOf i).toNat)
  case atStart => exact ⟨0, Nat.zero_le _, Nat.zero_le _, rfl, Lib.hid (by simp), rfl⟩
  case round =>
    obtain ⟨k, hk, hk2, rfl, hall, rfl⟩ := hrel
    by_cases hlt : k < xs.length
    · by_cases hlt2 : k < ys.length
      · obtain ⟨b, off, cap', hv, hbl, hc⟩ := ints_cell H.out (by omega)
        obtain ⟨b2, off2, cap2', hv2, hbl2, hc2⟩ := ints_cell G.out (by omega)
        simp only [Value.slice.injEq] at hv hv2
        obtain ⟨rfl, _, rfl⟩ := hv
        obtain ⟨rfl, _, rfl⟩ := hv2
        have hcell := hc k hlt
        have hcell2 := hc2 k hlt2
        have i1 : (0 : Int) ≤ (k : Int) := by omega
        have i2 : (k : Int) < (xs.length : Int) := by omega
        have i3 : (k : Int) < (ys.length : Int) := by omega
        have i4 : ¬ (ys.length : Int) ≤ (k : Int) := by omega
        clear hc hc2
        by_cases he : Lib.compareInt (xs.getD k 0) (ys.getD k 0) = 0
        · have HA : Hid (cmpL (xs.drop (k + 1)) (ys.drop (k + 1)) = cmpL xs ys) := Lib.hid ((cmpL_step hlt hlt2 he).symm.trans hall.out)
          have HCC := Lib.hid (HC.out (xs.getD k 0) (ys.getD k 0))
          rw [he] at HCC
          clear he hall HC
          generalize xs.getD k 0 = y at *
          generalize ys.getD k 0 = z at *
          go_wp2_with fail
          refine (HCC.out _).mono ?_
          rintro e w8 ⟨rfl, rfl⟩
          go_wp2
          go_roundw
          case rel => exact ⟨k + 1, by omega, by omega, by go_num, HA, by simp⟩
          case measure => simp [intOf]; omega
        · have HF := Lib.hid ((cmpL_ne hlt hlt2 he).symm.trans hall.out)
          have HCC := Lib.hid (HC.out (xs.getD k 0) (ys.getD k 0))
          generalize Lib.compareInt (xs.getD k 0) (ys.getD k 0) = r at *
          have hd : (r != 0) = true := by simpa using he
          clear he hall HC
          generalize xs.getD k 0 = y at *
          generalize ys.getD k 0 = z at *
          go_wp2_with fail
          refine (HCC.out _).mono ?_
          rintro e w8 ⟨rfl, rfl⟩
          go_wp2
          go_ret
          exact ⟨ret_ii HF.out, rfl⟩
      · obtain rfl : k = ys.length := by omega
        obtain ⟨b, off, cap', hv, hbl, hc⟩ := ints_cell H.out (by omega)
        simp only [Value.slice.injEq] at hv
        obtain ⟨rfl, _, rfl⟩ := hv
        have hcell := hc ys.length hlt
        have i2 : (ys.length : Int) < (xs.length : Int) := by omega
        have HF := Lib.hid ((cmpL_long hlt).symm.trans hall.out)
        clear hc hall
        generalize xs.getD ys.length 0 = y at *
        go_wp2
        go_ret
        exact ⟨ret_ii HF.out, rfl⟩
    · obtain rfl : k = xs.length := by omega
      have HF := Lib.hid ((cmpL_end hk2).symm.trans hall.out)
      clear hall
      by_cases hl : xs.length < ys.length
      · rw [if_pos hl] at HF
        have i2 : (xs.length : Int) < (ys.length : Int) := by omega
        go_wp2
        go_ret
        exact ⟨ret_ii HF.out, rfl⟩
      · rw [if_neg hl] at HF
        have i2 : ¬ (xs.length : Int) < (ys.length : Int) := by omega
        go_wp2
        go_ret
        exact ⟨ret_ii HF.out, rfl⟩
set_option maxHeartbeats 8000000 in
set_option maxRecDepth 100000 in
theorem compareRows_any (id id2 : Int) (v u : Value) (xs ys : List Int) (w : World) (h : Ints w v xs) (g : Ints w u ys) (hn : xs.length ≤ 1048576) (hm : ys.length ≤ 1048576) :
    Calls Try.prog 53 #[.agg #[.int .i64 id, v], .agg #[.int .i64 id2, u]] w fun e w' => e = .returned (.int .i64 (cmpR (id, xs) (id2, ys))) ∧ ∃ q os, w' = Sort.grow (w.drewN q) os := by
  have H1 := Lib.hid (fun w => Try.cmp_Compare_int id id2 w)
  have H2 := Lib.hid (fun w h g => compareInts_any v u xs ys w h g hn hm)
  have HV := Lib.hid h
  have HU := Lib.hid g
  have HP : Hid (cmpR (id, xs) (id2, ys) = if Lib.compareInt id id2 = 0 then cmpL xs ys else Lib.compareInt id id2) := Lib.hid rfl
  obtain ⟨a, cap, rfl⟩ := ints_len h
  obtain ⟨a2, cap2, rfl⟩ := ints_len g
  clear h g hn hm
  generalize Lib.compareInt id id2 = c1 at *
  generalize cmpL xs ys = c2 at *
  generalize cmpR (id, xs) (id2, ys) = c3 at *
  have HO := Lib.hid (fun b w h0 h1 => cmpOr_any b c1 c2 w h0 h1)
  go_enter Try.func53, Try.ntmps53
  go_wp2
  have hh : Below w.heap.size w ((w.alloc (.cells #[.int .i64 id, .slice a xs.length cap] 76)).alloc (.cells #[.int .i64 id2, .slice a2 ys.length cap2] 76)) := ((Below.refl _ w).alloc (Nat.le_refl _) _).alloc (by simp) _
  have g1 : ((w.alloc (.cells #[.int .i64 id, .slice a xs.length cap] 76)).alloc (.cells #[.int .i64 id2, .slice a2 ys.length cap2] 76)).heap[w.heap.size + 1]? = some (.cells #[.int .i64 id2, .slice a2 ys.length cap2] 76 (0, 0)) := by
    have := heap_alloc_new (w.alloc (.cells #[.int .i64 id, .slice a xs.length cap] 76)) (.cells #[.int .i64 id2, .slice a2 ys.length cap2] 76)
    simpa only [World.size_alloc] using this
  have g0 : ((w.alloc (.cells #[.int .i64 id, .slice a xs.length cap] 76)).alloc (.cells #[.int .i64 id2, .slice a2 ys.length cap2] 76)).heap[w.heap.size]? = some (.cells #[.int .i64 id, .slice a xs.length cap] 76 (0, 0)) := by
    rw [Below.heap_alloc _ _ _ (by simp)]
    exact heap_alloc_new w _
  have hz1 : w.heap.size + 1 < ((w.alloc (.cells #[.int .i64 id, .slice a xs.length cap] 76)).alloc (.cells #[.int .i64 id2, .slice a2 ys.length cap2] 76)).heap.size := by simp
  have hg : Hid (((w.alloc (.cells #[.int .i64 id, .slice a xs.length cap] 76)).alloc (.cells #[.int .i64 id2, .slice a2 ys.length cap2] 76)) = Sort.grow w #[(.cells #[.int .i64 id, .slice a xs.length cap] 76), (.cells #[.int .i64 id2, .slice a2 ys.length cap2] 76)]) := Lib.hid (by rw [Sort.alloc_eq_grow, Sort.alloc_eq_grow, Sort.grow_grow]; rfl)
  generalize ((w.alloc (.cells #[.int .i64 id, .slice a xs.length cap] 76)).alloc (.cells #[.int .i64 id2, .slice a2 ys.length cap2] 76)) = W at *
  have z1 := box2 g0 g1 hz1 (Below.refl _ W)
  refine wp_region_held_drew (S := fun w' => w'.cell? ⟨w.heap.size, 0, none⟩ = some (.int .i64 id) ∧ w'.cell? ⟨w.heap.size, 1, none⟩ = some (.slice a xs.length cap) ∧ w'.cell? ⟨w.heap.size + 1, 0, none⟩ = some (.int .i64 id2) ∧ w'.cell? ⟨w.heap.size + 1, 1, none⟩ = some (.slice a2 ys.length cap2)) (by kernel_rfl) ⟨z1.1, z1.2.1, z1.2.2.1, z1.2.2.2⟩ (fun hHeld => ?_)
  refine take_runs (i := 0) (v := ?_) (by simp only [List.getElem?_toArray, List.getElem?_cons_succ, List.getElem?_cons_zero]; rfl) (by kernel_rfl) (by kernel_rfl) (by kernel_rfl) rfl (by exact fun _ _ _ h => h) (by rfl) ?_ (by assumption) ?_
  rotate_left
  · intro w hSw; (try dsimp only at hSw); go_simp; try (with_reducible rfl)
  try simp only [Act.put, List.setIfInBounds_toArray, List.set_cons_zero, List.set_cons_succ]
  refine take_runs (i := 1) (v := ?_) (by simp only [List.getElem?_toArray, List.getElem?_cons_succ, List.getElem?_cons_zero]; rfl) (by kernel_rfl) (by kernel_rfl) (by kernel_rfl) rfl (by exact fun _ _ _ h => h) (by rfl) ?_ (by assumption) ?_
  rotate_left
  · intro w hSw; (try dsimp only at hSw); go_simp; try (with_reducible rfl)
  try simp only [Act.put, List.setIfInBounds_toArray, List.set_cons_zero, List.set_cons_succ]
  refine take_runs (i := 2) (v := ?_) (by simp only [List.getElem?_toArray, List.getElem?_cons_succ, List.getElem?_cons_zero]; rfl) (by kernel_rfl) (by kernel_rfl) (by kernel_rfl) rfl (by exact fun _ _ _ h => h) (by rfl) ?_ (by assumption) ?_
  rotate_left
  · intro w hSw; (try dsimp only at hSw); go_simp; try (with_reducible rfl)
  try simp only [Act.put, List.setIfInBounds_toArray, List.set_cons_zero, List.set_cons_succ]
  refine take_runs (i := 3) (v := ?_) (by simp only [List.getElem?_toArray, List.getElem?_cons_succ, List.getElem?_cons_zero]; rfl) (by kernel_rfl) (by kernel_rfl) (by kernel_rfl) rfl (by exact fun _ _ _ h => h) (by rfl) ?_ (by assumption) ?_
  rotate_left
  · intro w hSw; (try dsimp only at hSw); go_simp; try (with_reducible rfl)
  try simp only [Act.put, List.setIfInBounds_toArray, List.set_cons_zero, List.set_cons_succ]
  refine take_runs (i := 5) (v := ?_) (by simp only [List.getElem?_toArray, List.getElem?_cons_succ, List.getElem?_cons_zero]; rfl) (by kernel_rfl) (by kernel_rfl) (by kernel_rfl) rfl (by exact fun _ _ _ h => h) (by rfl) ?_ (by assumption) ?_
  rotate_left
  · intro w hSw; (try dsimp only at hSw); go_simp; try (with_reducible rfl)
  try simp only [Act.put, List.setIfInBounds_toArray, List.set_cons_zero, List.set_cons_succ]
  refine take_runs (i := 6) (v := ?_) (by simp only [List.getElem?_toArray, List.getElem?_cons_succ, List.getElem?_cons_zero]; rfl) (by kernel_rfl) (by kernel_rfl) (by kernel_rfl) rfl (by exact fun _ _ _ h => h) (by rfl) ?_ (by assumption) ?_
  rotate_left
  · intro w hSw; (try dsimp only at hSw); go_simp; try (with_reducible rfl)
  try simp only [Act.put, List.setIfInBounds_toArray, List.set_cons_zero, List.set_cons_succ]
  refine take_runs (i := 7) (v := ?_) (by simp only [List.getElem?_toArray, List.getElem?_cons_succ, List.getElem?_cons_zero]; rfl) (by kernel_rfl) (by kernel_rfl) (by kernel_rfl) rfl (by exact fun _ _ _ h => h) (by rfl) ?_ (by assumption) ?_
  rotate_left
  · intro w hSw; (try dsimp only at hSw); go_simp; try (with_reducible rfl)
  try simp only [Act.put, List.setIfInBounds_toArray, List.set_cons_zero, List.set_cons_succ]
  refine take_runs (i := 8) (v := ?_) (by simp only [List.getElem?_toArray, List.getElem?_cons_succ, List.getElem?_cons_zero]; rfl) (by kernel_rfl) (by kernel_rfl) (by kernel_rfl) rfl (by exact fun _ _ _ h => h) (by rfl) ?_ (by assumption) ?_
  rotate_left
  · intro w hSw; (try dsimp only at hSw); go_simp; try (with_reducible rfl)
  try simp only [Act.put, List.setIfInBounds_toArray, List.set_cons_zero, List.set_cons_succ]
  refine wpAnyH_ready (rs := [4]) (by kernel_rfl) (by simp) ?_
  refine AllReadyH.cons (o := _) (by simp only [List.getElem?_toArray, List.getElem?_cons_succ, List.getElem?_cons_zero]; rfl) (fun K hK => ?_) AllReadyH.nil
  go_simp
  refine (H1.out _).mono ?_
  rintro e w8 ⟨rfl, rfl⟩
  refine hK.out _ _ ⟨z1.1, z1.2.1, z1.2.2.1, z1.2.2.2⟩ (fun hHeld => ?_)
  clear hK K
  try simp only [Act.put, List.setIfInBounds_toArray, List.set_cons_zero, List.set_cons_succ]
  refine wpAnyH_ready (rs := [9]) (by kernel_rfl) (by simp) ?_
  refine AllReadyH.cons (o := _) (by simp only [List.getElem?_toArray, List.getElem?_cons_succ, List.getElem?_cons_zero]; rfl) (fun K hK => ?_) AllReadyH.nil
  go_simp
  refine (H2.out _ (ints_below HV.out (below_drew hh)) (ints_below HU.out (below_drew hh))).mono ?_
  rintro e w8 ⟨rfl, rfl⟩
  refine hK.out _ _ ⟨z1.1, z1.2.1, z1.2.2.1, z1.2.2.2⟩ (fun hHeld => ?_)
  clear hK K
  try simp only [Act.put, List.setIfInBounds_toArray, List.set_cons_zero, List.set_cons_succ]
  refine wpAnyH_ready (rs := [10]) (by kernel_rfl) (by simp) ?_
  refine AllReadyH.cons (o := _) (by simp only [List.getElem?_toArray, List.getElem?_cons_succ, List.getElem?_cons_zero]; rfl) (fun K hK => ?_) AllReadyH.nil
  go_simp
  have hA : Below W.heap.size W (W.alloc (.cells #[.int .i64 c1, .int .i64 c2] 3)).drew := below_drew ((Below.refl _ W).alloc (Nat.le_refl _) _)
  have q0 : (W.alloc (.cells #[.int .i64 c1, .int .i64 c2] 3)).drew.cell? ⟨W.heap.size, 0, none⟩ = some (.int .i64 c1) := cell_lit W _ _ 0
  have q1 : (W.alloc (.cells #[.int .i64 c1, .int .i64 c2] 3)).drew.cell? ⟨W.heap.size, 1, none⟩ = some (.int .i64 c2) := cell_lit W _ _ 1
  have hg2 : Hid (∃ q os, (W.alloc (.cells #[.int .i64 c1, .int .i64 c2] 3)).drew = Sort.grow (w.drewN q) os) := Lib.hid ⟨1, _, by rw [hg.out, Sort.alloc_eq_grow, Sort.grow_grow, Sort.drew_grow]; rfl⟩
  generalize (W.alloc (.cells #[.int .i64 c1, .int .i64 c2] 3)).drew = W2 at *
  have z2 := box2 g0 g1 hz1 hA
  refine hK.out _ _ ⟨z2.1, z2.2.1, z2.2.2.1, z2.2.2.2⟩ (fun hHeld2 => ?_)
  clear hK K hHeld
  try simp only [Act.put, List.setIfInBounds_toArray, List.set_cons_zero, List.set_cons_succ]
  refine wpAnyH_ready (rs := [11]) (by kernel_rfl) (by simp) ?_
  refine AllReadyH.cons (o := _) (by simp only [List.getElem?_toArray, List.getElem?_cons_succ, List.getElem?_cons_zero]; rfl) (fun K hK => ?_) AllReadyH.nil
  go_simp
  refine (HO.out _ _ q0 q1).mono ?_
  rintro e w8 ⟨rfl, rfl⟩
  refine hK.out _ _ ⟨z2.1, z2.2.1, z2.2.2.1, z2.2.2.2⟩ (fun hHeld => ?_)
  clear hK K
  try simp only [Act.put, List.setIfInBounds_toArray, List.set_cons_zero, List.set_cons_succ]
  refine take_runs (i := 12) (v := ?_) (by simp only [List.getElem?_toArray, List.getElem?_cons_succ, List.getElem?_cons_zero]; rfl) (by kernel_rfl) (by kernel_rfl) (by kernel_rfl) rfl (by exact fun _ _ _ h => h) (by rfl) ?_ (by assumption) ?_
  rotate_left
  · intro w hSw; (try dsimp only at hSw); go_simp; try (with_reducible rfl)
  try simp only [Act.put, List.setIfInBounds_toArray, List.set_cons_zero, List.set_cons_succ]
  refine wpAnyH_done (by kernel_rfl) ?_ _
  clear q0 q1
  rw [← HP.out]
  go_wp2
  go_ret
  exact ⟨rfl, hg2.out⟩
end Go.Proofs.Ytginjmnohnidiaa
