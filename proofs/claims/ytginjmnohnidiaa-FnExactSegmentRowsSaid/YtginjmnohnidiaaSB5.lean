/-
  Texts of the proof, merged: RowCmp, SpanVal, SpanSl, FindSpec, CopyP, RowCopyP, RowSortP, VerP7, LawRowsAt, OpenInts, OpnT, OVersion, OVersionS, OVersionSS, OStore, LawSegmentRows.
-/
import Derived.Test.YtginjmnohnidiaaSB4
import Derived.Test.YtginjmnohnidiaaShelf
import Derived.Test.YtginjmnohnidiaaSortShelf
import Derived.Sort.Grow
import Derived.ProofKit
import Derived.OpenShut
import Derived.Carry
import Derived.Lib.SmallJoins
import Derived.Deep.Slices
namespace Go.Proofs.Ytginjmnohnidiaa
open Go.RowKit
set_option linter.unusedVariables false
set_option linter.unusedSimpArgs false
set_option maxHeartbeats 4000000 in
set_option maxRecDepth 100000 in
theorem cmpOr_any (b : Nat) (x y : Int) (w : World) (h0 : w.cell? ⟨b, 0, none⟩ = some (.int .i64 x)) (h1 : w.cell? ⟨b, 1, none⟩ = some (.int .i64 y)) :
    Calls Try.prog 96 #[.slice (some ⟨b, 0, none⟩) 2 2] w fun e w' => e = .returned (.int .i64 (if x = 0 then y else x)) ∧ w' = w := by
  by_cases hx : x = 0
  · subst hx
    rw [if_pos rfl]
    by_cases hy : y = 0
    · subst hy
      go_enter Try.func96, Try.ntmps96
      go_wp2
      refine wp_loop_rounds 3 ?_
      rw [rounds_succ]
      go_wp2
      rw [rounds_succ]
      go_wp2
      rw [rounds_succ]
      go_wp2
      go_ret
      exact ⟨rfl, rfl⟩
    · have hd : (y != 0) = true := by simpa using hy
      go_enter Try.func96, Try.ntmps96
      go_wp2
      refine wp_loop_rounds 3 ?_
      rw [rounds_succ]
      go_wp2
      rw [rounds_succ]
      go_wp2
      go_ret
      exact ⟨rfl, rfl⟩
  · rw [if_neg hx]
    have hd : (x != 0) = true := by simpa using hx
    go_enter Try.func96, Try.ntmps96
    go_wp2
    refine wp_loop_rounds 3 ?_
    rw [rounds_succ]
    go_wp2
    go_ret
    exact ⟨rfl, rfl⟩
theorem ret_ii {a b : Int} (h : a = b) : Ending.returned (.int .i64 a) = .returned (.int .i64 b) := by rw [h]
set_option maxHeartbeats 8000000 in
set_option maxRecDepth 100000 in
theorem compareInts_any (v u : Value) (xs ys : List Int) (w : World) (h : Ints w v xs) (g : Ints w u ys) (hn : xs.length ≤ 1048576) (hm : ys.length ≤ 1048576) :
    Calls Try.prog 98 #[v, u] w fun e w' => e = .returned (.int .i64 (cmpL xs ys)) ∧ w' = w := by
  have H := Lib.hid h
  have G := Lib.hid g
  obtain ⟨a, cap, rfl⟩ := ints_len h
  obtain ⟨a2, cap2, rfl⟩ := ints_len g
  clear h g
  have HC := Lib.hid (fun x y w => Try.cmp_Compare_int x y w)
  go_enter Try.func98, Try.ntmps98
  go_wp2
  go_loopw [11] (fun i wr => ∃ k : Nat, k ≤ xs.length ∧ k ≤ ys.length ∧ i = .int .i64 k ∧ Hid (cmpL (xs.drop k) (ys.drop k) = cmpL xs ys) ∧ wr = w) (fun i _ => xs.length - (intOf i).toNat)
  case atStart => exact ⟨0, Nat.zero_le _, Nat.zero_le _, rfl, Lib.hid (by simp), rfl⟩
  case round =>
    obtain ⟨k, hk, hk2, rfl, hall, rfl⟩ := hrel
    by_cases hlt : k < xs.length
    · by_cases hlt2 : k < ys.length
      · obtain ⟨b, off, cap', hv, hbl, hc⟩ := ints_cell H.out (by omega)
        obtain ⟨b2, off2, cap2', hv2, hbl2, hc2⟩ := ints_cell G.out (by omega)
        simp only [Value.slice.injEq] at hv hv2
        obtain ⟨rfl, _, rfl⟩ := hv
        obtain ⟨rfl, _, rfl⟩ := hv2
        have hcell := hc k hlt
        have hcell2 := hc2 k hlt2
        have i1 : (0 : Int) ≤ (k : Int) := by omega
        have i2 : (k : Int) < (xs.length : Int) := by omega
        have i3 : (k : Int) < (ys.length : Int) := by omega
        have i4 : ¬ (ys.length : Int) ≤ (k : Int) := by omega
        clear hc hc2
        by_cases he : Lib.compareInt (xs.getD k 0) (ys.getD k 0) = 0
        · have HA : Hid (cmpL (xs.drop (k + 1)) (ys.drop (k + 1)) = cmpL xs ys) := Lib.hid ((cmpL_step hlt hlt2 he).symm.trans hall.out)
          have HCC := Lib.hid (HC.out (xs.getD k 0) (ys.getD k 0))
          rw [he] at HCC
          clear he hall HC
          generalize xs.getD k 0 = y at *
          generalize ys.getD k 0 = z at *
          go_wp2_with fail
          refine (HCC.out _).mono ?_
          rintro e w8 ⟨rfl, rfl⟩
          go_wp2
          go_roundw
          case rel => exact ⟨k + 1, by omega, by omega, by go_num, HA, by simp⟩
          case measure => simp [intOf]; omega
        · have HF := Lib.hid ((cmpL_ne hlt hlt2 he).symm.trans hall.out)
          have HCC := Lib.hid (HC.out (xs.getD k 0) (ys.getD k 0))
          generalize Lib.compareInt (xs.getD k 0) (ys.getD k 0) = r at *
          have hd : (r != 0) = true := by simpa using he
          clear he hall HC
          generalize xs.getD k 0 = y at *
          generalize ys.getD k 0 = z at *
          go_wp2_with fail
          refine (HCC.out _).mono ?_
          rintro e w8 ⟨rfl, rfl⟩
          go_wp2
          go_ret
          exact ⟨ret_ii HF.out, rfl⟩
      · obtain rfl : k = ys.length := by omega
        obtain ⟨b, off, cap', hv, hbl, hc⟩ := ints_cell H.out (by omega)
        simp only [Value.slice.injEq] at hv
        obtain ⟨rfl, _, rfl⟩ := hv
        have hcell := hc ys.length hlt
        have i2 : (ys.length : Int) < (xs.length : Int) := by omega
        have HF := Lib.hid ((cmpL_long hlt).symm.trans hall.out)
        clear hc hall
        generalize xs.getD ys.length 0 = y at *
        go_wp2
        go_ret
        exact ⟨ret_ii HF.out, rfl⟩
    · obtain rfl : k = xs.length := by omega
      have HF := Lib.hid ((cmpL_end hk2).symm.trans hall.out)
      clear hall
      by_cases hl : xs.length < ys.length
      · rw [if_pos hl] at HF
        have i2 : (xs.length : Int) < (ys.length : Int) := by omega
        go_wp2
        go_ret
        exact ⟨ret_ii HF.out, rfl⟩
      · rw [if_neg hl] at HF
        have i2 : ¬ (xs.length : Int) < (ys.length : Int) := by omega
        go_wp2
        go_ret
        exact ⟨ret_ii HF.out, rfl⟩
set_option maxHeartbeats 8000000 in
set_option maxRecDepth 100000 in
theorem compareRows_any (id id2 : Int) (v u : Value) (xs ys : List Int) (w : World) (h : Ints w v xs) (g : Ints w u ys) (hn : xs.length ≤ 1048576) (hm : ys.length ≤ 1048576) :
    Calls Try.prog 53 #[.agg #[.int .i64 id, v], .agg #[.int .i64 id2, u]] w fun e w' => e = .returned (.int .i64 (cmpR (id, xs) (id2, ys))) ∧ ∃ q os, w' = Sort.grow (w.drewN q) os := by
  have H1 := Lib.hid (fun w => Try.cmp_Compare_int id id2 w)
  have H2 := Lib.hid (fun w h g => compareInts_any v u xs ys w h g hn hm)
  have HV := Lib.hid h
  have HU := Lib.hid g
  have HP : Hid (cmpR (id, xs) (id2, ys) = if Lib.compareInt id id2 = 0 then cmpL xs ys else Lib.compareInt id id2) := Lib.hid rfl
  obtain ⟨a, cap, rfl⟩ := ints_len h
  obtain ⟨a2, cap2, rfl⟩ := ints_len g
  clear h g hn hm
  generalize Lib.compareInt id id2 = c1 at *
  generalize cmpL xs ys = c2 at *
  generalize cmpR (id, xs) (id2, ys) = c3 at *
  have HO := Lib.hid (fun b w h0 h1 => cmpOr_any b c1 c2 w h0 h1)
  go_enter Try.func53, Try.ntmps53
  go_wp2
  have hh : Below w.heap.size w ((w.alloc (.cells #[.int .i64 id, .slice a xs.length cap] 76)).alloc (.cells #[.int .i64 id2, .slice a2 ys.length cap2] 76)) := ((Below.refl _ w).alloc (Nat.le_refl _) _).alloc (by simp) _
  have g1 : ((w.alloc (.cells #[.int .i64 id, .slice a xs.length cap] 76)).alloc (.cells #[.int .i64 id2, .slice a2 ys.length cap2] 76)).heap[w.heap.size + 1]? = some (.cells #[.int .i64 id2, .slice a2 ys.length cap2] 76 (0, 0)) := by
    have := heap_alloc_new (w.alloc (.cells #[.int .i64 id, .slice a xs.length cap] 76)) (.cells #[.int .i64 id2, .slice a2 ys.length cap2] 76)
    simpa only [World.size_alloc] using this
  have g0 : ((w.alloc (.cells #[.int .i64 id, .slice a xs.length cap] 76)).alloc (.cells #[.int .i64 id2, .slice a2 ys.length cap2] 76)).heap[w.heap.size]? = some (.cells #[.int .i64 id, .slice a xs.length cap] 76 (0, 0)) := by
    rw [Below.heap_alloc _ _ _ (by simp)]
    exact heap_alloc_new w _
  have hz1 : w.heap.size + 1 < ((w.alloc (.cells #[.int .i64 id, .slice a xs.length cap] 76)).alloc (.cells #[.int .i64 id2, .slice a2 ys.length cap2] 76)).heap.size := by simp
  have hg : Hid (((w.alloc (.cells #[.int .i64 id, .slice a xs.length cap] 76)).alloc (.cells #[.int .i64 id2, .slice a2 ys.length cap2] 76)) = Sort.grow w #[(.cells #[.int .i64 id, .slice a xs.length cap] 76), (.cells #[.int .i64 id2, .slice a2 ys.length cap2] 76)]) := Lib.hid (by rw [Sort.alloc_eq_grow, Sort.alloc_eq_grow, Sort.grow_grow]; rfl)
  generalize ((w.alloc (.cells #[.int .i64 id, .slice a xs.length cap] 76)).alloc (.cells #[.int .i64 id2, .slice a2 ys.length cap2] 76)) = W at *
  have z1 := box2 g0 g1 hz1 (Below.refl _ W)
  refine wp_region_held_drew (S := fun w' => w'.cell? ⟨w.heap.size, 0, none⟩ = some (.int .i64 id) ∧ w'.cell? ⟨w.heap.size, 1, none⟩ = some (.slice a xs.length cap) ∧ w'.cell? ⟨w.heap.size + 1, 0, none⟩ = some (.int .i64 id2) ∧ w'.cell? ⟨w.heap.size + 1, 1, none⟩ = some (.slice a2 ys.length cap2)) (by kernel_rfl) ⟨z1.1, z1.2.1, z1.2.2.1, z1.2.2.2⟩ (fun hHeld => ?_)
  refine take_runs (i := 0) (v := ?_) (by simp only [List.getElem?_toArray, List.getElem?_cons_succ, List.getElem?_cons_zero]; rfl) (by kernel_rfl) (by kernel_rfl) (by kernel_rfl) rfl (by exact fun _ _ _ h => h) (by rfl) ?_ (by assumption) ?_
  rotate_left
  · intro w hSw; (try dsimp only at hSw); go_simp; try (with_reducible rfl)
  try simp only [Act.put, List.setIfInBounds_toArray, List.set_cons_zero, List.set_cons_succ]
  refine take_runs (i := 1) (v := ?_) (by simp only [List.getElem?_toArray, List.getElem?_cons_succ, List.getElem?_cons_zero]; rfl) (by kernel_rfl) (by kernel_rfl) (by kernel_rfl) rfl (by exact fun _ _ _ h => h) (by rfl) ?_ (by assumption) ?_
  rotate_left
  · intro w hSw; (try dsimp only at hSw); go_simp; try (with_reducible rfl)
  try simp only [Act.put, List.setIfInBounds_toArray, List.set_cons_zero, List.set_cons_succ]
  refine take_runs (i := 2) (v := ?_) (by simp only [List.getElem?_toArray, List.getElem?_cons_succ, List.getElem?_cons_zero]; rfl) (by kernel_rfl) (by kernel_rfl) (by kernel_rfl) rfl (by exact fun _ _ _ h => h) (by rfl) ?_ (by assumption) ?_
  rotate_left
  · intro w hSw; (try dsimp only at hSw); go_simp; try (with_reducible rfl)
  try simp only [Act.put, List.setIfInBounds_toArray, List.set_cons_zero, List.set_cons_succ]
  refine take_runs (i := 3) (v := ?_) (by simp only [List.getElem?_toArray, List.getElem?_cons_succ, List.getElem?_cons_zero]; rfl) (by kernel_rfl) (by kernel_rfl) (by kernel_rfl) rfl (by exact fun _ _ _ h => h) (by rfl) ?_ (by assumption) ?_
  rotate_left
  · intro w hSw; (try dsimp only at hSw); go_simp; try (with_reducible rfl)
  try simp only [Act.put, List.setIfInBounds_toArray, List.set_cons_zero, List.set_cons_succ]
  refine take_runs (i := 5) (v := ?_) (by simp only [List.getElem?_toArray, List.getElem?_cons_succ, List.getElem?_cons_zero]; rfl) (by kernel_rfl) (by kernel_rfl) (by kernel_rfl) rfl (by exact fun _ _ _ h => h) (by rfl) ?_ (by assumption) ?_
  rotate_left
  · intro w hSw; (try dsimp only at hSw); go_simp; try (with_reducible rfl)
  try simp only [Act.put, List.setIfInBounds_toArray, List.set_cons_zero, List.set_cons_succ]
  refine take_runs (i := 6) (v := ?_) (by simp only [List.getElem?_toArray, List.getElem?_cons_succ, List.getElem?_cons_zero]; rfl) (by kernel_rfl) (by kernel_rfl) (by kernel_rfl) rfl (by exact fun _ _ _ h => h) (by rfl) ?_ (by assumption) ?_
  rotate_left
  · intro w hSw; (try dsimp only at hSw); go_simp; try (with_reducible rfl)
  try simp only [Act.put, List.setIfInBounds_toArray, List.set_cons_zero, List.set_cons_succ]
  refine take_runs (i := 7) (v := ?_) (by simp only [List.getElem?_toArray, List.getElem?_cons_succ, List.getElem?_cons_zero]; rfl) (by kernel_rfl) (by kernel_rfl) (by kernel_rfl) rfl (by exact fun _ _ _ h => h) (by rfl) ?_ (by assumption) ?_
  rotate_left
  · intro w hSw; (try dsimp only at hSw); go_simp; try (with_reducible rfl)
  try simp only [Act.put, List.setIfInBounds_toArray, List.set_cons_zero, List.set_cons_succ]
  refine take_runs (i := 8) (v := ?_) (by simp only [List.getElem?_toArray, List.getElem?_cons_succ, List.getElem?_cons_zero]; rfl) (by kernel_rfl) (by kernel_rfl) (by kernel_rfl) rfl (by exact fun _ _ _ h => h) (by rfl) ?_ (by assumption) ?_
  rotate_left
  · intro w hSw; (try dsimp only at hSw); go_simp; try (with_reducible rfl)
  try simp only [Act.put, List.setIfInBounds_toArray, List.set_cons_zero, List.set_cons_succ]
  refine wpAnyH_ready (rs := [4]) (by kernel_rfl) (by simp) ?_
  refine AllReadyH.cons (o := _) (by simp only [List.getElem?_toArray, List.getElem?_cons_succ, List.getElem?_cons_zero]; rfl) (fun K hK => ?_) AllReadyH.nil
  go_simp
  refine (H1.out _).mono ?_
  rintro e w8 ⟨rfl, rfl⟩
  refine hK.out _ _ ⟨z1.1, z1.2.1, z1.2.2.1, z1.2.2.2⟩ (fun hHeld => ?_)
  clear hK K
  try simp only [Act.put, List.setIfInBounds_toArray, List.set_cons_zero, List.set_cons_succ]
  refine wpAnyH_ready (rs := [9]) (by kernel_rfl) (by simp) ?_
  refine AllReadyH.cons (o := _) (by simp only [List.getElem?_toArray, List.getElem?_cons_succ, List.getElem?_cons_zero]; rfl) (fun K hK => ?_) AllReadyH.nil
  go_simp
  refine (H2.out _ (ints_below HV.out (below_drew hh)) (ints_below HU.out (below_drew hh))).mono ?_
  rintro e w8 ⟨rfl, rfl⟩
  refine hK.out _ _ ⟨z1.1, z1.2.1, z1.2.2.1, z1.2.2.2⟩ (fun hHeld => ?_)
  clear hK K
  try simp only [Act.put, List.setIfInBounds_toArray, List.set_cons_zero, List.set_cons_succ]
  refine wpAnyH_ready (rs := [10]) (by kernel_rfl) (by simp) ?_
  refine AllReadyH.cons (o := _) (by simp only [List.getElem?_toArray, List.getElem?_cons_succ, List.getElem?_cons_zero]; rfl) (fun K hK => ?_) AllReadyH.nil
  go_simp
  have hA : Below W.heap.size W (W.alloc (.cells #[.int .i64 c1, .int .i64 c2] 3)).drew := below_drew ((Below.refl _ W).alloc (Nat.le_refl _) _)
  have q0 : (W.alloc (.cells #[.int .i64 c1, .int .i64 c2] 3)).drew.cell? ⟨W.heap.size, 0, none⟩ = some (.int .i64 c1) := cell_lit W _ _ 0
  have q1 : (W.alloc (.cells #[.int .i64 c1, .int .i64 c2] 3)).drew.cell? ⟨W.heap.size, 1, none⟩ = some (.int .i64 c2) := cell_lit W _ _ 1
  have hg2 : Hid (∃ q os, (W.alloc (.cells #[.int .i64 c1, .int .i64 c2] 3)).drew = Sort.grow (w.drewN q) os) := Lib.hid ⟨1, _, by rw [hg.out, Sort.alloc_eq_grow, Sort.grow_grow, Sort.drew_grow]; rfl⟩
  generalize (W.alloc (.cells #[.int .i64 c1, .int .i64 c2] 3)).drew = W2 at *
  have z2 := box2 g0 g1 hz1 hA
  refine hK.out _ _ ⟨z2.1, z2.2.1, z2.2.2.1, z2.2.2.2⟩ (fun hHeld2 => ?_)
  clear hK K hHeld
  try simp only [Act.put, List.setIfInBounds_toArray, List.set_cons_zero, List.set_cons_succ]
  refine wpAnyH_ready (rs := [11]) (by kernel_rfl) (by simp) ?_
  refine AllReadyH.cons (o := _) (by simp only [List.getElem?_toArray, List.getElem?_cons_succ, List.getElem?_cons_zero]; rfl) (fun K hK => ?_) AllReadyH.nil
  go_simp
  refine (HO.out _ _ q0 q1).mono ?_
  rintro e w8 ⟨rfl, rfl⟩
  refine hK.out _ _ ⟨z2.1, z2.2.1, z2.2.2.1, z2.2.2.2⟩ (fun hHeld => ?_)
  clear hK K
  try simp only [Act.put, List.setIfInBounds_toArray, List.set_cons_zero, List.set_cons_succ]
  refine take_runs (i := 12) (v := ?_) (by simp only [List.getElem?_toArray, List.getElem?_cons_succ, List.getElem?_cons_zero]; rfl) (by kernel_rfl) (by kernel_rfl) (by kernel_rfl) rfl (by exact fun _ _ _ h => h) (by rfl) ?_ (by assumption) ?_
  rotate_left
  · intro w hSw; (try dsimp only at hSw); go_simp; try (with_reducible rfl)
  try simp only [Act.put, List.setIfInBounds_toArray, List.set_cons_zero, List.set_cons_succ]
  refine wpAnyH_done (by kernel_rfl) ?_ _
  clear q0 q1
  rw [← HP.out]
  go_wp2
  go_ret
  exact ⟨rfl, hg2.out⟩
end Go.Proofs.Ytginjmnohnidiaa
namespace Go.Proofs.Ytginjmnohnidiaa
open Go.RowKit
set_option linter.unusedVariables false
end Go.Proofs.Ytginjmnohnidiaa
namespace Go.Proofs.Ytginjmnohnidiaa
open Go.RowKit
set_option linter.unusedVariables false
end Go.Proofs.Ytginjmnohnidiaa
namespace Go.Proofs.Ytginjmnohnidiaa
open Go.RowKit
set_option linter.unusedVariables false
set_option linter.unusedSimpArgs false
theorem wpl_app_ints {w : World} {ops : Array Oper} {rest : List Oper} {o : Oper} {a : Act} {Q : Exit → Act → World → Prop} (hgd : o.guard = none) (s x : Operand)
    (ho : o.op = .call { callee := .builtin .append, args := #[s, x], argTypes := #[31, 31] })
    (B : Nat) (v u : Value) (xs ys : List Int) (hs : a.eval s = v) (hx : a.eval x = u) (hown : OwnsN w B v xs) (hu : Ints w u ys) (hB : B ≤ w.heap.size) (h63 : xs.length + ys.length ≤ 17592186044416)
    (h : ∀ v' w', OwnsN w' B v' (xs ++ ys) → Below B w w' → wpList Try.prog ops Q rest (a.put o.dst v') w') : wpList Try.prog ops Q (o :: rest) a w := by
  refine wpList_plain hgd fun K hK => ?_
  obtain ⟨v', w', hr, h2, h3⟩ := run_append_ints o.type hown hu hB h63
  unfold Oper.wp
  simp [execOp, ho, resolve, invoke, builtin, hs, hx, hr, Result.andThen]
  exact hK _ _ (h v' w' h2 h3)
/-- A set in new memory is answered. -/
def FreshInts (w : World) (xs : List Int) (e : Ending) (w' : World) : Prop := ∃ u, e = .returned u ∧ OwnsN w' w.heap.size u xs ∧ Below w.heap.size w w'
end Go.Proofs.Ytginjmnohnidiaa
namespace Go.Proofs.Ytginjmnohnidiaa
open Go.RowKit
set_option linter.unusedVariables false
set_option linter.unusedSimpArgs false
set_option maxHeartbeats 2000000 in
set_option maxRecDepth 100000 in
theorem copyInts_any (v : Value) (xs : List Int) (w : World) (h : Ints w v xs) (hn : xs.length ≤ 1048576) :
    Calls Try.prog 73 #[v] w (FreshInts w xs) := by
  have H := Lib.hid h
  have HN := Lib.hid hn
  obtain ⟨a, cap, rfl⟩ := ints_len h
  clear h hn
  go_enter Try.func73, Try.ntmps73
  go_wp2_with (at_builtin; refine wpl_app_ints rfl _ (.tmp 3) rfl w.heap.size _ _ [] xs rfl rfl (ownsN_nil _ _) H.out (Nat.le_refl _) (by have := HN.out; simp; omega) ?_)
  intro u w4 oB bB
  obtain ⟨pa, pc, rfl⟩ := ints_len (ownsN_ints oB)
  go_wp2
  go_ret
  exact ⟨_, rfl, oB, bB⟩
end Go.Proofs.Ytginjmnohnidiaa
namespace Go.Proofs.Ytginjmnohnidiaa
open Go.RowKit
set_option linter.unusedVariables false
set_option linter.unusedSimpArgs false
set_option maxHeartbeats 4000000 in
set_option maxRecDepth 100000 in
theorem copyRow_any (id : Int) (vv : Value) (xs : List Int) (w : World) (h : Ints w vv xs) (hn : xs.length ≤ 1048576) :
    Calls Try.prog 93 #[.agg #[.int .i64 id, vv]] w (FreshRow w (id, xs)) := by
  have H := Lib.hid h
  have HN := Lib.hid hn
  obtain ⟨va, vcap, rfl⟩ := ints_len h
  clear h hn
  have hb : Below w.heap.size w ((w.alloc (.cells #[.int .i64 id, .slice va xs.length vcap] 76)).alloc (.cells #[.int .i64 0, .slice none 0 0] 76)) := ((Below.refl _ w).alloc (Nat.le_refl _) _).alloc (by simp) _
  have g2 : ((w.alloc (.cells #[.int .i64 id, .slice va xs.length vcap] 76)).alloc (.cells #[.int .i64 0, .slice none 0 0] 76)).heap[w.heap.size + 1]? = some (.cells #[.int .i64 0, .slice none 0 0] 76 (0, 0)) := by
    have := heap_alloc_new (w.alloc (.cells #[.int .i64 id, .slice va xs.length vcap] 76)) (.cells #[.int .i64 0, .slice none 0 0] 76)
    simpa only [World.size_alloc] using this
  have g1 : ((w.alloc (.cells #[.int .i64 id, .slice va xs.length vcap] 76)).alloc (.cells #[.int .i64 0, .slice none 0 0] 76)).heap[w.heap.size]? = some (.cells #[.int .i64 id, .slice va xs.length vcap] 76 (0, 0)) := by
    rw [Below.heap_alloc _ _ _ (by simp)]
    exact heap_alloc_new w _
  have hs : ((w.alloc (.cells #[.int .i64 id, .slice va xs.length vcap] 76)).alloc (.cells #[.int .i64 0, .slice none 0 0] 76)).heap.size = w.heap.size + 2 := by simp [World.size_alloc]
  have HG := Lib.hid (And.intro g1 (And.intro g2 (And.intro hs hb)))
  clear g1 g2 hs hb
  go_enter Try.func93, Try.ntmps93
  go_wp2_with fail
  refine (copyInts_any (.slice va xs.length vcap) xs _ (ints_below H.out HG.out.2.2.2) HN.out).mono ?_
  rintro e W3 ⟨u, rfl, oB0, bB0⟩
  have hs := HG.out.2.2.1
  rw [hs] at oB0 bB0
  have oB := oB0
  have bB := bB0
  clear oB0 bB0 hs
  obtain ⟨ua, ucap, rfl⟩ := ints_len (ownsN_ints oB)
  have k1 := (bB.block w.heap.size (by omega)).trans HG.out.1
  have k2 := (bB.block (w.heap.size + 1) (by omega)).trans HG.out.2.1
  have c0 := cell_of_row W3 _ 0 _ _ _ k1
  have c1 := cell_of_row W3 _ 1 _ _ _ k1
  have f1 := frozen_of_row W3 _ 1 _ _ k1
  have d0 := cell_of_row W3 _ 0 _ _ _ k2
  have d1 := cell_of_row W3 _ 1 _ _ _ k2
  have e0 := frozen_of_row W3 _ 0 _ _ k2
  have e1 := frozen_of_row W3 _ 1 _ _ k2
  simp at c0 c1 d0 d1
  have HK := Lib.hid k2
  have bC := Lib.hid (HG.out.2.2.2.trans (bB.mono (by omega)))
  clear k1 k2 bB
  go_wp2
  have hne : (w.heap.size + 1 = w.heap.size) = False := by simp
  have m2 := (heap_setCell_other W3 ⟨w.heap.size, 1, none⟩ (w.heap.size + 1) (.slice ua xs.length ucap) (by simp)).trans HK.out
  have r1 := heap_setCell_same _ (w.heap.size + 1) 0 _ _ (.int .i64 id) m2
  have r2 := heap_setCell_same _ (w.heap.size + 1) 1 _ _ (.slice ua xs.length ucap) r1
  have o4 := ownsN_low (ownsN_low (ownsN_low oB (b := w.heap.size) (by omega) 1 (.slice ua xs.length ucap)) (b := w.heap.size + 1) (by omega) 0 (.int .i64 id)) (b := w.heap.size + 1) (by omega) 1 (.slice ua xs.length ucap)
  have B4 := ((bC.out.setCell (p := ⟨w.heap.size, 1, none⟩) (by simp) (.slice ua xs.length ucap)).setCell (p := ⟨w.heap.size + 1, 0, none⟩) (by simp) (.int .i64 id)).setCell (p := ⟨w.heap.size + 1, 1, none⟩) (by simp) (.slice ua xs.length ucap)
  have e0 := cell_of_row _ _ 0 _ _ _ r2
  have e1 := cell_of_row _ _ 1 _ _ _ r2
  simp at e0 e1
  refine bodyPost_ret (v := .agg #[.int .i64 id, .slice ua xs.length ucap]) ?_ rfl ?_
  · simp [results, Try.f93, go_sem, e0, e1]
  · exact ⟨_, rfl, ownsN_up o4 (by omega), B4⟩
set_option maxHeartbeats 4000000 in
set_option maxRecDepth 100000 in
theorem copyEachRow_any (v : Value) (rs : List RowD) (w : World) (h : RowsR w v rs) (hs : szL rs ≤ 1048576) :
    Calls Try.prog 92 #[v, .func (.func 93) #[] #[]] w (FreshRows w rs) := by
  obtain ⟨i0, hi, hz0, hz1⟩ : ∃ i, Try.prog.info? 76 = some i ∧ i.zero = some (.agg #[.int .i64 0, .slice none 0 0]) ∧ i.size = 2 := by
    have := Try.infoRow
    cases e : Try.prog.info? 76 with
    | none => rw [e] at this; simp at this
    | some i => rw [e] at this; simp at this; exact ⟨i, rfl, this.1, this.2⟩
  have hz2 : i0.bytes = 32 := by
    have := row_bytes
    rw [hi] at this; simpa using this
  have HI := Lib.hid hi; have HZ0 := Lib.hid hz0; have HZ1 := Lib.hid hz1; have HZ2 := Lib.hid hz2
  clear hi hz0 hz1 hz2
  have H := Lib.hid h
  have hlen : rs.length ≤ 1048576 := by have := szTo_le (rs := rs) (Nat.zero_le _); rw [szTo_zero] at this; omega
  have HS := Lib.hid hs
  obtain ⟨a, cap, rfl⟩ := rowsR_len h
  clear h hs
  go_enter Try.func92, Try.ntmps92
  go_wp2_with (at_make; refine wpList_make_full _ rfl (.tmp 9) (.tmp 9) 24 rfl w.heap.size 76 i0 (.agg #[.int .i64 0, .slice none 0 0]) 2 Try.underlying24 HI.out HZ0.out HZ1.out _ _ _ _ rs.length rfl rfl rfl rfl (by rw [HZ2.out]; omega) (by unfold maxLen; omega) (Nat.le_refl _) ?_)
  intro w1 hown0 hg0
  have hown1 := ownsR_made hown0
  have hbel1 := (Below.refl w.heap.size w).grown hg0 (Nat.le_refl _) (fun k hk => by cases hk)
  clear hown0 hg0
  go_wp2
  go_loopw [13] (fun i wr => ∃ k : Nat, k ≤ rs.length ∧ i = .int .i64 k ∧ OwnsR wr w.heap.size (.slice (some ⟨w.heap.size, 0, none⟩) rs.length rs.length) (rs.take k ++ List.replicate (rs.length - k) (0, [])) ∧ Below w.heap.size w wr) (fun i _ => rs.length - (intOf i).toNat)
  case atStart => exact ⟨0, Nat.zero_le _, rfl, by simpa using hown1, hbel1⟩
  case round =>
    obtain ⟨k, hk, rfl, hown, hbel⟩ := hrel
    by_cases hlt : k < rs.length
    · obtain ⟨b, off, cap', vv, hv, hbl, hc1, hc2, hI⟩ := rowsR_at (rowsR_below H.out hbel) hlt
      simp only [Value.slice.injEq] at hv
      obtain ⟨rfl, _, rfl⟩ := hv
      have hxl : (rs.getD k (0, [])).2.length ≤ 1048576 := by
        have h1 := szTo_step hlt
        have h2 := szTo_le (rs := rs) (k := k + 1) (by omega)
        have := HS.out
        omega
      have hset := rows_copied rs k hlt
      have hkl : k < (rs.take k ++ List.replicate (rs.length - k) ((0, []) : RowD)).length := by simp; omega
      have i1 : (0 : Int) ≤ (k : Int) := by omega
      have i2 : (k : Int) < (rs.length : Int) := by omega
      have HSET := Lib.hid hset
      have HKL := Lib.hid hkl
      clear hset hkl hown1 hbel1
      generalize rs.getD k (0, []) = r at *
      obtain ⟨id, xs⟩ := r
      simp only at hc1 hc2 hI hxl
      obtain ⟨va, vcap, rfl⟩ := ints_len hI
      have bb := (Below.refl wr.heap.size wr).alloc (Nat.le_refl _) (.cells #[.int .i64 id, .slice va xs.length vcap] 76)
      go_wp2_with fail
      refine (copyRow_any id (.slice va xs.length vcap) xs _ (ints_below hI bb) hxl).mono ?_
      rintro e w2 ⟨uv, rfl, ou, b2⟩
      replace ou := ownsN_up ou bb.size
      replace b2 := bb.trans (b2.mono bb.size)
      clear bb
      have hst := Lib.hid (ownsR_store hown b2 hbel.size HKL.out (id, xs) ou)
      rw [HSET.out] at hst
      have b3 := hbel.trans (b2.mono hbel.size)
      have hg : w.heap.size < w2.heap.size := by
        obtain ⟨cs, vs, h1, _⟩ := hown
        have := (h1.lt w.heap.size rfl).2
        have := b2.size
        omega
      obtain ⟨ua, uc, rfl⟩ := ints_len (ownsN_ints ou)
      obtain ⟨q0, q1, f0, f1⟩ : (∃ x, w2.cell? ⟨w.heap.size, k * 2, none⟩ = some x) ∧ (∃ x, w2.cell? ⟨w.heap.size, k * 2 + 1, none⟩ = some x) ∧ w2.frozen? ⟨w.heap.size, k * 2, none⟩ = false ∧ w2.frozen? ⟨w.heap.size, k * 2 + 1, none⟩ = false := by
        obtain ⟨cs, vs, h1, h2, _⟩ := ownsR_below hown b2
        have hl0 : (rs.take k ++ List.replicate (rs.length - k) ((0, []) : RowD)).length = rs.length := by simp; omega
        rw [hl0] at h1 h2
        obtain ⟨g1, g2, _, _⟩ := h2 k hlt
        exact ⟨⟨_, (World.ownsRow.cellAt h1 (k * 2) (by omega)).trans g1⟩, ⟨_, (World.ownsRow.cellAt h1 (k * 2 + 1) (by omega)).trans g2⟩, World.ownsRow.frozenAt h1 _, World.ownsRow.frozenAt h1 _⟩
      obtain ⟨x0, q0⟩ := q0
      obtain ⟨x1, q1⟩ := q1
      have B3 := (b3.setCell (p := ⟨w.heap.size, k * 2, none⟩) (Nat.le_refl _) (.int .i64 id)).setCell (p := ⟨w.heap.size, k * 2 + 1, none⟩) (Nat.le_refl _) (.slice ua xs.length uc)
      clear hown hbel b2 ou hc1 hc2 hI
      go_wp2
      go_roundw
      case rel => exact ⟨k + 1, by omega, by go_num, hst.out, B3⟩
      case measure => simp [intOf]; omega
    · obtain rfl : k = rs.length := by omega
      have HE : Hid (rs.take rs.length ++ List.replicate (rs.length - rs.length) ((0, []) : RowD) = rs) := Lib.hid (by simp)
      rw [HE.out] at hown
      go_wp2
      go_ret
      exact ⟨_, rfl, hown, hbel⟩
set_option maxHeartbeats 2000000 in
set_option maxRecDepth 100000 in
theorem copyRows_any (v : Value) (rs : List RowD) (w : World) (h : RowsR w v rs) (hs : szL rs ≤ 1048576) :
    Calls Try.prog 51 #[v] w (FreshRows w rs) := by
  have H := Lib.hid (fun w h => copyEachRow_any v rs w h hs)
  have HV := Lib.hid h
  clear h hs
  go_enter Try.func51, Try.ntmps51
  go_wp2_with fail
  refine (H.out _ HV.out).mono ?_
  rintro e w1 ⟨u, rfl, o1, b1⟩
  obtain ⟨ua, uc, rfl⟩ := rowsR_len (ownsR_rows o1)
  go_wp2
  go_ret
  exact ⟨_, rfl, o1, b1⟩
end Go.Proofs.Ytginjmnohnidiaa
namespace Go.Proofs.Ytginjmnohnidiaa
open Go.RowKit
set_option linter.unusedVariables false
set_option linter.unusedSimpArgs false
/-- A row with the slice in which its values lie, which the call made, in a block other than g. -/
def Elem (W : World) (B g : Nat) : Type := { p : RowD × Value // OwnsN W B p.2 p.1.2 ∧ p.1.2.length ≤ 1048576 ∧ p.2.ownBlock ≠ some g }
instance elemInh (W : World) (B g : Nat) : Inhabited (Elem W B g) := ⟨⟨((0, []), .slice none 0 0), ownsN_nil W B, by simp, by simp [Value.ownBlock]⟩⟩
def mkE {W : World} {B g : Nat} (p : RowD × Value) (h : OwnsN W B p.2 p.1.2 ∧ p.1.2.length ≤ 1048576 ∧ p.2.ownBlock ≠ some g) : Elem W B g := ⟨p, h⟩
def encE {W : World} {B g : Nat} (x : Elem W B g) : List Value := [.int .i64 x.1.1.1, x.1.2]
def cfE {W : World} {B g : Nat} (x y : Elem W B g) : Int := cmpR x.1.1 y.1.1
theorem ltE {W : World} {B g : Nat} (x y : Elem W B g) : ltOf cfE x y = rowLess x.1.1 y.1.1 := cmpR_less _ _
theorem swoE (W : World) (B g : Nat) : Sort.SWO (ltOf (cfE (W := W) (B := B) (g := g))) where
  irrefl x := by rw [ltE]; exact rowLess_irr _
  trans x y z h1 h2 := by rw [ltE] at *; exact rowLess_trans _ _ _ h1 h2
  ntrans x y z h1 h2 := by rw [ltE] at *; exact rowLess_ntrans _ _ _ h1 h2
theorem oneE {W : World} {B g : Nat} (x : Elem W B g) : ∀ v ∈ encE x, v.oneCell' = true := by
  intro v hv
  simp only [encE, List.mem_cons, List.not_mem_nil, or_false] at hv
  rcases hv with rfl | rfl
  · rfl
  · obtain ⟨a, cap, e⟩ := ints_len (ownsN_ints x.2.1)
    rw [e]; rfl
theorem heap_sortW {W : World} {B g : Nat} (m : Nat) (dk : Array (Elem W B g)) (os : Array Obj) {b : Nat} (hb : b < W.heap.size) (hne : b ≠ g) : (sortWorldK encE 2 W g 0 m dk os).heap[b]? = W.heap[b]? := by
  unfold sortWorldK Sort.putRowK Sort.putRow Sort.mapBlock Sort.grow Sort.ahead
  simp only
  rw [Array.getElem?_append_left (by simpa using hb), Array.getElem?_modify, if_neg (fun e => hne e.symm)]
theorem heap_sortG {W : World} {B g : Nat} (m : Nat) (dk : Array (Elem W B g)) (os : Array Obj) {cur : Array Value} {t : TypeId} {fr : Nat × Nat} (hg : W.heap[g]? = some (.cells cur t fr)) : (sortWorldK encE 2 W g 0 m dk os).heap[g]? = some (.cells (Sort.putCells id 0 (Sort.flatK encE 2 dk) cur) t fr) := by
  have hb : g < W.heap.size := (Array.getElem?_eq_some_iff.1 hg).1
  unfold sortWorldK Sort.putRowK Sort.putRow Sort.mapBlock Sort.grow Sort.ahead
  simp only
  rw [Array.getElem?_append_left (by simpa using hb), Array.getElem?_modify, if_pos rfl, hg]
  rfl
theorem size_sortW {W : World} {B g : Nat} (m : Nat) (dk : Array (Elem W B g)) (os : Array Obj) : W.heap.size ≤ (sortWorldK encE 2 W g 0 m dk os).heap.size := by
  unfold sortWorldK Sort.putRowK Sort.putRow Sort.mapBlock Sort.grow Sort.ahead
  simp
theorem ownsN_sortW {W : World} {B g : Nat} (m : Nat) (dk : Array (Elem W B g)) (os : Array Obj) {v : Value} {xs : List Int} (h : OwnsN W B v xs) (hne : v.ownBlock ≠ some g) : OwnsN (sortWorldK encE 2 W g 0 m dk os) B v xs := by
  refine ⟨h.1, ?_⟩
  rcases h.2 with hn | ⟨b, cap, cur, rfl, hb', hg, rest⟩
  · exact .inl hn
  · refine .inr ⟨b, cap, cur, rfl, hb', ?_, rest⟩
    rw [heap_sortW m dk os (Array.getElem?_eq_some_iff.1 hg).1 (fun e => hne (by simp [Value.ownBlock, e]))]
    exact hg
theorem below_sortW {W : World} {B g C : Nat} (m : Nat) (dk : Array (Elem W B g)) (os : Array Obj) (hC : C ≤ g) (hCW : C ≤ W.heap.size) : Below C W (sortWorldK encE 2 W g 0 m dk os) :=
  ⟨rfl, rfl, rfl, size_sortW m dk os, fun k hk => heap_sortW m dk os (by omega) (by omega)⟩
theorem cmpLaysE (W : World) (B g : Nat) (size : Nat) : CmpLays Try.prog 53 #[] (encE (W := W) (B := B) (g := g)) 2 cfE g 0 size W :=
  fun m os dk _ x y => compareRows_any x.1.1.1 y.1.1.1 x.1.2 y.1.2 x.1.1.2 y.1.1.2 _ (ownsN_ints (ownsN_sortW m dk os x.2.1 x.2.2.2)) (ownsN_ints (ownsN_sortW m dk os y.2.1 y.2.2.2)) x.2.2.1 y.2.2.1
theorem flat_even {W : World} {B g : Nat} (d : Array (Elem W B g)) {j : Nat} (hj : j < d.size) : (Sort.flatK encE 2 d).toList[j * 2]? = some (.int .i64 (d[j]!).1.1.1) ∧ (Sort.flatK encE 2 d).toList[j * 2 + 1]? = some (d[j]!).1.2 := by
  have h0 : j * 2 < d.size * 2 := by omega
  have h1 : j * 2 + 1 < d.size * 2 := by omega
  have e0 := Sort.get_flatK encE 2 d (j * 2) h0
  have e1 := Sort.get_flatK encE 2 d (j * 2 + 1) h1
  rw [show j * 2 / 2 = j by omega, show j * 2 % 2 = 0 by omega] at e0
  rw [show (j * 2 + 1) / 2 = j by omega, show (j * 2 + 1) % 2 = 1 by omega] at e1
  have s0 : j * 2 < (Sort.flatK encE 2 d).size := by rw [Sort.size_flatK]; exact h0
  have s1 : j * 2 + 1 < (Sort.flatK encE 2 d).size := by rw [Sort.size_flatK]; exact h1
  rw [getElem!_pos (Sort.flatK encE 2 d) (j * 2) s0] at e0
  rw [getElem!_pos (Sort.flatK encE 2 d) (j * 2 + 1) s1] at e1
  refine ⟨?_, ?_⟩
  · rw [Array.getElem?_toList, Array.getElem?_eq_getElem s0, e0]; rfl
  · rw [Array.getElem?_toList, Array.getElem?_eq_getElem s1, e1]; rfl
/-- The sort of a slice of rows that the call made. -/
theorem sortRows_own {W : World} {B : Nat} {v : Value} {rs : List RowD} (h : OwnsR W B v rs) (hs : szL rs ≤ 1048576) (hB : B ≤ W.heap.size) :
    Calls Try.prog 52 #[v, .func (.func 53) #[] #[]] W fun e w' => e = .returned (.tuple #[]) ∧ OwnsR w' B v (sortL rs) ∧ Below B W w' := by
  have hlen := szL_len hs
  by_cases h0 : rs = []
  · subst h0
    obtain ⟨a, cap, rfl⟩ := ownsR_len h
    refine (AnyF.slices_SortFunc_none Try.sortRow a cap _ W).mono ?_
    rintro e w' ⟨rfl, rfl⟩
    exact ⟨rfl, h, Below.refl _ _⟩
  · obtain ⟨cs, vs, h1, h2, h3⟩ := h
    have hpos : 0 < rs.length := List.length_pos_iff.2 h0
    rcases h1.2 with ⟨_, hz⟩ | ⟨g, cap, cur, rfl, hb, hg, hn, hm, hcs, htake⟩
    · omega
    · have hel : ∀ j, (hj : j < rs.length) → OwnsN W B (vs j) (rs.getD j (0, [])).2 ∧ (rs.getD j (0, [])).2.length ≤ 1048576 ∧ (vs j).ownBlock ≠ some g := fun j hj => by
        obtain ⟨_, _, k3, k4⟩ := h2 j hj
        exact ⟨k3, szL_row hs hj, fun e => k4 g e rfl⟩
      obtain ⟨d, hd⟩ : ∃ d : Array (Elem W B g), d = Array.ofFn (fun j : Fin rs.length => mkE (rs.getD j (0, []), vs j) (hel j j.2)) := ⟨_, rfl⟩
      have hsz : d.size = rs.length := by rw [hd, Array.size_ofFn]
      have hat : ∀ j, j < rs.length → (d[j]!).1 = (rs.getD j (0, []), vs j) := fun j hj => by
        rw [getElem!_pos d j (by omega)]
        subst hd
        rw [Array.getElem_ofFn]
        rfl
      have hH : Sort.HoldsK encE 2 W g 0 d := by
        intro t ht
        rw [Sort.size_flatK, hsz] at ht
        refine ⟨?_, World.ownsRow.frozenAt h1 _⟩
        rw [Sort.get_flatK encE 2 d t (by omega), Nat.zero_add, World.ownsRow.cellAt h1 t (by omega)]
        obtain ⟨k1, k2, _⟩ := h2 (t / 2) (by omega)
        have hdt := hat (t / 2) (by omega)
        rcases Nat.mod_two_eq_zero_or_one t with e | e
        · rw [e]
          rw [show t / 2 * 2 = t by omega] at k1
          rw [k1]
          simp [encE, hdt]
        · rw [e]
          rw [show t / 2 * 2 + 1 = t by omega] at k2
          rw [k2]
          simp [encE, hdt]
      have hgl : g < W.heap.size := (Array.getElem?_eq_some_iff.1 hg).1
      have hcon := AnyQ.slices_SortFunc Try.sortRow 2 Try.isAgg76 Try.sizeOf76 (encE (W := W) (B := B) (g := g)) (fun _ => rfl) oneE cfE (swoE W B g) 53 #[] g 0 cap d W (enters_of Try.func53 (by kernel_rfl) rfl) (cmpLaysE W B g d.size) hH hgl (by omega)
      rw [hsz] at hcon
      refine hcon.mono ?_
      rintro e w' ⟨rfl, d', n, os, ⟨hps, _, hperm⟩, hsort, rfl⟩
      rw [hsz] at hps
      have he : d'.extract 0 rs.length = d' := by rw [← hps]; exact Array.extract_size
      have he2 : d.extract 0 rs.length = d := by rw [← hsz]; exact Array.extract_size
      rw [he, he2] at hperm
      have hmap : d.toList.map (fun x => x.1.1) = rs := by
        apply List.ext_getElem
        · simp [hsz]
        · intro i i1 i2
          have := hat i (by simpa using i2)
          rw [getElem!_pos d i (by omega)] at this
          rw [List.getElem_map, Array.getElem_toList, this, getD_at (by simpa using i2)]
      have hrows : d'.toList.map (fun x => x.1.1) = sortL rs := by
        refine sortL_unique ?_ ?_
        · have := hperm.map (fun x : Elem W B g => x.1.1)
          rwa [hmap] at this
        · refine List.pairwise_map.2 (List.pairwise_iff_getElem.2 fun i j hi hj hij => ?_)
          have := hsort i j (Nat.zero_le _) hij (by simpa [hps] using hj)
          rw [ltE, getElem!_pos d' j (by simpa using hj), getElem!_pos d' i (by simpa using hi)] at this
          simpa using this
      have hlen' : (sortL rs).length = rs.length := (sortL_perm rs).length_eq
      have hat' : ∀ j, j < rs.length → (d'[j]!).1.1 = (sortL rs).getD j (0, []) := fun j hj => by
        rw [getElem!_pos d' j (by omega), getD_at (by omega)]
        have : (sortL rs)[j]'(by omega) = (d'.toList.map (fun x => x.1.1))[j]'(by simp; omega) := by simp only [hrows]
        rw [this]
        simp
      have hdis : d'.toList.Pairwise (fun x y => ∀ b, x.1.2.ownBlock = some b → y.1.2.ownBlock ≠ some b) := by
        refine List.Pairwise.perm ?_ hperm.symm (fun {x y} hxy b hy hx => hxy b hx hy)
        refine List.pairwise_iff_getElem.2 fun i j hi hj hij => ?_
        have hi' : i < rs.length := by simpa [hsz] using hi
        have hj' : j < rs.length := by simpa [hsz] using hj
        have a1 := hat i hi'
        have a2 := hat j hj'
        rw [getElem!_pos d i (by omega)] at a1
        rw [getElem!_pos d j (by omega)] at a2
        rw [Array.getElem_toList, Array.getElem_toList, a1, a2]
        exact h3 i j hi' hj' (by omega)
      refine ⟨rfl, ⟨(Sort.flatK encE 2 d').toList, fun j => (d'[j]!).1.2, ?_, ?_, ?_⟩, below_sortW n d' os hb hB⟩
      · rw [hlen']
        refine ⟨by simp [Sort.size_flatK, hps], .inr ⟨g, cap, _, rfl, hb, heap_sortG n d' os hg, hn, hm, ?_, ?_⟩⟩
        · simp [Sort.putCells, hcs]
        · apply List.ext_getElem
          · simp [Sort.putCells, Sort.size_flatK, hps, hcs]; omega
          · intro i i1 i2
            have hi2 : i < rs.length * 2 := by simpa [Sort.size_flatK, hps] using i2
            rw [List.getElem_take, Array.getElem_toList, Array.getElem_toList]
            have hif : i < (Sort.flatK encE 2 d').size := by rw [Sort.size_flatK, hps]; exact hi2
            simp only [Sort.putCells, Array.getElem_mapIdx, Nat.zero_le, true_and, Nat.zero_add, hif, if_true, Nat.sub_zero, id]
            rw [getElem!_pos (Sort.flatK encE 2 d') i hif]
      · intro j hj
        rw [hlen'] at hj
        obtain ⟨f0, f1⟩ := flat_even d' (j := j) (by omega)
        have ha := hat' j hj
        refine ⟨by rw [f0, ha], f1, ?_, ?_⟩
        · have := ownsN_sortW n d' os (d'[j]!).2.1 (d'[j]!).2.2.2
          rwa [ha] at this
        · intro b hb1 hb2
          have : b = g := by simpa [Value.ownBlock] using hb2.symm
          subst this
          exact (d'[j]!).2.2.2 hb1
      · intro i j hi hj hij b hb1
        rw [hlen'] at hi hj
        have key : ∀ p q, p < q → q < rs.length → ∀ b, (d'[p]!).1.2.ownBlock = some b → (d'[q]!).1.2.ownBlock ≠ some b := fun p q hpq hq b => by
          have := List.pairwise_iff_getElem.1 hdis p q (by simp; omega) (by simp; omega) hpq b
          rw [getElem!_pos d' p (by omega), getElem!_pos d' q (by omega)]
          simpa using this
        rcases Nat.lt_or_gt_of_ne hij with hlt | hgt
        · exact key i j hlt hj b hb1
        · intro hb2
          exact key j i hgt hi b hb2 hb1
set_option maxHeartbeats 2000000 in
set_option maxRecDepth 100000 in
theorem implSortRows (v : Value) (rs : List RowD) (w : World) (h : RowsR w v rs) (hs : szL rs ≤ 1048576) :
    Calls Try.prog 15 #[v] w (FreshRows w (sortL rs)) := by
  have HC := Lib.hid (fun w h => copyRows_any v rs w h hs)
  have HS := Lib.hid (fun (W : World) (B : Nat) (v : Value) h hB => sortRows_own (W := W) (B := B) (v := v) (rs := rs) h hs hB)
  have H := Lib.hid h
  clear h hs
  go_enter Try.func15, Try.ntmps15
  go_wp2_with fail
  refine (HC.out _ H.out).mono ?_
  rintro e w1 ⟨u, rfl, ou, b1⟩
  go_wp2_with fail
  refine (HS.out _ _ _ ou b1.size).mono ?_
  rintro e w2 ⟨rfl, o2, b2⟩
  have b3 := b1.trans b2
  clear ou b1 b2
  go_wp2
  go_ret
  exact ⟨_, rfl, o2, b3⟩
end Go.Proofs.Ytginjmnohnidiaa
namespace Go.Proofs.Ytginjmnohnidiaa
open Go.RowKit
set_option linter.unusedVariables false
set_option linter.unusedSimpArgs false
set_option maxHeartbeats 8000000 in
set_option maxRecDepth 100000 in
theorem implRowsAt (sv : Value) (ss : List (List VerD)) (now t : Int) (w : World) (h : SlR tVersionS w sv ss) (hs : zL tVersionS ss ≤ 1048576) :
    Calls Try.prog 40 #[.agg #[sv, .int .i64 now], .int .i64 t] w (FreshS 76 tRow w (rowsAtL ss now t)) := by
  obtain ⟨us, hls, hsr⟩ := slR_ls h
  have HUL := Lib.hid hsr.1
  obtain ⟨a, cap, rfl⟩ := slR_len h
  have hlen := zL_len hs
  have HSS := Lib.hid hs
  have H := Lib.hid h
  have HLS := Lib.hid hls
  have HSR := Lib.hid hsr
  have d0 := Lib.hid (show Below w.heap.size w (w.alloc (.cells #[.slice a ss.length cap, .int .i64 now] 45)) from (Below.refl _ _).alloc (Nat.le_refl _) _)
  clear hls hsr h hs
  have HFL : Hid (ss.flatten.length ≤ 1048576) := Lib.hid (by have h1 := zL_all ss; have h2 := zL_len (T := tVersion) (xs := ss.flatten) (M := 1048576) (by have := HSS.out; omega); omega)
  cases hst : storeB ss now with
  | false =>
    have HE := Lib.hid (rowsAt_no (t := t) hst)
    have HI := Lib.hid (fun W g => checkStore_no (.slice a ss.length cap) ss now W g HSS.out hst)
    rw [HE.out]
    clear hst
    go_enter Try.func40, Try.ntmps40
    go_wp2_with fail
    generalize w.alloc (.cells #[.slice a ss.length cap, .int .i64 now] 45) = W at *
    refine (HI.out W (slR_below tVersionS_law H.out d0.out)).mono ?_
    rintro e w1 ⟨rfl, b1⟩
    have D1 := d0.out.trans (b1.mono d0.out.size)
    go_wp2
    go_ret
    exact ⟨_, rfl, slO_nil _ _ _ _, D1⟩
  | true =>
    have HE := Lib.hid (rowsAt_yes (t := t) hst)
    have HI := Lib.hid (fun W g g2 g3 => checkStore_yes (.slice a ss.length cap) ss now us W g HSS.out hst g2 g3)
    rw [HE.out]
    unfold CheckN at HI
    rw [HUL.out] at HI
    clear hst
    clear HE
    go_enter Try.func40, Try.ntmps40
    go_wp2_with fail
    generalize w.alloc (.cells #[.slice a ss.length cap, .int .i64 now] 45) = W at *
    refine (HI.out W (slR_below tVersionS_law H.out d0.out) (lsR_below HLS.out d0.out) (segsR_below HSR.out d0.out)).mono ?_
    rintro e w1 ⟨g, bs, rfl, ht, b1⟩
    have D1 := Lib.hid (d0.out.trans (b1.mono d0.out.size))
    have HT := Lib.hid ht
    clear ht b1
    go_wp2
    go_loopw [7, 19] (fun o i wr => ∃ (k : Nat) (L : List (List Value)), k ≤ ss.length ∧ i = .int .i64 k ∧ SlO 76 (tRaw 2) wr (since w1) o L ∧ Hid (Sh tRow w L (rowsV (cat ss k) t)) ∧ Below w1.heap.size w1 wr) (fun _ i _ => ss.length - (intOf i).toNat)
    case atStart => exact ⟨0, [], Nat.zero_le _, rfl, slO_nil _ _ _ _, Lib.hid (by rw [cat_zero]; exact sh_nil w), Below.refl _ _⟩
    case round =>
      obtain ⟨k, L, hk, rfl, hown, hsh, hbel⟩ := hrel
      obtain ⟨oa, oc, rfl⟩ := slO_len hown
      by_cases hlt : k < ss.length
      · have i1 : (0 : Int) ≤ (k : Int) := by omega
        have i2 : (k : Int) < (ss.length : Int) := by omega
        obtain ⟨_, tg, tl, trow, _⟩ := tabN_below HT.out hbel
        obtain ⟨r0, r1, _⟩ := trow k (by have := HUL.out; omega)
        obtain ⟨s1, s2⟩ := HSR.out.2 k hlt
        have D2 := Lib.hid (D1.out.trans (hbel.mono D1.out.size))
        have HSM := Nat.le_trans (zL_seg hlt) HSS.out
        have HC := Lib.hid (segRowsAt (bs.getD k 0) (us.getD k s0V) (ss.getD k []) t w wr D2.out r1 s1 s2 HSM)
        have HAP : Hid (rowsV (cat ss (k + 1)) t = rowsV (cat ss k) t ++ rowsV (ss.getD k []) t) := Lib.hid (by rw [← cat_step hlt, rowsV_app])
        have HLN : Hid ((rowsV (cat ss (k + 1)) t).length ≤ 1048576) := Lib.hid (Nat.le_trans (rowsV_len _ _) (Nat.le_trans (cat_le ss (k + 1)) HFL.out))
        unfold ptrV at r0 HC
        have OW := Lib.hid hown
        have HB := Lib.hid hbel
        clear trow tg tl r1 s1 s2 HSM hown hbel
        generalize bs.getD k 0 = pb at *
        generalize us.getD k s0V = u at *
        generalize ss.getD k [] = seg at *
        go_wp2_with fail
        refine HC.out.mono ?_
        rintro e w3 ⟨v3, M, rfl, o3, sh3, b3⟩
        obtain ⟨ma, mc, rfl⟩ := slO_len o3
        have O3 := Lib.hid (slO_reads (tRaw_law (by decide)) o3)
        have OW3 := Lib.hid (slO_fresh (tRaw_law (by decide)) OW.out b3)
        have HB3 := Lib.hid (HB.out.trans (b3.mono HB.out.size))
        have D3 := Lib.hid (D2.out.trans (b3.mono D2.out.size))
        have SH3 : Hid (Sh tRow w (L ++ M) (rowsV (cat ss (k + 1)) t)) := Lib.hid (by rw [HAP.out]; exact sh_app hsh.out sh3)
        have HLM : Hid (L.length + M.length ≤ 2097152) := Lib.hid (by have h1 := sh_len SH3.out; have h2 := HLN.out; rw [List.length_append] at h1; omega)
        clear OW HB D2 o3 sh3 b3 hsh r0
        go_wp2_with (at_builtin; refine append_flat (tRaw_law (by decide)) (flat_raw 2) info_R_Row Try.underlying24 rfl rfl (.tmp 23) (.tmp 26) rfl (since w1) (since w1) _ _ L M rfl rfl OW3.out O3.out (fun b h => h) HB3.out.size HLM.out ?_)
        intro v' w4 o4 t4
        have hb4 := Lib.hid (below_turn HB3.out t4 (fun b h => h) HB3.out.size)
        have O4 := Lib.hid o4
        clear OW3 O3 HB3 D3 t4 o4
        go_wp2
        go_roundw
        case rel => exact ⟨k + 1, _, by omega, by go_num, O4.out, SH3, hb4.out⟩
        case measure => simp [intOf]; omega
      · obtain rfl : k = ss.length := by omega
        have D2 := Lib.hid (D1.out.trans (hbel.mono D1.out.size))
        have HR := Lib.hid (slR_rows (raw_reads (T := tRow) (by decide) hown (by have := hsh.out; rw [cat_all] at this; exact sh_below tRow_law this D2.out)))
        clear hown hsh
        go_wp2_with fail
        refine (implSortRows (.slice oa L.length oc) _ wr HR.out (rows_size HSS.out t)).mono ?_
        rintro e w4 ⟨v4, rfl, ho4, b4⟩
        have D4 := Lib.hid (D2.out.trans (b4.mono D2.out.size))
        have HO4 := Lib.hid ho4
        clear ho4 b4 HR
        go_wp2
        go_ret
        exact ⟨_, rfl, ownsR_slO HO4.out (fun b hb => Nat.le_trans D2.out.size hb), D4.out⟩
set_option maxHeartbeats 8000000 in
set_option maxRecDepth 100000 in
theorem implSegmentRows (sv : Value) (ss : List (List VerD)) (now g t : Int) (w : World) (h : SlR tVersionS w sv ss) (hs : zL tVersionS ss ≤ 1048576) :
    Calls Try.prog 42 #[.agg #[sv, .int .i64 now], .int .i64 g, .int .i64 t] w (FreshS 76 tRow w (segRowsL ss now g t)) := by
  obtain ⟨us, hls, hsr⟩ := slR_ls h
  have HUL := Lib.hid hsr.1
  obtain ⟨a, cap, rfl⟩ := slR_len h
  have hlen := zL_len hs
  have HSS := Lib.hid hs
  have H := Lib.hid h
  have HLS := Lib.hid hls
  have HSR := Lib.hid hsr
  have d0 := Lib.hid (show Below w.heap.size w (w.alloc (.cells #[.slice a ss.length cap, .int .i64 now] 45)) from (Below.refl _ _).alloc (Nat.le_refl _) _)
  clear hls hsr h hs
  cases hst : storeB ss now with
  | false =>
    have HE := Lib.hid (segRows_no (g := g) (t := t) (fun q => by rw [hst] at q; cases q.1))
    have HI := Lib.hid (fun W g => checkStore_no (.slice a ss.length cap) ss now W g HSS.out hst)
    rw [HE.out]
    clear hst
    go_enter Try.func42, Try.ntmps42
    go_wp2_with fail
    generalize w.alloc (.cells #[.slice a ss.length cap, .int .i64 now] 45) = W at *
    refine (HI.out W (slR_below tVersionS_law H.out d0.out)).mono ?_
    rintro e w1 ⟨rfl, b1⟩
    have D1 := d0.out.trans (b1.mono d0.out.size)
    go_wp2
    go_ret
    exact ⟨_, rfl, slO_nil _ _ _ _, D1⟩
  | true =>
    have HT0 := Lib.hid hst
    have HI := Lib.hid (fun W g g2 g3 => checkStore_yes (.slice a ss.length cap) ss now us W g HSS.out hst g2 g3)
    unfold CheckN at HI
    rw [HUL.out] at HI
    clear hst
    by_cases hg0 : 0 ≤ g
    rotate_left
    · have HE := Lib.hid (segRows_no (ss := ss) (now := now) (t := t) (g := g) (fun q => hg0 q.2.1))
      rw [HE.out]
      have hg1 : g < 0 := by omega
      have hg2 : decide (g < 0) = true := decide_eq_true hg1
      clear hg0
      go_enter Try.func42, Try.ntmps42
      go_wp2_with fail
      generalize w.alloc (.cells #[.slice a ss.length cap, .int .i64 now] 45) = W at *
      refine (HI.out W (slR_below tVersionS_law H.out d0.out) (lsR_below HLS.out d0.out) (segsR_below HSR.out d0.out)).mono ?_
      rintro e w1 ⟨g, bs, rfl, ht, b1⟩
      have D1 := Lib.hid (d0.out.trans (b1.mono d0.out.size))
      have HT := Lib.hid ht
      clear ht b1
      go_wp2
      go_ret
      exact ⟨_, rfl, slO_nil _ _ _ _, D1.out⟩
    obtain ⟨k, rfl⟩ := Int.eq_ofNat_of_zero_le hg0
    by_cases hlt : k < ss.length
    rotate_left
    · have HE := Lib.hid (segRows_no (ss := ss) (now := now) (t := t) (g := (k : Int)) (fun q => hlt (by have := q.2.2; omega)))
      rw [HE.out]
      have hg2 : decide ((k : Int) < 0) = false := decide_eq_false (by omega)
      have hg1 : (ss.length : Int) ≤ (k : Int) := by omega
      have hg3 : decide ((ss.length : Int) ≤ (k : Int)) = true := decide_eq_true hg1
      clear hlt
      go_enter Try.func42, Try.ntmps42
      go_wp2_with fail
      generalize w.alloc (.cells #[.slice a ss.length cap, .int .i64 now] 45) = W at *
      refine (HI.out W (slR_below tVersionS_law H.out d0.out) (lsR_below HLS.out d0.out) (segsR_below HSR.out d0.out)).mono ?_
      rintro e w1 ⟨g, bs, rfl, ht, b1⟩
      have D1 := Lib.hid (d0.out.trans (b1.mono d0.out.size))
      have HT := Lib.hid ht
      clear ht b1
      go_wp2
      go_ret
      exact ⟨_, rfl, slO_nil _ _ _ _, D1.out⟩
    have HE := Lib.hid (segRows_yes (t := t) ⟨HT0.out, hg0, by omega⟩)
    rw [HE.out]
    clear HE
    show Calls _ _ _ _ (FreshS _ _ _ (rowsV (ss.getD ((k : Int)).toNat []) t))
    rw [Int.toNat_natCast]
    have i1 : (0 : Int) ≤ (k : Int) := by omega
    have i2 : (k : Int) < (ss.length : Int) := by omega
    have hg2 : decide ((k : Int) < 0) = false := decide_eq_false (by omega)
    have hg3 : decide ((ss.length : Int) ≤ (k : Int)) = false := decide_eq_false (by omega)
    have HLT := Lib.hid hlt
    have HSM := Lib.hid (Nat.le_trans (zL_seg hlt) HSS.out)
    have HSZ : Hid (szL (rowsV (ss.getD k []) t) ≤ 1048576) := Lib.hid (by have h1 := zL_rowsV (ss.getD k []) t; have h2 := HSM.out; rw [← zL_rows]; omega)
    have HSK := Lib.hid (HSR.out.2 k hlt)
    clear hg0
    go_enter Try.func42, Try.ntmps42
    go_wp2_with fail
    generalize w.alloc (.cells #[.slice a ss.length cap, .int .i64 now] 45) = W at *
    refine (HI.out W (slR_below tVersionS_law H.out d0.out) (lsR_below HLS.out d0.out) (segsR_below HSR.out d0.out)).mono ?_
    rintro e w1 ⟨g, bs, rfl, ht, b1⟩
    have D1 := Lib.hid (d0.out.trans (b1.mono d0.out.size))
    have HT := Lib.hid ht
    clear ht b1
    obtain ⟨_, tg, tl, trow, _⟩ := HT.out
    obtain ⟨r0, r1, _⟩ := trow k (by have := HUL.out; have := HLT.out; omega)
    have HC := Lib.hid (segRowsAt (bs.getD k 0) (us.getD k s0V) (ss.getD k []) t w w1 D1.out r1 HSK.out.1 HSK.out.2 HSM.out)
    unfold ptrV at r0 HC
    clear trow tg tl r1 HSK
    generalize bs.getD k 0 = pb at *
    generalize us.getD k s0V = u at *
    generalize ss.getD k [] = seg at *
    go_wp2_with fail
    refine HC.out.mono ?_
    rintro e w3 ⟨v3, M, rfl, o3, sh3, b3⟩
    obtain ⟨ma, mc, rfl⟩ := slO_len o3
    have D3 := Lib.hid (D1.out.trans (b3.mono D1.out.size))
    have HR := Lib.hid (slR_rows (raw_reads (T := tRow) (by decide) o3 (sh_below tRow_law sh3 D3.out)))
    clear o3 sh3 b3 r0
    go_wp2_with fail
    refine (copyRows_any (.slice ma M.length mc) _ w3 HR.out HSZ.out).mono ?_
    rintro e w4 ⟨v4, rfl, ho4, b4⟩
    have D4 := Lib.hid (D3.out.trans (b4.mono D3.out.size))
    have HO4 := Lib.hid ho4
    clear ho4 b4 HR
    go_wp2
    go_ret
    exact ⟨_, rfl, ownsR_slO HO4.out (fun b hb => Nat.le_trans D3.out.size hb), D4.out⟩
end Go.Proofs.Ytginjmnohnidiaa
namespace Go.Proofs.Ytginjmnohnidiaa
open Go.RowKit
set_option linter.unusedVariables false
set_option linter.unusedSimpArgs false
set_option maxHeartbeats 32000000 in
set_option maxRecDepth 100000 in
theorem law_fnExactRowsAt (a0_1 : Int) (v0_0 : Value) (x0_0 : List (List (Int × List Int × Int × Int))) (n1 : Int) (w1 : (Lit.int .i64 n1).wf = true) (r0 : List (Int × List Int)) (w : World) (h0_0 : SlR tVersionS w v0_0 x0_0) (o0_0 : tVersionSS.ok x0_0) (z0 : zL tRow r0 ≤ 1048576)
    (hspec : ∀ (v0_0 : Value) (w : World), SlR tVersionS w v0_0 x0_0 → zL tVersionS x0_0 ≤ 1048576 → Calls Try.prog 39 #[.agg #[v0_0, .int .i64 a0_1], .int .i64 n1] w (fun e w' => ∃ (g0 : Value) (G0 : Nat → Prop), e = .returned (g0) ∧ SlO 76 tRow w' G0 g0 r0 ∧ (∀ b, G0 b → w.heap.size ≤ b) ∧ Below w.heap.size w w'))
    (himpl : ∀ (v0_0 : Value) (w : World), SlR tVersionS w v0_0 x0_0 → zL tVersionS x0_0 ≤ 1048576 → Calls Try.prog 40 #[.agg #[v0_0, .int .i64 a0_1], .int .i64 n1] w (fun e w' => ∃ (g0 : Value) (G0 : Nat → Prop), e = .returned (g0) ∧ SlO 76 tRow w' G0 g0 r0 ∧ (∀ b, G0 b → w.heap.size ≤ b) ∧ Below w.heap.size w w')) :
    Calls Try.prog 8 #[.agg #[v0_0, .int .i64 a0_1], .int .i64 n1] w fun e w' => e = .returned (.bool true) ∧ Below w.heap.size w w' := by
  obtain ⟨c0_0, k0_0, rfl⟩ := slR_len h0_0
  have HB0 : Hid (Below w.heap.size w (w.alloc (.cells #[.slice c0_0 x0_0.length k0_0, .int .i64 a0_1] 53))) := Lib.hid ((Below.refl _ w).alloc (Nat.le_refl _) _)
  have B0 : Hid ((w.alloc (.cells #[.slice c0_0 x0_0.length k0_0, .int .i64 a0_1] 53)).heap[w.heap.size]? = some (.cells #[.slice c0_0 x0_0.length k0_0, .int .i64 a0_1] 53 (0, 0))) := Lib.hid (by have := heap_alloc_new w (.cells #[.slice c0_0 x0_0.length k0_0, .int .i64 a0_1] 53); simpa only [World.size_alloc] using this)
  have A0_0 : Hid (SlR tVersionS (w.alloc (.cells #[.slice c0_0 x0_0.length k0_0, .int .i64 a0_1] 53)) (.slice c0_0 x0_0.length k0_0) x0_0) := Lib.hid (slR_below tVersionS_law h0_0 HB0.out)
  have O0_0 := Lib.hid o0_0
  clear h0_0 o0_0
  have HSP := Lib.hid hspec
  have HIM := Lib.hid himpl
  clear hspec himpl
  have Z0 := Lib.hid z0
  clear z0
  by_cases c0 : ((zL tVersionS x0_0 : Nat) : Int) ≤ (1048576 : Int)
  ·
    have HZ0 : Hid (((zL tVersionS x0_0 : Nat) : Int) ≤ (1048576 : Int)) := Lib.hid c0
    have HK0 : Hid ((1048576 : Int) ≤ 1048576) := Lib.hid (by omega)
    have hn0 : ¬ (1048576 : Int) - ((zL tVersionS x0_0 : Nat) : Int) < 0 := by omega
    have HT : Hid (zL tVersionS x0_0 ≤ 1048576) := Lib.hid (by omega)
    have S0_0 : Hid (zL tVersionS x0_0 ≤ 1048576) := Lib.hid (by omega)
    have N0_0 := ndL_le tVersionS_law (by decide) x0_0
    have M0 : Hid (0 ≤ (1 : Int) ∧ (1 : Int) ≤ 134217728) := Lib.hid (by have := HT.out; omega)
    have hk : ¬ (1 + (ndL tVersionS x0_0 : Int) : Int) < 0 := by omega
    clear N0_0
    have NR0 := ndL_le tRow_law (by decide) r0
    have MR0 : Hid (0 ≤ (1 : Int) ∧ (1 : Int) ≤ 134217728) := Lib.hid (by have := Z0.out; omega)
    have hh0 : ¬ (1 + (ndL tRow r0 : Int) : Int) < 0 := by have := Z0.out; omega
    have hq : ((1 + (ndL tRow r0 : Int) : Int) != 1 + (ndL tRow r0 : Int)) = false := by simp
    clear NR0
    clear c0
    go_enter Try.func8, Try.ntmps8
    go_wp2_with fail
    have Y_W : Hid (w.heap.size + 1 ≤ (w.alloc (.cells #[.slice c0_0 x0_0.length k0_0, .int .i64 a0_1] 53)).heap.size) := Lib.hid (by simp [World.size_alloc])
    generalize (w.alloc (.cells #[.slice c0_0 x0_0.length k0_0, .int .i64 a0_1] 53)) = W at *
    have d := Lib.hid (Below.refl W.heap.size W)
    refine (szStore_Y a0_1 (.slice c0_0 x0_0.length k0_0) x0_0 ((1048576 : Int)) W (slR_below tVersionS_law A0_0.out d.out) HZ0.out HK0.out).mono ?_
    rintro e v1 ⟨rfl, c1⟩
    replace B0 := Lib.hid ((c1.block w.heap.size (Array.getElem?_eq_some_iff.1 B0.out).1).trans B0.out)
    replace d := Lib.hid (d.out.trans (c1.mono d.out.size))
    have Z_v1 := Lib.hid (show W.heap.size ≤ v1.heap.size from c1.size)
    clear c1
    have p_B0_0 := (cell_of_row v1 _ 0 _ _ _ B0.out).trans (show _ = some (Value.slice c0_0 x0_0.length k0_0) from rfl)
    have p_B0_1 := (cell_of_row v1 _ 1 _ _ _ B0.out).trans (show _ = some (Value.int .i64 a0_1) from rfl)
    go_wp2_with fail
    clear p_B0_0 p_B0_1
    refine (toStore_T a0_1 (.slice c0_0 x0_0.length k0_0) x0_0 v1 (slR_below tVersionS_law A0_0.out d.out) S0_0.out).mono ?_
    rintro e v2 ⟨cs, rfl, ow, c2⟩
    replace B0 := Lib.hid ((c2.block w.heap.size (Array.getElem?_eq_some_iff.1 B0.out).1).trans B0.out)
    replace d := Lib.hid (d.out.trans (c2.mono d.out.size))
    have Z_v2 := Lib.hid (show v1.heap.size ≤ v2.heap.size from c2.size)
    clear c2
    replace ow := tStore_law.lt ow
    obtain ⟨y2_0, K2_0, rfl, p2_0, w2_0⟩ := tStore_O ow
    obtain ⟨ya2_0, yc2_0, rfl⟩ := slO_len p2_0
    have P2_0 := Lib.hid p2_0
    have Q2_0 := Lib.hid (fun b h => (show v1.heap.size ≤ b ∧ b < v2.heap.size from w2_0 b h))
    clear p2_0 w2_0 ow
    go_wp2_with fail
    refine (HSP.out (.slice ya2_0 x0_0.length yc2_0) v2 (slO_reads tVersionS_law P2_0.out) HT.out ).mono ?_
    rintro e v3 ⟨g0, G0, rfl, o0, q0, c3⟩
    replace B0 := Lib.hid ((c3.block w.heap.size (Array.getElem?_eq_some_iff.1 B0.out).1).trans B0.out)
    replace P2_0 := Lib.hid (slO_fresh tVersionS_law P2_0.out c3)
    replace d := Lib.hid (d.out.trans (c3.mono d.out.size))
    have Z_v3 := Lib.hid (show v2.heap.size ≤ v3.heap.size from c3.size)
    clear c3
    obtain ⟨ya3, yc3, rfl⟩ := slO_len o0
    have P3 := Lib.hid (slO_lt tRow_law o0)
    have Q3 := Lib.hid (fun b (h : _ ∧ b < v3.heap.size) => (show v2.heap.size ≤ b ∧ b < v3.heap.size from ⟨q0 b h.1, h.2⟩))
    clear o0 q0
    have p_B0_0 := (cell_of_row v3 _ 0 _ _ _ B0.out).trans (show _ = some (Value.slice c0_0 x0_0.length k0_0) from rfl)
    have p_B0_1 := (cell_of_row v3 _ 1 _ _ _ B0.out).trans (show _ = some (Value.int .i64 a0_1) from rfl)
    go_wp2_with fail
    clear p_B0_0 p_B0_1
    refine (toStore_T a0_1 (.slice c0_0 x0_0.length k0_0) x0_0 v3 (slR_below tVersionS_law A0_0.out d.out) S0_0.out).mono ?_
    rintro e v4 ⟨cs, rfl, ow, c4⟩
    replace B0 := Lib.hid ((c4.block w.heap.size (Array.getElem?_eq_some_iff.1 B0.out).1).trans B0.out)
    replace P2_0 := Lib.hid (slO_fresh tVersionS_law P2_0.out c4)
    replace P3 := Lib.hid (slO_fresh tRow_law P3.out c4)
    replace d := Lib.hid (d.out.trans (c4.mono d.out.size))
    have Z_v4 := Lib.hid (show v3.heap.size ≤ v4.heap.size from c4.size)
    clear c4
    replace ow := tStore_law.lt ow
    obtain ⟨y4_0, K4_0, rfl, p4_0, w4_0⟩ := tStore_O ow
    obtain ⟨ya4_0, yc4_0, rfl⟩ := slO_len p4_0
    have P4_0 := Lib.hid p4_0
    have Q4_0 := Lib.hid (fun b h => (show v3.heap.size ≤ b ∧ b < v4.heap.size from w4_0 b h))
    clear p4_0 w4_0 ow
    have hal : Below v4.heap.size v4 (v4.alloc (.cells #[.slice ya4_0 x0_0.length yc4_0, .int .i64 a0_1] 45)) := (Below.refl _ _).alloc (Nat.le_refl _) _
    have X1 := Lib.hid (heap_alloc_new v4 (.cells #[.slice ya4_0 x0_0.length yc4_0, .int .i64 a0_1] 45))
    have Y_X1 := Lib.hid (show v4.heap.size < (v4.alloc (.cells #[.slice ya4_0 x0_0.length yc4_0, .int .i64 a0_1] 45)).heap.size by simp [World.size_alloc])
    replace B0 := Lib.hid ((hal.block w.heap.size (Array.getElem?_eq_some_iff.1 B0.out).1).trans B0.out)
    replace P2_0 := Lib.hid (slO_fresh tVersionS_law P2_0.out hal)
    replace P3 := Lib.hid (slO_fresh tRow_law P3.out hal)
    replace P4_0 := Lib.hid (slO_fresh tVersionS_law P4_0.out hal)
    replace d := Lib.hid (d.out.trans (hal.mono d.out.size))
    clear hal
    have p_X1_0 := (cell_of_row (v4.alloc (.cells #[.slice ya4_0 x0_0.length yc4_0, .int .i64 a0_1] 45)) _ 0 _ _ _ X1.out).trans (show _ = some (Value.slice ya4_0 x0_0.length yc4_0) from rfl)
    have p_X1_1 := (cell_of_row (v4.alloc (.cells #[.slice ya4_0 x0_0.length yc4_0, .int .i64 a0_1] 45)) _ 1 _ _ _ X1.out).trans (show _ = some (Value.int .i64 a0_1) from rfl)
    go_wp2_with fail
    clear p_X1_0 p_X1_1
    generalize (v4.alloc (.cells #[.slice ya4_0 x0_0.length yc4_0, .int .i64 a0_1] 45)) = u5 at *
    refine (HIM.out (.slice ya4_0 x0_0.length yc4_0) u5 (slO_reads tVersionS_law P4_0.out) HT.out ).mono ?_
    rintro e v6 ⟨g0, G0, rfl, o0, q0, c6⟩
    replace B0 := Lib.hid ((c6.block w.heap.size (Array.getElem?_eq_some_iff.1 B0.out).1).trans B0.out)
    replace X1 := Lib.hid ((c6.block v4.heap.size (Array.getElem?_eq_some_iff.1 X1.out).1).trans X1.out)
    replace P2_0 := Lib.hid (slO_fresh tVersionS_law P2_0.out c6)
    replace P3 := Lib.hid (slO_fresh tRow_law P3.out c6)
    replace P4_0 := Lib.hid (slO_fresh tVersionS_law P4_0.out c6)
    replace d := Lib.hid (d.out.trans (c6.mono d.out.size))
    have Z_v6 := Lib.hid (show u5.heap.size ≤ v6.heap.size from c6.size)
    clear c6
    obtain ⟨ya6, yc6, rfl⟩ := slO_len o0
    have P6 := Lib.hid (slO_lt tRow_law o0)
    have Q6 := Lib.hid (fun b (h : _ ∧ b < v6.heap.size) => (show u5.heap.size ≤ b ∧ b < v6.heap.size from ⟨q0 b h.1, h.2⟩))
    clear o0 q0
    go_wp2_with fail
    refine (eqRowS_S (.slice ya6 r0.length yc6) (.slice ya3 r0.length yc3) r0 v6 (slO_reads tRow_law P6.out) (slO_reads tRow_law P3.out) Z0.out).mono ?_
    rintro e v7 ⟨rfl, c7⟩
    replace B0 := Lib.hid ((c7.block w.heap.size (Array.getElem?_eq_some_iff.1 B0.out).1).trans B0.out)
    replace X1 := Lib.hid ((c7.block v4.heap.size (Array.getElem?_eq_some_iff.1 X1.out).1).trans X1.out)
    replace P2_0 := Lib.hid (slO_fresh tVersionS_law P2_0.out c7)
    replace P3 := Lib.hid (slO_fresh tRow_law P3.out c7)
    replace P4_0 := Lib.hid (slO_fresh tVersionS_law P4_0.out c7)
    replace P6 := Lib.hid (slO_fresh tRow_law P6.out c7)
    replace d := Lib.hid (d.out.trans (c7.mono d.out.size))
    have Z_v7 := Lib.hid (show v6.heap.size ≤ v7.heap.size from c7.size)
    clear c7
    go_wp2
    have p_B0_0 := (cell_of_row v7 _ 0 _ _ _ B0.out).trans (show _ = some (Value.slice c0_0 x0_0.length k0_0) from rfl)
    have p_B0_1 := (cell_of_row v7 _ 1 _ _ _ B0.out).trans (show _ = some (Value.int .i64 a0_1) from rfl)
    have p_X1_0 := (cell_of_row v7 _ 0 _ _ _ X1.out).trans (show _ = some (Value.slice ya4_0 x0_0.length yc4_0) from rfl)
    have p_X1_1 := (cell_of_row v7 _ 1 _ _ _ X1.out).trans (show _ = some (Value.int .i64 a0_1) from rfl)
    refine wp_region_held_drew (S := fun w' => w'.cell? ⟨w.heap.size, 0, none⟩ = some (Value.slice c0_0 x0_0.length k0_0) ∧ w'.cell? ⟨w.heap.size, 1, none⟩ = some (Value.int .i64 a0_1) ∧ w'.cell? ⟨v4.heap.size, 0, none⟩ = some (Value.slice ya4_0 x0_0.length yc4_0) ∧ w'.cell? ⟨v4.heap.size, 1, none⟩ = some (Value.int .i64 a0_1)) (by kernel_rfl) ⟨p_B0_0, p_B0_1, p_X1_0, p_X1_1⟩ (fun hHeld => ?_)
    clear p_B0_0 p_B0_1 p_X1_0 p_X1_1
    have cd8 : Below v7.heap.size v7 v7.drew := below_drew (Below.refl _ _)
    replace B0 := Lib.hid ((cd8.block w.heap.size (Array.getElem?_eq_some_iff.1 B0.out).1).trans B0.out)
    replace X1 := Lib.hid ((cd8.block v4.heap.size (Array.getElem?_eq_some_iff.1 X1.out).1).trans X1.out)
    replace P2_0 := Lib.hid (slO_fresh tVersionS_law P2_0.out cd8)
    replace P3 := Lib.hid (slO_fresh tRow_law P3.out cd8)
    replace P4_0 := Lib.hid (slO_fresh tVersionS_law P4_0.out cd8)
    replace P6 := Lib.hid (slO_fresh tRow_law P6.out cd8)
    replace d := Lib.hid (d.out.trans (cd8.mono d.out.size))
    clear cd8
    refine take_runs (i := 0) (v := ?_) (by simp only [List.getElem?_toArray, List.getElem?_cons_succ, List.getElem?_cons_zero]; rfl) (by kernel_rfl) (by kernel_rfl) (by kernel_rfl) rfl (by exact fun _ _ _ h => h) (by rfl) ?_ (by assumption) ?_
    rotate_left
    · intro w hSw; (try dsimp only at hSw); go_simp; try (with_reducible rfl)
    try simp only [Act.put, List.setIfInBounds_toArray, List.set_cons_zero, List.set_cons_succ]
    refine take_runs (i := 1) (v := ?_) (by simp only [List.getElem?_toArray, List.getElem?_cons_succ, List.getElem?_cons_zero]; rfl) (by kernel_rfl) (by kernel_rfl) (by kernel_rfl) rfl (by exact fun _ _ _ h => h) (by rfl) ?_ (by assumption) ?_
    rotate_left
    · intro w hSw; (try dsimp only at hSw); go_simp; try (with_reducible rfl)
    try simp only [Act.put, List.setIfInBounds_toArray, List.set_cons_zero, List.set_cons_succ]
    refine wpAnyH_ready (rs := [2]) (by kernel_rfl) (by simp) ?_
    refine AllReadyH.cons (o := _) (by simp only [List.getElem?_toArray, List.getElem?_cons_succ, List.getElem?_cons_zero]; rfl) (fun K hK => ?_) AllReadyH.nil
    go_simp
    refine (toStore_T a0_1 (.slice c0_0 x0_0.length k0_0) x0_0 (v7.drew) (slR_below tVersionS_law A0_0.out d.out) S0_0.out).mono ?_
    rintro e v9 ⟨cs, rfl, ow, c9⟩
    replace B0 := Lib.hid ((c9.block w.heap.size (Array.getElem?_eq_some_iff.1 B0.out).1).trans B0.out)
    replace X1 := Lib.hid ((c9.block v4.heap.size (Array.getElem?_eq_some_iff.1 X1.out).1).trans X1.out)
    replace P2_0 := Lib.hid (slO_fresh tVersionS_law P2_0.out c9)
    replace P3 := Lib.hid (slO_fresh tRow_law P3.out c9)
    replace P4_0 := Lib.hid (slO_fresh tVersionS_law P4_0.out c9)
    replace P6 := Lib.hid (slO_fresh tRow_law P6.out c9)
    replace d := Lib.hid (d.out.trans (c9.mono d.out.size))
    have Z_v9 := Lib.hid (show v7.heap.size ≤ v9.heap.size from c9.size)
    clear c9
    replace ow := tStore_law.lt ow
    obtain ⟨y9_0, K9_0, rfl, p9_0, w9_0⟩ := tStore_O ow
    obtain ⟨ya9_0, yc9_0, rfl⟩ := slO_len p9_0
    have P9_0 := Lib.hid p9_0
    have Q9_0 := Lib.hid (fun b h => (show (v7.drew).heap.size ≤ b ∧ b < v9.heap.size from w9_0 b h))
    clear p9_0 w9_0 ow
    have p_B0_0 := (cell_of_row v9 _ 0 _ _ _ B0.out).trans (show _ = some (Value.slice c0_0 x0_0.length k0_0) from rfl)
    have p_B0_1 := (cell_of_row v9 _ 1 _ _ _ B0.out).trans (show _ = some (Value.int .i64 a0_1) from rfl)
    have p_X1_0 := (cell_of_row v9 _ 0 _ _ _ X1.out).trans (show _ = some (Value.slice ya4_0 x0_0.length yc4_0) from rfl)
    have p_X1_1 := (cell_of_row v9 _ 1 _ _ _ X1.out).trans (show _ = some (Value.int .i64 a0_1) from rfl)
    refine hK.out _ _ ⟨p_B0_0, p_B0_1, p_X1_0, p_X1_1⟩ (fun hHeld => ?_)
    clear p_B0_0 p_B0_1 p_X1_0 p_X1_1
    clear hK K
    try simp only [Act.put, List.setIfInBounds_toArray, List.set_cons_zero, List.set_cons_succ]
    refine wpAnyH_ready (rs := [3]) (by kernel_rfl) (by simp) ?_
    refine AllReadyH.cons (o := _) (by simp only [List.getElem?_toArray, List.getElem?_cons_succ, List.getElem?_cons_zero]; rfl) (fun K hK => ?_) AllReadyH.nil
    go_simp
    refine (eqStore_T a0_1 (.slice ya4_0 x0_0.length yc4_0) x0_0 (.slice ya9_0 x0_0.length yc9_0) v9 (slO_reads tVersionS_law P4_0.out) (slO_reads tVersionS_law P9_0.out) S0_0.out).mono ?_
    rintro e v10 ⟨rfl, c10⟩
    replace B0 := Lib.hid ((c10.block w.heap.size (Array.getElem?_eq_some_iff.1 B0.out).1).trans B0.out)
    replace X1 := Lib.hid ((c10.block v4.heap.size (Array.getElem?_eq_some_iff.1 X1.out).1).trans X1.out)
    replace P2_0 := Lib.hid (slO_fresh tVersionS_law P2_0.out c10)
    replace P3 := Lib.hid (slO_fresh tRow_law P3.out c10)
    replace P4_0 := Lib.hid (slO_fresh tVersionS_law P4_0.out c10)
    replace P6 := Lib.hid (slO_fresh tRow_law P6.out c10)
    replace P9_0 := Lib.hid (slO_fresh tVersionS_law P9_0.out c10)
    replace d := Lib.hid (d.out.trans (c10.mono d.out.size))
    have Z_v10 := Lib.hid (show v9.heap.size ≤ v10.heap.size from c10.size)
    clear c10
    clear P9_0
    have p_B0_0 := (cell_of_row v10 _ 0 _ _ _ B0.out).trans (show _ = some (Value.slice c0_0 x0_0.length k0_0) from rfl)
    have p_B0_1 := (cell_of_row v10 _ 1 _ _ _ B0.out).trans (show _ = some (Value.int .i64 a0_1) from rfl)
    have p_X1_0 := (cell_of_row v10 _ 0 _ _ _ X1.out).trans (show _ = some (Value.slice ya4_0 x0_0.length yc4_0) from rfl)
    have p_X1_1 := (cell_of_row v10 _ 1 _ _ _ X1.out).trans (show _ = some (Value.int .i64 a0_1) from rfl)
    refine hK.out _ _ ⟨p_B0_0, p_B0_1, p_X1_0, p_X1_1⟩ (fun hHeld => ?_)
    clear p_B0_0 p_B0_1 p_X1_0 p_X1_1
    clear hK K
    try simp only [Act.put, List.setIfInBounds_toArray, List.set_cons_zero, List.set_cons_succ]
    refine take_runs (i := 4) (v := ?_) (by simp only [List.getElem?_toArray, List.getElem?_cons_succ, List.getElem?_cons_zero]; rfl) (by kernel_rfl) (by kernel_rfl) (by kernel_rfl) rfl (by exact fun _ _ _ h => h) (by rfl) ?_ (by assumption) ?_
    rotate_left
    · intro w hSw; (try dsimp only at hSw); go_simp; try (with_reducible rfl)
    try simp only [Act.put, List.setIfInBounds_toArray, List.set_cons_zero, List.set_cons_succ]
    refine wpAnyH_done (by kernel_rfl) ?_ _
    clear hHeld
    have p_X1_0 := (cell_of_row v10 _ 0 _ _ _ X1.out).trans (show _ = some (Value.slice ya4_0 x0_0.length yc4_0) from rfl)
    have p_X1_1 := (cell_of_row v10 _ 1 _ _ _ X1.out).trans (show _ = some (Value.int .i64 a0_1) from rfl)
    go_wp2_with fail
    clear p_X1_0 p_X1_1
    refine (markStore_T a0_1 (.slice ya4_0 x0_0.length yc4_0) x0_0 (fun b => v3.heap.size ≤ b ∧ b < v4.heap.size) _ (1) v10 P4_0.out Q4_0.out  S0_0.out M0.out.1 (by have := M0.out.2; omega)).mono ?_
    rintro e v11 ⟨rfl, m0, c11⟩
    have y0 := Y_W.out
    have y1 := Z_v1.out
    have y2 := Z_v2.out
    have y3 := Z_v3.out
    have y4 := Z_v4.out
    have y5 := Y_X1.out
    have y6 := Z_v6.out
    have y7 := Z_v7.out
    have y8 := Z_v9.out
    have y9 := Z_v10.out
    have yd : W.heap.size ≤ v10.heap.size := d.out.size
    replace B0 := Lib.hid ((c11.block w.heap.size (Array.getElem?_eq_some_iff.1 B0.out).1 (fun h => by have r2 := h; omega)).trans B0.out)
    replace X1 := Lib.hid ((c11.block v4.heap.size (Array.getElem?_eq_some_iff.1 X1.out).1 (fun h => by have r2 := h; omega)).trans X1.out)
    replace P2_0 := Lib.hid (slO_turn tVersionS_law P2_0.out c11 (fun b h1 h2 => by have r1 := Q2_0.out b h1; have r2 := h2; omega))
    replace P3 := Lib.hid (slO_turn tRow_law P3.out c11 (fun b h1 h2 => by have r1 := Q3.out b h1; have r2 := h2; omega))
    replace P6 := Lib.hid (slO_turn tRow_law P6.out c11 (fun b h1 h2 => by have r1 := Q6.out b h1; have r2 := h2; omega))
    replace d := Lib.hid (below_turn d.out c11 (fun b h => by have r2 := h; omega) (by omega))
    clear yd y0 y1 y2 y3 y4 y5 y6 y7 y8 y9
    have Z_v11 := Lib.hid (show v10.heap.size ≤ v11.heap.size from c11.size)
    clear P4_0
    clear m0 c11
    go_wp2_with fail
    refine (eqRowS_S (.slice ya6 r0.length yc6) (.slice ya3 r0.length yc3) r0 v11 (slO_reads tRow_law P6.out) (slO_reads tRow_law P3.out) Z0.out).mono ?_
    rintro e v12 ⟨rfl, c12⟩
    replace B0 := Lib.hid ((c12.block w.heap.size (Array.getElem?_eq_some_iff.1 B0.out).1).trans B0.out)
    replace X1 := Lib.hid ((c12.block v4.heap.size (Array.getElem?_eq_some_iff.1 X1.out).1).trans X1.out)
    replace P2_0 := Lib.hid (slO_fresh tVersionS_law P2_0.out c12)
    replace P3 := Lib.hid (slO_fresh tRow_law P3.out c12)
    replace P6 := Lib.hid (slO_fresh tRow_law P6.out c12)
    replace d := Lib.hid (d.out.trans (c12.mono d.out.size))
    have Z_v12 := Lib.hid (show v11.heap.size ≤ v12.heap.size from c12.size)
    clear c12
    go_wp2_with fail
    refine (markRowS_S (.slice ya6 r0.length yc6) r0 _ (1) v12 P6.out Z0.out MR0.out.1 (by have := MR0.out.2; omega)).mono ?_
    rintro e v13 ⟨rfl, m0, c13⟩
    have y0 := Y_W.out
    have y1 := Z_v1.out
    have y2 := Z_v2.out
    have y3 := Z_v3.out
    have y4 := Z_v4.out
    have y5 := Y_X1.out
    have y6 := Z_v6.out
    have y7 := Z_v7.out
    have y8 := Z_v9.out
    have y9 := Z_v10.out
    have y10 := Z_v11.out
    have y11 := Z_v12.out
    have yd : W.heap.size ≤ v12.heap.size := d.out.size
    replace B0 := Lib.hid ((c13.block w.heap.size (Array.getElem?_eq_some_iff.1 B0.out).1 (fun h => by have r2 := Q6.out w.heap.size h; omega)).trans B0.out)
    replace X1 := Lib.hid ((c13.block v4.heap.size (Array.getElem?_eq_some_iff.1 X1.out).1 (fun h => by have r2 := Q6.out v4.heap.size h; omega)).trans X1.out)
    replace P2_0 := Lib.hid (slO_turn tVersionS_law P2_0.out c13 (fun b h1 h2 => by have r1 := Q2_0.out b h1; have r2 := Q6.out b h2; omega))
    replace P3 := Lib.hid (slO_turn tRow_law P3.out c13 (fun b h1 h2 => by have r1 := Q3.out b h1; have r2 := Q6.out b h2; omega))
    replace d := Lib.hid (below_turn d.out c13 (fun b h => by have r2 := Q6.out b h; omega) (by omega))
    clear yd y0 y1 y2 y3 y4 y5 y6 y7 y8 y9 y10 y11
    have Z_v13 := Lib.hid (show v12.heap.size ≤ v13.heap.size from c13.size)
    replace P6 := Lib.hid m0
    clear m0 c13
    go_wp2_with fail
    refine (heldRowS_S (.slice ya6 r0.length yc6) r0 (1) v13 (slO_reads tRow_law P6.out) Z0.out MR0.out.1 (by have := MR0.out.2; omega)).mono ?_
    rintro e v14 ⟨rfl, rfl⟩
    have p_B0_0 := (cell_of_row v13 _ 0 _ _ _ B0.out).trans (show _ = some (Value.slice c0_0 x0_0.length k0_0) from rfl)
    have p_B0_1 := (cell_of_row v13 _ 1 _ _ _ B0.out).trans (show _ = some (Value.int .i64 a0_1) from rfl)
    go_wp2_with fail
    clear p_B0_0 p_B0_1
    refine (toStore_T a0_1 (.slice c0_0 x0_0.length k0_0) x0_0 v13 (slR_below tVersionS_law A0_0.out d.out) S0_0.out).mono ?_
    rintro e v15 ⟨cs, rfl, ow, c15⟩
    replace B0 := Lib.hid ((c15.block w.heap.size (Array.getElem?_eq_some_iff.1 B0.out).1).trans B0.out)
    replace X1 := Lib.hid ((c15.block v4.heap.size (Array.getElem?_eq_some_iff.1 X1.out).1).trans X1.out)
    replace P2_0 := Lib.hid (slO_fresh tVersionS_law P2_0.out c15)
    replace P3 := Lib.hid (slO_fresh tRow_law P3.out c15)
    replace P6 := Lib.hid (slO_fresh tRow_law P6.out c15)
    replace d := Lib.hid (d.out.trans (c15.mono d.out.size))
    have Z_v15 := Lib.hid (show v13.heap.size ≤ v15.heap.size from c15.size)
    clear c15
    replace ow := tStore_law.lt ow
    obtain ⟨y15_0, K15_0, rfl, p15_0, w15_0⟩ := tStore_O ow
    obtain ⟨ya15_0, yc15_0, rfl⟩ := slO_len p15_0
    have P15_0 := Lib.hid p15_0
    have Q15_0 := Lib.hid (fun b h => (show v13.heap.size ≤ b ∧ b < v15.heap.size from w15_0 b h))
    clear p15_0 w15_0 ow
    go_wp2_with fail
    refine (HIM.out (.slice ya15_0 x0_0.length yc15_0) v15 (slO_reads tVersionS_law P15_0.out) HT.out ).mono ?_
    rintro e v16 ⟨g0, G0, rfl, o0, q0, c16⟩
    replace B0 := Lib.hid ((c16.block w.heap.size (Array.getElem?_eq_some_iff.1 B0.out).1).trans B0.out)
    replace X1 := Lib.hid ((c16.block v4.heap.size (Array.getElem?_eq_some_iff.1 X1.out).1).trans X1.out)
    replace P2_0 := Lib.hid (slO_fresh tVersionS_law P2_0.out c16)
    replace P3 := Lib.hid (slO_fresh tRow_law P3.out c16)
    replace P6 := Lib.hid (slO_fresh tRow_law P6.out c16)
    replace P15_0 := Lib.hid (slO_fresh tVersionS_law P15_0.out c16)
    replace d := Lib.hid (d.out.trans (c16.mono d.out.size))
    have Z_v16 := Lib.hid (show v15.heap.size ≤ v16.heap.size from c16.size)
    clear c16
    obtain ⟨ya16, yc16, rfl⟩ := slO_len o0
    have P16 := Lib.hid (slO_lt tRow_law o0)
    have Q16 := Lib.hid (fun b (h : _ ∧ b < v16.heap.size) => (show v15.heap.size ≤ b ∧ b < v16.heap.size from ⟨q0 b h.1, h.2⟩))
    clear o0 q0
    go_wp2_with fail
    refine (eqRowS_S (.slice ya16 r0.length yc16) (.slice ya3 r0.length yc3) r0 v16 (slO_reads tRow_law P16.out) (slO_reads tRow_law P3.out) Z0.out).mono ?_
    rintro e v17 ⟨rfl, c17⟩
    replace B0 := Lib.hid ((c17.block w.heap.size (Array.getElem?_eq_some_iff.1 B0.out).1).trans B0.out)
    replace X1 := Lib.hid ((c17.block v4.heap.size (Array.getElem?_eq_some_iff.1 X1.out).1).trans X1.out)
    replace P2_0 := Lib.hid (slO_fresh tVersionS_law P2_0.out c17)
    replace P3 := Lib.hid (slO_fresh tRow_law P3.out c17)
    replace P6 := Lib.hid (slO_fresh tRow_law P6.out c17)
    replace P15_0 := Lib.hid (slO_fresh tVersionS_law P15_0.out c17)
    replace P16 := Lib.hid (slO_fresh tRow_law P16.out c17)
    replace d := Lib.hid (d.out.trans (c17.mono d.out.size))
    have Z_v17 := Lib.hid (show v16.heap.size ≤ v17.heap.size from c17.size)
    clear c17
    go_wp2_with fail
    refine (heldRowS_S (.slice ya6 r0.length yc6) r0 (1) v17 (slO_reads tRow_law P6.out) Z0.out MR0.out.1 (by have := MR0.out.2; omega)).mono ?_
    rintro e v18 ⟨rfl, rfl⟩
    go_wp2
    go_ret
    exact ⟨rfl, HB0.out.trans (d.out.mono HB0.out.size)⟩
  ·
    have HZ0 : Hid ((1048576 : Int) < ((zL tVersionS x0_0 : Nat) : Int)) := Lib.hid (by omega)
    have HP0 : Hid (0 ≤ (1048576 : Int)) := Lib.hid (by omega)
    have HK0 : Hid ((1048576 : Int) ≤ 1048576) := Lib.hid (by omega)
    clear c0
    go_enter Try.func8, Try.ntmps8
    go_wp2_with fail
    have Y_W : Hid (w.heap.size + 1 ≤ (w.alloc (.cells #[.slice c0_0 x0_0.length k0_0, .int .i64 a0_1] 53)).heap.size) := Lib.hid (by simp [World.size_alloc])
    generalize (w.alloc (.cells #[.slice c0_0 x0_0.length k0_0, .int .i64 a0_1] 53)) = W at *
    have d := Lib.hid (Below.refl W.heap.size W)
    refine (szStore_N a0_1 (.slice c0_0 x0_0.length k0_0) x0_0 ((1048576 : Int)) W (slR_below tVersionS_law A0_0.out d.out) HZ0.out HK0.out HP0.out O0_0.out).mono ?_
    rintro e v1 ⟨rfl, c1⟩
    replace B0 := Lib.hid ((c1.block w.heap.size (Array.getElem?_eq_some_iff.1 B0.out).1).trans B0.out)
    replace d := Lib.hid (d.out.trans (c1.mono d.out.size))
    have Z_v1 := Lib.hid (show W.heap.size ≤ v1.heap.size from c1.size)
    clear c1
    go_wp2
    go_ret
    exact ⟨rfl, HB0.out.trans (d.out.mono HB0.out.size)⟩
end Go.Proofs.Ytginjmnohnidiaa
namespace Go.Proofs.Ytginjmnohnidiaa
open Go.ChangeShapes Go.WideShapes Go.ChangeAt Go.WideMaps Go.WideElems Go.RowKit
set_option linter.unusedVariables false
theorem laidOutP : laidOutB Try.prog = true := by kernel_rfl
end Go.Proofs.Ytginjmnohnidiaa
namespace Go.Proofs.Ytginjmnohnidiaa
open Go.ChangeShapes Go.WideShapes Go.ChangeAt Go.WideMaps Go.WideElems Go.RowKit
set_option linter.unusedVariables false
/-- Cells that the statement reads as a value of the type t are a datum of the kind T. -/
def Opn {α : Type} (T : Ty α) (t : TypeId) : Prop := ∀ {H : Type} {enc : TypeId × Value → H} {W : World} {held : Bool} {fuel : Nat} {cs : List Value} {x : DataW H × List MemPlace}, DataW.trod enc Try.prog W 0 (fun _ => true) held fuel t cs = some x → ∃ d, T.R W cs d ∧ T.ok d
theorem opn_int : Opn tInt 3 := by
  intro H enc W held fuel cs x h
  obtain ⟨a, e, _, _⟩ := DataW.trod_int Try.underlying3 h
  exact ⟨a, e, trivial⟩
theorem opn_cast {α : Type} {T : Ty α} {t : TypeId} (O : Opn T t) {H : Type} {enc : TypeId × Value → H} {W : World} {held : Bool} {fuel : Nat} {cs : List Value} {o k : Nat} {x : Option (DataW H × List MemPlace)} (hx : x.isSome) (h : DataW.trod enc Try.prog W 0 (fun _ => true) held fuel t ((cs.drop o).take k) = x) :
    ∃ d, T.R W ((cs.drop o).take k) d ∧ T.ok d := by
  cases x with
  | none => cases hx
  | some y => exact O h
set_option maxRecDepth 100000 in
theorem opn_slice {α : Type} {T : Ty α} (A : T.Law) {e t : TypeId} (e' : TypeId) (O : Opn T e) (hu : Try.prog.underlying t = some (.slice e)) (hC : Try.prog.cellsOf e = T.n) : Opn (tSl e' T) t := by
  intro H enc W held fuel cs x hf
  rcases Go.Deep.open_slice hu hf with ⟨rfl, _⟩ | ⟨a', len', cap', m, n, D, Pl, rfl, _, hl, hm, hmm, _, hx⟩
  · exact ⟨[], ⟨_, rfl, Or.inl ⟨rfl, none, 0, rfl⟩⟩, by simp, fun j hj => by simp at hj⟩
  · rw [if_pos rfl] at hmm
    subst hmm
    unfold maxLen at hm
    rw [hC] at hx
    have hpos := A.pos
    haveI : Inhabited α := ⟨T.d⟩
    obtain ⟨f, hf'⟩ := Go.Deep.choose_lt (α := α × List Value) (n := len') (p := fun i q => (∀ j, j < T.n → W.cell? ((a'.add (i * T.n)).add j) = q.2[j]?) ∧ T.R W q.2 q.1 ∧ T.ok q.1) (fun i hi => by
      obtain ⟨cs', h1, h2⟩ := hx i (by omega)
      obtain ⟨_, hlen, hc⟩ := World.cells?_some h1
      obtain ⟨d, hd, ho⟩ := O h2
      exact ⟨(d, cs'), hc, hd, ho⟩)
    have hat : ∀ j, j < len' → ((List.range len').map fun i => (f i).1).getD j T.d = (f j).1 := fun j hj => by simp [List.getD, hj]
    have hlen : ((List.range len').map fun i => (f i).1).length = len' := by simp
    refine ⟨(List.range len').map fun i => (f i).1, ⟨_, rfl, ?_⟩, by rw [hlen]; omega, fun j hj => by rw [hlen] at hj; rw [hat j hj]; exact (hf' j hj).2.2⟩
    by_cases h0 : len' = 0
    · subst h0
      exact Or.inl ⟨rfl, some a', _, rfl⟩
    · have h1 := (hf' 0 (by omega)).1 0 hpos
      have hcl : 0 < (f 0).2.length := by rw [A.len (hf' 0 (by omega)).2.1]; exact hpos
      rw [List.getElem?_eq_getElem hcl] at h1
      obtain ⟨b, off, spot⟩ := a'
      have hspot : spot = none := by simpa [Addr.add] using World.cell?_spot h1
      subst hspot
      refine Or.inr ⟨b, off, _, fun i => (f i).2, by rw [hlen], by rw [hlen]; exact hl, ?_, ?_⟩
      · have := World.block_lt_of_cell? W _ h1
        simpa [Addr.add] using this
      · intro j hj
        rw [hlen] at hj
        obtain ⟨g1, g2, _⟩ := hf' j hj
        rw [hat j hj]
        refine ⟨fun i hi => ?_, g2⟩
        have := g1 i hi
        rw [Go.WideShapes.add_plain, Go.WideShapes.add_plain] at this
        exact this
theorem opn_ints (e' : TypeId) : Opn (tSl e' tInt) 31 := opn_slice tInt_law e' opn_int Try.underlying31 (by kernel_rfl)
set_option maxRecDepth 100000 in
/-- A struct as an argument. -/
theorem stA_open {α : Type} {T : Ty α} {t : TypeId} {fs : Array Field} (O : Opn T t) (hu : Try.prog.underlying t = some (.struct fs)) {H : Type} {enc : TypeId × Value → H} {W : World} {r : Reach} {b0 : Nat} {v : Value} {d : DataW H} {p : List MemPlace}
    (hval : Value.okWide Try.prog W r b0 t v) (h : DataW.Trod enc Try.prog W 0 (fun _ => true) true t v d p) : ∃ cs x, v = .agg cs.toArray ∧ T.R W cs x ∧ T.ok x := by
  obtain ⟨⟨cs⟩, rfl, hsz⟩ := okWide_struct hu hval
  obtain ⟨fuel, hf⟩ := h
  obtain ⟨x, h, ho⟩ := O hf
  exact ⟨cs, x, rfl, h, ho⟩
end Go.Proofs.Ytginjmnohnidiaa
namespace Go.Proofs.Ytginjmnohnidiaa
open Go.ChangeShapes Go.WideShapes Go.ChangeAt Go.WideMaps Go.WideElems Go.RowKit
set_option linter.unusedVariables false
set_option maxRecDepth 100000 in
theorem opn_Version : Opn tVersion 59 := by
  intro H enc W held fuel cs x h
  obtain ⟨xs, n, _, _, hl, hlen, hf⟩ := DataW.trod_struct Try.underlying59 h
  have hl2 : cs.length = 4 := hl.trans (by kernel_rfl)
  have hn : xs.length = 4 := hlen
  have f0 : DataW.trod enc Try.prog W 0 (fun _ => true) held n 3 ((cs.drop 0).take (Try.prog.cellsOf 3)) = xs[0]? := hf 0 _ rfl
  rw [show Try.prog.cellsOf 3 = 1 from by kernel_rfl] at f0
  obtain ⟨d0, r0, o0⟩ := opn_cast (opn_int) (by rw [List.getElem?_eq_getElem (by omega)]; rfl) f0
  have f1 : DataW.trod enc Try.prog W 0 (fun _ => true) held n 31 ((cs.drop 1).take (Try.prog.cellsOf 31)) = xs[1]? := hf 1 _ rfl
  rw [show Try.prog.cellsOf 31 = 1 from by kernel_rfl] at f1
  obtain ⟨d1, r1, o1⟩ := opn_cast (opn_ints 3) (by rw [List.getElem?_eq_getElem (by omega)]; rfl) f1
  have f2 : DataW.trod enc Try.prog W 0 (fun _ => true) held n 3 ((cs.drop 2).take (Try.prog.cellsOf 3)) = xs[2]? := hf 2 _ rfl
  rw [show Try.prog.cellsOf 3 = 1 from by kernel_rfl] at f2
  obtain ⟨d2, r2, o2⟩ := opn_cast (opn_int) (by rw [List.getElem?_eq_getElem (by omega)]; rfl) f2
  have f3 : DataW.trod enc Try.prog W 0 (fun _ => true) held n 3 ((cs.drop 3).take (Try.prog.cellsOf 3)) = xs[3]? := hf 3 _ rfl
  rw [show Try.prog.cellsOf 3 = 1 from by kernel_rfl] at f3
  obtain ⟨d3, r3, o3⟩ := opn_cast (opn_int) (by rw [List.getElem?_eq_getElem (by omega)]; rfl) f3
  exact ⟨(d0, d1, d2, d3), ⟨(cs.drop 0).take 1, cs.drop 1, (List.take_append_drop 1 cs).symm, r0, ⟨(cs.drop 1).take 1, cs.drop 2, (List.take_append_drop 1 (cs.drop 1)).symm.trans (by simp), r1, ⟨(cs.drop 2).take 1, cs.drop 3, (List.take_append_drop 1 (cs.drop 2)).symm.trans (by simp), r2, (by have e := List.take_of_length_le (l := cs.drop 3) (i := 1) (by rw [List.length_drop]; omega); rw [e] at r3; exact r3)⟩⟩⟩, ⟨o0, ⟨o1, ⟨o2, o3⟩⟩⟩⟩
end Go.Proofs.Ytginjmnohnidiaa
namespace Go.Proofs.Ytginjmnohnidiaa
open Go.ChangeShapes Go.WideShapes Go.ChangeAt Go.WideMaps Go.WideElems Go.RowKit
set_option linter.unusedVariables false
theorem opn_VersionS : Opn tVersionS 134 := opn_slice tVersion_law _ opn_Version Try.underlying134 (by kernel_rfl)
end Go.Proofs.Ytginjmnohnidiaa
namespace Go.Proofs.Ytginjmnohnidiaa
open Go.ChangeShapes Go.WideShapes Go.ChangeAt Go.WideMaps Go.WideElems Go.RowKit
set_option linter.unusedVariables false
theorem opn_VersionSS : Opn tVersionSS 51 := opn_slice tVersionS_law _ opn_VersionS Try.underlying51 (by kernel_rfl)
end Go.Proofs.Ytginjmnohnidiaa
namespace Go.Proofs.Ytginjmnohnidiaa
open Go.ChangeShapes Go.WideShapes Go.ChangeAt Go.WideMaps Go.WideElems Go.RowKit
set_option linter.unusedVariables false
theorem recT_Store : Try.prog.readableRec 53 = true := by kernel_rfl
theorem rowT_Store : 53 < Try.prog.types.size := of_decide_eq_true (by kernel_rfl)
set_option maxRecDepth 100000 in
theorem opn_Store : Opn tStore 53 := by
  intro H enc W held fuel cs x h
  obtain ⟨xs, n, _, _, hl, hlen, hf⟩ := DataW.trod_struct Try.underlying53 h
  have hl2 : cs.length = 2 := hl.trans (by kernel_rfl)
  have hn : xs.length = 2 := hlen
  have f0 : DataW.trod enc Try.prog W 0 (fun _ => true) held n 51 ((cs.drop 0).take (Try.prog.cellsOf 51)) = xs[0]? := hf 0 _ rfl
  rw [show Try.prog.cellsOf 51 = 1 from by kernel_rfl] at f0
  obtain ⟨d0, r0, o0⟩ := opn_cast (opn_VersionSS) (by rw [List.getElem?_eq_getElem (by omega)]; rfl) f0
  have f1 : DataW.trod enc Try.prog W 0 (fun _ => true) held n 3 ((cs.drop 1).take (Try.prog.cellsOf 3)) = xs[1]? := hf 1 _ rfl
  rw [show Try.prog.cellsOf 3 = 1 from by kernel_rfl] at f1
  obtain ⟨d1, r1, o1⟩ := opn_cast (opn_int) (by rw [List.getElem?_eq_getElem (by omega)]; rfl) f1
  exact ⟨(d0, d1), ⟨(cs.drop 0).take 1, cs.drop 1, (List.take_append_drop 1 cs).symm, r0, (by have e := List.take_of_length_le (l := cs.drop 1) (i := 1) (by rw [List.length_drop]; omega); rw [e] at r1; exact r1)⟩, ⟨o0, o1⟩⟩
set_option maxRecDepth 100000 in
theorem shut_Store {H : Type} {enc : TypeId × Value → H} {W W' : World} {v : Value} {d : DataW H} {ps : List MemPlace} (h : DataW.Trod enc Try.prog W 0 (fun _ => true) true 53 v d ps) (hb : Below W.heap.size W W') (hlt : ∀ x ∈ ps, x.block < W.heap.size) :
    DataW.Trod enc Try.prog W' 0 (fun b => decide (b < W.heap.size)) true 53 v d ps := Below.trod laidOutP recT_Store rowT_Store h hb hlt
end Go.Proofs.Ytginjmnohnidiaa
namespace Go.Proofs.Ytginjmnohnidiaa
open Go.RowKit
set_option linter.unusedVariables false
set_option linter.unusedSimpArgs false
set_option maxHeartbeats 32000000 in
set_option maxRecDepth 100000 in
theorem law_fnExactSegmentRows (a0_1 : Int) (v0_0 : Value) (x0_0 : List (List (Int × List Int × Int × Int))) (n1 : Int) (w1 : (Lit.int .i64 n1).wf = true) (n2 : Int) (w2 : (Lit.int .i64 n2).wf = true) (r0 : List (Int × List Int)) (w : World) (h0_0 : SlR tVersionS w v0_0 x0_0) (o0_0 : tVersionSS.ok x0_0) (z0 : zL tRow r0 ≤ 1048576)
    (hspec : ∀ (v0_0 : Value) (w : World), SlR tVersionS w v0_0 x0_0 → zL tVersionS x0_0 ≤ 1048576 → Calls Try.prog 41 #[.agg #[v0_0, .int .i64 a0_1], .int .i64 n1, .int .i64 n2] w (fun e w' => ∃ (g0 : Value) (G0 : Nat → Prop), e = .returned (g0) ∧ SlO 76 tRow w' G0 g0 r0 ∧ (∀ b, G0 b → w.heap.size ≤ b) ∧ Below w.heap.size w w'))
    (himpl : ∀ (v0_0 : Value) (w : World), SlR tVersionS w v0_0 x0_0 → zL tVersionS x0_0 ≤ 1048576 → Calls Try.prog 42 #[.agg #[v0_0, .int .i64 a0_1], .int .i64 n1, .int .i64 n2] w (fun e w' => ∃ (g0 : Value) (G0 : Nat → Prop), e = .returned (g0) ∧ SlO 76 tRow w' G0 g0 r0 ∧ (∀ b, G0 b → w.heap.size ≤ b) ∧ Below w.heap.size w w')) :
    Calls Try.prog 9 #[.agg #[v0_0, .int .i64 a0_1], .int .i64 n1, .int .i64 n2] w fun e w' => e = .returned (.bool true) ∧ Below w.heap.size w w' := by
  obtain ⟨c0_0, k0_0, rfl⟩ := slR_len h0_0
  have HB0 : Hid (Below w.heap.size w (w.alloc (.cells #[.slice c0_0 x0_0.length k0_0, .int .i64 a0_1] 53))) := Lib.hid ((Below.refl _ w).alloc (Nat.le_refl _) _)
  have B0 : Hid ((w.alloc (.cells #[.slice c0_0 x0_0.length k0_0, .int .i64 a0_1] 53)).heap[w.heap.size]? = some (.cells #[.slice c0_0 x0_0.length k0_0, .int .i64 a0_1] 53 (0, 0))) := Lib.hid (by have := heap_alloc_new w (.cells #[.slice c0_0 x0_0.length k0_0, .int .i64 a0_1] 53); simpa only [World.size_alloc] using this)
  have A0_0 : Hid (SlR tVersionS (w.alloc (.cells #[.slice c0_0 x0_0.length k0_0, .int .i64 a0_1] 53)) (.slice c0_0 x0_0.length k0_0) x0_0) := Lib.hid (slR_below tVersionS_law h0_0 HB0.out)
  have O0_0 := Lib.hid o0_0
  clear h0_0 o0_0
  have HSP := Lib.hid hspec
  have HIM := Lib.hid himpl
  clear hspec himpl
  have Z0 := Lib.hid z0
  clear z0
  by_cases c0 : ((zL tVersionS x0_0 : Nat) : Int) ≤ (1048576 : Int)
  ·
    have HZ0 : Hid (((zL tVersionS x0_0 : Nat) : Int) ≤ (1048576 : Int)) := Lib.hid c0
    have HK0 : Hid ((1048576 : Int) ≤ 1048576) := Lib.hid (by omega)
    have hn0 : ¬ (1048576 : Int) - ((zL tVersionS x0_0 : Nat) : Int) < 0 := by omega
    have HT : Hid (zL tVersionS x0_0 ≤ 1048576) := Lib.hid (by omega)
    have S0_0 : Hid (zL tVersionS x0_0 ≤ 1048576) := Lib.hid (by omega)
    have N0_0 := ndL_le tVersionS_law (by decide) x0_0
    have M0 : Hid (0 ≤ (1 : Int) ∧ (1 : Int) ≤ 134217728) := Lib.hid (by have := HT.out; omega)
    have hk : ¬ (1 + (ndL tVersionS x0_0 : Int) : Int) < 0 := by omega
    clear N0_0
    have NR0 := ndL_le tRow_law (by decide) r0
    have MR0 : Hid (0 ≤ (1 : Int) ∧ (1 : Int) ≤ 134217728) := Lib.hid (by have := Z0.out; omega)
    have hh0 : ¬ (1 + (ndL tRow r0 : Int) : Int) < 0 := by have := Z0.out; omega
    have hq : ((1 + (ndL tRow r0 : Int) : Int) != 1 + (ndL tRow r0 : Int)) = false := by simp
    clear NR0
    clear c0
    go_enter Try.func9, Try.ntmps9
    go_wp2_with fail
    have Y_W : Hid (w.heap.size + 1 ≤ (w.alloc (.cells #[.slice c0_0 x0_0.length k0_0, .int .i64 a0_1] 53)).heap.size) := Lib.hid (by simp [World.size_alloc])
    generalize (w.alloc (.cells #[.slice c0_0 x0_0.length k0_0, .int .i64 a0_1] 53)) = W at *
    have d := Lib.hid (Below.refl W.heap.size W)
    refine (szStore_Y a0_1 (.slice c0_0 x0_0.length k0_0) x0_0 ((1048576 : Int)) W (slR_below tVersionS_law A0_0.out d.out) HZ0.out HK0.out).mono ?_
    rintro e v1 ⟨rfl, c1⟩
    replace B0 := Lib.hid ((c1.block w.heap.size (Array.getElem?_eq_some_iff.1 B0.out).1).trans B0.out)
    replace d := Lib.hid (d.out.trans (c1.mono d.out.size))
    have Z_v1 := Lib.hid (show W.heap.size ≤ v1.heap.size from c1.size)
    clear c1
    have p_B0_0 := (cell_of_row v1 _ 0 _ _ _ B0.out).trans (show _ = some (Value.slice c0_0 x0_0.length k0_0) from rfl)
    have p_B0_1 := (cell_of_row v1 _ 1 _ _ _ B0.out).trans (show _ = some (Value.int .i64 a0_1) from rfl)
    go_wp2_with fail
    clear p_B0_0 p_B0_1
    refine (toStore_T a0_1 (.slice c0_0 x0_0.length k0_0) x0_0 v1 (slR_below tVersionS_law A0_0.out d.out) S0_0.out).mono ?_
    rintro e v2 ⟨cs, rfl, ow, c2⟩
    replace B0 := Lib.hid ((c2.block w.heap.size (Array.getElem?_eq_some_iff.1 B0.out).1).trans B0.out)
    replace d := Lib.hid (d.out.trans (c2.mono d.out.size))
    have Z_v2 := Lib.hid (show v1.heap.size ≤ v2.heap.size from c2.size)
    clear c2
    replace ow := tStore_law.lt ow
    obtain ⟨y2_0, K2_0, rfl, p2_0, w2_0⟩ := tStore_O ow
    obtain ⟨ya2_0, yc2_0, rfl⟩ := slO_len p2_0
    have P2_0 := Lib.hid p2_0
    have Q2_0 := Lib.hid (fun b h => (show v1.heap.size ≤ b ∧ b < v2.heap.size from w2_0 b h))
    clear p2_0 w2_0 ow
    go_wp2_with fail
    refine (HSP.out (.slice ya2_0 x0_0.length yc2_0) v2 (slO_reads tVersionS_law P2_0.out) HT.out ).mono ?_
    rintro e v3 ⟨g0, G0, rfl, o0, q0, c3⟩
    replace B0 := Lib.hid ((c3.block w.heap.size (Array.getElem?_eq_some_iff.1 B0.out).1).trans B0.out)
    replace P2_0 := Lib.hid (slO_fresh tVersionS_law P2_0.out c3)
    replace d := Lib.hid (d.out.trans (c3.mono d.out.size))
    have Z_v3 := Lib.hid (show v2.heap.size ≤ v3.heap.size from c3.size)
    clear c3
    obtain ⟨ya3, yc3, rfl⟩ := slO_len o0
    have P3 := Lib.hid (slO_lt tRow_law o0)
    have Q3 := Lib.hid (fun b (h : _ ∧ b < v3.heap.size) => (show v2.heap.size ≤ b ∧ b < v3.heap.size from ⟨q0 b h.1, h.2⟩))
    clear o0 q0
    have p_B0_0 := (cell_of_row v3 _ 0 _ _ _ B0.out).trans (show _ = some (Value.slice c0_0 x0_0.length k0_0) from rfl)
    have p_B0_1 := (cell_of_row v3 _ 1 _ _ _ B0.out).trans (show _ = some (Value.int .i64 a0_1) from rfl)
    go_wp2_with fail
    clear p_B0_0 p_B0_1
    refine (toStore_T a0_1 (.slice c0_0 x0_0.length k0_0) x0_0 v3 (slR_below tVersionS_law A0_0.out d.out) S0_0.out).mono ?_
    rintro e v4 ⟨cs, rfl, ow, c4⟩
    replace B0 := Lib.hid ((c4.block w.heap.size (Array.getElem?_eq_some_iff.1 B0.out).1).trans B0.out)
    replace P2_0 := Lib.hid (slO_fresh tVersionS_law P2_0.out c4)
    replace P3 := Lib.hid (slO_fresh tRow_law P3.out c4)
    replace d := Lib.hid (d.out.trans (c4.mono d.out.size))
    have Z_v4 := Lib.hid (show v3.heap.size ≤ v4.heap.size from c4.size)
    clear c4
    replace ow := tStore_law.lt ow
    obtain ⟨y4_0, K4_0, rfl, p4_0, w4_0⟩ := tStore_O ow
    obtain ⟨ya4_0, yc4_0, rfl⟩ := slO_len p4_0
    have P4_0 := Lib.hid p4_0
    have Q4_0 := Lib.hid (fun b h => (show v3.heap.size ≤ b ∧ b < v4.heap.size from w4_0 b h))
    clear p4_0 w4_0 ow
    have hal : Below v4.heap.size v4 (v4.alloc (.cells #[.slice ya4_0 x0_0.length yc4_0, .int .i64 a0_1] 45)) := (Below.refl _ _).alloc (Nat.le_refl _) _
    have X1 := Lib.hid (heap_alloc_new v4 (.cells #[.slice ya4_0 x0_0.length yc4_0, .int .i64 a0_1] 45))
    have Y_X1 := Lib.hid (show v4.heap.size < (v4.alloc (.cells #[.slice ya4_0 x0_0.length yc4_0, .int .i64 a0_1] 45)).heap.size by simp [World.size_alloc])
    replace B0 := Lib.hid ((hal.block w.heap.size (Array.getElem?_eq_some_iff.1 B0.out).1).trans B0.out)
    replace P2_0 := Lib.hid (slO_fresh tVersionS_law P2_0.out hal)
    replace P3 := Lib.hid (slO_fresh tRow_law P3.out hal)
    replace P4_0 := Lib.hid (slO_fresh tVersionS_law P4_0.out hal)
    replace d := Lib.hid (d.out.trans (hal.mono d.out.size))
    clear hal
    have p_X1_0 := (cell_of_row (v4.alloc (.cells #[.slice ya4_0 x0_0.length yc4_0, .int .i64 a0_1] 45)) _ 0 _ _ _ X1.out).trans (show _ = some (Value.slice ya4_0 x0_0.length yc4_0) from rfl)
    have p_X1_1 := (cell_of_row (v4.alloc (.cells #[.slice ya4_0 x0_0.length yc4_0, .int .i64 a0_1] 45)) _ 1 _ _ _ X1.out).trans (show _ = some (Value.int .i64 a0_1) from rfl)
    go_wp2_with fail
    clear p_X1_0 p_X1_1
    generalize (v4.alloc (.cells #[.slice ya4_0 x0_0.length yc4_0, .int .i64 a0_1] 45)) = u5 at *
    refine (HIM.out (.slice ya4_0 x0_0.length yc4_0) u5 (slO_reads tVersionS_law P4_0.out) HT.out ).mono ?_
    rintro e v6 ⟨g0, G0, rfl, o0, q0, c6⟩
    replace B0 := Lib.hid ((c6.block w.heap.size (Array.getElem?_eq_some_iff.1 B0.out).1).trans B0.out)
    replace X1 := Lib.hid ((c6.block v4.heap.size (Array.getElem?_eq_some_iff.1 X1.out).1).trans X1.out)
    replace P2_0 := Lib.hid (slO_fresh tVersionS_law P2_0.out c6)
    replace P3 := Lib.hid (slO_fresh tRow_law P3.out c6)
    replace P4_0 := Lib.hid (slO_fresh tVersionS_law P4_0.out c6)
    replace d := Lib.hid (d.out.trans (c6.mono d.out.size))
    have Z_v6 := Lib.hid (show u5.heap.size ≤ v6.heap.size from c6.size)
    clear c6
    obtain ⟨ya6, yc6, rfl⟩ := slO_len o0
    have P6 := Lib.hid (slO_lt tRow_law o0)
    have Q6 := Lib.hid (fun b (h : _ ∧ b < v6.heap.size) => (show u5.heap.size ≤ b ∧ b < v6.heap.size from ⟨q0 b h.1, h.2⟩))
    clear o0 q0
    go_wp2_with fail
    refine (eqRowS_S (.slice ya6 r0.length yc6) (.slice ya3 r0.length yc3) r0 v6 (slO_reads tRow_law P6.out) (slO_reads tRow_law P3.out) Z0.out).mono ?_
    rintro e v7 ⟨rfl, c7⟩
    replace B0 := Lib.hid ((c7.block w.heap.size (Array.getElem?_eq_some_iff.1 B0.out).1).trans B0.out)
    replace X1 := Lib.hid ((c7.block v4.heap.size (Array.getElem?_eq_some_iff.1 X1.out).1).trans X1.out)
    replace P2_0 := Lib.hid (slO_fresh tVersionS_law P2_0.out c7)
    replace P3 := Lib.hid (slO_fresh tRow_law P3.out c7)
    replace P4_0 := Lib.hid (slO_fresh tVersionS_law P4_0.out c7)
    replace P6 := Lib.hid (slO_fresh tRow_law P6.out c7)
    replace d := Lib.hid (d.out.trans (c7.mono d.out.size))
    have Z_v7 := Lib.hid (show v6.heap.size ≤ v7.heap.size from c7.size)
    clear c7
    go_wp2
    have p_B0_0 := (cell_of_row v7 _ 0 _ _ _ B0.out).trans (show _ = some (Value.slice c0_0 x0_0.length k0_0) from rfl)
    have p_B0_1 := (cell_of_row v7 _ 1 _ _ _ B0.out).trans (show _ = some (Value.int .i64 a0_1) from rfl)
    have p_X1_0 := (cell_of_row v7 _ 0 _ _ _ X1.out).trans (show _ = some (Value.slice ya4_0 x0_0.length yc4_0) from rfl)
    have p_X1_1 := (cell_of_row v7 _ 1 _ _ _ X1.out).trans (show _ = some (Value.int .i64 a0_1) from rfl)
    refine wp_region_held_drew (S := fun w' => w'.cell? ⟨w.heap.size, 0, none⟩ = some (Value.slice c0_0 x0_0.length k0_0) ∧ w'.cell? ⟨w.heap.size, 1, none⟩ = some (Value.int .i64 a0_1) ∧ w'.cell? ⟨v4.heap.size, 0, none⟩ = some (Value.slice ya4_0 x0_0.length yc4_0) ∧ w'.cell? ⟨v4.heap.size, 1, none⟩ = some (Value.int .i64 a0_1)) (by kernel_rfl) ⟨p_B0_0, p_B0_1, p_X1_0, p_X1_1⟩ (fun hHeld => ?_)
    clear p_B0_0 p_B0_1 p_X1_0 p_X1_1
    have cd8 : Below v7.heap.size v7 v7.drew := below_drew (Below.refl _ _)
    replace B0 := Lib.hid ((cd8.block w.heap.size (Array.getElem?_eq_some_iff.1 B0.out).1).trans B0.out)
    replace X1 := Lib.hid ((cd8.block v4.heap.size (Array.getElem?_eq_some_iff.1 X1.out).1).trans X1.out)
    replace P2_0 := Lib.hid (slO_fresh tVersionS_law P2_0.out cd8)
    replace P3 := Lib.hid (slO_fresh tRow_law P3.out cd8)
    replace P4_0 := Lib.hid (slO_fresh tVersionS_law P4_0.out cd8)
    replace P6 := Lib.hid (slO_fresh tRow_law P6.out cd8)
    replace d := Lib.hid (d.out.trans (cd8.mono d.out.size))
    clear cd8
    refine take_runs (i := 0) (v := ?_) (by simp only [List.getElem?_toArray, List.getElem?_cons_succ, List.getElem?_cons_zero]; rfl) (by kernel_rfl) (by kernel_rfl) (by kernel_rfl) rfl (by exact fun _ _ _ h => h) (by rfl) ?_ (by assumption) ?_
    rotate_left
    · intro w hSw; (try dsimp only at hSw); go_simp; try (with_reducible rfl)
    try simp only [Act.put, List.setIfInBounds_toArray, List.set_cons_zero, List.set_cons_succ]
    refine take_runs (i := 1) (v := ?_) (by simp only [List.getElem?_toArray, List.getElem?_cons_succ, List.getElem?_cons_zero]; rfl) (by kernel_rfl) (by kernel_rfl) (by kernel_rfl) rfl (by exact fun _ _ _ h => h) (by rfl) ?_ (by assumption) ?_
    rotate_left
    · intro w hSw; (try dsimp only at hSw); go_simp; try (with_reducible rfl)
    try simp only [Act.put, List.setIfInBounds_toArray, List.set_cons_zero, List.set_cons_succ]
    refine wpAnyH_ready (rs := [2]) (by kernel_rfl) (by simp) ?_
    refine AllReadyH.cons (o := _) (by simp only [List.getElem?_toArray, List.getElem?_cons_succ, List.getElem?_cons_zero]; rfl) (fun K hK => ?_) AllReadyH.nil
    go_simp
    refine (toStore_T a0_1 (.slice c0_0 x0_0.length k0_0) x0_0 (v7.drew) (slR_below tVersionS_law A0_0.out d.out) S0_0.out).mono ?_
    rintro e v9 ⟨cs, rfl, ow, c9⟩
    replace B0 := Lib.hid ((c9.block w.heap.size (Array.getElem?_eq_some_iff.1 B0.out).1).trans B0.out)
    replace X1 := Lib.hid ((c9.block v4.heap.size (Array.getElem?_eq_some_iff.1 X1.out).1).trans X1.out)
    replace P2_0 := Lib.hid (slO_fresh tVersionS_law P2_0.out c9)
    replace P3 := Lib.hid (slO_fresh tRow_law P3.out c9)
    replace P4_0 := Lib.hid (slO_fresh tVersionS_law P4_0.out c9)
    replace P6 := Lib.hid (slO_fresh tRow_law P6.out c9)
    replace d := Lib.hid (d.out.trans (c9.mono d.out.size))
    have Z_v9 := Lib.hid (show v7.heap.size ≤ v9.heap.size from c9.size)
    clear c9
    replace ow := tStore_law.lt ow
    obtain ⟨y9_0, K9_0, rfl, p9_0, w9_0⟩ := tStore_O ow
    obtain ⟨ya9_0, yc9_0, rfl⟩ := slO_len p9_0
    have P9_0 := Lib.hid p9_0
    have Q9_0 := Lib.hid (fun b h => (show (v7.drew).heap.size ≤ b ∧ b < v9.heap.size from w9_0 b h))
    clear p9_0 w9_0 ow
    have p_B0_0 := (cell_of_row v9 _ 0 _ _ _ B0.out).trans (show _ = some (Value.slice c0_0 x0_0.length k0_0) from rfl)
    have p_B0_1 := (cell_of_row v9 _ 1 _ _ _ B0.out).trans (show _ = some (Value.int .i64 a0_1) from rfl)
    have p_X1_0 := (cell_of_row v9 _ 0 _ _ _ X1.out).trans (show _ = some (Value.slice ya4_0 x0_0.length yc4_0) from rfl)
    have p_X1_1 := (cell_of_row v9 _ 1 _ _ _ X1.out).trans (show _ = some (Value.int .i64 a0_1) from rfl)
    refine hK.out _ _ ⟨p_B0_0, p_B0_1, p_X1_0, p_X1_1⟩ (fun hHeld => ?_)
    clear p_B0_0 p_B0_1 p_X1_0 p_X1_1
    clear hK K
    try simp only [Act.put, List.setIfInBounds_toArray, List.set_cons_zero, List.set_cons_succ]
    refine wpAnyH_ready (rs := [3]) (by kernel_rfl) (by simp) ?_
    refine AllReadyH.cons (o := _) (by simp only [List.getElem?_toArray, List.getElem?_cons_succ, List.getElem?_cons_zero]; rfl) (fun K hK => ?_) AllReadyH.nil
    go_simp
    refine (eqStore_T a0_1 (.slice ya4_0 x0_0.length yc4_0) x0_0 (.slice ya9_0 x0_0.length yc9_0) v9 (slO_reads tVersionS_law P4_0.out) (slO_reads tVersionS_law P9_0.out) S0_0.out).mono ?_
    rintro e v10 ⟨rfl, c10⟩
    replace B0 := Lib.hid ((c10.block w.heap.size (Array.getElem?_eq_some_iff.1 B0.out).1).trans B0.out)
    replace X1 := Lib.hid ((c10.block v4.heap.size (Array.getElem?_eq_some_iff.1 X1.out).1).trans X1.out)
    replace P2_0 := Lib.hid (slO_fresh tVersionS_law P2_0.out c10)
    replace P3 := Lib.hid (slO_fresh tRow_law P3.out c10)
    replace P4_0 := Lib.hid (slO_fresh tVersionS_law P4_0.out c10)
    replace P6 := Lib.hid (slO_fresh tRow_law P6.out c10)
    replace P9_0 := Lib.hid (slO_fresh tVersionS_law P9_0.out c10)
    replace d := Lib.hid (d.out.trans (c10.mono d.out.size))
    have Z_v10 := Lib.hid (show v9.heap.size ≤ v10.heap.size from c10.size)
    clear c10
    clear P9_0
    have p_B0_0 := (cell_of_row v10 _ 0 _ _ _ B0.out).trans (show _ = some (Value.slice c0_0 x0_0.length k0_0) from rfl)
    have p_B0_1 := (cell_of_row v10 _ 1 _ _ _ B0.out).trans (show _ = some (Value.int .i64 a0_1) from rfl)
    have p_X1_0 := (cell_of_row v10 _ 0 _ _ _ X1.out).trans (show _ = some (Value.slice ya4_0 x0_0.length yc4_0) from rfl)
    have p_X1_1 := (cell_of_row v10 _ 1 _ _ _ X1.out).trans (show _ = some (Value.int .i64 a0_1) from rfl)
    refine hK.out _ _ ⟨p_B0_0, p_B0_1, p_X1_0, p_X1_1⟩ (fun hHeld => ?_)
    clear p_B0_0 p_B0_1 p_X1_0 p_X1_1
    clear hK K
    try simp only [Act.put, List.setIfInBounds_toArray, List.set_cons_zero, List.set_cons_succ]
    refine take_runs (i := 4) (v := ?_) (by simp only [List.getElem?_toArray, List.getElem?_cons_succ, List.getElem?_cons_zero]; rfl) (by kernel_rfl) (by kernel_rfl) (by kernel_rfl) rfl (by exact fun _ _ _ h => h) (by rfl) ?_ (by assumption) ?_
    rotate_left
    · intro w hSw; (try dsimp only at hSw); go_simp; try (with_reducible rfl)
    try simp only [Act.put, List.setIfInBounds_toArray, List.set_cons_zero, List.set_cons_succ]
    refine wpAnyH_done (by kernel_rfl) ?_ _
    clear hHeld
    have p_X1_0 := (cell_of_row v10 _ 0 _ _ _ X1.out).trans (show _ = some (Value.slice ya4_0 x0_0.length yc4_0) from rfl)
    have p_X1_1 := (cell_of_row v10 _ 1 _ _ _ X1.out).trans (show _ = some (Value.int .i64 a0_1) from rfl)
    go_wp2_with fail
    clear p_X1_0 p_X1_1
    refine (markStore_T a0_1 (.slice ya4_0 x0_0.length yc4_0) x0_0 (fun b => v3.heap.size ≤ b ∧ b < v4.heap.size) _ (1) v10 P4_0.out Q4_0.out  S0_0.out M0.out.1 (by have := M0.out.2; omega)).mono ?_
    rintro e v11 ⟨rfl, m0, c11⟩
    have y0 := Y_W.out
    have y1 := Z_v1.out
    have y2 := Z_v2.out
    have y3 := Z_v3.out
    have y4 := Z_v4.out
    have y5 := Y_X1.out
    have y6 := Z_v6.out
    have y7 := Z_v7.out
    have y8 := Z_v9.out
    have y9 := Z_v10.out
    have yd : W.heap.size ≤ v10.heap.size := d.out.size
    replace B0 := Lib.hid ((c11.block w.heap.size (Array.getElem?_eq_some_iff.1 B0.out).1 (fun h => by have r2 := h; omega)).trans B0.out)
    replace X1 := Lib.hid ((c11.block v4.heap.size (Array.getElem?_eq_some_iff.1 X1.out).1 (fun h => by have r2 := h; omega)).trans X1.out)
    replace P2_0 := Lib.hid (slO_turn tVersionS_law P2_0.out c11 (fun b h1 h2 => by have r1 := Q2_0.out b h1; have r2 := h2; omega))
    replace P3 := Lib.hid (slO_turn tRow_law P3.out c11 (fun b h1 h2 => by have r1 := Q3.out b h1; have r2 := h2; omega))
    replace P6 := Lib.hid (slO_turn tRow_law P6.out c11 (fun b h1 h2 => by have r1 := Q6.out b h1; have r2 := h2; omega))
    replace d := Lib.hid (below_turn d.out c11 (fun b h => by have r2 := h; omega) (by omega))
    clear yd y0 y1 y2 y3 y4 y5 y6 y7 y8 y9
    have Z_v11 := Lib.hid (show v10.heap.size ≤ v11.heap.size from c11.size)
    clear P4_0
    clear m0 c11
    go_wp2_with fail
    refine (eqRowS_S (.slice ya6 r0.length yc6) (.slice ya3 r0.length yc3) r0 v11 (slO_reads tRow_law P6.out) (slO_reads tRow_law P3.out) Z0.out).mono ?_
    rintro e v12 ⟨rfl, c12⟩
    replace B0 := Lib.hid ((c12.block w.heap.size (Array.getElem?_eq_some_iff.1 B0.out).1).trans B0.out)
    replace X1 := Lib.hid ((c12.block v4.heap.size (Array.getElem?_eq_some_iff.1 X1.out).1).trans X1.out)
    replace P2_0 := Lib.hid (slO_fresh tVersionS_law P2_0.out c12)
    replace P3 := Lib.hid (slO_fresh tRow_law P3.out c12)
    replace P6 := Lib.hid (slO_fresh tRow_law P6.out c12)
    replace d := Lib.hid (d.out.trans (c12.mono d.out.size))
    have Z_v12 := Lib.hid (show v11.heap.size ≤ v12.heap.size from c12.size)
    clear c12
    go_wp2_with fail
    refine (markRowS_S (.slice ya6 r0.length yc6) r0 _ (1) v12 P6.out Z0.out MR0.out.1 (by have := MR0.out.2; omega)).mono ?_
    rintro e v13 ⟨rfl, m0, c13⟩
    have y0 := Y_W.out
    have y1 := Z_v1.out
    have y2 := Z_v2.out
    have y3 := Z_v3.out
    have y4 := Z_v4.out
    have y5 := Y_X1.out
    have y6 := Z_v6.out
    have y7 := Z_v7.out
    have y8 := Z_v9.out
    have y9 := Z_v10.out
    have y10 := Z_v11.out
    have y11 := Z_v12.out
    have yd : W.heap.size ≤ v12.heap.size := d.out.size
    replace B0 := Lib.hid ((c13.block w.heap.size (Array.getElem?_eq_some_iff.1 B0.out).1 (fun h => by have r2 := Q6.out w.heap.size h; omega)).trans B0.out)
    replace X1 := Lib.hid ((c13.block v4.heap.size (Array.getElem?_eq_some_iff.1 X1.out).1 (fun h => by have r2 := Q6.out v4.heap.size h; omega)).trans X1.out)
    replace P2_0 := Lib.hid (slO_turn tVersionS_law P2_0.out c13 (fun b h1 h2 => by have r1 := Q2_0.out b h1; have r2 := Q6.out b h2; omega))
    replace P3 := Lib.hid (slO_turn tRow_law P3.out c13 (fun b h1 h2 => by have r1 := Q3.out b h1; have r2 := Q6.out b h2; omega))
    replace d := Lib.hid (below_turn d.out c13 (fun b h => by have r2 := Q6.out b h; omega) (by omega))
    clear yd y0 y1 y2 y3 y4 y5 y6 y7 y8 y9 y10 y11
    have Z_v13 := Lib.hid (show v12.heap.size ≤ v13.heap.size from c13.size)
    replace P6 := Lib.hid m0
    clear m0 c13
    go_wp2_with fail
    refine (heldRowS_S (.slice ya6 r0.length yc6) r0 (1) v13 (slO_reads tRow_law P6.out) Z0.out MR0.out.1 (by have := MR0.out.2; omega)).mono ?_
    rintro e v14 ⟨rfl, rfl⟩
    have p_B0_0 := (cell_of_row v13 _ 0 _ _ _ B0.out).trans (show _ = some (Value.slice c0_0 x0_0.length k0_0) from rfl)
    have p_B0_1 := (cell_of_row v13 _ 1 _ _ _ B0.out).trans (show _ = some (Value.int .i64 a0_1) from rfl)
    go_wp2_with fail
    clear p_B0_0 p_B0_1
    refine (toStore_T a0_1 (.slice c0_0 x0_0.length k0_0) x0_0 v13 (slR_below tVersionS_law A0_0.out d.out) S0_0.out).mono ?_
    rintro e v15 ⟨cs, rfl, ow, c15⟩
    replace B0 := Lib.hid ((c15.block w.heap.size (Array.getElem?_eq_some_iff.1 B0.out).1).trans B0.out)
    replace X1 := Lib.hid ((c15.block v4.heap.size (Array.getElem?_eq_some_iff.1 X1.out).1).trans X1.out)
    replace P2_0 := Lib.hid (slO_fresh tVersionS_law P2_0.out c15)
    replace P3 := Lib.hid (slO_fresh tRow_law P3.out c15)
    replace P6 := Lib.hid (slO_fresh tRow_law P6.out c15)
    replace d := Lib.hid (d.out.trans (c15.mono d.out.size))
    have Z_v15 := Lib.hid (show v13.heap.size ≤ v15.heap.size from c15.size)
    clear c15
    replace ow := tStore_law.lt ow
    obtain ⟨y15_0, K15_0, rfl, p15_0, w15_0⟩ := tStore_O ow
    obtain ⟨ya15_0, yc15_0, rfl⟩ := slO_len p15_0
    have P15_0 := Lib.hid p15_0
    have Q15_0 := Lib.hid (fun b h => (show v13.heap.size ≤ b ∧ b < v15.heap.size from w15_0 b h))
    clear p15_0 w15_0 ow
    go_wp2_with fail
    refine (HIM.out (.slice ya15_0 x0_0.length yc15_0) v15 (slO_reads tVersionS_law P15_0.out) HT.out ).mono ?_
    rintro e v16 ⟨g0, G0, rfl, o0, q0, c16⟩
    replace B0 := Lib.hid ((c16.block w.heap.size (Array.getElem?_eq_some_iff.1 B0.out).1).trans B0.out)
    replace X1 := Lib.hid ((c16.block v4.heap.size (Array.getElem?_eq_some_iff.1 X1.out).1).trans X1.out)
    replace P2_0 := Lib.hid (slO_fresh tVersionS_law P2_0.out c16)
    replace P3 := Lib.hid (slO_fresh tRow_law P3.out c16)
    replace P6 := Lib.hid (slO_fresh tRow_law P6.out c16)
    replace P15_0 := Lib.hid (slO_fresh tVersionS_law P15_0.out c16)
    replace d := Lib.hid (d.out.trans (c16.mono d.out.size))
    have Z_v16 := Lib.hid (show v15.heap.size ≤ v16.heap.size from c16.size)
    clear c16
    obtain ⟨ya16, yc16, rfl⟩ := slO_len o0
    have P16 := Lib.hid (slO_lt tRow_law o0)
    have Q16 := Lib.hid (fun b (h : _ ∧ b < v16.heap.size) => (show v15.heap.size ≤ b ∧ b < v16.heap.size from ⟨q0 b h.1, h.2⟩))
    clear o0 q0
    go_wp2_with fail
    refine (eqRowS_S (.slice ya16 r0.length yc16) (.slice ya3 r0.length yc3) r0 v16 (slO_reads tRow_law P16.out) (slO_reads tRow_law P3.out) Z0.out).mono ?_
    rintro e v17 ⟨rfl, c17⟩
    replace B0 := Lib.hid ((c17.block w.heap.size (Array.getElem?_eq_some_iff.1 B0.out).1).trans B0.out)
    replace X1 := Lib.hid ((c17.block v4.heap.size (Array.getElem?_eq_some_iff.1 X1.out).1).trans X1.out)
    replace P2_0 := Lib.hid (slO_fresh tVersionS_law P2_0.out c17)
    replace P3 := Lib.hid (slO_fresh tRow_law P3.out c17)
    replace P6 := Lib.hid (slO_fresh tRow_law P6.out c17)
    replace P15_0 := Lib.hid (slO_fresh tVersionS_law P15_0.out c17)
    replace P16 := Lib.hid (slO_fresh tRow_law P16.out c17)
    replace d := Lib.hid (d.out.trans (c17.mono d.out.size))
    have Z_v17 := Lib.hid (show v16.heap.size ≤ v17.heap.size from c17.size)
    clear c17
    go_wp2_with fail
    refine (heldRowS_S (.slice ya6 r0.length yc6) r0 (1) v17 (slO_reads tRow_law P6.out) Z0.out MR0.out.1 (by have := MR0.out.2; omega)).mono ?_
    rintro e v18 ⟨rfl, rfl⟩
    go_wp2
    go_ret
    exact ⟨rfl, HB0.out.trans (d.out.mono HB0.out.size)⟩
  ·
    have HZ0 : Hid ((1048576 : Int) < ((zL tVersionS x0_0 : Nat) : Int)) := Lib.hid (by omega)
    have HP0 : Hid (0 ≤ (1048576 : Int)) := Lib.hid (by omega)
    have HK0 : Hid ((1048576 : Int) ≤ 1048576) := Lib.hid (by omega)
    clear c0
    go_enter Try.func9, Try.ntmps9
    go_wp2_with fail
    have Y_W : Hid (w.heap.size + 1 ≤ (w.alloc (.cells #[.slice c0_0 x0_0.length k0_0, .int .i64 a0_1] 53)).heap.size) := Lib.hid (by simp [World.size_alloc])
    generalize (w.alloc (.cells #[.slice c0_0 x0_0.length k0_0, .int .i64 a0_1] 53)) = W at *
    have d := Lib.hid (Below.refl W.heap.size W)
    refine (szStore_N a0_1 (.slice c0_0 x0_0.length k0_0) x0_0 ((1048576 : Int)) W (slR_below tVersionS_law A0_0.out d.out) HZ0.out HK0.out HP0.out O0_0.out).mono ?_
    rintro e v1 ⟨rfl, c1⟩
    replace B0 := Lib.hid ((c1.block w.heap.size (Array.getElem?_eq_some_iff.1 B0.out).1).trans B0.out)
    replace d := Lib.hid (d.out.trans (c1.mono d.out.size))
    have Z_v1 := Lib.hid (show W.heap.size ≤ v1.heap.size from c1.size)
    clear c1
    go_wp2
    go_ret
    exact ⟨rfl, HB0.out.trans (d.out.mono HB0.out.size)⟩
end Go.Proofs.Ytginjmnohnidiaa
