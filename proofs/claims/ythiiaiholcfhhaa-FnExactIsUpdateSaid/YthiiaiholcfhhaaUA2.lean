/-
  Texts of the proof, merged: RowEqP, UpdP1, UpdP1u, UpdEqP, UpdP2.
-/
import Derived.Test.YthiiaiholcfhhaaUA1
namespace Go.Proofs.Ythiiaiholcfhhaa
open Go.RowKit
set_option linter.unusedVariables false
set_option linter.unusedSimpArgs false
set_option maxHeartbeats 2000000 in
set_option maxRecDepth 100000 in
theorem equalInts (v u : Value) (xs ys : List Int) (w : World) (h : Ints w v xs) (g : Ints w u ys) (hn : xs.length ≤ 1048576) (hm : ys.length ≤ 1048576) :
    Calls Try.prog 110 #[v, u] w fun e w' => e = .returned (.bool (decide (xs = ys))) ∧ Below w.heap.size w w' := by
  have H := Lib.hid h
  have G := Lib.hid g
  obtain ⟨a, cap, rfl⟩ := ints_len h
  obtain ⟨a2, cap2, rfl⟩ := ints_len g
  clear h g
  by_cases hl : xs.length = ys.length
  · have HL := Lib.hid hl
    have hne : ((xs.length : Int) != (ys.length : Int)) = false := by rw [hl]; simp
    clear hl
    go_enter Try.func110, Try.ntmps110
    go_wp2
    clear hne
    go_loopw [13] (fun i wr => ∃ k : Nat, k ≤ xs.length ∧ i = .int .i64 k ∧ Hid (∀ j, j < k → xs.getD j 0 = ys.getD j 0) ∧ Below w.heap.size w wr) (fun i _ => xs.length - (intOf i).toNat)
    case atStart => exact ⟨0, Nat.zero_le _, rfl, Lib.hid (fun j hj => by omega), Below.refl _ _⟩
    case round =>
      obtain ⟨k, hk, rfl, hall, hbel⟩ := hrel
      by_cases hlt : k < xs.length
      · obtain ⟨b, off, cap', hv, hbl, hc⟩ := ints_cell H.out (by omega)
        simp only [Value.slice.injEq] at hv
        obtain ⟨rfl, _, rfl⟩ := hv
        obtain ⟨b2, off2, cap2', hv2, hbl2, hc2⟩ := ints_cell G.out (by have := HL.out; omega)
        simp only [Value.slice.injEq] at hv2
        obtain ⟨rfl, _, rfl⟩ := hv2
        have hcell := (hbel.cell (p := ⟨b, off + k, none⟩) hbl).trans (hc k hlt)
        have hcell2 := (hbel.cell (p := ⟨b2, off2 + k, none⟩) hbl2).trans (hc2 k (by have := HL.out; omega))
        have i1 : (0 : Int) ≤ (k : Int) := by omega
        have i2 : (k : Int) < (xs.length : Int) := by omega
        have i3 : (k : Int) < (ys.length : Int) := by have := HL.out; omega
        clear hc hc2
        by_cases he : xs.getD k 0 = ys.getD k 0
        · have HA : Hid (∀ j, j < k + 1 → xs.getD j 0 = ys.getD j 0) := Lib.hid (fun j hj => by
            by_cases e : j = k
            · exact e ▸ he
            · exact hall.out j (by omega))
          rw [← he] at hcell2
          clear he hall
          generalize xs.getD k 0 = y at hcell hcell2
          go_wp2
          go_quiet (fail)
          go_wp2
          go_roundw
          case rel => exact ⟨k + 1, by omega, by go_num, HA, below_dn hbel _⟩
          case measure => simp [intOf]; omega
        · have HF := Lib.hid (decide_eq_false (list_ne_at hlt he))
          have heq : (xs.getD k 0 != ys.getD k 0) = true := by rw [bne_iff_ne]; exact he
          clear he hall
          generalize xs.getD k 0 = y at hcell heq
          generalize ys.getD k 0 = z at hcell2 heq
          go_wp2
          go_quiet (fail)
          go_wp2
          go_ret
          exact ⟨ret_b HF.out.symm, below_dn hbel _⟩
      · obtain rfl : k = xs.length := by omega
        have HT := Lib.hid (decide_eq_true (list_eq_all HL.out hall.out))
        clear hall
        go_wp2
        go_ret
        exact ⟨ret_b HT.out.symm, hbel⟩
  · have HF := Lib.hid (decide_eq_false (show ¬ xs = ys from fun e => hl (by rw [e])))
    have hne : ((xs.length : Int) != (ys.length : Int)) = true := by rw [bne_iff_ne]; omega
    clear hl
    go_enter Try.func110, Try.ntmps110
    go_wp2
    go_ret
    exact ⟨ret_b HF.out.symm, Below.refl _ _⟩
theorem ints_zero {w : World} {a : Option Addr} {n cap : Nat} (h : n = 0) : Ints w (.slice a n cap) [] := by subst h; exact Or.inl ⟨rfl, _, _, rfl⟩
theorem beyond_ints {W w : World} {b off cap : Nat} {xs : List Int} (hb : Below W.heap.size W w) (h2 : xs.length ≤ cap) (h3 : b < W.heap.size) (H : ∀ (j : Nat), j < xs.length → W.cell? ⟨b, off + j, none⟩ = some (.int .i64 (xs.getD j 0))) :
    Ints w (.slice (some ⟨b, off + (min 3 (xs.length : Int)).toNat, none⟩) (xs.length - (min 3 (xs.length : Int)).toNat) (cap - (min 3 (xs.length : Int)).toNat)) (xs.drop 3) := by
  by_cases hl : xs.length ≤ 3
  · have e : xs.drop 3 = [] := List.drop_eq_nil_of_le hl
    have e2 : xs.length - (min 3 (xs.length : Int)).toNat = 0 := by omega
    rw [e, e2]
    exact Or.inl ⟨rfl, _, _, rfl⟩
  · have e2 : (min 3 (xs.length : Int)).toNat = 3 := by omega
    rw [e2]
    refine Or.inr ⟨b, off + 3, cap - 3, by rw [List.length_drop], by rw [List.length_drop]; omega, Nat.lt_of_lt_of_le h3 hb.size, fun j hj => ?_⟩
    rw [List.length_drop] at hj
    have := (hb.cell (p := ⟨b, off + (3 + j), none⟩) h3).trans (H (3 + j) (by omega))
    rw [← Nat.add_assoc] at this
    rw [this]
    congr 2
    simp [List.getD, List.getElem?_drop]
set_option maxHeartbeats 4000000 in
set_option maxRecDepth 100000 in
theorem valuesBeyond_any (id : Int) (vv : Value) (xs : List Int) (w : World) (h : Ints w vv xs) (hn : xs.length ≤ 1048576) :
    Calls Try.prog 111 #[.agg #[.int .i64 id, vv]] w fun e w' => ∃ u, e = .returned u ∧ Ints w' u (xs.drop 3) ∧ Below w.heap.size w w' := by
  rcases h with ⟨rfl, a, cap, rfl⟩ | ⟨b, off, cap, rfl, h2, h3, h4⟩
  · go_enter Try.func111, Try.ntmps111
    go_wp2
    all_goals
      go_ret
      exact ⟨_, rfl, Or.inl ⟨rfl, _, _, rfl⟩, (Below.refl _ w).alloc (Nat.le_refl _) _⟩
  · have H := Lib.hid h4
    clear h4
    go_enter Try.func111, Try.ntmps111
    go_wp2
    · go_ret
      have e : xs.drop 3 = [] := List.drop_eq_nil_of_le (by omega)
      have e2 : xs.length - (min 3 (xs.length : Int)).toNat = 0 := by omega
      refine ⟨_, rfl, ?_, (Below.refl _ w).alloc (Nat.le_refl _) _⟩
      rw [e]
      exact ints_zero e2
    · go_ret
      exact ⟨_, rfl, beyond_ints ((Below.refl _ w).alloc (Nat.le_refl _) _) h2 h3 H.out, (Below.refl _ w).alloc (Nat.le_refl _) _⟩
theorem row_eq_parts (id id2 : Int) (xs ys : List Int) : decide (((id, xs) : RowD) = (id2, ys)) = ((id == id2 && (xs.length : Int) == (ys.length : Int) && (xs.getD 0 0 == ys.getD 0 0 && xs.getD 1 0 == ys.getD 1 0 && xs.getD 2 0 == ys.getD 2 0)) && decide (xs.drop 3 = ys.drop 3)) := by
  rw [Bool.eq_iff_iff]
  simp only [Bool.and_eq_true, decide_eq_true_eq, beq_iff_eq, Prod.mk.injEq]
  constructor
  · rintro ⟨rfl, rfl⟩
    exact ⟨⟨⟨rfl, rfl⟩, ⟨rfl, rfl⟩, rfl⟩, rfl⟩
  · rintro ⟨⟨⟨rfl, hl⟩, ⟨h0, h1⟩, h2⟩, h3⟩
    refine ⟨rfl, ?_⟩
    have hl' : xs.length = ys.length := by omega
    match xs, ys, hl', h0, h1, h2, h3 with
    | [], [], _, _, _, _, _ => rfl
    | [x], [y], _, h0, _, _, _ => simp at h0; rw [h0]
    | [x, x2], [y, y2], _, h0, h1, _, _ => simp at h0 h1; rw [h0, h1]
    | x :: x2 :: x3 :: r, y :: y2 :: y3 :: q, _, h0, h1, h2, h3 => simp at h0 h1 h2 h3; rw [h0, h1, h2, h3]
    | [], _ :: _, h, _, _, _, _ => simp at h
    | _ :: _, [], h, _, _, _, _ => simp at h
    | [_], _ :: _ :: _, h, _, _, _, _ => simp at h
    | _ :: _ :: _, [_], h, _, _, _, _ => simp at h
    | [_, _], _ :: _ :: _ :: _, h, _, _, _, _ => simp at h
    | _ :: _ :: _ :: _, [_, _], h, _, _, _, _ => simp at h
theorem box2 {W w : World} {g : Nat} {i j x y : Value} (g0 : W.heap[g]? = some (.cells #[i, x] 29 (0, 0))) (g1 : W.heap[g + 1]? = some (.cells #[j, y] 29 (0, 0))) (hz : g + 1 < W.heap.size) (hb : Below W.heap.size W w) :
    w.cell? ⟨g, 0, none⟩ = some i ∧ w.cell? ⟨g, 1, none⟩ = some x ∧ w.cell? ⟨g + 1, 0, none⟩ = some j ∧ w.cell? ⟨g + 1, 1, none⟩ = some y := by
  have h0 := (hb.block g (by omega)).trans g0
  have h1 := (hb.block (g + 1) hz).trans g1
  have a0 := cell_of_row w _ 0 _ _ _ h0
  have a1 := cell_of_row w _ 1 _ _ _ h0
  have a2 := cell_of_row w _ 0 _ _ _ h1
  have a3 := cell_of_row w _ 1 _ _ _ h1
  simp at a0 a1 a2 a3
  exact ⟨a0, a1, a2, a3⟩
set_option maxHeartbeats 8000000 in
set_option maxRecDepth 100000 in
theorem equalRow_any (id id2 : Int) (v u : Value) (xs ys : List Int) (w : World) (h : Ints w v xs) (g : Ints w u ys) (hn : xs.length ≤ 1048576) (hm : ys.length ≤ 1048576) :
    Calls Try.prog 94 #[.agg #[.int .i64 id, v], .agg #[.int .i64 id2, u]] w fun e w' => e = .returned (.bool (decide (((id, xs) : RowD) = (id2, ys)))) ∧ Below w.heap.size w w' := by
  have HP := Lib.hid (row_eq_parts id id2 xs ys)
  have HR1 := Lib.hid (fun w h => recordOf_any id v xs w h hn)
  have HR2 := Lib.hid (fun w h => recordOf_any id2 u ys w h hm)
  have HB1 := Lib.hid (fun w h => valuesBeyond_any id v xs w h hn)
  have HB2 := Lib.hid (fun w h => valuesBeyond_any id2 u ys w h hm)
  have HE := Lib.hid (fun w p q h g => equalInts p q (xs.drop 3) (ys.drop 3) w h g (by rw [List.length_drop]; omega) (by rw [List.length_drop]; omega))
  have HQ := Lib.hid (fun w => eql_rec id xs.length (xs.getD 0 0) (xs.getD 1 0) (xs.getD 2 0) id2 ys.length (ys.getD 0 0) (ys.getD 1 0) (ys.getD 2 0) w)
  have hgd := fun (o1 o2 : Operand) (xs ys : Array Value) (w : World) => guard_rec o1 o2 xs ys w
  have HV := Lib.hid h
  have HU := Lib.hid g
  unfold recV at HR1 HR2
  obtain ⟨a, cap, rfl⟩ := ints_len h
  obtain ⟨a2, cap2, rfl⟩ := ints_len g
  clear h g hn hm
  generalize xs.getD 0 0 = x0 at *
  generalize xs.getD 1 0 = x1 at *
  generalize xs.getD 2 0 = x2 at *
  generalize ys.getD 0 0 = y0 at *
  generalize ys.getD 1 0 = y1 at *
  generalize ys.getD 2 0 = y2 at *
  generalize decide (((id, xs) : RowD) = (id2, ys)) = r at *
  generalize decide (xs.drop 3 = ys.drop 3) = r2 at *
  generalize (id == id2 && (xs.length : Int) == (ys.length : Int) && (x0 == y0 && x1 == y1 && x2 == y2)) = r1 at *
  have hq := HQ.out
  clear HQ
  cases r1 with
  | false =>
    have HF : Hid (r = false) := Lib.hid (by rw [HP.out]; simp)
    clear HP
    go_enter Try.func94, Try.ntmps94
    go_wp2
    have hh : Below w.heap.size w ((w.alloc (.cells #[.int .i64 id, .slice a xs.length cap] 29)).alloc (.cells #[.int .i64 id2, .slice a2 ys.length cap2] 29)) := ((Below.refl _ w).alloc (Nat.le_refl _) _).alloc (by simp) _
    have g1 : ((w.alloc (.cells #[.int .i64 id, .slice a xs.length cap] 29)).alloc (.cells #[.int .i64 id2, .slice a2 ys.length cap2] 29)).heap[w.heap.size + 1]? = some (.cells #[.int .i64 id2, .slice a2 ys.length cap2] 29 (0, 0)) := by
      have := heap_alloc_new (w.alloc (.cells #[.int .i64 id, .slice a xs.length cap] 29)) (.cells #[.int .i64 id2, .slice a2 ys.length cap2] 29)
      simpa only [World.size_alloc] using this
    have g0 : ((w.alloc (.cells #[.int .i64 id, .slice a xs.length cap] 29)).alloc (.cells #[.int .i64 id2, .slice a2 ys.length cap2] 29)).heap[w.heap.size]? = some (.cells #[.int .i64 id, .slice a xs.length cap] 29 (0, 0)) := by
      rw [Below.heap_alloc _ _ _ (by simp)]
      exact heap_alloc_new w _
    have hz1 : w.heap.size + 1 < ((w.alloc (.cells #[.int .i64 id, .slice a xs.length cap] 29)).alloc (.cells #[.int .i64 id2, .slice a2 ys.length cap2] 29)).heap.size := by simp
    generalize ((w.alloc (.cells #[.int .i64 id, .slice a xs.length cap] 29)).alloc (.cells #[.int .i64 id2, .slice a2 ys.length cap2] 29)) = W at *
    have z1 := box2 g0 g1 hz1 (Below.refl _ W)
    refine wp_region_held_drew (S := fun w' => w'.cell? ⟨w.heap.size, 0, none⟩ = some (.int .i64 id) ∧ w'.cell? ⟨w.heap.size, 1, none⟩ = some (.slice a xs.length cap) ∧ w'.cell? ⟨w.heap.size + 1, 0, none⟩ = some (.int .i64 id2) ∧ w'.cell? ⟨w.heap.size + 1, 1, none⟩ = some (.slice a2 ys.length cap2)) (by kernel_rfl) ⟨z1.1, z1.2.1, z1.2.2.1, z1.2.2.2⟩ (fun hHeld => ?_)
    have cD : Below W.heap.size W W.drew := below_drew (Below.refl _ W)
    refine take_runs (i := 0) (v := ?_) (by simp only [List.getElem?_toArray, List.getElem?_cons_succ, List.getElem?_cons_zero]; rfl) (by kernel_rfl) (by kernel_rfl) (by kernel_rfl) rfl (by exact fun _ _ _ h => h) (by rfl) ?_ (by assumption) ?_
    rotate_left
    · intro w hSw; (try dsimp only at hSw); go_simp; try (with_reducible rfl)
    try simp only [Act.put, List.setIfInBounds_toArray, List.set_cons_zero, List.set_cons_succ]
    refine take_runs (i := 2) (v := ?_) (by simp only [List.getElem?_toArray, List.getElem?_cons_succ, List.getElem?_cons_zero]; rfl) (by kernel_rfl) (by kernel_rfl) (by kernel_rfl) rfl (by exact fun _ _ _ h => h) (by rfl) ?_ (by assumption) ?_
    rotate_left
    · intro w hSw; (try dsimp only at hSw); go_simp; try (with_reducible rfl)
    try simp only [Act.put, List.setIfInBounds_toArray, List.set_cons_zero, List.set_cons_succ]
    refine wpAnyH_ready (rs := [1]) (by kernel_rfl) (by simp) ?_
    refine AllReadyH.cons (o := _) (by simp only [List.getElem?_toArray, List.getElem?_cons_succ, List.getElem?_cons_zero]; rfl) (fun K hK => ?_) AllReadyH.nil
    go_simp
    refine (HR1.out _ (ints_below HV.out (hh.trans (cD.mono hh.size)))).mono ?_
    rintro e w1 ⟨rfl, bw1⟩
    have cw1 := cD.trans (bw1.mono cD.size)
    have z2 := box2 g0 g1 hz1 cw1
    refine hK.out _ _ ⟨z2.1, z2.2.1, z2.2.2.1, z2.2.2.2⟩ (fun hHeld => ?_)
    clear hK K
    try simp only [Act.put, List.setIfInBounds_toArray, List.set_cons_zero, List.set_cons_succ]
    refine wpAnyH_ready (rs := [3]) (by kernel_rfl) (by simp) ?_
    refine AllReadyH.cons (o := _) (by simp only [List.getElem?_toArray, List.getElem?_cons_succ, List.getElem?_cons_zero]; rfl) (fun K hK => ?_) AllReadyH.nil
    go_simp
    refine (HR2.out _ (ints_below HU.out (hh.trans (cw1.mono hh.size)))).mono ?_
    rintro e w2 ⟨rfl, bw2⟩
    have cw2 := cw1.trans (bw2.mono cw1.size)
    have z3 := box2 g0 g1 hz1 cw2
    refine hK.out _ _ ⟨z3.1, z3.2.1, z3.2.2.1, z3.2.2.2⟩ (fun hHeld => ?_)
    clear hK K
    try simp only [Act.put, List.setIfInBounds_toArray, List.set_cons_zero, List.set_cons_succ]
    refine take_runs (i := 4) (v := ?_) (by simp only [List.getElem?_toArray, List.getElem?_cons_succ, List.getElem?_cons_zero]; rfl) (by kernel_rfl) (by kernel_rfl) (by kernel_rfl) rfl (by exact fun _ _ _ h => h) (by rfl) ?_ (by assumption) ?_
    rotate_left
    · intro w hSw; (try dsimp only at hSw); go_simp; try (with_reducible rfl)
    try simp only [Act.put, List.setIfInBounds_toArray, List.set_cons_zero, List.set_cons_succ]
    refine take_runs (i := 5) (v := ?_) (by simp only [List.getElem?_toArray, List.getElem?_cons_succ, List.getElem?_cons_zero]; rfl) (by kernel_rfl) (by kernel_rfl) (by kernel_rfl) rfl (by exact fun _ _ _ h => h) (by rfl) ?_ (by assumption) ?_
    rotate_left
    · intro w hSw; (try dsimp only at hSw); go_simp; try (with_reducible rfl)
    try simp only [Act.put, List.setIfInBounds_toArray, List.set_cons_zero, List.set_cons_succ]
    refine take_over (i := 6) (by simp only [List.getElem?_toArray, List.getElem?_cons_succ, List.getElem?_cons_zero]; rfl) (by kernel_rfl) (by kernel_rfl) (by kernel_rfl) rfl (by exact fun _ _ _ h => h) (by rfl) (by assumption) ?_
    try simp only [Act.put, List.setIfInBounds_toArray, List.set_cons_zero, List.set_cons_succ]
    refine take_over (i := 7) (by simp only [List.getElem?_toArray, List.getElem?_cons_succ, List.getElem?_cons_zero]; rfl) (by kernel_rfl) (by kernel_rfl) (by kernel_rfl) rfl (by exact fun _ _ _ h => h) (by rfl) (by assumption) ?_
    try simp only [Act.put, List.setIfInBounds_toArray, List.set_cons_zero, List.set_cons_succ]
    refine take_over (i := 8) (by simp only [List.getElem?_toArray, List.getElem?_cons_succ, List.getElem?_cons_zero]; rfl) (by kernel_rfl) (by kernel_rfl) (by kernel_rfl) rfl (by exact fun _ _ _ h => h) (by rfl) (by assumption) ?_
    try simp only [Act.put, List.setIfInBounds_toArray, List.set_cons_zero, List.set_cons_succ]
    refine take_over (i := 9) (by simp only [List.getElem?_toArray, List.getElem?_cons_succ, List.getElem?_cons_zero]; rfl) (by kernel_rfl) (by kernel_rfl) (by kernel_rfl) rfl (by exact fun _ _ _ h => h) (by rfl) (by assumption) ?_
    try simp only [Act.put, List.setIfInBounds_toArray, List.set_cons_zero, List.set_cons_succ]
    refine take_over (i := 10) (by simp only [List.getElem?_toArray, List.getElem?_cons_succ, List.getElem?_cons_zero]; rfl) (by kernel_rfl) (by kernel_rfl) (by kernel_rfl) rfl (by exact fun _ _ _ h => h) (by rfl) (by assumption) ?_
    try simp only [Act.put, List.setIfInBounds_toArray, List.set_cons_zero, List.set_cons_succ]
    refine take_runs (i := 11) (v := ?_) (by simp only [List.getElem?_toArray, List.getElem?_cons_succ, List.getElem?_cons_zero]; rfl) (by kernel_rfl) (by kernel_rfl) (by kernel_rfl) rfl (by exact fun _ _ _ h => h) (by rfl) ?_ (by assumption) ?_
    rotate_left
    · intro w hSw; (try dsimp only at hSw); go_simp; try (with_reducible rfl)
    try simp only [Act.put, List.setIfInBounds_toArray, List.set_cons_zero, List.set_cons_succ]
    refine take_runs (i := 12) (v := ?_) (by simp only [List.getElem?_toArray, List.getElem?_cons_succ, List.getElem?_cons_zero]; rfl) (by kernel_rfl) (by kernel_rfl) (by kernel_rfl) rfl (by exact fun _ _ _ h => h) (by rfl) ?_ (by assumption) ?_
    rotate_left
    · intro w hSw; (try dsimp only at hSw); go_simp; try (with_reducible rfl)
    try simp only [Act.put, List.setIfInBounds_toArray, List.set_cons_zero, List.set_cons_succ]
    refine wpAnyH_done (by kernel_rfl) ?_ _
    have b11 := hh.trans (cw2.mono hh.size)
    go_wp2
    go_ret
    exact ⟨ret_b HF.out.symm, b11⟩
  | true =>
    have HF : Hid (r = r2) := Lib.hid (by rw [HP.out]; simp)
    clear HP
    go_enter Try.func94, Try.ntmps94
    go_wp2
    have hh : Below w.heap.size w ((w.alloc (.cells #[.int .i64 id, .slice a xs.length cap] 29)).alloc (.cells #[.int .i64 id2, .slice a2 ys.length cap2] 29)) := ((Below.refl _ w).alloc (Nat.le_refl _) _).alloc (by simp) _
    have g1 : ((w.alloc (.cells #[.int .i64 id, .slice a xs.length cap] 29)).alloc (.cells #[.int .i64 id2, .slice a2 ys.length cap2] 29)).heap[w.heap.size + 1]? = some (.cells #[.int .i64 id2, .slice a2 ys.length cap2] 29 (0, 0)) := by
      have := heap_alloc_new (w.alloc (.cells #[.int .i64 id, .slice a xs.length cap] 29)) (.cells #[.int .i64 id2, .slice a2 ys.length cap2] 29)
      simpa only [World.size_alloc] using this
    have g0 : ((w.alloc (.cells #[.int .i64 id, .slice a xs.length cap] 29)).alloc (.cells #[.int .i64 id2, .slice a2 ys.length cap2] 29)).heap[w.heap.size]? = some (.cells #[.int .i64 id, .slice a xs.length cap] 29 (0, 0)) := by
      rw [Below.heap_alloc _ _ _ (by simp)]
      exact heap_alloc_new w _
    have hz1 : w.heap.size + 1 < ((w.alloc (.cells #[.int .i64 id, .slice a xs.length cap] 29)).alloc (.cells #[.int .i64 id2, .slice a2 ys.length cap2] 29)).heap.size := by simp
    generalize ((w.alloc (.cells #[.int .i64 id, .slice a xs.length cap] 29)).alloc (.cells #[.int .i64 id2, .slice a2 ys.length cap2] 29)) = W at *
    have z1 := box2 g0 g1 hz1 (Below.refl _ W)
    refine wp_region_held_drew (S := fun w' => w'.cell? ⟨w.heap.size, 0, none⟩ = some (.int .i64 id) ∧ w'.cell? ⟨w.heap.size, 1, none⟩ = some (.slice a xs.length cap) ∧ w'.cell? ⟨w.heap.size + 1, 0, none⟩ = some (.int .i64 id2) ∧ w'.cell? ⟨w.heap.size + 1, 1, none⟩ = some (.slice a2 ys.length cap2)) (by kernel_rfl) ⟨z1.1, z1.2.1, z1.2.2.1, z1.2.2.2⟩ (fun hHeld => ?_)
    have cD : Below W.heap.size W W.drew := below_drew (Below.refl _ W)
    refine take_runs (i := 0) (v := ?_) (by simp only [List.getElem?_toArray, List.getElem?_cons_succ, List.getElem?_cons_zero]; rfl) (by kernel_rfl) (by kernel_rfl) (by kernel_rfl) rfl (by exact fun _ _ _ h => h) (by rfl) ?_ (by assumption) ?_
    rotate_left
    · intro w hSw; (try dsimp only at hSw); go_simp; try (with_reducible rfl)
    try simp only [Act.put, List.setIfInBounds_toArray, List.set_cons_zero, List.set_cons_succ]
    refine take_runs (i := 2) (v := ?_) (by simp only [List.getElem?_toArray, List.getElem?_cons_succ, List.getElem?_cons_zero]; rfl) (by kernel_rfl) (by kernel_rfl) (by kernel_rfl) rfl (by exact fun _ _ _ h => h) (by rfl) ?_ (by assumption) ?_
    rotate_left
    · intro w hSw; (try dsimp only at hSw); go_simp; try (with_reducible rfl)
    try simp only [Act.put, List.setIfInBounds_toArray, List.set_cons_zero, List.set_cons_succ]
    refine wpAnyH_ready (rs := [1]) (by kernel_rfl) (by simp) ?_
    refine AllReadyH.cons (o := _) (by simp only [List.getElem?_toArray, List.getElem?_cons_succ, List.getElem?_cons_zero]; rfl) (fun K hK => ?_) AllReadyH.nil
    go_simp
    refine (HR1.out _ (ints_below HV.out (hh.trans (cD.mono hh.size)))).mono ?_
    rintro e w1 ⟨rfl, bw1⟩
    have cw1 := cD.trans (bw1.mono cD.size)
    have z2 := box2 g0 g1 hz1 cw1
    refine hK.out _ _ ⟨z2.1, z2.2.1, z2.2.2.1, z2.2.2.2⟩ (fun hHeld => ?_)
    clear hK K
    try simp only [Act.put, List.setIfInBounds_toArray, List.set_cons_zero, List.set_cons_succ]
    refine wpAnyH_ready (rs := [3]) (by kernel_rfl) (by simp) ?_
    refine AllReadyH.cons (o := _) (by simp only [List.getElem?_toArray, List.getElem?_cons_succ, List.getElem?_cons_zero]; rfl) (fun K hK => ?_) AllReadyH.nil
    go_simp
    refine (HR2.out _ (ints_below HU.out (hh.trans (cw1.mono hh.size)))).mono ?_
    rintro e w2 ⟨rfl, bw2⟩
    have cw2 := cw1.trans (bw2.mono cw1.size)
    have z3 := box2 g0 g1 hz1 cw2
    refine hK.out _ _ ⟨z3.1, z3.2.1, z3.2.2.1, z3.2.2.2⟩ (fun hHeld => ?_)
    clear hK K
    try simp only [Act.put, List.setIfInBounds_toArray, List.set_cons_zero, List.set_cons_succ]
    refine take_runs (i := 4) (v := ?_) (by simp only [List.getElem?_toArray, List.getElem?_cons_succ, List.getElem?_cons_zero]; rfl) (by kernel_rfl) (by kernel_rfl) (by kernel_rfl) rfl (by exact fun _ _ _ h => h) (by rfl) ?_ (by assumption) ?_
    rotate_left
    · intro w hSw; (try dsimp only at hSw); go_simp; try (with_reducible rfl)
    try simp only [Act.put, List.setIfInBounds_toArray, List.set_cons_zero, List.set_cons_succ]
    refine take_runs (i := 5) (v := ?_) (by simp only [List.getElem?_toArray, List.getElem?_cons_succ, List.getElem?_cons_zero]; rfl) (by kernel_rfl) (by kernel_rfl) (by kernel_rfl) rfl (by exact fun _ _ _ h => h) (by rfl) ?_ (by assumption) ?_
    rotate_left
    · intro w hSw; (try dsimp only at hSw); go_simp; try (with_reducible rfl)
    try simp only [Act.put, List.setIfInBounds_toArray, List.set_cons_zero, List.set_cons_succ]
    refine take_runs (i := 6) (v := ?_) (by simp only [List.getElem?_toArray, List.getElem?_cons_succ, List.getElem?_cons_zero]; rfl) (by kernel_rfl) (by kernel_rfl) (by kernel_rfl) rfl (by exact fun _ _ _ h => h) (by rfl) ?_ (by assumption) ?_
    rotate_left
    · intro w hSw; (try dsimp only at hSw); go_simp; try (with_reducible rfl)
    try simp only [Act.put, List.setIfInBounds_toArray, List.set_cons_zero, List.set_cons_succ]
    refine take_runs (i := 8) (v := ?_) (by simp only [List.getElem?_toArray, List.getElem?_cons_succ, List.getElem?_cons_zero]; rfl) (by kernel_rfl) (by kernel_rfl) (by kernel_rfl) rfl (by exact fun _ _ _ h => h) (by rfl) ?_ (by assumption) ?_
    rotate_left
    · intro w hSw; (try dsimp only at hSw); go_simp; try (with_reducible rfl)
    try simp only [Act.put, List.setIfInBounds_toArray, List.set_cons_zero, List.set_cons_succ]
    refine wpAnyH_ready (rs := [7]) (by kernel_rfl) (by simp) ?_
    refine AllReadyH.cons (o := _) (by simp only [List.getElem?_toArray, List.getElem?_cons_succ, List.getElem?_cons_zero]; rfl) (fun K hK => ?_) AllReadyH.nil
    go_simp
    refine (HB1.out _ (ints_below HV.out (hh.trans (cw2.mono hh.size)))).mono ?_
    rintro e w3 ⟨xw3, rfl, iw3, bw3⟩
    have cw3 := cw2.trans (bw3.mono cw2.size)
    have z4 := box2 g0 g1 hz1 cw3
    refine hK.out _ _ ⟨z4.1, z4.2.1, z4.2.2.1, z4.2.2.2⟩ (fun hHeld => ?_)
    clear hK K
    try simp only [Act.put, List.setIfInBounds_toArray, List.set_cons_zero, List.set_cons_succ]
    refine wpAnyH_ready (rs := [9]) (by kernel_rfl) (by simp) ?_
    refine AllReadyH.cons (o := _) (by simp only [List.getElem?_toArray, List.getElem?_cons_succ, List.getElem?_cons_zero]; rfl) (fun K hK => ?_) AllReadyH.nil
    go_simp
    refine (HB2.out _ (ints_below HU.out (hh.trans (cw3.mono hh.size)))).mono ?_
    rintro e w4 ⟨xw4, rfl, iw4, bw4⟩
    have cw4 := cw3.trans (bw4.mono cw3.size)
    have z5 := box2 g0 g1 hz1 cw4
    refine hK.out _ _ ⟨z5.1, z5.2.1, z5.2.2.1, z5.2.2.2⟩ (fun hHeld => ?_)
    clear hK K
    try simp only [Act.put, List.setIfInBounds_toArray, List.set_cons_zero, List.set_cons_succ]
    refine wpAnyH_ready (rs := [10]) (by kernel_rfl) (by simp) ?_
    refine AllReadyH.cons (o := _) (by simp only [List.getElem?_toArray, List.getElem?_cons_succ, List.getElem?_cons_zero]; rfl) (fun K hK => ?_) AllReadyH.nil
    go_simp
    refine (HE.out _ xw3 xw4 (ints_below iw3 bw4) iw4).mono ?_
    rintro e w5 ⟨rfl, bw5⟩
    have cw5 := cw4.trans (bw5.mono cw4.size)
    have z6 := box2 g0 g1 hz1 cw5
    refine hK.out _ _ ⟨z6.1, z6.2.1, z6.2.2.1, z6.2.2.2⟩ (fun hHeld => ?_)
    clear hK K
    try simp only [Act.put, List.setIfInBounds_toArray, List.set_cons_zero, List.set_cons_succ]
    refine take_runs (i := 11) (v := ?_) (by simp only [List.getElem?_toArray, List.getElem?_cons_succ, List.getElem?_cons_zero]; rfl) (by kernel_rfl) (by kernel_rfl) (by kernel_rfl) rfl (by exact fun _ _ _ h => h) (by rfl) ?_ (by assumption) ?_
    rotate_left
    · intro w hSw; (try dsimp only at hSw); go_simp; try (with_reducible rfl)
    try simp only [Act.put, List.setIfInBounds_toArray, List.set_cons_zero, List.set_cons_succ]
    refine take_runs (i := 12) (v := ?_) (by simp only [List.getElem?_toArray, List.getElem?_cons_succ, List.getElem?_cons_zero]; rfl) (by kernel_rfl) (by kernel_rfl) (by kernel_rfl) rfl (by exact fun _ _ _ h => h) (by rfl) ?_ (by assumption) ?_
    rotate_left
    · intro w hSw; (try dsimp only at hSw); go_simp; try (with_reducible rfl)
    try simp only [Act.put, List.setIfInBounds_toArray, List.set_cons_zero, List.set_cons_succ]
    refine wpAnyH_done (by kernel_rfl) ?_ _
    have b11 := hh.trans (cw5.mono hh.size)
    go_wp2
    go_ret
    exact ⟨ret_b HF.out.symm, b11⟩
end Go.Proofs.Ythiiaiholcfhhaa
namespace Go.Proofs.Ythiiaiholcfhhaa
open Go.RowKit
set_option linter.unusedVariables false
set_option linter.unusedSimpArgs false
theorem uField_yes (n : Int) (w : World) (h1 : 0 ≤ n) (h2 : n < 3) : Calls Try.prog 168 #[.int .i64 n] w fun e w' => e = .returned (.bool true) ∧ w' = w := by
  go_enter Try.func168, Try.ntmps168
  go_wp2
  go_ret
  exact ⟨rfl, rfl⟩
theorem uField_no (n : Int) (w : World) (h : ¬ (0 ≤ n ∧ n ≤ 2)) : Calls Try.prog 168 #[.int .i64 n] w fun e w' => e = .returned (.bool false) ∧ w' = w := by
  by_cases h1 : 0 ≤ n
  · have h2 : ¬ n < 3 := fun g => h ⟨h1, by omega⟩
    have h3 : decide (n < 3) = false := decide_eq_false h2
    clear h
    go_enter Try.func168, Try.ntmps168
    go_wp2
    go_ret
    exact ⟨rfl, rfl⟩
  · have h3 : decide (0 ≤ n) = false := decide_eq_false h1
    clear h
    go_enter Try.func168, Try.ntmps168
    go_wp2
    go_ret
    exact ⟨rfl, rfl⟩
theorem uValue_yes (n : Int) (w : World) (h1 : 0 ≤ n) (h2 : n ≤ 99) : Calls Try.prog 169 #[.int .i64 n] w fun e w' => e = .returned (.bool true) ∧ w' = w := by
  go_enter Try.func169, Try.ntmps169
  go_wp2
  go_ret
  exact ⟨rfl, rfl⟩
theorem uValue_no (n : Int) (w : World) (h : ¬ (0 ≤ n ∧ n ≤ 99)) : Calls Try.prog 169 #[.int .i64 n] w fun e w' => e = .returned (.bool false) ∧ w' = w := by
  by_cases h1 : 0 ≤ n
  · have h2 : ¬ n ≤ 99 := fun g => h ⟨h1, g⟩
    have h3 : decide (n ≤ 99) = false := decide_eq_false h2
    clear h
    go_enter Try.func169, Try.ntmps169
    go_wp2
    go_ret
    exact ⟨rfl, rfl⟩
  · have h3 : decide (0 ≤ n) = false := decide_eq_false h1
    clear h
    go_enter Try.func169, Try.ntmps169
    go_wp2
    go_ret
    exact ⟨rfl, rfl⟩
set_option maxHeartbeats 8000000 in
set_option maxRecDepth 100000 in
theorem insValid (id : Int) (vv : Value) (xs : List Int) (w : World) (h : Ints w vv xs) (hn : xs.length ≤ 1048576) :
    Calls Try.prog 138 #[.agg #[.int .i64 id, vv]] w fun e w' => e = .returned (.bool (rowB (id, xs))) ∧ Below w.heap.size w w' := by
  obtain ⟨va, vc, rfl⟩ := ints_len h
  have hal : Below w.heap.size w (w.alloc (.cells #[.int .i64 id, .slice va xs.length vc] 114)) := (Below.refl _ _).alloc (Nat.le_refl _) _
  have HR := Lib.hid (implIsRow id (.slice va xs.length vc) xs (w.alloc (.cells #[.int .i64 id, .slice va xs.length vc] 114)) (ints_below h hal) hn)
  clear h
  go_enter Try.func138, Try.ntmps138
  go_wp2_with fail
  refine HR.out.mono ?_
  rintro e w1 ⟨rfl, b1⟩
  have b2 := hal.trans (b1.mono hal.size)
  go_wp2
  go_ret
  exact ⟨rfl, b2⟩
set_option maxHeartbeats 8000000 in
set_option maxRecDepth 100000 in
theorem delValid_yes (id : Int) (w : World) (h1 : 0 ≤ id) (h2 : id ≤ 999) :
    Calls Try.prog 161 #[.agg #[.int .i64 id]] w fun e w' => e = .returned (.bool true) ∧ Below w.heap.size w w' := by
  have HI := Lib.hid (fun W => isRowId_yes id W h1 h2)
  have hal : Below w.heap.size w (w.alloc (.cells #[.int .i64 id] 116)) := (Below.refl _ _).alloc (Nat.le_refl _) _
  go_enter Try.func161, Try.ntmps161
  go_wp2_with fail
  refine (HI.out _).mono ?_
  rintro e wx ⟨rfl, rfl⟩
  go_wp2
  go_ret
  exact ⟨rfl, hal⟩
set_option maxHeartbeats 8000000 in
set_option maxRecDepth 100000 in
theorem delValid_no (id : Int) (w : World) (h : ¬ (0 ≤ id ∧ id ≤ 999)) :
    Calls Try.prog 161 #[.agg #[.int .i64 id]] w fun e w' => e = .returned (.bool false) ∧ Below w.heap.size w w' := by
  have HI := Lib.hid (fun W => isRowId_no id W h)
  have hal : Below w.heap.size w (w.alloc (.cells #[.int .i64 id] 116)) := (Below.refl _ _).alloc (Nat.le_refl _) _
  go_enter Try.func161, Try.ntmps161
  go_wp2_with fail
  refine (HI.out _).mono ?_
  rintro e wx ⟨rfl, rfl⟩
  go_wp2
  go_ret
  exact ⟨rfl, hal⟩
set_option maxHeartbeats 8000000 in
set_option maxRecDepth 100000 in
theorem setValid (id f x : Int) (w : World) :
    Calls Try.prog 165 #[.agg #[.int .i64 id, .int .i64 f, .int .i64 x]] w fun e w' => e = .returned (.bool (decide ((0 ≤ id ∧ id ≤ 999) ∧ (0 ≤ f ∧ f ≤ 2) ∧ (0 ≤ x ∧ x ≤ 99)))) ∧ Below w.heap.size w w' := by
  have hal : Below w.heap.size w (w.alloc (.cells #[.int .i64 id, .int .i64 f, .int .i64 x] 118)) := (Below.refl _ _).alloc (Nat.le_refl _) _
  by_cases hi : 0 ≤ id ∧ id ≤ 999
  rotate_left
  · rw [decide_eq_false (fun g => hi g.1)]
    have HI := Lib.hid (fun W => isRowId_no id W hi)
    clear hi
    go_enter Try.func165, Try.ntmps165
    go_wp2_with fail
    refine (HI.out _).mono ?_
    rintro e wx ⟨rfl, rfl⟩
    go_wp2
    go_ret
    exact ⟨rfl, hal⟩
  have HI := Lib.hid (fun W => isRowId_yes id W hi.1 hi.2)
  by_cases hf : 0 ≤ f ∧ f ≤ 2
  rotate_left
  · rw [decide_eq_false (fun g => hf g.2.1)]
    have HF := Lib.hid (fun W => uField_no f W hf)
    clear hi hf
    go_enter Try.func165, Try.ntmps165
    go_wp2_with fail
    refine (HI.out _).mono ?_
    rintro e wx ⟨rfl, rfl⟩
    go_wp2_with fail
    refine (HF.out _).mono ?_
    rintro e wx ⟨rfl, rfl⟩
    go_wp2
    go_ret
    exact ⟨rfl, hal⟩
  have HF := Lib.hid (fun W => uField_yes f W hf.1 (by omega))
  by_cases hx : 0 ≤ x ∧ x ≤ 99
  rotate_left
  · rw [decide_eq_false (fun g => hx g.2.2)]
    have HX := Lib.hid (fun W => uValue_no x W hx)
    clear hi hf hx
    go_enter Try.func165, Try.ntmps165
    go_wp2_with fail
    refine (HI.out _).mono ?_
    rintro e wx ⟨rfl, rfl⟩
    go_wp2_with fail
    refine (HF.out _).mono ?_
    rintro e wx ⟨rfl, rfl⟩
    go_wp2_with fail
    refine (HX.out _).mono ?_
    rintro e wx ⟨rfl, rfl⟩
    go_wp2
    go_ret
    exact ⟨rfl, hal⟩
  have HX := Lib.hid (fun W => uValue_yes x W hx.1 hx.2)
  rw [decide_eq_true ⟨hi, hf, hx⟩]
  clear hi hf hx
  go_enter Try.func165, Try.ntmps165
  go_wp2_with fail
  refine (HI.out _).mono ?_
  rintro e wx ⟨rfl, rfl⟩
  go_wp2_with fail
  refine (HF.out _).mono ?_
  rintro e wx ⟨rfl, rfl⟩
  go_wp2_with fail
  refine (HX.out _).mono ?_
  rintro e wx ⟨rfl, rfl⟩
  go_wp2
  go_ret
  exact ⟨rfl, hal⟩
end Go.Proofs.Ythiiaiholcfhhaa
namespace Go.Proofs.Ythiiaiholcfhhaa
open Go.RowKit
set_option linter.unusedVariables false
set_option linter.unusedSimpArgs false
set_option maxHeartbeats 8000000 in
set_option maxRecDepth 100000 in
theorem insUpdate (id : Int) (va : Option Addr) (n vc : Nat) (w : World) :
    Calls Try.prog 139 #[.agg #[.int .i64 id, .slice va n vc]] w fun e w' => e = .returned (.agg #[.int .i64 1, .int .i64 id, .slice va n vc, .int .i64 0, .int .i64 0]) ∧ Below w.heap.size w w' := by
  go_enter Try.func139, Try.ntmps139
  go_wp2
  refine bodyPost_ret (v := .agg #[.int .i64 1, .int .i64 id, .slice va n vc, .int .i64 0, .int .i64 0]) ?_ rfl ⟨rfl, ((Below.refl _ _).alloc (Nat.le_refl _) _).alloc (by simp) _⟩
  simp [results, Try.f139, go_sem]
set_option maxHeartbeats 8000000 in
set_option maxRecDepth 100000 in
theorem delUpdate (id : Int) (w : World) :
    Calls Try.prog 162 #[.agg #[.int .i64 id]] w fun e w' => e = .returned (.agg #[.int .i64 2, .int .i64 id, .slice none 0 0, .int .i64 0, .int .i64 0]) ∧ Below w.heap.size w w' := by
  go_enter Try.func162, Try.ntmps162
  go_wp2
  refine bodyPost_ret (v := .agg #[.int .i64 2, .int .i64 id, .slice none 0 0, .int .i64 0, .int .i64 0]) ?_ rfl ⟨rfl, ((Below.refl _ _).alloc (Nat.le_refl _) _).alloc (by simp) _⟩
  simp [results, Try.f162, go_sem]
set_option maxHeartbeats 8000000 in
set_option maxRecDepth 100000 in
theorem setUpdate (id f x : Int) (w : World) :
    Calls Try.prog 166 #[.agg #[.int .i64 id, .int .i64 f, .int .i64 x]] w fun e w' => e = .returned (.agg #[.int .i64 3, .int .i64 id, .slice none 0 0, .int .i64 f, .int .i64 x]) ∧ Below w.heap.size w w' := by
  go_enter Try.func166, Try.ntmps166
  go_wp2
  refine bodyPost_ret (v := .agg #[.int .i64 3, .int .i64 id, .slice none 0 0, .int .i64 f, .int .i64 x]) ?_ rfl ⟨rfl, ((Below.refl _ _).alloc (Nat.le_refl _) _).alloc (by simp) _⟩
  simp [results, Try.f166, go_sem]
end Go.Proofs.Ythiiaiholcfhhaa
namespace Go.Proofs.Ythiiaiholcfhhaa
open Go.RowKit
set_option linter.unusedVariables false
set_option linter.unusedSimpArgs false
set_option maxHeartbeats 8000000 in
set_option maxRecDepth 100000 in
theorem implEqualUpdate (k id f x k2 id2 f2 x2 : Int) (v u : Value) (xs ys : List Int) (w : World) (h : Ints w v xs) (g : Ints w u ys) (hn : xs.length ≤ 1048576) (hm : ys.length ≤ 1048576) :
    Calls Try.prog 74 #[.agg #[.int .i64 k, .int .i64 id, v, .int .i64 f, .int .i64 x], .agg #[.int .i64 k2, .int .i64 id2, u, .int .i64 f2, .int .i64 x2]] w fun e w' => e = .returned (.bool (decide (k = k2 ∧ ((id, xs) : RowD) = (id2, ys) ∧ f = f2 ∧ x = x2))) ∧ Below w.heap.size w w' := by
  obtain ⟨va, vc, rfl⟩ := ints_len h
  obtain ⟨ua, uc, rfl⟩ := ints_len g
  have d := Lib.hid (show Below w.heap.size w ((w.alloc (.cells #[.int .i64 k, .int .i64 id, .slice va xs.length vc, .int .i64 f, .int .i64 x] 31)).alloc (.cells #[.int .i64 k2, .int .i64 id2, .slice ua ys.length uc, .int .i64 f2, .int .i64 x2] 31)) from ((Below.refl _ _).alloc (Nat.le_refl _) _).alloc (by simp) _)
  have K0 : Hid (((w.alloc (.cells #[.int .i64 k, .int .i64 id, .slice va xs.length vc, .int .i64 f, .int .i64 x] 31)).alloc (.cells #[.int .i64 k2, .int .i64 id2, .slice ua ys.length uc, .int .i64 f2, .int .i64 x2] 31)).heap[w.heap.size]? = some (.cells #[.int .i64 k, .int .i64 id, .slice va xs.length vc, .int .i64 f, .int .i64 x] 31 (0, 0))) := Lib.hid (by rw [Below.heap_alloc _ _ _ (by simp)]; exact heap_alloc_new w _)
  have K1 : Hid (((w.alloc (.cells #[.int .i64 k, .int .i64 id, .slice va xs.length vc, .int .i64 f, .int .i64 x] 31)).alloc (.cells #[.int .i64 k2, .int .i64 id2, .slice ua ys.length uc, .int .i64 f2, .int .i64 x2] 31)).heap[w.heap.size + 1]? = some (.cells #[.int .i64 k2, .int .i64 id2, .slice ua ys.length uc, .int .i64 f2, .int .i64 x2] 31 (0, 0))) := Lib.hid (by
    have := heap_alloc_new (w.alloc (.cells #[.int .i64 k, .int .i64 id, .slice va xs.length vc, .int .i64 f, .int .i64 x] 31)) (.cells #[.int .i64 k2, .int .i64 id2, .slice ua ys.length uc, .int .i64 f2, .int .i64 x2] 31)
    simpa only [World.size_alloc] using this)
  have Y : Hid (w.heap.size + 1 < ((w.alloc (.cells #[.int .i64 k, .int .i64 id, .slice va xs.length vc, .int .i64 f, .int .i64 x] 31)).alloc (.cells #[.int .i64 k2, .int .i64 id2, .slice ua ys.length uc, .int .i64 f2, .int .i64 x2] 31)).heap.size) := Lib.hid (by simp)
  have HE := Lib.hid (equalRow_any id id2 (.slice va xs.length vc) (.slice ua ys.length uc) xs ys ((w.alloc (.cells #[.int .i64 k, .int .i64 id, .slice va xs.length vc, .int .i64 f, .int .i64 x] 31)).alloc (.cells #[.int .i64 k2, .int .i64 id2, .slice ua ys.length uc, .int .i64 f2, .int .i64 x2] 31)) (ints_below h d.out) (ints_below g d.out) hn hm)
  clear h g
  by_cases hk : k = k2
  rotate_left
  · rw [decide_eq_false (fun q => hk q.1)]
    have ek : (k == k2) = false := by simp [hk]
    clear hk HE
    go_enter Try.func74, Try.ntmps74
    go_wp2
    go_ret
    exact ⟨rfl, d.out⟩
  have ek : (k == k2) = true := by simp [hk]
  by_cases hr : ((id, xs) : RowD) = (id2, ys)
  rotate_left
  · rw [decide_eq_false (fun q => hr q.2.1)]
    rw [decide_eq_false hr] at HE
    clear hk hr
    go_enter Try.func74, Try.ntmps74
    go_wp2_with fail
    refine HE.out.mono ?_
    rintro e w1 ⟨rfl, c1⟩
    have k0 := (c1.block w.heap.size (by have := Y.out; omega)).trans K0.out
    have k1 := (c1.block (w.heap.size + 1) Y.out).trans K1.out
    have d2 := Lib.hid (d.out.trans (c1.mono d.out.size))
    have p0 := (cell_of_row w1 _ 0 _ _ _ k0).trans (show _ = some (Value.int .i64 k) from rfl)
    have p1 := (cell_of_row w1 _ 1 _ _ _ k0).trans (show _ = some (Value.int .i64 id) from rfl)
    have p2 := (cell_of_row w1 _ 2 _ _ _ k0).trans (show _ = some (Value.slice va xs.length vc) from rfl)
    have p3 := (cell_of_row w1 _ 3 _ _ _ k0).trans (show _ = some (Value.int .i64 f) from rfl)
    have p4 := (cell_of_row w1 _ 4 _ _ _ k0).trans (show _ = some (Value.int .i64 x) from rfl)
    have q0 := (cell_of_row w1 _ 0 _ _ _ k1).trans (show _ = some (Value.int .i64 k2) from rfl)
    have q1 := (cell_of_row w1 _ 1 _ _ _ k1).trans (show _ = some (Value.int .i64 id2) from rfl)
    have q2 := (cell_of_row w1 _ 2 _ _ _ k1).trans (show _ = some (Value.slice ua ys.length uc) from rfl)
    have q3 := (cell_of_row w1 _ 3 _ _ _ k1).trans (show _ = some (Value.int .i64 f2) from rfl)
    have q4 := (cell_of_row w1 _ 4 _ _ _ k1).trans (show _ = some (Value.int .i64 x2) from rfl)
    clear k0 k1 c1
    go_wp2
    go_ret
    exact ⟨rfl, d2.out⟩
  rw [decide_eq_true hr] at HE
  by_cases hf : f = f2
  rotate_left
  · rw [decide_eq_false (fun q => hf q.2.2.1)]
    have ef : (f == f2) = false := by simp [hf]
    clear hk hr hf
    go_enter Try.func74, Try.ntmps74
    go_wp2_with fail
    refine HE.out.mono ?_
    rintro e w1 ⟨rfl, c1⟩
    have k0 := (c1.block w.heap.size (by have := Y.out; omega)).trans K0.out
    have k1 := (c1.block (w.heap.size + 1) Y.out).trans K1.out
    have d2 := Lib.hid (d.out.trans (c1.mono d.out.size))
    have p0 := (cell_of_row w1 _ 0 _ _ _ k0).trans (show _ = some (Value.int .i64 k) from rfl)
    have p1 := (cell_of_row w1 _ 1 _ _ _ k0).trans (show _ = some (Value.int .i64 id) from rfl)
    have p2 := (cell_of_row w1 _ 2 _ _ _ k0).trans (show _ = some (Value.slice va xs.length vc) from rfl)
    have p3 := (cell_of_row w1 _ 3 _ _ _ k0).trans (show _ = some (Value.int .i64 f) from rfl)
    have p4 := (cell_of_row w1 _ 4 _ _ _ k0).trans (show _ = some (Value.int .i64 x) from rfl)
    have q0 := (cell_of_row w1 _ 0 _ _ _ k1).trans (show _ = some (Value.int .i64 k2) from rfl)
    have q1 := (cell_of_row w1 _ 1 _ _ _ k1).trans (show _ = some (Value.int .i64 id2) from rfl)
    have q2 := (cell_of_row w1 _ 2 _ _ _ k1).trans (show _ = some (Value.slice ua ys.length uc) from rfl)
    have q3 := (cell_of_row w1 _ 3 _ _ _ k1).trans (show _ = some (Value.int .i64 f2) from rfl)
    have q4 := (cell_of_row w1 _ 4 _ _ _ k1).trans (show _ = some (Value.int .i64 x2) from rfl)
    clear k0 k1 c1
    go_wp2
    go_ret
    exact ⟨rfl, d2.out⟩
  have ef : (f == f2) = true := by simp [hf]
  by_cases hx : x = x2
  rotate_left
  · rw [decide_eq_false (fun q => hx q.2.2.2)]
    have ex : (x == x2) = false := by simp [hx]
    clear hk hr hf hx
    go_enter Try.func74, Try.ntmps74
    go_wp2_with fail
    refine HE.out.mono ?_
    rintro e w1 ⟨rfl, c1⟩
    have k0 := (c1.block w.heap.size (by have := Y.out; omega)).trans K0.out
    have k1 := (c1.block (w.heap.size + 1) Y.out).trans K1.out
    have d2 := Lib.hid (d.out.trans (c1.mono d.out.size))
    have p0 := (cell_of_row w1 _ 0 _ _ _ k0).trans (show _ = some (Value.int .i64 k) from rfl)
    have p1 := (cell_of_row w1 _ 1 _ _ _ k0).trans (show _ = some (Value.int .i64 id) from rfl)
    have p2 := (cell_of_row w1 _ 2 _ _ _ k0).trans (show _ = some (Value.slice va xs.length vc) from rfl)
    have p3 := (cell_of_row w1 _ 3 _ _ _ k0).trans (show _ = some (Value.int .i64 f) from rfl)
    have p4 := (cell_of_row w1 _ 4 _ _ _ k0).trans (show _ = some (Value.int .i64 x) from rfl)
    have q0 := (cell_of_row w1 _ 0 _ _ _ k1).trans (show _ = some (Value.int .i64 k2) from rfl)
    have q1 := (cell_of_row w1 _ 1 _ _ _ k1).trans (show _ = some (Value.int .i64 id2) from rfl)
    have q2 := (cell_of_row w1 _ 2 _ _ _ k1).trans (show _ = some (Value.slice ua ys.length uc) from rfl)
    have q3 := (cell_of_row w1 _ 3 _ _ _ k1).trans (show _ = some (Value.int .i64 f2) from rfl)
    have q4 := (cell_of_row w1 _ 4 _ _ _ k1).trans (show _ = some (Value.int .i64 x2) from rfl)
    clear k0 k1 c1
    go_wp2
    go_ret
    exact ⟨rfl, d2.out⟩
  have ex : (x == x2) = true := by simp [hx]
  rw [decide_eq_true ⟨hk, hr, hf, hx⟩]
  clear hk hr hf hx
  go_enter Try.func74, Try.ntmps74
  go_wp2_with fail
  refine HE.out.mono ?_
  rintro e w1 ⟨rfl, c1⟩
  have k0 := (c1.block w.heap.size (by have := Y.out; omega)).trans K0.out
  have k1 := (c1.block (w.heap.size + 1) Y.out).trans K1.out
  have d2 := Lib.hid (d.out.trans (c1.mono d.out.size))
  have p0 := (cell_of_row w1 _ 0 _ _ _ k0).trans (show _ = some (Value.int .i64 k) from rfl)
  have p1 := (cell_of_row w1 _ 1 _ _ _ k0).trans (show _ = some (Value.int .i64 id) from rfl)
  have p2 := (cell_of_row w1 _ 2 _ _ _ k0).trans (show _ = some (Value.slice va xs.length vc) from rfl)
  have p3 := (cell_of_row w1 _ 3 _ _ _ k0).trans (show _ = some (Value.int .i64 f) from rfl)
  have p4 := (cell_of_row w1 _ 4 _ _ _ k0).trans (show _ = some (Value.int .i64 x) from rfl)
  have q0 := (cell_of_row w1 _ 0 _ _ _ k1).trans (show _ = some (Value.int .i64 k2) from rfl)
  have q1 := (cell_of_row w1 _ 1 _ _ _ k1).trans (show _ = some (Value.int .i64 id2) from rfl)
  have q2 := (cell_of_row w1 _ 2 _ _ _ k1).trans (show _ = some (Value.slice ua ys.length uc) from rfl)
  have q3 := (cell_of_row w1 _ 3 _ _ _ k1).trans (show _ = some (Value.int .i64 f2) from rfl)
  have q4 := (cell_of_row w1 _ 4 _ _ _ k1).trans (show _ = some (Value.int .i64 x2) from rfl)
  clear k0 k1 c1
  go_wp2
  go_ret
  exact ⟨rfl, d2.out⟩
end Go.Proofs.Ythiiaiholcfhhaa
namespace Go.Proofs.Ythiiaiholcfhhaa
open Go.RowKit
set_option linter.unusedVariables false
set_option linter.unusedSimpArgs false
/-- The change that an update is. -/
def changeV (u : UpdD) (vv : Value) : Value :=
  if u.1 = 1 then .iface 114 (.agg #[.int .i64 u.2.1.1, vv]) else if u.1 = 2 then .iface 116 (.agg #[.int .i64 u.2.1.1]) else .iface 118 (.agg #[.int .i64 u.2.1.1, .int .i64 u.2.2.1, .int .i64 u.2.2.2])
def FreshC (w : World) (u : UpdD) (vv : Value) (e : Ending) (w' : World) : Prop := e = .returned (.tuple #[if updB u then changeV u vv else .nilIface, .bool (updB u)]) ∧ Below w.heap.size w w'
theorem freshC_no {w w' : World} {u : UpdD} {vv : Value} (h : updB u = false) (b : Below w.heap.size w w') : FreshC w u vv (.returned (.tuple #[.nilIface, .bool false])) w' := ⟨by rw [h]; rfl, b⟩
theorem freshC_yes {w w' : World} {u : UpdD} {vv x : Value} (h : updB u = true) (hx : changeV u vv = x) (b : Below w.heap.size w w') : FreshC w u vv (.returned (.tuple #[x, .bool true])) w' := ⟨by rw [h, if_pos rfl, hx], b⟩
set_option maxHeartbeats 16000000 in
set_option maxRecDepth 100000 in
theorem changeOf_ins (id f x : Int) (vv : Value) (xs : List Int) (w : World) (h : Ints w vv xs) (hn : xs.length ≤ 1048576) :
    Calls Try.prog 45 #[.agg #[.int .i64 1, .int .i64 id, vv, .int .i64 f, .int .i64 x]] w (FreshC w (1, (id, xs), f, x) vv) := by
  obtain ⟨va, vc, rfl⟩ := ints_len h
  have H := Lib.hid h
  clear h
  have HV := Lib.hid (fun W h => insValid id (.slice va xs.length vc) xs W h hn)
  have HE := Lib.hid (fun W h => implEqualUpdate 1 id 0 0 1 id f x (.slice va xs.length vc) (.slice va xs.length vc) xs xs W h h hn hn)
  clear hn
  cases hr : rowB (id, xs) with
  | false =>
    have HN : Hid (updB (1, (id, xs), f, x) = false) := Lib.hid (upd_no (by unfold insP; simp only; rw [hr]; simp) (by unfold delP; simp only; omega) (by unfold setP; simp only; omega))
    rw [hr] at HV
    clear hr
    have na_isValid : ∀ w : World, (nilAhead (Try.prog.types.size + Made.depth) 114 (.agg #[.int .i64 id, .slice va xs.length vc]) "loop.example/g01986/impl.isValid").run Try.prog w = .ok (some false) w := fun _ => by kernel_rfl
    have me_isValid : ∀ w : World, (method (Try.prog.types.size + Made.depth) 114 (.agg #[.int .i64 id, .slice va xs.length vc]) "loop.example/g01986/impl.isValid").run Try.prog w = .ok (138, .agg #[.int .i64 id, .slice va xs.length vc]) w := fun _ => by kernel_rfl
    have d := Lib.hid ((Below.refl w.heap.size w).alloc (Nat.le_refl _) (.cells #[.int .i64 1, .int .i64 id, .slice va xs.length vc, .int .i64 f, .int .i64 x] 31))
    have B0 : Hid ((w.alloc (.cells #[.int .i64 1, .int .i64 id, .slice va xs.length vc, .int .i64 f, .int .i64 x] 31)).heap[w.heap.size]? = some (.cells #[.int .i64 1, .int .i64 id, .slice va xs.length vc, .int .i64 f, .int .i64 x] 31 (0, 0))) := Lib.hid (heap_alloc_new w _)
    go_enter Try.func45, Try.ntmps45
    go_wp2
    generalize w.alloc (.cells #[.int .i64 1, .int .i64 id, .slice va xs.length vc, .int .i64 f, .int .i64 x] 31) = W at *
    have p_B0_0 := (cell_of_row W _ 0 _ _ _ B0.out).trans (show _ = some (Value.int .i64 1) from rfl)
    have p_B0_1 := (cell_of_row W _ 1 _ _ _ B0.out).trans (show _ = some (Value.int .i64 id) from rfl)
    have p_B0_2 := (cell_of_row W _ 2 _ _ _ B0.out).trans (show _ = some (Value.slice va xs.length vc) from rfl)
    have p_B0_3 := (cell_of_row W _ 3 _ _ _ B0.out).trans (show _ = some (Value.int .i64 f) from rfl)
    have p_B0_4 := (cell_of_row W _ 4 _ _ _ B0.out).trans (show _ = some (Value.int .i64 x) from rfl)
    refine wp_region_held_drew (S := fun w' => w'.cell? ⟨w.heap.size, 0, none⟩ = some (Value.int .i64 1) ∧ w'.cell? ⟨w.heap.size, 1, none⟩ = some (Value.int .i64 id) ∧ w'.cell? ⟨w.heap.size, 2, none⟩ = some (Value.slice va xs.length vc) ∧ w'.cell? ⟨w.heap.size, 3, none⟩ = some (Value.int .i64 f) ∧ w'.cell? ⟨w.heap.size, 4, none⟩ = some (Value.int .i64 x)) (by kernel_rfl) ⟨p_B0_0, p_B0_1, p_B0_2, p_B0_3, p_B0_4⟩ (fun hHeld => ?_)
    clear p_B0_0 p_B0_1 p_B0_2 p_B0_3 p_B0_4
    have cdr : Below W.heap.size W W.drew := below_drew (Below.refl _ _)
    replace B0 := Lib.hid ((cdr.block w.heap.size (Array.getElem?_eq_some_iff.1 B0.out).1).trans B0.out)
    replace d := Lib.hid (d.out.trans (cdr.mono d.out.size))
    clear cdr
    have Z_dr := Lib.hid (show W.heap.size ≤ W.drew.heap.size from Nat.le_refl _)
    generalize W.drew = Wd at *
    refine take_runs (i := 0) (v := ?_) (by simp only [List.getElem?_toArray, List.getElem?_cons_succ, List.getElem?_cons_zero]; rfl) (by kernel_rfl) (by kernel_rfl) (by kernel_rfl) rfl (by exact fun _ _ _ h => h) (by rfl) ?_ (by assumption) ?_
    rotate_left
    · intro w hSw; (try dsimp only at hSw); go_simp; try (with_reducible rfl)
    try simp only [Act.put, List.setIfInBounds_toArray, List.set_cons_zero, List.set_cons_succ]
    refine wpAnyH_ready (rs := [1]) (by kernel_rfl) (by simp) ?_
    refine (AllReadyH.cons (o := _) (by simp only [List.getElem?_toArray, List.getElem?_cons_succ, List.getElem?_cons_zero]; rfl) (fun K hK => ?_) AllReadyH.nil)
    go_simp
    refine (HV.out Wd (ints_below H.out d.out)).mono ?_
    rintro e wv ⟨rfl, cv⟩
    replace B0 := Lib.hid ((cv.block w.heap.size (Array.getElem?_eq_some_iff.1 B0.out).1).trans B0.out)
    replace d := Lib.hid (d.out.trans (cv.mono d.out.size))
    have Z_wv := Lib.hid (show Wd.heap.size ≤ wv.heap.size from cv.size)
    clear cv
    have p_B0_0 := (cell_of_row wv _ 0 _ _ _ B0.out).trans (show _ = some (Value.int .i64 1) from rfl)
    have p_B0_1 := (cell_of_row wv _ 1 _ _ _ B0.out).trans (show _ = some (Value.int .i64 id) from rfl)
    have p_B0_2 := (cell_of_row wv _ 2 _ _ _ B0.out).trans (show _ = some (Value.slice va xs.length vc) from rfl)
    have p_B0_3 := (cell_of_row wv _ 3 _ _ _ B0.out).trans (show _ = some (Value.int .i64 f) from rfl)
    have p_B0_4 := (cell_of_row wv _ 4 _ _ _ B0.out).trans (show _ = some (Value.int .i64 x) from rfl)
    refine hK.out _ _ ⟨p_B0_0, p_B0_1, p_B0_2, p_B0_3, p_B0_4⟩ (fun hHeld => ?_)
    clear p_B0_0 p_B0_1 p_B0_2 p_B0_3 p_B0_4
    clear hK K
    try simp only [Act.put, List.setIfInBounds_toArray, List.set_cons_zero, List.set_cons_succ]
    refine take_runs (i := 2) (v := ?_) (by simp only [List.getElem?_toArray, List.getElem?_cons_succ, List.getElem?_cons_zero]; rfl) (by kernel_rfl) (by kernel_rfl) (by kernel_rfl) rfl (by exact fun _ _ _ h => h) (by rfl) ?_ (by assumption) ?_
    rotate_left
    · intro w hSw; (try dsimp only at hSw); go_simp; try (with_reducible rfl)
    try simp only [Act.put, List.setIfInBounds_toArray, List.set_cons_zero, List.set_cons_succ]
    refine take_runs (i := 3) (v := ?_) (by simp only [List.getElem?_toArray, List.getElem?_cons_succ, List.getElem?_cons_zero]; rfl) (by kernel_rfl) (by kernel_rfl) (by kernel_rfl) rfl (by exact fun _ _ _ h => h) (by rfl) ?_ (by assumption) ?_
    rotate_left
    · intro w hSw; (try dsimp only at hSw); go_simp; try (with_reducible rfl)
    try simp only [Act.put, List.setIfInBounds_toArray, List.set_cons_zero, List.set_cons_succ]
    refine take_over (i := 4) (by simp only [List.getElem?_toArray, List.getElem?_cons_succ, List.getElem?_cons_zero]; rfl) (by kernel_rfl) (by kernel_rfl) (by kernel_rfl) rfl (by exact fun _ _ _ h => h) (by rfl) (by assumption) ?_
    try simp only [Act.put, List.setIfInBounds_toArray, List.set_cons_zero, List.set_cons_succ]
    refine take_over (i := 5) (by simp only [List.getElem?_toArray, List.getElem?_cons_succ, List.getElem?_cons_zero]; rfl) (by kernel_rfl) (by kernel_rfl) (by kernel_rfl) rfl (by exact fun _ _ _ h => h) (by rfl) (by assumption) ?_
    try simp only [Act.put, List.setIfInBounds_toArray, List.set_cons_zero, List.set_cons_succ]
    refine take_over (i := 6) (by simp only [List.getElem?_toArray, List.getElem?_cons_succ, List.getElem?_cons_zero]; rfl) (by kernel_rfl) (by kernel_rfl) (by kernel_rfl) rfl (by exact fun _ _ _ h => h) (by rfl) (by assumption) ?_
    try simp only [Act.put, List.setIfInBounds_toArray, List.set_cons_zero, List.set_cons_succ]
    refine take_over (i := 7) (by simp only [List.getElem?_toArray, List.getElem?_cons_succ, List.getElem?_cons_zero]; rfl) (by kernel_rfl) (by kernel_rfl) (by kernel_rfl) rfl (by exact fun _ _ _ h => h) (by rfl) (by assumption) ?_
    try simp only [Act.put, List.setIfInBounds_toArray, List.set_cons_zero, List.set_cons_succ]
    refine take_over (i := 8) (by simp only [List.getElem?_toArray, List.getElem?_cons_succ, List.getElem?_cons_zero]; rfl) (by kernel_rfl) (by kernel_rfl) (by kernel_rfl) rfl (by exact fun _ _ _ h => h) (by rfl) (by assumption) ?_
    try simp only [Act.put, List.setIfInBounds_toArray, List.set_cons_zero, List.set_cons_succ]
    refine take_runs (i := 9) (v := ?_) (by simp only [List.getElem?_toArray, List.getElem?_cons_succ, List.getElem?_cons_zero]; rfl) (by kernel_rfl) (by kernel_rfl) (by kernel_rfl) rfl (by exact fun _ _ _ h => h) (by rfl) ?_ (by assumption) ?_
    rotate_left
    · intro w hSw; (try dsimp only at hSw); go_simp; try (with_reducible rfl)
    try simp only [Act.put, List.setIfInBounds_toArray, List.set_cons_zero, List.set_cons_succ]
    refine wpAnyH_done (by kernel_rfl) ?_ _
    clear hHeld
    go_wp2
    go_ret2
    exact freshC_no HN.out d.out
  | true =>
    rw [hr] at HV
    by_cases hq : f = 0 ∧ x = 0
    · obtain ⟨rfl, rfl⟩ := hq
      have HN : Hid (updB (1, (id, xs), 0, 0) = true) := Lib.hid (upd_ins ⟨rfl, hr, rfl, rfl⟩)
      rw [decide_eq_true ⟨rfl, rfl, rfl, rfl⟩] at HE
      clear hr
      have na_isValid : ∀ w : World, (nilAhead (Try.prog.types.size + Made.depth) 114 (.agg #[.int .i64 id, .slice va xs.length vc]) "loop.example/g01986/impl.isValid").run Try.prog w = .ok (some false) w := fun _ => by kernel_rfl
      have me_isValid : ∀ w : World, (method (Try.prog.types.size + Made.depth) 114 (.agg #[.int .i64 id, .slice va xs.length vc]) "loop.example/g01986/impl.isValid").run Try.prog w = .ok (138, .agg #[.int .i64 id, .slice va xs.length vc]) w := fun _ => by kernel_rfl
      have na_update : ∀ w : World, (nilAhead (Try.prog.types.size + Made.depth) 114 (.agg #[.int .i64 id, .slice va xs.length vc]) "loop.example/g01986/impl.update").run Try.prog w = .ok (some false) w := fun _ => by kernel_rfl
      have me_update : ∀ w : World, (method (Try.prog.types.size + Made.depth) 114 (.agg #[.int .i64 id, .slice va xs.length vc]) "loop.example/g01986/impl.update").run Try.prog w = .ok (139, .agg #[.int .i64 id, .slice va xs.length vc]) w := fun _ => by kernel_rfl
      have d := Lib.hid ((Below.refl w.heap.size w).alloc (Nat.le_refl _) (.cells #[.int .i64 1, .int .i64 id, .slice va xs.length vc, .int .i64 0, .int .i64 0] 31))
      have B0 : Hid ((w.alloc (.cells #[.int .i64 1, .int .i64 id, .slice va xs.length vc, .int .i64 0, .int .i64 0] 31)).heap[w.heap.size]? = some (.cells #[.int .i64 1, .int .i64 id, .slice va xs.length vc, .int .i64 0, .int .i64 0] 31 (0, 0))) := Lib.hid (heap_alloc_new w _)
      go_enter Try.func45, Try.ntmps45
      go_wp2
      generalize w.alloc (.cells #[.int .i64 1, .int .i64 id, .slice va xs.length vc, .int .i64 0, .int .i64 0] 31) = W at *
      have p_B0_0 := (cell_of_row W _ 0 _ _ _ B0.out).trans (show _ = some (Value.int .i64 1) from rfl)
      have p_B0_1 := (cell_of_row W _ 1 _ _ _ B0.out).trans (show _ = some (Value.int .i64 id) from rfl)
      have p_B0_2 := (cell_of_row W _ 2 _ _ _ B0.out).trans (show _ = some (Value.slice va xs.length vc) from rfl)
      have p_B0_3 := (cell_of_row W _ 3 _ _ _ B0.out).trans (show _ = some (Value.int .i64 0) from rfl)
      have p_B0_4 := (cell_of_row W _ 4 _ _ _ B0.out).trans (show _ = some (Value.int .i64 0) from rfl)
      refine wp_region_held_drew (S := fun w' => w'.cell? ⟨w.heap.size, 0, none⟩ = some (Value.int .i64 1) ∧ w'.cell? ⟨w.heap.size, 1, none⟩ = some (Value.int .i64 id) ∧ w'.cell? ⟨w.heap.size, 2, none⟩ = some (Value.slice va xs.length vc) ∧ w'.cell? ⟨w.heap.size, 3, none⟩ = some (Value.int .i64 0) ∧ w'.cell? ⟨w.heap.size, 4, none⟩ = some (Value.int .i64 0)) (by kernel_rfl) ⟨p_B0_0, p_B0_1, p_B0_2, p_B0_3, p_B0_4⟩ (fun hHeld => ?_)
      clear p_B0_0 p_B0_1 p_B0_2 p_B0_3 p_B0_4
      have cdr : Below W.heap.size W W.drew := below_drew (Below.refl _ _)
      replace B0 := Lib.hid ((cdr.block w.heap.size (Array.getElem?_eq_some_iff.1 B0.out).1).trans B0.out)
      replace d := Lib.hid (d.out.trans (cdr.mono d.out.size))
      clear cdr
      have Z_dr := Lib.hid (show W.heap.size ≤ W.drew.heap.size from Nat.le_refl _)
      generalize W.drew = Wd at *
      refine take_runs (i := 0) (v := ?_) (by simp only [List.getElem?_toArray, List.getElem?_cons_succ, List.getElem?_cons_zero]; rfl) (by kernel_rfl) (by kernel_rfl) (by kernel_rfl) rfl (by exact fun _ _ _ h => h) (by rfl) ?_ (by assumption) ?_
      rotate_left
      · intro w hSw; (try dsimp only at hSw); go_simp; try (with_reducible rfl)
      try simp only [Act.put, List.setIfInBounds_toArray, List.set_cons_zero, List.set_cons_succ]
      refine wpAnyH_ready (rs := [1]) (by kernel_rfl) (by simp) ?_
      refine (AllReadyH.cons (o := _) (by simp only [List.getElem?_toArray, List.getElem?_cons_succ, List.getElem?_cons_zero]; rfl) (fun K hK => ?_) AllReadyH.nil)
      go_simp
      refine (HV.out Wd (ints_below H.out d.out)).mono ?_
      rintro e wv ⟨rfl, cv⟩
      replace B0 := Lib.hid ((cv.block w.heap.size (Array.getElem?_eq_some_iff.1 B0.out).1).trans B0.out)
      replace d := Lib.hid (d.out.trans (cv.mono d.out.size))
      have Z_wv := Lib.hid (show Wd.heap.size ≤ wv.heap.size from cv.size)
      clear cv
      have p_B0_0 := (cell_of_row wv _ 0 _ _ _ B0.out).trans (show _ = some (Value.int .i64 1) from rfl)
      have p_B0_1 := (cell_of_row wv _ 1 _ _ _ B0.out).trans (show _ = some (Value.int .i64 id) from rfl)
      have p_B0_2 := (cell_of_row wv _ 2 _ _ _ B0.out).trans (show _ = some (Value.slice va xs.length vc) from rfl)
      have p_B0_3 := (cell_of_row wv _ 3 _ _ _ B0.out).trans (show _ = some (Value.int .i64 0) from rfl)
      have p_B0_4 := (cell_of_row wv _ 4 _ _ _ B0.out).trans (show _ = some (Value.int .i64 0) from rfl)
      refine hK.out _ _ ⟨p_B0_0, p_B0_1, p_B0_2, p_B0_3, p_B0_4⟩ (fun hHeld => ?_)
      clear p_B0_0 p_B0_1 p_B0_2 p_B0_3 p_B0_4
      clear hK K
      try simp only [Act.put, List.setIfInBounds_toArray, List.set_cons_zero, List.set_cons_succ]
      refine take_runs (i := 2) (v := ?_) (by simp only [List.getElem?_toArray, List.getElem?_cons_succ, List.getElem?_cons_zero]; rfl) (by kernel_rfl) (by kernel_rfl) (by kernel_rfl) rfl (by exact fun _ _ _ h => h) (by rfl) ?_ (by assumption) ?_
      rotate_left
      · intro w hSw; (try dsimp only at hSw); go_simp; try (with_reducible rfl)
      try simp only [Act.put, List.setIfInBounds_toArray, List.set_cons_zero, List.set_cons_succ]
      refine take_runs (i := 3) (v := ?_) (by simp only [List.getElem?_toArray, List.getElem?_cons_succ, List.getElem?_cons_zero]; rfl) (by kernel_rfl) (by kernel_rfl) (by kernel_rfl) rfl (by exact fun _ _ _ h => h) (by rfl) ?_ (by assumption) ?_
      rotate_left
      · intro w hSw; (try dsimp only at hSw); go_simp; try (with_reducible rfl)
      try simp only [Act.put, List.setIfInBounds_toArray, List.set_cons_zero, List.set_cons_succ]
      refine take_runs (i := 4) (v := ?_) (by simp only [List.getElem?_toArray, List.getElem?_cons_succ, List.getElem?_cons_zero]; rfl) (by kernel_rfl) (by kernel_rfl) (by kernel_rfl) rfl (by exact fun _ _ _ h => h) (by rfl) ?_ (by assumption) ?_
      rotate_left
      · intro w hSw; (try dsimp only at hSw); go_simp; try (with_reducible rfl)
      try simp only [Act.put, List.setIfInBounds_toArray, List.set_cons_zero, List.set_cons_succ]
      refine take_runs (i := 6) (v := ?_) (by simp only [List.getElem?_toArray, List.getElem?_cons_succ, List.getElem?_cons_zero]; rfl) (by kernel_rfl) (by kernel_rfl) (by kernel_rfl) rfl (by exact fun _ _ _ h => h) (by rfl) ?_ (by assumption) ?_
      rotate_left
      · intro w hSw; (try dsimp only at hSw); go_simp; try (with_reducible rfl)
      try simp only [Act.put, List.setIfInBounds_toArray, List.set_cons_zero, List.set_cons_succ]
      refine wpAnyH_ready (rs := [5]) (by kernel_rfl) (by simp) ?_
      refine (AllReadyH.cons (o := _) (by simp only [List.getElem?_toArray, List.getElem?_cons_succ, List.getElem?_cons_zero]; rfl) (fun K hK => ?_) AllReadyH.nil)
      go_simp
      refine (insUpdate id va xs.length vc wv).mono ?_
      rintro e wu ⟨rfl, cv⟩
      replace B0 := Lib.hid ((cv.block w.heap.size (Array.getElem?_eq_some_iff.1 B0.out).1).trans B0.out)
      replace d := Lib.hid (d.out.trans (cv.mono d.out.size))
      have Z_wu := Lib.hid (show wv.heap.size ≤ wu.heap.size from cv.size)
      clear cv
      have p_B0_0 := (cell_of_row wu _ 0 _ _ _ B0.out).trans (show _ = some (Value.int .i64 1) from rfl)
      have p_B0_1 := (cell_of_row wu _ 1 _ _ _ B0.out).trans (show _ = some (Value.int .i64 id) from rfl)
      have p_B0_2 := (cell_of_row wu _ 2 _ _ _ B0.out).trans (show _ = some (Value.slice va xs.length vc) from rfl)
      have p_B0_3 := (cell_of_row wu _ 3 _ _ _ B0.out).trans (show _ = some (Value.int .i64 0) from rfl)
      have p_B0_4 := (cell_of_row wu _ 4 _ _ _ B0.out).trans (show _ = some (Value.int .i64 0) from rfl)
      refine hK.out _ _ ⟨p_B0_0, p_B0_1, p_B0_2, p_B0_3, p_B0_4⟩ (fun hHeld => ?_)
      clear p_B0_0 p_B0_1 p_B0_2 p_B0_3 p_B0_4
      clear hK K
      try simp only [Act.put, List.setIfInBounds_toArray, List.set_cons_zero, List.set_cons_succ]
      refine wpAnyH_ready (rs := [7]) (by kernel_rfl) (by simp) ?_
      refine (AllReadyH.cons (o := _) (by simp only [List.getElem?_toArray, List.getElem?_cons_succ, List.getElem?_cons_zero]; rfl) (fun K hK => ?_) AllReadyH.nil)
      go_simp
      refine (HE.out wu (ints_below H.out d.out)).mono ?_
      rintro e we ⟨rfl, cv⟩
      replace B0 := Lib.hid ((cv.block w.heap.size (Array.getElem?_eq_some_iff.1 B0.out).1).trans B0.out)
      replace d := Lib.hid (d.out.trans (cv.mono d.out.size))
      have Z_we := Lib.hid (show wu.heap.size ≤ we.heap.size from cv.size)
      clear cv
      have p_B0_0 := (cell_of_row we _ 0 _ _ _ B0.out).trans (show _ = some (Value.int .i64 1) from rfl)
      have p_B0_1 := (cell_of_row we _ 1 _ _ _ B0.out).trans (show _ = some (Value.int .i64 id) from rfl)
      have p_B0_2 := (cell_of_row we _ 2 _ _ _ B0.out).trans (show _ = some (Value.slice va xs.length vc) from rfl)
      have p_B0_3 := (cell_of_row we _ 3 _ _ _ B0.out).trans (show _ = some (Value.int .i64 0) from rfl)
      have p_B0_4 := (cell_of_row we _ 4 _ _ _ B0.out).trans (show _ = some (Value.int .i64 0) from rfl)
      refine hK.out _ _ ⟨p_B0_0, p_B0_1, p_B0_2, p_B0_3, p_B0_4⟩ (fun hHeld => ?_)
      clear p_B0_0 p_B0_1 p_B0_2 p_B0_3 p_B0_4
      clear hK K
      try simp only [Act.put, List.setIfInBounds_toArray, List.set_cons_zero, List.set_cons_succ]
      refine take_runs (i := 8) (v := ?_) (by simp only [List.getElem?_toArray, List.getElem?_cons_succ, List.getElem?_cons_zero]; rfl) (by kernel_rfl) (by kernel_rfl) (by kernel_rfl) rfl (by exact fun _ _ _ h => h) (by rfl) ?_ (by assumption) ?_
      rotate_left
      · intro w hSw; (try dsimp only at hSw); go_simp; try (with_reducible rfl)
      try simp only [Act.put, List.setIfInBounds_toArray, List.set_cons_zero, List.set_cons_succ]
      refine take_runs (i := 9) (v := ?_) (by simp only [List.getElem?_toArray, List.getElem?_cons_succ, List.getElem?_cons_zero]; rfl) (by kernel_rfl) (by kernel_rfl) (by kernel_rfl) rfl (by exact fun _ _ _ h => h) (by rfl) ?_ (by assumption) ?_
      rotate_left
      · intro w hSw; (try dsimp only at hSw); go_simp; try (with_reducible rfl)
      try simp only [Act.put, List.setIfInBounds_toArray, List.set_cons_zero, List.set_cons_succ]
      refine wpAnyH_done (by kernel_rfl) ?_ _
      clear hHeld
      go_wp2
      go_ret2
      exact freshC_yes HN.out rfl d.out
    · have HN : Hid (updB (1, (id, xs), f, x) = false) := Lib.hid (upd_no (by unfold insP; simp only; omega) (by unfold delP; simp only; omega) (by unfold setP; simp only; omega))
      rw [decide_eq_false (fun g => hq ⟨g.2.2.1.symm, g.2.2.2.symm⟩)] at HE
      clear hr hq
      have na_isValid : ∀ w : World, (nilAhead (Try.prog.types.size + Made.depth) 114 (.agg #[.int .i64 id, .slice va xs.length vc]) "loop.example/g01986/impl.isValid").run Try.prog w = .ok (some false) w := fun _ => by kernel_rfl
      have me_isValid : ∀ w : World, (method (Try.prog.types.size + Made.depth) 114 (.agg #[.int .i64 id, .slice va xs.length vc]) "loop.example/g01986/impl.isValid").run Try.prog w = .ok (138, .agg #[.int .i64 id, .slice va xs.length vc]) w := fun _ => by kernel_rfl
      have na_update : ∀ w : World, (nilAhead (Try.prog.types.size + Made.depth) 114 (.agg #[.int .i64 id, .slice va xs.length vc]) "loop.example/g01986/impl.update").run Try.prog w = .ok (some false) w := fun _ => by kernel_rfl
      have me_update : ∀ w : World, (method (Try.prog.types.size + Made.depth) 114 (.agg #[.int .i64 id, .slice va xs.length vc]) "loop.example/g01986/impl.update").run Try.prog w = .ok (139, .agg #[.int .i64 id, .slice va xs.length vc]) w := fun _ => by kernel_rfl
      have d := Lib.hid ((Below.refl w.heap.size w).alloc (Nat.le_refl _) (.cells #[.int .i64 1, .int .i64 id, .slice va xs.length vc, .int .i64 f, .int .i64 x] 31))
      have B0 : Hid ((w.alloc (.cells #[.int .i64 1, .int .i64 id, .slice va xs.length vc, .int .i64 f, .int .i64 x] 31)).heap[w.heap.size]? = some (.cells #[.int .i64 1, .int .i64 id, .slice va xs.length vc, .int .i64 f, .int .i64 x] 31 (0, 0))) := Lib.hid (heap_alloc_new w _)
      go_enter Try.func45, Try.ntmps45
      go_wp2
      generalize w.alloc (.cells #[.int .i64 1, .int .i64 id, .slice va xs.length vc, .int .i64 f, .int .i64 x] 31) = W at *
      have p_B0_0 := (cell_of_row W _ 0 _ _ _ B0.out).trans (show _ = some (Value.int .i64 1) from rfl)
      have p_B0_1 := (cell_of_row W _ 1 _ _ _ B0.out).trans (show _ = some (Value.int .i64 id) from rfl)
      have p_B0_2 := (cell_of_row W _ 2 _ _ _ B0.out).trans (show _ = some (Value.slice va xs.length vc) from rfl)
      have p_B0_3 := (cell_of_row W _ 3 _ _ _ B0.out).trans (show _ = some (Value.int .i64 f) from rfl)
      have p_B0_4 := (cell_of_row W _ 4 _ _ _ B0.out).trans (show _ = some (Value.int .i64 x) from rfl)
      refine wp_region_held_drew (S := fun w' => w'.cell? ⟨w.heap.size, 0, none⟩ = some (Value.int .i64 1) ∧ w'.cell? ⟨w.heap.size, 1, none⟩ = some (Value.int .i64 id) ∧ w'.cell? ⟨w.heap.size, 2, none⟩ = some (Value.slice va xs.length vc) ∧ w'.cell? ⟨w.heap.size, 3, none⟩ = some (Value.int .i64 f) ∧ w'.cell? ⟨w.heap.size, 4, none⟩ = some (Value.int .i64 x)) (by kernel_rfl) ⟨p_B0_0, p_B0_1, p_B0_2, p_B0_3, p_B0_4⟩ (fun hHeld => ?_)
      clear p_B0_0 p_B0_1 p_B0_2 p_B0_3 p_B0_4
      have cdr : Below W.heap.size W W.drew := below_drew (Below.refl _ _)
      replace B0 := Lib.hid ((cdr.block w.heap.size (Array.getElem?_eq_some_iff.1 B0.out).1).trans B0.out)
      replace d := Lib.hid (d.out.trans (cdr.mono d.out.size))
      clear cdr
      have Z_dr := Lib.hid (show W.heap.size ≤ W.drew.heap.size from Nat.le_refl _)
      generalize W.drew = Wd at *
      refine take_runs (i := 0) (v := ?_) (by simp only [List.getElem?_toArray, List.getElem?_cons_succ, List.getElem?_cons_zero]; rfl) (by kernel_rfl) (by kernel_rfl) (by kernel_rfl) rfl (by exact fun _ _ _ h => h) (by rfl) ?_ (by assumption) ?_
      rotate_left
      · intro w hSw; (try dsimp only at hSw); go_simp; try (with_reducible rfl)
      try simp only [Act.put, List.setIfInBounds_toArray, List.set_cons_zero, List.set_cons_succ]
      refine wpAnyH_ready (rs := [1]) (by kernel_rfl) (by simp) ?_
      refine (AllReadyH.cons (o := _) (by simp only [List.getElem?_toArray, List.getElem?_cons_succ, List.getElem?_cons_zero]; rfl) (fun K hK => ?_) AllReadyH.nil)
      go_simp
      refine (HV.out Wd (ints_below H.out d.out)).mono ?_
      rintro e wv ⟨rfl, cv⟩
      replace B0 := Lib.hid ((cv.block w.heap.size (Array.getElem?_eq_some_iff.1 B0.out).1).trans B0.out)
      replace d := Lib.hid (d.out.trans (cv.mono d.out.size))
      have Z_wv := Lib.hid (show Wd.heap.size ≤ wv.heap.size from cv.size)
      clear cv
      have p_B0_0 := (cell_of_row wv _ 0 _ _ _ B0.out).trans (show _ = some (Value.int .i64 1) from rfl)
      have p_B0_1 := (cell_of_row wv _ 1 _ _ _ B0.out).trans (show _ = some (Value.int .i64 id) from rfl)
      have p_B0_2 := (cell_of_row wv _ 2 _ _ _ B0.out).trans (show _ = some (Value.slice va xs.length vc) from rfl)
      have p_B0_3 := (cell_of_row wv _ 3 _ _ _ B0.out).trans (show _ = some (Value.int .i64 f) from rfl)
      have p_B0_4 := (cell_of_row wv _ 4 _ _ _ B0.out).trans (show _ = some (Value.int .i64 x) from rfl)
      refine hK.out _ _ ⟨p_B0_0, p_B0_1, p_B0_2, p_B0_3, p_B0_4⟩ (fun hHeld => ?_)
      clear p_B0_0 p_B0_1 p_B0_2 p_B0_3 p_B0_4
      clear hK K
      try simp only [Act.put, List.setIfInBounds_toArray, List.set_cons_zero, List.set_cons_succ]
      refine take_runs (i := 2) (v := ?_) (by simp only [List.getElem?_toArray, List.getElem?_cons_succ, List.getElem?_cons_zero]; rfl) (by kernel_rfl) (by kernel_rfl) (by kernel_rfl) rfl (by exact fun _ _ _ h => h) (by rfl) ?_ (by assumption) ?_
      rotate_left
      · intro w hSw; (try dsimp only at hSw); go_simp; try (with_reducible rfl)
      try simp only [Act.put, List.setIfInBounds_toArray, List.set_cons_zero, List.set_cons_succ]
      refine take_runs (i := 3) (v := ?_) (by simp only [List.getElem?_toArray, List.getElem?_cons_succ, List.getElem?_cons_zero]; rfl) (by kernel_rfl) (by kernel_rfl) (by kernel_rfl) rfl (by exact fun _ _ _ h => h) (by rfl) ?_ (by assumption) ?_
      rotate_left
      · intro w hSw; (try dsimp only at hSw); go_simp; try (with_reducible rfl)
      try simp only [Act.put, List.setIfInBounds_toArray, List.set_cons_zero, List.set_cons_succ]
      refine take_runs (i := 4) (v := ?_) (by simp only [List.getElem?_toArray, List.getElem?_cons_succ, List.getElem?_cons_zero]; rfl) (by kernel_rfl) (by kernel_rfl) (by kernel_rfl) rfl (by exact fun _ _ _ h => h) (by rfl) ?_ (by assumption) ?_
      rotate_left
      · intro w hSw; (try dsimp only at hSw); go_simp; try (with_reducible rfl)
      try simp only [Act.put, List.setIfInBounds_toArray, List.set_cons_zero, List.set_cons_succ]
      refine take_runs (i := 6) (v := ?_) (by simp only [List.getElem?_toArray, List.getElem?_cons_succ, List.getElem?_cons_zero]; rfl) (by kernel_rfl) (by kernel_rfl) (by kernel_rfl) rfl (by exact fun _ _ _ h => h) (by rfl) ?_ (by assumption) ?_
      rotate_left
      · intro w hSw; (try dsimp only at hSw); go_simp; try (with_reducible rfl)
      try simp only [Act.put, List.setIfInBounds_toArray, List.set_cons_zero, List.set_cons_succ]
      refine wpAnyH_ready (rs := [5]) (by kernel_rfl) (by simp) ?_
      refine (AllReadyH.cons (o := _) (by simp only [List.getElem?_toArray, List.getElem?_cons_succ, List.getElem?_cons_zero]; rfl) (fun K hK => ?_) AllReadyH.nil)
      go_simp
      refine (insUpdate id va xs.length vc wv).mono ?_
      rintro e wu ⟨rfl, cv⟩
      replace B0 := Lib.hid ((cv.block w.heap.size (Array.getElem?_eq_some_iff.1 B0.out).1).trans B0.out)
      replace d := Lib.hid (d.out.trans (cv.mono d.out.size))
      have Z_wu := Lib.hid (show wv.heap.size ≤ wu.heap.size from cv.size)
      clear cv
      have p_B0_0 := (cell_of_row wu _ 0 _ _ _ B0.out).trans (show _ = some (Value.int .i64 1) from rfl)
      have p_B0_1 := (cell_of_row wu _ 1 _ _ _ B0.out).trans (show _ = some (Value.int .i64 id) from rfl)
      have p_B0_2 := (cell_of_row wu _ 2 _ _ _ B0.out).trans (show _ = some (Value.slice va xs.length vc) from rfl)
      have p_B0_3 := (cell_of_row wu _ 3 _ _ _ B0.out).trans (show _ = some (Value.int .i64 f) from rfl)
      have p_B0_4 := (cell_of_row wu _ 4 _ _ _ B0.out).trans (show _ = some (Value.int .i64 x) from rfl)
      refine hK.out _ _ ⟨p_B0_0, p_B0_1, p_B0_2, p_B0_3, p_B0_4⟩ (fun hHeld => ?_)
      clear p_B0_0 p_B0_1 p_B0_2 p_B0_3 p_B0_4
      clear hK K
      try simp only [Act.put, List.setIfInBounds_toArray, List.set_cons_zero, List.set_cons_succ]
      refine wpAnyH_ready (rs := [7]) (by kernel_rfl) (by simp) ?_
      refine (AllReadyH.cons (o := _) (by simp only [List.getElem?_toArray, List.getElem?_cons_succ, List.getElem?_cons_zero]; rfl) (fun K hK => ?_) AllReadyH.nil)
      go_simp
      refine (HE.out wu (ints_below H.out d.out)).mono ?_
      rintro e we ⟨rfl, cv⟩
      replace B0 := Lib.hid ((cv.block w.heap.size (Array.getElem?_eq_some_iff.1 B0.out).1).trans B0.out)
      replace d := Lib.hid (d.out.trans (cv.mono d.out.size))
      have Z_we := Lib.hid (show wu.heap.size ≤ we.heap.size from cv.size)
      clear cv
      have p_B0_0 := (cell_of_row we _ 0 _ _ _ B0.out).trans (show _ = some (Value.int .i64 1) from rfl)
      have p_B0_1 := (cell_of_row we _ 1 _ _ _ B0.out).trans (show _ = some (Value.int .i64 id) from rfl)
      have p_B0_2 := (cell_of_row we _ 2 _ _ _ B0.out).trans (show _ = some (Value.slice va xs.length vc) from rfl)
      have p_B0_3 := (cell_of_row we _ 3 _ _ _ B0.out).trans (show _ = some (Value.int .i64 f) from rfl)
      have p_B0_4 := (cell_of_row we _ 4 _ _ _ B0.out).trans (show _ = some (Value.int .i64 x) from rfl)
      refine hK.out _ _ ⟨p_B0_0, p_B0_1, p_B0_2, p_B0_3, p_B0_4⟩ (fun hHeld => ?_)
      clear p_B0_0 p_B0_1 p_B0_2 p_B0_3 p_B0_4
      clear hK K
      try simp only [Act.put, List.setIfInBounds_toArray, List.set_cons_zero, List.set_cons_succ]
      refine take_runs (i := 8) (v := ?_) (by simp only [List.getElem?_toArray, List.getElem?_cons_succ, List.getElem?_cons_zero]; rfl) (by kernel_rfl) (by kernel_rfl) (by kernel_rfl) rfl (by exact fun _ _ _ h => h) (by rfl) ?_ (by assumption) ?_
      rotate_left
      · intro w hSw; (try dsimp only at hSw); go_simp; try (with_reducible rfl)
      try simp only [Act.put, List.setIfInBounds_toArray, List.set_cons_zero, List.set_cons_succ]
      refine take_runs (i := 9) (v := ?_) (by simp only [List.getElem?_toArray, List.getElem?_cons_succ, List.getElem?_cons_zero]; rfl) (by kernel_rfl) (by kernel_rfl) (by kernel_rfl) rfl (by exact fun _ _ _ h => h) (by rfl) ?_ (by assumption) ?_
      rotate_left
      · intro w hSw; (try dsimp only at hSw); go_simp; try (with_reducible rfl)
      try simp only [Act.put, List.setIfInBounds_toArray, List.set_cons_zero, List.set_cons_succ]
      refine wpAnyH_done (by kernel_rfl) ?_ _
      clear hHeld
      go_wp2
      go_ret2
      exact freshC_no HN.out d.out
set_option maxHeartbeats 16000000 in
set_option maxRecDepth 100000 in
theorem changeOf_del (id f x : Int) (vv : Value) (xs : List Int) (w : World) (h : Ints w vv xs) (hn : xs.length ≤ 1048576) :
    Calls Try.prog 45 #[.agg #[.int .i64 2, .int .i64 id, vv, .int .i64 f, .int .i64 x]] w (FreshC w (2, (id, xs), f, x) vv) := by
  obtain ⟨va, vc, rfl⟩ := ints_len h
  have H := Lib.hid h
  clear h
  have HE := Lib.hid (fun W h => implEqualUpdate 2 id 0 0 2 id f x (.slice none 0 0) (.slice va xs.length vc) [] xs W (Or.inl ⟨rfl, _, _, rfl⟩) h (by simp) hn)
  clear hn
  by_cases hi : 0 ≤ id ∧ id ≤ 999
  rotate_left
  · have HN : Hid (updB (2, (id, xs), f, x) = false) := Lib.hid (upd_no (by unfold insP; simp only; omega) (by unfold delP; simp only; omega) (by unfold setP; simp only; omega))
    have HV := Lib.hid (fun W => delValid_no id W hi)
    clear hi
    have na_isValid : ∀ w : World, (nilAhead (Try.prog.types.size + Made.depth) 116 (.agg #[.int .i64 id]) "loop.example/g01986/impl.isValid").run Try.prog w = .ok (some false) w := fun _ => by kernel_rfl
    have me_isValid : ∀ w : World, (method (Try.prog.types.size + Made.depth) 116 (.agg #[.int .i64 id]) "loop.example/g01986/impl.isValid").run Try.prog w = .ok (161, .agg #[.int .i64 id]) w := fun _ => by kernel_rfl
    have d := Lib.hid ((Below.refl w.heap.size w).alloc (Nat.le_refl _) (.cells #[.int .i64 2, .int .i64 id, .slice va xs.length vc, .int .i64 f, .int .i64 x] 31))
    have B0 : Hid ((w.alloc (.cells #[.int .i64 2, .int .i64 id, .slice va xs.length vc, .int .i64 f, .int .i64 x] 31)).heap[w.heap.size]? = some (.cells #[.int .i64 2, .int .i64 id, .slice va xs.length vc, .int .i64 f, .int .i64 x] 31 (0, 0))) := Lib.hid (heap_alloc_new w _)
    go_enter Try.func45, Try.ntmps45
    go_wp2
    generalize w.alloc (.cells #[.int .i64 2, .int .i64 id, .slice va xs.length vc, .int .i64 f, .int .i64 x] 31) = W at *
    have p_B0_0 := (cell_of_row W _ 0 _ _ _ B0.out).trans (show _ = some (Value.int .i64 2) from rfl)
    have p_B0_1 := (cell_of_row W _ 1 _ _ _ B0.out).trans (show _ = some (Value.int .i64 id) from rfl)
    have p_B0_2 := (cell_of_row W _ 2 _ _ _ B0.out).trans (show _ = some (Value.slice va xs.length vc) from rfl)
    have p_B0_3 := (cell_of_row W _ 3 _ _ _ B0.out).trans (show _ = some (Value.int .i64 f) from rfl)
    have p_B0_4 := (cell_of_row W _ 4 _ _ _ B0.out).trans (show _ = some (Value.int .i64 x) from rfl)
    refine wp_region_held_drew (S := fun w' => w'.cell? ⟨w.heap.size, 0, none⟩ = some (Value.int .i64 2) ∧ w'.cell? ⟨w.heap.size, 1, none⟩ = some (Value.int .i64 id) ∧ w'.cell? ⟨w.heap.size, 2, none⟩ = some (Value.slice va xs.length vc) ∧ w'.cell? ⟨w.heap.size, 3, none⟩ = some (Value.int .i64 f) ∧ w'.cell? ⟨w.heap.size, 4, none⟩ = some (Value.int .i64 x)) (by kernel_rfl) ⟨p_B0_0, p_B0_1, p_B0_2, p_B0_3, p_B0_4⟩ (fun hHeld => ?_)
    clear p_B0_0 p_B0_1 p_B0_2 p_B0_3 p_B0_4
    have cdr : Below W.heap.size W W.drew := below_drew (Below.refl _ _)
    replace B0 := Lib.hid ((cdr.block w.heap.size (Array.getElem?_eq_some_iff.1 B0.out).1).trans B0.out)
    replace d := Lib.hid (d.out.trans (cdr.mono d.out.size))
    clear cdr
    have Z_dr := Lib.hid (show W.heap.size ≤ W.drew.heap.size from Nat.le_refl _)
    generalize W.drew = Wd at *
    refine take_runs (i := 0) (v := ?_) (by simp only [List.getElem?_toArray, List.getElem?_cons_succ, List.getElem?_cons_zero]; rfl) (by kernel_rfl) (by kernel_rfl) (by kernel_rfl) rfl (by exact fun _ _ _ h => h) (by rfl) ?_ (by assumption) ?_
    rotate_left
    · intro w hSw; (try dsimp only at hSw); go_simp; try (with_reducible rfl)
    try simp only [Act.put, List.setIfInBounds_toArray, List.set_cons_zero, List.set_cons_succ]
    refine wpAnyH_ready (rs := [1]) (by kernel_rfl) (by simp) ?_
    refine (AllReadyH.cons (o := _) (by simp only [List.getElem?_toArray, List.getElem?_cons_succ, List.getElem?_cons_zero]; rfl) (fun K hK => ?_) AllReadyH.nil)
    go_simp
    refine (HV.out Wd).mono ?_
    rintro e wv ⟨rfl, cv⟩
    replace B0 := Lib.hid ((cv.block w.heap.size (Array.getElem?_eq_some_iff.1 B0.out).1).trans B0.out)
    replace d := Lib.hid (d.out.trans (cv.mono d.out.size))
    have Z_wv := Lib.hid (show Wd.heap.size ≤ wv.heap.size from cv.size)
    clear cv
    have p_B0_0 := (cell_of_row wv _ 0 _ _ _ B0.out).trans (show _ = some (Value.int .i64 2) from rfl)
    have p_B0_1 := (cell_of_row wv _ 1 _ _ _ B0.out).trans (show _ = some (Value.int .i64 id) from rfl)
    have p_B0_2 := (cell_of_row wv _ 2 _ _ _ B0.out).trans (show _ = some (Value.slice va xs.length vc) from rfl)
    have p_B0_3 := (cell_of_row wv _ 3 _ _ _ B0.out).trans (show _ = some (Value.int .i64 f) from rfl)
    have p_B0_4 := (cell_of_row wv _ 4 _ _ _ B0.out).trans (show _ = some (Value.int .i64 x) from rfl)
    refine hK.out _ _ ⟨p_B0_0, p_B0_1, p_B0_2, p_B0_3, p_B0_4⟩ (fun hHeld => ?_)
    clear p_B0_0 p_B0_1 p_B0_2 p_B0_3 p_B0_4
    clear hK K
    try simp only [Act.put, List.setIfInBounds_toArray, List.set_cons_zero, List.set_cons_succ]
    refine take_runs (i := 2) (v := ?_) (by simp only [List.getElem?_toArray, List.getElem?_cons_succ, List.getElem?_cons_zero]; rfl) (by kernel_rfl) (by kernel_rfl) (by kernel_rfl) rfl (by exact fun _ _ _ h => h) (by rfl) ?_ (by assumption) ?_
    rotate_left
    · intro w hSw; (try dsimp only at hSw); go_simp; try (with_reducible rfl)
    try simp only [Act.put, List.setIfInBounds_toArray, List.set_cons_zero, List.set_cons_succ]
    refine take_runs (i := 3) (v := ?_) (by simp only [List.getElem?_toArray, List.getElem?_cons_succ, List.getElem?_cons_zero]; rfl) (by kernel_rfl) (by kernel_rfl) (by kernel_rfl) rfl (by exact fun _ _ _ h => h) (by rfl) ?_ (by assumption) ?_
    rotate_left
    · intro w hSw; (try dsimp only at hSw); go_simp; try (with_reducible rfl)
    try simp only [Act.put, List.setIfInBounds_toArray, List.set_cons_zero, List.set_cons_succ]
    refine take_over (i := 4) (by simp only [List.getElem?_toArray, List.getElem?_cons_succ, List.getElem?_cons_zero]; rfl) (by kernel_rfl) (by kernel_rfl) (by kernel_rfl) rfl (by exact fun _ _ _ h => h) (by rfl) (by assumption) ?_
    try simp only [Act.put, List.setIfInBounds_toArray, List.set_cons_zero, List.set_cons_succ]
    refine take_over (i := 5) (by simp only [List.getElem?_toArray, List.getElem?_cons_succ, List.getElem?_cons_zero]; rfl) (by kernel_rfl) (by kernel_rfl) (by kernel_rfl) rfl (by exact fun _ _ _ h => h) (by rfl) (by assumption) ?_
    try simp only [Act.put, List.setIfInBounds_toArray, List.set_cons_zero, List.set_cons_succ]
    refine take_over (i := 6) (by simp only [List.getElem?_toArray, List.getElem?_cons_succ, List.getElem?_cons_zero]; rfl) (by kernel_rfl) (by kernel_rfl) (by kernel_rfl) rfl (by exact fun _ _ _ h => h) (by rfl) (by assumption) ?_
    try simp only [Act.put, List.setIfInBounds_toArray, List.set_cons_zero, List.set_cons_succ]
    refine take_over (i := 7) (by simp only [List.getElem?_toArray, List.getElem?_cons_succ, List.getElem?_cons_zero]; rfl) (by kernel_rfl) (by kernel_rfl) (by kernel_rfl) rfl (by exact fun _ _ _ h => h) (by rfl) (by assumption) ?_
    try simp only [Act.put, List.setIfInBounds_toArray, List.set_cons_zero, List.set_cons_succ]
    refine take_over (i := 8) (by simp only [List.getElem?_toArray, List.getElem?_cons_succ, List.getElem?_cons_zero]; rfl) (by kernel_rfl) (by kernel_rfl) (by kernel_rfl) rfl (by exact fun _ _ _ h => h) (by rfl) (by assumption) ?_
    try simp only [Act.put, List.setIfInBounds_toArray, List.set_cons_zero, List.set_cons_succ]
    refine take_runs (i := 9) (v := ?_) (by simp only [List.getElem?_toArray, List.getElem?_cons_succ, List.getElem?_cons_zero]; rfl) (by kernel_rfl) (by kernel_rfl) (by kernel_rfl) rfl (by exact fun _ _ _ h => h) (by rfl) ?_ (by assumption) ?_
    rotate_left
    · intro w hSw; (try dsimp only at hSw); go_simp; try (with_reducible rfl)
    try simp only [Act.put, List.setIfInBounds_toArray, List.set_cons_zero, List.set_cons_succ]
    refine wpAnyH_done (by kernel_rfl) ?_ _
    clear hHeld
    go_wp2
    go_ret2
    exact freshC_no HN.out d.out
  have HV := Lib.hid (fun W => delValid_yes id W hi.1 hi.2)
  by_cases hq : xs = [] ∧ f = 0 ∧ x = 0
  · obtain ⟨rfl, rfl, rfl⟩ := hq
    have HN : Hid (updB (2, (id, []), 0, 0) = true) := Lib.hid (upd_del ⟨rfl, hi, rfl, rfl, rfl⟩)
    rw [decide_eq_true ⟨rfl, rfl, rfl, rfl⟩] at HE
    clear hi
    simp only [List.length_nil] at *
    have na_isValid : ∀ w : World, (nilAhead (Try.prog.types.size + Made.depth) 116 (.agg #[.int .i64 id]) "loop.example/g01986/impl.isValid").run Try.prog w = .ok (some false) w := fun _ => by kernel_rfl
    have me_isValid : ∀ w : World, (method (Try.prog.types.size + Made.depth) 116 (.agg #[.int .i64 id]) "loop.example/g01986/impl.isValid").run Try.prog w = .ok (161, .agg #[.int .i64 id]) w := fun _ => by kernel_rfl
    have na_update : ∀ w : World, (nilAhead (Try.prog.types.size + Made.depth) 116 (.agg #[.int .i64 id]) "loop.example/g01986/impl.update").run Try.prog w = .ok (some false) w := fun _ => by kernel_rfl
    have me_update : ∀ w : World, (method (Try.prog.types.size + Made.depth) 116 (.agg #[.int .i64 id]) "loop.example/g01986/impl.update").run Try.prog w = .ok (162, .agg #[.int .i64 id]) w := fun _ => by kernel_rfl
    have d := Lib.hid ((Below.refl w.heap.size w).alloc (Nat.le_refl _) (.cells #[.int .i64 2, .int .i64 id, .slice va 0 vc, .int .i64 0, .int .i64 0] 31))
    have B0 : Hid ((w.alloc (.cells #[.int .i64 2, .int .i64 id, .slice va 0 vc, .int .i64 0, .int .i64 0] 31)).heap[w.heap.size]? = some (.cells #[.int .i64 2, .int .i64 id, .slice va 0 vc, .int .i64 0, .int .i64 0] 31 (0, 0))) := Lib.hid (heap_alloc_new w _)
    go_enter Try.func45, Try.ntmps45
    go_wp2
    generalize w.alloc (.cells #[.int .i64 2, .int .i64 id, .slice va 0 vc, .int .i64 0, .int .i64 0] 31) = W at *
    have p_B0_0 := (cell_of_row W _ 0 _ _ _ B0.out).trans (show _ = some (Value.int .i64 2) from rfl)
    have p_B0_1 := (cell_of_row W _ 1 _ _ _ B0.out).trans (show _ = some (Value.int .i64 id) from rfl)
    have p_B0_2 := (cell_of_row W _ 2 _ _ _ B0.out).trans (show _ = some (Value.slice va 0 vc) from rfl)
    have p_B0_3 := (cell_of_row W _ 3 _ _ _ B0.out).trans (show _ = some (Value.int .i64 0) from rfl)
    have p_B0_4 := (cell_of_row W _ 4 _ _ _ B0.out).trans (show _ = some (Value.int .i64 0) from rfl)
    refine wp_region_held_drew (S := fun w' => w'.cell? ⟨w.heap.size, 0, none⟩ = some (Value.int .i64 2) ∧ w'.cell? ⟨w.heap.size, 1, none⟩ = some (Value.int .i64 id) ∧ w'.cell? ⟨w.heap.size, 2, none⟩ = some (Value.slice va 0 vc) ∧ w'.cell? ⟨w.heap.size, 3, none⟩ = some (Value.int .i64 0) ∧ w'.cell? ⟨w.heap.size, 4, none⟩ = some (Value.int .i64 0)) (by kernel_rfl) ⟨p_B0_0, p_B0_1, p_B0_2, p_B0_3, p_B0_4⟩ (fun hHeld => ?_)
    clear p_B0_0 p_B0_1 p_B0_2 p_B0_3 p_B0_4
    have cdr : Below W.heap.size W W.drew := below_drew (Below.refl _ _)
    replace B0 := Lib.hid ((cdr.block w.heap.size (Array.getElem?_eq_some_iff.1 B0.out).1).trans B0.out)
    replace d := Lib.hid (d.out.trans (cdr.mono d.out.size))
    clear cdr
    have Z_dr := Lib.hid (show W.heap.size ≤ W.drew.heap.size from Nat.le_refl _)
    generalize W.drew = Wd at *
    refine take_runs (i := 0) (v := ?_) (by simp only [List.getElem?_toArray, List.getElem?_cons_succ, List.getElem?_cons_zero]; rfl) (by kernel_rfl) (by kernel_rfl) (by kernel_rfl) rfl (by exact fun _ _ _ h => h) (by rfl) ?_ (by assumption) ?_
    rotate_left
    · intro w hSw; (try dsimp only at hSw); go_simp; try (with_reducible rfl)
    try simp only [Act.put, List.setIfInBounds_toArray, List.set_cons_zero, List.set_cons_succ]
    refine wpAnyH_ready (rs := [1]) (by kernel_rfl) (by simp) ?_
    refine (AllReadyH.cons (o := _) (by simp only [List.getElem?_toArray, List.getElem?_cons_succ, List.getElem?_cons_zero]; rfl) (fun K hK => ?_) AllReadyH.nil)
    go_simp
    refine (HV.out Wd).mono ?_
    rintro e wv ⟨rfl, cv⟩
    replace B0 := Lib.hid ((cv.block w.heap.size (Array.getElem?_eq_some_iff.1 B0.out).1).trans B0.out)
    replace d := Lib.hid (d.out.trans (cv.mono d.out.size))
    have Z_wv := Lib.hid (show Wd.heap.size ≤ wv.heap.size from cv.size)
    clear cv
    have p_B0_0 := (cell_of_row wv _ 0 _ _ _ B0.out).trans (show _ = some (Value.int .i64 2) from rfl)
    have p_B0_1 := (cell_of_row wv _ 1 _ _ _ B0.out).trans (show _ = some (Value.int .i64 id) from rfl)
    have p_B0_2 := (cell_of_row wv _ 2 _ _ _ B0.out).trans (show _ = some (Value.slice va 0 vc) from rfl)
    have p_B0_3 := (cell_of_row wv _ 3 _ _ _ B0.out).trans (show _ = some (Value.int .i64 0) from rfl)
    have p_B0_4 := (cell_of_row wv _ 4 _ _ _ B0.out).trans (show _ = some (Value.int .i64 0) from rfl)
    refine hK.out _ _ ⟨p_B0_0, p_B0_1, p_B0_2, p_B0_3, p_B0_4⟩ (fun hHeld => ?_)
    clear p_B0_0 p_B0_1 p_B0_2 p_B0_3 p_B0_4
    clear hK K
    try simp only [Act.put, List.setIfInBounds_toArray, List.set_cons_zero, List.set_cons_succ]
    refine take_runs (i := 2) (v := ?_) (by simp only [List.getElem?_toArray, List.getElem?_cons_succ, List.getElem?_cons_zero]; rfl) (by kernel_rfl) (by kernel_rfl) (by kernel_rfl) rfl (by exact fun _ _ _ h => h) (by rfl) ?_ (by assumption) ?_
    rotate_left
    · intro w hSw; (try dsimp only at hSw); go_simp; try (with_reducible rfl)
    try simp only [Act.put, List.setIfInBounds_toArray, List.set_cons_zero, List.set_cons_succ]
    refine take_runs (i := 3) (v := ?_) (by simp only [List.getElem?_toArray, List.getElem?_cons_succ, List.getElem?_cons_zero]; rfl) (by kernel_rfl) (by kernel_rfl) (by kernel_rfl) rfl (by exact fun _ _ _ h => h) (by rfl) ?_ (by assumption) ?_
    rotate_left
    · intro w hSw; (try dsimp only at hSw); go_simp; try (with_reducible rfl)
    try simp only [Act.put, List.setIfInBounds_toArray, List.set_cons_zero, List.set_cons_succ]
    refine take_runs (i := 4) (v := ?_) (by simp only [List.getElem?_toArray, List.getElem?_cons_succ, List.getElem?_cons_zero]; rfl) (by kernel_rfl) (by kernel_rfl) (by kernel_rfl) rfl (by exact fun _ _ _ h => h) (by rfl) ?_ (by assumption) ?_
    rotate_left
    · intro w hSw; (try dsimp only at hSw); go_simp; try (with_reducible rfl)
    try simp only [Act.put, List.setIfInBounds_toArray, List.set_cons_zero, List.set_cons_succ]
    refine take_runs (i := 6) (v := ?_) (by simp only [List.getElem?_toArray, List.getElem?_cons_succ, List.getElem?_cons_zero]; rfl) (by kernel_rfl) (by kernel_rfl) (by kernel_rfl) rfl (by exact fun _ _ _ h => h) (by rfl) ?_ (by assumption) ?_
    rotate_left
    · intro w hSw; (try dsimp only at hSw); go_simp; try (with_reducible rfl)
    try simp only [Act.put, List.setIfInBounds_toArray, List.set_cons_zero, List.set_cons_succ]
    refine wpAnyH_ready (rs := [5]) (by kernel_rfl) (by simp) ?_
    refine (AllReadyH.cons (o := _) (by simp only [List.getElem?_toArray, List.getElem?_cons_succ, List.getElem?_cons_zero]; rfl) (fun K hK => ?_) AllReadyH.nil)
    go_simp
    refine (delUpdate id wv).mono ?_
    rintro e wu ⟨rfl, cv⟩
    replace B0 := Lib.hid ((cv.block w.heap.size (Array.getElem?_eq_some_iff.1 B0.out).1).trans B0.out)
    replace d := Lib.hid (d.out.trans (cv.mono d.out.size))
    have Z_wu := Lib.hid (show wv.heap.size ≤ wu.heap.size from cv.size)
    clear cv
    have p_B0_0 := (cell_of_row wu _ 0 _ _ _ B0.out).trans (show _ = some (Value.int .i64 2) from rfl)
    have p_B0_1 := (cell_of_row wu _ 1 _ _ _ B0.out).trans (show _ = some (Value.int .i64 id) from rfl)
    have p_B0_2 := (cell_of_row wu _ 2 _ _ _ B0.out).trans (show _ = some (Value.slice va 0 vc) from rfl)
    have p_B0_3 := (cell_of_row wu _ 3 _ _ _ B0.out).trans (show _ = some (Value.int .i64 0) from rfl)
    have p_B0_4 := (cell_of_row wu _ 4 _ _ _ B0.out).trans (show _ = some (Value.int .i64 0) from rfl)
    refine hK.out _ _ ⟨p_B0_0, p_B0_1, p_B0_2, p_B0_3, p_B0_4⟩ (fun hHeld => ?_)
    clear p_B0_0 p_B0_1 p_B0_2 p_B0_3 p_B0_4
    clear hK K
    try simp only [Act.put, List.setIfInBounds_toArray, List.set_cons_zero, List.set_cons_succ]
    refine wpAnyH_ready (rs := [7]) (by kernel_rfl) (by simp) ?_
    refine (AllReadyH.cons (o := _) (by simp only [List.getElem?_toArray, List.getElem?_cons_succ, List.getElem?_cons_zero]; rfl) (fun K hK => ?_) AllReadyH.nil)
    go_simp
    refine (HE.out wu (ints_below H.out d.out)).mono ?_
    rintro e we ⟨rfl, cv⟩
    replace B0 := Lib.hid ((cv.block w.heap.size (Array.getElem?_eq_some_iff.1 B0.out).1).trans B0.out)
    replace d := Lib.hid (d.out.trans (cv.mono d.out.size))
    have Z_we := Lib.hid (show wu.heap.size ≤ we.heap.size from cv.size)
    clear cv
    have p_B0_0 := (cell_of_row we _ 0 _ _ _ B0.out).trans (show _ = some (Value.int .i64 2) from rfl)
    have p_B0_1 := (cell_of_row we _ 1 _ _ _ B0.out).trans (show _ = some (Value.int .i64 id) from rfl)
    have p_B0_2 := (cell_of_row we _ 2 _ _ _ B0.out).trans (show _ = some (Value.slice va 0 vc) from rfl)
    have p_B0_3 := (cell_of_row we _ 3 _ _ _ B0.out).trans (show _ = some (Value.int .i64 0) from rfl)
    have p_B0_4 := (cell_of_row we _ 4 _ _ _ B0.out).trans (show _ = some (Value.int .i64 0) from rfl)
    refine hK.out _ _ ⟨p_B0_0, p_B0_1, p_B0_2, p_B0_3, p_B0_4⟩ (fun hHeld => ?_)
    clear p_B0_0 p_B0_1 p_B0_2 p_B0_3 p_B0_4
    clear hK K
    try simp only [Act.put, List.setIfInBounds_toArray, List.set_cons_zero, List.set_cons_succ]
    refine take_runs (i := 8) (v := ?_) (by simp only [List.getElem?_toArray, List.getElem?_cons_succ, List.getElem?_cons_zero]; rfl) (by kernel_rfl) (by kernel_rfl) (by kernel_rfl) rfl (by exact fun _ _ _ h => h) (by rfl) ?_ (by assumption) ?_
    rotate_left
    · intro w hSw; (try dsimp only at hSw); go_simp; try (with_reducible rfl)
    try simp only [Act.put, List.setIfInBounds_toArray, List.set_cons_zero, List.set_cons_succ]
    refine take_runs (i := 9) (v := ?_) (by simp only [List.getElem?_toArray, List.getElem?_cons_succ, List.getElem?_cons_zero]; rfl) (by kernel_rfl) (by kernel_rfl) (by kernel_rfl) rfl (by exact fun _ _ _ h => h) (by rfl) ?_ (by assumption) ?_
    rotate_left
    · intro w hSw; (try dsimp only at hSw); go_simp; try (with_reducible rfl)
    try simp only [Act.put, List.setIfInBounds_toArray, List.set_cons_zero, List.set_cons_succ]
    refine wpAnyH_done (by kernel_rfl) ?_ _
    clear hHeld
    go_wp2
    go_ret2
    exact freshC_yes HN.out rfl d.out
  · have HN : Hid (updB (2, (id, xs), f, x) = false) := Lib.hid (upd_no (by unfold insP; simp only; omega) (fun g => hq ⟨List.eq_nil_of_length_eq_zero g.2.2.1, g.2.2.2.1, g.2.2.2.2⟩) (by unfold setP; simp only; omega))
    rw [decide_eq_false (fun g => hq ⟨(Prod.mk.inj g.2.1).2.symm, g.2.2.1.symm, g.2.2.2.symm⟩)] at HE
    clear hi hq
    have na_isValid : ∀ w : World, (nilAhead (Try.prog.types.size + Made.depth) 116 (.agg #[.int .i64 id]) "loop.example/g01986/impl.isValid").run Try.prog w = .ok (some false) w := fun _ => by kernel_rfl
    have me_isValid : ∀ w : World, (method (Try.prog.types.size + Made.depth) 116 (.agg #[.int .i64 id]) "loop.example/g01986/impl.isValid").run Try.prog w = .ok (161, .agg #[.int .i64 id]) w := fun _ => by kernel_rfl
    have na_update : ∀ w : World, (nilAhead (Try.prog.types.size + Made.depth) 116 (.agg #[.int .i64 id]) "loop.example/g01986/impl.update").run Try.prog w = .ok (some false) w := fun _ => by kernel_rfl
    have me_update : ∀ w : World, (method (Try.prog.types.size + Made.depth) 116 (.agg #[.int .i64 id]) "loop.example/g01986/impl.update").run Try.prog w = .ok (162, .agg #[.int .i64 id]) w := fun _ => by kernel_rfl
    have d := Lib.hid ((Below.refl w.heap.size w).alloc (Nat.le_refl _) (.cells #[.int .i64 2, .int .i64 id, .slice va xs.length vc, .int .i64 f, .int .i64 x] 31))
    have B0 : Hid ((w.alloc (.cells #[.int .i64 2, .int .i64 id, .slice va xs.length vc, .int .i64 f, .int .i64 x] 31)).heap[w.heap.size]? = some (.cells #[.int .i64 2, .int .i64 id, .slice va xs.length vc, .int .i64 f, .int .i64 x] 31 (0, 0))) := Lib.hid (heap_alloc_new w _)
    go_enter Try.func45, Try.ntmps45
    go_wp2
    generalize w.alloc (.cells #[.int .i64 2, .int .i64 id, .slice va xs.length vc, .int .i64 f, .int .i64 x] 31) = W at *
    have p_B0_0 := (cell_of_row W _ 0 _ _ _ B0.out).trans (show _ = some (Value.int .i64 2) from rfl)
    have p_B0_1 := (cell_of_row W _ 1 _ _ _ B0.out).trans (show _ = some (Value.int .i64 id) from rfl)
    have p_B0_2 := (cell_of_row W _ 2 _ _ _ B0.out).trans (show _ = some (Value.slice va xs.length vc) from rfl)
    have p_B0_3 := (cell_of_row W _ 3 _ _ _ B0.out).trans (show _ = some (Value.int .i64 f) from rfl)
    have p_B0_4 := (cell_of_row W _ 4 _ _ _ B0.out).trans (show _ = some (Value.int .i64 x) from rfl)
    refine wp_region_held_drew (S := fun w' => w'.cell? ⟨w.heap.size, 0, none⟩ = some (Value.int .i64 2) ∧ w'.cell? ⟨w.heap.size, 1, none⟩ = some (Value.int .i64 id) ∧ w'.cell? ⟨w.heap.size, 2, none⟩ = some (Value.slice va xs.length vc) ∧ w'.cell? ⟨w.heap.size, 3, none⟩ = some (Value.int .i64 f) ∧ w'.cell? ⟨w.heap.size, 4, none⟩ = some (Value.int .i64 x)) (by kernel_rfl) ⟨p_B0_0, p_B0_1, p_B0_2, p_B0_3, p_B0_4⟩ (fun hHeld => ?_)
    clear p_B0_0 p_B0_1 p_B0_2 p_B0_3 p_B0_4
    have cdr : Below W.heap.size W W.drew := below_drew (Below.refl _ _)
    replace B0 := Lib.hid ((cdr.block w.heap.size (Array.getElem?_eq_some_iff.1 B0.out).1).trans B0.out)
    replace d := Lib.hid (d.out.trans (cdr.mono d.out.size))
    clear cdr
    have Z_dr := Lib.hid (show W.heap.size ≤ W.drew.heap.size from Nat.le_refl _)
    generalize W.drew = Wd at *
    refine take_runs (i := 0) (v := ?_) (by simp only [List.getElem?_toArray, List.getElem?_cons_succ, List.getElem?_cons_zero]; rfl) (by kernel_rfl) (by kernel_rfl) (by kernel_rfl) rfl (by exact fun _ _ _ h => h) (by rfl) ?_ (by assumption) ?_
    rotate_left
    · intro w hSw; (try dsimp only at hSw); go_simp; try (with_reducible rfl)
    try simp only [Act.put, List.setIfInBounds_toArray, List.set_cons_zero, List.set_cons_succ]
    refine wpAnyH_ready (rs := [1]) (by kernel_rfl) (by simp) ?_
    refine (AllReadyH.cons (o := _) (by simp only [List.getElem?_toArray, List.getElem?_cons_succ, List.getElem?_cons_zero]; rfl) (fun K hK => ?_) AllReadyH.nil)
    go_simp
    refine (HV.out Wd).mono ?_
    rintro e wv ⟨rfl, cv⟩
    replace B0 := Lib.hid ((cv.block w.heap.size (Array.getElem?_eq_some_iff.1 B0.out).1).trans B0.out)
    replace d := Lib.hid (d.out.trans (cv.mono d.out.size))
    have Z_wv := Lib.hid (show Wd.heap.size ≤ wv.heap.size from cv.size)
    clear cv
    have p_B0_0 := (cell_of_row wv _ 0 _ _ _ B0.out).trans (show _ = some (Value.int .i64 2) from rfl)
    have p_B0_1 := (cell_of_row wv _ 1 _ _ _ B0.out).trans (show _ = some (Value.int .i64 id) from rfl)
    have p_B0_2 := (cell_of_row wv _ 2 _ _ _ B0.out).trans (show _ = some (Value.slice va xs.length vc) from rfl)
    have p_B0_3 := (cell_of_row wv _ 3 _ _ _ B0.out).trans (show _ = some (Value.int .i64 f) from rfl)
    have p_B0_4 := (cell_of_row wv _ 4 _ _ _ B0.out).trans (show _ = some (Value.int .i64 x) from rfl)
    refine hK.out _ _ ⟨p_B0_0, p_B0_1, p_B0_2, p_B0_3, p_B0_4⟩ (fun hHeld => ?_)
    clear p_B0_0 p_B0_1 p_B0_2 p_B0_3 p_B0_4
    clear hK K
    try simp only [Act.put, List.setIfInBounds_toArray, List.set_cons_zero, List.set_cons_succ]
    refine take_runs (i := 2) (v := ?_) (by simp only [List.getElem?_toArray, List.getElem?_cons_succ, List.getElem?_cons_zero]; rfl) (by kernel_rfl) (by kernel_rfl) (by kernel_rfl) rfl (by exact fun _ _ _ h => h) (by rfl) ?_ (by assumption) ?_
    rotate_left
    · intro w hSw; (try dsimp only at hSw); go_simp; try (with_reducible rfl)
    try simp only [Act.put, List.setIfInBounds_toArray, List.set_cons_zero, List.set_cons_succ]
    refine take_runs (i := 3) (v := ?_) (by simp only [List.getElem?_toArray, List.getElem?_cons_succ, List.getElem?_cons_zero]; rfl) (by kernel_rfl) (by kernel_rfl) (by kernel_rfl) rfl (by exact fun _ _ _ h => h) (by rfl) ?_ (by assumption) ?_
    rotate_left
    · intro w hSw; (try dsimp only at hSw); go_simp; try (with_reducible rfl)
    try simp only [Act.put, List.setIfInBounds_toArray, List.set_cons_zero, List.set_cons_succ]
    refine take_runs (i := 4) (v := ?_) (by simp only [List.getElem?_toArray, List.getElem?_cons_succ, List.getElem?_cons_zero]; rfl) (by kernel_rfl) (by kernel_rfl) (by kernel_rfl) rfl (by exact fun _ _ _ h => h) (by rfl) ?_ (by assumption) ?_
    rotate_left
    · intro w hSw; (try dsimp only at hSw); go_simp; try (with_reducible rfl)
    try simp only [Act.put, List.setIfInBounds_toArray, List.set_cons_zero, List.set_cons_succ]
    refine take_runs (i := 6) (v := ?_) (by simp only [List.getElem?_toArray, List.getElem?_cons_succ, List.getElem?_cons_zero]; rfl) (by kernel_rfl) (by kernel_rfl) (by kernel_rfl) rfl (by exact fun _ _ _ h => h) (by rfl) ?_ (by assumption) ?_
    rotate_left
    · intro w hSw; (try dsimp only at hSw); go_simp; try (with_reducible rfl)
    try simp only [Act.put, List.setIfInBounds_toArray, List.set_cons_zero, List.set_cons_succ]
    refine wpAnyH_ready (rs := [5]) (by kernel_rfl) (by simp) ?_
    refine (AllReadyH.cons (o := _) (by simp only [List.getElem?_toArray, List.getElem?_cons_succ, List.getElem?_cons_zero]; rfl) (fun K hK => ?_) AllReadyH.nil)
    go_simp
    refine (delUpdate id wv).mono ?_
    rintro e wu ⟨rfl, cv⟩
    replace B0 := Lib.hid ((cv.block w.heap.size (Array.getElem?_eq_some_iff.1 B0.out).1).trans B0.out)
    replace d := Lib.hid (d.out.trans (cv.mono d.out.size))
    have Z_wu := Lib.hid (show wv.heap.size ≤ wu.heap.size from cv.size)
    clear cv
    have p_B0_0 := (cell_of_row wu _ 0 _ _ _ B0.out).trans (show _ = some (Value.int .i64 2) from rfl)
    have p_B0_1 := (cell_of_row wu _ 1 _ _ _ B0.out).trans (show _ = some (Value.int .i64 id) from rfl)
    have p_B0_2 := (cell_of_row wu _ 2 _ _ _ B0.out).trans (show _ = some (Value.slice va xs.length vc) from rfl)
    have p_B0_3 := (cell_of_row wu _ 3 _ _ _ B0.out).trans (show _ = some (Value.int .i64 f) from rfl)
    have p_B0_4 := (cell_of_row wu _ 4 _ _ _ B0.out).trans (show _ = some (Value.int .i64 x) from rfl)
    refine hK.out _ _ ⟨p_B0_0, p_B0_1, p_B0_2, p_B0_3, p_B0_4⟩ (fun hHeld => ?_)
    clear p_B0_0 p_B0_1 p_B0_2 p_B0_3 p_B0_4
    clear hK K
    try simp only [Act.put, List.setIfInBounds_toArray, List.set_cons_zero, List.set_cons_succ]
    refine wpAnyH_ready (rs := [7]) (by kernel_rfl) (by simp) ?_
    refine (AllReadyH.cons (o := _) (by simp only [List.getElem?_toArray, List.getElem?_cons_succ, List.getElem?_cons_zero]; rfl) (fun K hK => ?_) AllReadyH.nil)
    go_simp
    refine (HE.out wu (ints_below H.out d.out)).mono ?_
    rintro e we ⟨rfl, cv⟩
    replace B0 := Lib.hid ((cv.block w.heap.size (Array.getElem?_eq_some_iff.1 B0.out).1).trans B0.out)
    replace d := Lib.hid (d.out.trans (cv.mono d.out.size))
    have Z_we := Lib.hid (show wu.heap.size ≤ we.heap.size from cv.size)
    clear cv
    have p_B0_0 := (cell_of_row we _ 0 _ _ _ B0.out).trans (show _ = some (Value.int .i64 2) from rfl)
    have p_B0_1 := (cell_of_row we _ 1 _ _ _ B0.out).trans (show _ = some (Value.int .i64 id) from rfl)
    have p_B0_2 := (cell_of_row we _ 2 _ _ _ B0.out).trans (show _ = some (Value.slice va xs.length vc) from rfl)
    have p_B0_3 := (cell_of_row we _ 3 _ _ _ B0.out).trans (show _ = some (Value.int .i64 f) from rfl)
    have p_B0_4 := (cell_of_row we _ 4 _ _ _ B0.out).trans (show _ = some (Value.int .i64 x) from rfl)
    refine hK.out _ _ ⟨p_B0_0, p_B0_1, p_B0_2, p_B0_3, p_B0_4⟩ (fun hHeld => ?_)
    clear p_B0_0 p_B0_1 p_B0_2 p_B0_3 p_B0_4
    clear hK K
    try simp only [Act.put, List.setIfInBounds_toArray, List.set_cons_zero, List.set_cons_succ]
    refine take_runs (i := 8) (v := ?_) (by simp only [List.getElem?_toArray, List.getElem?_cons_succ, List.getElem?_cons_zero]; rfl) (by kernel_rfl) (by kernel_rfl) (by kernel_rfl) rfl (by exact fun _ _ _ h => h) (by rfl) ?_ (by assumption) ?_
    rotate_left
    · intro w hSw; (try dsimp only at hSw); go_simp; try (with_reducible rfl)
    try simp only [Act.put, List.setIfInBounds_toArray, List.set_cons_zero, List.set_cons_succ]
    refine take_runs (i := 9) (v := ?_) (by simp only [List.getElem?_toArray, List.getElem?_cons_succ, List.getElem?_cons_zero]; rfl) (by kernel_rfl) (by kernel_rfl) (by kernel_rfl) rfl (by exact fun _ _ _ h => h) (by rfl) ?_ (by assumption) ?_
    rotate_left
    · intro w hSw; (try dsimp only at hSw); go_simp; try (with_reducible rfl)
    try simp only [Act.put, List.setIfInBounds_toArray, List.set_cons_zero, List.set_cons_succ]
    refine wpAnyH_done (by kernel_rfl) ?_ _
    clear hHeld
    go_wp2
    go_ret2
    exact freshC_no HN.out d.out
set_option maxHeartbeats 16000000 in
set_option maxRecDepth 100000 in
theorem changeOf_set (id f x : Int) (vv : Value) (xs : List Int) (w : World) (h : Ints w vv xs) (hn : xs.length ≤ 1048576) :
    Calls Try.prog 45 #[.agg #[.int .i64 3, .int .i64 id, vv, .int .i64 f, .int .i64 x]] w (FreshC w (3, (id, xs), f, x) vv) := by
  obtain ⟨va, vc, rfl⟩ := ints_len h
  have H := Lib.hid h
  clear h
  have HE := Lib.hid (fun W h => implEqualUpdate 3 id f x 3 id f x (.slice none 0 0) (.slice va xs.length vc) [] xs W (Or.inl ⟨rfl, _, _, rfl⟩) h (by simp) hn)
  have HV := Lib.hid (fun W => setValid id f x W)
  clear hn
  by_cases hi : (0 ≤ id ∧ id ≤ 999) ∧ (0 ≤ f ∧ f ≤ 2) ∧ (0 ≤ x ∧ x ≤ 99)
  rotate_left
  · have HN : Hid (updB (3, (id, xs), f, x) = false) := Lib.hid (upd_no (by unfold insP; simp only; omega) (by unfold delP; simp only; omega) (by unfold setP; simp only; omega))
    rw [decide_eq_false hi] at HV
    clear hi
    have na_isValid : ∀ w : World, (nilAhead (Try.prog.types.size + Made.depth) 118 (.agg #[.int .i64 id, .int .i64 f, .int .i64 x]) "loop.example/g01986/impl.isValid").run Try.prog w = .ok (some false) w := fun _ => by kernel_rfl
    have me_isValid : ∀ w : World, (method (Try.prog.types.size + Made.depth) 118 (.agg #[.int .i64 id, .int .i64 f, .int .i64 x]) "loop.example/g01986/impl.isValid").run Try.prog w = .ok (165, .agg #[.int .i64 id, .int .i64 f, .int .i64 x]) w := fun _ => by kernel_rfl
    have d := Lib.hid ((Below.refl w.heap.size w).alloc (Nat.le_refl _) (.cells #[.int .i64 3, .int .i64 id, .slice va xs.length vc, .int .i64 f, .int .i64 x] 31))
    have B0 : Hid ((w.alloc (.cells #[.int .i64 3, .int .i64 id, .slice va xs.length vc, .int .i64 f, .int .i64 x] 31)).heap[w.heap.size]? = some (.cells #[.int .i64 3, .int .i64 id, .slice va xs.length vc, .int .i64 f, .int .i64 x] 31 (0, 0))) := Lib.hid (heap_alloc_new w _)
    go_enter Try.func45, Try.ntmps45
    go_wp2
    generalize w.alloc (.cells #[.int .i64 3, .int .i64 id, .slice va xs.length vc, .int .i64 f, .int .i64 x] 31) = W at *
    have p_B0_0 := (cell_of_row W _ 0 _ _ _ B0.out).trans (show _ = some (Value.int .i64 3) from rfl)
    have p_B0_1 := (cell_of_row W _ 1 _ _ _ B0.out).trans (show _ = some (Value.int .i64 id) from rfl)
    have p_B0_2 := (cell_of_row W _ 2 _ _ _ B0.out).trans (show _ = some (Value.slice va xs.length vc) from rfl)
    have p_B0_3 := (cell_of_row W _ 3 _ _ _ B0.out).trans (show _ = some (Value.int .i64 f) from rfl)
    have p_B0_4 := (cell_of_row W _ 4 _ _ _ B0.out).trans (show _ = some (Value.int .i64 x) from rfl)
    refine wp_region_held_drew (S := fun w' => w'.cell? ⟨w.heap.size, 0, none⟩ = some (Value.int .i64 3) ∧ w'.cell? ⟨w.heap.size, 1, none⟩ = some (Value.int .i64 id) ∧ w'.cell? ⟨w.heap.size, 2, none⟩ = some (Value.slice va xs.length vc) ∧ w'.cell? ⟨w.heap.size, 3, none⟩ = some (Value.int .i64 f) ∧ w'.cell? ⟨w.heap.size, 4, none⟩ = some (Value.int .i64 x)) (by kernel_rfl) ⟨p_B0_0, p_B0_1, p_B0_2, p_B0_3, p_B0_4⟩ (fun hHeld => ?_)
    clear p_B0_0 p_B0_1 p_B0_2 p_B0_3 p_B0_4
    have cdr : Below W.heap.size W W.drew := below_drew (Below.refl _ _)
    replace B0 := Lib.hid ((cdr.block w.heap.size (Array.getElem?_eq_some_iff.1 B0.out).1).trans B0.out)
    replace d := Lib.hid (d.out.trans (cdr.mono d.out.size))
    clear cdr
    have Z_dr := Lib.hid (show W.heap.size ≤ W.drew.heap.size from Nat.le_refl _)
    generalize W.drew = Wd at *
    refine take_runs (i := 0) (v := ?_) (by simp only [List.getElem?_toArray, List.getElem?_cons_succ, List.getElem?_cons_zero]; rfl) (by kernel_rfl) (by kernel_rfl) (by kernel_rfl) rfl (by exact fun _ _ _ h => h) (by rfl) ?_ (by assumption) ?_
    rotate_left
    · intro w hSw; (try dsimp only at hSw); go_simp; try (with_reducible rfl)
    try simp only [Act.put, List.setIfInBounds_toArray, List.set_cons_zero, List.set_cons_succ]
    refine wpAnyH_ready (rs := [1]) (by kernel_rfl) (by simp) ?_
    refine (AllReadyH.cons (o := _) (by simp only [List.getElem?_toArray, List.getElem?_cons_succ, List.getElem?_cons_zero]; rfl) (fun K hK => ?_) AllReadyH.nil)
    go_simp
    refine (HV.out Wd).mono ?_
    rintro e wv ⟨rfl, cv⟩
    replace B0 := Lib.hid ((cv.block w.heap.size (Array.getElem?_eq_some_iff.1 B0.out).1).trans B0.out)
    replace d := Lib.hid (d.out.trans (cv.mono d.out.size))
    have Z_wv := Lib.hid (show Wd.heap.size ≤ wv.heap.size from cv.size)
    clear cv
    have p_B0_0 := (cell_of_row wv _ 0 _ _ _ B0.out).trans (show _ = some (Value.int .i64 3) from rfl)
    have p_B0_1 := (cell_of_row wv _ 1 _ _ _ B0.out).trans (show _ = some (Value.int .i64 id) from rfl)
    have p_B0_2 := (cell_of_row wv _ 2 _ _ _ B0.out).trans (show _ = some (Value.slice va xs.length vc) from rfl)
    have p_B0_3 := (cell_of_row wv _ 3 _ _ _ B0.out).trans (show _ = some (Value.int .i64 f) from rfl)
    have p_B0_4 := (cell_of_row wv _ 4 _ _ _ B0.out).trans (show _ = some (Value.int .i64 x) from rfl)
    refine hK.out _ _ ⟨p_B0_0, p_B0_1, p_B0_2, p_B0_3, p_B0_4⟩ (fun hHeld => ?_)
    clear p_B0_0 p_B0_1 p_B0_2 p_B0_3 p_B0_4
    clear hK K
    try simp only [Act.put, List.setIfInBounds_toArray, List.set_cons_zero, List.set_cons_succ]
    refine take_runs (i := 2) (v := ?_) (by simp only [List.getElem?_toArray, List.getElem?_cons_succ, List.getElem?_cons_zero]; rfl) (by kernel_rfl) (by kernel_rfl) (by kernel_rfl) rfl (by exact fun _ _ _ h => h) (by rfl) ?_ (by assumption) ?_
    rotate_left
    · intro w hSw; (try dsimp only at hSw); go_simp; try (with_reducible rfl)
    try simp only [Act.put, List.setIfInBounds_toArray, List.set_cons_zero, List.set_cons_succ]
    refine take_runs (i := 3) (v := ?_) (by simp only [List.getElem?_toArray, List.getElem?_cons_succ, List.getElem?_cons_zero]; rfl) (by kernel_rfl) (by kernel_rfl) (by kernel_rfl) rfl (by exact fun _ _ _ h => h) (by rfl) ?_ (by assumption) ?_
    rotate_left
    · intro w hSw; (try dsimp only at hSw); go_simp; try (with_reducible rfl)
    try simp only [Act.put, List.setIfInBounds_toArray, List.set_cons_zero, List.set_cons_succ]
    refine take_over (i := 4) (by simp only [List.getElem?_toArray, List.getElem?_cons_succ, List.getElem?_cons_zero]; rfl) (by kernel_rfl) (by kernel_rfl) (by kernel_rfl) rfl (by exact fun _ _ _ h => h) (by rfl) (by assumption) ?_
    try simp only [Act.put, List.setIfInBounds_toArray, List.set_cons_zero, List.set_cons_succ]
    refine take_over (i := 5) (by simp only [List.getElem?_toArray, List.getElem?_cons_succ, List.getElem?_cons_zero]; rfl) (by kernel_rfl) (by kernel_rfl) (by kernel_rfl) rfl (by exact fun _ _ _ h => h) (by rfl) (by assumption) ?_
    try simp only [Act.put, List.setIfInBounds_toArray, List.set_cons_zero, List.set_cons_succ]
    refine take_over (i := 6) (by simp only [List.getElem?_toArray, List.getElem?_cons_succ, List.getElem?_cons_zero]; rfl) (by kernel_rfl) (by kernel_rfl) (by kernel_rfl) rfl (by exact fun _ _ _ h => h) (by rfl) (by assumption) ?_
    try simp only [Act.put, List.setIfInBounds_toArray, List.set_cons_zero, List.set_cons_succ]
    refine take_over (i := 7) (by simp only [List.getElem?_toArray, List.getElem?_cons_succ, List.getElem?_cons_zero]; rfl) (by kernel_rfl) (by kernel_rfl) (by kernel_rfl) rfl (by exact fun _ _ _ h => h) (by rfl) (by assumption) ?_
    try simp only [Act.put, List.setIfInBounds_toArray, List.set_cons_zero, List.set_cons_succ]
    refine take_over (i := 8) (by simp only [List.getElem?_toArray, List.getElem?_cons_succ, List.getElem?_cons_zero]; rfl) (by kernel_rfl) (by kernel_rfl) (by kernel_rfl) rfl (by exact fun _ _ _ h => h) (by rfl) (by assumption) ?_
    try simp only [Act.put, List.setIfInBounds_toArray, List.set_cons_zero, List.set_cons_succ]
    refine take_runs (i := 9) (v := ?_) (by simp only [List.getElem?_toArray, List.getElem?_cons_succ, List.getElem?_cons_zero]; rfl) (by kernel_rfl) (by kernel_rfl) (by kernel_rfl) rfl (by exact fun _ _ _ h => h) (by rfl) ?_ (by assumption) ?_
    rotate_left
    · intro w hSw; (try dsimp only at hSw); go_simp; try (with_reducible rfl)
    try simp only [Act.put, List.setIfInBounds_toArray, List.set_cons_zero, List.set_cons_succ]
    refine wpAnyH_done (by kernel_rfl) ?_ _
    clear hHeld
    go_wp2
    go_ret2
    exact freshC_no HN.out d.out
  rw [decide_eq_true hi] at HV
  by_cases hq : xs = []
  · obtain rfl := hq
    have HN : Hid (updB (3, (id, []), f, x) = true) := Lib.hid (upd_set ⟨rfl, hi.1, rfl, hi.2.1, hi.2.2⟩)
    rw [decide_eq_true ⟨rfl, rfl, rfl, rfl⟩] at HE
    clear hi
    simp only [List.length_nil] at *
    have na_isValid : ∀ w : World, (nilAhead (Try.prog.types.size + Made.depth) 118 (.agg #[.int .i64 id, .int .i64 f, .int .i64 x]) "loop.example/g01986/impl.isValid").run Try.prog w = .ok (some false) w := fun _ => by kernel_rfl
    have me_isValid : ∀ w : World, (method (Try.prog.types.size + Made.depth) 118 (.agg #[.int .i64 id, .int .i64 f, .int .i64 x]) "loop.example/g01986/impl.isValid").run Try.prog w = .ok (165, .agg #[.int .i64 id, .int .i64 f, .int .i64 x]) w := fun _ => by kernel_rfl
    have na_update : ∀ w : World, (nilAhead (Try.prog.types.size + Made.depth) 118 (.agg #[.int .i64 id, .int .i64 f, .int .i64 x]) "loop.example/g01986/impl.update").run Try.prog w = .ok (some false) w := fun _ => by kernel_rfl
    have me_update : ∀ w : World, (method (Try.prog.types.size + Made.depth) 118 (.agg #[.int .i64 id, .int .i64 f, .int .i64 x]) "loop.example/g01986/impl.update").run Try.prog w = .ok (166, .agg #[.int .i64 id, .int .i64 f, .int .i64 x]) w := fun _ => by kernel_rfl
    have d := Lib.hid ((Below.refl w.heap.size w).alloc (Nat.le_refl _) (.cells #[.int .i64 3, .int .i64 id, .slice va 0 vc, .int .i64 f, .int .i64 x] 31))
    have B0 : Hid ((w.alloc (.cells #[.int .i64 3, .int .i64 id, .slice va 0 vc, .int .i64 f, .int .i64 x] 31)).heap[w.heap.size]? = some (.cells #[.int .i64 3, .int .i64 id, .slice va 0 vc, .int .i64 f, .int .i64 x] 31 (0, 0))) := Lib.hid (heap_alloc_new w _)
    go_enter Try.func45, Try.ntmps45
    go_wp2
    generalize w.alloc (.cells #[.int .i64 3, .int .i64 id, .slice va 0 vc, .int .i64 f, .int .i64 x] 31) = W at *
    have p_B0_0 := (cell_of_row W _ 0 _ _ _ B0.out).trans (show _ = some (Value.int .i64 3) from rfl)
    have p_B0_1 := (cell_of_row W _ 1 _ _ _ B0.out).trans (show _ = some (Value.int .i64 id) from rfl)
    have p_B0_2 := (cell_of_row W _ 2 _ _ _ B0.out).trans (show _ = some (Value.slice va 0 vc) from rfl)
    have p_B0_3 := (cell_of_row W _ 3 _ _ _ B0.out).trans (show _ = some (Value.int .i64 f) from rfl)
    have p_B0_4 := (cell_of_row W _ 4 _ _ _ B0.out).trans (show _ = some (Value.int .i64 x) from rfl)
    refine wp_region_held_drew (S := fun w' => w'.cell? ⟨w.heap.size, 0, none⟩ = some (Value.int .i64 3) ∧ w'.cell? ⟨w.heap.size, 1, none⟩ = some (Value.int .i64 id) ∧ w'.cell? ⟨w.heap.size, 2, none⟩ = some (Value.slice va 0 vc) ∧ w'.cell? ⟨w.heap.size, 3, none⟩ = some (Value.int .i64 f) ∧ w'.cell? ⟨w.heap.size, 4, none⟩ = some (Value.int .i64 x)) (by kernel_rfl) ⟨p_B0_0, p_B0_1, p_B0_2, p_B0_3, p_B0_4⟩ (fun hHeld => ?_)
    clear p_B0_0 p_B0_1 p_B0_2 p_B0_3 p_B0_4
    have cdr : Below W.heap.size W W.drew := below_drew (Below.refl _ _)
    replace B0 := Lib.hid ((cdr.block w.heap.size (Array.getElem?_eq_some_iff.1 B0.out).1).trans B0.out)
    replace d := Lib.hid (d.out.trans (cdr.mono d.out.size))
    clear cdr
    have Z_dr := Lib.hid (show W.heap.size ≤ W.drew.heap.size from Nat.le_refl _)
    generalize W.drew = Wd at *
    refine take_runs (i := 0) (v := ?_) (by simp only [List.getElem?_toArray, List.getElem?_cons_succ, List.getElem?_cons_zero]; rfl) (by kernel_rfl) (by kernel_rfl) (by kernel_rfl) rfl (by exact fun _ _ _ h => h) (by rfl) ?_ (by assumption) ?_
    rotate_left
    · intro w hSw; (try dsimp only at hSw); go_simp; try (with_reducible rfl)
    try simp only [Act.put, List.setIfInBounds_toArray, List.set_cons_zero, List.set_cons_succ]
    refine wpAnyH_ready (rs := [1]) (by kernel_rfl) (by simp) ?_
    refine (AllReadyH.cons (o := _) (by simp only [List.getElem?_toArray, List.getElem?_cons_succ, List.getElem?_cons_zero]; rfl) (fun K hK => ?_) AllReadyH.nil)
    go_simp
    refine (HV.out Wd).mono ?_
    rintro e wv ⟨rfl, cv⟩
    replace B0 := Lib.hid ((cv.block w.heap.size (Array.getElem?_eq_some_iff.1 B0.out).1).trans B0.out)
    replace d := Lib.hid (d.out.trans (cv.mono d.out.size))
    have Z_wv := Lib.hid (show Wd.heap.size ≤ wv.heap.size from cv.size)
    clear cv
    have p_B0_0 := (cell_of_row wv _ 0 _ _ _ B0.out).trans (show _ = some (Value.int .i64 3) from rfl)
    have p_B0_1 := (cell_of_row wv _ 1 _ _ _ B0.out).trans (show _ = some (Value.int .i64 id) from rfl)
    have p_B0_2 := (cell_of_row wv _ 2 _ _ _ B0.out).trans (show _ = some (Value.slice va 0 vc) from rfl)
    have p_B0_3 := (cell_of_row wv _ 3 _ _ _ B0.out).trans (show _ = some (Value.int .i64 f) from rfl)
    have p_B0_4 := (cell_of_row wv _ 4 _ _ _ B0.out).trans (show _ = some (Value.int .i64 x) from rfl)
    refine hK.out _ _ ⟨p_B0_0, p_B0_1, p_B0_2, p_B0_3, p_B0_4⟩ (fun hHeld => ?_)
    clear p_B0_0 p_B0_1 p_B0_2 p_B0_3 p_B0_4
    clear hK K
    try simp only [Act.put, List.setIfInBounds_toArray, List.set_cons_zero, List.set_cons_succ]
    refine take_runs (i := 2) (v := ?_) (by simp only [List.getElem?_toArray, List.getElem?_cons_succ, List.getElem?_cons_zero]; rfl) (by kernel_rfl) (by kernel_rfl) (by kernel_rfl) rfl (by exact fun _ _ _ h => h) (by rfl) ?_ (by assumption) ?_
    rotate_left
    · intro w hSw; (try dsimp only at hSw); go_simp; try (with_reducible rfl)
    try simp only [Act.put, List.setIfInBounds_toArray, List.set_cons_zero, List.set_cons_succ]
    refine take_runs (i := 3) (v := ?_) (by simp only [List.getElem?_toArray, List.getElem?_cons_succ, List.getElem?_cons_zero]; rfl) (by kernel_rfl) (by kernel_rfl) (by kernel_rfl) rfl (by exact fun _ _ _ h => h) (by rfl) ?_ (by assumption) ?_
    rotate_left
    · intro w hSw; (try dsimp only at hSw); go_simp; try (with_reducible rfl)
    try simp only [Act.put, List.setIfInBounds_toArray, List.set_cons_zero, List.set_cons_succ]
    refine take_runs (i := 4) (v := ?_) (by simp only [List.getElem?_toArray, List.getElem?_cons_succ, List.getElem?_cons_zero]; rfl) (by kernel_rfl) (by kernel_rfl) (by kernel_rfl) rfl (by exact fun _ _ _ h => h) (by rfl) ?_ (by assumption) ?_
    rotate_left
    · intro w hSw; (try dsimp only at hSw); go_simp; try (with_reducible rfl)
    try simp only [Act.put, List.setIfInBounds_toArray, List.set_cons_zero, List.set_cons_succ]
    refine take_runs (i := 6) (v := ?_) (by simp only [List.getElem?_toArray, List.getElem?_cons_succ, List.getElem?_cons_zero]; rfl) (by kernel_rfl) (by kernel_rfl) (by kernel_rfl) rfl (by exact fun _ _ _ h => h) (by rfl) ?_ (by assumption) ?_
    rotate_left
    · intro w hSw; (try dsimp only at hSw); go_simp; try (with_reducible rfl)
    try simp only [Act.put, List.setIfInBounds_toArray, List.set_cons_zero, List.set_cons_succ]
    refine wpAnyH_ready (rs := [5]) (by kernel_rfl) (by simp) ?_
    refine (AllReadyH.cons (o := _) (by simp only [List.getElem?_toArray, List.getElem?_cons_succ, List.getElem?_cons_zero]; rfl) (fun K hK => ?_) AllReadyH.nil)
    go_simp
    refine (setUpdate id f x wv).mono ?_
    rintro e wu ⟨rfl, cv⟩
    replace B0 := Lib.hid ((cv.block w.heap.size (Array.getElem?_eq_some_iff.1 B0.out).1).trans B0.out)
    replace d := Lib.hid (d.out.trans (cv.mono d.out.size))
    have Z_wu := Lib.hid (show wv.heap.size ≤ wu.heap.size from cv.size)
    clear cv
    have p_B0_0 := (cell_of_row wu _ 0 _ _ _ B0.out).trans (show _ = some (Value.int .i64 3) from rfl)
    have p_B0_1 := (cell_of_row wu _ 1 _ _ _ B0.out).trans (show _ = some (Value.int .i64 id) from rfl)
    have p_B0_2 := (cell_of_row wu _ 2 _ _ _ B0.out).trans (show _ = some (Value.slice va 0 vc) from rfl)
    have p_B0_3 := (cell_of_row wu _ 3 _ _ _ B0.out).trans (show _ = some (Value.int .i64 f) from rfl)
    have p_B0_4 := (cell_of_row wu _ 4 _ _ _ B0.out).trans (show _ = some (Value.int .i64 x) from rfl)
    refine hK.out _ _ ⟨p_B0_0, p_B0_1, p_B0_2, p_B0_3, p_B0_4⟩ (fun hHeld => ?_)
    clear p_B0_0 p_B0_1 p_B0_2 p_B0_3 p_B0_4
    clear hK K
    try simp only [Act.put, List.setIfInBounds_toArray, List.set_cons_zero, List.set_cons_succ]
    refine wpAnyH_ready (rs := [7]) (by kernel_rfl) (by simp) ?_
    refine (AllReadyH.cons (o := _) (by simp only [List.getElem?_toArray, List.getElem?_cons_succ, List.getElem?_cons_zero]; rfl) (fun K hK => ?_) AllReadyH.nil)
    go_simp
    refine (HE.out wu (ints_below H.out d.out)).mono ?_
    rintro e we ⟨rfl, cv⟩
    replace B0 := Lib.hid ((cv.block w.heap.size (Array.getElem?_eq_some_iff.1 B0.out).1).trans B0.out)
    replace d := Lib.hid (d.out.trans (cv.mono d.out.size))
    have Z_we := Lib.hid (show wu.heap.size ≤ we.heap.size from cv.size)
    clear cv
    have p_B0_0 := (cell_of_row we _ 0 _ _ _ B0.out).trans (show _ = some (Value.int .i64 3) from rfl)
    have p_B0_1 := (cell_of_row we _ 1 _ _ _ B0.out).trans (show _ = some (Value.int .i64 id) from rfl)
    have p_B0_2 := (cell_of_row we _ 2 _ _ _ B0.out).trans (show _ = some (Value.slice va 0 vc) from rfl)
    have p_B0_3 := (cell_of_row we _ 3 _ _ _ B0.out).trans (show _ = some (Value.int .i64 f) from rfl)
    have p_B0_4 := (cell_of_row we _ 4 _ _ _ B0.out).trans (show _ = some (Value.int .i64 x) from rfl)
    refine hK.out _ _ ⟨p_B0_0, p_B0_1, p_B0_2, p_B0_3, p_B0_4⟩ (fun hHeld => ?_)
    clear p_B0_0 p_B0_1 p_B0_2 p_B0_3 p_B0_4
    clear hK K
    try simp only [Act.put, List.setIfInBounds_toArray, List.set_cons_zero, List.set_cons_succ]
    refine take_runs (i := 8) (v := ?_) (by simp only [List.getElem?_toArray, List.getElem?_cons_succ, List.getElem?_cons_zero]; rfl) (by kernel_rfl) (by kernel_rfl) (by kernel_rfl) rfl (by exact fun _ _ _ h => h) (by rfl) ?_ (by assumption) ?_
    rotate_left
    · intro w hSw; (try dsimp only at hSw); go_simp; try (with_reducible rfl)
    try simp only [Act.put, List.setIfInBounds_toArray, List.set_cons_zero, List.set_cons_succ]
    refine take_runs (i := 9) (v := ?_) (by simp only [List.getElem?_toArray, List.getElem?_cons_succ, List.getElem?_cons_zero]; rfl) (by kernel_rfl) (by kernel_rfl) (by kernel_rfl) rfl (by exact fun _ _ _ h => h) (by rfl) ?_ (by assumption) ?_
    rotate_left
    · intro w hSw; (try dsimp only at hSw); go_simp; try (with_reducible rfl)
    try simp only [Act.put, List.setIfInBounds_toArray, List.set_cons_zero, List.set_cons_succ]
    refine wpAnyH_done (by kernel_rfl) ?_ _
    clear hHeld
    go_wp2
    go_ret2
    exact freshC_yes HN.out rfl d.out
  · have HN : Hid (updB (3, (id, xs), f, x) = false) := Lib.hid (upd_no (by unfold insP; simp only; omega) (by unfold delP; simp only; omega) (fun g => hq (List.eq_nil_of_length_eq_zero g.2.2.1)))
    rw [decide_eq_false (fun g => hq (Prod.mk.inj g.2.1).2.symm)] at HE
    clear hi hq
    have na_isValid : ∀ w : World, (nilAhead (Try.prog.types.size + Made.depth) 118 (.agg #[.int .i64 id, .int .i64 f, .int .i64 x]) "loop.example/g01986/impl.isValid").run Try.prog w = .ok (some false) w := fun _ => by kernel_rfl
    have me_isValid : ∀ w : World, (method (Try.prog.types.size + Made.depth) 118 (.agg #[.int .i64 id, .int .i64 f, .int .i64 x]) "loop.example/g01986/impl.isValid").run Try.prog w = .ok (165, .agg #[.int .i64 id, .int .i64 f, .int .i64 x]) w := fun _ => by kernel_rfl
    have na_update : ∀ w : World, (nilAhead (Try.prog.types.size + Made.depth) 118 (.agg #[.int .i64 id, .int .i64 f, .int .i64 x]) "loop.example/g01986/impl.update").run Try.prog w = .ok (some false) w := fun _ => by kernel_rfl
    have me_update : ∀ w : World, (method (Try.prog.types.size + Made.depth) 118 (.agg #[.int .i64 id, .int .i64 f, .int .i64 x]) "loop.example/g01986/impl.update").run Try.prog w = .ok (166, .agg #[.int .i64 id, .int .i64 f, .int .i64 x]) w := fun _ => by kernel_rfl
    have d := Lib.hid ((Below.refl w.heap.size w).alloc (Nat.le_refl _) (.cells #[.int .i64 3, .int .i64 id, .slice va xs.length vc, .int .i64 f, .int .i64 x] 31))
    have B0 : Hid ((w.alloc (.cells #[.int .i64 3, .int .i64 id, .slice va xs.length vc, .int .i64 f, .int .i64 x] 31)).heap[w.heap.size]? = some (.cells #[.int .i64 3, .int .i64 id, .slice va xs.length vc, .int .i64 f, .int .i64 x] 31 (0, 0))) := Lib.hid (heap_alloc_new w _)
    go_enter Try.func45, Try.ntmps45
    go_wp2
    generalize w.alloc (.cells #[.int .i64 3, .int .i64 id, .slice va xs.length vc, .int .i64 f, .int .i64 x] 31) = W at *
    have p_B0_0 := (cell_of_row W _ 0 _ _ _ B0.out).trans (show _ = some (Value.int .i64 3) from rfl)
    have p_B0_1 := (cell_of_row W _ 1 _ _ _ B0.out).trans (show _ = some (Value.int .i64 id) from rfl)
    have p_B0_2 := (cell_of_row W _ 2 _ _ _ B0.out).trans (show _ = some (Value.slice va xs.length vc) from rfl)
    have p_B0_3 := (cell_of_row W _ 3 _ _ _ B0.out).trans (show _ = some (Value.int .i64 f) from rfl)
    have p_B0_4 := (cell_of_row W _ 4 _ _ _ B0.out).trans (show _ = some (Value.int .i64 x) from rfl)
    refine wp_region_held_drew (S := fun w' => w'.cell? ⟨w.heap.size, 0, none⟩ = some (Value.int .i64 3) ∧ w'.cell? ⟨w.heap.size, 1, none⟩ = some (Value.int .i64 id) ∧ w'.cell? ⟨w.heap.size, 2, none⟩ = some (Value.slice va xs.length vc) ∧ w'.cell? ⟨w.heap.size, 3, none⟩ = some (Value.int .i64 f) ∧ w'.cell? ⟨w.heap.size, 4, none⟩ = some (Value.int .i64 x)) (by kernel_rfl) ⟨p_B0_0, p_B0_1, p_B0_2, p_B0_3, p_B0_4⟩ (fun hHeld => ?_)
    clear p_B0_0 p_B0_1 p_B0_2 p_B0_3 p_B0_4
    have cdr : Below W.heap.size W W.drew := below_drew (Below.refl _ _)
    replace B0 := Lib.hid ((cdr.block w.heap.size (Array.getElem?_eq_some_iff.1 B0.out).1).trans B0.out)
    replace d := Lib.hid (d.out.trans (cdr.mono d.out.size))
    clear cdr
    have Z_dr := Lib.hid (show W.heap.size ≤ W.drew.heap.size from Nat.le_refl _)
    generalize W.drew = Wd at *
    refine take_runs (i := 0) (v := ?_) (by simp only [List.getElem?_toArray, List.getElem?_cons_succ, List.getElem?_cons_zero]; rfl) (by kernel_rfl) (by kernel_rfl) (by kernel_rfl) rfl (by exact fun _ _ _ h => h) (by rfl) ?_ (by assumption) ?_
    rotate_left
    · intro w hSw; (try dsimp only at hSw); go_simp; try (with_reducible rfl)
    try simp only [Act.put, List.setIfInBounds_toArray, List.set_cons_zero, List.set_cons_succ]
    refine wpAnyH_ready (rs := [1]) (by kernel_rfl) (by simp) ?_
    refine (AllReadyH.cons (o := _) (by simp only [List.getElem?_toArray, List.getElem?_cons_succ, List.getElem?_cons_zero]; rfl) (fun K hK => ?_) AllReadyH.nil)
    go_simp
    refine (HV.out Wd).mono ?_
    rintro e wv ⟨rfl, cv⟩
    replace B0 := Lib.hid ((cv.block w.heap.size (Array.getElem?_eq_some_iff.1 B0.out).1).trans B0.out)
    replace d := Lib.hid (d.out.trans (cv.mono d.out.size))
    have Z_wv := Lib.hid (show Wd.heap.size ≤ wv.heap.size from cv.size)
    clear cv
    have p_B0_0 := (cell_of_row wv _ 0 _ _ _ B0.out).trans (show _ = some (Value.int .i64 3) from rfl)
    have p_B0_1 := (cell_of_row wv _ 1 _ _ _ B0.out).trans (show _ = some (Value.int .i64 id) from rfl)
    have p_B0_2 := (cell_of_row wv _ 2 _ _ _ B0.out).trans (show _ = some (Value.slice va xs.length vc) from rfl)
    have p_B0_3 := (cell_of_row wv _ 3 _ _ _ B0.out).trans (show _ = some (Value.int .i64 f) from rfl)
    have p_B0_4 := (cell_of_row wv _ 4 _ _ _ B0.out).trans (show _ = some (Value.int .i64 x) from rfl)
    refine hK.out _ _ ⟨p_B0_0, p_B0_1, p_B0_2, p_B0_3, p_B0_4⟩ (fun hHeld => ?_)
    clear p_B0_0 p_B0_1 p_B0_2 p_B0_3 p_B0_4
    clear hK K
    try simp only [Act.put, List.setIfInBounds_toArray, List.set_cons_zero, List.set_cons_succ]
    refine take_runs (i := 2) (v := ?_) (by simp only [List.getElem?_toArray, List.getElem?_cons_succ, List.getElem?_cons_zero]; rfl) (by kernel_rfl) (by kernel_rfl) (by kernel_rfl) rfl (by exact fun _ _ _ h => h) (by rfl) ?_ (by assumption) ?_
    rotate_left
    · intro w hSw; (try dsimp only at hSw); go_simp; try (with_reducible rfl)
    try simp only [Act.put, List.setIfInBounds_toArray, List.set_cons_zero, List.set_cons_succ]
    refine take_runs (i := 3) (v := ?_) (by simp only [List.getElem?_toArray, List.getElem?_cons_succ, List.getElem?_cons_zero]; rfl) (by kernel_rfl) (by kernel_rfl) (by kernel_rfl) rfl (by exact fun _ _ _ h => h) (by rfl) ?_ (by assumption) ?_
    rotate_left
    · intro w hSw; (try dsimp only at hSw); go_simp; try (with_reducible rfl)
    try simp only [Act.put, List.setIfInBounds_toArray, List.set_cons_zero, List.set_cons_succ]
    refine take_runs (i := 4) (v := ?_) (by simp only [List.getElem?_toArray, List.getElem?_cons_succ, List.getElem?_cons_zero]; rfl) (by kernel_rfl) (by kernel_rfl) (by kernel_rfl) rfl (by exact fun _ _ _ h => h) (by rfl) ?_ (by assumption) ?_
    rotate_left
    · intro w hSw; (try dsimp only at hSw); go_simp; try (with_reducible rfl)
    try simp only [Act.put, List.setIfInBounds_toArray, List.set_cons_zero, List.set_cons_succ]
    refine take_runs (i := 6) (v := ?_) (by simp only [List.getElem?_toArray, List.getElem?_cons_succ, List.getElem?_cons_zero]; rfl) (by kernel_rfl) (by kernel_rfl) (by kernel_rfl) rfl (by exact fun _ _ _ h => h) (by rfl) ?_ (by assumption) ?_
    rotate_left
    · intro w hSw; (try dsimp only at hSw); go_simp; try (with_reducible rfl)
    try simp only [Act.put, List.setIfInBounds_toArray, List.set_cons_zero, List.set_cons_succ]
    refine wpAnyH_ready (rs := [5]) (by kernel_rfl) (by simp) ?_
    refine (AllReadyH.cons (o := _) (by simp only [List.getElem?_toArray, List.getElem?_cons_succ, List.getElem?_cons_zero]; rfl) (fun K hK => ?_) AllReadyH.nil)
    go_simp
    refine (setUpdate id f x wv).mono ?_
    rintro e wu ⟨rfl, cv⟩
    replace B0 := Lib.hid ((cv.block w.heap.size (Array.getElem?_eq_some_iff.1 B0.out).1).trans B0.out)
    replace d := Lib.hid (d.out.trans (cv.mono d.out.size))
    have Z_wu := Lib.hid (show wv.heap.size ≤ wu.heap.size from cv.size)
    clear cv
    have p_B0_0 := (cell_of_row wu _ 0 _ _ _ B0.out).trans (show _ = some (Value.int .i64 3) from rfl)
    have p_B0_1 := (cell_of_row wu _ 1 _ _ _ B0.out).trans (show _ = some (Value.int .i64 id) from rfl)
    have p_B0_2 := (cell_of_row wu _ 2 _ _ _ B0.out).trans (show _ = some (Value.slice va xs.length vc) from rfl)
    have p_B0_3 := (cell_of_row wu _ 3 _ _ _ B0.out).trans (show _ = some (Value.int .i64 f) from rfl)
    have p_B0_4 := (cell_of_row wu _ 4 _ _ _ B0.out).trans (show _ = some (Value.int .i64 x) from rfl)
    refine hK.out _ _ ⟨p_B0_0, p_B0_1, p_B0_2, p_B0_3, p_B0_4⟩ (fun hHeld => ?_)
    clear p_B0_0 p_B0_1 p_B0_2 p_B0_3 p_B0_4
    clear hK K
    try simp only [Act.put, List.setIfInBounds_toArray, List.set_cons_zero, List.set_cons_succ]
    refine wpAnyH_ready (rs := [7]) (by kernel_rfl) (by simp) ?_
    refine (AllReadyH.cons (o := _) (by simp only [List.getElem?_toArray, List.getElem?_cons_succ, List.getElem?_cons_zero]; rfl) (fun K hK => ?_) AllReadyH.nil)
    go_simp
    refine (HE.out wu (ints_below H.out d.out)).mono ?_
    rintro e we ⟨rfl, cv⟩
    replace B0 := Lib.hid ((cv.block w.heap.size (Array.getElem?_eq_some_iff.1 B0.out).1).trans B0.out)
    replace d := Lib.hid (d.out.trans (cv.mono d.out.size))
    have Z_we := Lib.hid (show wu.heap.size ≤ we.heap.size from cv.size)
    clear cv
    have p_B0_0 := (cell_of_row we _ 0 _ _ _ B0.out).trans (show _ = some (Value.int .i64 3) from rfl)
    have p_B0_1 := (cell_of_row we _ 1 _ _ _ B0.out).trans (show _ = some (Value.int .i64 id) from rfl)
    have p_B0_2 := (cell_of_row we _ 2 _ _ _ B0.out).trans (show _ = some (Value.slice va xs.length vc) from rfl)
    have p_B0_3 := (cell_of_row we _ 3 _ _ _ B0.out).trans (show _ = some (Value.int .i64 f) from rfl)
    have p_B0_4 := (cell_of_row we _ 4 _ _ _ B0.out).trans (show _ = some (Value.int .i64 x) from rfl)
    refine hK.out _ _ ⟨p_B0_0, p_B0_1, p_B0_2, p_B0_3, p_B0_4⟩ (fun hHeld => ?_)
    clear p_B0_0 p_B0_1 p_B0_2 p_B0_3 p_B0_4
    clear hK K
    try simp only [Act.put, List.setIfInBounds_toArray, List.set_cons_zero, List.set_cons_succ]
    refine take_runs (i := 8) (v := ?_) (by simp only [List.getElem?_toArray, List.getElem?_cons_succ, List.getElem?_cons_zero]; rfl) (by kernel_rfl) (by kernel_rfl) (by kernel_rfl) rfl (by exact fun _ _ _ h => h) (by rfl) ?_ (by assumption) ?_
    rotate_left
    · intro w hSw; (try dsimp only at hSw); go_simp; try (with_reducible rfl)
    try simp only [Act.put, List.setIfInBounds_toArray, List.set_cons_zero, List.set_cons_succ]
    refine take_runs (i := 9) (v := ?_) (by simp only [List.getElem?_toArray, List.getElem?_cons_succ, List.getElem?_cons_zero]; rfl) (by kernel_rfl) (by kernel_rfl) (by kernel_rfl) rfl (by exact fun _ _ _ h => h) (by rfl) ?_ (by assumption) ?_
    rotate_left
    · intro w hSw; (try dsimp only at hSw); go_simp; try (with_reducible rfl)
    try simp only [Act.put, List.setIfInBounds_toArray, List.set_cons_zero, List.set_cons_succ]
    refine wpAnyH_done (by kernel_rfl) ?_ _
    clear hHeld
    go_wp2
    go_ret2
    exact freshC_no HN.out d.out
set_option maxHeartbeats 16000000 in
set_option maxRecDepth 100000 in
theorem changeOf_none (k id f x : Int) (vv : Value) (xs : List Int) (w : World) (h : Ints w vv xs) (hk : ¬ k = 1 ∧ ¬ k = 2 ∧ ¬ k = 3) :
    Calls Try.prog 45 #[.agg #[.int .i64 k, .int .i64 id, vv, .int .i64 f, .int .i64 x]] w (FreshC w (k, (id, xs), f, x) vv) := by
  obtain ⟨va, vc, rfl⟩ := ints_len h
  have HN : Hid (updB (k, (id, xs), f, x) = false) := Lib.hid (upd_no (by unfold insP; simp only; omega) (by unfold delP; simp only; omega) (by unfold setP; simp only; omega))
  have e1 : (k == 1) = false := by simp [hk.1]
  have e2 : (k == 2) = false := by simp [hk.2.1]
  have e3 : (k == 3) = false := by simp [hk.2.2]
  clear hk h
  go_enter Try.func45, Try.ntmps45
  go_wp2
  go_ret2
  exact freshC_no HN.out ((Below.refl _ _).alloc (Nat.le_refl _) _)
theorem changeOf_any (k id f x : Int) (vv : Value) (xs : List Int) (w : World) (h : Ints w vv xs) (hn : xs.length ≤ 1048576) :
    Calls Try.prog 45 #[.agg #[.int .i64 k, .int .i64 id, vv, .int .i64 f, .int .i64 x]] w (FreshC w (k, (id, xs), f, x) vv) := by
  by_cases h1 : k = 1
  · subst h1; exact changeOf_ins id f x vv xs w h hn
  · by_cases h2 : k = 2
    · subst h2; exact changeOf_del id f x vv xs w h hn
    · by_cases h3 : k = 3
      · subst h3; exact changeOf_set id f x vv xs w h hn
      · exact changeOf_none k id f x vv xs w h ⟨h1, h2, h3⟩
set_option maxHeartbeats 16000000 in
set_option maxRecDepth 100000 in
theorem implIsUpdate (k id f x : Int) (vv : Value) (xs : List Int) (w : World) (h : Ints w vv xs) (hn : xs.length ≤ 1048576) :
    Calls Try.prog 12 #[.agg #[.int .i64 k, .int .i64 id, vv, .int .i64 f, .int .i64 x]] w fun e w' => e = .returned (.bool (updB (k, (id, xs), f, x))) ∧ Below w.heap.size w w' := by
  obtain ⟨va, vc, rfl⟩ := ints_len h
  have hal : Below w.heap.size w (w.alloc (.cells #[.int .i64 k, .int .i64 id, .slice va xs.length vc, .int .i64 f, .int .i64 x] 31)) := (Below.refl _ _).alloc (Nat.le_refl _) _
  have HC := Lib.hid (changeOf_any k id f x (.slice va xs.length vc) xs (w.alloc (.cells #[.int .i64 k, .int .i64 id, .slice va xs.length vc, .int .i64 f, .int .i64 x] 31)) (ints_below h hal) hn)
  clear h hn
  go_enter Try.func12, Try.ntmps12
  go_wp2_with fail
  refine HC.out.mono ?_
  rintro e w1 ⟨rfl, b1⟩
  have D := Lib.hid (hal.trans (b1.mono hal.size))
  obtain ⟨r, hr⟩ : ∃ r, r = updB (k, (id, xs), f, x) := ⟨_, rfl⟩
  have HRR := Lib.hid hr
  rw [← hr]
  clear b1 hal HC hr
  generalize (if r = true then changeV (k, (id, xs), f, x) (.slice va xs.length vc) else Value.nilIface) = cv at *
  go_wp2
  go_ret
  exact ⟨ret_b HRR.out, D.out⟩
end Go.Proofs.Ythiiaiholcfhhaa
