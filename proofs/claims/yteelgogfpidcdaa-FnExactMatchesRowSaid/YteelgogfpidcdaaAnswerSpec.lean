/-
  The walk of the specification's AnswerAlone.
-/
import Derived.Test.YteelgogfpidcdaaMatchSpec
import Derived.Test.YteelgogfpidcdaaRowSort
namespace Go.Proofs.Yteelgogfpidcdaa
open Go.RowKit
set_option linter.unusedVariables false
set_option linter.unusedSimpArgs false
def answerL (m : RowD → Bool) (rs : List RowD) : List RowD := sortL (rs.filter m)
/-- A row in new memory is appended to a slice of rows that the call made. -/
theorem append_owns {w1 w2 w3 : World} {B D : Nat} {v v' vv : Value} {rs : List RowD} {vs : Nat → Value} {cs : List Value} {r : RowD}
    (h1 : w1.ownsRow B 51 2 v rs.length cs)
    (h2 : ∀ j, j < rs.length → cs[j * 2]? = some (.int .i64 (rs.getD j (0, [])).1) ∧ cs[j * 2 + 1]? = some (vs j) ∧ OwnsN w1 B (vs j) (rs.getD j (0, [])).2 ∧ ∀ b, (vs j).ownBlock = some b → v.ownBlock ≠ some b)
    (h3 : ∀ i j, i < rs.length → j < rs.length → i ≠ j → ∀ b, (vs i).ownBlock = some b → (vs j).ownBlock ≠ some b)
    (hlow : ∀ j, j < rs.length → ∀ b, (vs j).ownBlock = some b → b < D) (hvlow : ∀ b, v.ownBlock = some b → b < D) (hBD : B ≤ D) (hv : OwnsN w1 D vv r.2)
    (h12 : Below w1.heap.size w1 w2) (hg : w2.grownBy w3 v.ownBlock) (hx : RowsC w3 B v' (rs.length + 1) (cs ++ [.int .i64 r.1, vv])) (hat : v'.ownBlock = v.ownBlock ∨ v'.ownBlock = some w2.heap.size) : OwnsR w3 B v' (rs ++ [r]) := by
  have hcl : cs.length = rs.length * 2 := h1.1
  have hlen : (rs ++ [r]).length = rs.length + 1 := by simp
  have old : ∀ j, j < rs.length → OwnsN w3 B (vs j) (rs.getD j (0, [])).2 := fun j hj => by
    refine World.ownsRow.kept (ownsN_below (h2 j hj).2.2.1 h12) hg ?_
    cases e : (vs j).ownBlock with
    | none => exact Or.inl rfl
    | some b => exact Or.inr (fun q => (h2 j hj).2.2.2 b e q.symm)
  have new : OwnsN w3 D vv r.2 := by
    refine World.ownsRow.kept (ownsN_below hv h12) hg ?_
    cases e : vv.ownBlock with
    | none => exact Or.inl rfl
    | some b => exact Or.inr (fun q => by have := hvlow b q.symm; have := (hv.lt b e).1; omega)
  have lt1 : ∀ j, j < rs.length → ∀ b, (vs j).ownBlock = some b → b < w2.heap.size := fun j hj b e => Nat.lt_of_lt_of_le ((h2 j hj).2.2.1.lt b e).2 h12.size
  have lt2 : ∀ b, vv.ownBlock = some b → b < w2.heap.size := fun b e => Nat.lt_of_lt_of_le (hv.lt b e).2 h12.size
  have get_old : ∀ j, j < rs.length → (rs ++ [r]).getD j (0, []) = rs.getD j (0, []) := fun j hj => by simp [List.getD, List.getElem?_append_left hj]
  have get_new : (rs ++ [r]).getD rs.length (0, []) = r := by simp [List.getD]
  refine ⟨cs ++ [.int .i64 r.1, vv], fun j => if j < rs.length then vs j else vv, by rw [hlen]; exact hx, fun j hj => ?_, fun i j hi hj hij b hb => ?_⟩
  · rw [hlen] at hj
    by_cases c : j < rs.length
    · simp only [if_pos c]
      obtain ⟨g1, g2, _, g4⟩ := h2 j c
      rw [get_old j c, List.getElem?_append_left (by omega), List.getElem?_append_left (by omega)]
      refine ⟨g1, g2, old j c, fun b e q => ?_⟩
      rcases hat with h | h
      · rw [h] at q; exact g4 b e q
      · rw [h] at q; have := lt1 j c b e; have := Option.some.inj q; omega
    · obtain rfl : j = rs.length := by omega
      simp only [if_neg c]
      rw [get_new, List.getElem?_append_right (by omega), List.getElem?_append_right (by omega), show rs.length * 2 - cs.length = 0 by omega, show rs.length * 2 + 1 - cs.length = 1 by omega]
      refine ⟨rfl, rfl, ownsN_up new hBD, fun b e q => ?_⟩
      rcases hat with h | h
      · rw [h] at q; have := hvlow b q; have := (hv.lt b e).1; omega
      · rw [h] at q; have := lt2 b e; have := Option.some.inj q; omega
  · rw [hlen] at hi hj
    by_cases ci : i < rs.length
    · by_cases cj : j < rs.length
      · simp only [if_pos ci, if_pos cj] at hb ⊢
        exact h3 i j ci cj hij b hb
      · simp only [if_pos ci, if_neg cj] at hb ⊢
        intro q
        have := hlow i ci b hb
        have := (hv.lt b q).1
        omega
    · have cj : j < rs.length := by omega
      simp only [if_neg ci, if_pos cj] at hb ⊢
      intro q
      have := hlow j cj b q
      have := (hv.lt b hb).1
      omega
theorem szL_filter (m : RowD → Bool) : ∀ rs : List RowD, szL (rs.filter m) ≤ szL rs
  | [] => Nat.le_refl _
  | r :: rs => by
    have ih := szL_filter m rs
    have e : ∀ (a : RowD) (l : List RowD), szL (a :: l) = szL l + 1 + a.2.length := fun a l => by
      unfold szL szTo
      rw [List.take_length, List.take_length]
      simp only [List.map_cons, List.sum_cons, List.length_cons]
      omega
    rw [List.filter_cons]
    split
    · rw [e, e]; omega
    · rw [e]; omega
theorem filter_yes {m : RowD → Bool} {rs : List RowD} {k : Nat} (hk : k < rs.length) (h : m (rs.getD k (0, [])) = true) : (rs.take k).filter m ++ [rs.getD k (0, [])] = (rs.take (k + 1)).filter m := by
  rw [List.take_succ_eq_append_getElem hk, List.filter_append]
  have e : rs.getD k (0, []) = rs[k] := by simp [List.getD, hk]
  rw [e] at h ⊢
  simp [List.filter_cons, h]
theorem filter_no {m : RowD → Bool} {rs : List RowD} {k : Nat} (hk : k < rs.length) (h : m (rs.getD k (0, [])) = false) : (rs.take k).filter m = (rs.take (k + 1)).filter m := by
  rw [List.take_succ_eq_append_getElem hk, List.filter_append]
  have e : rs.getD k (0, []) = rs[k] := by simp [List.getD, hk]
  rw [e] at h
  simp [List.filter_cons, h]
set_option maxHeartbeats 16000000 in
set_option maxRecDepth 100000 in
theorem specAnswer (id tn : Int) (cv ov v : Value) (cs : List CondD) (os : List Int) (rs : List RowD) (w : World) (h : CondsR w cv cs) (hn : cs.length ≤ 1048576) (g : Ints w ov os) (hm : os.length ≤ 1048576) (gr : RowsR w v rs) (hs : szL rs ≤ 1048576) :
    Calls Try.prog 37 #[qV id tn cv ov, v] w (FreshRows w (answerL (matchB id tn cs os) rs)) := by
  obtain ⟨ca, ccap, rfl⟩ := condsR_len h
  obtain ⟨oa, ocap, rfl⟩ := ints_len g
  have HLEN := Lib.hid (szL_len hs)
  obtain ⟨ra, rcap, rfl⟩ := rowsR_len gr
  have hb0 : Below w.heap.size w (w.alloc (.cells #[.int .i64 id, .int .i64 tn, .slice ca cs.length ccap, .slice oa os.length ocap] 36)) := (Below.refl _ w).alloc (Nat.le_refl _) _
  have HG0 := Lib.hid (heap_alloc_new w (.cells #[.int .i64 id, .int .i64 tn, .slice ca cs.length ccap, .slice oa os.length ocap] 36))
  have HZ : Hid (w.heap.size < (w.alloc (.cells #[.int .i64 id, .int .i64 tn, .slice ca cs.length ccap, .slice oa os.length ocap] 36)).heap.size) := Lib.hid (by simp)
  have HS1 : Hid ((w.alloc (.cells #[.int .i64 id, .int .i64 tn, .slice ca cs.length ccap, .slice oa os.length ocap] 36)).heap.size = w.heap.size + 1) := Lib.hid (by simp)
  have HB0 := Lib.hid hb0
  have HC := Lib.hid (condsR_below h hb0)
  have HO := Lib.hid (ints_below g hb0)
  have HRW := Lib.hid (rowsR_below gr hb0)
  have HSZ := Lib.hid hs
  have HMT := Lib.hid (fun rid vv xs w h g gr hx => specMatchesRow id tn rid (.slice ca cs.length ccap) (.slice oa os.length ocap) vv cs os xs w h hn g hm gr hx)
  clear h g hm gr hb0 hs
  obtain ⟨m, hmm⟩ : ∃ m, matchB id tn cs os = m := ⟨_, rfl⟩
  rw [hmm] at HMT ⊢
  clear hmm
  go_enter Try.func37, Try.ntmps37
  go_wp2
  generalize w.alloc (.cells #[.int .i64 id, .int .i64 tn, .slice ca cs.length ccap, .slice oa os.length ocap] 36) = W at *
  have hl0 : Below W.heap.size W (W.alloc (.cells #[] 51)) := (Below.refl _ _).alloc (Nat.le_refl _) _
  have ol0 : OwnsR (W.alloc (.cells #[] 51)) W.heap.size (.slice (some ⟨w.heap.size + 1, 0, none⟩) 0 0) [] := by
    have e2 : (Value.slice (some ⟨w.heap.size + 1, 0, none⟩) 0 0) = (Value.slice (some ⟨W.heap.size, 0, none⟩) 0 0) := by rw [HS1.out]
    rw [e2]; exact ownsR_empty W
  go_loopw [5, 6] (fun v i wr => ∃ k : Nat, k ≤ rs.length ∧ i = .int .i64 k ∧ OwnsR wr W.heap.size v ((rs.take k).filter m) ∧ Below W.heap.size W wr) (fun _ i _ => rs.length - (intOf i).toNat)
  case atStart => exact ⟨0, Nat.zero_le _, rfl, by rw [List.take_zero]; exact ol0, hl0⟩
  case round =>
    obtain ⟨k, hk, rfl, hown, hbel⟩ := hrel
    clear hl0 ol0
    have kq := (hbel.block w.heap.size HZ.out).trans HG0.out
    by_cases hlt : k < rs.length
    · obtain ⟨b, off, cap2, vv, hv, hbl, hc1, hc2, hI⟩ := rowsR_at (rowsR_below HRW.out hbel) hlt
      simp only [Value.slice.injEq] at hv
      obtain ⟨rfl, _, rfl⟩ := hv
      obtain ⟨va, vcap, rfl⟩ := ints_len hI
      have hxl := szL_row HSZ.out hlt
      have i1 : (0 : Int) ≤ (k : Int) := by omega
      have i2 : (k : Int) < (rs.length : Int) := by omega
      have i5 : k ≤ 1048576 := by have := HLEN.out; omega
      have HY := Lib.hid (filter_yes (m := m) hlt)
      have HN := Lib.hid (filter_no (m := m) hlt)
      have HFL : Hid (((rs.take k).filter m).length ≤ 1048576) := Lib.hid (by have := List.length_filter_le m (rs.take k); rw [List.length_take] at this; have := HLEN.out; omega)
      have HM := Lib.hid (fun w h g gr => HMT.out (rs.getD k (0, [])).1 (.slice va (rs.getD k (0, [])).2.length vcap) (rs.getD k (0, [])).2 w h g gr hxl)
      have er : (((rs.getD k (0, [])).1, (rs.getD k (0, [])).2) : RowD) = rs.getD k (0, []) := rfl
      rw [er] at HM
      clear er
      have HCPY := Lib.hid (fun w h => l3Copy_any (rs.getD k (0, [])).1 (.slice va (rs.getD k (0, [])).2.length vcap) (rs.getD k (0, [])).2 w h hxl)
      have HOW := Lib.hid hown
      have HBL := Lib.hid hbel
      have HII := Lib.hid hI
      clear hown hbel hI hxl
      have p0 := (cell_of_row wr _ 0 _ _ _ kq).trans (show _ = some (Value.int .i64 id) from rfl)
      have p1 := (cell_of_row wr _ 1 _ _ _ kq).trans (show _ = some (Value.int .i64 tn) from rfl)
      have p2 := (cell_of_row wr _ 2 _ _ _ kq).trans (show _ = some (Value.slice ca cs.length ccap) from rfl)
      have p3 := (cell_of_row wr _ 3 _ _ _ kq).trans (show _ = some (Value.slice oa os.length ocap) from rfl)
      have HKQ := Lib.hid kq
      clear kq
      generalize (rs.take k).filter m = ac at *
      generalize rs.getD k (0, []) = r at *
      obtain ⟨rid, xs⟩ := r
      simp only at hc1 hc2 HM HCPY HII
      cases hmr : m (rid, xs) with
      | false =>
        rw [hmr] at HM
        have hfn := HN.out hmr
        clear HY HN
        go_wp2
        refine wp_region_held_drew (S := fun w' => w'.cell? ⟨w.heap.size, 0, none⟩ = some (.int .i64 id) ∧ w'.cell? ⟨w.heap.size, 1, none⟩ = some (.int .i64 tn) ∧ w'.cell? ⟨w.heap.size, 2, none⟩ = some (.slice ca cs.length ccap) ∧ w'.cell? ⟨w.heap.size, 3, none⟩ = some (.slice oa os.length ocap) ∧ w'.cell? ⟨b, off + k * 2, none⟩ = some (.int .i64 rid) ∧ w'.cell? ⟨b, off + k * 2 + 1, none⟩ = some (.slice va xs.length vcap)) (by kernel_rfl) ⟨p0, p1, p2, p3, hc1, hc2⟩ (fun hHeld => ?_)
        refine take_runs (i := 0) (v := ?_) (by simp only [List.getElem?_toArray, List.getElem?_cons_succ, List.getElem?_cons_zero]; rfl) (by kernel_rfl) (by kernel_rfl) (by kernel_rfl) rfl (by exact fun _ _ _ h => h) (by rfl) ?_ (by assumption) ?_
        rotate_left
        · intro w hSw; (try dsimp only at hSw); go_simp; try (with_reducible rfl)
        try simp only [Act.put, List.setIfInBounds_toArray, List.set_cons_zero, List.set_cons_succ]
        refine take_runs (i := 1) (v := ?_) (by simp only [List.getElem?_toArray, List.getElem?_cons_succ, List.getElem?_cons_zero]; rfl) (by kernel_rfl) (by kernel_rfl) (by kernel_rfl) rfl (by exact fun _ _ _ h => h) (by rfl) ?_ (by assumption) ?_
        rotate_left
        · intro w hSw; (try dsimp only at hSw); go_simp; try (with_reducible rfl)
        try simp only [Act.put, List.setIfInBounds_toArray, List.set_cons_zero, List.set_cons_succ]
        refine take_runs (i := 2) (v := ?_) (by simp only [List.getElem?_toArray, List.getElem?_cons_succ, List.getElem?_cons_zero]; rfl) (by kernel_rfl) (by kernel_rfl) (by kernel_rfl) rfl (by exact fun _ _ _ h => h) (by rfl) ?_ (by assumption) ?_
        rotate_left
        · intro w hSw; (try dsimp only at hSw); go_simp; try (with_reducible rfl)
        try simp only [Act.put, List.setIfInBounds_toArray, List.set_cons_zero, List.set_cons_succ]
        refine take_runs (i := 3) (v := ?_) (by simp only [List.getElem?_toArray, List.getElem?_cons_succ, List.getElem?_cons_zero]; rfl) (by kernel_rfl) (by kernel_rfl) (by kernel_rfl) rfl (by exact fun _ _ _ h => h) (by rfl) ?_ (by assumption) ?_
        rotate_left
        · intro w hSw; (try dsimp only at hSw); go_simp; try (with_reducible rfl)
        try simp only [Act.put, List.setIfInBounds_toArray, List.set_cons_zero, List.set_cons_succ]
        refine take_runs (i := 4) (v := ?_) (by simp only [List.getElem?_toArray, List.getElem?_cons_succ, List.getElem?_cons_zero]; rfl) (by kernel_rfl) (by kernel_rfl) (by kernel_rfl) rfl (by exact fun _ _ _ h => h) (by rfl) ?_ (by assumption) ?_
        rotate_left
        · intro w hSw; (try dsimp only at hSw); go_simp; try (with_reducible rfl)
        try simp only [Act.put, List.setIfInBounds_toArray, List.set_cons_zero, List.set_cons_succ]
        refine wpAnyH_ready (rs := [5]) (by kernel_rfl) (by simp) ?_
        refine AllReadyH.cons (o := _) (by simp only [List.getElem?_toArray, List.getElem?_cons_succ, List.getElem?_cons_zero]; rfl) (fun K hK => ?_) AllReadyH.nil
        go_simp
        refine (HM.out _ (condsR_below HC.out (below_drew HBL.out)) (ints_below HO.out (below_drew HBL.out)) (by exact ints_heap HII.out rfl)).mono ?_
        rintro e w8 ⟨rfl, b9⟩
        have b10 : Below wr.heap.size wr w8 := ⟨b9.os, b9.tape, b9.output, b9.size, b9.block⟩
        have kq := (b10.block w.heap.size (Array.getElem?_eq_some_iff.1 HKQ.out).1).trans HKQ.out
        clear p0 p1 p2 p3
        have p0 := (cell_of_row w8 _ 0 _ _ _ kq).trans (show _ = some (Value.int .i64 id) from rfl)
        have p1 := (cell_of_row w8 _ 1 _ _ _ kq).trans (show _ = some (Value.int .i64 tn) from rfl)
        have p2 := (cell_of_row w8 _ 2 _ _ _ kq).trans (show _ = some (Value.slice ca cs.length ccap) from rfl)
        have p3 := (cell_of_row w8 _ 3 _ _ _ kq).trans (show _ = some (Value.slice oa os.length ocap) from rfl)
        have s1 := (b10.cell (p := ⟨b, off + k * 2, none⟩) hbl).trans hc1
        have s2 := (b10.cell (p := ⟨b, off + k * 2 + 1, none⟩) hbl).trans hc2
        refine hK.out _ _ ⟨p0, p1, p2, p3, s1, s2⟩ (fun hHeld => ?_)
        clear hK K
        try simp only [Act.put, List.setIfInBounds_toArray, List.set_cons_zero, List.set_cons_succ]
        refine wpAnyH_done (by kernel_rfl) ?_ _
        have c8 := HBL.out.trans (b10.mono HBL.out.size)
        have o8 := ownsR_below HOW.out b10
        have j8 := ints_below HII.out b10
        clear hHeld p0 p1 p2 p3 b9 kq hc1 hc2
        clear s1 s2
        rw [hfn] at o8
        go_wp2
        go_roundw
        case rel => exact ⟨k + 1, by omega, by go_num, o8, c8⟩
        case measure => simp [intOf]; omega
      | true =>
        rw [hmr] at HM
        have HFY := Lib.hid (HY.out hmr)
        clear HY HN
        go_wp2
        refine wp_region_held_drew (S := fun w' => w'.cell? ⟨w.heap.size, 0, none⟩ = some (.int .i64 id) ∧ w'.cell? ⟨w.heap.size, 1, none⟩ = some (.int .i64 tn) ∧ w'.cell? ⟨w.heap.size, 2, none⟩ = some (.slice ca cs.length ccap) ∧ w'.cell? ⟨w.heap.size, 3, none⟩ = some (.slice oa os.length ocap) ∧ w'.cell? ⟨b, off + k * 2, none⟩ = some (.int .i64 rid) ∧ w'.cell? ⟨b, off + k * 2 + 1, none⟩ = some (.slice va xs.length vcap)) (by kernel_rfl) ⟨p0, p1, p2, p3, hc1, hc2⟩ (fun hHeld => ?_)
        refine take_runs (i := 0) (v := ?_) (by simp only [List.getElem?_toArray, List.getElem?_cons_succ, List.getElem?_cons_zero]; rfl) (by kernel_rfl) (by kernel_rfl) (by kernel_rfl) rfl (by exact fun _ _ _ h => h) (by rfl) ?_ (by assumption) ?_
        rotate_left
        · intro w hSw; (try dsimp only at hSw); go_simp; try (with_reducible rfl)
        try simp only [Act.put, List.setIfInBounds_toArray, List.set_cons_zero, List.set_cons_succ]
        refine take_runs (i := 1) (v := ?_) (by simp only [List.getElem?_toArray, List.getElem?_cons_succ, List.getElem?_cons_zero]; rfl) (by kernel_rfl) (by kernel_rfl) (by kernel_rfl) rfl (by exact fun _ _ _ h => h) (by rfl) ?_ (by assumption) ?_
        rotate_left
        · intro w hSw; (try dsimp only at hSw); go_simp; try (with_reducible rfl)
        try simp only [Act.put, List.setIfInBounds_toArray, List.set_cons_zero, List.set_cons_succ]
        refine take_runs (i := 2) (v := ?_) (by simp only [List.getElem?_toArray, List.getElem?_cons_succ, List.getElem?_cons_zero]; rfl) (by kernel_rfl) (by kernel_rfl) (by kernel_rfl) rfl (by exact fun _ _ _ h => h) (by rfl) ?_ (by assumption) ?_
        rotate_left
        · intro w hSw; (try dsimp only at hSw); go_simp; try (with_reducible rfl)
        try simp only [Act.put, List.setIfInBounds_toArray, List.set_cons_zero, List.set_cons_succ]
        refine take_runs (i := 3) (v := ?_) (by simp only [List.getElem?_toArray, List.getElem?_cons_succ, List.getElem?_cons_zero]; rfl) (by kernel_rfl) (by kernel_rfl) (by kernel_rfl) rfl (by exact fun _ _ _ h => h) (by rfl) ?_ (by assumption) ?_
        rotate_left
        · intro w hSw; (try dsimp only at hSw); go_simp; try (with_reducible rfl)
        try simp only [Act.put, List.setIfInBounds_toArray, List.set_cons_zero, List.set_cons_succ]
        refine take_runs (i := 4) (v := ?_) (by simp only [List.getElem?_toArray, List.getElem?_cons_succ, List.getElem?_cons_zero]; rfl) (by kernel_rfl) (by kernel_rfl) (by kernel_rfl) rfl (by exact fun _ _ _ h => h) (by rfl) ?_ (by assumption) ?_
        rotate_left
        · intro w hSw; (try dsimp only at hSw); go_simp; try (with_reducible rfl)
        try simp only [Act.put, List.setIfInBounds_toArray, List.set_cons_zero, List.set_cons_succ]
        refine wpAnyH_ready (rs := [5]) (by kernel_rfl) (by simp) ?_
        refine AllReadyH.cons (o := _) (by simp only [List.getElem?_toArray, List.getElem?_cons_succ, List.getElem?_cons_zero]; rfl) (fun K hK => ?_) AllReadyH.nil
        go_simp
        refine (HM.out _ (condsR_below HC.out (below_drew HBL.out)) (ints_below HO.out (below_drew HBL.out)) (by exact ints_heap HII.out rfl)).mono ?_
        rintro e w8 ⟨rfl, b9⟩
        have b10 : Below wr.heap.size wr w8 := ⟨b9.os, b9.tape, b9.output, b9.size, b9.block⟩
        have kq := (b10.block w.heap.size (Array.getElem?_eq_some_iff.1 HKQ.out).1).trans HKQ.out
        clear p0 p1 p2 p3
        have p0 := (cell_of_row w8 _ 0 _ _ _ kq).trans (show _ = some (Value.int .i64 id) from rfl)
        have p1 := (cell_of_row w8 _ 1 _ _ _ kq).trans (show _ = some (Value.int .i64 tn) from rfl)
        have p2 := (cell_of_row w8 _ 2 _ _ _ kq).trans (show _ = some (Value.slice ca cs.length ccap) from rfl)
        have p3 := (cell_of_row w8 _ 3 _ _ _ kq).trans (show _ = some (Value.slice oa os.length ocap) from rfl)
        have s1 := (b10.cell (p := ⟨b, off + k * 2, none⟩) hbl).trans hc1
        have s2 := (b10.cell (p := ⟨b, off + k * 2 + 1, none⟩) hbl).trans hc2
        refine hK.out _ _ ⟨p0, p1, p2, p3, s1, s2⟩ (fun hHeld => ?_)
        clear hK K
        try simp only [Act.put, List.setIfInBounds_toArray, List.set_cons_zero, List.set_cons_succ]
        refine wpAnyH_done (by kernel_rfl) ?_ _
        have c8 := HBL.out.trans (b10.mono HBL.out.size)
        have o8 := ownsR_below HOW.out b10
        have j8 := ints_below HII.out b10
        clear hHeld p0 p1 p2 p3 b9 kq hc1 hc2
        have HO8 := Lib.hid o8
        have HC8 := Lib.hid c8
        clear o8 c8 b10
        go_wp2_with fail
        refine (HCPY.out _ j8).mono ?_
        rintro e w9 ⟨uu, rfl, oV, bC⟩
        obtain ⟨ua, uc, rfl⟩ := ints_len (ownsN_ints oV)
        simp only at oV
        obtain ⟨rcs, vs, h1, h2, h3⟩ := HO8.out
        have hl1 : ∀ j, j < ac.length → ∀ q, (vs j).ownBlock = some q → q < w8.heap.size := fun j hj q e => ((h2 j hj).2.2.1.lt q e).2
        have hl2 : ∀ q, _ := fun q e => (h1.lt q e).2
        have H1 := Lib.hid (ownsRow_below h1 bC)
        have H2 := Lib.hid (fun (j : Nat) (hj : j < ac.length) => (⟨(h2 j hj).1, (h2 j hj).2.1, ownsN_below (h2 j hj).2.2.1 bC, (h2 j hj).2.2.2⟩ : _ ∧ _ ∧ _ ∧ _))
        have H3 := Lib.hid h3
        have HL1 := Lib.hid hl1
        have HL2 := Lib.hid hl2
        have HOV := Lib.hid oV
        have HC9 := Lib.hid (HC8.out.trans (bC.mono HC8.out.size))
        clear s1 s2 h1 h2 h3 hl1 hl2 oV bC j8
        have hal : Below w9.heap.size w9 (w9.alloc (.cells #[.int .i64 rid, .slice ua xs.length uc] 51)) := (Below.refl _ _).alloc (Nat.le_refl _) _
        have HAL := Lib.hid hal
        have HCA := Lib.hid (HC9.out.trans (hal.mono HC9.out.size))
        have oX : RowsC (w9.alloc (.cells #[.int .i64 rid, .slice ua xs.length uc] 51)) W.heap.size _ ac.length rcs := rowsC_kept H1.out hal
        clear hal
        go_wp2_with (at_builtin; refine append_rows rfl (.tmp 20) (.tmp 26) rfl W.heap.size _ _ _ rfl oX HCA.out.size ⟨w9.heap.size, 0, none⟩ 1 1 [.int .i64 rid, .slice ua xs.length uc] rfl rfl (fun j u hj => by rw [Go.WideShapes.add_plain, Nat.zero_add, cell_lit]; simpa using hj) (by intro u hu; simp at hu; rcases hu with rfl | rfl <;> rfl) (by have := HFL.out; omega) ?_)
        intro x3 W3 oX3 gX3 _ hat3
        have FO := append_owns (r := (rid, xs)) H1.out H2.out H3.out HL1.out HL2.out HC8.out.size HOV.out HAL.out gX3 oX3 (by simpa [World.size_alloc] using hat3)
        have FB := HCA.out.grown gX3 HCA.out.size (fun q e => (oX.lt q e).1)
        rw [HFY.out] at FO
        clear oX oX3 gX3 hat3
        go_wp2
        go_roundw
        case rel => exact ⟨k + 1, by omega, by go_num, FO, FB⟩
        case measure => simp [intOf]; omega
    · obtain rfl : k = rs.length := by omega
      rw [List.take_length] at hown
      have hsf : szL (rs.filter m) ≤ 1048576 := Nat.le_trans (szL_filter m rs) HSZ.out
      have HSR := Lib.hid (fun v w h => specSortRows v (rs.filter m) w h hsf)
      clear hsf kq
      go_wp2_with fail
      refine (HSR.out _ _ (ownsR_rows hown)).mono ?_
      rintro e w7 ⟨u, rfl, ou, b7⟩
      have b8 := HB0.out.trans ((hbel.trans (b7.mono hbel.size)).mono HB0.out.size)
      have hz := Nat.le_trans HB0.out.size hbel.size
      clear b7
      go_wp2
      go_ret
      exact ⟨_, rfl, ownsR_up ou hz, b8⟩
end Go.Proofs.Yteelgogfpidcdaa
