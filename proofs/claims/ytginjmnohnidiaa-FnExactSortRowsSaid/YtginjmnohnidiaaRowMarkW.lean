/-
  The walks that mark the rows of a slice and ask for the marks.
-/
import Derived.Test.YtginjmnohnidiaaRowMark
namespace Go.Proofs.Ytginjmnohnidiaa
open Go.RowKit
set_option linter.unusedVariables false
theorem ownsR_form {w : World} {B : Nat} {v : Value} {rs : List RowD} (h : OwnsR w B v rs) : (v = .slice none 0 0 ∧ rs = []) ∨ ∃ g cap, v = .slice (some ⟨g, 0, none⟩) rs.length cap ∧ B ≤ g ∧ g < w.heap.size := by
  obtain ⟨cs, vs, h1, _⟩ := h
  have h1' := h1
  rcases h1.2 with ⟨rfl, h0⟩ | ⟨g, cap, cur, rfl, hb, hg, _⟩
  · exact Or.inl ⟨rfl, List.eq_nil_of_length_eq_zero h0⟩
  · exact Or.inr ⟨g, cap, rfl, hb, (Array.getElem?_eq_some_iff.1 hg).1⟩
theorem ownsV_cells {w : World} {B g n cap : Nat} {rs : List RowD} {vs : Nat → Value} (h : OwnsV w B (.slice (some ⟨g, 0, none⟩) n cap) rs vs) {j : Nat} (hj : j < rs.length) :
    w.cell? ⟨g, j * 2, none⟩ = some (.int .i64 (rs.getD j (0, [])).1) ∧ w.cell? ⟨g, j * 2 + 1, none⟩ = some (vs j) ∧ w.frozen? ⟨g, j * 2, none⟩ = false ∧ OwnsN w B (vs j) (rs.getD j (0, [])).2 ∧ (vs j).ownBlock ≠ some g := by
  obtain ⟨cs, h1, h2, _⟩ := h
  obtain ⟨g1, g2, g3, g4⟩ := h2 j hj
  have hn : n = rs.length := by
    rcases h1.2 with ⟨h', _⟩ | ⟨_, _, _, h', _⟩
    · simp at h'
    · simp only [Value.slice.injEq] at h'; exact h'.2.1
  subst hn
  exact ⟨(World.ownsRow.cellAt h1 (j * 2) (by omega)).trans g1, (World.ownsRow.cellAt h1 (j * 2 + 1) (by omega)).trans g2, World.ownsRow.frozenAt h1 _, g3, fun e => g4 g e rfl⟩
theorem ownsV_below {w w' : World} {B : Nat} {v : Value} {rs : List RowD} {vs : Nat → Value} (h : OwnsV w B v rs vs) (hb : Below w.heap.size w w') : OwnsV w' B v rs vs := by
  obtain ⟨cs, h1, h2, h3⟩ := h
  exact ⟨cs, ownsRow_below h1 hb, fun j hj => ⟨(h2 j hj).1, (h2 j hj).2.1, ownsN_below (h2 j hj).2.2.1 hb, (h2 j hj).2.2.2⟩, h3⟩
set_option maxHeartbeats 4000000 in
set_option maxRecDepth 100000 in
theorem markRowS_V (v : Value) (rs : List RowD) (vs : Nat → Value) (B hi : Nat) (k : Int) (w : World) (hv : OwnsV w B v rs vs) (hvb : ∀ j, j < rs.length → ∀ b, (vs j).ownBlock = some b → b < hi) (hgb : ∀ b, v.ownBlock = some b → b < hi) (hs : szL rs ≤ 1048576) (k0 : 0 ≤ k) (k1 : k ≤ 16777216) :
    Calls Try.prog 17 #[v, .int .i64 k] w fun e w' => e = .returned (.int .i64 (mkAt rs k rs.length)) ∧ OwnsR w' B v (mRows rs k) ∧ Only B hi w w' := by
  have h := ownsR_of hv
  have HS := Lib.hid hs
  have hlen := szL_len hs
  rcases ownsR_form h with ⟨rfl, rfl⟩ | ⟨g, cap, rfl, hBg, hgw⟩
  · have H := Lib.hid h
    clear h hs hv hvb hgb
    go_enter Try.func17, Try.ntmps17
    go_wp2
    go_loop [1, 5] (fun m i => i = .int .i64 0 ∧ m = .int .i64 k) (fun _ _ => 0)
    case atStart => exact ⟨rfl, rfl⟩
    case round =>
      obtain ⟨rfl, rfl⟩ := hrel
      go_wp2
      go_ret
      exact ⟨by simp [mkAt], by rw [show mRows [] k = [] from rfl]; exact H.out, Only.refl _ _ _⟩
  · have HV : Hid (∀ j, j < rs.length → ∀ b, (vs j).ownBlock = some b → B ≤ b ∧ b < hi) := Lib.hid (fun j hj b hb => by
      obtain ⟨_, _, _, ho, _⟩ := ownsV_cells hv hj
      exact ⟨(ho.lt b hb).1, hvb j hj b hb⟩)
    have hgl : g < hi := hgb g rfl
    have HO := Lib.hid hv
    clear h hs hv hvb hgb hgw
    go_enter Try.func17, Try.ntmps17
    go_wp2
    go_loopw [1, 5] (fun m i wr => ∃ j : Nat, j ≤ rs.length ∧ i = .int .i64 j ∧ m = .int .i64 (mkAt rs k j) ∧ OwnsV wr B (.slice (some ⟨g, 0, none⟩) rs.length cap) (markTo rs k j) vs ∧ Only B hi w wr) (fun _ i _ => rs.length - (intOf i).toNat)
    case atStart => exact ⟨0, Nat.zero_le _, rfl, by rw [mkAt_zero], by rw [markTo_zero]; exact HO.out, Only.refl _ _ _⟩
    case round =>
      obtain ⟨j, hj, rfl, rfl, hown, hon⟩ := hrel
      by_cases hlt : j < rs.length
      · have i1 : (0 : Int) ≤ (j : Int) := by omega
        have i2 : (j : Int) < (rs.length : Int) := by omega
        have hjl : j < (markTo rs k j).length := by rw [markTo_len hj]; exact hlt
        obtain ⟨c1, c2, f1, o1, n1⟩ := ownsV_cells hown hjl
        rw [markTo_at hlt] at c1 o1
        obtain ⟨r1, r2⟩ := mkAt_range (k := k) HS.out hj
        have hxl := szL_row HS.out hlt
        have hstep := mkAt_step (k := k) hlt
        have hset := Lib.hid (markTo_step (k := k) hlt)
        have hmr : mRow rs k j = (mkAt rs k j, marks (mkAt rs k j + 1) (rs.getD j (0, [])).2.length) := rfl
        rw [hmr] at hset
        generalize mkAt rs k j = m at *
        have HM : Hid (∃ m', mkAt rs k (j + 1) = m') := Lib.hid ⟨_, rfl⟩
        obtain ⟨m', hm'⟩ := HM.out
        rw [hm'] at hstep
        have HM' := Lib.hid hm'
        clear hm' HM
        have HOW := Lib.hid (fun w2 => ownsV_mark (w2 := w2) hown hjl m (ys := marks (m + 1) (rs.getD j (0, [])).2.length))
        rw [hset.out] at HOW
        generalize rs.getD j (0, []) = r at *
        obtain ⟨id, xs⟩ := r
        simp only at c1 o1 hxl hstep HOW
        have hne : (vs j).ownBlock = none ∨ (vs j).ownBlock ≠ some g := Or.inr n1
        have o2 : OwnsN (wr.setCell ⟨g, j * 2, none⟩ (.int .i64 m)) B (vs j) xs := World.ownsRow.kept o1 (grow_set wr g (j * 2) _) hne
        have HVJ := Lib.hid (HV.out j hlt)
        generalize vs j = u at *
        clear hown n1 hne o1 HV HO
        go_wp2_with fail
        refine (markIntS_any u xs B (m + 1) _ o2 hxl (by omega) (by omega)).mono ?_
        rintro e w2 ⟨rfl, ou, hg⟩
        have hv2 := Lib.hid (HOW.out w2 hg ou)
        have hon2 := (hon.trans (only_grown (grow_set wr g (j * 2) (.int .i64 m)) (fun b hb => by cases hb; exact ⟨hBg, hgl⟩))).trans (only_grown hg HVJ.out)
        clear HOW ou hg hon
        have hmm : m + 1 + (xs.length : Int) = m' := by omega
        rw [hmm]
        clear hmm hstep hmr hset
        go_wp2
        go_roundw
        case rel => exact ⟨j + 1, by omega, by go_num, by rw [HM'.out], hv2.out, hon2⟩
        case measure => simp [intOf]; omega
      · obtain rfl : j = rs.length := by omega
        rw [markTo_all] at hown
        go_wp2
        go_ret
        exact ⟨rfl, ownsR_of hown, hon⟩
theorem ownsV_bound {w : World} {B : Nat} {v : Value} {rs : List RowD} {vs : Nat → Value} (h : OwnsV w B v rs vs) : (∀ j, j < rs.length → ∀ b, (vs j).ownBlock = some b → b < w.heap.size) ∧ ∀ b, v.ownBlock = some b → b < w.heap.size := by
  obtain ⟨cs, h1, h2, _⟩ := h
  exact ⟨fun j hj b hb => ((h2 j hj).2.2.1.lt b hb).2, fun b hb => (h1.lt b hb).2⟩
theorem markRowS_any (v : Value) (rs : List RowD) (B : Nat) (k : Int) (w0 w : World) (h0 : OwnsR w0 B v rs) (hb0 : Below w0.heap.size w0 w) (hs : szL rs ≤ 1048576) (k0 : 0 ≤ k) (k1 : k ≤ 1048576) :
    Calls Try.prog 17 #[v, .int .i64 k] w fun e w' => e = .returned (.int .i64 (mkAt rs k rs.length)) ∧ OwnsR w' B v (mRows rs k) ∧ Only B w0.heap.size w w' := by
  obtain ⟨vs, hv0⟩ := ownsV_of h0
  exact markRowS_V v rs vs B w0.heap.size k w (ownsV_below hv0 hb0) (ownsV_bound hv0).1 (ownsV_bound hv0).2 hs k0 (by omega)
theorem ownsV_only {B hi C : Nat} {w w' : World} {v : Value} {rs : List RowD} {vs : Nat → Value} (h : OwnsV w C v rs vs) (k : Only B hi w w') (hc : hi ≤ C) : OwnsV w' C v rs vs := by
  obtain ⟨cs, h1, h2, h3⟩ := h
  have hk : ∀ {e : TypeId} {size : Nat} {u : Value} {n : Nat} {xs : List Value}, w.ownsRow C e size u n xs → w'.ownsRow C e size u n xs := by
    intro e size u n xs hu
    refine ⟨hu.1, ?_⟩
    rcases hu.2 with hn | ⟨g, cap, cur, rfl, hb', hg, rest⟩
    · exact .inl hn
    · refine .inr ⟨g, cap, cur, rfl, hb', ?_, rest⟩
      rw [k.block g (Array.getElem?_eq_some_iff.1 hg).1 (Or.inr (by omega))]
      exact hg
  exact ⟨cs, hk h1, fun j hj => ⟨(h2 j hj).1, (h2 j hj).2.1, hk (h2 j hj).2.2.1, (h2 j hj).2.2.2⟩, h3⟩
theorem ownsN_only {B hi C : Nat} {w w' : World} {v : Value} {xs : List Int} (h : OwnsN w C v xs) (k : Only B hi w w') (hc : hi ≤ C) : OwnsN w' C v xs := by
  refine ⟨h.1, ?_⟩
  rcases h.2 with hn | ⟨g, cap, cur, rfl, hb', hg, rest⟩
  · exact .inl hn
  · refine .inr ⟨g, cap, cur, rfl, hb', ?_, rest⟩
    rw [k.block g (Array.getElem?_eq_some_iff.1 hg).1 (Or.inr (by omega))]
    exact hg
theorem mRows_len (rs : List RowD) (k : Int) : (mRows rs k).length = rs.length := by simp [mRows]
theorem mRows_at {rs : List RowD} {k : Int} {j : Nat} (hj : j < rs.length) : (mRows rs k).getD j (0, []) = (mkAt rs k j, marks (mkAt rs k j + 1) (rs.getD j (0, [])).2.length) := by
  simp [mRows, List.getD, hj, mRow]
set_option maxHeartbeats 4000000 in
set_option maxRecDepth 100000 in
theorem heldRowS_any (v : Value) (rs : List RowD) (k : Int) (w : World) (h : RowsR w v (mRows rs k)) (hs : szL rs ≤ 1048576) (k0 : 0 ≤ k) (k1 : k ≤ 1048576) :
    Calls Try.prog 18 #[v, .int .i64 k] w fun e w' => e = .returned (.int .i64 (mkAt rs k rs.length)) ∧ w = w' := by
  have HS := Lib.hid hs
  have H := Lib.hid h
  have hlen := szL_len hs
  obtain ⟨a, cap, rfl⟩ := rowsR_len h
  rw [mRows_len] at H ⊢
  clear h hs
  go_enter Try.func18, Try.ntmps18
  go_wp2
  go_loop [1, 5] (fun m i => ∃ j : Nat, j ≤ rs.length ∧ i = .int .i64 j ∧ m = .int .i64 (mkAt rs k j)) (fun _ i => rs.length - (intOf i).toNat)
  case atStart => exact ⟨0, Nat.zero_le _, rfl, by rw [mkAt_zero]⟩
  case round =>
    obtain ⟨j, hj, rfl, rfl⟩ := hrel
    by_cases hlt : j < rs.length
    · obtain ⟨b, off, cap', vv, hv, hbl, hc1, hc2, hI⟩ := rowsR_at H.out (k := j) (by rw [mRows_len]; exact hlt)
      rw [mRows_len] at hv
      simp only [Value.slice.injEq] at hv
      obtain ⟨rfl, _, rfl⟩ := hv
      rw [mRows_at hlt] at hc1 hI
      have i1 : (0 : Int) ≤ (j : Int) := by omega
      have i2 : (j : Int) < (rs.length : Int) := by omega
      obtain ⟨r1, r2⟩ := mkAt_range (k := k) HS.out hj
      have hxl := szL_row HS.out hlt
      have hstep := mkAt_step (k := k) hlt
      have HM : Hid (∃ m', mkAt rs k (j + 1) = m') := Lib.hid ⟨_, rfl⟩
      obtain ⟨m', hm'⟩ := HM.out
      rw [hm'] at hstep
      have HM' := Lib.hid hm'
      clear hm' HM
      generalize mkAt rs k j = m at *
      simp only at hc1 hI
      generalize (rs.getD j (0, [])).2.length = n at *
      have hnn : ¬ m' < 0 := by omega
      clear H
      go_wp2_with fail
      refine (heldIntS_any vv n (m + 1) _ hI hxl (by omega) (by omega)).mono ?_
      rintro e w2 ⟨rfl, rfl⟩
      have hmm : m + 1 + (n : Int) = m' := by omega
      rw [hmm]
      clear hmm hstep
      go_wp2
      go_round
      case rel => exact ⟨j + 1, by omega, by go_num, by rw [HM'.out]⟩
      case measure => simp [intOf]; omega
    · obtain rfl : j = rs.length := by omega
      go_wp2
      go_ret
      exact ⟨rfl, rfl⟩
end Go.Proofs.Ytginjmnohnidiaa
