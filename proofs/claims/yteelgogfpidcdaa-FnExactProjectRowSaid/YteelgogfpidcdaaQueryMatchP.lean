/-
  The program's MatchesRow and ProjectRow.
-/
import Derived.Test.YteelgogfpidcdaaQueryChk
import Derived.Test.YteelgogfpidcdaaProjLaw
import Derived.Test.YteelgogfpidcdaaMatchLaw
import Derived.Test.YteelgogfpidcdaaRowIsP
namespace Go.Proofs.Yteelgogfpidcdaa
open Go.RowKit
set_option linter.unusedVariables false
set_option linter.unusedSimpArgs false
set_option maxHeartbeats 4000000 in
set_option maxRecDepth 100000 in
theorem admit_any (cv vv : Value) (cs : List CondD) (xs : List Int) (w : World) (h : CondsR w cv cs) (hn : cs.length ≤ 1048576) (gr : Ints w vv xs) (h3 : xs.length = 3) (hc : ∀ k, k < cs.length → 0 ≤ (cs.getD k c0D).1 ∧ (cs.getD k c0D).1 ≤ 2) :
    Calls Try.prog 81 #[cv, vv] w fun e w' => e = .returned (.bool (cs.all (okC xs))) ∧ Below w.heap.size w w' := by
  have H := Lib.hid h
  have HX := Lib.hid gr
  have HLN := Lib.hid h3
  have HCD := Lib.hid hc
  obtain ⟨ca, ccap, rfl⟩ := condsR_len h
  obtain ⟨va, vcap, rfl⟩ := ints_len gr
  clear h gr h3 hc
  go_enter Try.func81, Try.ntmps81
  go_wp2
  go_loopw [10] (fun i wr => ∃ k : Nat, k ≤ cs.length ∧ i = .int .i64 k ∧ Hid (∀ j, j < k → okC xs (cs.getD j c0D) = true) ∧ Below w.heap.size w wr) (fun i _ => cs.length - (intOf i).toNat)
  case atStart => exact ⟨0, Nat.zero_le _, rfl, Lib.hid (fun j hj => by omega), Below.refl _ _⟩
  case round =>
    obtain ⟨k, hk, rfl, hall, hbel⟩ := hrel
    by_cases hlt : k < cs.length
    · have i1 : (0 : Int) ≤ (k : Int) := by omega
      have i2 : (k : Int) < (cs.length : Int) := by omega
      obtain ⟨bc, offc, capc, hvc, hblc, d1, d2, d3⟩ := condsR_at (condsR_below H.out hbel) hlt
      simp only [Value.slice.injEq] at hvc
      obtain ⟨rfl, _, rfl⟩ := hvc
      have hcd := HCD.out k hlt
      have hok : okC xs (cs.getD k c0D) = true → Hid (∀ j, j < k + 1 → okC xs (cs.getD j c0D) = true) := fun h => Lib.hid (fun j hj => by
        by_cases e : j = k
        · subst e; exact h
        · exact hall.out j (by omega))
      have hno : okC xs (cs.getD k c0D) = false → Hid (cs.all (okC xs) = false) := fun h => Lib.hid (all_bad hlt h)
      have HOK := Lib.hid hok
      have HNO := Lib.hid hno
      clear hok hno hall
      generalize cs.getD k c0D = c at *
      obtain ⟨f, lo, hi⟩ := c
      simp only at d1 d2 d3 hcd
      obtain ⟨fn, rfl⟩ := Int.eq_ofNat_of_zero_le hcd.1
      have hfn : fn < xs.length := by have := HLN.out; omega
      obtain ⟨bx, offx, capx, hvx, hblx, hcx⟩ := ints_cell (ints_below HX.out hbel) (by omega)
      simp only [Value.slice.injEq] at hvx
      obtain ⟨rfl, _, rfl⟩ := hvx
      have x0 := hcx fn hfn
      have j1 : (0 : Int) ≤ (fn : Int) := by omega
      have j2 : (fn : Int) < (xs.length : Int) := by omega
      have ho : okC xs ((fn : Int), lo, hi) = decide (lo ≤ xs.getD fn 0 ∧ xs.getD fn 0 ≤ hi) := by unfold okC; simp
      rw [ho] at HOK HNO
      clear hcx ho hcd
      generalize xs.getD fn 0 = x at *
      have hal : Below wr.heap.size wr (wr.alloc (.cells #[.int .i64 (fn : Int), .int .i64 lo, .int .i64 hi] 25)) := (Below.refl _ _).alloc (Nat.le_refl _) _
      have x1 := (hal.cell (p := ⟨bx, offx + fn, none⟩) hblx).trans x0
      have c3 := hbel.trans (hal.mono hbel.size)
      by_cases ha : lo ≤ x
      · by_cases hb : x ≤ hi
        · have HA := HOK.out (decide_eq_true ⟨ha, hb⟩)
          have ta : ¬ x < lo := by omega
          have tb : ¬ hi < x := by omega
          clear HOK HNO ha hb hal hblx hblc x0
          go_wp2
          go_roundw
          case rel => exact ⟨k + 1, by omega, by go_num, HA, c3⟩
          case measure => simp [intOf]; omega
        · have HA := HNO.out (decide_eq_false (fun g => hb g.2))
          have ta : ¬ x < lo := by omega
          have tb : hi < x := by omega
          clear HOK HNO ha hb hal hblx hblc x0
          go_wp2
          go_ret
          exact ⟨ret_b HA.out.symm, c3⟩
      · have HA := HNO.out (decide_eq_false (fun g => ha g.1))
        have ta : x < lo := by omega
        clear HOK HNO ha hal hblx hblc x0
        go_wp2
        go_ret
        exact ⟨ret_b HA.out.symm, c3⟩
    · obtain rfl : k = cs.length := by omega
      have HA := Lib.hid (all_ok hall.out)
      clear hall
      go_wp2
      go_ret
      exact ⟨ret_b HA.out.symm, hbel⟩
theorem cr_boxes {W w : World} {g : Nat} {a b x y : Value} (g0 : W.heap[g]? = some (.cells #[a, b] 88 (0, 0))) (g1 : W.heap[g + 1]? = some (.cells #[x, y] 51 (0, 0))) (hz : g + 1 < W.heap.size) (hb : Below W.heap.size W w) :
    w.cell? ⟨g, 0, none⟩ = some a ∧ w.cell? ⟨g, 1, none⟩ = some b ∧ w.cell? ⟨g + 1, 0, none⟩ = some x ∧ w.cell? ⟨g + 1, 1, none⟩ = some y := by
  have k0 := (hb.block g (by omega)).trans g0
  have k1 := (hb.block (g + 1) hz).trans g1
  exact ⟨(cell_of_row w _ 0 _ _ _ k0).trans rfl, (cell_of_row w _ 1 _ _ _ k0).trans rfl, (cell_of_row w _ 0 _ _ _ k1).trans rfl, (cell_of_row w _ 1 _ _ _ k1).trans rfl⟩
set_option maxHeartbeats 4000000 in
set_option maxRecDepth 100000 in
theorem matches_any (rid : Int) (cv ov vv : Value) (cs : List CondD) (os xs : List Int) (w : World) (h : CondsR w cv cs) (hn : cs.length ≤ 1048576) (g : Ints w ov os) (gr : Ints w vv xs) (hx : xs.length ≤ 1048576) (hc : ∀ k, k < cs.length → 0 ≤ (cs.getD k c0D).1 ∧ (cs.getD k c0D).1 ≤ 2) :
    Calls Try.prog 66 #[.agg #[cv, ov], .agg #[.int .i64 rid, vv]] w fun e w' => e = .returned (.bool (rowB (rid, xs) && cs.all (okC xs))) ∧ Below w.heap.size w w' := by
  obtain ⟨ca, ccap, rfl⟩ := condsR_len h
  obtain ⟨oa, ocap, rfl⟩ := ints_len g
  obtain ⟨va, vcap, rfl⟩ := ints_len gr
  have hb0 : Below w.heap.size w ((w.alloc (.cells #[.slice ca cs.length ccap, .slice oa os.length ocap] 88)).alloc (.cells #[.int .i64 rid, .slice va xs.length vcap] 51)) := ((Below.refl _ w).alloc (Nat.le_refl _) _).alloc (by simp) _
  have HG1 : Hid (((w.alloc (.cells #[.slice ca cs.length ccap, .slice oa os.length ocap] 88)).alloc (.cells #[.int .i64 rid, .slice va xs.length vcap] 51)).heap[w.heap.size + 1]? = some (.cells #[.int .i64 rid, .slice va xs.length vcap] 51 (0, 0))) := Lib.hid (by
    have := heap_alloc_new (w.alloc (.cells #[.slice ca cs.length ccap, .slice oa os.length ocap] 88)) (.cells #[.int .i64 rid, .slice va xs.length vcap] 51)
    simpa only [World.size_alloc] using this)
  have HG0 : Hid (((w.alloc (.cells #[.slice ca cs.length ccap, .slice oa os.length ocap] 88)).alloc (.cells #[.int .i64 rid, .slice va xs.length vcap] 51)).heap[w.heap.size]? = some (.cells #[.slice ca cs.length ccap, .slice oa os.length ocap] 88 (0, 0))) := Lib.hid (by
    rw [Below.heap_alloc _ _ _ (by simp)]
    exact heap_alloc_new w _)
  have HZ : Hid (w.heap.size + 1 < ((w.alloc (.cells #[.slice ca cs.length ccap, .slice oa os.length ocap] 88)).alloc (.cells #[.int .i64 rid, .slice va xs.length vcap] 51)).heap.size) := Lib.hid (by simp)
  have HB0 := Lib.hid hb0
  have HC := Lib.hid (condsR_below h hb0)
  have HX := Lib.hid (ints_below gr hb0)
  have HR := Lib.hid (fun w h => implIsRow rid (.slice va xs.length vcap) xs w h hx)
  clear h g gr hx hb0
  cases hr : rowB (rid, xs) with
  | false =>
    have HT : Hid ((false && cs.all (okC xs)) = false) := Lib.hid rfl
    rw [hr] at HR
    clear hr
    go_enter Try.func66, Try.ntmps66
    go_wp2_with fail
    generalize ((w.alloc (.cells #[.slice ca cs.length ccap, .slice oa os.length ocap] 88)).alloc (.cells #[.int .i64 rid, .slice va xs.length vcap] 51)) = W at *
    refine (HR.out _ HX.out).mono ?_
    rintro e w1 ⟨rfl, b1⟩
    have c1 := HB0.out.trans (b1.mono HB0.out.size)
    go_wp2
    go_ret
    exact ⟨ret_b HT.out.symm, c1⟩
  | true =>
    have HA := Lib.hid (fun w h g => admit_any (.slice ca cs.length ccap) (.slice va xs.length vcap) cs xs w h hn g (row_len hr) hc)
    rw [hr] at HR
    clear hr hn hc
    obtain ⟨r, hrr⟩ : ∃ r, cs.all (okC xs) = r := ⟨_, rfl⟩
    rw [hrr] at HA ⊢
    clear hrr
    go_enter Try.func66, Try.ntmps66
    go_wp2_with fail
    generalize ((w.alloc (.cells #[.slice ca cs.length ccap, .slice oa os.length ocap] 88)).alloc (.cells #[.int .i64 rid, .slice va xs.length vcap] 51)) = W at *
    refine (HR.out _ HX.out).mono ?_
    rintro e w1 ⟨rfl, b1⟩
    have c1 := HB0.out.trans (b1.mono HB0.out.size)
    obtain ⟨p0, p1, r0, r1⟩ := cr_boxes HG0.out HG1.out HZ.out b1
    go_wp2_with fail
    refine (HA.out _ (condsR_below HC.out b1) (ints_below HX.out b1)).mono ?_
    rintro e w2 ⟨rfl, b2⟩
    have c2 := c1.trans (b2.mono c1.size)
    go_wp2
    go_ret
    exact ⟨ret_b (by simp), c2⟩
set_option maxHeartbeats 4000000 in
set_option maxRecDepth 100000 in
theorem implMatchesRow (id tn rid : Int) (cv ov vv : Value) (cs : List CondD) (os xs : List Int) (w : World) (h : CondsR w cv cs) (hn : cs.length ≤ 1048576) (g : Ints w ov os) (hm : os.length ≤ 1048576) (gr : Ints w vv xs) (hx : xs.length ≤ 1048576) :
    Calls Try.prog 27 #[qV id tn cv ov, .agg #[.int .i64 rid, vv]] w fun e w' => e = .returned (.bool (matchB id tn cs os (rid, xs))) ∧ Below w.heap.size w w' := by
  obtain ⟨ca, ccap, rfl⟩ := condsR_len h
  obtain ⟨oa, ocap, rfl⟩ := ints_len g
  obtain ⟨va, vcap, rfl⟩ := ints_len gr
  have hb0 : Below w.heap.size w ((w.alloc (.cells #[.int .i64 id, .int .i64 tn, .slice ca cs.length ccap, .slice oa os.length ocap] 36)).alloc (.cells #[.int .i64 rid, .slice va xs.length vcap] 51)) := ((Below.refl _ w).alloc (Nat.le_refl _) _).alloc (by simp) _
  have HG1 : Hid (((w.alloc (.cells #[.int .i64 id, .int .i64 tn, .slice ca cs.length ccap, .slice oa os.length ocap] 36)).alloc (.cells #[.int .i64 rid, .slice va xs.length vcap] 51)).heap[w.heap.size + 1]? = some (.cells #[.int .i64 rid, .slice va xs.length vcap] 51 (0, 0))) := Lib.hid (by
    have := heap_alloc_new (w.alloc (.cells #[.int .i64 id, .int .i64 tn, .slice ca cs.length ccap, .slice oa os.length ocap] 36)) (.cells #[.int .i64 rid, .slice va xs.length vcap] 51)
    simpa only [World.size_alloc] using this)
  have HG0 : Hid (((w.alloc (.cells #[.int .i64 id, .int .i64 tn, .slice ca cs.length ccap, .slice oa os.length ocap] 36)).alloc (.cells #[.int .i64 rid, .slice va xs.length vcap] 51)).heap[w.heap.size]? = some (.cells #[.int .i64 id, .int .i64 tn, .slice ca cs.length ccap, .slice oa os.length ocap] 36 (0, 0))) := Lib.hid (by
    rw [Below.heap_alloc _ _ _ (by simp)]
    exact heap_alloc_new w _)
  have HZ : Hid (w.heap.size + 1 < ((w.alloc (.cells #[.int .i64 id, .int .i64 tn, .slice ca cs.length ccap, .slice oa os.length ocap] 36)).alloc (.cells #[.int .i64 rid, .slice va xs.length vcap] 51)).heap.size) := Lib.hid (by simp)
  have HB0 := Lib.hid hb0
  have HC := Lib.hid (condsR_below h hb0)
  have HO := Lib.hid (ints_below g hb0)
  have HX := Lib.hid (ints_below gr hb0)
  cases hq : queryB id tn cs os with
  | false =>
    have HQ := Lib.hid (fun w h g => checkQuery_no id tn (.slice ca cs.length ccap) (.slice oa os.length ocap) cs os w h hn g hm hq)
    have HT : Hid (matchB id tn cs os (rid, xs) = false) := Lib.hid (by unfold matchB; rw [hq]; simp)
    clear h g hn hm gr hx hb0 hq
    go_enter Try.func27, Try.ntmps27
    go_wp2_with fail
    generalize ((w.alloc (.cells #[.int .i64 id, .int .i64 tn, .slice ca cs.length ccap, .slice oa os.length ocap] 36)).alloc (.cells #[.int .i64 rid, .slice va xs.length vcap] 51)) = W at *
    refine (HQ.out _ HC.out HO.out).mono ?_
    rintro e w1 ⟨rfl, b1⟩
    have c1 := HB0.out.trans (b1.mono HB0.out.size)
    have c2 := c1.alloc c1.size (.cells #[.slice none 0 0, .slice none 0 0] 88)
    go_wp2
    go_ret
    exact ⟨ret_b HT.out.symm, c2⟩
  | true =>
    have HQ := Lib.hid (fun w h g => checkQuery_yes id tn (.slice ca cs.length ccap) (.slice oa os.length ocap) cs os w h hn g hm hq)
    have HM := Lib.hid (fun w h g gr => matches_any rid (.slice ca cs.length ccap) (.slice oa os.length ocap) (.slice va xs.length vcap) cs os xs w h hn g gr hx (fun k hk => query_conds hq hk))
    have HT : Hid (matchB id tn cs os (rid, xs) = (rowB (rid, xs) && cs.all (okC xs))) := Lib.hid (by unfold matchB; rw [hq]; simp)
    clear h g hn hm gr hx hb0 hq
    generalize (rowB (rid, xs) && cs.all (okC xs)) = r at *
    go_enter Try.func27, Try.ntmps27
    go_wp2_with fail
    generalize ((w.alloc (.cells #[.int .i64 id, .int .i64 tn, .slice ca cs.length ccap, .slice oa os.length ocap] 36)).alloc (.cells #[.int .i64 rid, .slice va xs.length vcap] 51)) = W at *
    refine (HQ.out _ HC.out HO.out).mono ?_
    rintro e w1 ⟨rfl, b1⟩
    have a1 : Below w1.heap.size w1 (w1.alloc (.cells #[.slice ca cs.length ccap, .slice oa os.length ocap] 88)) := (Below.refl _ _).alloc (Nat.le_refl _) _
    have b2 := b1.trans (a1.mono b1.size)
    have c2 := HB0.out.trans (b2.mono HB0.out.size)
    obtain ⟨p0, p1, p2, p3, r0, r1⟩ := qr_boxes HG0.out HG1.out HZ.out b2
    clear a1 b1
    go_wp2_with fail
    refine (HM.out _ (condsR_below HC.out b2) (ints_below HO.out b2) (ints_below HX.out b2)).mono ?_
    rintro e w3 ⟨rfl, b3⟩
    have c3 := c2.trans (b3.mono c2.size)
    go_wp2
    go_ret
    exact ⟨ret_b HT.out.symm, c3⟩
end Go.Proofs.Yteelgogfpidcdaa
