/-
  The program's ProjectRow and AnswerAlone.
-/
import Derived.Test.YteelgogfpidcdaaQueryMatchP
import Derived.Test.YteelgogfpidcdaaAnswerLaw
import Derived.Test.YteelgogfpidcdaaRowSortP
namespace Go.Proofs.Yteelgogfpidcdaa
open Go.RowKit
set_option linter.unusedVariables false
set_option linter.unusedSimpArgs false
theorem proj_set {os xs : List Int} {k : Nat} (hk : k < os.length) : ((os.take k).map (fun f : Int => xs.getD f.toNat 0) ++ List.replicate (os.length - k) 0).set k (xs.getD (os.getD k 0).toNat 0) = (os.take (k + 1)).map (fun f : Int => xs.getD f.toNat 0) ++ List.replicate (os.length - (k + 1)) 0 := by
  have hl : ((os.take k).map (fun f : Int => xs.getD f.toNat 0)).length = k := by rw [List.length_map, List.length_take]; omega
  rw [List.set_append_right _ _ (by omega), hl, Nat.sub_self, show os.length - k = (os.length - (k + 1)) + 1 by omega, List.replicate_succ, List.set_cons_zero, ← proj_step hk, List.append_assoc]
  rfl
set_option maxHeartbeats 4000000 in
set_option maxRecDepth 100000 in
theorem project_any (rid : Int) (cv ov vv : Value) (cs : List CondD) (os xs : List Int) (w : World) (h : CondsR w cv cs) (g : Ints w ov os) (hm : os.length ≤ 3) (gr : Ints w vv xs) (h3 : xs.length = 3) (hc : ∀ k, k < os.length → 0 ≤ os.getD k 0 ∧ os.getD k 0 ≤ 2) :
    Calls Try.prog 68 #[.agg #[cv, ov], .agg #[.int .i64 rid, vv]] w (FreshInts w (os.map (fun f : Int => xs.getD f.toNat 0))) := by
  obtain ⟨ca, ccap, rfl⟩ := condsR_len h
  obtain ⟨oa, ocap, rfl⟩ := ints_len g
  obtain ⟨va, vcap, rfl⟩ := ints_len gr
  obtain ⟨i0, hi, hz0, hz1, hz2⟩ := info_parts Try.infoI64
  have HI := Lib.hid hi; have HZ0 := Lib.hid hz0; have HZ1 := Lib.hid hz1; have HZ2 := Lib.hid hz2
  clear hi hz0 hz1 hz2
  have hb0 : Below w.heap.size w ((w.alloc (.cells #[.slice ca cs.length ccap, .slice oa os.length ocap] 88)).alloc (.cells #[.int .i64 rid, .slice va xs.length vcap] 51)) := ((Below.refl _ w).alloc (Nat.le_refl _) _).alloc (by simp) _
  have HG1 : Hid (((w.alloc (.cells #[.slice ca cs.length ccap, .slice oa os.length ocap] 88)).alloc (.cells #[.int .i64 rid, .slice va xs.length vcap] 51)).heap[w.heap.size + 1]? = some (.cells #[.int .i64 rid, .slice va xs.length vcap] 51 (0, 0))) := Lib.hid (by
    have := heap_alloc_new (w.alloc (.cells #[.slice ca cs.length ccap, .slice oa os.length ocap] 88)) (.cells #[.int .i64 rid, .slice va xs.length vcap] 51)
    simpa only [World.size_alloc] using this)
  have HG0 : Hid (((w.alloc (.cells #[.slice ca cs.length ccap, .slice oa os.length ocap] 88)).alloc (.cells #[.int .i64 rid, .slice va xs.length vcap] 51)).heap[w.heap.size]? = some (.cells #[.slice ca cs.length ccap, .slice oa os.length ocap] 88 (0, 0))) := Lib.hid (by
    rw [Below.heap_alloc _ _ _ (by simp)]
    exact heap_alloc_new w _)
  have HZ : Hid (w.heap.size + 1 < ((w.alloc (.cells #[.slice ca cs.length ccap, .slice oa os.length ocap] 88)).alloc (.cells #[.int .i64 rid, .slice va xs.length vcap] 51)).heap.size) := Lib.hid (by simp)
  have HB0 := Lib.hid hb0
  have HO := Lib.hid (ints_below g hb0)
  have HX := Lib.hid (ints_below gr hb0)
  have HM := Lib.hid hm
  have HLN := Lib.hid h3
  have HCD := Lib.hid hc
  clear h g hm gr hb0 h3 hc
  go_enter Try.func68, Try.ntmps68
  go_wp2_with (at_make; refine wpList_make_full _ rfl (.tmp 10) (.tmp 10) 29 rfl w.heap.size 3 i0 (.int .i64 0) 1 Try.underlying29 HI.out HZ0.out HZ1.out _ _ _ _ os.length rfl rfl rfl rfl (by rw [HZ2.out]; have := HM.out; omega) (by have := HM.out; unfold maxLen; omega) (by simp; omega) ?_)
  intro w1 hown0 hg0
  have hown1 := ownsN_made (by simpa using hown0)
  have hbel1 := (Below.refl ((w.alloc (.cells #[.slice ca cs.length ccap, .slice oa os.length ocap] 88)).alloc (.cells #[.int .i64 rid, .slice va xs.length vcap] 51)).heap.size ((w.alloc (.cells #[.slice ca cs.length ccap, .slice oa os.length ocap] 88)).alloc (.cells #[.int .i64 rid, .slice va xs.length vcap] 51))).grown hg0 (Nat.le_refl _) (fun k hk => by cases hk)
  have HWS : Hid (((w.alloc (.cells #[.slice ca cs.length ccap, .slice oa os.length ocap] 88)).alloc (.cells #[.int .i64 rid, .slice va xs.length vcap] 51)).heap.size = w.heap.size + 1 + 1) := Lib.hid (by simp)
  clear hown0 hg0
  obtain ⟨gb, hgb⟩ : ∃ gb, w.heap.size + 1 + 1 = gb := ⟨_, rfl⟩
  rw [hgb] at hown1 HWS ⊢
  generalize ((w.alloc (.cells #[.slice ca cs.length ccap, .slice oa os.length ocap] 88)).alloc (.cells #[.int .i64 rid, .slice va xs.length vcap] 51)) = W at *
  obtain ⟨p0, p1, r0, r1⟩ := cr_boxes HG0.out HG1.out HZ.out hbel1
  rw [HWS.out] at hbel1
  go_wp2
  clear p0 p1 r0 r1
  go_loopw [15] (fun i wr => ∃ k : Nat, k ≤ os.length ∧ i = .int .i64 k ∧ OwnsN wr w.heap.size (.slice (some ⟨gb, 0, none⟩) os.length os.length) ((os.take k).map (fun f : Int => xs.getD f.toNat 0) ++ List.replicate (os.length - k) 0) ∧ Below gb W wr) (fun i _ => os.length - (intOf i).toNat)
  case atStart => exact ⟨0, Nat.zero_le _, rfl, by simpa using hown1, hbel1⟩
  case round =>
    obtain ⟨k, hk, rfl, hown, hbel⟩ := hrel
    clear hown1 hbel1
    have hbel' : Below W.heap.size W wr := by rw [HWS.out]; exact hbel
    obtain ⟨p0, p1, r0, r1⟩ := cr_boxes HG0.out HG1.out HZ.out hbel'
    by_cases hlt : k < os.length
    · obtain ⟨b, off, cap', hv, hbl, hc⟩ := ints_cell (ints_below HO.out hbel') (by omega)
      simp only [Value.slice.injEq] at hv
      obtain ⟨rfl, _, rfl⟩ := hv
      have hcell := hc k hlt
      have i1 : (0 : Int) ≤ (k : Int) := by omega
      have i2 : (k : Int) < (os.length : Int) := by omega
      have i5 : k < 4 := by have := HM.out; omega
      have hcd := HCD.out k hlt
      have HSET := Lib.hid (proj_set (xs := xs) hlt)
      have HLL : Hid (((os.take k).map (fun f : Int => xs.getD f.toNat 0) ++ List.replicate (os.length - k) 0).length = os.length) := Lib.hid (by simp; omega)
      clear hc
      generalize os.getD k 0 = f at *
      obtain ⟨fn, rfl⟩ := Int.eq_ofNat_of_zero_le hcd.1
      have hfn : fn < xs.length := by have := HLN.out; omega
      obtain ⟨bx, offx, capx, hvx, hblx, hcx⟩ := ints_cell (ints_below HX.out hbel') (by omega)
      simp only [Value.slice.injEq] at hvx
      obtain ⟨rfl, _, rfl⟩ := hvx
      have x0 := hcx fn hfn
      have j1 : (0 : Int) ≤ (fn : Int) := by omega
      have j2 : (fn : Int) < (xs.length : Int) := by omega
      rw [Int.toNat_natCast] at HSET
      clear hcx hcd
      generalize xs.getD fn 0 = x at *
      generalize (os.take k).map (fun f : Int => xs.getD f.toNat 0) ++ List.replicate (os.length - k) 0 = us at *
      have hst := Lib.hid (ownsN_store hown k x)
      rw [HSET.out] at hst
      have B3 := hbel.setCell (p := ⟨gb, k, none⟩) (Nat.le_refl _) (.int .i64 x)
      obtain ⟨q0, q1⟩ : (∃ y, wr.cell? ⟨gb, k, none⟩ = some y) ∧ wr.frozen? ⟨gb, k, none⟩ = false :=
        ⟨⟨_, ownsN_cell hown (List.getElem?_eq_getElem (by have := HLL.out; omega))⟩, ownsN_frozen hown k⟩
      obtain ⟨y0, q0⟩ := q0
      clear hown hbel hbel'
      go_wp2
      go_roundw
      case rel => exact ⟨k + 1, by omega, by go_num, hst.out, B3⟩
      case measure => simp [intOf]; omega
    · obtain rfl : k = os.length := by omega
      have HE : Hid ((os.take os.length).map (fun f : Int => xs.getD f.toNat 0) ++ List.replicate (os.length - os.length) 0 = os.map (fun f : Int => xs.getD f.toNat 0)) := Lib.hid (by simp)
      rw [HE.out] at hown
      go_wp2
      go_ret
      exact ⟨_, rfl, hown, HB0.out.trans (hbel.mono (by omega))⟩
set_option maxHeartbeats 4000000 in
set_option maxRecDepth 100000 in
theorem implProjectRow (id tn rid : Int) (cv ov vv : Value) (cs : List CondD) (os xs : List Int) (w : World) (h : CondsR w cv cs) (hn : cs.length ≤ 1048576) (g : Ints w ov os) (hm : os.length ≤ 1048576) (gr : Ints w vv xs) (hx : xs.length ≤ 1048576) :
    Calls Try.prog 30 #[qV id tn cv ov, .agg #[.int .i64 rid, vv]] w (FreshInts w (projL id tn cs os (rid, xs))) := by
  obtain ⟨ca, ccap, rfl⟩ := condsR_len h
  obtain ⟨oa, ocap, rfl⟩ := ints_len g
  obtain ⟨va, vcap, rfl⟩ := ints_len gr
  have hb0 : Below w.heap.size w ((w.alloc (.cells #[.int .i64 id, .int .i64 tn, .slice ca cs.length ccap, .slice oa os.length ocap] 36)).alloc (.cells #[.int .i64 rid, .slice va xs.length vcap] 51)) := ((Below.refl _ w).alloc (Nat.le_refl _) _).alloc (by simp) _
  have HG1 : Hid (((w.alloc (.cells #[.int .i64 id, .int .i64 tn, .slice ca cs.length ccap, .slice oa os.length ocap] 36)).alloc (.cells #[.int .i64 rid, .slice va xs.length vcap] 51)).heap[w.heap.size + 1]? = some (.cells #[.int .i64 rid, .slice va xs.length vcap] 51 (0, 0))) := Lib.hid (by
    have := heap_alloc_new (w.alloc (.cells #[.int .i64 id, .int .i64 tn, .slice ca cs.length ccap, .slice oa os.length ocap] 36)) (.cells #[.int .i64 rid, .slice va xs.length vcap] 51)
    simpa only [World.size_alloc] using this)
  have HG0 : Hid (((w.alloc (.cells #[.int .i64 id, .int .i64 tn, .slice ca cs.length ccap, .slice oa os.length ocap] 36)).alloc (.cells #[.int .i64 rid, .slice va xs.length vcap] 51)).heap[w.heap.size]? = some (.cells #[.int .i64 id, .int .i64 tn, .slice ca cs.length ccap, .slice oa os.length ocap] 36 (0, 0))) := Lib.hid (by
    rw [Below.heap_alloc _ _ _ (by simp)]
    exact heap_alloc_new w _)
  have HZ : Hid (w.heap.size + 1 < ((w.alloc (.cells #[.int .i64 id, .int .i64 tn, .slice ca cs.length ccap, .slice oa os.length ocap] 36)).alloc (.cells #[.int .i64 rid, .slice va xs.length vcap] 51)).heap.size) := Lib.hid (by simp)
  have HB0 := Lib.hid hb0
  have HC := Lib.hid (condsR_below h hb0)
  have HO := Lib.hid (ints_below g hb0)
  have HX := Lib.hid (ints_below gr hb0)
  cases hq : queryB id tn cs os with
  | false =>
    have HQ := Lib.hid (fun w h g => checkQuery_no id tn (.slice ca cs.length ccap) (.slice oa os.length ocap) cs os w h hn g hm hq)
    have HT : Hid (projL id tn cs os (rid, xs) = []) := Lib.hid (by unfold projL; rw [hq]; simp)
    clear h g hn hm gr hx hb0 hq
    rw [HT.out]
    go_enter Try.func30, Try.ntmps30
    go_wp2_with fail
    generalize ((w.alloc (.cells #[.int .i64 id, .int .i64 tn, .slice ca cs.length ccap, .slice oa os.length ocap] 36)).alloc (.cells #[.int .i64 rid, .slice va xs.length vcap] 51)) = W at *
    refine (HQ.out _ HC.out HO.out).mono ?_
    rintro e w1 ⟨rfl, b1⟩
    have c1 := HB0.out.trans (b1.mono HB0.out.size)
    have c2 := c1.alloc c1.size (.cells #[.slice none 0 0, .slice none 0 0] 88)
    go_wp2
    go_ret
    exact ⟨_, rfl, ownsN_nil _ _, c2⟩
  | true =>
    have HQ := Lib.hid (fun w h g => checkQuery_yes id tn (.slice ca cs.length ccap) (.slice oa os.length ocap) cs os w h hn g hm hq)
    have HR := Lib.hid (fun w h => implIsRow rid (.slice va xs.length vcap) xs w h hx)
    cases hr : rowB (rid, xs) with
    | false =>
      have HT : Hid (projL id tn cs os (rid, xs) = []) := Lib.hid (by unfold projL; rw [hr]; simp)
      rw [hr] at HR
      clear h g hn hm gr hx hb0 hq hr
      rw [HT.out]
      go_enter Try.func30, Try.ntmps30
      go_wp2_with fail
      generalize ((w.alloc (.cells #[.int .i64 id, .int .i64 tn, .slice ca cs.length ccap, .slice oa os.length ocap] 36)).alloc (.cells #[.int .i64 rid, .slice va xs.length vcap] 51)) = W at *
      refine (HQ.out _ HC.out HO.out).mono ?_
      rintro e w1 ⟨rfl, b1⟩
      have a1 : Below w1.heap.size w1 (w1.alloc (.cells #[.slice ca cs.length ccap, .slice oa os.length ocap] 88)) := (Below.refl _ _).alloc (Nat.le_refl _) _
      have b2 := b1.trans (a1.mono b1.size)
      have c2 := HB0.out.trans (b2.mono HB0.out.size)
      obtain ⟨p0, p1, p2, p3, r0, r1⟩ := qr_boxes HG0.out HG1.out HZ.out b2
      clear a1 b1
      go_wp2_with fail
      refine (HR.out _ (ints_below HX.out b2)).mono ?_
      rintro e w3 ⟨rfl, b3⟩
      have c3 := c2.trans (b3.mono c2.size)
      go_wp2
      go_ret
      exact ⟨_, rfl, ownsN_nil _ _, c3⟩
    | true =>
      have HM := Lib.hid (fun w h g gr => project_any rid (.slice ca cs.length ccap) (.slice oa os.length ocap) (.slice va xs.length vcap) cs os xs w h g (query_few hq).2 gr (row_len hr) (fun k hk => query_fields hq hk))
      have HT : Hid (projL id tn cs os (rid, xs) = os.map (fun f : Int => xs.getD f.toNat 0)) := Lib.hid (by unfold projL; rw [hr, hq]; rfl)
      rw [hr] at HR
      clear h g hn hm gr hx hb0 hq hr
      rw [HT.out]
      generalize os.map (fun f : Int => xs.getD f.toNat 0) = res at *
      go_enter Try.func30, Try.ntmps30
      go_wp2_with fail
      generalize ((w.alloc (.cells #[.int .i64 id, .int .i64 tn, .slice ca cs.length ccap, .slice oa os.length ocap] 36)).alloc (.cells #[.int .i64 rid, .slice va xs.length vcap] 51)) = W at *
      refine (HQ.out _ HC.out HO.out).mono ?_
      rintro e w1 ⟨rfl, b1⟩
      have a1 : Below w1.heap.size w1 (w1.alloc (.cells #[.slice ca cs.length ccap, .slice oa os.length ocap] 88)) := (Below.refl _ _).alloc (Nat.le_refl _) _
      have b2 := b1.trans (a1.mono b1.size)
      have c2 := HB0.out.trans (b2.mono HB0.out.size)
      obtain ⟨p0, p1, p2, p3, r0, r1⟩ := qr_boxes HG0.out HG1.out HZ.out b2
      have HCQ := Lib.hid (heap_alloc_new w1 (.cells #[.slice ca cs.length ccap, .slice oa os.length ocap] 88))
      clear a1 b1
      go_wp2_with fail
      generalize w1.alloc (.cells #[.slice ca cs.length ccap, .slice oa os.length ocap] 88) = W2 at *
      refine (HR.out _ (ints_below HX.out b2)).mono ?_
      rintro e w3 ⟨rfl, b3⟩
      have c3 := c2.trans (b3.mono c2.size)
      have b4 := b2.trans (b3.mono b2.size)
      clear p0 p1 p2 p3 r0 r1
      obtain ⟨p0, p1, p2, p3, r0, r1⟩ := qr_boxes HG0.out HG1.out HZ.out b4
      obtain ⟨s0, s1⟩ := box_cells HCQ.out b3
      go_wp2_with fail
      refine (HM.out _ (condsR_below HC.out b4) (ints_below HO.out b4) (ints_below HX.out b4)).mono ?_
      rintro e w5 ⟨pv, rfl, o5, b5⟩
      have c5 := c3.trans (b5.mono c3.size)
      have o6 := ownsN_up o5 c3.size
      go_wp2
      go_ret
      exact ⟨_, rfl, o6, c5⟩
theorem ownsR_none (w : World) (B : Nat) : OwnsR w B (.slice none 0 0) [] := ⟨[], fun _ => undef, World.ownsRow_nil w B _ _, fun j hj => by simp at hj, fun i j hi => by simp at hi⟩
/-- A slice that the call made, whose rows came in. -/
def RowsAt (w0 w : World) (v : Value) (rs : List RowD) : Prop := ∃ (cs : List Value) (vs : Nat → Value), RowsC w w0.heap.size v rs.length cs ∧ ∀ j, j < rs.length → cs[j * 2]? = some (.int .i64 (rs.getD j (0, [])).1) ∧ cs[j * 2 + 1]? = some (vs j) ∧ Ints w0 (vs j) (rs.getD j (0, [])).2
theorem rowsAt_nil (w0 w : World) : RowsAt w0 w (.slice none 0 0) [] := ⟨[], fun _ => undef, World.ownsRow_nil w _ _ _, fun j hj => by simp at hj⟩
theorem rowsAt_below {w0 w w' : World} {v : Value} {rs : List RowD} (h : RowsAt w0 w v rs) (hb : Below w.heap.size w w') : RowsAt w0 w' v rs := by
  obtain ⟨cs, vs, h1, h2⟩ := h
  exact ⟨cs, vs, rowsC_kept h1 hb, h2⟩
theorem rowsAt_rows {w0 w : World} {v : Value} {rs : List RowD} (h : RowsAt w0 w v rs) (hb : Below w0.heap.size w0 w) : RowsR w v rs := by
  obtain ⟨cs, vs, h1, h2⟩ := h
  have h1' := h1
  rcases h1.2 with ⟨rfl, h0⟩ | ⟨g, cap, cur, rfl, hb', hg, hn, hm, hcs, htake⟩
  · exact Or.inl ⟨List.eq_nil_of_length_eq_zero h0, none, 0, rfl⟩
  · refine Or.inr ⟨g, 0, cap, vs, rfl, hn, (Array.getElem?_eq_some_iff.1 hg).1, fun j hj => ?_⟩
    obtain ⟨g1, g2, g3⟩ := h2 j hj
    refine ⟨?_, ?_, ints_below g3 hb⟩
    · rw [Nat.zero_add, World.ownsRow.cellAt h1' (j * 2) (by omega)]; exact g1
    · rw [Nat.zero_add, World.ownsRow.cellAt h1' (j * 2 + 1) (by omega)]; exact g2
theorem rowsAt_push {w0 w : World} {v : Value} {rs : List RowD} {cs : List Value} {vs : Nat → Value} {id : Int} {vv : Value} {xs : List Int} (hl : cs.length = rs.length * 2)
    (h2 : ∀ j, j < rs.length → cs[j * 2]? = some (.int .i64 (rs.getD j (0, [])).1) ∧ cs[j * 2 + 1]? = some (vs j) ∧ Ints w0 (vs j) (rs.getD j (0, [])).2)
    (h : RowsC w w0.heap.size v (rs.length + 1) (cs ++ [.int .i64 id, vv])) (g : Ints w0 vv xs) : RowsAt w0 w v (rs ++ [(id, xs)]) := by
  refine ⟨cs ++ [.int .i64 id, vv], fun j => if j < rs.length then vs j else vv, by simpa using h, fun j hj => ?_⟩
  by_cases e : j < rs.length
  · obtain ⟨g1, g2, g3⟩ := h2 j e
    rw [List.getElem?_append_left (by omega), List.getElem?_append_left (by omega)]
    simp only [if_pos e]
    rw [show (rs ++ [(id, xs)]).getD j (0, []) = rs.getD j (0, []) by simp [List.getD, List.getElem?_append_left e]]
    exact ⟨g1, g2, g3⟩
  · have ej : j = rs.length := by simp at hj; omega
    subst ej
    rw [List.getElem?_append_right (by omega), List.getElem?_append_right (by omega), hl, Nat.sub_self, show rs.length * 2 + 1 - rs.length * 2 = 1 by omega]
    simp only [if_neg e]
    rw [show (rs ++ [(id, xs)]).getD rs.length (0, []) = (id, xs) by simp [List.getD]]
    exact ⟨rfl, rfl, g⟩
set_option maxHeartbeats 8000000 in
set_option maxRecDepth 100000 in
theorem implAnswerAlone (id tn : Int) (cv ov v : Value) (cs : List CondD) (os : List Int) (rs : List RowD) (w : World) (h : CondsR w cv cs) (hn : cs.length ≤ 1048576) (g : Ints w ov os) (hm : os.length ≤ 1048576) (gr : RowsR w v rs) (hs : szL rs ≤ 1048576) :
    Calls Try.prog 39 #[qV id tn cv ov, v] w (FreshRows w (answerL (matchB id tn cs os) rs)) := by
  obtain ⟨ca, ccap, rfl⟩ := condsR_len h
  obtain ⟨oa, ocap, rfl⟩ := ints_len g
  obtain ⟨ra, rcap, rfl⟩ := rowsR_len gr
  have HLEN := Lib.hid (szL_len hs)
  have hb0 : Below w.heap.size w (w.alloc (.cells #[.int .i64 id, .int .i64 tn, .slice ca cs.length ccap, .slice oa os.length ocap] 36)) := (Below.refl _ w).alloc (Nat.le_refl _) _
  have HB0 := Lib.hid hb0
  have HC0 := Lib.hid h
  have HO0 := Lib.hid g
  have HR0 := Lib.hid gr
  have HS := Lib.hid hs
  cases hq : queryB id tn cs os with
  | false =>
    have HQ := Lib.hid (fun w h g => checkQuery_no id tn (.slice ca cs.length ccap) (.slice oa os.length ocap) cs os w h hn g hm hq)
    have hf : (rs.filter (matchB id tn cs os)) = [] := by
      rw [List.filter_eq_nil_iff]
      intro r _
      unfold matchB; rw [hq]; simp
    have HT : Hid (answerL (matchB id tn cs os) rs = []) := Lib.hid (by unfold answerL; rw [hf]; rfl)
    clear h g hn hm gr hs hb0 hq hf
    rw [HT.out]
    go_enter Try.func39, Try.ntmps39
    go_wp2_with fail
    generalize w.alloc (.cells #[.int .i64 id, .int .i64 tn, .slice ca cs.length ccap, .slice oa os.length ocap] 36) = W at *
    refine (HQ.out _ (condsR_below HC0.out HB0.out) (ints_below HO0.out HB0.out)).mono ?_
    rintro e w1 ⟨rfl, b1⟩
    have c1 := HB0.out.trans (b1.mono HB0.out.size)
    have c2 := c1.alloc c1.size (.cells #[.slice none 0 0, .slice none 0 0] 88)
    go_wp2
    go_ret
    exact ⟨_, rfl, ownsR_none _ _, c2⟩
  | true =>
    have HQ := Lib.hid (fun w h g => checkQuery_yes id tn (.slice ca cs.length ccap) (.slice oa os.length ocap) cs os w h hn g hm hq)
    have HMT : Hid (∀ (rid : Int) (vv : Value) (xs : List Int) (w : World), CondsR w (.slice ca cs.length ccap) cs → Ints w (.slice oa os.length ocap) os → Ints w vv xs → xs.length ≤ 1048576 → Calls Try.prog 66 #[.agg #[.slice ca cs.length ccap, .slice oa os.length ocap], .agg #[.int .i64 rid, vv]] w fun e w' => e = .returned (.bool (matchB id tn cs os (rid, xs))) ∧ Below w.heap.size w w') := Lib.hid (fun rid vv xs w h g gr hx => by
      have := matches_any rid (.slice ca cs.length ccap) (.slice oa os.length ocap) vv cs os xs w h hn g gr hx (fun k hk => query_conds hq hk)
      have e : matchB id tn cs os (rid, xs) = (rowB (rid, xs) && cs.all (okC xs)) := by unfold matchB; rw [hq]; simp
      rw [e]; exact this)
    clear h g hn hm gr hs hb0 hq
    obtain ⟨m, hmm⟩ : ∃ m, matchB id tn cs os = m := ⟨_, rfl⟩
    rw [hmm] at HMT ⊢
    clear hmm
    have HSORT : Hid (∀ v w, RowsR w v (rs.filter m) → Calls Try.prog 72 #[v] w (FreshRows w (answerL m rs))) := Lib.hid (fun v w h => implSortRows v (rs.filter m) w h (Nat.le_trans (szL_filter m rs) HS.out))
    go_enter Try.func39, Try.ntmps39
    go_wp2_with fail
    generalize w.alloc (.cells #[.int .i64 id, .int .i64 tn, .slice ca cs.length ccap, .slice oa os.length ocap] 36) = W at *
    refine (HQ.out _ (condsR_below HC0.out HB0.out) (ints_below HO0.out HB0.out)).mono ?_
    rintro e w1 ⟨rfl, b1⟩
    have c1 := HB0.out.trans (b1.mono HB0.out.size)
    have c2 := c1.alloc c1.size (.cells #[.slice ca cs.length ccap, .slice oa os.length ocap] 88)
    have HCQ := Lib.hid (heap_alloc_new w1 (.cells #[.slice ca cs.length ccap, .slice oa os.length ocap] 88))
    have HWR := Lib.hid c1.size
    clear c1 b1
    go_wp2
    obtain ⟨R, hR⟩ : ∃ R, w1.heap.size = R := ⟨_, rfl⟩
    rw [hR] at HCQ HWR ⊢
    generalize w1.alloc (.cells #[.slice ca cs.length ccap, .slice oa os.length ocap] 88) = W2 at *
    clear hR
    have HRL := Lib.hid (Array.getElem?_eq_some_iff.1 HCQ.out).1
    go_loopw [7, 19] (fun v i wr => ∃ k : Nat, k ≤ rs.length ∧ i = .int .i64 k ∧ RowsAt W2 wr v ((rs.take k).filter m) ∧ Below W2.heap.size W2 wr) (fun _ i _ => rs.length - (intOf i).toNat)
    case atStart => exact ⟨0, Nat.zero_le _, rfl, by rw [List.take_zero]; exact rowsAt_nil _ _, Below.refl _ _⟩
    case round =>
      obtain ⟨k, hk, rfl, hown, hbel⟩ := hrel
      by_cases hlt : k < rs.length
      · obtain ⟨b, off, cap', vv, hv, hbl, hc1, hc2, hI⟩ := rowsR_at (rowsR_below HR0.out c2) hlt
        simp only [Value.slice.injEq] at hv
        obtain ⟨rfl, _, rfl⟩ := hv
        have HI := Lib.hid hI
        obtain ⟨va, vcap, rfl⟩ := ints_len hI
        have d1 := (hbel.cell (p := ⟨b, off + k * 2, none⟩) hbl).trans hc1
        have d2 := (hbel.cell (p := ⟨b, off + k * 2 + 1, none⟩) hbl).trans hc2
        have hxl := szL_row HS.out hlt
        have i1 : (0 : Int) ≤ (k : Int) := by omega
        have i2 : (k : Int) < (rs.length : Int) := by omega
        have i5 : k ≤ 1048576 := by have := HLEN.out; omega
        have HY := Lib.hid (filter_yes (m := m) hlt)
        have HN := Lib.hid (filter_no (m := m) hlt)
        have HFL : Hid (((rs.take k).filter m).length ≤ 1048576) := Lib.hid (by have := List.length_filter_le m (rs.take k); rw [List.length_take] at this; have := HLEN.out; omega)
        have HM := Lib.hid (fun w h g gr => HMT.out (rs.getD k (0, [])).1 (.slice va (rs.getD k (0, [])).2.length vcap) (rs.getD k (0, [])).2 w h g gr hxl)
        have er : (((rs.getD k (0, [])).1, (rs.getD k (0, [])).2) : RowD) = rs.getD k (0, []) := rfl
        rw [er] at HM
        clear er hI hc1 hc2 hbl
        generalize rs.getD k (0, []) = r at *
        obtain ⟨rid, xs⟩ := r
        try simp only at d1 d2 HI HM hxl
        have hW : Below wr.heap.size wr (wr.alloc (.cells #[.int .i64 rid, .slice va xs.length vcap] 51)) := (Below.refl _ wr).alloc (Nat.le_refl _) _
        have HG3 := Lib.hid (heap_alloc_new wr (.cells #[.int .i64 rid, .slice va xs.length vcap] 51))
        have bW := hbel.trans (hW.mono hbel.size)
        obtain ⟨s0, s1⟩ := box_cells HCQ.out bW
        have own3 := rowsAt_below hown hW
        clear hown hbel hW
        go_wp2_with fail
        obtain ⟨R3, hR3⟩ : ∃ R3, wr.heap.size = R3 := ⟨_, rfl⟩
        rw [hR3] at HG3 ⊢
        generalize wr.alloc (.cells #[.int .i64 rid, .slice va xs.length vcap] 51) = W3 at *
        clear hR3 d1 d2
        refine (HM.out _ (condsR_below HC0.out (c2.trans (bW.mono c2.size))) (ints_below HO0.out (c2.trans (bW.mono c2.size))) (ints_below HI.out bW)).mono ?_
        rintro e w4 ⟨rfl, b4⟩
        have c4 := bW.trans (b4.mono bW.size)
        obtain ⟨t0, t1⟩ := box_cells HG3.out b4
        have own4 := rowsAt_below own3 b4
        clear own3 bW s0 s1 b4
        cases hmr : m (rid, xs) with
        | false =>
          have HNN := HN.out hmr
          rw [HNN] at own4
          clear hmr HY HN HNN
          go_wp2
          go_roundw
          case rel => exact ⟨k + 1, by omega, by go_num, own4, c4⟩
          case measure => simp [intOf]; omega
        | true =>
          have HYY := Lib.hid (HY.out hmr)
          clear hmr HY HN
          obtain ⟨rcs, rvs, o1, o2⟩ := own4
          have O2 := Lib.hid o2
          have hl2 : rcs.length = ((rs.take k).filter m).length * 2 := o1.1
          have HL2 := Lib.hid hl2
          clear o2 hl2
          generalize (rs.take k).filter m = ac at *
          have a5 : Below w4.heap.size w4 (w4.alloc (.cells #[.int .i64 rid, .slice va xs.length vcap] 51)) := (Below.refl _ _).alloc (Nat.le_refl _) _
          have o5 := rowsC_kept o1 a5
          have c5 := c4.trans (a5.mono c4.size)
          have hq5 : ∀ j u, ([Value.int .i64 rid, .slice va xs.length vcap] : List Value)[j]? = some u → (w4.alloc (.cells #[.int .i64 rid, .slice va xs.length vcap] 51)).cell? ((⟨w4.heap.size, 0, none⟩ : Addr).add j) = some u := fun j u hj => by
            have e : (⟨w4.heap.size, 0, none⟩ : Addr).add j = ⟨w4.heap.size, j, none⟩ := by unfold Addr.add; split <;> simp_all
            rw [e, cell_lit]
            simpa using hj
          have HQ5 := Lib.hid hq5
          clear hq5 o1 a5 c4
          go_wp2_with (at_builtin; refine append_rows rfl (.tmp 26) (.tmp 28) rfl W2.heap.size _ ac.length rcs rfl o5 c5.size ⟨w4.heap.size, 0, none⟩ 1 _ [.int .i64 rid, .slice va xs.length vcap] rfl rfl HQ5.out (by intro u hu; simp at hu; rcases hu with rfl | rfl <;> rfl) (by have := HFL.out; omega) ?_; intro u6 w6 o6 g6 _ _)
          have c6 := c5.grown g6 c5.size (fun b hb => (o5.lt b hb).1)
          have own6 := rowsAt_push HL2.out O2.out o6 HI.out
          rw [HYY.out] at own6
          go_roundw
          case rel => exact ⟨k + 1, by omega, by go_num, own6, c6⟩
          case measure => simp [intOf]; omega
      · obtain rfl : k = rs.length := by omega
        rw [List.take_length] at hown
        have c9 := c2.trans (hbel.mono c2.size)
        have HF := Lib.hid (rowsAt_rows hown hbel)
        clear hown hbel
        go_wp2_with fail
        refine (HSORT.out _ _ HF.out).mono ?_
        rintro e w10 ⟨sv, rfl, o10, b10⟩
        have c10 := c9.trans (b10.mono c9.size)
        have o11 := ownsR_up o10 c9.size
        go_wp2
        go_ret
        exact ⟨_, rfl, o11, c10⟩
end Go.Proofs.Yteelgogfpidcdaa
