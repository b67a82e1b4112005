/-
  Texts of the proof, merged: QueryImpl, Strs, FmtMath, FmtWalks, RunMath, FmtSet, Cut, ParMath, NumMath, ParWalks, ParSetMath, QueryCut, RowFmt, QueryFmt, QuerySl, QueryParM, ParPart, RowParM, QueryProgM, AppStrs, RangeP, QueryFmtP, SplitC, Iter, ParImpl, SplitInts, ParSet, QueryParS.
-/
import Derived.Test.YtijfnabglblimaaGreatDoorFQ2
import Derived.Test.YtijfnabglblimaaGreatDoorShelf
import Derived.WalkKit
import Derived.Below
import Derived.Lib.Hide
import Derived.OwnWalk
import Derived.Laws.BytesArg
import Derived.Lib.ItoaMem
import Derived.Lib.ItoaLen
import Derived.WalkSpells
import Derived.Lib.AppendIntMem
import Derived.Laws.Concat
import Derived.IntWalk
import Derived.Lib.Strings
import Derived.Laws.BitsLemmas
import Derived.Maps.AppendAt
import Derived.Lib.Split
import Derived.Lib.IndexMore
import Derived.Deep.Upon
import Derived.RangeFuncNested
import Derived.RangeFuncBound
import Derived.RangeFuncCalls
import Derived.RangeFuncLeaves
import Derived.Shelf.Abstract
import Derived.Shelf.RegionOpen
import Derived.OwnWalkIn
import Derived.TacticsInMore
import Derived.LoopNIn
import Derived.LoopIn
import Derived.Laws.RangeAny
import Derived.Deep.CutRange
namespace Go.Proofs.YtijfnabglblimaaGreatDoor
open Go.RowKit
set_option linter.unusedVariables false
set_option linter.unusedSimpArgs false
theorem proj_set {os xs : List Int} {k : Nat} (hk : k < os.length) : ((os.take k).map (fun f : Int => xs.getD f.toNat 0) ++ List.replicate (os.length - k) 0).set k (xs.getD (os.getD k 0).toNat 0) = (os.take (k + 1)).map (fun f : Int => xs.getD f.toNat 0) ++ List.replicate (os.length - (k + 1)) 0 := by
  have hl : ((os.take k).map (fun f : Int => xs.getD f.toNat 0)).length = k := by rw [List.length_map, List.length_take]; omega
  rw [List.set_append_right _ _ (by omega), hl, Nat.sub_self, show os.length - k = (os.length - (k + 1)) + 1 by omega, List.replicate_succ, List.set_cons_zero, ← proj_step hk, List.append_assoc]
  rfl
set_option maxHeartbeats 4000000 in
set_option maxRecDepth 100000 in
theorem project_any (rid : Int) (cv ov vv : Value) (cs : List CondD) (os xs : List Int) (w : World) (h : CondsR w cv cs) (g : Ints w ov os) (hm : os.length ≤ 3) (gr : Ints w vv xs) (h3 : xs.length = 3) (hc : ∀ k, k < os.length → 0 ≤ os.getD k 0 ∧ os.getD k 0 ≤ 2) :
    Calls Tryz.prog 44 #[.agg #[cv, ov], .agg #[.int .i64 rid, vv]] w (FreshInts w (os.map (fun f : Int => xs.getD f.toNat 0))) := by
  obtain ⟨ca, ccap, rfl⟩ := condsR_len h
  obtain ⟨oa, ocap, rfl⟩ := ints_len g
  obtain ⟨va, vcap, rfl⟩ := ints_len gr
  obtain ⟨i0, hi, hz0, hz1, hz2⟩ := info_parts Tryz.infoI64
  have HI := Lib.hid hi; have HZ0 := Lib.hid hz0; have HZ1 := Lib.hid hz1; have HZ2 := Lib.hid hz2
  clear hi hz0 hz1 hz2
  have hb0 : Below w.heap.size w ((w.alloc (.cells #[.slice ca cs.length ccap, .slice oa os.length ocap] 52)).alloc (.cells #[.int .i64 rid, .slice va xs.length vcap] 36)) := ((Below.refl _ w).alloc (Nat.le_refl _) _).alloc (by simp) _
  have HG1 : Hid (((w.alloc (.cells #[.slice ca cs.length ccap, .slice oa os.length ocap] 52)).alloc (.cells #[.int .i64 rid, .slice va xs.length vcap] 36)).heap[w.heap.size + 1]? = some (.cells #[.int .i64 rid, .slice va xs.length vcap] 36 (0, 0))) := Lib.hid (by
    have := heap_alloc_new (w.alloc (.cells #[.slice ca cs.length ccap, .slice oa os.length ocap] 52)) (.cells #[.int .i64 rid, .slice va xs.length vcap] 36)
    simpa only [World.size_alloc] using this)
  have HG0 : Hid (((w.alloc (.cells #[.slice ca cs.length ccap, .slice oa os.length ocap] 52)).alloc (.cells #[.int .i64 rid, .slice va xs.length vcap] 36)).heap[w.heap.size]? = some (.cells #[.slice ca cs.length ccap, .slice oa os.length ocap] 52 (0, 0))) := Lib.hid (by
    rw [Below.heap_alloc _ _ _ (by simp)]
    exact heap_alloc_new w _)
  have HZ : Hid (w.heap.size + 1 < ((w.alloc (.cells #[.slice ca cs.length ccap, .slice oa os.length ocap] 52)).alloc (.cells #[.int .i64 rid, .slice va xs.length vcap] 36)).heap.size) := Lib.hid (by simp)
  have HB0 := Lib.hid hb0
  have HO := Lib.hid (ints_below g hb0)
  have HX := Lib.hid (ints_below gr hb0)
  have HM := Lib.hid hm
  have HLN := Lib.hid h3
  have HCD := Lib.hid hc
  clear h g hm gr hb0 h3 hc
  go_enter Tryz.func44, Tryz.ntmps44
  go_wp2_with (at_make; refine wpList_make_full _ rfl (.tmp 10) (.tmp 10) 25 rfl w.heap.size 3 i0 (.int .i64 0) 1 Tryz.underlying25 HI.out HZ0.out HZ1.out _ _ _ _ os.length rfl rfl rfl rfl (by rw [HZ2.out]; have := HM.out; omega) (by have := HM.out; unfold maxLen; omega) (by simp; omega) ?_)
  intro w1 hown0 hg0
  have hown1 := ownsN_made (by simpa using hown0)
  have hbel1 := (Below.refl ((w.alloc (.cells #[.slice ca cs.length ccap, .slice oa os.length ocap] 52)).alloc (.cells #[.int .i64 rid, .slice va xs.length vcap] 36)).heap.size ((w.alloc (.cells #[.slice ca cs.length ccap, .slice oa os.length ocap] 52)).alloc (.cells #[.int .i64 rid, .slice va xs.length vcap] 36))).grown hg0 (Nat.le_refl _) (fun k hk => by cases hk)
  have HWS : Hid (((w.alloc (.cells #[.slice ca cs.length ccap, .slice oa os.length ocap] 52)).alloc (.cells #[.int .i64 rid, .slice va xs.length vcap] 36)).heap.size = w.heap.size + 1 + 1) := Lib.hid (by simp)
  clear hown0 hg0
  obtain ⟨gb, hgb⟩ : ∃ gb, w.heap.size + 1 + 1 = gb := ⟨_, rfl⟩
  rw [hgb] at hown1 HWS ⊢
  generalize ((w.alloc (.cells #[.slice ca cs.length ccap, .slice oa os.length ocap] 52)).alloc (.cells #[.int .i64 rid, .slice va xs.length vcap] 36)) = W at *
  obtain ⟨p0, p1, r0, r1⟩ := cr_boxes HG0.out HG1.out HZ.out hbel1
  rw [HWS.out] at hbel1
  go_wp2
  clear p0 p1 r0 r1
  go_loopw [15] (fun i wr => ∃ k : Nat, k ≤ os.length ∧ i = .int .i64 k ∧ OwnsN wr w.heap.size (.slice (some ⟨gb, 0, none⟩) os.length os.length) ((os.take k).map (fun f : Int => xs.getD f.toNat 0) ++ List.replicate (os.length - k) 0) ∧ Below gb W wr) (fun i _ => os.length - (intOf i).toNat)
  case atStart => exact ⟨0, Nat.zero_le _, rfl, by simpa using hown1, hbel1⟩
  case round =>
    obtain ⟨k, hk, rfl, hown, hbel⟩ := hrel
    clear hown1 hbel1
    have hbel' : Below W.heap.size W wr := by rw [HWS.out]; exact hbel
    obtain ⟨p0, p1, r0, r1⟩ := cr_boxes HG0.out HG1.out HZ.out hbel'
    by_cases hlt : k < os.length
    · obtain ⟨b, off, cap', hv, hbl, hc⟩ := ints_cell (ints_below HO.out hbel') (by omega)
      simp only [Value.slice.injEq] at hv
      obtain ⟨rfl, _, rfl⟩ := hv
      have hcell := hc k hlt
      have i1 : (0 : Int) ≤ (k : Int) := by omega
      have i2 : (k : Int) < (os.length : Int) := by omega
      have i5 : k < 4 := by have := HM.out; omega
      have hcd := HCD.out k hlt
      have HSET := Lib.hid (proj_set (xs := xs) hlt)
      have HLL : Hid (((os.take k).map (fun f : Int => xs.getD f.toNat 0) ++ List.replicate (os.length - k) 0).length = os.length) := Lib.hid (by simp; omega)
      clear hc
      generalize os.getD k 0 = f at *
      obtain ⟨fn, rfl⟩ := Int.eq_ofNat_of_zero_le hcd.1
      have hfn : fn < xs.length := by have := HLN.out; omega
      obtain ⟨bx, offx, capx, hvx, hblx, hcx⟩ := ints_cell (ints_below HX.out hbel') (by omega)
      simp only [Value.slice.injEq] at hvx
      obtain ⟨rfl, _, rfl⟩ := hvx
      have x0 := hcx fn hfn
      have j1 : (0 : Int) ≤ (fn : Int) := by omega
      have j2 : (fn : Int) < (xs.length : Int) := by omega
      rw [Int.toNat_natCast] at HSET
      clear hcx hcd
      generalize xs.getD fn 0 = x at *
      generalize (os.take k).map (fun f : Int => xs.getD f.toNat 0) ++ List.replicate (os.length - k) 0 = us at *
      have hst := Lib.hid (ownsN_store hown k x)
      rw [HSET.out] at hst
      have B3 := hbel.setCell (p := ⟨gb, k, none⟩) (Nat.le_refl _) (.int .i64 x)
      obtain ⟨q0, q1⟩ : (∃ y, wr.cell? ⟨gb, k, none⟩ = some y) ∧ wr.frozen? ⟨gb, k, none⟩ = false :=
        ⟨⟨_, ownsN_cell hown (List.getElem?_eq_getElem (by have := HLL.out; omega))⟩, ownsN_frozen hown k⟩
      obtain ⟨y0, q0⟩ := q0
      clear hown hbel hbel'
      go_wp2
      go_roundw
      case rel => exact ⟨k + 1, by omega, by go_num, hst.out, B3⟩
      case measure => simp [intOf]; omega
    · obtain rfl : k = os.length := by omega
      have HE : Hid ((os.take os.length).map (fun f : Int => xs.getD f.toNat 0) ++ List.replicate (os.length - os.length) 0 = os.map (fun f : Int => xs.getD f.toNat 0)) := Lib.hid (by simp)
      rw [HE.out] at hown
      go_wp2
      go_ret
      exact ⟨_, rfl, hown, HB0.out.trans (hbel.mono (by omega))⟩
set_option maxHeartbeats 4000000 in
set_option maxRecDepth 100000 in
theorem implProjectRow (id tn rid : Int) (cv ov vv : Value) (cs : List CondD) (os xs : List Int) (w : World) (h : CondsR w cv cs) (hn : cs.length ≤ 1048576) (g : Ints w ov os) (hm : os.length ≤ 1048576) (gr : Ints w vv xs) (hx : xs.length ≤ 1048576) :
    Calls Tryz.prog 17 #[qV id tn cv ov, .agg #[.int .i64 rid, vv]] w (FreshInts w (projL id tn cs os (rid, xs))) := by
  obtain ⟨ca, ccap, rfl⟩ := condsR_len h
  obtain ⟨oa, ocap, rfl⟩ := ints_len g
  obtain ⟨va, vcap, rfl⟩ := ints_len gr
  have hb0 : Below w.heap.size w ((w.alloc (.cells #[.int .i64 id, .int .i64 tn, .slice ca cs.length ccap, .slice oa os.length ocap] 27)).alloc (.cells #[.int .i64 rid, .slice va xs.length vcap] 36)) := ((Below.refl _ w).alloc (Nat.le_refl _) _).alloc (by simp) _
  have HG1 : Hid (((w.alloc (.cells #[.int .i64 id, .int .i64 tn, .slice ca cs.length ccap, .slice oa os.length ocap] 27)).alloc (.cells #[.int .i64 rid, .slice va xs.length vcap] 36)).heap[w.heap.size + 1]? = some (.cells #[.int .i64 rid, .slice va xs.length vcap] 36 (0, 0))) := Lib.hid (by
    have := heap_alloc_new (w.alloc (.cells #[.int .i64 id, .int .i64 tn, .slice ca cs.length ccap, .slice oa os.length ocap] 27)) (.cells #[.int .i64 rid, .slice va xs.length vcap] 36)
    simpa only [World.size_alloc] using this)
  have HG0 : Hid (((w.alloc (.cells #[.int .i64 id, .int .i64 tn, .slice ca cs.length ccap, .slice oa os.length ocap] 27)).alloc (.cells #[.int .i64 rid, .slice va xs.length vcap] 36)).heap[w.heap.size]? = some (.cells #[.int .i64 id, .int .i64 tn, .slice ca cs.length ccap, .slice oa os.length ocap] 27 (0, 0))) := Lib.hid (by
    rw [Below.heap_alloc _ _ _ (by simp)]
    exact heap_alloc_new w _)
  have HZ : Hid (w.heap.size + 1 < ((w.alloc (.cells #[.int .i64 id, .int .i64 tn, .slice ca cs.length ccap, .slice oa os.length ocap] 27)).alloc (.cells #[.int .i64 rid, .slice va xs.length vcap] 36)).heap.size) := Lib.hid (by simp)
  have HB0 := Lib.hid hb0
  have HC := Lib.hid (condsR_below h hb0)
  have HO := Lib.hid (ints_below g hb0)
  have HX := Lib.hid (ints_below gr hb0)
  cases hq : queryB id tn cs os with
  | false =>
    have HQ := Lib.hid (fun w h g => checkQuery_no id tn (.slice ca cs.length ccap) (.slice oa os.length ocap) cs os w h hn g hm hq)
    have HT : Hid (projL id tn cs os (rid, xs) = []) := Lib.hid (by unfold projL; rw [hq]; simp)
    clear h g hn hm gr hx hb0 hq
    rw [HT.out]
    go_enter Tryz.func17, Tryz.ntmps17
    go_wp2_with fail
    generalize ((w.alloc (.cells #[.int .i64 id, .int .i64 tn, .slice ca cs.length ccap, .slice oa os.length ocap] 27)).alloc (.cells #[.int .i64 rid, .slice va xs.length vcap] 36)) = W at *
    refine (HQ.out _ HC.out HO.out).mono ?_
    rintro e w1 ⟨rfl, b1⟩
    have c1 := HB0.out.trans (b1.mono HB0.out.size)
    have c2 := c1.alloc c1.size (.cells #[.slice none 0 0, .slice none 0 0] 52)
    go_wp2
    go_ret
    exact ⟨_, rfl, ownsN_nil _ _, c2⟩
  | true =>
    have HQ := Lib.hid (fun w h g => checkQuery_yes id tn (.slice ca cs.length ccap) (.slice oa os.length ocap) cs os w h hn g hm hq)
    have HR := Lib.hid (fun w h => implIsRow rid (.slice va xs.length vcap) xs w h hx)
    cases hr : rowB (rid, xs) with
    | false =>
      have HT : Hid (projL id tn cs os (rid, xs) = []) := Lib.hid (by unfold projL; rw [hr]; simp)
      rw [hr] at HR
      clear h g hn hm gr hx hb0 hq hr
      rw [HT.out]
      go_enter Tryz.func17, Tryz.ntmps17
      go_wp2_with fail
      generalize ((w.alloc (.cells #[.int .i64 id, .int .i64 tn, .slice ca cs.length ccap, .slice oa os.length ocap] 27)).alloc (.cells #[.int .i64 rid, .slice va xs.length vcap] 36)) = W at *
      refine (HQ.out _ HC.out HO.out).mono ?_
      rintro e w1 ⟨rfl, b1⟩
      have a1 : Below w1.heap.size w1 (w1.alloc (.cells #[.slice ca cs.length ccap, .slice oa os.length ocap] 52)) := (Below.refl _ _).alloc (Nat.le_refl _) _
      have b2 := b1.trans (a1.mono b1.size)
      have c2 := HB0.out.trans (b2.mono HB0.out.size)
      obtain ⟨p0, p1, p2, p3, r0, r1⟩ := qr_boxes HG0.out HG1.out HZ.out b2
      clear a1 b1
      go_wp2_with fail
      refine (HR.out _ (ints_below HX.out b2)).mono ?_
      rintro e w3 ⟨rfl, b3⟩
      have c3 := c2.trans (b3.mono c2.size)
      go_wp2
      go_ret
      exact ⟨_, rfl, ownsN_nil _ _, c3⟩
    | true =>
      have HM := Lib.hid (fun w h g gr => project_any rid (.slice ca cs.length ccap) (.slice oa os.length ocap) (.slice va xs.length vcap) cs os xs w h g (query_few hq).2 gr (row_len hr) (fun k hk => query_fields hq hk))
      have HT : Hid (projL id tn cs os (rid, xs) = os.map (fun f : Int => xs.getD f.toNat 0)) := Lib.hid (by unfold projL; rw [hr, hq]; rfl)
      rw [hr] at HR
      clear h g hn hm gr hx hb0 hq hr
      rw [HT.out]
      generalize os.map (fun f : Int => xs.getD f.toNat 0) = res at *
      go_enter Tryz.func17, Tryz.ntmps17
      go_wp2_with fail
      generalize ((w.alloc (.cells #[.int .i64 id, .int .i64 tn, .slice ca cs.length ccap, .slice oa os.length ocap] 27)).alloc (.cells #[.int .i64 rid, .slice va xs.length vcap] 36)) = W at *
      refine (HQ.out _ HC.out HO.out).mono ?_
      rintro e w1 ⟨rfl, b1⟩
      have a1 : Below w1.heap.size w1 (w1.alloc (.cells #[.slice ca cs.length ccap, .slice oa os.length ocap] 52)) := (Below.refl _ _).alloc (Nat.le_refl _) _
      have b2 := b1.trans (a1.mono b1.size)
      have c2 := HB0.out.trans (b2.mono HB0.out.size)
      obtain ⟨p0, p1, p2, p3, r0, r1⟩ := qr_boxes HG0.out HG1.out HZ.out b2
      have HCQ := Lib.hid (heap_alloc_new w1 (.cells #[.slice ca cs.length ccap, .slice oa os.length ocap] 52))
      clear a1 b1
      go_wp2_with fail
      generalize w1.alloc (.cells #[.slice ca cs.length ccap, .slice oa os.length ocap] 52) = W2 at *
      refine (HR.out _ (ints_below HX.out b2)).mono ?_
      rintro e w3 ⟨rfl, b3⟩
      have c3 := c2.trans (b3.mono c2.size)
      have b4 := b2.trans (b3.mono b2.size)
      clear p0 p1 p2 p3 r0 r1
      obtain ⟨p0, p1, p2, p3, r0, r1⟩ := qr_boxes HG0.out HG1.out HZ.out b4
      obtain ⟨s0, s1⟩ := box_cells HCQ.out b3
      go_wp2_with fail
      refine (HM.out _ (condsR_below HC.out b4) (ints_below HO.out b4) (ints_below HX.out b4)).mono ?_
      rintro e w5 ⟨pv, rfl, o5, b5⟩
      have c5 := c3.trans (b5.mono c3.size)
      have o6 := ownsN_up o5 c3.size
      go_wp2
      go_ret
      exact ⟨_, rfl, o6, c5⟩
theorem ownsR_none (w : World) (B : Nat) : OwnsR w B (.slice none 0 0) [] := ⟨[], fun _ => undef, World.ownsRow_nil w B _ _, fun j hj => by simp at hj, fun i j hi => by simp at hi⟩
/-- A slice that the call made, whose rows came in. -/
def RowsAt (w0 w : World) (v : Value) (rs : List RowD) : Prop := ∃ (cs : List Value) (vs : Nat → Value), RowsC w w0.heap.size v rs.length cs ∧ ∀ j, j < rs.length → cs[j * 2]? = some (.int .i64 (rs.getD j (0, [])).1) ∧ cs[j * 2 + 1]? = some (vs j) ∧ Ints w0 (vs j) (rs.getD j (0, [])).2
theorem rowsAt_nil (w0 w : World) : RowsAt w0 w (.slice none 0 0) [] := ⟨[], fun _ => undef, World.ownsRow_nil w _ _ _, fun j hj => by simp at hj⟩
theorem rowsAt_below {w0 w w' : World} {v : Value} {rs : List RowD} (h : RowsAt w0 w v rs) (hb : Below w.heap.size w w') : RowsAt w0 w' v rs := by
  obtain ⟨cs, vs, h1, h2⟩ := h
  exact ⟨cs, vs, rowsC_kept h1 hb, h2⟩
theorem rowsAt_rows {w0 w : World} {v : Value} {rs : List RowD} (h : RowsAt w0 w v rs) (hb : Below w0.heap.size w0 w) : RowsR w v rs := by
  obtain ⟨cs, vs, h1, h2⟩ := h
  have h1' := h1
  rcases h1.2 with ⟨rfl, h0⟩ | ⟨g, cap, cur, rfl, hb', hg, hn, hm, hcs, htake⟩
  · exact Or.inl ⟨List.eq_nil_of_length_eq_zero h0, none, 0, rfl⟩
  · refine Or.inr ⟨g, 0, cap, vs, rfl, hn, (Array.getElem?_eq_some_iff.1 hg).1, fun j hj => ?_⟩
    obtain ⟨g1, g2, g3⟩ := h2 j hj
    refine ⟨?_, ?_, ints_below g3 hb⟩
    · rw [Nat.zero_add, World.ownsRow.cellAt h1' (j * 2) (by omega)]; exact g1
    · rw [Nat.zero_add, World.ownsRow.cellAt h1' (j * 2 + 1) (by omega)]; exact g2
theorem rowsAt_push {w0 w : World} {v : Value} {rs : List RowD} {cs : List Value} {vs : Nat → Value} {id : Int} {vv : Value} {xs : List Int} (hl : cs.length = rs.length * 2)
    (h2 : ∀ j, j < rs.length → cs[j * 2]? = some (.int .i64 (rs.getD j (0, [])).1) ∧ cs[j * 2 + 1]? = some (vs j) ∧ Ints w0 (vs j) (rs.getD j (0, [])).2)
    (h : RowsC w w0.heap.size v (rs.length + 1) (cs ++ [.int .i64 id, vv])) (g : Ints w0 vv xs) : RowsAt w0 w v (rs ++ [(id, xs)]) := by
  refine ⟨cs ++ [.int .i64 id, vv], fun j => if j < rs.length then vs j else vv, by simpa using h, fun j hj => ?_⟩
  by_cases e : j < rs.length
  · obtain ⟨g1, g2, g3⟩ := h2 j e
    rw [List.getElem?_append_left (by omega), List.getElem?_append_left (by omega)]
    simp only [if_pos e]
    rw [show (rs ++ [(id, xs)]).getD j (0, []) = rs.getD j (0, []) by simp [List.getD, List.getElem?_append_left e]]
    exact ⟨g1, g2, g3⟩
  · have ej : j = rs.length := by simp at hj; omega
    subst ej
    rw [List.getElem?_append_right (by omega), List.getElem?_append_right (by omega), hl, Nat.sub_self, show rs.length * 2 + 1 - rs.length * 2 = 1 by omega]
    simp only [if_neg e]
    rw [show (rs ++ [(id, xs)]).getD rs.length (0, []) = (id, xs) by simp [List.getD]]
    exact ⟨rfl, rfl, g⟩
set_option maxHeartbeats 8000000 in
set_option maxRecDepth 100000 in
theorem implAnswerAlone (id tn : Int) (cv ov v : Value) (cs : List CondD) (os : List Int) (rs : List RowD) (w : World) (h : CondsR w cv cs) (hn : cs.length ≤ 1048576) (g : Ints w ov os) (hm : os.length ≤ 1048576) (gr : RowsR w v rs) (hs : szL rs ≤ 1048576) :
    Calls Tryz.prog 6 #[qV id tn cv ov, v] w (FreshRows w (answerL (matchB id tn cs os) rs)) := by
  obtain ⟨ca, ccap, rfl⟩ := condsR_len h
  obtain ⟨oa, ocap, rfl⟩ := ints_len g
  obtain ⟨ra, rcap, rfl⟩ := rowsR_len gr
  have HLEN := Lib.hid (szL_len hs)
  have hb0 : Below w.heap.size w (w.alloc (.cells #[.int .i64 id, .int .i64 tn, .slice ca cs.length ccap, .slice oa os.length ocap] 27)) := (Below.refl _ w).alloc (Nat.le_refl _) _
  have HB0 := Lib.hid hb0
  have HC0 := Lib.hid h
  have HO0 := Lib.hid g
  have HR0 := Lib.hid gr
  have HS := Lib.hid hs
  cases hq : queryB id tn cs os with
  | false =>
    have HQ := Lib.hid (fun w h g => checkQuery_no id tn (.slice ca cs.length ccap) (.slice oa os.length ocap) cs os w h hn g hm hq)
    have hf : (rs.filter (matchB id tn cs os)) = [] := by
      rw [List.filter_eq_nil_iff]
      intro r _
      unfold matchB; rw [hq]; simp
    have HT : Hid (answerL (matchB id tn cs os) rs = []) := Lib.hid (by unfold answerL; rw [hf]; rfl)
    clear h g hn hm gr hs hb0 hq hf
    rw [HT.out]
    go_enter Tryz.func6, Tryz.ntmps6
    go_wp2_with fail
    generalize w.alloc (.cells #[.int .i64 id, .int .i64 tn, .slice ca cs.length ccap, .slice oa os.length ocap] 27) = W at *
    refine (HQ.out _ (condsR_below HC0.out HB0.out) (ints_below HO0.out HB0.out)).mono ?_
    rintro e w1 ⟨rfl, b1⟩
    have c1 := HB0.out.trans (b1.mono HB0.out.size)
    have c2 := c1.alloc c1.size (.cells #[.slice none 0 0, .slice none 0 0] 52)
    go_wp2
    go_ret
    exact ⟨_, rfl, ownsR_none _ _, c2⟩
  | true =>
    have HQ := Lib.hid (fun w h g => checkQuery_yes id tn (.slice ca cs.length ccap) (.slice oa os.length ocap) cs os w h hn g hm hq)
    have HMT : Hid (∀ (rid : Int) (vv : Value) (xs : List Int) (w : World), CondsR w (.slice ca cs.length ccap) cs → Ints w (.slice oa os.length ocap) os → Ints w vv xs → xs.length ≤ 1048576 → Calls Tryz.prog 26 #[.agg #[.slice ca cs.length ccap, .slice oa os.length ocap], .agg #[.int .i64 rid, vv]] w fun e w' => e = .returned (.bool (matchB id tn cs os (rid, xs))) ∧ Below w.heap.size w w') := Lib.hid (fun rid vv xs w h g gr hx => by
      have := matches_any rid (.slice ca cs.length ccap) (.slice oa os.length ocap) vv cs os xs w h hn g gr hx (fun k hk => query_conds hq hk)
      have e : matchB id tn cs os (rid, xs) = (rowB (rid, xs) && cs.all (okC xs)) := by unfold matchB; rw [hq]; simp
      rw [e]; exact this)
    clear h g hn hm gr hs hb0 hq
    obtain ⟨m, hmm⟩ : ∃ m, matchB id tn cs os = m := ⟨_, rfl⟩
    rw [hmm] at HMT ⊢
    clear hmm
    have HSORT : Hid (∀ v w, RowsR w v (rs.filter m) → Calls Tryz.prog 21 #[v] w (FreshRows w (answerL m rs))) := Lib.hid (fun v w h => implSortRows v (rs.filter m) w h (Nat.le_trans (szL_filter m rs) HS.out))
    go_enter Tryz.func6, Tryz.ntmps6
    go_wp2_with fail
    generalize w.alloc (.cells #[.int .i64 id, .int .i64 tn, .slice ca cs.length ccap, .slice oa os.length ocap] 27) = W at *
    refine (HQ.out _ (condsR_below HC0.out HB0.out) (ints_below HO0.out HB0.out)).mono ?_
    rintro e w1 ⟨rfl, b1⟩
    have c1 := HB0.out.trans (b1.mono HB0.out.size)
    have c2 := c1.alloc c1.size (.cells #[.slice ca cs.length ccap, .slice oa os.length ocap] 52)
    have HCQ := Lib.hid (heap_alloc_new w1 (.cells #[.slice ca cs.length ccap, .slice oa os.length ocap] 52))
    have HWR := Lib.hid c1.size
    clear c1 b1
    go_wp2
    obtain ⟨R, hR⟩ : ∃ R, w1.heap.size = R := ⟨_, rfl⟩
    rw [hR] at HCQ HWR ⊢
    generalize w1.alloc (.cells #[.slice ca cs.length ccap, .slice oa os.length ocap] 52) = W2 at *
    clear hR
    have HRL := Lib.hid (Array.getElem?_eq_some_iff.1 HCQ.out).1
    go_loopw [7, 19] (fun v i wr => ∃ k : Nat, k ≤ rs.length ∧ i = .int .i64 k ∧ RowsAt W2 wr v ((rs.take k).filter m) ∧ Below W2.heap.size W2 wr) (fun _ i _ => rs.length - (intOf i).toNat)
    case atStart => exact ⟨0, Nat.zero_le _, rfl, by rw [List.take_zero]; exact rowsAt_nil _ _, Below.refl _ _⟩
    case round =>
      obtain ⟨k, hk, rfl, hown, hbel⟩ := hrel
      by_cases hlt : k < rs.length
      · obtain ⟨b, off, cap', vv, hv, hbl, hc1, hc2, hI⟩ := rowsR_at (rowsR_below HR0.out c2) hlt
        simp only [Value.slice.injEq] at hv
        obtain ⟨rfl, _, rfl⟩ := hv
        have HI := Lib.hid hI
        obtain ⟨va, vcap, rfl⟩ := ints_len hI
        have d1 := (hbel.cell (p := ⟨b, off + k * 2, none⟩) hbl).trans hc1
        have d2 := (hbel.cell (p := ⟨b, off + k * 2 + 1, none⟩) hbl).trans hc2
        have hxl := szL_row HS.out hlt
        have i1 : (0 : Int) ≤ (k : Int) := by omega
        have i2 : (k : Int) < (rs.length : Int) := by omega
        have i5 : k ≤ 1048576 := by have := HLEN.out; omega
        have HY := Lib.hid (filter_yes (m := m) hlt)
        have HN := Lib.hid (filter_no (m := m) hlt)
        have HFL : Hid (((rs.take k).filter m).length ≤ 1048576) := Lib.hid (by have := List.length_filter_le m (rs.take k); rw [List.length_take] at this; have := HLEN.out; omega)
        have HM := Lib.hid (fun w h g gr => HMT.out (rs.getD k (0, [])).1 (.slice va (rs.getD k (0, [])).2.length vcap) (rs.getD k (0, [])).2 w h g gr hxl)
        have er : (((rs.getD k (0, [])).1, (rs.getD k (0, [])).2) : RowD) = rs.getD k (0, []) := rfl
        rw [er] at HM
        clear er hI hc1 hc2 hbl
        generalize rs.getD k (0, []) = r at *
        obtain ⟨rid, xs⟩ := r
        try simp only at d1 d2 HI HM hxl
        have hW : Below wr.heap.size wr (wr.alloc (.cells #[.int .i64 rid, .slice va xs.length vcap] 36)) := (Below.refl _ wr).alloc (Nat.le_refl _) _
        have HG3 := Lib.hid (heap_alloc_new wr (.cells #[.int .i64 rid, .slice va xs.length vcap] 36))
        have bW := hbel.trans (hW.mono hbel.size)
        obtain ⟨s0, s1⟩ := box_cells HCQ.out bW
        have own3 := rowsAt_below hown hW
        clear hown hbel hW
        go_wp2_with fail
        obtain ⟨R3, hR3⟩ : ∃ R3, wr.heap.size = R3 := ⟨_, rfl⟩
        rw [hR3] at HG3 ⊢
        generalize wr.alloc (.cells #[.int .i64 rid, .slice va xs.length vcap] 36) = W3 at *
        clear hR3 d1 d2
        refine (HM.out _ (condsR_below HC0.out (c2.trans (bW.mono c2.size))) (ints_below HO0.out (c2.trans (bW.mono c2.size))) (ints_below HI.out bW)).mono ?_
        rintro e w4 ⟨rfl, b4⟩
        have c4 := bW.trans (b4.mono bW.size)
        obtain ⟨t0, t1⟩ := box_cells HG3.out b4
        have own4 := rowsAt_below own3 b4
        clear own3 bW s0 s1 b4
        cases hmr : m (rid, xs) with
        | false =>
          have HNN := HN.out hmr
          rw [HNN] at own4
          clear hmr HY HN HNN
          go_wp2
          go_roundw
          case rel => exact ⟨k + 1, by omega, by go_num, own4, c4⟩
          case measure => simp [intOf]; omega
        | true =>
          have HYY := Lib.hid (HY.out hmr)
          clear hmr HY HN
          obtain ⟨rcs, rvs, o1, o2⟩ := own4
          have O2 := Lib.hid o2
          have hl2 : rcs.length = ((rs.take k).filter m).length * 2 := o1.1
          have HL2 := Lib.hid hl2
          clear o2 hl2
          generalize (rs.take k).filter m = ac at *
          have a5 : Below w4.heap.size w4 (w4.alloc (.cells #[.int .i64 rid, .slice va xs.length vcap] 36)) := (Below.refl _ _).alloc (Nat.le_refl _) _
          have o5 := rowsC_kept o1 a5
          have c5 := c4.trans (a5.mono c4.size)
          have hq5 : ∀ j u, ([Value.int .i64 rid, .slice va xs.length vcap] : List Value)[j]? = some u → (w4.alloc (.cells #[.int .i64 rid, .slice va xs.length vcap] 36)).cell? ((⟨w4.heap.size, 0, none⟩ : Addr).add j) = some u := fun j u hj => by
            have e : (⟨w4.heap.size, 0, none⟩ : Addr).add j = ⟨w4.heap.size, j, none⟩ := by unfold Addr.add; split <;> simp_all
            rw [e, cell_lit]
            simpa using hj
          have HQ5 := Lib.hid hq5
          clear hq5 o1 a5 c4
          go_wp2_with (at_builtin; refine append_rows rfl (.tmp 26) (.tmp 28) rfl W2.heap.size _ ac.length rcs rfl o5 c5.size ⟨w4.heap.size, 0, none⟩ 1 _ [.int .i64 rid, .slice va xs.length vcap] rfl rfl HQ5.out (by intro u hu; simp at hu; rcases hu with rfl | rfl <;> rfl) (by have := HFL.out; omega) ?_; intro u6 w6 o6 g6 _ _)
          have c6 := c5.grown g6 c5.size (fun b hb => (o5.lt b hb).1)
          have own6 := rowsAt_push HL2.out O2.out o6 HI.out
          rw [HYY.out] at own6
          go_roundw
          case rel => exact ⟨k + 1, by omega, by go_num, own6, c6⟩
          case measure => simp [intOf]; omega
      · obtain rfl : k = rs.length := by omega
        rw [List.take_length] at hown
        have c9 := c2.trans (hbel.mono c2.size)
        have HF := Lib.hid (rowsAt_rows hown hbel)
        clear hown hbel
        go_wp2_with fail
        refine (HSORT.out _ _ HF.out).mono ?_
        rintro e w10 ⟨sv, rfl, o10, b10⟩
        have c10 := c9.trans (b10.mono c9.size)
        have o11 := ownsR_up o10 c9.size
        go_wp2
        go_ret
        exact ⟨_, rfl, o11, c10⟩
end Go.Proofs.YtijfnabglblimaaGreatDoor
namespace Go.Proofs.YtijfnabglblimaaGreatDoor
open Go.RowKit
set_option linter.unusedVariables false
theorem Tryz.infoStr : (Tryz.prog.info? 9).map (fun i => (i.zero, i.size, i.bytes)) = some (some (.string ⟨#[]⟩), 1, 16) := by kernel_rfl
/-- The slice v reads as the texts xs. -/
def Strs (w : World) (v : Value) (xs : List ByteArray) : Prop :=
  (xs = [] ∧ ∃ a cap, v = .slice a 0 cap) ∨ ∃ b off cap, v = .slice (some ⟨b, off, none⟩) xs.length cap ∧ xs.length ≤ cap ∧ b < w.heap.size ∧ ∀ j, j < xs.length → w.cell? ⟨b, off + j, none⟩ = some (.string (xs.getD j ⟨#[]⟩))
/-- The slice v owns the texts xs, in a block from B on. -/
def OwnsS (w : World) (B : Nat) (v : Value) (xs : List ByteArray) : Prop := w.ownsRow B 9 1 v xs.length (xs.map (Value.string))
theorem ownsS_lit (w : World) (B : Nat) (hb : B ≤ w.heap.size) (C : Array Value) (n : Nat) (xs : List ByteArray) (hC : C.toList = xs.map (Value.string)) (hn : n = xs.length) (hm : n ≤ maxLen) :
    OwnsS (w.alloc (.cells C 9)) B (.slice (some ⟨w.heap.size, 0, none⟩) n n) xs := by
  subst hn
  have := World.ownsRow_lit (e := 9) (size := 1) w C xs.length hb hm (by have := congrArg List.length hC; simpa using this)
  rw [hC] at this
  exact this
/-- What is owned reads so. -/
theorem ownsS_strs {w : World} {B : Nat} {v : Value} {xs : List ByteArray} (h : OwnsS w B v xs) : Strs w v xs := by
  rcases h.2 with ⟨rfl, h0⟩ | ⟨g, cap, cur, rfl, hb, hg, hn, hm, hcs, htake⟩
  · have : xs = [] := List.eq_nil_of_length_eq_zero h0
    subst this
    exact Or.inl ⟨rfl, none, 0, rfl⟩
  · refine Or.inr ⟨g, 0, cap, rfl, hn, (Array.getElem?_eq_some_iff.1 hg).1, ?_⟩
    intro j hj
    have := World.ownsRow.cells h (g := g) rfl j (.string (xs.getD j ⟨#[]⟩)) (by simp [List.getElem?_eq_getElem hj])
    have e : (⟨g, 0, none⟩ : Addr).add j = ⟨g, 0 + j, none⟩ := by unfold Addr.add; split <;> simp_all
    rwa [e] at this
/-- What 'make([]string, n)' owns. -/
theorem ownsS_made {w : World} {B g n : Nat} (h : w.ownsRow B 9 1 (.slice (some ⟨g, 0, none⟩) n n) n (madeCells #[Value.string ⟨#[]⟩] n).toList) : OwnsS w B (.slice (some ⟨g, 0, none⟩) n n) (List.replicate n ⟨#[]⟩) := by
  have e : (madeCells #[Value.string ⟨#[]⟩] n).toList = List.replicate n (.string ⟨#[]⟩) := toList_madeCells_one (.string ⟨#[]⟩) n
  rw [e] at h
  unfold OwnsS
  simpa using h
theorem ownsS_len {w : World} {B : Nat} {a : Option Addr} {n cap : Nat} {xs : List ByteArray} (h : OwnsS w B (.slice a n cap) xs) : n = xs.length := by
  rcases h.2 with ⟨h', h0⟩ | ⟨_, _, _, h', _⟩
  · simp only [Value.slice.injEq] at h'; omega
  · simp only [Value.slice.injEq] at h'; exact h'.2.1
theorem ownsS_cell {w : World} {B g n cap j : Nat} {xs : List ByteArray} {x : ByteArray} (h : OwnsS w B (.slice (some ⟨g, 0, none⟩) n cap) xs) (hx : xs[j]? = some x) : w.cell? ⟨g, j, none⟩ = some (.string x) := by
  have := World.ownsRow.cells h (g := g) rfl j (.string x) (by simp [hx])
  have e : (⟨g, 0, none⟩ : Addr).add j = ⟨g, j, none⟩ := by unfold Addr.add; split <;> simp_all
  rwa [e] at this
theorem ownsS_frozen {w : World} {B g n cap : Nat} {xs : List ByteArray} (h : OwnsS w B (.slice (some ⟨g, 0, none⟩) n cap) xs) (j : Nat) : w.frozen? ⟨g, j, none⟩ = false := by
  obtain rfl := ownsS_len h
  exact World.ownsRow.frozenAt h j
theorem ownsS_store {w : World} {B g n cap : Nat} {xs : List ByteArray} (h : OwnsS w B (.slice (some ⟨g, 0, none⟩) n cap) xs) (j : Nat) (x : ByteArray) : OwnsS (w.setCell ⟨g, j, none⟩ (.string x)) B (.slice (some ⟨g, 0, none⟩) n cap) (xs.set j x) := by
  obtain rfl := ownsS_len h
  have := (World.ownsRow.stored h j (.string x)).1
  unfold OwnsS
  rw [List.length_set, List.map_set]
  exact this
theorem ownsS_ge {w : World} {B g n cap : Nat} {xs : List ByteArray} (h : OwnsS w B (.slice (some ⟨g, 0, none⟩) n cap) xs) : B ≤ g ∧ g < w.heap.size := h.lt g rfl
/-- What is owned stays owned while only blocks beyond it, or none of its own, are written. -/
theorem ownsS_below {w w' : World} {B : Nat} {v : Value} {xs : List ByteArray} (h : OwnsS w B v xs) (hb : Below w.heap.size w w') : OwnsS w' B v xs := by
  refine ⟨h.1, ?_⟩
  rcases h.2 with hn | ⟨g, cap, cur, rfl, hb', hg, rest⟩
  · exact .inl hn
  · refine .inr ⟨g, cap, cur, rfl, hb', ?_, rest⟩
    rw [hb.block g (Array.getElem?_eq_some_iff.1 hg).1]
    exact hg
end Go.Proofs.YtijfnabglblimaaGreatDoor
namespace Go.Proofs.YtijfnabglblimaaGreatDoor
/-- The decimal digits of u. -/
def decI (u : Nat) : List Int := if u < 10 then [48 + (u : Int)] else decI (u / 10) ++ [48 + ((u % 10 : Nat) : Int)]
  termination_by u
  decreasing_by omega
theorem decI_small (u : Nat) (h : u < 10) : decI u = [48 + (u : Int)] := by rw [decI, if_pos h]
theorem decI_big (u : Nat) (h : 10 ≤ u) : decI u = decI (u / 10) ++ [48 + ((u % 10 : Nat) : Int)] := by rw [decI, if_neg (by omega)]
theorem decI_digits (u : Nat) : (decI u).map (fun n => UInt8.ofNat n.toNat) = Lib.decDigits u := by
  induction u using Nat.strongRecOn with
  | _ u ih =>
    by_cases h : u < 10
    · rw [decI_small u h, Lib.decDigits_one h]
      simp only [List.map_cons, List.map_nil]
      rw [show (48 + (u : Int)).toNat = 48 + u by omega]
    · rw [decI_big u (by omega), Lib.decDigits, dif_neg h, List.map_append, ih _ (by omega)]
      simp only [List.map_cons, List.map_nil]
      rw [show (48 + ((u % 10 : Nat) : Int)).toNat = 48 + u % 10 by omega]
theorem str_decI (u : Nat) : strOfNums (decI u) = ⟨(Lib.itoa (u : Int)).toArray⟩ := by
  unfold strOfNums; rw [decI_digits, Lib.itoa_nonneg]
theorem str_decI_neg (u : Nat) (h : 1 ≤ u) : strOfNums (45 :: decI u) = ⟨(Lib.itoa (-(u : Int))).toArray⟩ := by
  unfold strOfNums; rw [List.map_cons, decI_digits, Lib.itoa_neg u h]; rfl
theorem decI_length (u : Nat) (h : u ≤ 9223372036854775808) (h1 : 1 ≤ u) : (decI u).length ≤ 21 := by
  have h2 := Lib.itoa_length_le (-(u : Int)) (by omega) (by omega)
  rw [Lib.itoa_neg u h1, ← decI_digits] at h2
  simp at h2
  omega
/-- What the loop has made of u: xs, and m is left. -/
def DecInv (u m : Nat) (xs : List Int) : Prop := if m = 0 then xs = decI u else decI m ++ xs = decI u
theorem decInv_start (u : Nat) (h : 1 ≤ u) : DecInv u u [] := by unfold DecInv; rw [if_neg (by omega)]; simp
theorem decInv_step {u m : Nat} {xs : List Int} (h : DecInv u m xs) (hm : 1 ≤ m) : DecInv u (m / 10) ((48 + ((m % 10 : Nat) : Int)) :: xs) := by
  unfold DecInv at *
  rw [if_neg (by omega)] at h
  by_cases h10 : m < 10
  · rw [if_pos (by omega), ← h, decI_small m h10, show m % 10 = m by omega]; rfl
  · rw [if_neg (by omega), ← h, decI_big m (by omega)]; simp
theorem decInv_end {u : Nat} {xs : List Int} (h : DecInv u 0 xs) : xs = decI u := by unfold DecInv at h; rwa [if_pos rfl] at h
theorem decInv_len {u m : Nat} {xs : List Int} (h : DecInv u m xs) (hu : u ≤ 9223372036854775808) (h1 : 1 ≤ u) : xs.length ≤ 21 := by
  have h2 := decI_length u hu h1
  unfold DecInv at h
  split at h
  · rw [h]; exact h2
  · rw [← h] at h2; simp at h2; omega
end Go.Proofs.YtijfnabglblimaaGreatDoor
namespace Go.Proofs.YtijfnabglblimaaGreatDoor
open Go.RowKit
set_option linter.unusedVariables false
theorem specFmt_zero (w : World) : Calls Tryz.prog 38 #[.int .i64 0] w fun e w' => e = .returned (.string ⟨#[48]⟩) ∧ Below w.heap.size w w' := by
  go_enter Tryz.func38, Tryz.ntmps38
  go_wp2
  go_ret
  exact ⟨rfl, Below.refl _ _⟩
set_option maxRecDepth 100000 in
theorem specFmt_pos (u : Nat) (w : World) (h1 : 1 ≤ u) (h2 : u ≤ 9223372036854775807) : Calls Tryz.prog 38 #[.int .i64 u] w fun e w' => e = .returned (.string (strOfNums (decI u))) ∧ Below w.heap.size w w' := by
  have hcv := string_lit1
  have hz : ((u : Int) == 0) = false := by rw [beq_eq_false_iff_ne]; omega
  have hneg : decide ((u : Int) < 0) = false := by simp
  go_enter Tryz.func38, Tryz.ntmps38
  go_wp2
  go_loopw [0, 3] (fun n s wr => ∃ (m : Nat) (xs : List Int), m ≤ u ∧ n = .int .i64 m ∧ s = .string (strOfNums xs) ∧ Below w.heap.size w wr ∧ Hid (DecInv u m xs)) (fun n _ _ => (intOf n).toNat)
  case atStart => exact ⟨u, [], Nat.le_refl _, rfl, rfl, Below.refl _ _, Lib.hid (decInv_start u h1)⟩
  case round =>
    obtain ⟨m, xs, hm, rfl, rfl, hbel, hinv⟩ := hrel
    have hB := hbel.size
    by_cases hlt : 1 ≤ m
    · have hz : ((m : Int) != 0) = true := by rw [bne_iff_ne]; omega
      have HS := Lib.hid (decInv_step hinv.out hlt)
      have hl := decInv_len hinv.out (by omega) h1
      have hb2 := hbel.alloc hB (.cells #[.int .u8 (48 + (m : Int) % 10)] 5)
      have hadd := concat_cons (48 + (m : Int) % 10) xs (by omega)
      have hml : m / 10 < m := by omega
      go_wp2
      go_roundw
      case rel => exact ⟨m / 10, _, by omega, by go_num, by rfl, hb2, by have := HS.out; simpa using Lib.hid this⟩
      case measure => simp [intOf]; omega
    · obtain rfl : m = 0 := by omega
      have HE := Lib.hid (decInv_end hinv.out)
      go_wp2
      go_ret
      exact ⟨ret_strI HE.out, hbel⟩
set_option maxRecDepth 100000 in
theorem specFmt_neg (u : Nat) (w : World) (h1 : 1 ≤ u) (h2 : u ≤ 9223372036854775808) : Calls Tryz.prog 38 #[.int .i64 (-(u : Int))] w fun e w' => e = .returned (.string (strOfNums (45 :: decI u))) ∧ Below w.heap.size w w' := by
  have hcv := string_lit1
  have hz : ((-(u : Int)) == 0) = false := by rw [beq_eq_false_iff_ne]; omega
  have hneg : decide (0 < u) = true := by simp; omega
  have H2 := Lib.hid h2; clear h2
  go_enter Tryz.func38, Tryz.ntmps38
  go_wp2
  go_loopw [0, 3] (fun n s wr => ∃ (m : Nat) (xs : List Int), m ≤ u ∧ n = .int .i64 (-(m : Int)) ∧ s = .string (strOfNums xs) ∧ Below w.heap.size w wr ∧ Hid (DecInv u m xs)) (fun n _ _ => (-(intOf n)).toNat)
  case atStart => exact ⟨u, [], Nat.le_refl _, rfl, rfl, Below.refl _ _, Lib.hid (decInv_start u h1)⟩
  case round =>
    obtain ⟨m, xs, hm, rfl, rfl, hbel, hinv⟩ := hrel
    have hB := hbel.size
    by_cases hlt : 1 ≤ m
    · have hz : ((-(m : Int)) != 0) = true := by rw [bne_iff_ne]; omega
      have HS := Lib.hid (decInv_step hinv.out hlt)
      have hl := decInv_len hinv.out H2.out h1
      have hml : m / 10 < m := by omega
      have e1 : (-(m : Int)).tmod 10 = -((m : Int) % 10) := by rw [Int.neg_tmod, Int.tmod_eq_emod_of_nonneg (by omega)]
      have e2 : (-(m : Int)).tdiv 10 = -((m : Int) / 10) := by rw [Int.neg_tdiv, Int.tdiv_eq_ediv_of_nonneg (by omega)]
      have hbd : (m : Int) / 10 ≤ 922337203685477580 := by have := H2.out; omega
      by_cases hr : m % 10 = 0
      · have hr' : (m : Int) % 10 = 0 := by omega
        have HX : Hid (DecInv u (m / 10) (48 :: xs)) := Lib.hid (by have := HS.out; rwa [show ((m % 10 : Nat) : Int) = 0 by omega] at this)
        have hadd := concat_cons 48 xs (by omega)
        have hb2 := hbel.alloc hB (.cells #[.int .u8 48] 5)
        rw [hr'] at e1
        clear hr hr' HS
        go_wp2
        go_roundw
        case rel => exact ⟨m / 10, _, by omega, by go_num, by rfl, hb2, HX⟩
        case measure => simp [intOf]; omega
      · have hr' : 0 < (m : Int) % 10 := by omega
        have hadd := concat_cons (48 + (m : Int) % 10) xs (by omega)
        have hb2 := hbel.alloc hB (.cells #[.int .u8 (48 + (m : Int) % 10)] 5)
        clear hr
        go_wp2
        go_roundw
        case rel => exact ⟨m / 10, _, by omega, by go_num, by rfl, hb2, by have := HS.out; simpa using Lib.hid this⟩
        case measure => simp [intOf]; omega
    · obtain rfl : m = 0 := by omega
      have HE := Lib.hid (decInv_end hinv.out)
      have hl := decInv_len hinv.out H2.out h1
      have hadd := concat_cons 45 xs (by omega)
      have hadd' : ∀ w, (Op.stringOp .add ⟨#[45]⟩ (strOfNums xs)).run Tryz.prog w = .ok (.string (strOfNums (45 :: xs))) w := hadd
      go_wp2
      go_ret
      exact ⟨ret_strI (by rw [HE.out]), hbel⟩
theorem specFmt (n : Int) (w : World) (h0 : -9223372036854775808 ≤ n) (h1 : n ≤ 9223372036854775807) : Calls Tryz.prog 38 #[.int .i64 n] w fun e w' => e = .returned (.string ⟨(Lib.itoa n).toArray⟩) ∧ Below w.heap.size w w' := by
  by_cases hz : n = 0
  · subst hz; rw [show Lib.itoa 0 = [48] by unfold Lib.itoa; rw [if_neg (by decide)]; exact Lib.decDigits_one (by decide)]; exact specFmt_zero w
  · by_cases hp : 0 < n
    · obtain ⟨u, rfl⟩ := Int.eq_ofNat_of_zero_le (show 0 ≤ n by omega)
      rw [← str_decI]; exact specFmt_pos u w (by omega) (by omega)
    · obtain ⟨u, hu⟩ := Int.eq_ofNat_of_zero_le (show 0 ≤ -n by omega)
      obtain rfl : n = -(u : Int) := by omega
      rw [← str_decI_neg u (by omega)]; exact specFmt_neg u w (by omega) (by omega)
/-- The library's table reads as its text lays it. -/
def Tab (w : World) : Prop := Lib.TabIs Tryz.prog w "internal/strconv.uint64pow10" .u64 Lib.pow10Tab
theorem Tab.on {w w' : World} (h : Tab w) (hb : Below w.heap.size w w') : Tab w' := Lib.tabBelow_of_tabIs h w' hb
theorem implFmt (n : Int) (w : World) (h0 : -9223372036854775808 ≤ n) (h1 : n ≤ 9223372036854775807) (htab : Tab w) : Calls Tryz.prog 30 #[.int .i64 n] w fun e w' => e = .returned (.string ⟨(Lib.itoa n).toArray⟩) ∧ Below w.heap.size w w' := by
  have H := Lib.hid htab; clear htab
  go_enter Tryz.func30, Tryz.ntmps30
  go_wp2_with (go_at_call 59; refine (Tryz.strconv_Itoa n h0 h1 _ H.out).mono ?_; rintro e w' ⟨rfl, k, os, rfl⟩)
  go_ret
  exact ⟨rfl, Lib.below_grow _ _ (Nat.le_refl _) k os⟩
end Go.Proofs.YtijfnabglblimaaGreatDoor
namespace Go.Proofs.YtijfnabglblimaaGreatDoor
/-- The runs of adjacent numbers. -/
def runs : List Int → List (Int × Int)
  | [] => []
  | x :: r => match runs r with
    | [] => [(x, x)]
    | (a, b) :: t => if a = x + 1 then (x, b) :: t else (x, x) :: (a, b) :: t
theorem itoa_ne (n : Int) : Lib.itoa n ≠ [] := by
  unfold Lib.itoa
  split
  · simp
  · unfold Lib.decDigits; split <;> simp
end Go.Proofs.YtijfnabglblimaaGreatDoor
namespace Go.Proofs.YtijfnabglblimaaGreatDoor
open Go.RowKit
set_option linter.unusedVariables false
/-- A text as a string. -/
def strB (l : List UInt8) : ByteArray := ⟨l.toArray⟩
theorem strB_size (l : List UInt8) : (strB l).size = l.length := by simp [strB, ByteArray.size]
theorem strB_add (a b : List UInt8) (h : a.length + b.length ≤ 1073741824) (w : World) : (Op.stringOp .add (strB a) (strB b)).run Tryz.prog w = .ok (.string (strB (a ++ b))) w := by
  rw [run_string_add_sum w _ _ (by rw [strB_size, strB_size]; omega)]
  congr 2
theorem strB_toList (l : List UInt8) : (strB l).toList = l := by rw [ByteArray.toList_eq]; rfl
theorem ret_s {a b : List UInt8} (h : a = b) : Ending.returned (.string (strB a)) = .returned (.string (strB b)) := by rw [h]
end Go.Proofs.YtijfnabglblimaaGreatDoor
namespace Go.Proofs.YtijfnabglblimaaGreatDoor
open Go.RowKit
set_option linter.unusedVariables false
/-- The pieces of a text, cut at each b; p is the piece under way. -/
def cutGo (b : UInt8) : List UInt8 → List UInt8 → List (List UInt8)
  | p, [] => [p]
  | p, c :: r => if c = b then p :: cutGo b [] r else cutGo b (p ++ [c]) r
def cutL (b : UInt8) (l : List UInt8) : List (List UInt8) := cutGo b [] l
theorem cutGo_len (b : UInt8) : ∀ (l p : List UInt8), (cutGo b p l).length ≤ l.length + 1 := by
  intro l
  induction l with
  | nil => intro p; simp [cutGo]
  | cons c r ih =>
    intro p
    unfold cutGo
    split
    · have := ih []; simp; omega
    · have := ih (p ++ [c]); simp; omega
end Go.Proofs.YtijfnabglblimaaGreatDoor
namespace Go.Proofs.YtijfnabglblimaaGreatDoor
/-- Is the byte a decimal digit? -/
def dig (b : UInt8) : Bool := decide (48 ≤ b.toNat) && decide (b.toNat ≤ 57)
/-- The number that the digits among the bytes spell. -/
def dval (l : List UInt8) : Nat := l.foldl (fun n b => if dig b then n * 10 + (b.toNat - 48) else n) 0
/-- How many digits are among the bytes. -/
def dcnt (l : List UInt8) : Nat := (l.filter dig).length
theorem dval_snoc (l : List UInt8) (b : UInt8) : dval (l ++ [b]) = if dig b then dval l * 10 + (b.toNat - 48) else dval l := by simp [dval]
theorem dcnt_snoc (l : List UInt8) (b : UInt8) : dcnt (l ++ [b]) = if dig b then dcnt l + 1 else dcnt l := by
  simp only [dcnt, List.filter_append, List.length_append]
  cases h : dig b <;> simp [h]
theorem dig_iff (b : UInt8) : dig b = true ↔ 48 ≤ b.toNat ∧ b.toNat ≤ 57 := by simp [dig]
theorem dval_lt (l : List UInt8) : dval l < 10 ^ dcnt l := by
  have h : ∀ r : List UInt8, dval r.reverse < 10 ^ dcnt r.reverse := by
    intro r
    induction r with
    | nil => simp [dval, dcnt]
    | cons b r ih =>
      rw [List.reverse_cons, dval_snoc, dcnt_snoc]
      by_cases hb : dig b = true
      · rw [if_pos hb, if_pos hb, Nat.pow_succ]; have := (dig_iff b).1 hb; omega
      · rw [if_neg hb, if_neg hb]; exact ih
  have := h l.reverse
  simpa using this
theorem dcnt_le (l : List UInt8) : dcnt l ≤ l.length := List.length_filter_le _ _
theorem dval_lt9 (l : List UInt8) (h : dcnt l ≤ 9) : dval l ≤ 999999999 := by
  have h1 := dval_lt l
  have h2 : 10 ^ dcnt l ≤ 10 ^ 9 := Nat.pow_le_pow_right (by omega) h
  omega
theorem digits_dec (u : Nat) : dval (Lib.decDigits u) = u ∧ (∀ b ∈ Lib.decDigits u, dig b = true) := by
  induction u using Nat.strongRecOn with
  | _ u ih =>
    by_cases h : u < 10
    · rw [Lib.decDigits_one h]
      have hb : dig (UInt8.ofNat (48 + u)) = true := by rw [dig_iff, UInt8.toNat_ofNat']; omega
      refine ⟨?_, by intro b hb'; rw [List.mem_singleton] at hb'; rw [hb']; exact hb⟩
      have := dval_snoc [] (UInt8.ofNat (48 + u))
      rw [if_pos hb] at this
      rw [List.nil_append] at this
      rw [this, UInt8.toNat_ofNat']
      simp [dval]; omega
    · obtain ⟨h1, h2⟩ := ih (u / 10) (by omega)
      have hb : dig (UInt8.ofNat (48 + u % 10)) = true := by rw [dig_iff, UInt8.toNat_ofNat']; omega
      rw [Lib.decDigits, dif_neg h]
      refine ⟨?_, ?_⟩
      · rw [dval_snoc, if_pos hb, h1, UInt8.toNat_ofNat']; omega
      · intro b hb'
        rcases List.mem_append.1 hb' with h3 | h3
        · exact h2 b h3
        · rw [List.mem_singleton] at h3; rw [h3]; exact hb
theorem dcnt_all (l : List UInt8) (h : ∀ b ∈ l, dig b = true) : dcnt l = l.length := by
  unfold dcnt; rw [List.filter_eq_self.2 h]
theorem dec_ne (u : Nat) : Lib.decDigits u ≠ [] := by
  rw [← decI_digits]
  intro h
  have h1 := congrArg List.length h
  by_cases h2 : u < 10
  · rw [decI_small u h2] at h1; simp at h1
  · rw [decI_big u (by omega)] at h1; simp at h1
/-- Does the text begin with a minus? -/
def neg (l : List UInt8) : Bool := l.head? == some 45
/-- The text behind a leading minus. -/
def trim (l : List UInt8) : List UInt8 := if neg l then l.tail else l
/-- The number that the text spells, if it spells one. -/
def sval (l : List UInt8) : Int := if neg l then -(dval l : Int) else dval l
theorem neg_cons {l : List UInt8} (h : neg l = true) : ∃ r, l = 45 :: r := by
  cases l with
  | nil => simp [neg] at h
  | cons a r => simp [neg] at h; exact ⟨r, by rw [h]⟩
theorem dval_trim (l : List UInt8) : dval (trim l) = dval l := by
  unfold trim; split
  · obtain ⟨r, rfl⟩ := neg_cons (by assumption); rfl
  · rfl
theorem dcnt_trim (l : List UInt8) : dcnt (trim l) = dcnt l := by
  unfold trim; split
  · obtain ⟨r, rfl⟩ := neg_cons (by assumption); rfl
  · rfl
/-- ParseInt. -/
def parI (l : List UInt8) : Int × Bool := if Lib.itoa (sval l) = l ∧ dcnt l ≤ 9 then (sval l, true) else (0, false)
theorem par_facts {l : List UInt8} (h : Lib.itoa (sval l) = l) (hc : dcnt l ≤ 9) : l.length ≤ 10 ∧ (trim l).length ≤ 9 ∧ ∀ b ∈ trim l, dig b = true := by
  have key : ∃ u, (trim l = Lib.decDigits u) ∧ l.length ≤ (trim l).length + 1 := by
    unfold Lib.itoa at h
    split at h
    · refine ⟨(sval l).natAbs, ?_, ?_⟩
      · generalize (sval l).natAbs = q at h ⊢; rw [← h]; rfl
      · generalize (sval l).natAbs = q at h ⊢; rw [← h]; simp [trim, neg]
    · refine ⟨(sval l).toNat, ?_, ?_⟩
      · have hn : neg l = false := by
          rw [← h]
          cases hd : Lib.decDigits (sval l).toNat with
          | nil => exact absurd hd (dec_ne _)
          | cons a r =>
            have := (digits_dec (sval l).toNat).2 a (by rw [hd]; simp)
            have h2 := (dig_iff a).1 this
            simp only [neg, List.head?_cons]
            have : a ≠ 45 := by intro e; rw [e] at h2; simp at h2
            simp [this]
        unfold trim; rw [hn]; simp [h]
      · unfold trim; split <;> simp; omega
  obtain ⟨u, hu, hl⟩ := key
  have hall : ∀ b ∈ trim l, dig b = true := by rw [hu]; exact (digits_dec u).2
  have h9 : (trim l).length ≤ 9 := by rw [← dcnt_all _ hall, dcnt_trim]; exact hc
  exact ⟨by omega, h9, hall⟩
theorem parI_ok {l : List UInt8} (h : Lib.itoa (sval l) = l) (hc : dcnt l ≤ 9) : parI l = (sval l, true) := by unfold parI; rw [if_pos ⟨h, hc⟩]
theorem parI_text {l : List UInt8} (h : Lib.itoa (sval l) ≠ l) : parI l = (0, false) := by unfold parI; rw [if_neg (fun g => h g.1)]
theorem parI_long' {l : List UInt8} (h : 9 < (trim l).length) : parI l = (0, false) := by unfold parI; rw [if_neg (fun g => by have := (par_facts g.1 g.2).2.1; omega)]
theorem parI_digit {l : List UInt8} {b : UInt8} (hb : b ∈ trim l) (h : dig b = false) : parI l = (0, false) := by
  unfold parI; rw [if_neg (fun g => by have := (par_facts g.1 g.2).2.2 b hb; rw [h] at this; cases this)]
theorem trim_cut (l : List UInt8) : Lib.trimPrefix l [45] = trim l ∧ Lib.hasPrefix l [45] = neg l := by
  unfold Lib.trimPrefix trim Lib.hasPrefix neg
  cases l with
  | nil => simp
  | cons a r =>
    simp only [List.head?_cons, List.isPrefixOf]
    by_cases h : a = 45
    · subst h; simp
    · have h1 : (45 == a) = false := by rw [beq_eq_false_iff_ne]; exact Ne.symm h
      have h2 : (a == 45) = false := by rw [beq_eq_false_iff_ne]; exact h
      simp [h1, h2]
end Go.Proofs.YtijfnabglblimaaGreatDoor
namespace Go.Proofs.YtijfnabglblimaaGreatDoor
/-- The number that a list of bytes encodes, most significant byte first. -/
def be (l : List UInt8) : Nat := l.foldl (fun n b => n * 256 + b.toNat) 0
theorem take_snoc (s : ByteArray) (k : Nat) (h : k < s.size) : s.data.toList.take (k + 1) = s.data.toList.take k ++ [s[k]] := by
  rw [List.take_succ_eq_append_getElem (by simpa using h)]; rfl
end Go.Proofs.YtijfnabglblimaaGreatDoor
namespace Go.Proofs.YtijfnabglblimaaGreatDoor
open Go.RowKit
set_option linter.unusedVariables false
theorem ret_par {l : List UInt8} {n : Int} {b : Bool} (h : parI l = (n, b)) {a : Int} (ha : a = n) : Ending.returned (.tuple #[.int .i64 a, .bool b]) = .returned (.tuple #[.int .i64 (parI l).1, .bool (parI l).2]) := by rw [h, ha]
theorem text_eq (x : List UInt8) (s : ByteArray) : (⟨x.toArray⟩ : ByteArray).toList = s.toList ↔ x = s.data.toList := by
  rw [ByteArray.toList_eq, ByteArray.toList_eq]
theorem sval_pos {l : List UInt8} (h : neg l = false) : sval l = (dval l : Int) := by unfold sval; rw [h]; rfl
theorem sval_neg {l : List UInt8} (h : neg l = true) : sval l = -(dval l : Int) := by unfold sval; rw [h]; rfl
theorem dval_step (s : ByteArray) (m : Nat) (h : m < s.size) : dval (s.data.toList.take (m + 1)) = if dig s[m] then dval (s.data.toList.take m) * 10 + (s[m].toNat - 48) else dval (s.data.toList.take m) := by
  rw [take_snoc s m h, dval_snoc]
theorem cast_dig (v b : Nat) (h : 48 ≤ b) : ((v * 10 + (b - 48) : Nat) : Int) = (v : Int) * 10 + ((b : Int) - 48) := by omega
end Go.Proofs.YtijfnabglblimaaGreatDoor
namespace Go.Proofs.YtijfnabglblimaaGreatDoor
open Go.RowKit
set_option linter.unusedVariables false
def numL (q : List UInt8) : Int := if (parI q).2 then (parI q).1 else -100000
theorem cutGo_piece (b : UInt8) : ∀ (l p : List UInt8), ∀ q ∈ cutGo b p l, q.length ≤ p.length + l.length := by
  intro l
  induction l with
  | nil => intro p q hq; simp [cutGo] at hq; subst hq; simp
  | cons c r ih =>
    intro p q hq
    unfold cutGo at hq
    split at hq
    · rcases List.mem_cons.1 hq with e | e
      · subst e; simp
      · have := ih [] q e; simp at this ⊢; omega
    · have := ih (p ++ [c]) q hq; simp at this ⊢; omega
theorem cut_piece (b : UInt8) (l : List UInt8) (k : Nat) : ((cutL b l).getD k []).length ≤ l.length := by
  by_cases hk : k < (cutL b l).length
  · have e : (cutL b l).getD k [] = (cutL b l)[k] := by simp [List.getD, hk]
    have := cutGo_piece b l [] _ (List.getElem_mem hk)
    rw [e]
    simpa using this
  · have e : (cutL b l).getD k [] = [] := by rw [List.getD, List.getElem?_eq_none (Nat.le_of_not_lt hk)]; rfl
    rw [e]; simp
theorem cut_len (b : UInt8) (l : List UInt8) : (cutL b l).length ≤ l.length + 1 := cutGo_len b l []
theorem cutGo_pos (b : UInt8) : ∀ (l p : List UInt8), 0 < (cutGo b p l).length := by
  intro l
  induction l with
  | nil => intro p; simp [cutGo]
  | cons c r ih => intro p; unfold cutGo; split; · simp
                   · exact ih _
theorem cut_pos (b : UInt8) (l : List UInt8) : 0 < (cutL b l).length := cutGo_pos b l []
end Go.Proofs.YtijfnabglblimaaGreatDoor
namespace Go.Proofs.YtijfnabglblimaaGreatDoor
open Go.RowKit
set_option linter.unusedVariables false
set_option linter.unusedSimpArgs false
/-- The number behind the letter b. -/
def aftL (b : UInt8) (l : List UInt8) : Int := if 2 ≤ l.length ∧ l.getD 0 0 = b then numL (l.drop 1) else -100000
/-- The two numbers apart by the first two dots behind the bytes p. -/
def rngGo (p : List UInt8) : List UInt8 → Int × Int
  | a :: b :: r => if a = 46 ∧ b = 46 then (numL p, numL r) else rngGo (p ++ [a]) (b :: r)
  | _ => (-100000, -100000)
def rngL (l : List UInt8) : Int × Int := rngGo [] l
end Go.Proofs.YtijfnabglblimaaGreatDoor
namespace Go.Proofs.YtijfnabglblimaaGreatDoor
open Go.RowKit
set_option linter.unusedVariables false
set_option linter.unusedSimpArgs false
/-- The text of the first k numbers. -/
def listTo (xs : List Int) : Nat → List UInt8
  | 0 => []
  | k + 1 => (if k = 0 then [] else listTo xs k ++ [44]) ++ Lib.itoa (xs.getD k 0)
theorem fmtAny (n : Int) (w : World) (h0 : 0 ≤ n) (h1 : n ≤ 999) : Calls Tryz.prog 38 #[.int .i64 n] w fun e w' => e = .returned (.string (strB (Lib.itoa n))) ∧ Below w.heap.size w w' := specFmt n w (by omega) (by omega)
set_option maxHeartbeats 8000000 in
set_option maxRecDepth 100000 in
theorem l3List_any (v : Value) (xs : List Int) (w : World) (h : Ints w v xs) (hn : xs.length ≤ 1000) (hr : ∀ j, j < xs.length → 0 ≤ xs.getD j 0 ∧ xs.getD j 0 ≤ 999) :
    Calls Tryz.prog 39 #[v] w fun e w' => e = .returned (.string (strB (listTo xs xs.length))) ∧ Below w.heap.size w w' ∧ (listTo xs xs.length).length ≤ 45 * xs.length := by
  have H := Lib.hid h
  have HR := Lib.hid hr
  obtain ⟨a, cap, rfl⟩ := ints_len h
  clear h hr
  go_enter Tryz.func39, Tryz.ntmps39
  go_wp2
  go_loopw [3, 4] (fun s i wr => ∃ k : Nat, k ≤ xs.length ∧ i = .int .i64 k ∧ s = .string (strB (listTo xs k)) ∧ (listTo xs k).length ≤ 45 * k ∧ Below w.heap.size w wr) (fun _ i _ => xs.length - (intOf i).toNat)
  case atStart => exact ⟨0, Nat.zero_le _, rfl, rfl, by simp [listTo], Below.refl _ _⟩
  case round =>
    obtain ⟨k, hk, rfl, rfl, hll, hbel⟩ := hrel
    by_cases hlt : k < xs.length
    · obtain ⟨b, off, cap', hv, hbl, hc⟩ := ints_cell H.out (by omega)
      simp only [Value.slice.injEq] at hv
      obtain ⟨rfl, _, rfl⟩ := hv
      have hcell := (hbel.cell (p := ⟨b, off + k, none⟩) hbl).trans (hc k hlt)
      have i1 : (0 : Int) ≤ (k : Int) := by omega
      have i2 : (k : Int) < (xs.length : Int) := by omega
      have hx := HR.out k hlt
      have hlx := Lib.hid (Lib.itoa_length_le (xs.getD k 0) (by omega) (by omega))
      have HF := Lib.hid (fun w => fmtAny (xs.getD k 0) w hx.1 hx.2)
      have HS : Hid (listTo xs (k + 1) = (if k = 0 then [] else listTo xs k ++ [44]) ++ Lib.itoa (xs.getD k 0)) := Lib.hid rfl
      clear hc hx
      generalize listTo xs k = t at *
      generalize xs.getD k 0 = x at *
      by_cases hz : k = 0
      · have hg : decide ((0 : Int) < (k : Int)) = false := decide_eq_false (by omega)
        have hgn : decide (0 < k) = false := decide_eq_false (by omega)
        have ht : t = [] := List.eq_nil_of_length_eq_zero (by omega)
        have HS2 : Hid (listTo xs (k + 1) = t ++ Lib.itoa x) := Lib.hid (by rw [HS.out, if_pos hz, ht])
        have d1 := strB_add t (Lib.itoa x) (by have := hlx.out; omega)
        have HLEN : Hid ((t ++ Lib.itoa x).length ≤ 45 * (k + 1)) := Lib.hid (by have := hlx.out; simp; omega)
        clear hz ht HS
        go_wp2_with fail
        refine (HF.out _).mono ?_
        rintro e w5 ⟨rfl, hb5⟩
        have hb6 := hbel.trans (hb5.mono hbel.size)
        go_wp2
        go_roundw
        case rel => exact ⟨k + 1, by omega, by go_num, by rw [HS2.out], by rw [HS2.out]; exact HLEN.out, hb6⟩
        case measure => simp [intOf]; omega
      · have hg : decide ((0 : Int) < (k : Int)) = true := decide_eq_true (by omega)
        have hgn : decide (0 < k) = true := decide_eq_true (by omega)
        have HS2 : Hid (listTo xs (k + 1) = (t ++ [44]) ++ Lib.itoa x) := Lib.hid (by rw [HS.out, if_neg hz])
        have d0 := strB_add t [44] (by simp; omega)
        have d1 := strB_add (t ++ [44]) (Lib.itoa x) (by have := hlx.out; simp; omega)
        have HLEN : Hid (((t ++ [44]) ++ Lib.itoa x).length ≤ 45 * (k + 1)) := Lib.hid (by have := hlx.out; simp; omega)
        have e44 : (⟨#[44]⟩ : ByteArray) = strB [44] := rfl
        clear hz HS
        go_wp2_with fail
        refine (HF.out _).mono ?_
        rintro e w5 ⟨rfl, hb5⟩
        have hb6 := hbel.trans (hb5.mono hbel.size)
        go_wp2
        go_roundw
        case rel => exact ⟨k + 1, by omega, by go_num, by rw [HS2.out, List.append_assoc]; rfl, by rw [HS2.out]; exact HLEN.out, hb6⟩
        case measure => simp [intOf]; omega
    · obtain rfl : k = xs.length := by omega
      go_wp2
      go_ret
      exact ⟨rfl, hbel, hll⟩
end Go.Proofs.YtijfnabglblimaaGreatDoor
namespace Go.Proofs.YtijfnabglblimaaGreatDoor
open Go.RowKit
set_option linter.unusedVariables false
set_option linter.unusedSimpArgs false
/-- The text of a condition, and of the first k conditions. -/
def condT (t : List UInt8) (c : CondD) : List UInt8 := t ++ [32, 102] ++ Lib.itoa c.1 ++ [32] ++ Lib.itoa c.2.1 ++ [46, 46] ++ Lib.itoa c.2.2
def condsT (t : List UInt8) (cs : List CondD) : Nat → List UInt8
  | 0 => t
  | k + 1 => condT (condsT t cs k) (cs.getD k c0D)
def headT (id tn : Int) : List UInt8 := 113 :: Lib.itoa id ++ [32, 116] ++ Lib.itoa tn
def fmtQ (id tn : Int) (cs : List CondD) (os : List Int) : List UInt8 := if queryB id tn cs os then condsT (headT id tn) cs cs.length ++ [32, 111, 117, 116, 32] ++ listTo os os.length else []
theorem query_parts {id tn : Int} {cs : List CondD} {os : List Int} (h : queryB id tn cs os = true) : (0 ≤ id ∧ id ≤ 23) ∧ (0 ≤ tn ∧ tn ≤ 3) ∧ cs.length ≤ 3 ∧ (∀ k, k < cs.length → 0 ≤ (cs.getD k c0D).1 ∧ (cs.getD k c0D).1 ≤ 2 ∧ 0 ≤ (cs.getD k c0D).2.1 ∧ (cs.getD k c0D).2.1 ≤ 99 ∧ 0 ≤ (cs.getD k c0D).2.2 ∧ (cs.getD k c0D).2.2 ≤ 99) ∧ os.length ≤ 3 ∧ ∀ k, k < os.length → 0 ≤ os.getD k 0 ∧ os.getD k 0 ≤ 2 := by
  unfold queryB at h
  simp only [Bool.and_eq_true, decide_eq_true_eq] at h
  obtain ⟨h1, h2, h3, h4, h5⟩ := h
  refine ⟨h2, h3, h4, fun k hk => ?_, ?_, fun k hk => ?_⟩
  · unfold condsB at h1
    rw [List.all_eq_true] at h1
    have := h1 k (List.mem_range.2 hk)
    rw [Bool.and_eq_true] at this
    have h6 := this.1
    unfold condB at h6
    simp only [Bool.and_eq_true, decide_eq_true_eq] at h6
    omega
  · unfold fieldsB at h5
    simp only [Bool.and_eq_true, decide_eq_true_eq] at h5
    omega
  · unfold fieldsB at h5
    simp only [Bool.and_eq_true, decide_eq_true_eq, List.all_eq_true] at h5
    have e : os.getD k 0 = os[k] := by simp [List.getD, hk]
    rw [e]
    exact h5.1 _ (List.getElem_mem hk)
set_option maxHeartbeats 16000000 in
set_option maxRecDepth 100000 in
theorem specFormatQuery (id tn : Int) (cv ov : Value) (cs : List CondD) (os : List Int) (w : World) (h : CondsR w cv cs) (hn : cs.length ≤ 1048576) (g : Ints w ov os) (hm : os.length ≤ 1048576) :
    Calls Tryz.prog 14 #[qV id tn cv ov] w fun e w' => e = .returned (.string (strB (fmtQ id tn cs os))) ∧ Below w.heap.size w w' := by
  obtain ⟨ca, ccap, rfl⟩ := condsR_len h
  obtain ⟨oa, ocap, rfl⟩ := ints_len g
  have hb0 : Below w.heap.size w (w.alloc (.cells #[.int .i64 id, .int .i64 tn, .slice ca cs.length ccap, .slice oa os.length ocap] 27)) := (Below.refl _ w).alloc (Nat.le_refl _) _
  have HG := Lib.hid (heap_alloc_new w (.cells #[.int .i64 id, .int .i64 tn, .slice ca cs.length ccap, .slice oa os.length ocap] 27))
  have HC := Lib.hid (condsR_below h hb0)
  have HO := Lib.hid (ints_below g hb0)
  have HZ : Hid (w.heap.size < (w.alloc (.cells #[.int .i64 id, .int .i64 tn, .slice ca cs.length ccap, .slice oa os.length ocap] 27)).heap.size) := Lib.hid (by simp)
  have HQ := Lib.hid (fun w h g => specIsQuery id tn (.slice ca cs.length ccap) (.slice oa os.length ocap) cs os w h hn g hm)
  have HB0 := Lib.hid hb0
  clear h g hb0
  cases hq : queryB id tn cs os with
  | false =>
    have HF : Hid (fmtQ id tn cs os = []) := Lib.hid (by unfold fmtQ; rw [hq]; rfl)
    rw [hq] at HQ
    clear hq hn hm
    go_enter Tryz.func14, Tryz.ntmps14
    go_wp2_with fail
    refine (HQ.out _ HC.out HO.out).mono ?_
    rintro e w2 ⟨rfl, b2⟩
    have b3 := HB0.out.trans (b2.mono HB0.out.size)
    go_wp2
    go_ret
    exact ⟨ret_s HF.out.symm, b3⟩
  | true =>
    obtain ⟨hi, ht, hcl, hcr, hol, hor⟩ := query_parts hq
    have HF : Hid (fmtQ id tn cs os = condsT (headT id tn) cs cs.length ++ [32, 111, 117, 116, 32] ++ listTo os os.length) := Lib.hid (by unfold fmtQ; rw [hq]; rfl)
    have HA := Lib.hid (fun w => fmtAny id w hi.1 (by omega))
    have HT := Lib.hid (fun w => fmtAny tn w ht.1 (by omega))
    have HL := Lib.hid (fun w h => l3List_any (.slice oa os.length ocap) os w h (by omega) (fun j hj => ⟨(hor j hj).1, by have := (hor j hj).2; omega⟩))
    have HCR := Lib.hid hcr
    have hla := Lib.hid (Lib.itoa_length_le id (by omega) (by omega))
    have hlt := Lib.hid (Lib.itoa_length_le tn (by omega) (by omega))
    have HCL := Lib.hid hcl
    have HOL := Lib.hid hol
    rw [hq] at HQ
    clear hq hi ht hcr hor hcl hol
    obtain ⟨h1, hh1⟩ : ∃ h1, h1 = [113] ++ Lib.itoa id := ⟨_, rfl⟩
    have h1l : h1.length ≤ 22 := by rw [hh1]; have := hla.out; simp; omega
    have HH : Hid (headT id tn = h1 ++ [32, 116] ++ Lib.itoa tn) := Lib.hid (by rw [hh1]; rfl)
    have hhl : Hid ((headT id tn).length ≤ 45) := Lib.hid (by rw [HH.out]; have := hlt.out; simp; omega)
    have dA : ∀ w, (Op.stringOp .add ⟨#[113]⟩ (strB (Lib.itoa id))).run Tryz.prog w = .ok (.string (strB h1)) w := by rw [hh1]; exact strB_add [113] (Lib.itoa id) (by have := hla.out; simp; omega)
    have dB : ∀ w, (Op.stringOp .add (strB h1) ⟨#[32, 116]⟩).run Tryz.prog w = .ok (.string (strB (h1 ++ [32, 116]))) w := strB_add h1 [32, 116] (by simp; omega)
    have dC := strB_add (h1 ++ [32, 116]) (Lib.itoa tn) (by have := hlt.out; simp; omega)
    clear hh1
    rw [← HH.out] at dC
    go_enter Tryz.func14, Tryz.ntmps14
    go_wp2_with fail
    generalize w.alloc (.cells #[.int .i64 id, .int .i64 tn, .slice ca cs.length ccap, .slice oa os.length ocap] 27) = W at *
    refine (HQ.out _ HC.out HO.out).mono ?_
    rintro e w2 ⟨rfl, b2⟩
    have g2 := Lib.hid ((b2.block w.heap.size HZ.out).trans HG.out)
    have q0 := (cell_of_row w2 _ 0 _ _ _ g2.out).trans (show _ = some (Value.int .i64 id) from rfl)
    have q1 := (cell_of_row w2 _ 1 _ _ _ g2.out).trans (show _ = some (Value.int .i64 tn) from rfl)
    have hz2 := Lib.hid (Nat.lt_of_lt_of_le HZ.out b2.size)
    have B2 := Lib.hid b2
    clear b2
    go_wp2
    refine wp_region_held_drew (S := fun w' => w'.cell? ⟨w.heap.size, 0, none⟩ = some (.int .i64 id) ∧ w'.cell? ⟨w.heap.size, 1, none⟩ = some (.int .i64 tn)) (by kernel_rfl) ⟨q0, q1⟩ (fun hHeld => ?_)
    have e0 := below_drew (Below.refl w2.heap.size w2)
    refine take_runs (i := 0) (v := ?_) (by simp only [List.getElem?_toArray, List.getElem?_cons_succ, List.getElem?_cons_zero]; rfl) (by kernel_rfl) (by kernel_rfl) (by kernel_rfl) rfl (by exact fun _ _ _ h => h) (by rfl) ?_ (by assumption) ?_
    rotate_left
    · intro w hSw; (try dsimp only at hSw); go_simp; try (with_reducible rfl)
    try simp only [Act.put, List.setIfInBounds_toArray, List.set_cons_zero, List.set_cons_succ]
    refine take_runs (i := 1) (v := ?_) (by simp only [List.getElem?_toArray, List.getElem?_cons_succ, List.getElem?_cons_zero]; rfl) (by kernel_rfl) (by kernel_rfl) (by kernel_rfl) rfl (by exact fun _ _ _ h => h) (by rfl) ?_ (by assumption) ?_
    rotate_left
    · intro w hSw; (try dsimp only at hSw); go_simp; try (with_reducible rfl)
    try simp only [Act.put, List.setIfInBounds_toArray, List.set_cons_zero, List.set_cons_succ]
    refine take_runs (i := 5) (v := ?_) (by simp only [List.getElem?_toArray, List.getElem?_cons_succ, List.getElem?_cons_zero]; rfl) (by kernel_rfl) (by kernel_rfl) (by kernel_rfl) rfl (by exact fun _ _ _ h => h) (by rfl) ?_ (by assumption) ?_
    rotate_left
    · intro w hSw; (try dsimp only at hSw); go_simp; try (with_reducible rfl)
    try simp only [Act.put, List.setIfInBounds_toArray, List.set_cons_zero, List.set_cons_succ]
    refine take_runs (i := 6) (v := ?_) (by simp only [List.getElem?_toArray, List.getElem?_cons_succ, List.getElem?_cons_zero]; rfl) (by kernel_rfl) (by kernel_rfl) (by kernel_rfl) rfl (by exact fun _ _ _ h => h) (by rfl) ?_ (by assumption) ?_
    rotate_left
    · intro w hSw; (try dsimp only at hSw); go_simp; try (with_reducible rfl)
    try simp only [Act.put, List.setIfInBounds_toArray, List.set_cons_zero, List.set_cons_succ]
    refine wpAnyH_ready (rs := [2]) (by kernel_rfl) (by simp) ?_
    refine AllReadyH.cons (o := _) (by simp only [List.getElem?_toArray, List.getElem?_cons_succ, List.getElem?_cons_zero]; rfl) (fun K hK => ?_) AllReadyH.nil
    go_simp
    refine (HA.out _).mono ?_
    rintro e x1 ⟨rfl, c1⟩
    have e1 := e0.trans (c1.mono e0.size)
    refine hK.out _ _ ⟨(e1.cell (p := ⟨w.heap.size, 0, none⟩) hz2.out).trans q0, (e1.cell (p := ⟨w.heap.size, 1, none⟩) hz2.out).trans q1⟩ (fun hHeld => ?_)
    clear hK K
    try simp only [Act.put, List.setIfInBounds_toArray, List.set_cons_zero, List.set_cons_succ]
    refine take_runs (i := 3) (v := ?_) (by simp only [List.getElem?_toArray, List.getElem?_cons_succ, List.getElem?_cons_zero]; rfl) (by kernel_rfl) (by kernel_rfl) (by kernel_rfl) rfl (by exact fun _ _ _ h => h) (by rfl) ?_ (by assumption) ?_
    rotate_left
    · intro w hSw; (try dsimp only at hSw); go_simp; try (with_reducible rfl)
    try simp only [Act.put, List.setIfInBounds_toArray, List.set_cons_zero, List.set_cons_succ]
    refine take_runs (i := 4) (v := ?_) (by simp only [List.getElem?_toArray, List.getElem?_cons_succ, List.getElem?_cons_zero]; rfl) (by kernel_rfl) (by kernel_rfl) (by kernel_rfl) rfl (by exact fun _ _ _ h => h) (by rfl) ?_ (by assumption) ?_
    rotate_left
    · intro w hSw; (try dsimp only at hSw); go_simp; try (with_reducible rfl)
    try simp only [Act.put, List.setIfInBounds_toArray, List.set_cons_zero, List.set_cons_succ]
    refine wpAnyH_ready (rs := [7]) (by kernel_rfl) (by simp) ?_
    refine AllReadyH.cons (o := _) (by simp only [List.getElem?_toArray, List.getElem?_cons_succ, List.getElem?_cons_zero]; rfl) (fun K hK => ?_) AllReadyH.nil
    go_simp
    refine (HT.out _).mono ?_
    rintro e x2 ⟨rfl, c2⟩
    have e2 := e1.trans (c2.mono e1.size)
    refine hK.out _ _ ⟨(e2.cell (p := ⟨w.heap.size, 0, none⟩) hz2.out).trans q0, (e2.cell (p := ⟨w.heap.size, 1, none⟩) hz2.out).trans q1⟩ (fun hHeld => ?_)
    clear hK K
    try simp only [Act.put, List.setIfInBounds_toArray, List.set_cons_zero, List.set_cons_succ]
    refine take_runs (i := 8) (v := ?_) (by simp only [List.getElem?_toArray, List.getElem?_cons_succ, List.getElem?_cons_zero]; rfl) (by kernel_rfl) (by kernel_rfl) (by kernel_rfl) rfl (by exact fun _ _ _ h => h) (by rfl) ?_ (by assumption) ?_
    rotate_left
    · intro w hSw; (try dsimp only at hSw); go_simp; try (with_reducible rfl)
    try simp only [Act.put, List.setIfInBounds_toArray, List.set_cons_zero, List.set_cons_succ]
    refine take_runs (i := 9) (v := ?_) (by simp only [List.getElem?_toArray, List.getElem?_cons_succ, List.getElem?_cons_zero]; rfl) (by kernel_rfl) (by kernel_rfl) (by kernel_rfl) rfl (by exact fun _ _ _ h => h) (by rfl) ?_ (by assumption) ?_
    rotate_left
    · intro w hSw; (try dsimp only at hSw); go_simp; try (with_reducible rfl)
    try simp only [Act.put, List.setIfInBounds_toArray, List.set_cons_zero, List.set_cons_succ]
    refine wpAnyH_done (by kernel_rfl) ?_ _
    have b3 := B2.out.trans (e2.mono B2.out.size)
    clear hHeld e0 e1 e2 c1 c2 q0 q1 dA dB dC g2 hz2 B2
    go_wp2
    go_loopw [3, 4] (fun s i wr => ∃ (k : Nat) (t : List UInt8), k ≤ cs.length ∧ i = .int .i64 k ∧ s = .string (strB t) ∧ Hid (t = condsT (headT id tn) cs k) ∧ t.length ≤ 45 + 80 * k ∧ Below W.heap.size W wr) (fun _ i _ => cs.length - (intOf i).toNat)
    case atStart => exact ⟨0, _, Nat.zero_le _, rfl, rfl, Lib.hid rfl, by have := hhl.out; omega, b3⟩
    case round =>
      obtain ⟨k, t, hk, rfl, rfl, hT, hll, hbel⟩ := hrel
      have hz := Lib.hid (Nat.lt_of_lt_of_le HZ.out hbel.size)
      have gq := Lib.hid ((hbel.block w.heap.size HZ.out).trans HG.out)
      have q2 := (cell_of_row wr _ 2 _ _ _ gq.out).trans (show _ = some (Value.slice ca cs.length ccap) from rfl)
      have q3 := (cell_of_row wr _ 3 _ _ _ gq.out).trans (show _ = some (Value.slice oa os.length ocap) from rfl)
      have hkl : k ≤ 3 := Nat.le_trans hk HCL.out
      by_cases hlt : k < cs.length
      · obtain ⟨b, off, cap', hv, hbl, hc1, hc2, hc3⟩ := condsR_at (condsR_below HC.out hbel) hlt
        simp only [Value.slice.injEq] at hv
        obtain ⟨rfl, _, rfl⟩ := hv
        have hcr := HCR.out k hlt
        have hst : Hid (condsT (headT id tn) cs (k + 1) = condT t (cs.getD k c0D)) := Lib.hid (by rw [hT.out]; rfl)
        have i1 : (0 : Int) ≤ (k : Int) := by omega
        have i2 : (k : Int) < (cs.length : Int) := by omega
        change wr.cell? _ = some (.int .i64 (cs.getD k c0D).1) at hc1
        change wr.cell? _ = some (.int .i64 (cs.getD k c0D).2.1) at hc2
        change wr.cell? _ = some (.int .i64 (cs.getD k c0D).2.2) at hc3
        generalize cs.getD k c0D = c at *
        obtain ⟨f, lo, hi⟩ := c
        simp only at hc1 hc2 hc3 hcr
        have H1 := Lib.hid (fun w => fmtAny f w hcr.1 (by omega))
        have H2 := Lib.hid (fun w => fmtAny lo w hcr.2.2.1 (by omega))
        have H3 := Lib.hid (fun w => fmtAny hi w hcr.2.2.2.2.1 (by omega))
        have l1 := Lib.hid (Lib.itoa_length_le f (by omega) (by omega))
        have l2 := Lib.hid (Lib.itoa_length_le lo (by omega) (by omega))
        have l3 := Lib.hid (Lib.itoa_length_le hi (by omega) (by omega))
        clear hcr hT
        have hbh := Lib.hid hbl
        have hll2 : t.length ≤ 285 := by omega
        obtain ⟨t1, ht1⟩ : ∃ t1, t1 = t ++ [32, 102] := ⟨_, rfl⟩
        have hl1 : t1.length ≤ 287 := by rw [ht1, List.length_append]; have := hll2; simp only [List.length_cons, List.length_nil]; omega
        have d1 : ∀ w, (Op.stringOp .add (strB t) ⟨#[32, 102]⟩).run Tryz.prog w = .ok (.string (strB t1)) w := by rw [ht1]; exact strB_add t ([32, 102]) (by have := hll2; simp only [List.length_cons, List.length_nil]; omega)
        obtain ⟨t2, ht2⟩ : ∃ t2, t2 = t1 ++ Lib.itoa f := ⟨_, rfl⟩
        have hl2 : t2.length ≤ 308 := by rw [ht2, List.length_append]; have := hl1; have := l1.out; omega
        have d2 : ∀ w, (Op.stringOp .add (strB t1) (strB (Lib.itoa f))).run Tryz.prog w = .ok (.string (strB t2)) w := by rw [ht2]; exact strB_add t1 (Lib.itoa f) (by have := hl1; have := l1.out; omega)
        obtain ⟨t3, ht3⟩ : ∃ t3, t3 = t2 ++ [32] := ⟨_, rfl⟩
        have hl3 : t3.length ≤ 309 := by rw [ht3, List.length_append]; have := hl2; simp only [List.length_cons, List.length_nil]; omega
        have d3 : ∀ w, (Op.stringOp .add (strB t2) ⟨#[32]⟩).run Tryz.prog w = .ok (.string (strB t3)) w := by rw [ht3]; exact strB_add t2 ([32]) (by have := hl2; simp only [List.length_cons, List.length_nil]; omega)
        obtain ⟨t4, ht4⟩ : ∃ t4, t4 = t3 ++ Lib.itoa lo := ⟨_, rfl⟩
        have hl4 : t4.length ≤ 330 := by rw [ht4, List.length_append]; have := hl3; have := l2.out; omega
        have d4 : ∀ w, (Op.stringOp .add (strB t3) (strB (Lib.itoa lo))).run Tryz.prog w = .ok (.string (strB t4)) w := by rw [ht4]; exact strB_add t3 (Lib.itoa lo) (by have := hl3; have := l2.out; omega)
        obtain ⟨t5, ht5⟩ : ∃ t5, t5 = t4 ++ [46, 46] := ⟨_, rfl⟩
        have hl5 : t5.length ≤ 332 := by rw [ht5, List.length_append]; have := hl4; simp only [List.length_cons, List.length_nil]; omega
        have d5 : ∀ w, (Op.stringOp .add (strB t4) ⟨#[46, 46]⟩).run Tryz.prog w = .ok (.string (strB t5)) w := by rw [ht5]; exact strB_add t4 ([46, 46]) (by have := hl4; simp only [List.length_cons, List.length_nil]; omega)
        obtain ⟨t6, ht6⟩ : ∃ t6, t6 = t5 ++ Lib.itoa hi := ⟨_, rfl⟩
        have hl6 : t6.length ≤ 353 := by rw [ht6, List.length_append]; have := hl5; have := l3.out; omega
        have d6 : ∀ w, (Op.stringOp .add (strB t5) (strB (Lib.itoa hi))).run Tryz.prog w = .ok (.string (strB t6)) w := by rw [ht6]; exact strB_add t5 (Lib.itoa hi) (by have := hl5; have := l3.out; omega)
        have HEQ : Hid (condT t (f, lo, hi) = t6) := Lib.hid (by rw [ht6, ht5, ht4, ht3, ht2, ht1]; rfl)
        have HLEN : Hid (t6.length ≤ 45 + 80 * (k + 1)) := Lib.hid (by rw [ht6, ht5, ht4, ht3, ht2, ht1]; have := l1.out; have := l2.out; have := l3.out; simp only [List.length_append, List.length_cons, List.length_nil]; omega)
        clear ht1 ht2 ht3 ht4 ht5 ht6 hl1 hl2 hl3 hl4 hl5 hl6 hll2
        go_wp2
        refine wp_region_held_drew (S := fun w' => w'.cell? ⟨w.heap.size, 2, none⟩ = some (.slice (some ⟨b, off, none⟩) cs.length ccap) ∧ w'.cell? ⟨b, off + k * 3, none⟩ = some (.int .i64 f) ∧ w'.cell? ⟨b, off + k * 3 + 1, none⟩ = some (.int .i64 lo) ∧ w'.cell? ⟨b, off + k * 3 + 2, none⟩ = some (.int .i64 hi)) (by kernel_rfl) ⟨q2, hc1, hc2, hc3⟩ (fun hHeld => ?_)
        have e0 := below_drew (Below.refl wr.heap.size wr)
        refine take_runs (i := 0) (v := ?_) (by simp only [List.getElem?_toArray, List.getElem?_cons_succ, List.getElem?_cons_zero]; rfl) (by kernel_rfl) (by kernel_rfl) (by kernel_rfl) rfl (by exact fun _ _ _ h => h) (by rfl) ?_ (by assumption) ?_
        rotate_left
        · intro w hSw; (try dsimp only at hSw); go_simp; try (with_reducible rfl)
        try simp only [Act.put, List.setIfInBounds_toArray, List.set_cons_zero, List.set_cons_succ]
        refine take_runs (i := 1) (v := ?_) (by simp only [List.getElem?_toArray, List.getElem?_cons_succ, List.getElem?_cons_zero]; rfl) (by kernel_rfl) (by kernel_rfl) (by kernel_rfl) rfl (by exact fun _ _ _ h => h) (by rfl) ?_ (by assumption) ?_
        rotate_left
        · intro w hSw; (try dsimp only at hSw); go_simp; try (with_reducible rfl)
        try simp only [Act.put, List.setIfInBounds_toArray, List.set_cons_zero, List.set_cons_succ]
        refine take_runs (i := 2) (v := ?_) (by simp only [List.getElem?_toArray, List.getElem?_cons_succ, List.getElem?_cons_zero]; rfl) (by kernel_rfl) (by kernel_rfl) (by kernel_rfl) rfl (by exact fun _ _ _ h => h) (by rfl) ?_ (by assumption) ?_
        rotate_left
        · intro w hSw; (try dsimp only at hSw); go_simp; try (with_reducible rfl)
        try simp only [Act.put, List.setIfInBounds_toArray, List.set_cons_zero, List.set_cons_succ]
        refine take_runs (i := 3) (v := ?_) (by simp only [List.getElem?_toArray, List.getElem?_cons_succ, List.getElem?_cons_zero]; rfl) (by kernel_rfl) (by kernel_rfl) (by kernel_rfl) rfl (by exact fun _ _ _ h => h) (by rfl) ?_ (by assumption) ?_
        rotate_left
        · intro w hSw; (try dsimp only at hSw); go_simp; try (with_reducible rfl)
        try simp only [Act.put, List.setIfInBounds_toArray, List.set_cons_zero, List.set_cons_succ]
        refine take_runs (i := 4) (v := ?_) (by simp only [List.getElem?_toArray, List.getElem?_cons_succ, List.getElem?_cons_zero]; rfl) (by kernel_rfl) (by kernel_rfl) (by kernel_rfl) rfl (by exact fun _ _ _ h => h) (by rfl) ?_ (by assumption) ?_
        rotate_left
        · intro w hSw; (try dsimp only at hSw); go_simp; try (with_reducible rfl)
        try simp only [Act.put, List.setIfInBounds_toArray, List.set_cons_zero, List.set_cons_succ]
        refine take_runs (i := 5) (v := ?_) (by simp only [List.getElem?_toArray, List.getElem?_cons_succ, List.getElem?_cons_zero]; rfl) (by kernel_rfl) (by kernel_rfl) (by kernel_rfl) rfl (by exact fun _ _ _ h => h) (by rfl) ?_ (by assumption) ?_
        rotate_left
        · intro w hSw; (try dsimp only at hSw); go_simp; try (with_reducible rfl)
        try simp only [Act.put, List.setIfInBounds_toArray, List.set_cons_zero, List.set_cons_succ]
        refine take_runs (i := 6) (v := ?_) (by simp only [List.getElem?_toArray, List.getElem?_cons_succ, List.getElem?_cons_zero]; rfl) (by kernel_rfl) (by kernel_rfl) (by kernel_rfl) rfl (by exact fun _ _ _ h => h) (by rfl) ?_ (by assumption) ?_
        rotate_left
        · intro w hSw; (try dsimp only at hSw); go_simp; try (with_reducible rfl)
        try simp only [Act.put, List.setIfInBounds_toArray, List.set_cons_zero, List.set_cons_succ]
        refine take_runs (i := 7) (v := ?_) (by simp only [List.getElem?_toArray, List.getElem?_cons_succ, List.getElem?_cons_zero]; rfl) (by kernel_rfl) (by kernel_rfl) (by kernel_rfl) rfl (by exact fun _ _ _ h => h) (by rfl) ?_ (by assumption) ?_
        rotate_left
        · intro w hSw; (try dsimp only at hSw); go_simp; try (with_reducible rfl)
        try simp only [Act.put, List.setIfInBounds_toArray, List.set_cons_zero, List.set_cons_succ]
        refine take_runs (i := 11) (v := ?_) (by simp only [List.getElem?_toArray, List.getElem?_cons_succ, List.getElem?_cons_zero]; rfl) (by kernel_rfl) (by kernel_rfl) (by kernel_rfl) rfl (by exact fun _ _ _ h => h) (by rfl) ?_ (by assumption) ?_
        rotate_left
        · intro w hSw; (try dsimp only at hSw); go_simp; try (with_reducible rfl)
        try simp only [Act.put, List.setIfInBounds_toArray, List.set_cons_zero, List.set_cons_succ]
        refine take_runs (i := 12) (v := ?_) (by simp only [List.getElem?_toArray, List.getElem?_cons_succ, List.getElem?_cons_zero]; rfl) (by kernel_rfl) (by kernel_rfl) (by kernel_rfl) rfl (by exact fun _ _ _ h => h) (by rfl) ?_ (by assumption) ?_
        rotate_left
        · intro w hSw; (try dsimp only at hSw); go_simp; try (with_reducible rfl)
        try simp only [Act.put, List.setIfInBounds_toArray, List.set_cons_zero, List.set_cons_succ]
        refine take_runs (i := 13) (v := ?_) (by simp only [List.getElem?_toArray, List.getElem?_cons_succ, List.getElem?_cons_zero]; rfl) (by kernel_rfl) (by kernel_rfl) (by kernel_rfl) rfl (by exact fun _ _ _ h => h) (by rfl) ?_ (by assumption) ?_
        rotate_left
        · intro w hSw; (try dsimp only at hSw); go_simp; try (with_reducible rfl)
        try simp only [Act.put, List.setIfInBounds_toArray, List.set_cons_zero, List.set_cons_succ]
        refine take_runs (i := 14) (v := ?_) (by simp only [List.getElem?_toArray, List.getElem?_cons_succ, List.getElem?_cons_zero]; rfl) (by kernel_rfl) (by kernel_rfl) (by kernel_rfl) rfl (by exact fun _ _ _ h => h) (by rfl) ?_ (by assumption) ?_
        rotate_left
        · intro w hSw; (try dsimp only at hSw); go_simp; try (with_reducible rfl)
        try simp only [Act.put, List.setIfInBounds_toArray, List.set_cons_zero, List.set_cons_succ]
        refine take_runs (i := 15) (v := ?_) (by simp only [List.getElem?_toArray, List.getElem?_cons_succ, List.getElem?_cons_zero]; rfl) (by kernel_rfl) (by kernel_rfl) (by kernel_rfl) rfl (by exact fun _ _ _ h => h) (by rfl) ?_ (by assumption) ?_
        rotate_left
        · intro w hSw; (try dsimp only at hSw); go_simp; try (with_reducible rfl)
        try simp only [Act.put, List.setIfInBounds_toArray, List.set_cons_zero, List.set_cons_succ]
        refine take_runs (i := 16) (v := ?_) (by simp only [List.getElem?_toArray, List.getElem?_cons_succ, List.getElem?_cons_zero]; rfl) (by kernel_rfl) (by kernel_rfl) (by kernel_rfl) rfl (by exact fun _ _ _ h => h) (by rfl) ?_ (by assumption) ?_
        rotate_left
        · intro w hSw; (try dsimp only at hSw); go_simp; try (with_reducible rfl)
        try simp only [Act.put, List.setIfInBounds_toArray, List.set_cons_zero, List.set_cons_succ]
        refine take_runs (i := 20) (v := ?_) (by simp only [List.getElem?_toArray, List.getElem?_cons_succ, List.getElem?_cons_zero]; rfl) (by kernel_rfl) (by kernel_rfl) (by kernel_rfl) rfl (by exact fun _ _ _ h => h) (by rfl) ?_ (by assumption) ?_
        rotate_left
        · intro w hSw; (try dsimp only at hSw); go_simp; try (with_reducible rfl)
        try simp only [Act.put, List.setIfInBounds_toArray, List.set_cons_zero, List.set_cons_succ]
        refine take_runs (i := 21) (v := ?_) (by simp only [List.getElem?_toArray, List.getElem?_cons_succ, List.getElem?_cons_zero]; rfl) (by kernel_rfl) (by kernel_rfl) (by kernel_rfl) rfl (by exact fun _ _ _ h => h) (by rfl) ?_ (by assumption) ?_
        rotate_left
        · intro w hSw; (try dsimp only at hSw); go_simp; try (with_reducible rfl)
        try simp only [Act.put, List.setIfInBounds_toArray, List.set_cons_zero, List.set_cons_succ]
        refine take_runs (i := 22) (v := ?_) (by simp only [List.getElem?_toArray, List.getElem?_cons_succ, List.getElem?_cons_zero]; rfl) (by kernel_rfl) (by kernel_rfl) (by kernel_rfl) rfl (by exact fun _ _ _ h => h) (by rfl) ?_ (by assumption) ?_
        rotate_left
        · intro w hSw; (try dsimp only at hSw); go_simp; try (with_reducible rfl)
        try simp only [Act.put, List.setIfInBounds_toArray, List.set_cons_zero, List.set_cons_succ]
        refine take_runs (i := 23) (v := ?_) (by simp only [List.getElem?_toArray, List.getElem?_cons_succ, List.getElem?_cons_zero]; rfl) (by kernel_rfl) (by kernel_rfl) (by kernel_rfl) rfl (by exact fun _ _ _ h => h) (by rfl) ?_ (by assumption) ?_
        rotate_left
        · intro w hSw; (try dsimp only at hSw); go_simp; try (with_reducible rfl)
        try simp only [Act.put, List.setIfInBounds_toArray, List.set_cons_zero, List.set_cons_succ]
        refine take_runs (i := 24) (v := ?_) (by simp only [List.getElem?_toArray, List.getElem?_cons_succ, List.getElem?_cons_zero]; rfl) (by kernel_rfl) (by kernel_rfl) (by kernel_rfl) rfl (by exact fun _ _ _ h => h) (by rfl) ?_ (by assumption) ?_
        rotate_left
        · intro w hSw; (try dsimp only at hSw); go_simp; try (with_reducible rfl)
        try simp only [Act.put, List.setIfInBounds_toArray, List.set_cons_zero, List.set_cons_succ]
        refine take_runs (i := 25) (v := ?_) (by simp only [List.getElem?_toArray, List.getElem?_cons_succ, List.getElem?_cons_zero]; rfl) (by kernel_rfl) (by kernel_rfl) (by kernel_rfl) rfl (by exact fun _ _ _ h => h) (by rfl) ?_ (by assumption) ?_
        rotate_left
        · intro w hSw; (try dsimp only at hSw); go_simp; try (with_reducible rfl)
        try simp only [Act.put, List.setIfInBounds_toArray, List.set_cons_zero, List.set_cons_succ]
        refine wpAnyH_ready (rs := [8]) (by kernel_rfl) (by simp) ?_
        refine AllReadyH.cons (o := _) (by simp only [List.getElem?_toArray, List.getElem?_cons_succ, List.getElem?_cons_zero]; rfl) (fun K hK => ?_) AllReadyH.nil
        go_simp
        refine (H1.out _).mono ?_
        rintro e x1 ⟨rfl, c1⟩
        have e1 := e0.trans (c1.mono e0.size)
        refine hK.out _ _ ⟨(e1.cell (p := ⟨w.heap.size, 2, none⟩) hz.out).trans q2, (e1.cell (p := ⟨b, off + k * 3, none⟩) hbh.out).trans hc1, (e1.cell (p := ⟨b, off + k * 3 + 1, none⟩) hbh.out).trans hc2, (e1.cell (p := ⟨b, off + k * 3 + 2, none⟩) hbh.out).trans hc3⟩ (fun hHeld => ?_)
        clear hK K
        try simp only [Act.put, List.setIfInBounds_toArray, List.set_cons_zero, List.set_cons_succ]
        refine take_runs (i := 9) (v := ?_) (by simp only [List.getElem?_toArray, List.getElem?_cons_succ, List.getElem?_cons_zero]; rfl) (by kernel_rfl) (by kernel_rfl) (by kernel_rfl) rfl (by exact fun _ _ _ h => h) (by rfl) ?_ (by assumption) ?_
        rotate_left
        · intro w hSw; (try dsimp only at hSw); go_simp; try (with_reducible rfl)
        try simp only [Act.put, List.setIfInBounds_toArray, List.set_cons_zero, List.set_cons_succ]
        refine take_runs (i := 10) (v := ?_) (by simp only [List.getElem?_toArray, List.getElem?_cons_succ, List.getElem?_cons_zero]; rfl) (by kernel_rfl) (by kernel_rfl) (by kernel_rfl) rfl (by exact fun _ _ _ h => h) (by rfl) ?_ (by assumption) ?_
        rotate_left
        · intro w hSw; (try dsimp only at hSw); go_simp; try (with_reducible rfl)
        try simp only [Act.put, List.setIfInBounds_toArray, List.set_cons_zero, List.set_cons_succ]
        refine wpAnyH_ready (rs := [17]) (by kernel_rfl) (by simp) ?_
        refine AllReadyH.cons (o := _) (by simp only [List.getElem?_toArray, List.getElem?_cons_succ, List.getElem?_cons_zero]; rfl) (fun K hK => ?_) AllReadyH.nil
        go_simp
        refine (H2.out _).mono ?_
        rintro e x2 ⟨rfl, c2⟩
        have e2 := e1.trans (c2.mono e1.size)
        refine hK.out _ _ ⟨(e2.cell (p := ⟨w.heap.size, 2, none⟩) hz.out).trans q2, (e2.cell (p := ⟨b, off + k * 3, none⟩) hbh.out).trans hc1, (e2.cell (p := ⟨b, off + k * 3 + 1, none⟩) hbh.out).trans hc2, (e2.cell (p := ⟨b, off + k * 3 + 2, none⟩) hbh.out).trans hc3⟩ (fun hHeld => ?_)
        clear hK K
        try simp only [Act.put, List.setIfInBounds_toArray, List.set_cons_zero, List.set_cons_succ]
        refine take_runs (i := 18) (v := ?_) (by simp only [List.getElem?_toArray, List.getElem?_cons_succ, List.getElem?_cons_zero]; rfl) (by kernel_rfl) (by kernel_rfl) (by kernel_rfl) rfl (by exact fun _ _ _ h => h) (by rfl) ?_ (by assumption) ?_
        rotate_left
        · intro w hSw; (try dsimp only at hSw); go_simp; try (with_reducible rfl)
        try simp only [Act.put, List.setIfInBounds_toArray, List.set_cons_zero, List.set_cons_succ]
        refine take_runs (i := 19) (v := ?_) (by simp only [List.getElem?_toArray, List.getElem?_cons_succ, List.getElem?_cons_zero]; rfl) (by kernel_rfl) (by kernel_rfl) (by kernel_rfl) rfl (by exact fun _ _ _ h => h) (by rfl) ?_ (by assumption) ?_
        rotate_left
        · intro w hSw; (try dsimp only at hSw); go_simp; try (with_reducible rfl)
        try simp only [Act.put, List.setIfInBounds_toArray, List.set_cons_zero, List.set_cons_succ]
        refine wpAnyH_ready (rs := [26]) (by kernel_rfl) (by simp) ?_
        refine AllReadyH.cons (o := _) (by simp only [List.getElem?_toArray, List.getElem?_cons_succ, List.getElem?_cons_zero]; rfl) (fun K hK => ?_) AllReadyH.nil
        go_simp
        refine (H3.out _).mono ?_
        rintro e x3 ⟨rfl, c3⟩
        have e3 := e2.trans (c3.mono e2.size)
        refine hK.out _ _ ⟨(e3.cell (p := ⟨w.heap.size, 2, none⟩) hz.out).trans q2, (e3.cell (p := ⟨b, off + k * 3, none⟩) hbh.out).trans hc1, (e3.cell (p := ⟨b, off + k * 3 + 1, none⟩) hbh.out).trans hc2, (e3.cell (p := ⟨b, off + k * 3 + 2, none⟩) hbh.out).trans hc3⟩ (fun hHeld => ?_)
        clear hK K
        try simp only [Act.put, List.setIfInBounds_toArray, List.set_cons_zero, List.set_cons_succ]
        refine take_runs (i := 27) (v := ?_) (by simp only [List.getElem?_toArray, List.getElem?_cons_succ, List.getElem?_cons_zero]; rfl) (by kernel_rfl) (by kernel_rfl) (by kernel_rfl) rfl (by exact fun _ _ _ h => h) (by rfl) ?_ (by assumption) ?_
        rotate_left
        · intro w hSw; (try dsimp only at hSw); go_simp; try (with_reducible rfl)
        try simp only [Act.put, List.setIfInBounds_toArray, List.set_cons_zero, List.set_cons_succ]
        refine take_runs (i := 28) (v := ?_) (by simp only [List.getElem?_toArray, List.getElem?_cons_succ, List.getElem?_cons_zero]; rfl) (by kernel_rfl) (by kernel_rfl) (by kernel_rfl) rfl (by exact fun _ _ _ h => h) (by rfl) ?_ (by assumption) ?_
        rotate_left
        · intro w hSw; (try dsimp only at hSw); go_simp; try (with_reducible rfl)
        try simp only [Act.put, List.setIfInBounds_toArray, List.set_cons_zero, List.set_cons_succ]
        refine wpAnyH_done (by kernel_rfl) ?_ _
        have b9 := hbel.trans (e3.mono hbel.size)
        clear hHeld e0 e1 e2 e3 c1 c2 c3 d1 d2 d3 d4 d5 d6 hc1 hc2 hc3 q2 q3
        go_wp2
        go_roundw
        case rel => exact ⟨k + 1, _, by omega, by go_num, rfl, Lib.hid (by rw [hst.out, HEQ.out]), HLEN.out, b9⟩
        case measure => simp [intOf]; omega
      · obtain rfl : k = cs.length := by omega
        have hO := Lib.hid (ints_below HO.out hbel)
        obtain ⟨t7, ht7⟩ : ∃ t7, t7 = t ++ [32, 111, 117, 116, 32] := ⟨_, rfl⟩
        have d7 : ∀ w, (Op.stringOp .add (strB t) ⟨#[32, 111, 117, 116, 32]⟩).run Tryz.prog w = .ok (.string (strB t7)) w := by rw [ht7]; exact strB_add t [32, 111, 117, 116, 32] (by simp only [List.length_cons, List.length_nil]; omega)
        have h7 : t7.length ≤ 300 := by rw [ht7, List.length_append]; simp only [List.length_cons, List.length_nil]; omega
        have HFF : Hid (fmtQ id tn cs os = t7 ++ listTo os os.length) := Lib.hid (by rw [HF.out, ht7, hT.out])
        clear ht7
        go_wp2_with fail
        refine (HL.out _ hO.out).mono ?_
        rintro e x1 ⟨rfl, c1, hl⟩
        have d8 := strB_add t7 (listTo os os.length) (by have := HOL.out; omega)
        have b9 := hbel.trans (c1.mono hbel.size)
        clear d7
        go_wp2
        go_ret
        exact ⟨ret_s HFF.out.symm, HB0.out.trans (b9.mono HB0.out.size)⟩
end Go.Proofs.YtijfnabglblimaaGreatDoor
namespace Go.Proofs.YtijfnabglblimaaGreatDoor
open Go.RowKit
set_option linter.unusedVariables false
set_option linter.unusedSimpArgs false
/-- A query's data: number, tenant, conditions, fields. -/
abbrev QD := Int × Int × List CondD × List Int
def q0D : QD := (0, 0, [], [])
end Go.Proofs.YtijfnabglblimaaGreatDoor
namespace Go.Proofs.YtijfnabglblimaaGreatDoor
open Go.RowKit
set_option linter.unusedVariables false
set_option linter.unusedSimpArgs false
/-- The condition that two pieces say. -/
def condOf (P : List (List UInt8)) (j : Nat) : CondD := (aftL 102 (P.getD (2 + 2 * j) []), rngL (P.getD (3 + 2 * j) []))
/-- What the pieces of a text say, whether it is a query's text or not. -/
def queryOfP (P : List (List UInt8)) : QD := (aftL 113 (P.getD 0 []), aftL 116 (P.getD 1 []), (List.range ((P.length - 4) / 2)).map (condOf P), (cutL 44 (P.getD (P.length - 1) [])).map numL)
def fmtQD (q : QD) : List UInt8 := fmtQ q.1 q.2.1 q.2.2.1 q.2.2.2
def parQ (l : List UInt8) : QD × Bool := if (cutL 32 l).length < 4 ∨ fmtQD (queryOfP (cutL 32 l)) ≠ l then (q0D, false) else (queryOfP (cutL 32 l), true)
theorem parQ_no {l : List UInt8} (h : (cutL 32 l).length < 4 ∨ fmtQD (queryOfP (cutL 32 l)) ≠ l) : parQ l = (q0D, false) := if_pos h
theorem parQ_yes {l : List UInt8} (h1 : ¬ (cutL 32 l).length < 4) (h2 : fmtQD (queryOfP (cutL 32 l)) = l) : parQ l = (queryOfP (cutL 32 l), true) := if_neg (fun g => g.elim h1 (fun h => h h2))
end Go.Proofs.YtijfnabglblimaaGreatDoor
namespace Go.Proofs.YtijfnabglblimaaGreatDoor
open Go.RowKit
set_option linter.unusedVariables false
theorem cutGo_no {b : UInt8} : ∀ (l p : List UInt8), b ∉ l → cutGo b p l = [p ++ l] := by
  intro l
  induction l with
  | nil => intro p _; simp [cutGo]
  | cons c r ih =>
    intro p h
    rw [List.mem_cons, not_or] at h
    unfold cutGo
    rw [if_neg (fun e => h.1 e.symm), ih _ h.2]
    simp
theorem cutGo_app {b : UInt8} : ∀ (a p l : List UInt8), b ∉ a → cutGo b p (a ++ b :: l) = (p ++ a) :: cutGo b [] l := by
  intro a
  induction a with
  | nil => intro p l _; simp [cutGo]
  | cons c r ih =>
    intro p l h
    rw [List.mem_cons, not_or] at h
    rw [List.cons_append]
    show (if c = b then _ else cutGo b (p ++ [c]) (r ++ b :: l)) = _
    rw [if_neg (fun e => h.1 e.symm), ih _ _ h.2]
    simp
theorem cutL_no {b : UInt8} {l : List UInt8} (h : b ∉ l) : cutL b l = [l] := by unfold cutL; rw [cutGo_no l [] h]; rfl
theorem cutL_app {b : UInt8} {a : List UInt8} (l : List UInt8) (h : b ∉ a) : cutL b (a ++ b :: l) = a :: cutL b l := by unfold cutL; rw [cutGo_app a [] l h]; rfl
theorem index_cases (l : List UInt8) (c : UInt8) : (c ∉ l ∧ Lib.indexByte l c = -1) ∨ ∃ a r, l = a ++ c :: r ∧ c ∉ a ∧ Lib.indexByte l c = (a.length : Int) := by
  induction l with
  | nil => left; exact ⟨by simp, rfl⟩
  | cons b l ih =>
    by_cases h : b = c
    · right; exact ⟨[], l, by rw [h]; rfl, by simp, by unfold Lib.indexByte; rw [if_pos (by simpa using h)]; rfl⟩
    · have hb : (b == c) = false := by rw [beq_eq_false_iff_ne]; exact h
      rcases ih with ⟨h1, h2⟩ | ⟨a, r, h1, h2, h3⟩
      · left
        refine ⟨by rw [List.mem_cons, not_or]; exact ⟨fun e => h e.symm, h1⟩, ?_⟩
        unfold Lib.indexByte; rw [hb, h2]; rfl
      · right
        refine ⟨b :: a, r, by rw [h1]; rfl, by rw [List.mem_cons, not_or]; exact ⟨fun e => h e.symm, h2⟩, ?_⟩
        unfold Lib.indexByte
        rw [hb, h3]
        have : ((a.length : Int) == -1) = false := by rw [beq_eq_false_iff_ne]; omega
        rw [this]
        simp
/-! ### Numerals -/
theorem parI_is {l : List UInt8} (h : (parI l).2 = true) : Lib.itoa (parI l).1 = l := by
  unfold parI at h ⊢
  by_cases hc : Lib.itoa (sval l) = l ∧ dcnt l ≤ 9
  · rw [if_pos hc]; exact hc.1
  · rw [if_neg hc] at h; cases h
theorem itoa_dig {n : Int} (h : 0 ≤ n) : ∀ b ∈ Lib.itoa n, dig b = true := by
  unfold Lib.itoa
  rw [if_neg (by omega)]
  exact (digits_dec n.toNat).2
theorem dig_no45 : dig 45 = false := by decide
theorem itoa_no {n : Int} (h : 0 ≤ n) {c : UInt8} (hc : dig c = false) : c ∉ Lib.itoa n := fun g => by
  have := itoa_dig h c g; rw [hc] at this; cases this
theorem numL_yes {q : List UInt8} (h : (parI q).2 = true) : numL q = (parI q).1 := by unfold numL; rw [h]; rfl
theorem parI_itoa3 {n : Int} (h0 : 0 ≤ n) (h1 : n ≤ 999) : parI (Lib.itoa n) = (n, true) := by
  obtain ⟨u, rfl⟩ := Int.eq_ofNat_of_zero_le h0
  have hi : Lib.itoa (u : Int) = Lib.decDigits u := by unfold Lib.itoa; rw [if_neg (by omega), Int.toNat_natCast]
  have hneg : neg (Lib.itoa (u : Int)) = false := by
    cases hn : neg (Lib.itoa (u : Int)) with
    | false => rfl
    | true =>
      obtain ⟨r, hr⟩ := neg_cons hn
      exact absurd (by rw [hr]; exact List.mem_cons_self ..) (itoa_no (n := (u : Int)) (by omega) dig_no45)
  have hs : sval (Lib.itoa (u : Int)) = (u : Int) := by
    unfold sval
    rw [hneg, hi, (digits_dec u).1]
    rfl
  have two : ∀ q : Nat, q ≤ 99 → (Lib.decDigits q).length ≤ 2 := fun q hq => by
    by_cases h : q < 10
    · rw [Lib.decDigits_one h]; simp
    · rw [Lib.decDigits, dif_neg h, List.length_append, Lib.decDigits_one (by omega)]; simp
  have hlen : (Lib.decDigits u).length ≤ 9 := by
    by_cases h : u < 10
    · rw [Lib.decDigits_one h]; simp
    · rw [Lib.decDigits, dif_neg h, List.length_append]
      have := two (u / 10) (by omega)
      simp; omega
  have hd : dcnt (Lib.itoa (u : Int)) ≤ 9 := by rw [hi]; exact Nat.le_trans (dcnt_le _) hlen
  exact (parI_ok (by rw [hs]) hd).trans (by rw [hs])
theorem numL_itoa3 {n : Int} (h0 : 0 ≤ n) (h1 : n ≤ 999) : numL (Lib.itoa n) = n := by unfold numL; rw [parI_itoa3 h0 h1]; rfl
theorem strB_take (a b : List UInt8) : (strB (a ++ b)).extract 0 a.length = strB a := by
  apply ByteArray.ext
  apply Array.ext'
  simp only [ByteArray.data_extract, Array.toList_extract, strB]
  rw [List.extract_eq_take_drop]
  simp
theorem strB_drop (a : List UInt8) (c : UInt8) (b : List UInt8) : (strB (a ++ c :: b)).extract (a.length + 1) (a ++ c :: b).length = strB b := by
  apply ByteArray.ext
  apply Array.ext'
  simp only [ByteArray.data_extract, Array.toList_extract, strB]
  rw [List.extract_eq_take_drop, show a ++ c :: b = (a ++ [c]) ++ b by simp]
  rw [List.drop_left' (by simp), List.take_of_length_le (by simp; omega)]
end Go.Proofs.YtijfnabglblimaaGreatDoor
namespace Go.Proofs.YtijfnabglblimaaGreatDoor
open Go.RowKit
set_option linter.unusedVariables false
/-- The pieces joined again. -/
def glueL (b : UInt8) : List (List UInt8) → List UInt8
  | [] => []
  | [p] => p
  | p :: q :: r => p ++ b :: glueL b (q :: r)
theorem glueL_cons (b : UInt8) (p : List UInt8) {r : List (List UInt8)} (h : r ≠ []) : glueL b (p :: r) = p ++ b :: glueL b r := by
  cases r with
  | nil => exact absurd rfl h
  | cons q r => rfl
theorem glue_cutGo (b : UInt8) : ∀ (l p : List UInt8), glueL b (cutGo b p l) = p ++ l := by
  intro l
  induction l with
  | nil => intro p; simp [cutGo, glueL]
  | cons c r ih =>
    intro p
    unfold cutGo
    split
    · rename_i hc
      have hne : cutGo b [] r ≠ [] := fun e => by have := cutGo_pos b r []; rw [e] at this; simp at this
      rw [glueL_cons b p hne, ih []]
      rw [List.nil_append, ← hc]
    · rw [ih]; simp
theorem glue_cut (b : UInt8) (l : List UInt8) : glueL b (cutL b l) = l := by unfold cutL; rw [glue_cutGo]; rfl
theorem glue_mem {b c : UInt8} (hbc : c ≠ b) : ∀ ps : List (List UInt8), c ∈ glueL b ps → ∃ p ∈ ps, c ∈ p
  | [], h => by simp [glueL] at h
  | [p], h => ⟨p, List.mem_cons_self .., h⟩
  | p :: q :: r, h => by
    rw [glueL_cons b p (by simp), List.mem_append, List.mem_cons] at h
    rcases h with h | h | h
    · exact ⟨p, List.mem_cons_self .., h⟩
    · exact absurd h hbc
    · obtain ⟨x, hx, hc⟩ := glue_mem hbc (q :: r) h
      exact ⟨x, List.mem_cons_of_mem _ hx, hc⟩
/-- The program's numbers of a list of pieces. -/
def intsGo : List Int → List (List UInt8) → Option (List Int)
  | acc, [] => some acc
  | acc, p :: r => if (parI p).2 = true then intsGo (acc ++ [(parI p).1]) r else none
theorem intsGo_hit {acc : List Int} {P : List (List UInt8)} {k : Nat} (hk : k < P.length) (h : (parI (P.getD k [])).2 = true) : intsGo acc (P.drop k) = intsGo (acc ++ [(parI (P.getD k [])).1]) (P.drop (k + 1)) := by
  rw [List.drop_eq_getElem_cons hk]
  have e : P.getD k [] = P[k] := by simp [List.getD, hk]
  rw [e] at h ⊢
  show (if (parI P[k]).2 = true then _ else _) = _
  rw [if_pos h]
theorem intsGo_miss {acc : List Int} {P : List (List UInt8)} {k : Nat} (hk : k < P.length) (h : (parI (P.getD k [])).2 = false) : intsGo acc (P.drop k) = none := by
  rw [List.drop_eq_getElem_cons hk]
  have e : P.getD k [] = P[k] := by simp [List.getD, hk]
  rw [e] at h
  show (if (parI P[k]).2 = true then _ else _) = _
  rw [if_neg (by rw [h]; simp)]
theorem intsGo_all : ∀ (P : List (List UInt8)) (acc : List Int), (∀ p ∈ P, (parI p).2 = true) → intsGo acc P = some (acc ++ P.map numL)
  | [], acc, _ => by simp [intsGo]
  | p :: r, acc, h => by
    have hp := h p (List.mem_cons_self ..)
    unfold intsGo
    rw [if_pos hp, intsGo_all r _ (fun q hq => h q (List.mem_cons_of_mem _ hq))]
    simp [numL_yes hp]
theorem intsGo_some : ∀ (P : List (List UInt8)) (acc xs : List Int), intsGo acc P = some xs → (∀ p ∈ P, (parI p).2 = true) ∧ xs = acc ++ P.map numL
  | [], acc, xs, h => by simp [intsGo] at h; subst h; simp
  | p :: r, acc, xs, h => by
    unfold intsGo at h
    by_cases hp : (parI p).2 = true
    · rw [if_pos hp] at h
      obtain ⟨h1, h2⟩ := intsGo_some r _ xs h
      refine ⟨fun q hq => ?_, by rw [h2]; simp [numL_yes hp]⟩
      rcases List.mem_cons.1 hq with rfl | hq
      · exact hp
      · exact h1 q hq
    · rw [if_neg hp] at h; cases h
end Go.Proofs.YtijfnabglblimaaGreatDoor
namespace Go.Proofs.YtijfnabglblimaaGreatDoor
open Go.RowKit
set_option linter.unusedVariables false
set_option linter.unusedSimpArgs false
theorem ix_no {b : UInt8} : ∀ {l : List UInt8}, b ∉ l → Lib.index l [b] = -1
  | [], _ => rfl
  | c :: l, h => by
    have h1 : ¬ b = c := fun e => h (by simp [e])
    have h2 := ix_no (l := l) (fun g => h (List.mem_cons_of_mem _ g))
    unfold Lib.index
    rw [if_neg (by simp [h1]), if_pos (by rw [h2]; rfl)]
theorem ix_yes {b : UInt8} {r : List UInt8} : ∀ {a : List UInt8}, b ∉ a → Lib.index (a ++ b :: r) [b] = (a.length : Int)
  | [], _ => by
    show Lib.index (b :: r) [b] = 0
    unfold Lib.index
    rw [if_pos (by simp)]
  | c :: l, h => by
    have h1 : ¬ b = c := fun e => h (by simp [e])
    have h2 := ix_yes (r := r) (a := l) (fun g => h (List.mem_cons_of_mem _ g))
    show Lib.index (c :: (l ++ b :: r)) [b] = _
    unfold Lib.index
    rw [if_neg (by simp [h1]), h2, if_neg (by simp)]
    simp
theorem split_go {b : UInt8} : ∀ (fuel : Nat) (l : List UInt8), l.length < fuel → Lib.splitK [b] 0 (Lib.countFrom [b] fuel l) l = cutL b l
  | 0, l, h => by omega
  | fuel + 1, l, h => by
    by_cases hb : b ∈ l
    · obtain ⟨a, r, rfl, ha⟩ := List.eq_append_cons_of_mem hb
      have hi := ix_yes (r := r) ha
      have hd : (a ++ b :: r).drop ((Lib.index (a ++ b :: r) [b]).toNat + [b].length) = r := by
        rw [hi, Int.toNat_natCast, List.drop_append]
        simp
      have hn : ¬ (Lib.index (a ++ b :: r) [b] == -1) = true := by rw [hi]; simp
      have hc : Lib.countFrom [b] (fuel + 1) (a ++ b :: r) = Lib.countFrom [b] fuel r + 1 := by
        rw [Lib.countFrom, if_neg hn, hd, Nat.add_comm]
      rw [hc, Lib.splitK, if_neg hn, hd, split_go fuel r (by simp at h; omega), cutL_app r ha, hi, Int.toNat_natCast]
      simp
    · have hi := ix_no hb
      have hp : (Lib.index l [b] == -1) = true := by rw [hi]; rfl
      rw [Lib.countFrom, if_pos hp, Lib.splitK, cutL_no hb]
theorem split_len {b : UInt8} : ∀ (fuel : Nat) (l : List UInt8), l.length < fuel → (cutL b l).length = Lib.countFrom [b] fuel l + 1
  | 0, l, h => by omega
  | fuel + 1, l, h => by
    by_cases hb : b ∈ l
    · obtain ⟨a, r, rfl, ha⟩ := List.eq_append_cons_of_mem hb
      have hi := ix_yes (r := r) ha
      have hd : (a ++ b :: r).drop ((Lib.index (a ++ b :: r) [b]).toNat + [b].length) = r := by
        rw [hi, Int.toNat_natCast, List.drop_append]
        simp
      have hn : ¬ (Lib.index (a ++ b :: r) [b] == -1) = true := by rw [hi]; simp
      have hc : Lib.countFrom [b] (fuel + 1) (a ++ b :: r) = Lib.countFrom [b] fuel r + 1 := by
        rw [Lib.countFrom, if_neg hn, hd, Nat.add_comm]
      rw [hc, cutL_app r ha, List.length_cons, split_len fuel r (by simp at h; omega)]
    · have hp : (Lib.index l [b] == -1) = true := by rw [ix_no hb]; rfl
      rw [Lib.countFrom, if_pos hp, cutL_no hb]; rfl
theorem glue_piece (b : UInt8) : ∀ (ps : List (List UInt8)) (p : List UInt8), p ∈ ps → p.length + (ps.length - 1) ≤ (glueL b ps).length
  | [q], p, h => by
    simp at h
    subst h
    simp [glueL]
  | q :: r :: t, p, h => by
    rw [glueL_cons b q (by simp)]
    have hr := glue_piece b (r :: t)
    simp only [List.length_append, List.length_cons] at hr ⊢
    rcases List.mem_cons.1 h with rfl | h
    · have := hr r (by simp)
      omega
    · have := hr p h
      omega
theorem cut_short {b : UInt8} {l : List UInt8} (h : 2 ≤ (cutL b l).length) (j : Nat) : ((cutL b l).getD j []).length + 1 ≤ l.length := by
  by_cases hj : j < (cutL b l).length
  · have := glue_piece b (cutL b l) ((cutL b l).getD j []) (by rw [show (cutL b l).getD j [] = (cutL b l)[j] by simp [List.getD, hj]]; exact List.getElem_mem hj)
    rw [glue_cut] at this
    omega
  · have e : (cutL b l).getD j [] = [] := by rw [List.getD, List.getElem?_eq_none (by omega)]; rfl
    have := glue_piece b (cutL b l) ((cutL b l).getD 0 []) (by rw [show (cutL b l).getD 0 [] = (cutL b l)[0] by simp [List.getD, (by omega : 0 < (cutL b l).length)]]; exact List.getElem_mem (by omega))
    rw [glue_cut] at this
    rw [e]; simp; omega
theorem split_cut (b : UInt8) (l : List UInt8) : Lib.split l [b] = cutL b l := split_go _ _ (Nat.lt_succ_self _)
theorem ix2_yes {r : List UInt8} : ∀ {a : List UInt8}, (46 : UInt8) ∉ a → Lib.index (a ++ 46 :: 46 :: r) [46, 46] = (a.length : Int)
  | [], _ => by
    show Lib.index (46 :: 46 :: r) [46, 46] = 0
    unfold Lib.index
    rw [if_pos (by simp)]
  | c :: l, h => by
    have h1 : ¬ (46 : UInt8) = c := fun e => h (by simp [e])
    have h2 := ix2_yes (r := r) (a := l) (fun g => h (List.mem_cons_of_mem _ g))
    show Lib.index (c :: (l ++ 46 :: 46 :: r)) [46, 46] = _
    unfold Lib.index
    rw [if_neg (by simp [h1]), h2, if_neg (by simp)]
    simp
theorem ix2_is : ∀ {s : List UInt8} {i : Nat}, Lib.index s [46, 46] = (i : Int) → s = s.take i ++ [46, 46] ++ s.drop (i + 2)
  | [], i, h => by
    have : Lib.index [] [46, 46] = -1 := rfl
    omega
  | c :: l, i, h => by
    unfold Lib.index at h
    split at h
    · rename_i hp
      have hi : i = 0 := by omega
      subst hi
      match l, hp with
      | [], hp => simp at hp
      | d :: l', hp =>
        simp at hp
        obtain ⟨rfl, rfl⟩ := hp
        simp
    · split at h
      · omega
      · rename_i hn
        have hi : 0 < i := by
          have := Lib.index_ge l [46, 46]
          have hne : Lib.index l [46, 46] ≠ -1 := fun e => hn (by rw [e]; rfl)
          omega
        obtain ⟨k, rfl⟩ : ∃ k, i = k + 1 := ⟨i - 1, by omega⟩
        have := ix2_is (s := l) (i := k) (by omega)
        show c :: l = c :: l.take k ++ [46, 46] ++ l.drop (k + 2)
        rw [List.cons_append, List.cons_append, ← this]
/-- A number with a letter in front of it. -/
def tagP (c : UInt8) (s : List UInt8) : Int × Bool := if s.getD 0 0 = c ∧ 1 ≤ s.length then parI (s.drop 1) else (0, false)
/-- Two numbers with two dots between them. -/
def rngP (s : List UInt8) : Int × Int × Bool :=
  if (Lib.cut s [46, 46]).2.2 && ((parI (Lib.cut s [46, 46]).1).2 && (parI (Lib.cut s [46, 46]).2.1).2) then ((parI (Lib.cut s [46, 46]).1).1, (parI (Lib.cut s [46, 46]).2.1).1, true) else (0, 0, false)
theorem tagP_is {c : UInt8} {s : List UInt8} (h : (tagP c s).2 = true) : s = c :: Lib.itoa (tagP c s).1 := by
  unfold tagP at h ⊢
  split at h
  · rename_i hc
    rw [if_pos hc, parI_is h]
    match s, hc with
    | d :: r, hc => have := hc.1; simp at this; simp [this]
  · exact Bool.noConfusion h
theorem tagP_yes {c : UInt8} {n : Int} (h0 : 0 ≤ n) (h1 : n ≤ 999) : tagP c (c :: Lib.itoa n) = (n, true) := by
  unfold tagP
  rw [if_pos ⟨rfl, by simp⟩]
  exact parI_itoa3 h0 h1
theorem rngP_is {s : List UInt8} (h : (rngP s).2.2 = true) : s = Lib.itoa (rngP s).1 ++ [46, 46] ++ Lib.itoa (rngP s).2.1 := by
  unfold rngP at h ⊢
  split at h
  · rename_i hc
    rw [if_pos hc]
    simp only [Bool.and_eq_true] at hc
    obtain ⟨h1, h2, h3⟩ := hc
    rw [parI_is h2, parI_is h3]
    unfold Lib.cut at h1 ⊢
    split at h1
    · rename_i hi
      rw [if_pos hi]
      exact ix2_is (i := (Lib.index s [46, 46]).toNat) (by omega)
    · exact Bool.noConfusion h1
  · exact Bool.noConfusion h
theorem rngP_yes {a b : Int} (h0 : 0 ≤ a) (h1 : a ≤ 999) (h2 : 0 ≤ b) (h3 : b ≤ 999) : rngP (Lib.itoa a ++ [46, 46] ++ Lib.itoa b) = (a, b, true) := by
  have hi := ix2_yes (r := Lib.itoa b) (itoa_no h0 (c := 46) (by decide))
  have hc : Lib.cut (Lib.itoa a ++ [46, 46] ++ Lib.itoa b) [46, 46] = (Lib.itoa a, Lib.itoa b, true) := by
    have e : Lib.itoa a ++ [46, 46] ++ Lib.itoa b = Lib.itoa a ++ 46 :: 46 :: Lib.itoa b := by simp
    rw [e]
    unfold Lib.cut
    rw [if_pos (by rw [hi]; omega), hi, Int.toNat_natCast]
    simp
  unfold rngP
  rw [hc, parI_itoa3 h0 h1, parI_itoa3 h2 h3]
  rfl
theorem rngGo_at {r : List UInt8} : ∀ {a p : List UInt8}, (46 : UInt8) ∉ a → rngGo p (a ++ 46 :: 46 :: r) = (numL (p ++ a), numL r)
  | [], p, _ => by
    show rngGo p (46 :: 46 :: r) = _
    unfold rngGo
    rw [if_pos ⟨rfl, rfl⟩, List.append_nil]
  | c :: l, p, h => by
    have h1 : ¬ c = 46 := fun e => h (by simp [e])
    have ih := rngGo_at (r := r) (a := l) (p := p ++ [c]) (fun g => h (List.mem_cons_of_mem _ g))
    have e : ∃ d t, l ++ 46 :: 46 :: r = d :: t := by cases l <;> simp
    obtain ⟨d, t, e⟩ := e
    show rngGo p (c :: (l ++ 46 :: 46 :: r)) = _
    rw [e] at ih ⊢
    unfold rngGo
    rw [if_neg (fun g => h1 g.1), ih]
    simp
theorem rngL_yes {a b : Int} (h0 : 0 ≤ a) (h1 : a ≤ 999) (h2 : 0 ≤ b) (h3 : b ≤ 999) : rngL (Lib.itoa a ++ [46, 46] ++ Lib.itoa b) = (a, b) := by
  have e : Lib.itoa a ++ [46, 46] ++ Lib.itoa b = Lib.itoa a ++ 46 :: 46 :: Lib.itoa b := by simp
  unfold rngL
  rw [e, rngGo_at (itoa_no h0 (c := 46) (by decide)), List.nil_append, numL_itoa3 h0 h1, numL_itoa3 h2 h3]
theorem aftL_yes {c : UInt8} {n : Int} (h0 : 0 ≤ n) (h1 : n ≤ 999) : aftL c (c :: Lib.itoa n) = n := by
  unfold aftL
  have := List.length_pos_iff.2 (itoa_ne n)
  rw [if_pos ⟨by simp; omega, rfl⟩]
  exact numL_itoa3 h0 h1
/-- The conditions that the pieces two by two say, behind 'acc'. -/
def condsGo : List CondD → List (List UInt8) → Option (List CondD)
  | acc, [] => some acc
  | _, [_] => none
  | acc, a :: b :: r => if (tagP 102 a).2 && (rngP b).2.2 then condsGo (acc ++ [((tagP 102 a).1, (rngP b).1, (rngP b).2.1)]) r else none
theorem drop_two {α : Type} {P : List α} {k : Nat} {d : α} (hk : k + 1 < P.length) : P.drop k = P.getD k d :: P.getD (k + 1) d :: P.drop (k + 2) := by
  rw [List.drop_eq_getElem_cons (by omega : k < P.length), List.drop_eq_getElem_cons hk]
  simp [List.getD, hk, (by omega : k < P.length)]
theorem condsGo_hit {acc : List CondD} {P : List (List UInt8)} {k : Nat} (hk : k + 1 < P.length) (h1 : (tagP 102 (P.getD k [])).2 = true) (h2 : (rngP (P.getD (k + 1) [])).2.2 = true) :
    condsGo acc (P.drop k) = condsGo (acc ++ [((tagP 102 (P.getD k [])).1, (rngP (P.getD (k + 1) [])).1, (rngP (P.getD (k + 1) [])).2.1)]) (P.drop (k + 2)) := by
  rw [drop_two (d := []) hk]
  show (if _ then _ else _) = _
  rw [if_pos (by rw [h1, h2]; rfl)]
theorem condsGo_miss {acc : List CondD} {P : List (List UInt8)} {k : Nat} (hk : k + 1 < P.length) (h : ((tagP 102 (P.getD k [])).2 && (rngP (P.getD (k + 1) [])).2.2) = false) : condsGo acc (P.drop k) = none := by
  rw [drop_two (d := []) hk]
  show (if _ then _ else _) = _
  rw [if_neg (by rw [h]; exact Bool.noConfusion)]
theorem condsGo_odd : ∀ (P : List (List UInt8)) (acc : List CondD), P.length % 2 ≠ 0 → condsGo acc P = none
  | [], _, h => absurd rfl h
  | [_], _, _ => rfl
  | a :: b :: r, acc, h => by
    show (if _ then _ else _) = _
    split
    · exact condsGo_odd r _ (by simp at h; omega)
    · rfl
def condsW : List CondD → List (List UInt8)
  | [] => []
  | c :: r => (102 :: Lib.itoa c.1) :: (Lib.itoa c.2.1 ++ [46, 46] ++ Lib.itoa c.2.2) :: condsW r
theorem condsGo_is : ∀ (P : List (List UInt8)) (acc r : List CondD), condsGo acc P = some r → ∃ cs, r = acc ++ cs ∧ P = condsW cs
  | [], acc, r, h => ⟨[], by simp [condsGo] at h; simp [h], rfl⟩
  | [_], acc, r, h => by simp [condsGo] at h
  | a :: b :: q, acc, r, h => by
    change (if _ then _ else _) = _ at h
    split at h
    · rename_i hc
      rw [Bool.and_eq_true] at hc
      obtain ⟨cs, e1, e2⟩ := condsGo_is q _ r h
      refine ⟨((tagP 102 a).1, (rngP b).1, (rngP b).2.1) :: cs, by rw [e1]; simp, ?_⟩
      show _ = (102 :: Lib.itoa (tagP 102 a).1) :: (Lib.itoa (rngP b).1 ++ [46, 46] ++ Lib.itoa (rngP b).2.1) :: condsW cs
      rw [← tagP_is hc.1, ← rngP_is hc.2, ← e2]
    · simp at h
def cIn (c : CondD) : Prop := (0 ≤ c.1 ∧ c.1 ≤ 999) ∧ (0 ≤ c.2.1 ∧ c.2.1 ≤ 999) ∧ 0 ≤ c.2.2 ∧ c.2.2 ≤ 999
theorem condsGo_words : ∀ (cs acc : List CondD), (∀ c ∈ cs, cIn c) → condsGo acc (condsW cs) = some (acc ++ cs)
  | [], acc, _ => by simp [condsW, condsGo]
  | c :: r, acc, h => by
    obtain ⟨⟨f0, f1⟩, ⟨a0, a1⟩, b0, b1⟩ := h c (by simp)
    show (if _ then _ else _) = _
    rw [tagP_yes f0 f1, rngP_yes a0 a1 b0 b1]
    show condsGo (acc ++ [(c.1, c.2.1, c.2.2)]) (condsW r) = _
    rw [condsGo_words r _ (fun c hc => h c (List.mem_cons_of_mem _ hc))]
    simp
theorem condsW_len : ∀ cs : List CondD, (condsW cs).length = 2 * cs.length
  | [] => rfl
  | c :: r => by simp [condsW, condsW_len r]; omega
theorem condsW_at : ∀ (cs : List CondD) (j : Nat), j < cs.length → (condsW cs).getD (2 * j) [] = 102 :: Lib.itoa (cs.getD j c0D).1 ∧ (condsW cs).getD (2 * j + 1) [] = Lib.itoa (cs.getD j c0D).2.1 ++ [46, 46] ++ Lib.itoa (cs.getD j c0D).2.2
  | [], j, h => by simp at h
  | c :: r, 0, h => by simp [condsW]
  | c :: r, j + 1, h => by
    have := condsW_at r j (by simpa using h)
    simpa [condsW, show 2 * (j + 1) = 2 * j + 1 + 1 by omega] using this
/-- The pieces of a query's text. -/
def wordsQ (q : QD) : List (List UInt8) := (113 :: Lib.itoa q.1) :: (116 :: Lib.itoa q.2.1) :: (condsW q.2.2.1 ++ [[111, 117, 116], listTo q.2.2.2 q.2.2.2.length])
def pickQ (a b : Int × Bool) (r1 : Option (List CondD)) (r2 : Option (List Int)) : Option QD :=
  match a.2, b.2, r1, r2 with
  | true, true, some cs, some os => some (a.1, b.1, cs, os)
  | _, _, _, _ => none
theorem pickQ_facts (a b : Int × Bool) (r1 : Option (List CondD)) (r2 : Option (List Int)) : (pickQ a b r1 r2).isSome = (a.2 && (b.2 && (r1.isSome && r2.isSome))) ∧ ∀ q, pickQ a b r1 r2 = some q → q = (a.1, b.1, r1.getD [], r2.getD []) := by
  obtain ⟨a1, a2⟩ := a
  obtain ⟨b1, b2⟩ := b
  refine ⟨?_, fun q h => ?_⟩
  · cases a2 <;> cases b2 <;> cases r1 <;> cases r2 <;> rfl
  · cases a2 <;> cases b2 <;> cases r1 <;> cases r2 <;> first | (simp only [pickQ, Option.some.injEq] at h; exact h.symm) | (simp [pickQ] at h)
/-- What the program reads off the pieces. -/
def pQ (P : List (List UInt8)) : Option QD :=
  if P.length < 4 ∨ P.getD (P.length - 2) [] ≠ [111, 117, 116] then none
  else pickQ (tagP 113 (P.getD 0 [])) (tagP 116 (P.getD 1 [])) (condsGo [] ((P.drop 2).take (P.length - 4))) (intsGo [] (cutL 44 (P.getD (P.length - 1) [])))
def qB' (q : QD) : Bool := queryB q.1 q.2.1 q.2.2.1 q.2.2.2
theorem listTo_three {xs : List Int} (h1 : 1 ≤ xs.length) (h3 : xs.length ≤ 3) : listTo xs xs.length = glueL 44 (xs.map Lib.itoa) := by
  match xs, h1, h3 with
  | [a], _, _ => simp [listTo, glueL]
  | [a, b], _, _ => simp [listTo, glueL]
  | [a, b, c], _, _ => simp [listTo, glueL]
theorem qB_fields {q : QD} (h : qB' q = true) : 1 ≤ q.2.2.2.length ∧ q.2.2.2.length ≤ 3 := by
  unfold qB' queryB fieldsB at h
  simp only [Bool.and_eq_true, decide_eq_true_eq] at h
  exact h.2.2.2.2.2
theorem map_itoa {b : List UInt8} (h : ∀ p ∈ cutL 44 b, (parI p).2 = true) : ((cutL 44 b).map numL).map Lib.itoa = cutL 44 b := by
  rw [List.map_map]
  conv => rhs; rw [← List.map_id (cutL 44 b)]
  refine List.map_congr_left fun p hp => ?_
  have := h p hp
  show Lib.itoa (numL p) = p
  rw [numL_yes this, parI_is this]
theorem pQ_is {P : List (List UInt8)} {q : QD} (h : pQ P = some q) (hq : qB' q = true) : P = wordsQ q ∧ 4 ≤ P.length := by
  unfold pQ at h
  split at h
  · simp at h
  · rename_i hc
    have hl : 4 ≤ P.length := by
      by_cases g : P.length < 4
      · exact absurd (Or.inl g) hc
      · omega
    have ho : P.getD (P.length - 2) [] = [111, 117, 116] := by
      by_cases g : P.getD (P.length - 2) [] = [111, 117, 116]
      · exact g
      · exact absurd (Or.inr g) hc
    unfold pickQ at h
    split at h
    · rename_i cs os h1 h2 h3 h4
      simp only [Option.some.injEq] at h
      subst h
      refine ⟨?_, hl⟩
      obtain ⟨cs', e1, e2⟩ := condsGo_is _ _ _ h3
      rw [List.nil_append] at e1
      subst e1
      obtain ⟨a1, a2⟩ := intsGo_some _ _ _ h4
      rw [List.nil_append] at a2
      obtain ⟨l1, l3⟩ := qB_fields hq
      simp only at l1 l3
      unfold wordsQ
      simp only
      rw [listTo_three l1 l3]
      rw [a2, map_itoa a1, glue_cut, ← tagP_is h1, ← tagP_is h2, ← e2]
      have d0 : P = P.getD 0 [] :: P.getD 1 [] :: P.drop 2 := by
        have := drop_two (P := P) (k := 0) (d := []) (by omega)
        simpa using this
      have d1 : P.drop 2 = (P.drop 2).take (P.length - 4) ++ [P.getD (P.length - 2) [], P.getD (P.length - 1) []] := by
        have g := drop_two (P := P) (k := P.length - 2) (d := []) (by omega)
        rw [show P.length - 2 + 2 = P.length by omega, List.drop_length, show P.length - 2 + 1 = P.length - 1 by omega] at g
        rw [← g]
        have := (List.take_append_drop (P.length - 4) (P.drop 2)).symm
        rw [List.drop_drop, show 2 + (P.length - 4) = P.length - 2 by omega] at this
        exact this
      rw [ho] at d1
      rw [← d1]
      exact d0
    · simp at h
theorem qB_in {q : QD} (h : qB' q = true) : (0 ≤ q.1 ∧ q.1 ≤ 999) ∧ (0 ≤ q.2.1 ∧ q.2.1 ≤ 999) ∧ (∀ c ∈ q.2.2.1, cIn c) ∧ ∀ x ∈ q.2.2.2, 0 ≤ x ∧ x ≤ 999 := by
  obtain ⟨h1, h2, h3, h4, h5, h6⟩ := query_parts (show queryB q.1 q.2.1 q.2.2.1 q.2.2.2 = true from h)
  refine ⟨⟨h1.1, by omega⟩, ⟨h2.1, by omega⟩, fun c hc => ?_, fun x hx => ?_⟩
  · obtain ⟨k, hk, rfl⟩ := List.getElem_of_mem hc
    have := h4 k hk
    rw [show q.2.2.1.getD k c0D = q.2.2.1[k] by simp [List.getD, hk]] at this
    exact ⟨⟨this.1, by omega⟩, ⟨this.2.2.1, by omega⟩, this.2.2.2.2.1, by omega⟩
  · obtain ⟨k, hk, rfl⟩ := List.getElem_of_mem hx
    have := h6 k hk
    rw [show q.2.2.2.getD k 0 = q.2.2.2[k] by simp [List.getD, hk]] at this
    exact ⟨this.1, by omega⟩
theorem cutL_glue {b : UInt8} : ∀ {ps : List (List UInt8)}, ps ≠ [] → (∀ p ∈ ps, b ∉ p) → cutL b (glueL b ps) = ps
  | [], h, _ => absurd rfl h
  | [p], _, h => by
    show cutL b p = [p]
    exact cutL_no (h p (by simp))
  | p :: q :: r, _, h => by
    rw [glueL_cons b p (by simp), cutL_app _ (h p (by simp)), cutL_glue (by simp) (fun x hx => h x (List.mem_cons_of_mem _ hx))]
theorem cut_list {xs : List Int} (h1 : 1 ≤ xs.length) (h3 : xs.length ≤ 3) (h : ∀ x ∈ xs, 0 ≤ x ∧ x ≤ 999) : cutL 44 (listTo xs xs.length) = xs.map Lib.itoa := by
  rw [listTo_three h1 h3, cutL_glue]
  · intro e; rw [List.map_eq_nil_iff] at e; rw [e] at h1; simp at h1
  · intro p hp
    obtain ⟨x, hx, rfl⟩ := List.mem_map.1 hp
    exact itoa_no (h x hx).1 (by decide)
theorem ints_words {xs : List Int} (h : ∀ x ∈ xs, 0 ≤ x ∧ x ≤ 999) : intsGo [] (xs.map Lib.itoa) = some xs := by
  rw [intsGo_all _ _ (fun p hp => by
    obtain ⟨x, hx, rfl⟩ := List.mem_map.1 hp
    rw [parI_itoa3 (h x hx).1 (h x hx).2]), List.nil_append, List.map_map]
  have : xs.map (numL ∘ Lib.itoa) = xs.map id := List.map_congr_left fun x hx => numL_itoa3 (h x hx).1 (h x hx).2
  rw [this, List.map_id]
theorem wordsQ_len (q : QD) : (wordsQ q).length = 2 * q.2.2.1.length + 4 := by unfold wordsQ; simp [condsW_len]
theorem wordsQ_last (q : QD) : (wordsQ q).getD ((wordsQ q).length - 2) [] = [111, 117, 116] ∧ (wordsQ q).getD ((wordsQ q).length - 1) [] = listTo q.2.2.2 q.2.2.2.length := by
  rw [wordsQ_len]
  unfold wordsQ
  rw [show 2 * q.2.2.1.length + 4 - 2 = 2 * q.2.2.1.length + 1 + 1 by omega, show 2 * q.2.2.1.length + 4 - 1 = (2 * q.2.2.1.length + 1) + 1 + 1 by omega]
  have hl := condsW_len q.2.2.1
  simp only [List.getD_cons_succ]
  refine ⟨?_, ?_⟩
  · rw [List.getD, List.getElem?_append_right (by omega), hl]; simp
  · rw [List.getD, List.getElem?_append_right (by omega), hl, show 2 * q.2.2.1.length + 1 - 2 * q.2.2.1.length = 1 by omega]; simp
theorem wordsQ_mid (q : QD) : ((wordsQ q).drop 2).take ((wordsQ q).length - 4) = condsW q.2.2.1 := by
  rw [wordsQ_len, show 2 * q.2.2.1.length + 4 - 4 = (condsW q.2.2.1).length by rw [condsW_len]; omega]
  show (condsW q.2.2.1 ++ _).take _ = _
  rw [List.take_left']
  rfl
theorem pQ_words {q : QD} (h : qB' q = true) : pQ (wordsQ q) = some q := by
  obtain ⟨⟨i0, i1⟩, ⟨t0, t1⟩, hc, ho⟩ := qB_in h
  obtain ⟨l1, l3⟩ := qB_fields h
  obtain ⟨w1, w2⟩ := wordsQ_last q
  unfold pQ
  rw [if_neg (fun g => g.elim (fun g => by rw [wordsQ_len] at g; omega) (fun g => g w1)), w2, wordsQ_mid, cut_list l1 l3 ho, ints_words ho, condsGo_words _ _ hc]
  have e0 : (wordsQ q).getD 0 [] = 113 :: Lib.itoa q.1 := rfl
  have e1 : (wordsQ q).getD 1 [] = 116 :: Lib.itoa q.2.1 := rfl
  rw [e0, e1, tagP_yes i0 i1, tagP_yes t0 t1]
  rfl
theorem queryOf_words {q : QD} (h : qB' q = true) : queryOfP (wordsQ q) = q := by
  obtain ⟨⟨i0, i1⟩, ⟨t0, t1⟩, hc, ho⟩ := qB_in h
  obtain ⟨l1, l3⟩ := qB_fields h
  obtain ⟨w1, w2⟩ := wordsQ_last q
  unfold queryOfP
  rw [w2, cut_list l1 l3 ho, wordsQ_len, show (2 * q.2.2.1.length + 4 - 4) / 2 = q.2.2.1.length by omega]
  have e0 : (wordsQ q).getD 0 [] = 113 :: Lib.itoa q.1 := rfl
  have e1 : (wordsQ q).getD 1 [] = 116 :: Lib.itoa q.2.1 := rfl
  rw [e0, e1, aftL_yes i0 i1, aftL_yes t0 t1, List.map_map]
  have e2 : q.2.2.2.map (numL ∘ Lib.itoa) = q.2.2.2 := by
    have : q.2.2.2.map (numL ∘ Lib.itoa) = q.2.2.2.map id := List.map_congr_left fun x hx => numL_itoa3 (ho x hx).1 (ho x hx).2
    rw [this, List.map_id]
  have e3 : (List.range q.2.2.1.length).map (condOf (wordsQ q)) = q.2.2.1 := by
    apply List.ext_getElem
    · simp
    · intro j h1 h2
      rw [List.getElem_map, List.getElem_range]
      obtain ⟨a1, a2⟩ := condsW_at q.2.2.1 j h2
      have hl := condsW_len q.2.2.1
      have g1 : (wordsQ q).getD (2 + 2 * j) [] = 102 :: Lib.itoa (q.2.2.1.getD j c0D).1 := by
        rw [show 2 + 2 * j = 2 * j + 1 + 1 by omega]
        unfold wordsQ
        simp only [List.getD_cons_succ]
        rw [List.getD, List.getElem?_append_left (by omega)]
        exact a1
      have g2 : (wordsQ q).getD (3 + 2 * j) [] = Lib.itoa (q.2.2.1.getD j c0D).2.1 ++ [46, 46] ++ Lib.itoa (q.2.2.1.getD j c0D).2.2 := by
        rw [show 3 + 2 * j = 2 * j + 1 + 1 + 1 by omega]
        unfold wordsQ
        simp only [List.getD_cons_succ]
        rw [List.getD, List.getElem?_append_left (by omega)]
        exact a2
      have e : q.2.2.1.getD j c0D = q.2.2.1[j] := by simp [List.getD, h2]
      rw [e] at g1 g2
      obtain ⟨⟨f0, f1⟩, ⟨a0, a1⟩, b0, b1⟩ := hc _ (List.getElem_mem h2)
      unfold condOf
      rw [g1, g2, aftL_yes f0 f1, rngL_yes a0 a1 b0 b1]
  rw [e2, e3]
theorem condsT_glue (t : List UInt8) (cs : List CondD) (z : List UInt8) : ∀ k, k ≤ cs.length → condsT t cs k ++ (if k = cs.length then [32, 111, 117, 116, 32] ++ z else 32 :: glueL 32 (condsW (cs.drop k) ++ [[111, 117, 116], z])) = t ++ 32 :: glueL 32 (condsW cs ++ [[111, 117, 116], z])
  | 0, h => by
    by_cases e : cs = []
    · subst e; simp [condsT, condsW, glueL]
    · have : ¬ 0 = cs.length := fun g => e (List.length_eq_zero_iff.1 g.symm)
      rw [if_neg this]
      rfl
  | k + 1, h => by
    rw [← condsT_glue t cs z k (by omega), if_neg (by omega : ¬ k = cs.length)]
    have hd : cs.drop k = cs.getD k c0D :: cs.drop (k + 1) := by
      rw [List.drop_eq_getElem_cons (by omega : k < cs.length)]
      simp [List.getD, (by omega : k < cs.length)]
    rw [hd]
    show condT (condsT t cs k) (cs.getD k c0D) ++ _ = _
    unfold condT
    have hg : glueL 32 (condsW (cs.getD k c0D :: cs.drop (k + 1)) ++ [[111, 117, 116], z]) = (102 :: Lib.itoa (cs.getD k c0D).1) ++ 32 :: ((Lib.itoa (cs.getD k c0D).2.1 ++ [46, 46] ++ Lib.itoa (cs.getD k c0D).2.2) ++ 32 :: glueL 32 (condsW (cs.drop (k + 1)) ++ [[111, 117, 116], z])) := by
      show glueL 32 (_ :: _ :: (condsW (cs.drop (k + 1)) ++ [[111, 117, 116], z])) = _
      rw [glueL_cons 32 _ (by simp), glueL_cons 32 _ (by simp)]
    rw [hg]
    by_cases e : k + 1 = cs.length
    · rw [if_pos e, List.drop_eq_nil_of_le (by omega)]
      simp [condsW, glueL]
    · rw [if_neg e]
      simp
theorem fmt_glue {q : QD} (h : qB' q = true) : fmtQD q = glueL 32 (wordsQ q) := by
  unfold fmtQD fmtQ
  rw [if_pos (show queryB q.1 q.2.1 q.2.2.1 q.2.2.2 = true from h)]
  have := condsT_glue (headT q.1 q.2.1) q.2.2.1 (listTo q.2.2.2 q.2.2.2.length) q.2.2.1.length (Nat.le_refl _)
  rw [if_pos rfl, ← List.append_assoc] at this
  rw [this]
  unfold wordsQ
  rw [glueL_cons 32 _ (by simp), glueL_cons 32 _ (by simp)]
  unfold headT
  simp
theorem wordsQ_no {q : QD} (h : qB' q = true) : ∀ p ∈ wordsQ q, (32 : UInt8) ∉ p := by
  obtain ⟨⟨i0, i1⟩, ⟨t0, t1⟩, hc, ho⟩ := qB_in h
  obtain ⟨l1, l3⟩ := qB_fields h
  have hcs : ∀ cs : List CondD, (∀ c ∈ cs, cIn c) → ∀ p ∈ condsW cs, (32 : UInt8) ∉ p := by
    intro cs
    induction cs with
    | nil => intro _ p hp; simp [condsW] at hp
    | cons c r ih =>
      intro hr p hp
      obtain ⟨⟨f0, f1⟩, ⟨a0, a1⟩, b0, b1⟩ := hr c (by simp)
      simp only [condsW, List.mem_cons] at hp
      rcases hp with rfl | rfl | hp
      · have := itoa_no f0 (c := 32) (by decide)
        simp [this]
      · have g1 := itoa_no a0 (c := 32) (by decide)
        have g2 := itoa_no b0 (c := 32) (by decide)
        simp [g1, g2]
      · exact ih (fun c hc => hr c (List.mem_cons_of_mem _ hc)) p hp
  intro p hp
  unfold wordsQ at hp
  simp only [List.mem_cons, List.mem_append, List.not_mem_nil, or_false] at hp
  rcases hp with rfl | rfl | hp | rfl | rfl
  · have := itoa_no i0 (c := 32) (by decide)
    simp [this]
  · have := itoa_no t0 (c := 32) (by decide)
    simp [this]
  · exact hcs _ hc p hp
  · decide
  · rw [listTo_three l1 l3]
    intro g
    obtain ⟨p, hp, g⟩ := glue_mem (by decide) _ g
    obtain ⟨x, hx, rfl⟩ := List.mem_map.1 hp
    exact itoa_no (ho x hx).1 (by decide) g
theorem cut_fmt {q : QD} (h : qB' q = true) : cutL 32 (fmtQD q) = wordsQ q := by
  rw [fmt_glue h, cutL_glue (by unfold wordsQ; simp) (wordsQ_no h)]
/-- The program and the specification read the same. -/
theorem parQ_acc {l : List UInt8} {q : QD} (h : pQ (cutL 32 l) = some q) (hq : qB' q = true) : parQ l = (q, true) := by
  obtain ⟨e, h4⟩ := pQ_is h hq
  have e2 : queryOfP (cutL 32 l) = q := by rw [e, queryOf_words hq]
  rw [← e2]
  refine parQ_yes (by omega) ?_
  rw [e2, fmt_glue hq, ← e, glue_cut]
theorem parQ_rej {l : List UInt8} (h : ∀ q, pQ (cutL 32 l) = some q → qB' q = false) : parQ l = (q0D, false) := by
  refine parQ_no ?_
  by_cases h4 : (cutL 32 l).length < 4
  · exact Or.inl h4
  · refine Or.inr fun hf => ?_
    have hl : l ≠ [] := fun e => by subst e; simp [cutL, cutGo] at h4
    cases hq : qB' (queryOfP (cutL 32 l)) with
    | false =>
      unfold fmtQD fmtQ at hf
      rw [if_neg (by show ¬ qB' _ = true; rw [hq]; exact Bool.noConfusion)] at hf
      exact hl hf.symm
    | true =>
      have e := cut_fmt hq
      rw [hf] at e
      have := h (queryOfP (cutL 32 l)) ((congrArg pQ e).trans (pQ_words hq))
      rw [hq] at this
      exact Bool.noConfusion this
end Go.Proofs.YtijfnabglblimaaGreatDoor
namespace Go.Proofs.YtijfnabglblimaaGreatDoor
open Go.RowKit
set_option linter.unusedVariables false
theorem ownsS_cap {w : World} {B : Nat} {v : Value} {xs : List ByteArray} (h : OwnsS w B v xs) : ∃ a cap, v = .slice a xs.length cap ∧ xs.length ≤ cap := by
  rcases h.2 with ⟨rfl, h0⟩ | ⟨g, cap, cur, rfl, hb, hg, hn, _⟩
  · exact ⟨none, 0, by rw [h0], by rw [h0]; exact Nat.le_refl _⟩
  · exact ⟨_, cap, rfl, hn⟩
theorem run_append_strs {w : World} {B : Nat} {v u : Value} {xs ys : List ByteArray} (ty : TypeId) (hown : OwnsS w B v xs) (hu : Strs w u ys) (hB : B ≤ w.heap.size) (h63 : xs.length + ys.length ≤ 8796093022208) :
    ∃ v' w', (Builtin.append_ #[59, 59] ty #[v, u]).run Tryz.prog w = .ok v' w' ∧ OwnsS w' B v' (xs ++ ys) ∧ Below B w w' ∧ w.grownBy w' v.ownBlock := by
  obtain ⟨i0, hi, hz0, hz1, hz2⟩ := info_parts Tryz.infoStr
  rcases hu with ⟨rfl, a', cap', rfl⟩ | ⟨b, off, cap', rfl, hcap, hbl, hc⟩
  · obtain ⟨a, cap, rfl, hle⟩ := ownsS_cap hown
    have hs : Src Tryz.prog i0.size 59 (.slice a' 0 cap') 0 [] w := by
      cases a' with
      | none => exact Src.ofNil w Tryz.underlying59 cap'
      | some ad => exact Src.ofSlice w Tryz.underlying59 ad 0 cap' [] (by simp) (by simp) (by simp)
    exact ⟨_, _, run_append_nothing w 59 59 ty 9 i0 Tryz.underlying59 hi a xs.length cap hle _ hs, by simpa using hown, Below.refl B w, ⟨rfl, rfl, rfl, Nat.le_refl _, fun _ _ _ => rfl⟩⟩
  · obtain ⟨v', w', hr, h2, h3, h4⟩ := run_append_own (P := Tryz.prog) w B 59 ty 9 i0 (.string ⟨#[]⟩) 1 16 Tryz.underlying59 hi hz0 hz1 hz2 rfl (by decide) v xs.length _ hown ⟨b, off, none⟩ ys.length cap' (ys.map Value.string) (by simp) (by
        intro j q hj
        rw [Go.WideShapes.add_plain]
        rw [List.getElem?_map] at hj
        by_cases hlt : j < ys.length
        · rw [hc j hlt]
          rw [List.getElem?_eq_getElem hlt] at hj
          simpa [List.getD, hlt] using hj
        · rw [List.getElem?_eq_none (by omega)] at hj
          simp at hj) (by intro q hq; simp at hq; obtain ⟨y, _, rfl⟩ := hq; rfl) (by unfold maxLen; omega) (by omega) hB
    refine ⟨v', w', hr, ?_, ?_, h3⟩
    · unfold OwnsS
      simpa using h2
    · exact (Below.refl B w).grown h3 hB (fun k hk => (hown.lt k hk).1)
/-- As a step of a region taken by hand. -/
theorem step_append_strs {w : World} {ops : Array Oper} {o : Oper} {a : Act} {K : Act → World → Prop} {Q : Exit → Act → World → Prop} {E : Prop} (hwa : Region.wanted o (yielded ops a.tmps) = true) (s x : Operand)
    (ho : o.op = .call { callee := .builtin .append, args := #[s, x], argTypes := #[59, 59] })
    (B : Nat) (v u : Value) (xs ys : List ByteArray) (hs : a.eval s = v) (hx : a.eval x = u) (hown : OwnsS w B v xs) (hu : Strs w u ys) (hB : B ≤ w.heap.size) (h63 : xs.length + ys.length ≤ 8796093022208)
    (h : ∀ v' w', OwnsS w' B v' (xs ++ ys) → Below B w w' → w.grownBy w' v.ownBlock → K (a.put o.dst v') w') : if Region.wanted o (yielded ops a.tmps) = true then Oper.wp Tryz.prog o a w K Q else E := by
  rw [if_pos hwa]
  obtain ⟨v', w', hr, h2, h3, h4⟩ := run_append_strs o.type hown hu hB h63
  unfold Oper.wp execOp
  simp only [ho, resolve, invoke, builtin, Sem.run_bind, Sem.run_pure, Result.andThen_ok, List.map_toArray, List.map_cons, List.map_nil, hs, hx, hr]
  exact h v' w' h2 h3 h4
/-- As a step of a region without draws. -/
theorem wpl_append_strs {w : World} {ops : Array Oper} {rest : List Oper} {o : Oper} {a : Act} {Q : Exit → Act → World → Prop} (hgd : o.guard = none) (s x : Operand)
    (ho : o.op = .call { callee := .builtin .append, args := #[s, x], argTypes := #[59, 59] })
    (B : Nat) (v u : Value) (xs ys : List ByteArray) (hs : a.eval s = v) (hx : a.eval x = u) (hown : OwnsS w B v xs) (hu : Strs w u ys) (hB : B ≤ w.heap.size) (h63 : xs.length + ys.length ≤ 8796093022208)
    (h : ∀ v' w', OwnsS w' B v' (xs ++ ys) → Below B w w' → w.grownBy w' v.ownBlock → wpList Tryz.prog ops Q rest (a.put o.dst v') w') : wpList Tryz.prog ops Q (o :: rest) a w := by
  refine wpList_plain hgd fun K hK => ?_
  obtain ⟨v', w', hr, h2, h3, h4⟩ := run_append_strs o.type hown hu hB h63
  unfold Oper.wp
  simp [execOp, ho, resolve, invoke, builtin, hs, hx, hr, Result.andThen]
  exact hK _ _ (h v' w' h2 h3 h4)
theorem strs_two {w : World} {h : Nat} {x y : ByteArray} (h0 : w.cell? ⟨h, 0, none⟩ = some (.string x)) (h1 : w.cell? ⟨h, 1, none⟩ = some (.string y)) (hl : h < w.heap.size) : Strs w (.slice (some ⟨h, 0, none⟩) 2 2) [x, y] :=
  Or.inr ⟨h, 0, 2, rfl, by simp, hl, fun j hj => by
    have : j = 0 ∨ j = 1 := by simp at hj; omega
    rcases this with rfl | rfl
    · simpa using h0
    · simpa using h1⟩
end Go.Proofs.YtijfnabglblimaaGreatDoor
namespace Go.Proofs.YtijfnabglblimaaGreatDoor
open Go.RowKit
set_option linter.unusedVariables false
set_option linter.unusedSimpArgs false
theorem fmtRg (n : Int) (w : World) (h0 : 0 ≤ n) (h1 : n ≤ 999) (hT : Tab w) : Calls Tryz.prog 30 #[.int .i64 n] w fun e w' => e = .returned (.string (strB (Lib.itoa n))) ∧ Below w.heap.size w w' := implFmt n w (by omega) (by omega) hT
set_option maxHeartbeats 4000000 in
set_option maxRecDepth 100000 in
theorem formatRange_any (lo hi : Int) (w : World) (l0 : 0 ≤ lo) (l1 : lo ≤ 999) (h0 : 0 ≤ hi) (h1 : hi ≤ 999) (hT : Tab w) :
    Calls Tryz.prog 60 #[.int .i64 lo, .int .i64 hi] w fun e w' => e = .returned (.string (strB (Lib.itoa lo ++ [46, 46] ++ Lib.itoa hi))) ∧ Below w.heap.size w w' := by
  have HA := Lib.hid (fun w h => fmtRg lo w l0 l1 h)
  have HB := Lib.hid (fun w h => fmtRg hi w h0 h1 h)
  have ll := Lib.itoa_length_le lo (by omega) (by omega)
  have hl := Lib.itoa_length_le hi (by omega) (by omega)
  have HT := Lib.hid hT
  generalize Lib.itoa lo = t1 at *
  generalize Lib.itoa hi = t2 at *
  have dA : ∀ w, (Op.stringOp .add (strB t1) ⟨#[46, 46]⟩).run Tryz.prog w = .ok (.string (strB (t1 ++ [46, 46]))) w := strB_add t1 [46, 46] (by simp; omega)
  have dB : ∀ w, (Op.stringOp .add (strB (t1 ++ [46, 46])) (strB t2)).run Tryz.prog w = .ok (.string (strB (t1 ++ [46, 46] ++ t2))) w := strB_add (t1 ++ [46, 46]) t2 (by simp; omega)
  generalize t1 ++ [46, 46] ++ t2 = t4 at *
  generalize t1 ++ [46, 46] = t3 at *
  clear ll hl hT l0 l1 h0 h1
  go_enter Tryz.func60, Tryz.ntmps60
  go_wp2_with fail
  refine (HA.out _ HT.out).mono ?_
  rintro e w1 ⟨rfl, b1⟩
  go_wp2_with fail
  refine (HB.out _ (HT.out.on b1)).mono ?_
  rintro e w2 ⟨rfl, b2⟩
  have b3 := b1.trans (b2.mono b1.size)
  go_wp2
  go_ret
  exact ⟨rfl, b3⟩
end Go.Proofs.YtijfnabglblimaaGreatDoor
namespace Go.Proofs.YtijfnabglblimaaGreatDoor
open Go.RowKit
set_option linter.unusedVariables false
set_option linter.unusedSimpArgs false
/-- The text of one number. -/
def txt (n : Int) : ByteArray := strB (Lib.itoa n)
theorem texts_step (xs : List Int) (k : Nat) (h : k < xs.length) : ((xs.take k).map txt ++ List.replicate (xs.length - k) (⟨#[]⟩ : ByteArray)).set k (txt (xs.getD k 0)) = (xs.take (k + 1)).map txt ++ List.replicate (xs.length - (k + 1)) (⟨#[]⟩ : ByteArray) := by
  have hk : ((xs.take k).map txt).length = k := by rw [List.length_map, List.length_take]; omega
  rw [List.set_append_right _ _ (by omega), hk, Nat.sub_self, show xs.length - k = (xs.length - (k + 1)) + 1 by omega, List.replicate_succ, List.set_cons_zero, List.take_succ_eq_append_getElem h, List.map_append, List.append_assoc]
  simp [List.getD, h]
theorem join_few {xs : List Int} (h1 : 1 ≤ xs.length) (h3 : xs.length ≤ 3) : Lib.join ((xs.map txt).map (·.data.toList)) (⟨#[44]⟩ : ByteArray).data.toList = listTo xs xs.length := by
  match xs, h1, h3 with
  | [a], _, _ => simp [txt, strB, listTo, Lib.join, List.intercalate]
  | [a, b], _, _ => simp [txt, strB, listTo, Lib.join, List.intercalate]
  | [a, b, c], _, _ => simp [txt, strB, listTo, Lib.join, List.intercalate]
theorem join_glue (b : UInt8) : ∀ ps : List (List UInt8), Lib.join ps [b] = glueL b ps
  | [] => rfl
  | [p] => by simp [Lib.join, List.intercalate, glueL]
  | p :: q :: r => by
    rw [glueL_cons b p (by simp), ← join_glue b (q :: r), Lib.join_cons, Lib.join_cons]
    simp [Lib.joinTail]
theorem fmtP (n : Int) (w : World) (h0 : 0 ≤ n) (h1 : n ≤ 999) (hT : Tab w) : Calls Tryz.prog 30 #[.int .i64 n] w fun e w' => e = .returned (.string (txt n)) ∧ Below w.heap.size w w' := implFmt n w (by omega) (by omega) hT
theorem fmtR (n : Int) (w : World) (h0 : 0 ≤ n) (h1 : n ≤ 999) (hT : Tab w) : Calls Tryz.prog 30 #[.int .i64 n] w fun e w' => e = .returned (.string (strB (Lib.itoa n))) ∧ Below w.heap.size w w' := implFmt n w (by omega) (by omega) hT
set_option maxHeartbeats 8000000 in
set_option maxRecDepth 100000 in
theorem joinInts_few (v : Value) (xs : List Int) (w : World) (h : Ints w v xs) (hl1 : 1 ≤ xs.length) (hl : xs.length ≤ 3) (hr : ∀ j, j < xs.length → 0 ≤ xs.getD j 0 ∧ xs.getD j 0 ≤ 999) (hT : Tab w) (ht : (listTo xs xs.length).length ≤ 1000) :
    Calls Tryz.prog 32 #[v] w fun e w' => e = .returned (.string (strB (listTo xs xs.length))) ∧ Below w.heap.size w w' := by
  obtain ⟨i0, hi, hz0, hz1, hz2⟩ := info_parts Tryz.infoStr
  have HI := Lib.hid hi; have HZ0 := Lib.hid hz0; have HZ1 := Lib.hid hz1; have HZ2 := Lib.hid hz2
  clear hi hz0 hz1 hz2
  have H := Lib.hid h
  have HR := Lib.hid hr
  have HT := Lib.hid hT
  have HL := Lib.hid hl
  have HJ0 := Lib.hid (join_few hl1 hl)
  have HTL := Lib.hid ht
  obtain ⟨t, htx⟩ : ∃ t, listTo xs xs.length = t := ⟨_, rfl⟩
  rw [htx] at HJ0 HTL ⊢
  clear htx
  obtain ⟨a, cap, rfl⟩ := ints_len h
  clear h hr hT hl hl1 ht
  go_enter Tryz.func32, Tryz.ntmps32
  go_wp2_with (at_make; refine wpList_make_full _ rfl (.tmp 7) (.tmp 7) 59 rfl w.heap.size 9 i0 (.string ⟨#[]⟩) 1 Tryz.underlying59 HI.out HZ0.out HZ1.out _ _ _ _ xs.length rfl rfl rfl rfl (by rw [HZ2.out]; have := HL.out; omega) (by have := HL.out; unfold maxLen; omega) (Nat.le_refl _) ?_)
  intro w1 hown0 hg0
  have hown1 := ownsS_made (by simpa using hown0)
  have hbel1 := (Below.refl w.heap.size w).grown hg0 (Nat.le_refl _) (fun k hk => by cases hk)
  clear hown0 hg0
  go_wp2
  go_loopw [11] (fun i wr => ∃ k : Nat, k ≤ xs.length ∧ i = .int .i64 k ∧ OwnsS wr w.heap.size (.slice (some ⟨w.heap.size, 0, none⟩) xs.length xs.length) ((xs.take k).map txt ++ List.replicate (xs.length - k) (⟨#[]⟩ : ByteArray)) ∧ Below w.heap.size w wr) (fun i _ => xs.length - (intOf i).toNat)
  case atStart => exact ⟨0, Nat.zero_le _, rfl, by simpa using hown1, hbel1⟩
  case round =>
    obtain ⟨k, hk, rfl, hown, hbel⟩ := hrel
    clear hown1 hbel1
    by_cases hlt : k < xs.length
    · obtain ⟨b, off, cap', hv, hbl, hc⟩ := ints_cell H.out (by omega)
      simp only [Value.slice.injEq] at hv
      obtain ⟨rfl, _, rfl⟩ := hv
      have hcell := (hbel.cell (p := ⟨b, off + k, none⟩) hbl).trans (hc k hlt)
      have i1 : (0 : Int) ≤ (k : Int) := by omega
      have i2 : (k : Int) < (xs.length : Int) := by omega
      have i3 : k < 4 := by have := HL.out; omega
      have hx := HR.out k hlt
      have HSET := Lib.hid (texts_step xs k hlt)
      have HF := Lib.hid (fun w h => fmtP (xs.getD k 0) w hx.1 hx.2 h)
      have HLL : Hid (((xs.take k).map txt ++ List.replicate (xs.length - k) (⟨#[]⟩ : ByteArray)).length = xs.length) := Lib.hid (by simp; omega)
      clear hc hx
      generalize xs.getD k 0 = x at *
      generalize txt x = tx at *
      generalize (xs.take k).map txt ++ List.replicate (xs.length - k) (⟨#[]⟩ : ByteArray) = us at *
      go_wp2_with fail
      refine (HF.out _ (HT.out.on hbel)).mono ?_
      rintro e w2 ⟨rfl, b2⟩
      have ho := ownsS_below hown b2
      have hst := Lib.hid (ownsS_store ho k tx)
      rw [HSET.out] at hst
      have b3 := hbel.trans (b2.mono hbel.size)
      have B3 := b3.setCell (p := ⟨w.heap.size, k, none⟩) (Nat.le_refl _) (.string tx)
      obtain ⟨q0, q1⟩ : (∃ x, w2.cell? ⟨w.heap.size, k, none⟩ = some x) ∧ w2.frozen? ⟨w.heap.size, k, none⟩ = false :=
        ⟨⟨_, ownsS_cell ho (List.getElem?_eq_getElem (by have := HLL.out; omega))⟩, ownsS_frozen ho k⟩
      obtain ⟨x0, q0⟩ := q0
      clear hown hbel b2 ho hcell
      go_wp2
      go_roundw
      case rel => exact ⟨k + 1, by omega, by go_num, hst.out, B3⟩
      case measure => simp [intOf]; omega
    · obtain rfl : k = xs.length := by omega
      have HE : Hid ((xs.take xs.length).map txt ++ List.replicate (xs.length - xs.length) (⟨#[]⟩ : ByteArray) = xs.map txt) := Lib.hid (by simp)
      rw [HE.out] at hown
      have hB := hbel.size
      have hl3 : (xs.map txt).length = xs.length := List.length_map txt
      have HJ := Lib.hid (Tryz.strings_Join w.heap.size 0 xs.length (xs.map txt) ⟨#[44]⟩ wr (fun j x hx => by
        have := ownsS_cell hown hx
        rw [Nat.zero_add]; exact this) (ownsS_ge hown).2 (by have := HL.out; omega) (by omega) (by rw [HJ0.out]; have := HTL.out; omega))
      rw [HJ0.out, hl3] at HJ
      clear hown HE hl3
      go_wp2_with fail
      refine HJ.out.mono ?_
      rintro e w5 ⟨rfl, b5⟩
      have b6 := hbel.trans (b5.mono hB)
      clear b5 hbel
      go_wp2
      go_ret
      exact ⟨rfl, b6⟩
theorem condsW_app : ∀ a b : List CondD, condsW (a ++ b) = condsW a ++ condsW b
  | [], b => rfl
  | c :: r, b => by simp [condsW, condsW_app r b]
theorem condsW_next {cs : List CondD} {k : Nat} (h : k < cs.length) : (condsW (cs.take k)).map strB ++ [strB (102 :: Lib.itoa (cs.getD k c0D).1), strB (Lib.itoa (cs.getD k c0D).2.1 ++ [46, 46] ++ Lib.itoa (cs.getD k c0D).2.2)] = (condsW (cs.take (k + 1))).map strB := by
  rw [List.take_succ_eq_append_getElem h, condsW_app, List.map_append]
  simp [condsW, List.getD, h]
set_option maxHeartbeats 8000000 in
set_option maxRecDepth 100000 in
theorem words_any (v : Value) (cs : List CondD) (w : World) (h : CondsR w v cs) (hn : cs.length ≤ 3) (hc : ∀ k, k < cs.length → cIn (cs.getD k c0D)) (hT : Tab w) :
    Calls Tryz.prog 31 #[v] w fun e w' => ∃ u, e = .returned u ∧ OwnsS w' w.heap.size u ((condsW cs).map strB) ∧ Below w.heap.size w w' := by
  obtain ⟨i0, hi, hz0, hz1, hz2⟩ := info_parts Tryz.infoStr
  have HI := Lib.hid hi; have HZ0 := Lib.hid hz0; have HZ1 := Lib.hid hz1; have HZ2 := Lib.hid hz2
  clear hi hz0 hz1 hz2
  have H := Lib.hid h
  have HC0 := Lib.hid hc
  have HT := Lib.hid hT
  have HN := Lib.hid hn
  obtain ⟨a, cap, rfl⟩ := condsR_len h
  clear h hc hT
  have w0 : IntKind.i64.wrap (2 * (cs.length : Int)) = 2 * (cs.length : Int) := IntWalk.i64_in _ (by omega)
  clear hn
  go_enter Tryz.func31, Tryz.ntmps31
  go_wp2_with (at_make; refine wpList_make_own _ rfl _ _ 59 rfl w.heap.size 9 i0 (.string ⟨#[]⟩) 1 Tryz.underlying59 HI.out HZ0.out HZ1.out _ _ _ (2 * cs.length) rfl rfl (by omega) (by rw [HZ2.out]; have := HN.out; omega) (by have := HN.out; unfold maxLen; omega) (Nat.le_refl _) ?_)
  intro w1 hown0 hg0
  have hown1 : OwnsS w1 w.heap.size (.slice (some ⟨w.heap.size, 0, none⟩) 0 (2 * cs.length)) [] := hown0
  have hbel1 := (Below.refl w.heap.size w).grown hg0 (Nat.le_refl _) (fun k hk => by cases hk)
  clear hown0 hg0 w0
  go_wp2
  go_loopw [3, 12] (fun u i wr => ∃ k : Nat, k ≤ cs.length ∧ i = .int .i64 k ∧ OwnsS wr w.heap.size u ((condsW (cs.take k)).map strB) ∧ Below w.heap.size w wr) (fun _ i _ => cs.length - (intOf i).toNat)
  case atStart => exact ⟨0, Nat.zero_le _, rfl, hown1, hbel1⟩
  case round =>
    obtain ⟨k, hk, rfl, hown, hbel⟩ := hrel
    clear hown1 hbel1
    by_cases hlt : k < cs.length
    · obtain ⟨b, off, cap', hv, hbl, d1, d2, d3⟩ := condsR_at (condsR_below H.out hbel) hlt
      simp only [Value.slice.injEq] at hv
      obtain ⟨rfl, _, rfl⟩ := hv
      have i1 : (0 : Int) ≤ (k : Int) := by omega
      have i2 : (k : Int) < (cs.length : Int) := by omega
      have i3 : k < 4 := by have := HN.out; omega
      have hin := HC0.out k hlt
      have HNX := Lib.hid (condsW_next hlt)
      have HUL : Hid (((condsW (cs.take k)).map strB).length ≤ 6) := Lib.hid (by rw [List.length_map, condsW_len, List.length_take]; have := HN.out; omega)
      generalize cs.getD k c0D = c at *
      obtain ⟨fa, lo, hi⟩ := c
      simp only at d1 d2 d3
      obtain ⟨⟨f0, f1⟩, ⟨l0, l1⟩, h0, h1⟩ := hin
      simp only at f0 f1 l0 l1 h0 h1
      have HA := Lib.hid (fun w h => fmtR fa w f0 f1 h)
      have HB := Lib.hid (fun w h => formatRange_any lo hi w l0 l1 h0 h1 h)
      have fl := Lib.itoa_length_le fa (by omega) (by omega)
      simp only at HNX
      obtain ⟨t1, ht1⟩ : ∃ t1, Lib.itoa fa = t1 := ⟨_, rfl⟩
      obtain ⟨tb, htb⟩ : ∃ tb, Lib.itoa lo ++ [46, 46] ++ Lib.itoa hi = tb := ⟨_, rfl⟩
      rw [ht1] at HA HNX fl
      rw [htb] at HB HNX
      clear ht1 htb f0 f1 l0 l1 h0 h1
      obtain ⟨ta, hta⟩ : ∃ ta, 102 :: t1 = ta := ⟨_, rfl⟩
      have dA : ∀ w, (Op.stringOp .add ⟨#[102]⟩ (strB t1)).run Tryz.prog w = .ok (.string (strB ta)) w := by rw [← hta]; exact strB_add [102] t1 (by simp; omega)
      rw [hta] at HNX
      clear hta fl
      generalize (condsW (cs.take k)).map strB = us at *
      go_wp2
      have hW : Below wr.heap.size wr (wr.alloc (.cells #[.int .i64 fa, .int .i64 lo, .int .i64 hi] 67)) := (Below.refl _ wr).alloc (Nat.le_refl _) _
      have g0 := heap_alloc_new wr (.cells #[.int .i64 fa, .int .i64 lo, .int .i64 hi] 67)
      have hl2 : wr.heap.size < (wr.alloc (.cells #[.int .i64 fa, .int .i64 lo, .int .i64 hi] 67)).heap.size := by simp
      generalize wr.alloc (.cells #[.int .i64 fa, .int .i64 lo, .int .i64 hi] 67) = W at *
      have q0 := (cell_of_row W _ 0 _ _ _ g0).trans (show _ = some (Value.int .i64 fa) from rfl)
      have q1 := (cell_of_row W _ 1 _ _ _ g0).trans (show _ = some (Value.int .i64 lo) from rfl)
      have q2 := (cell_of_row W _ 2 _ _ _ g0).trans (show _ = some (Value.int .i64 hi) from rfl)
      have bW := hbel.trans (hW.mono hbel.size)
      clear d1 d2 d3 g0
      refine wp_region_held_drew (S := fun w' => w'.cell? ⟨wr.heap.size, 0, none⟩ = some (.int .i64 fa) ∧ w'.cell? ⟨wr.heap.size, 1, none⟩ = some (.int .i64 lo) ∧ w'.cell? ⟨wr.heap.size, 2, none⟩ = some (.int .i64 hi)) (by kernel_rfl) ⟨q0, q1, q2⟩ (fun hHeld => ?_)
      have e0 := below_drew (Below.refl W.heap.size W)
      refine take_runs (i := 0) (v := ?_) (by simp only [List.getElem?_toArray, List.getElem?_cons_succ, List.getElem?_cons_zero]; rfl) (by kernel_rfl) (by kernel_rfl) (by kernel_rfl) rfl (by exact fun _ _ _ h => h) (by rfl) ?_ (by assumption) ?_
      rotate_left
      · intro w hSw; (try dsimp only at hSw); go_simp; try (with_reducible rfl)
      try simp only [Act.put, List.setIfInBounds_toArray, List.set_cons_zero, List.set_cons_succ]
      refine take_runs (i := 1) (v := ?_) (by simp only [List.getElem?_toArray, List.getElem?_cons_succ, List.getElem?_cons_zero]; rfl) (by kernel_rfl) (by kernel_rfl) (by kernel_rfl) rfl (by exact fun _ _ _ h => h) (by rfl) ?_ (by assumption) ?_
      rotate_left
      · intro w hSw; (try dsimp only at hSw); go_simp; try (with_reducible rfl)
      try simp only [Act.put, List.setIfInBounds_toArray, List.set_cons_zero, List.set_cons_succ]
      refine take_runs (i := 2) (v := ?_) (by simp only [List.getElem?_toArray, List.getElem?_cons_succ, List.getElem?_cons_zero]; rfl) (by kernel_rfl) (by kernel_rfl) (by kernel_rfl) rfl (by exact fun _ _ _ h => h) (by rfl) ?_ (by assumption) ?_
      rotate_left
      · intro w hSw; (try dsimp only at hSw); go_simp; try (with_reducible rfl)
      try simp only [Act.put, List.setIfInBounds_toArray, List.set_cons_zero, List.set_cons_succ]
      refine take_runs (i := 5) (v := ?_) (by simp only [List.getElem?_toArray, List.getElem?_cons_succ, List.getElem?_cons_zero]; rfl) (by kernel_rfl) (by kernel_rfl) (by kernel_rfl) rfl (by exact fun _ _ _ h => h) (by rfl) ?_ (by assumption) ?_
      rotate_left
      · intro w hSw; (try dsimp only at hSw); go_simp; try (with_reducible rfl)
      try simp only [Act.put, List.setIfInBounds_toArray, List.set_cons_zero, List.set_cons_succ]
      refine take_runs (i := 6) (v := ?_) (by simp only [List.getElem?_toArray, List.getElem?_cons_succ, List.getElem?_cons_zero]; rfl) (by kernel_rfl) (by kernel_rfl) (by kernel_rfl) rfl (by exact fun _ _ _ h => h) (by rfl) ?_ (by assumption) ?_
      rotate_left
      · intro w hSw; (try dsimp only at hSw); go_simp; try (with_reducible rfl)
      try simp only [Act.put, List.setIfInBounds_toArray, List.set_cons_zero, List.set_cons_succ]
      refine take_runs (i := 7) (v := ?_) (by simp only [List.getElem?_toArray, List.getElem?_cons_succ, List.getElem?_cons_zero]; rfl) (by kernel_rfl) (by kernel_rfl) (by kernel_rfl) rfl (by exact fun _ _ _ h => h) (by rfl) ?_ (by assumption) ?_
      rotate_left
      · intro w hSw; (try dsimp only at hSw); go_simp; try (with_reducible rfl)
      try simp only [Act.put, List.setIfInBounds_toArray, List.set_cons_zero, List.set_cons_succ]
      refine take_runs (i := 8) (v := ?_) (by simp only [List.getElem?_toArray, List.getElem?_cons_succ, List.getElem?_cons_zero]; rfl) (by kernel_rfl) (by kernel_rfl) (by kernel_rfl) rfl (by exact fun _ _ _ h => h) (by rfl) ?_ (by assumption) ?_
      rotate_left
      · intro w hSw; (try dsimp only at hSw); go_simp; try (with_reducible rfl)
      try simp only [Act.put, List.setIfInBounds_toArray, List.set_cons_zero, List.set_cons_succ]
      refine wpAnyH_ready (rs := [3]) (by kernel_rfl) (by simp) ?_
      refine (AllReadyH.cons (o := _) (by simp only [List.getElem?_toArray, List.getElem?_cons_succ, List.getElem?_cons_zero]; rfl) (fun K hK => ?_) AllReadyH.nil)
      go_simp
      refine (HA.out _ (HT.out.on (bW.trans (e0.mono bW.size)))).mono ?_
      rintro e x1 ⟨rfl, k1⟩
      have e1 : Below W.heap.size W x1 := e0.trans (k1.mono e0.size)
      refine hK.out _ _ ⟨(e1.cell (p := ⟨wr.heap.size, 0, none⟩) hl2).trans q0, (e1.cell (p := ⟨wr.heap.size, 1, none⟩) hl2).trans q1, (e1.cell (p := ⟨wr.heap.size, 2, none⟩) hl2).trans q2⟩ (fun hHeld => ?_)
      clear hK K
      try simp only [Act.put, List.setIfInBounds_toArray, List.set_cons_zero, List.set_cons_succ]
      refine take_runs (i := 4) (v := ?_) (by simp only [List.getElem?_toArray, List.getElem?_cons_succ, List.getElem?_cons_zero]; rfl) (by kernel_rfl) (by kernel_rfl) (by kernel_rfl) rfl (by exact fun _ _ _ h => h) (by rfl) ?_ (by assumption) ?_
      rotate_left
      · intro w hSw; (try dsimp only at hSw); go_simp; try (with_reducible rfl)
      try simp only [Act.put, List.setIfInBounds_toArray, List.set_cons_zero, List.set_cons_succ]
      refine wpAnyH_ready (rs := [9]) (by kernel_rfl) (by simp) ?_
      refine (AllReadyH.cons (o := _) (by simp only [List.getElem?_toArray, List.getElem?_cons_succ, List.getElem?_cons_zero]; rfl) (fun K hK => ?_) AllReadyH.nil)
      go_simp
      refine (HB.out _ (HT.out.on (bW.trans (e1.mono bW.size)))).mono ?_
      rintro e x2 ⟨rfl, k2⟩
      have e2 : Below W.heap.size W x2 := e1.trans (k2.mono e1.size)
      refine hK.out _ _ ⟨(e2.cell (p := ⟨wr.heap.size, 0, none⟩) hl2).trans q0, (e2.cell (p := ⟨wr.heap.size, 1, none⟩) hl2).trans q1, (e2.cell (p := ⟨wr.heap.size, 2, none⟩) hl2).trans q2⟩ (fun hHeld => ?_)
      clear hK K
      try simp only [Act.put, List.setIfInBounds_toArray, List.set_cons_zero, List.set_cons_succ]
      refine wpAnyH_ready (rs := [10]) (by kernel_rfl) (by simp) ?_
      refine (AllReadyH.cons (o := _) (by simp only [List.getElem?_toArray, List.getElem?_cons_succ, List.getElem?_cons_zero]; rfl) (fun K hK => ?_) AllReadyH.nil)
      go_simp
      have hA := (Below.refl x2.heap.size x2).alloc (Nat.le_refl _) (.cells #[.string (strB ta), .string (strB tb)] 9)
      have a0 : (x2.alloc (.cells #[.string (strB ta), .string (strB tb)] 9)).cell? ⟨x2.heap.size, 0, none⟩ = some (.string (strB ta)) := (cell_lit x2 #[.string (strB ta), .string (strB tb)] 9 0).trans rfl
      have a1 : (x2.alloc (.cells #[.string (strB ta), .string (strB tb)] 9)).cell? ⟨x2.heap.size, 1, none⟩ = some (.string (strB tb)) := (cell_lit x2 #[.string (strB ta), .string (strB tb)] 9 1).trans rfl
      have al : x2.heap.size < (x2.alloc (.cells #[.string (strB ta), .string (strB tb)] 9)).heap.size := by simp
      obtain ⟨W4, hW4⟩ : ∃ W4, x2.alloc (.cells #[.string (strB ta), .string (strB tb)] 9) = W4 := ⟨_, rfl⟩
      rw [hW4] at hA a0 a1 al ⊢
      clear hW4
      have e4 : Below W.heap.size W W4 := e2.trans (hA.mono e2.size)
      refine hK.out _ _ ⟨(e4.cell (p := ⟨wr.heap.size, 0, none⟩) hl2).trans q0, (e4.cell (p := ⟨wr.heap.size, 1, none⟩) hl2).trans q1, (e4.cell (p := ⟨wr.heap.size, 2, none⟩) hl2).trans q2⟩ (fun hHeld => ?_)
      clear hK K
      try simp only [Act.put, List.setIfInBounds_toArray, List.set_cons_zero, List.set_cons_succ]
      have o4 := ownsS_below (ownsS_below hown hW) e4
      have b4 := bW.trans (e4.mono bW.size)
      refine wpAnyH_ready (rs := [11]) (by kernel_rfl) (by simp) ?_
      refine (AllReadyH.cons (o := _) (by simp only [List.getElem?_toArray, List.getElem?_cons_succ, List.getElem?_cons_zero]; rfl) (fun K hK => ?_) AllReadyH.nil)
      refine step_append_strs rfl (.tmp 16) (.tmp 26) rfl w.heap.size _ _ us [strB ta, strB tb] rfl rfl o4 (strs_two a0 a1 al) b4.size (by have := HUL.out; simp; omega) ?_
      intro u W8 oB bB gB
      have z : ∀ j, W8.cell? ⟨wr.heap.size, j, none⟩ = W4.cell? ⟨wr.heap.size, j, none⟩ := fun j => World.cell?_of_block (gB.block _ (Nat.lt_of_lt_of_le hl2 e4.size) (fun q => Nat.lt_irrefl _ (hown.lt _ q.symm).2))
      refine hK.out _ _ ⟨(z 0).trans ((e4.cell (p := ⟨wr.heap.size, 0, none⟩) hl2).trans q0), (z 1).trans ((e4.cell (p := ⟨wr.heap.size, 1, none⟩) hl2).trans q1), (z 2).trans ((e4.cell (p := ⟨wr.heap.size, 2, none⟩) hl2).trans q2)⟩ (fun hHeld => ?_)
      clear hK K
      try simp only [Act.put, List.setIfInBounds_toArray, List.set_cons_zero, List.set_cons_succ]
      refine take_runs (i := 12) (v := ?_) (by simp only [List.getElem?_toArray, List.getElem?_cons_succ, List.getElem?_cons_zero]; rfl) (by kernel_rfl) (by kernel_rfl) (by kernel_rfl) rfl (by exact fun _ _ _ h => h) (by rfl) ?_ (by assumption) ?_
      rotate_left
      · intro w hSw; (try dsimp only at hSw); go_simp; try (with_reducible rfl)
      try simp only [Act.put, List.setIfInBounds_toArray, List.set_cons_zero, List.set_cons_succ]
      refine wpAnyH_done (by kernel_rfl) ?_ _
      rw [HNX.out] at oB
      have b8 := b4.trans bB
      clear hHeld z gB
      go_wp2
      go_roundw
      case rel => exact ⟨k + 1, by omega, by go_num, oB, b8⟩
      case measure => simp [intOf]; omega
    · obtain rfl : k = cs.length := by omega
      rw [List.take_length] at hown
      go_wp2
      go_ret
      exact ⟨_, rfl, hown, hbel⟩
theorem ownsS_full {w : World} {B : Nat} {v : Value} {xs : List ByteArray} (h : OwnsS w B v xs) (hn : 0 < xs.length) : ∃ g cap, v = .slice (some ⟨g, 0, none⟩) xs.length cap ∧ xs.length ≤ cap ∧ g < w.heap.size := by
  rcases h.2 with ⟨rfl, h0⟩ | ⟨g, cap, cur, rfl, hb, hg, hle, _⟩
  · omega
  · exact ⟨g, cap, rfl, hle, (Array.getElem?_eq_some_iff.1 hg).1⟩
theorem listTo_len {xs : List Int} (hr : ∀ j, j < xs.length → 0 ≤ xs.getD j 0 ∧ xs.getD j 0 ≤ 999) : ∀ k, k ≤ xs.length → (listTo xs k).length ≤ 45 * k
  | 0, _ => by simp [listTo]
  | k + 1, h => by
    have ih := listTo_len hr k (by omega)
    have hx := hr k (by omega)
    have hl := Lib.itoa_length_le (xs.getD k 0) (by omega) (by omega)
    unfold listTo
    split
    · rw [List.nil_append]; omega
    · simp only [List.length_append, List.length_cons, List.length_nil]; omega
theorem condsT_len {cs : List CondD} (hc : ∀ k, k < cs.length → cIn (cs.getD k c0D)) (t : List UInt8) : ∀ k, k ≤ cs.length → (condsT t cs k).length ≤ t.length + 80 * k
  | 0, _ => by simp [condsT]
  | k + 1, h => by
    have ih := condsT_len hc t k (by omega)
    obtain ⟨⟨f0, f1⟩, ⟨a0, a1⟩, b0, b1⟩ := hc k (by omega)
    have l1 := Lib.itoa_length_le (cs.getD k c0D).1 (by omega) (by omega)
    have l2 := Lib.itoa_length_le (cs.getD k c0D).2.1 (by omega) (by omega)
    have l3 := Lib.itoa_length_le (cs.getD k c0D).2.2 (by omega) (by omega)
    show (condT (condsT t cs k) (cs.getD k c0D)).length ≤ _
    unfold condT
    simp only [List.length_append, List.length_cons, List.length_nil]
    omega
theorem fmtQ_len {id tn : Int} {cs : List CondD} {os : List Int} (h : queryB id tn cs os = true) : (fmtQ id tn cs os).length ≤ 1000 := by
  obtain ⟨h1, h2, h3, h4, h5, h6⟩ := query_parts h
  have l1 := condsT_len (cs := cs) (fun k hk => by have := h4 k hk; exact ⟨⟨this.1, by omega⟩, ⟨this.2.2.1, by omega⟩, this.2.2.2.2.1, by omega⟩) (headT id tn) cs.length (Nat.le_refl _)
  have l2 := listTo_len (xs := os) (fun j hj => ⟨(h6 j hj).1, by have := (h6 j hj).2; omega⟩) os.length (Nat.le_refl _)
  have l3 := Lib.itoa_length_le id (by omega) (by omega)
  have l4 := Lib.itoa_length_le tn (by omega) (by omega)
  have l5 : (headT id tn).length ≤ 45 := by unfold headT; simp; omega
  unfold fmtQ
  rw [if_pos h]
  simp only [List.length_append, List.length_cons, List.length_nil]
  omega
set_option maxHeartbeats 8000000 in
set_option maxRecDepth 100000 in
theorem implFormatQuery (id tn : Int) (cv ov : Value) (cs : List CondD) (os : List Int) (w : World) (h : CondsR w cv cs) (hn : cs.length ≤ 1048576) (g : Ints w ov os) (hm : os.length ≤ 1048576) (hT : Tab w) :
    Calls Tryz.prog 11 #[qV id tn cv ov] w fun e w' => e = .returned (.string (strB (fmtQ id tn cs os))) ∧ Below w.heap.size w w' := by
  obtain ⟨ca, ccap, rfl⟩ := condsR_len h
  obtain ⟨oa, ocap, rfl⟩ := ints_len g
  have hb0 : Below w.heap.size w (w.alloc (.cells #[.int .i64 id, .int .i64 tn, .slice ca cs.length ccap, .slice oa os.length ocap] 27)) := (Below.refl _ w).alloc (Nat.le_refl _) _
  have HG0 := Lib.hid (heap_alloc_new w (.cells #[.int .i64 id, .int .i64 tn, .slice ca cs.length ccap, .slice oa os.length ocap] 27))
  have HB0 := Lib.hid hb0
  have HC := Lib.hid (condsR_below h hb0)
  have HO := Lib.hid (ints_below g hb0)
  have HT := Lib.hid hT
  cases hq : queryB id tn cs os with
  | false =>
    have HQ := Lib.hid (fun w h g => checkQuery_no id tn (.slice ca cs.length ccap) (.slice oa os.length ocap) cs os w h hn g hm hq)
    have HF : Hid (fmtQ id tn cs os = []) := Lib.hid (by unfold fmtQ; rw [hq]; rfl)
    clear h g hn hm hb0 hq hT
    go_enter Tryz.func11, Tryz.ntmps11
    go_wp2_with fail
    generalize w.alloc (.cells #[.int .i64 id, .int .i64 tn, .slice ca cs.length ccap, .slice oa os.length ocap] 27) = W at *
    refine (HQ.out _ HC.out HO.out).mono ?_
    rintro e w1 ⟨rfl, b1⟩
    have c1 := HB0.out.trans (b1.mono HB0.out.size)
    have c2 := c1.alloc c1.size (.cells #[.slice none 0 0, .slice none 0 0] 52)
    go_wp2
    go_ret
    exact ⟨ret_s HF.out.symm, c2⟩
  | true =>
    have HQ := Lib.hid (fun w h g => checkQuery_yes id tn (.slice ca cs.length ccap) (.slice oa os.length ocap) cs os w h hn g hm hq)
    obtain ⟨hi, ht, hcl, hcr, hol, hor⟩ := query_parts hq
    have hfl := qB_fields (q := (id, tn, cs, os)) hq
    simp only at hfl
    have HJ0 : Hid (Lib.join (((wordsQ (id, tn, cs, os)).map strB).map (·.data.toList)) (⟨#[32]⟩ : ByteArray).data.toList = fmtQ id tn cs os) := Lib.hid (by
      have e1 : ((wordsQ (id, tn, cs, os)).map strB).map (·.data.toList) = wordsQ (id, tn, cs, os) := by
        rw [List.map_map]
        conv => rhs; rw [← List.map_id (wordsQ (id, tn, cs, os))]
        exact List.map_congr_left fun x _ => by simp [strB]
      rw [e1]
      exact (join_glue 32 _).trans (fmt_glue (q := (id, tn, cs, os)) hq).symm)
    have HFL := Lib.hid (fmtQ_len hq)
    have HWL : Hid (((wordsQ (id, tn, cs, os)).map strB).length ≤ 10) := Lib.hid (by rw [List.length_map, wordsQ_len]; simp only; omega)
    have HWQ : Hid ((wordsQ (id, tn, cs, os)).map strB = [strB (113 :: Lib.itoa id), strB (116 :: Lib.itoa tn)] ++ (condsW cs).map strB ++ [⟨#[111, 117, 116]⟩, strB (listTo os os.length)]) := Lib.hid (by unfold wordsQ; simp [strB])
    have HWP : Hid (0 < ((wordsQ (id, tn, cs, os)).map strB).length) := Lib.hid (by unfold wordsQ; simp)
    have HCW : Hid (((condsW cs).map strB).length ≤ 6) := Lib.hid (by rw [List.length_map, condsW_len]; omega)
    have HW := Lib.hid (fun w h hT => words_any (.slice ca cs.length ccap) cs w h hcl (fun k hk => by have := hcr k hk; exact ⟨⟨this.1, by omega⟩, ⟨this.2.2.1, by omega⟩, this.2.2.2.2.1, by omega⟩) hT)
    have hl9 := listTo_len (xs := os) (fun j hj => ⟨(hor j hj).1, by have := (hor j hj).2; omega⟩) os.length (Nat.le_refl _)
    have HJI := Lib.hid (fun w h hT => joinInts_few (.slice oa os.length ocap) os w h hfl.1 hfl.2 (fun j hj => ⟨(hor j hj).1, by have := (hor j hj).2; omega⟩) hT (by omega))
    have HA := Lib.hid (fun w h => fmtR id w hi.1 (by omega) h)
    have HB := Lib.hid (fun w h => fmtR tn w ht.1 (by omega) h)
    have la := Lib.itoa_length_le id (by omega) (by omega)
    have lb := Lib.itoa_length_le tn (by omega) (by omega)
    clear h g hn hm hb0 hq hT hi ht hcl hcr hol hor hfl hl9
    obtain ⟨fq, hfq⟩ : ∃ fq, fmtQ id tn cs os = fq := ⟨_, rfl⟩
    rw [hfq] at HJ0 HFL ⊢
    clear hfq
    obtain ⟨t1, ht1⟩ : ∃ t1, Lib.itoa id = t1 := ⟨_, rfl⟩
    obtain ⟨t2, ht2⟩ : ∃ t2, Lib.itoa tn = t2 := ⟨_, rfl⟩
    rw [ht1] at HA HWQ la
    rw [ht2] at HB HWQ lb
    clear ht1 ht2
    obtain ⟨ta, hta⟩ : ∃ ta, 113 :: t1 = ta := ⟨_, rfl⟩
    obtain ⟨tb, htb⟩ : ∃ tb, 116 :: t2 = tb := ⟨_, rfl⟩
    have dA : ∀ w, (Op.stringOp .add ⟨#[113]⟩ (strB t1)).run Tryz.prog w = .ok (.string (strB ta)) w := by rw [← hta]; exact strB_add [113] t1 (by simp; omega)
    have dB : ∀ w, (Op.stringOp .add ⟨#[116]⟩ (strB t2)).run Tryz.prog w = .ok (.string (strB tb)) w := by rw [← htb]; exact strB_add [116] t2 (by simp; omega)
    rw [hta, htb] at HWQ
    clear hta htb la lb
    generalize (wordsQ (id, tn, cs, os)).map strB = ws at *
    generalize (condsW cs).map strB = cw at *
    generalize listTo os os.length = tl at *
    go_enter Tryz.func11, Tryz.ntmps11
    go_wp2_with fail
    generalize w.alloc (.cells #[.int .i64 id, .int .i64 tn, .slice ca cs.length ccap, .slice oa os.length ocap] 27) = W at *
    refine (HQ.out _ HC.out HO.out).mono ?_
    rintro e w1 ⟨rfl, b1⟩
    have a1 : Below w1.heap.size w1 (w1.alloc (.cells #[.slice ca cs.length ccap, .slice oa os.length ocap] 52)) := (Below.refl _ _).alloc (Nat.le_refl _) _
    have b2 := b1.trans (a1.mono b1.size)
    have c2 := HB0.out.trans (b2.mono HB0.out.size)
    have HCQ := Lib.hid (heap_alloc_new w1 (.cells #[.slice ca cs.length ccap, .slice oa os.length ocap] 52))
    obtain ⟨p0, p1, p2, p3⟩ := box_cells4 HG0.out b2
    have hw0 : w.heap.size < W.heap.size := (Array.getElem?_eq_some_iff.1 HG0.out).1
    have l2 := Nat.lt_of_lt_of_le hw0 b2.size
    clear a1 b1 hw0
    go_wp2
    obtain ⟨R, hR⟩ : ∃ R, w1.heap.size = R := ⟨_, rfl⟩
    rw [hR] at HCQ ⊢
    generalize w1.alloc (.cells #[.slice ca cs.length ccap, .slice oa os.length ocap] 52) = W2 at *
    clear hR
    refine wp_region_held_drew (S := fun w' => w'.cell? ⟨w.heap.size, 0, none⟩ = some (.int .i64 id) ∧ w'.cell? ⟨w.heap.size, 1, none⟩ = some (.int .i64 tn)) (by kernel_rfl) ⟨p0, p1⟩ (fun hHeld => ?_)
    have e0 := below_drew (Below.refl W2.heap.size W2)
    refine take_runs (i := 0) (v := ?_) (by simp only [List.getElem?_toArray, List.getElem?_cons_succ, List.getElem?_cons_zero]; rfl) (by kernel_rfl) (by kernel_rfl) (by kernel_rfl) rfl (by exact fun _ _ _ h => h) (by rfl) ?_ (by assumption) ?_
    rotate_left
    · intro w hSw; (try dsimp only at hSw); go_simp; try (with_reducible rfl)
    try simp only [Act.put, List.setIfInBounds_toArray, List.set_cons_zero, List.set_cons_succ]
    refine take_runs (i := 1) (v := ?_) (by simp only [List.getElem?_toArray, List.getElem?_cons_succ, List.getElem?_cons_zero]; rfl) (by kernel_rfl) (by kernel_rfl) (by kernel_rfl) rfl (by exact fun _ _ _ h => h) (by rfl) ?_ (by assumption) ?_
    rotate_left
    · intro w hSw; (try dsimp only at hSw); go_simp; try (with_reducible rfl)
    try simp only [Act.put, List.setIfInBounds_toArray, List.set_cons_zero, List.set_cons_succ]
    refine take_runs (i := 4) (v := ?_) (by simp only [List.getElem?_toArray, List.getElem?_cons_succ, List.getElem?_cons_zero]; rfl) (by kernel_rfl) (by kernel_rfl) (by kernel_rfl) rfl (by exact fun _ _ _ h => h) (by rfl) ?_ (by assumption) ?_
    rotate_left
    · intro w hSw; (try dsimp only at hSw); go_simp; try (with_reducible rfl)
    try simp only [Act.put, List.setIfInBounds_toArray, List.set_cons_zero, List.set_cons_succ]
    refine take_runs (i := 5) (v := ?_) (by simp only [List.getElem?_toArray, List.getElem?_cons_succ, List.getElem?_cons_zero]; rfl) (by kernel_rfl) (by kernel_rfl) (by kernel_rfl) rfl (by exact fun _ _ _ h => h) (by rfl) ?_ (by assumption) ?_
    rotate_left
    · intro w hSw; (try dsimp only at hSw); go_simp; try (with_reducible rfl)
    try simp only [Act.put, List.setIfInBounds_toArray, List.set_cons_zero, List.set_cons_succ]
    refine wpAnyH_ready (rs := [2]) (by kernel_rfl) (by simp) ?_
    refine (AllReadyH.cons (o := _) (by simp only [List.getElem?_toArray, List.getElem?_cons_succ, List.getElem?_cons_zero]; rfl) (fun K hK => ?_) AllReadyH.nil)
    go_simp
    refine (HA.out _ (HT.out.on (c2.trans (e0.mono c2.size)))).mono ?_
    rintro e x1 ⟨rfl, k1⟩
    have e1 : Below W2.heap.size W2 x1 := e0.trans (k1.mono e0.size)
    refine hK.out _ _ ⟨(e1.cell (p := ⟨w.heap.size, 0, none⟩) l2).trans p0, (e1.cell (p := ⟨w.heap.size, 1, none⟩) l2).trans p1⟩ (fun hHeld => ?_)
    clear hK K
    try simp only [Act.put, List.setIfInBounds_toArray, List.set_cons_zero, List.set_cons_succ]
    refine take_runs (i := 3) (v := ?_) (by simp only [List.getElem?_toArray, List.getElem?_cons_succ, List.getElem?_cons_zero]; rfl) (by kernel_rfl) (by kernel_rfl) (by kernel_rfl) rfl (by exact fun _ _ _ h => h) (by rfl) ?_ (by assumption) ?_
    rotate_left
    · intro w hSw; (try dsimp only at hSw); go_simp; try (with_reducible rfl)
    try simp only [Act.put, List.setIfInBounds_toArray, List.set_cons_zero, List.set_cons_succ]
    refine wpAnyH_ready (rs := [6]) (by kernel_rfl) (by simp) ?_
    refine (AllReadyH.cons (o := _) (by simp only [List.getElem?_toArray, List.getElem?_cons_succ, List.getElem?_cons_zero]; rfl) (fun K hK => ?_) AllReadyH.nil)
    go_simp
    refine (HB.out _ (HT.out.on (c2.trans (e1.mono c2.size)))).mono ?_
    rintro e x2 ⟨rfl, k2⟩
    have e2 : Below W2.heap.size W2 x2 := e1.trans (k2.mono e1.size)
    refine hK.out _ _ ⟨(e2.cell (p := ⟨w.heap.size, 0, none⟩) l2).trans p0, (e2.cell (p := ⟨w.heap.size, 1, none⟩) l2).trans p1⟩ (fun hHeld => ?_)
    clear hK K
    try simp only [Act.put, List.setIfInBounds_toArray, List.set_cons_zero, List.set_cons_succ]
    refine take_runs (i := 7) (v := ?_) (by simp only [List.getElem?_toArray, List.getElem?_cons_succ, List.getElem?_cons_zero]; rfl) (by kernel_rfl) (by kernel_rfl) (by kernel_rfl) rfl (by exact fun _ _ _ h => h) (by rfl) ?_ (by assumption) ?_
    rotate_left
    · intro w hSw; (try dsimp only at hSw); go_simp; try (with_reducible rfl)
    try simp only [Act.put, List.setIfInBounds_toArray, List.set_cons_zero, List.set_cons_succ]
    refine wpAnyH_ready (rs := [8]) (by kernel_rfl) (by simp) ?_
    refine (AllReadyH.cons (o := _) (by simp only [List.getElem?_toArray, List.getElem?_cons_succ, List.getElem?_cons_zero]; rfl) (fun K hK => ?_) AllReadyH.nil)
    go_simp
    have hA := (Below.refl x2.heap.size x2).alloc (Nat.le_refl _) (.cells #[.string (strB ta), .string (strB tb)] 9)
    have o4 : OwnsS (x2.alloc (.cells #[.string (strB ta), .string (strB tb)] 9)) W2.heap.size (.slice (some ⟨x2.heap.size, 0, none⟩) 2 2) [strB ta, strB tb] := ownsS_lit x2 W2.heap.size e2.size _ 2 _ rfl rfl (by decide)
    obtain ⟨W4, hW4⟩ : ∃ W4, x2.alloc (.cells #[.string (strB ta), .string (strB tb)] 9) = W4 := ⟨_, rfl⟩
    rw [hW4] at hA o4 ⊢
    clear hW4
    have e4 : Below W2.heap.size W2 W4 := e2.trans (hA.mono e2.size)
    refine hK.out _ _ ⟨(e4.cell (p := ⟨w.heap.size, 0, none⟩) l2).trans p0, (e4.cell (p := ⟨w.heap.size, 1, none⟩) l2).trans p1⟩ (fun hHeld => ?_)
    clear hK K
    try simp only [Act.put, List.setIfInBounds_toArray, List.set_cons_zero, List.set_cons_succ]
    refine take_runs (i := 9) (v := ?_) (by simp only [List.getElem?_toArray, List.getElem?_cons_succ, List.getElem?_cons_zero]; rfl) (by kernel_rfl) (by kernel_rfl) (by kernel_rfl) rfl (by exact fun _ _ _ h => h) (by rfl) ?_ (by assumption) ?_
    rotate_left
    · intro w hSw; (try dsimp only at hSw); go_simp; try (with_reducible rfl)
    try simp only [Act.put, List.setIfInBounds_toArray, List.set_cons_zero, List.set_cons_succ]
    refine wpAnyH_done (by kernel_rfl) ?_ _
    clear hHeld hA
    obtain ⟨s0, s1⟩ := box_cells HCQ.out e4
    have c4 := c2.trans (e4.mono c2.size)
    go_wp2_with fail
    refine (HW.out _ (condsR_below HC.out (b2.trans (e4.mono b2.size))) (HT.out.on c4)).mono ?_
    rintro e w5 ⟨u, rfl, ou, b5⟩
    have e5 := e4.trans (b5.mono e4.size)
    have o5 := ownsS_below o4 b5
    have HST := Lib.hid (ownsS_strs ou)
    clear o4 ou s0 s1 c4 e4 b5
    go_wp2_with (at_builtin; refine wpl_append_strs rfl (.tmp 22) (.tmp 25) rfl W2.heap.size _ _ [strB ta, strB tb] cw rfl rfl o5 HST.out e5.size (by have := HCW.out; simp; omega) ?_; intro u6 w6 o6 b6 _; have e6 := e5.trans b6; obtain ⟨s0, s1⟩ := box_cells HCQ.out e6)
    have c6 := c2.trans (e6.mono c2.size)
    clear o5 e5
    refine (HJI.out _ (ints_below HO.out (b2.trans (e6.mono b2.size))) (HT.out.on c6)).mono ?_
    rintro e w7 ⟨rfl, b7⟩
    have e7 := e6.trans (b7.mono e6.size)
    have o7 := ownsS_below o6 b7
    have hA := (Below.refl w7.heap.size w7).alloc (Nat.le_refl _) (.cells #[.string ⟨#[111, 117, 116]⟩, .string (strB tl)] 9)
    have a0 : (w7.alloc (.cells #[.string ⟨#[111, 117, 116]⟩, .string (strB tl)] 9)).cell? ⟨w7.heap.size, 0, none⟩ = some (.string ⟨#[111, 117, 116]⟩) := (cell_lit w7 #[.string ⟨#[111, 117, 116]⟩, .string (strB tl)] 9 0).trans rfl
    have a1 : (w7.alloc (.cells #[.string ⟨#[111, 117, 116]⟩, .string (strB tl)] 9)).cell? ⟨w7.heap.size, 1, none⟩ = some (.string (strB tl)) := (cell_lit w7 #[.string ⟨#[111, 117, 116]⟩, .string (strB tl)] 9 1).trans rfl
    have al : w7.heap.size < (w7.alloc (.cells #[.string ⟨#[111, 117, 116]⟩, .string (strB tl)] 9)).heap.size := by simp
    have o8 := ownsS_below o7 hA
    have e8 := e7.trans (hA.mono e7.size)
    have HS2 := Lib.hid (strs_two a0 a1 al)
    clear o6 o7 e6 e7 b7 a0 a1 al hA s0 s1 c6
    go_wp2_with (at_builtin; refine wpl_append_strs rfl (.tmp 27) (.tmp 31) rfl W2.heap.size _ _ ([strB ta, strB tb] ++ cw) [⟨#[111, 117, 116]⟩, strB tl] rfl rfl o8 HS2.out e8.size (by have := HCW.out; simp; omega) ?_; intro u9 w9 o9 b9 _; rw [← HWQ.out] at o9; have e9 := e8.trans b9; obtain ⟨gg, gcap, rfl, hgc, hgl⟩ := ownsS_full o9 HWP.out)
    have c9 := c2.trans (e9.mono c2.size)
    have HJ := Lib.hid (Tryz.strings_Join gg 0 gcap ws ⟨#[32]⟩ w9 (fun j x hx => by have := ownsS_cell o9 hx; rw [Nat.zero_add]; exact this) hgl (by have := HWL.out; omega) hgc (by rw [HJ0.out]; have := HFL.out; omega))
    rw [HJ0.out] at HJ
    clear o8 o9 e8 e9 b9 hgc hgl
    refine HJ.out.mono ?_
    rintro e w10 ⟨rfl, b10⟩
    have c10 := c9.trans (b10.mono c9.size)
    go_wp2
    go_ret
    exact ⟨rfl, c10⟩
end Go.Proofs.YtijfnabglblimaaGreatDoor
namespace Go.Proofs.YtijfnabglblimaaGreatDoor.Comma
open Go.RowKit Go.Shelf
attribute [local go_sem] Oper.semAt_some
set_option linter.unusedVariables false
/-- How long the text in the box is. -/
def boxLen (B : Nat) (W : World) : Nat := match W.cell? ⟨B, 0, none⟩ with
  | some (.string s) => s.size
  | _ => 0
theorem boxLen_of {B : Nat} {W : World} {t : TypeId} {s : ByteArray} (h : Boxed W B t (.string s)) : boxLen B W = s.size := by unfold boxLen; rw [h.cell]
/-! ### The law of the loop -/
/-- The blocks from B up to B + 5 lie as they lay. -/
def Stays (B : Nat) (W W' : World) : Prop := W.heap.size ≤ W'.heap.size ∧ ∀ j, B ≤ j → j < B + 5 → j < W.heap.size → W'.heap[j]? = W.heap[j]?
theorem stays_below {B : Nat} {W W' : World} (h : Below W.heap.size W W') : Stays B W W' := ⟨h.size, fun j _ _ hj => h.block j hj⟩
theorem Stays.trans {B : Nat} {W W' W'' : World} (h : Stays B W W') (h' : Stays B W' W'') : Stays B W W'' :=
  ⟨Nat.le_trans h.1 h'.1, fun j hb h5 hj => (h'.2 j hb h5 (Nat.lt_of_lt_of_le hj h.1)).trans (h.2 j hb h5 hj)⟩
theorem stays_set {B : Nat} {W : World} {b : Nat} (h : b < B) (v : Value) : Stays B W (W.setCell ⟨b, 0, none⟩ v) :=
  ⟨by simp [World.setCell], fun j hb _ _ => Below.heap_setCell W _ v j (fun e => by have : j = b := e; omega)⟩
theorem stays_hi {B : Nat} {W W' : World} {C : Nat} (h : Below C W W') (hC : B + 5 ≤ C) : Stays B W W' := ⟨h.size, fun j _ h5 _ => h.block j (by omega)⟩
theorem only_up {B hi : Nat} {W W' : World} (h : Below W.heap.size W W') : Only B hi W W' := ⟨h.os, h.tape, h.output, h.size, fun k hk _ => h.block k hk⟩
theorem only_set (B : Nat) (W : World) (v : Value) : Only B (B + 5) W (W.setCell ⟨B, 0, none⟩ v) := ⟨rfl, rfl, rfl, by simp [World.setCell], fun k _ hn => Below.heap_setCell W _ v k (by simp; omega)⟩
theorem only_put {B : Nat} (W : World) {l : Nat} {o : Obj} (o' : Obj) (h : W.heap[l]? = some o) (hl : B ≤ l) (h5 : l < B + 5) : Only B (B + 5) W (W.putObj l o') :=
  ⟨rfl, rfl, rfl, by simp, fun k _ hn => World.putObj_heap_other (by omega)⟩
/-- How a round's body may end. -/
def roundEnd (B : Nat) (I : Nat → World → Prop) (Ix : World → Prop) (k : Nat) (W : World) : Exit → Act → World → Prop
  | .normal, _, W' => Stays B W W' ∧ I (k + 1) W'
  | .ret, _, W' => Stays B W W' ∧ Ix W'
  | _, _, _ => False
/-- What a call of the iterator asks of the rounds, and what it answers. -/
def SplitStops (n : Nat) (Bs Bp Bv : Nat) (P : List (List UInt8)) (s : List UInt8) : Prop :=
  ∀ (l : Nat) (J : Nat → World → Prop) (Jx : World → Prop),
    (∀ k W v, J k W → J k (W.setCell ⟨Bs, 0, none⟩ v)) →
    (∀ k W, J k W → Boxed W Bp 9 (.string ⟨#[44]⟩) ∧ Boxed W Bv 3 (.int .i64 0)) →
    (∀ (k : Nat) (W : World) (r : ByteArray), k < P.length → J k W → Boxed W Bs 9 (.string r) →
      YieldAt Fence.wide (n - 1) Tryz.prog l #[.string (strB (P.getD k []))] W fun e W' => (e = .returned (.bool true) ∧ J (k + 1) W' ∧ Boxed W' Bs 9 (.string r)) ∨ (e = .returned (.bool false) ∧ Jx W')) →
    ∀ W, J 0 W → Boxed W Bs 9 (.string (strB s)) →
    CallsIn Fence.wide n Tryz.prog 135 #[.func (.yield l) #[] #[], .pointer (some ⟨Bp, 0, none⟩), .pointer (some ⟨Bs, 0, none⟩), .pointer (some ⟨Bv, 0, none⟩)] W fun e W' => (∃ v, e = .returned v) ∧ (J P.length W' ∨ Jx W')
theorem rangeSplit {g : Operand} {ps : Array Tmp} {assign body : Code} {Q : Exit → Act → World → Prop} {a : Act} {w : World} {n : Nat} (h1 : 1 ≤ n) (B : Nat) (s : List UInt8)
    (hg : a.eval g = .func (.func 135) #[] #[.pointer (some ⟨B + 1, 0, none⟩), .pointer (some ⟨B, 0, none⟩), .pointer (some ⟨B + 2, 0, none⟩)])
    (hB : w.heap.size = B + 3) (hstops : SplitStops (n - 1) B (B + 1) (B + 2) (cutL 44 s) s)
    (hs : Boxed w B 9 (.string (strB s))) (hp : Boxed w (B + 1) 9 (.string ⟨#[44]⟩)) (hv : Boxed w (B + 2) 3 (.int .i64 0))
    (I : Nat → World → Prop) (Ix : World → Prop) (hI : ∀ k W W', I k W → Only B (B + 5) W W' → I k W') (hIx : ∀ W W', Ix W → Only B (B + 5) W W' → Ix W') (h0 : I 0 w)
    (a₁ : List UInt8 → Act) (hps : ps.size = 1)
    (hassign : ∀ (l : Nat) (x : List UInt8) (W : World) (K : Act → World → Prop), K (a₁ x) W →
      assign.wpIn (Fence.wide.inRound l) (n - 1 - 1) Tryz.prog (Exit.then K (fun _ _ _ => False)) { tmps := (ps.zip #[Value.string (strB x)]).foldl (fun t (p, v) => t.setIfInBounds p v) a.tmps, defers := [] } W)
    (hbody : ∀ (l k : Nat) (W : World), k < (cutL 44 s).length → B + 5 ≤ W.heap.size → I k W → body.wpIn (Fence.wide.inRound l) (n - 1 - 1) Tryz.prog (roundEnd B I Ix k W) (a₁ ((cutL 44 s).getD k [])) W)
    (hdone : ∀ (D : Nat) (W : World), B ≤ D → D < B + 5 → I (cutL 44 s).length W → W.heap[D]? = some (.deferred (some [])) → Q .normal { a with defers := { target := .collected D, args := #[] } :: a.defers } W)
    (hstop : ∀ (D : Nat) (W : World), B ≤ D → D < B + 5 → Ix W → W.heap[D]? = some (.deferred (some [])) → Code.ret.wpIn Fence.wide n Tryz.prog Q { a with defers := { target := .collected D, args := #[] } :: a.defers } W) :
    (Code.rangeFunc g ps assign body).wpIn Fence.wide n Tryz.prog Q a w := by
  refine wpIn_rangeFunc fun fn hfn => ?_
  let rec0 : LoopState → Option Code → Loop := fun st pe => { state := st, pending := pe, fn := fn, tmps := a.tmps, params := ps, assign := assign, body := body, defers := B + 3 }
  obtain ⟨rec, hrec⟩ : ∃ r, r = rec0 := ⟨_, rfl⟩
  have hst : ∀ st pe, (rec st pe).state = st := fun st pe => by rw [hrec]
  have hpe : ∀ st pe, (rec st pe).pending = pe := fun st pe => by rw [hrec]
  have hpa : ∀ st pe, (rec st pe).params = ps := fun st pe => by rw [hrec]
  -- the two blocks of the loop: what its rounds defer, and its record
  obtain ⟨W1, hW1⟩ : ∃ W1, (w.alloc (.deferred (some []))).alloc (.loop (rec .ready none)) = W1 := ⟨_, rfl⟩
  have hD1 : W1.heap[B + 3]? = some (.deferred (some [])) := by
    rw [← hW1, Below.heap_alloc _ _ _ (by simp; omega), ← hB]; exact World.alloc_heap_new w _
  have hL1 : W1.heap[B + 4]? = some (.loop (rec .ready none)) := by
    have := World.alloc_heap_new (w.alloc (.deferred (some []))) (.loop (rec .ready none))
    rw [World.size_alloc, hB] at this
    rw [← hW1]; exact this
  have hup : Below w.heap.size w W1 := by rw [← hW1]; exact ((Below.refl _ w).alloc (Nat.le_refl _) _).alloc (by simp) _
  have hs1 : Boxed W1 B 9 (.string (strB s)) := by rw [← hW1]; exact (hs.alloc _).alloc _
  have hp1 : Boxed W1 (B + 1) 9 (.string ⟨#[44]⟩) := by rw [← hW1]; exact (hp.alloc _).alloc _
  have hv1 : Boxed W1 (B + 2) 3 (.int .i64 0) := by rw [← hW1]; exact (hv.alloc _).alloc _
  have hI1 : I 0 W1 := hI 0 w W1 h0 (only_up hup)
  refine ⟨B + 4, [{ target := .collected (B + 3), args := #[] }], W1, { target := .fn (.func 135) #[.pointer (some ⟨B + 1, 0, none⟩), .pointer (some ⟨B, 0, none⟩), .pointer (some ⟨B + 2, 0, none⟩)], args := #[.func (.yield (B + 4)) #[] #[]] }, W1, 135,
    #[.func (.yield (B + 4)) #[] #[], .pointer (some ⟨B + 1, 0, none⟩), .pointer (some ⟨B, 0, none⟩), .pointer (some ⟨B + 2, 0, none⟩)], W1, ?_, ?_, ?_, ?_, fun _ => h1, ?_⟩
  · have := run_enterLoop_outer (P := Tryz.prog) (w := w) fn a.tmps ps assign body
    rw [hB] at this
    rw [← hW1, hrec]
    exact this
  · simp only [resolve, hg]
    simp [go_sem]
  · intro f' _; trivial
  · simp [invoke, go_sem]
  · refine (hstops (B + 4)
      (fun k W => (I k W ∧ Boxed W (B + 1) 9 (.string ⟨#[44]⟩) ∧ Boxed W (B + 2) 3 (.int .i64 0)) ∧ W.heap[B + 3]? = some (.deferred (some [])) ∧ W.heap[B + 4]? = some (.loop (rec .ready none)))
      (fun W => Ix W ∧ W.heap[B + 3]? = some (.deferred (some [])) ∧ W.heap[B + 4]? = some (.loop (rec .done (some .ret))))
      ?_ ?_ ?_ W1 ⟨⟨hI1, hp1, hv1⟩, hD1, hL1⟩ hs1).mono ?_
    · rintro k W v ⟨⟨hi, hp, hv⟩, hd, hl⟩
      have hne : ∀ j, j ≠ B → (W.setCell ⟨B, 0, none⟩ v).heap[j]? = W.heap[j]? := fun j hj => Below.heap_setCell W _ v j hj
      exact ⟨⟨hI k W _ hi (only_set B W v), (hne _ (by omega)).trans hp, (hne _ (by omega)).trans hv⟩, (hne _ (by omega)).trans hd, (hne _ (by omega)).trans hl⟩
    · rintro k W ⟨⟨_, hp, hv⟩, _⟩
      exact ⟨hp, hv⟩
    · -- one round
      rintro k W r hk ⟨⟨hi, hp, hv⟩, hd, hl⟩ hbs
      have hy := run_yield (P := Tryz.prog) (args := #[Value.string (strB ((cutL 44 s).getD k []))]) hl (by rw [hpa, hps]; rfl)
      rw [hrec] at hy
      refine ⟨fn, _, assign, body, hy, roundIn_of_wpIn hfn (hassign _ _ W _ ⟨_, run_beginRound hl (hst _ _), ?_⟩)⟩
      have e2 : ({ rec .ready none with state := .busy } : Loop) = rec .busy none := by rw [hrec]
      rw [e2]
      obtain ⟨W2, hW2⟩ : ∃ W2, W.putObj (B + 4) (.loop (rec .busy none)) = W2 := ⟨_, rfl⟩
      rw [hW2]
      have hlt : B + 4 < W.heap.size := (Array.getElem?_eq_some_iff.1 hl).1
      have hsz : W2.heap.size = W.heap.size := by rw [← hW2]; exact World.putObj_size
      have hne : ∀ j, j ≠ B + 4 → W2.heap[j]? = W.heap[j]? := fun j hj => by rw [← hW2]; exact World.putObj_heap_other hj
      have hl2 : W2.heap[B + 4]? = some (.loop (rec .busy none)) := by rw [← hW2]; exact World.putObj_heap_same hlt
      have hi2 : I k W2 := hI k W W2 hi (by rw [← hW2]; exact only_put W _ hl (by omega) (by omega))
      refine wpIn_mono (hbody _ k W2 hk (by omega) hi2) ?_
      rintro e a3 W3 hq
      have fin : ∀ (jump : Option Code), Stays B W2 W3 → ∃ W4, (Instr.endRound (B + 4) jump).run Tryz.prog W3 = .ok (.bool jump.isNone) W4 ∧ Only B (B + 5) W3 W4 ∧ (∀ j, B ≤ j → j < B + 4 → W4.heap[j]? = W.heap[j]?) ∧ W4.heap[B + 4]? = some (.loop (rec (if jump.isNone then .ready else .done) jump)) := fun jump h3 => by
        have hl3 : W3.heap[B + 4]? = some (.loop (rec .busy none)) := (h3.2 _ (by omega) (by omega) (by omega)).trans hl2
        have := run_endRound (P := Tryz.prog) jump hl3
        have e3 : ({ rec .busy none with state := if jump.isNone then .ready else .done, pending := jump } : Loop) = rec (if jump.isNone then .ready else .done) jump := by rw [hrec]
        rw [e3] at this
        exact ⟨_, this, only_put W3 _ hl3 (by omega) (by omega), fun j hb hj => (World.putObj_heap_other (by omega)).trans ((h3.2 j hb (by omega) (by omega)).trans (hne j (by omega))), World.putObj_heap_same (Array.getElem?_eq_some_iff.1 hl3).1⟩
      cases e with
      | normal =>
        obtain ⟨W4, hr, hb4, hj4, hl4⟩ := fin none hq.1
        exact ⟨_, W4, hr, .inl ⟨rfl, ⟨⟨hI _ W3 W4 hq.2 hb4, (hj4 _ (by omega) (by omega)).trans hp, (hj4 _ (by omega) (by omega)).trans hv⟩, (hj4 _ (by omega) (by omega)).trans hd, hl4⟩, (hj4 _ (by omega) (by omega)).trans hbs⟩⟩
      | ret =>
        obtain ⟨W4, hr, hb4, hj4, hl4⟩ := fin (some .ret) hq.1
        exact ⟨_, W4, hr, .inr ⟨rfl, hIx W3 W4 hq.2 hb4, (hj4 _ (by omega) (by omega)).trans hd, hl4⟩⟩
      | exit id => exact hq.elim
      | goto t => exact hq.elim
      | panic ch => exact hq.elim
      | outgrown => exact hq.elim
    · -- behind the iterator
      rintro e W2 ⟨⟨v, rfl⟩, (⟨⟨hi, _, _⟩, hd, hl⟩ | ⟨hi, hd, hl⟩)⟩
      · have := run_endLoop (P := Tryz.prog) hl (by rw [hst]; simp)
        rw [hpe] at this
        exact ⟨none, _, this, hdone (B + 3) _ (by omega) (by omega) (hI _ _ _ hi (only_put W2 _ hl (by omega) (by omega))) ((World.putObj_heap_other (by omega)).trans hd)⟩
      · have := run_endLoop (P := Tryz.prog) hl (by rw [hst]; simp)
        rw [hpe] at this
        exact ⟨some .ret, _, this, hstop (B + 3) _ (by omega) (by omega) (hIx _ _ hi (only_put W2 _ hl (by omega) (by omega))) ((World.putObj_heap_other (by omega)).trans hd)⟩
/-! ### The iterator -/
set_option maxHeartbeats 4000000 in
set_option maxRecDepth 100000 in
theorem splitStops (n Bs Bp Bv : Nat) (hn : 1 ≤ n) (s : List UInt8) (hl : s.length ≤ 1048576) : SplitStops n Bs Bp Bv (cutL 44 s) s := by
  intro l J Jx hJs hbox hY W h0 hs
  have HL := Lib.hid hl
  clear hl
  generalize hPP : cutL 44 s = P at *
  have HP := Lib.hid hPP
  clear hPP
  refine callsIn_of_wp Tryz.func135 rfl trivial ?_ rfl
  simp only [Tryz.ntmps135, List.size_toArray, List.length_cons, List.length_nil, Nat.reduceAdd, Nat.reduceSub, Array.replicate_succ, Array.replicate_zero, List.push_toArray, List.append_toArray, List.nil_append, List.cons_append]
  have c1 := (hbox 0 W h0).1.cell
  have hP0 := cut_pos 44 s
  have hPl := cut_len 44 s
  rw [HP.out] at hP0 hPl
  gi_wp2
  clear c1
  gi_loopw [7] (fun _ wr => ∃ (k : Nat) (r : List UInt8), k < P.length ∧ J k wr ∧ Boxed wr Bs 9 (.string (strB r)) ∧ r.length ≤ 1048576 ∧ Hid (P.drop k = cutL 44 r)) (fun _ wr => boxLen Bs wr)
  case atStart => exact ⟨0, s, hP0, h0, hs, HL.out, Lib.hid HP.out.symm⟩
  case round =>
    obtain ⟨k, r, hk, hj, hb, hrl, hcut⟩ := hrel
    clear h0 hs hP0 hPl
    have c1 := (hbox k _ hj).1.cell
    have c3 := (hbox k _ hj).2.cell
    have c2 := hb.cell
    rcases index_cases r 44 with ⟨hno, hi⟩ | ⟨a, b, hab, ha, hi⟩
    · have HI := Lib.hid (Tryz.strings_Index_one (strB r) 44 wr)
      have hi' : Lib.indexByte (strB r).data.toList 44 = -1 := hi
      rw [hi'] at HI
      have hd := hcut.out
      rw [cutL_no hno] at hd
      have HK : Hid (k + 1 = P.length) := Lib.hid (by have := congrArg List.length hd; simp at this; omega)
      have hg : P.getD k [] = r := by
        rw [List.drop_eq_getElem_cons hk] at hd
        have := (List.cons.inj hd).1
        rw [← this]; simp [List.getD, hk]
      obtain ⟨fn, tmps, assign, body, hy, hR⟩ := hY k _ _ hk hj hb
      rw [hg] at hy
      clear hi hi' hno hd hg hcut hY hj
      generalize strB r = sr at *
      gi_wp2_with (refine ⟨trivial, ?_⟩; gi_at_call 95; refine (callsIn_wide.2 HI.out).mono ?_; rintro e w' ⟨rfl, rfl⟩)
      refine hR.mono ?_
      rintro e W3 (⟨rfl, hJ3, _⟩ | ⟨rfl, hJx3⟩)
      · gi_wp2
        go_end0
        exact ⟨⟨_, rfl⟩, .inl (by rw [← HK.out]; exact hJ3)⟩
      · gi_wp2
        go_end0
        exact ⟨⟨_, rfl⟩, .inr hJx3⟩
    · subst hab
      have HI := Lib.hid (Tryz.strings_Index_one (strB (a ++ 44 :: b)) 44 wr)
      have hi' : Lib.indexByte (strB (a ++ 44 :: b)).data.toList 44 = (a.length : Int) := hi
      rw [hi'] at HI
      have hd := hcut.out
      rw [cutL_app b ha] at hd
      have hd2 : P.drop (k + 1) = cutL 44 b := by
        rw [List.drop_eq_getElem_cons hk] at hd
        exact (List.cons.inj hd).2
      have hk2 : k + 1 < P.length := by
        have := congrArg List.length hd2
        have h2 := cut_pos 44 b
        rw [List.length_drop] at this
        omega
      have HD2 := Lib.hid hd2
      have hg : P.getD k [] = a := by
        rw [List.drop_eq_getElem_cons hk] at hd
        have := (List.cons.inj hd).1
        rw [← this]; simp [List.getD, hk]
      obtain ⟨fn, tmps, assign, body, hy, hR⟩ := hY k _ _ hk hj hb
      have hsz : ((strB (a ++ 44 :: b)).size : Int) = (a.length : Int) + 1 + (b.length : Int) := by rw [strB_size]; simp; omega
      have hszn : (strB (a ++ 44 :: b)).size = a.length + 1 + b.length := by rw [strB_size]; simp; omega
      have HSZ := Lib.hid hszn
      have hbl : b.length ≤ 1048576 := by simp at hrl; omega
      have hal : (a.length : Int) ≤ 1048576 := by simp at hrl; omega
      have H1 := strB_take a (44 :: b)
      have H2 := Lib.hid (strB_drop a 44 b)
      have hs2 : (strB (a ++ 44 :: b)).size = (a ++ 44 :: b).length := strB_size _
      rw [← hs2] at H2
      rw [hg, ← H1] at hy
      clear hi hi' hd hd2 hg hcut hj hszn hs2 H1 hY hrl
      generalize strB (a ++ 44 :: b) = sr at *
      have x0 : (0 : Int) ≤ (a.length : Int) := by omega
      have x3 : (a.length : Int) + 1 ≤ (sr.size : Int) := by omega
      have x4 : (a.length : Int) ≤ (sr.size : Int) := by omega
      have x5 : ((a.length : Int) + 1).toNat = a.length + 1 := by omega
      gi_wp2_with (refine ⟨trivial, ?_⟩; gi_at_call 95; refine (callsIn_wide.2 HI.out).mono ?_; rintro e w' ⟨rfl, rfl⟩)
      refine hR.mono ?_
      rintro e W3 (⟨rfl, hJ3, hb3⟩ | ⟨rfl, hJx3⟩)
      · have d1 := (hbox _ _ hJ3).1.cell
        have d2 := hb3.cell
        have d4 := hb3.frozen
        clear c1 c2 c3
        gi_wp2
        exact ⟨⟨k + 1, b, hk2, hJs _ _ _ hJ3, by rw [H2.out]; exact hb3.set _, hbl, HD2⟩, by rw [H2.out, boxLen_of (hb3.set _), boxLen_of hb, strB_size, HSZ.out]; omega⟩
      · gi_wp2
        refine bodyPost_ret (results_none rfl _ _ _) rfl ?_
        exact ⟨⟨_, rfl⟩, .inr hJx3⟩
/-! ### The iterator's making -/
set_option maxHeartbeats 1000000 in
theorem splitSeq1 (s p : ByteArray) (w : World) : Calls Tryz.prog 118 #[.string s, .string p, .int .i64 0] w fun e w' => e = .returned (.func (.func 135) #[] #[.pointer (some ⟨w.heap.size + 1, 0, none⟩), .pointer (some ⟨w.heap.size, 0, none⟩), .pointer (some ⟨w.heap.size + 2, 0, none⟩)]) ∧ w' = ((w.alloc (.cells #[.string s] 9)).alloc (.cells #[.string p] 9)).alloc (.cells #[.int .i64 0] 3) := by
  go_enter Tryz.func118, Tryz.ntmps118
  go_wp2
  go_ret
  exact ⟨rfl, rfl⟩
set_option maxHeartbeats 1000000 in
theorem splitSeq0 (s p : ByteArray) (w : World) : Calls Tryz.prog 92 #[.string s, .string p] w fun e w' => e = .returned (.func (.func 135) #[] #[.pointer (some ⟨w.heap.size + 1, 0, none⟩), .pointer (some ⟨w.heap.size, 0, none⟩), .pointer (some ⟨w.heap.size + 2, 0, none⟩)]) ∧ w' = ((w.alloc (.cells #[.string s] 9)).alloc (.cells #[.string p] 9)).alloc (.cells #[.int .i64 0] 3) := by
  have H := Lib.hid (splitSeq1 s p w)
  go_enter Tryz.func92, Tryz.ntmps92
  go_wp2_with fail
  refine H.out.mono ?_
  rintro e w1 ⟨rfl, rfl⟩
  go_wp2
  go_ret
  exact ⟨rfl, rfl⟩
end Go.Proofs.YtijfnabglblimaaGreatDoor.Comma
namespace Go.Proofs.YtijfnabglblimaaGreatDoor
open Go.RowKit
set_option linter.unusedVariables false
/-- The world in which the iterator N stands at p. -/
def setIter (w : World) (N : Nat) (s : ByteArray) (p : Nat) : World := { w with heap := w.heap.setIfInBounds N (.stringIter s p) }
theorem setIter_get {w : World} {N : Nat} {s : ByteArray} {q : Nat} (p : Nat) (h : w.heap[N]? = some (.stringIter s q)) : (setIter w N s p).heap[N]? = some (.stringIter s p) := by
  have := (Array.getElem?_eq_some_iff.1 h).1
  simp [setIter, this]
theorem next_any {P : Program} {w : World} {N : Nat} {s : ByteArray} {pos : Nat} (hN : w.heap[N]? = some (.stringIter s pos)) (h : pos < s.size) (ty : TypeId) :
    (Instr.next (.pointer (some ⟨N, 0, none⟩)) true ty).run P w = .ok (.tuple #[.bool true, .int .i64 pos, .int .i32 (Utf8.decode s pos).1]) (setIter w N s (pos + (Utf8.decode s pos).2)) := by
  simp only [Instr.next, getObj, setObj, Sem.run_bind, Sem.run, hN, Result.andThen, h, if_true]
  simp [goInt, setIter]
theorem next_end {P : Program} {w : World} {N : Nat} {s : ByteArray} {pos : Nat} (hN : w.heap[N]? = some (.stringIter s pos)) (h : ¬ pos < s.size) (ty : TypeId) :
    (Instr.next (.pointer (some ⟨N, 0, none⟩)) true ty).run P w = .ok (.tuple #[.bool false]) w := by
  simp [Instr.next, getObj, Sem.run, hN, h]
theorem setIter_other {w : World} {N : Nat} {s : ByteArray} {p : Nat} {k : Nat} (h : k ≠ N) : (setIter w N s p).heap[k]? = w.heap[k]? := by
  simp only [setIter]
  rw [Array.getElem?_setIfInBounds]
  split
  · omega
  · rfl
theorem below_setIter {B : Nat} {a w : World} {N : Nat} {s : ByteArray} {p : Nat} (h : Below B a w) (hB : B ≤ N) : Below B a (setIter w N s p) :=
  h.trans ⟨rfl, rfl, rfl, by simp [setIter], fun k hk => setIter_other (by omega)⟩
theorem iter_start (w : World) (s : ByteArray) : (w.iter s 0).heap[w.heap.size]? = some (.stringIter s 0) := World.iter_heap w s 0
theorem iterPos_of {w : World} {N : Nat} {s : ByteArray} {p : Nat} (h : w.heap[N]? = some (.stringIter s p)) : w.iterPos N = p := by simp [World.iterPos, h]
end Go.Proofs.YtijfnabglblimaaGreatDoor
namespace Go.Proofs.YtijfnabglblimaaGreatDoor
open Go.RowKit
set_option linter.unusedVariables false
theorem isDigit_yes (r : Int) (w : World) (h0 : 48 ≤ r) (h1 : r ≤ 57) : Calls Tryz.prog 116 #[.int .i32 r] w fun e w' => e = .returned (.bool true) ∧ w = w' := by
  go_enter Tryz.func116, Tryz.ntmps116
  go_wp2
  go_ret
  exact ⟨rfl, rfl⟩
theorem isDigit_low (r : Int) (w : World) (h : ¬ 48 ≤ r) : Calls Tryz.prog 116 #[.int .i32 r] w fun e w' => e = .returned (.bool false) ∧ w = w' := by
  go_enter Tryz.func116, Tryz.ntmps116
  go_wp2
  go_ret
  exact ⟨rfl, rfl⟩
theorem isDigit_high (r : Int) (w : World) (h0 : 48 ≤ r) (h : ¬ r ≤ 57) : Calls Tryz.prog 116 #[.int .i32 r] w fun e w' => e = .returned (.bool false) ∧ w = w' := by
  go_enter Tryz.func116, Tryz.ntmps116
  go_wp2
  go_ret
  exact ⟨rfl, rfl⟩
theorem isDigit_no (r : Int) (w : World) (h : ¬ (48 ≤ r ∧ r ≤ 57)) : Calls Tryz.prog 116 #[.int .i32 r] w fun e w' => e = .returned (.bool false) ∧ w = w' := by
  by_cases h1 : 48 ≤ r
  · exact isDigit_high r w h1 (by omega)
  · exact isDigit_low r w h1
theorem mem_byte (s : ByteArray) (k : Nat) (h : k < s.size) : s[k] ∈ s.data.toList := by
  have : s.data.toList[k]'(by simpa using h) = s[k] := rfl
  rw [← this]; exact List.getElem_mem _
theorem cut (s : ByteArray) (w : World) : Calls Tryz.prog 89 #[.string s, .string ⟨#[45]⟩] w fun e w' => e = .returned (.tuple #[.string ⟨(trim s.data.toList).toArray⟩, .bool (neg s.data.toList)]) ∧ w = w' := by
  have h := (Tryz.strings_CutPrefix s ⟨#[45]⟩ w).mono (R' := fun e w' => e = .returned (.tuple #[.string ⟨(Lib.trimPrefix s.data.toList (⟨#[45]⟩ : ByteArray).data.toList).toArray⟩, .bool (Lib.hasPrefix s.data.toList (⟨#[45]⟩ : ByteArray).data.toList)]) ∧ w = w') (fun e w' h => ⟨h.1, h.2.symm⟩)
  have e := trim_cut s.data.toList
  rw [show (⟨#[45]⟩ : ByteArray).data.toList = [45] from rfl, e.1, e.2] at h
  exact h
set_option maxHeartbeats 2000000 in
set_option maxRecDepth 100000 in
theorem implPar (s : ByteArray) (w : World) (hs : s.size ≤ 1048576) (htab : Tab w) :
    Calls Tryz.prog 90 #[.string s] w fun e w' => e = .returned (.tuple #[.int .i64 (parI s.data.toList).1, .bool (parI s.data.toList).2]) ∧ Below w.heap.size w w' := by
  have hcut := cut s
  have hts : (⟨(trim s.data.toList).toArray⟩ : ByteArray).data.toList = trim s.data.toList := rfl
  generalize (⟨(trim s.data.toList).toArray⟩ : ByteArray) = t at hcut hts
  have HCUT := Lib.hid hcut; clear hcut
  have HTS := Lib.hid hts; clear hts
  have HTAB := Lib.hid htab; clear htab
  by_cases h9 : 9 < t.size
  · have H := Lib.hid (parI_long' (l := s.data.toList) (by rw [← HTS.out]; simpa using h9))
    go_enter Tryz.func90, Tryz.ntmps90
    go_wp2_with (go_at_call 89; refine (HCUT.out _).mono ?_; rintro e w' ⟨rfl, rfl⟩)
    go_ret2
    exact ⟨ret_par H.out rfl, Below.refl _ _⟩
  · have hc9 := Lib.hid (show dcnt s.data.toList ≤ 9 by rw [← dcnt_trim, ← HTS.out]; have := dcnt_le t.data.toList; simp at this; omega)
    obtain ⟨b, hb⟩ : ∃ b, neg s.data.toList = b := ⟨_, rfl⟩
    rw [hb] at HCUT
    have HB := Lib.hid hb; clear hb
    go_enter Tryz.func90, Tryz.ntmps90
    go_wp2_with (go_at_call 89; refine (HCUT.out _).mono ?_; rintro e w' ⟨rfl, rfl⟩)
    go_loopw [6] (fun n wr => ∃ p v : Nat, p ≤ t.size ∧ n = .int .i64 v ∧ v ≤ 999999999 ∧ Hid (wr.heap[w.heap.size]? = some (.stringIter t p)) ∧ Below w.heap.size w wr ∧ Hid (v = dval (t.data.toList.take p))) (fun _ wr => t.size - wr.iterPos w.heap.size)
    case atStart => exact ⟨0, 0, Nat.zero_le _, rfl, by omega, Lib.hid (iter_start w t), (Below.refl _ _).alloc (Nat.le_refl _) _, Lib.hid rfl⟩
    case round =>
      obtain ⟨p, v, hp, rfl, hv, hit, hbel, hvd⟩ := hrel
      by_cases hlt : p < t.size
      · by_cases ha : t[p].toNat < 128
        · have hnx := next_any (P := Tryz.prog) hit.out hlt
          rw [decode_ascii t p hlt ha] at hnx
          have hb2 := below_setIter (s := t) (p := p + 1) hbel (Nat.le_refl _)
          by_cases hd : dig t[p] = true
          · obtain ⟨r1, r2⟩ := (dig_iff t[p]).1 hd
            have HV : Hid (v * 10 + (t[p].toNat - 48) = dval (t.data.toList.take (p + 1))) := Lib.hid (by rw [dval_step t p hlt, if_pos hd, hvd.out])
            have HX := Lib.hid (cast_dig v t[p].toNat r1)
            have hv3 : v * 10 + (t[p].toNat - 48) ≤ 999999999 := by
              rw [HV.out]; refine dval_lt9 _ ?_
              have := dcnt_le (t.data.toList.take (p + 1)); rw [List.length_take] at this; omega
            have hit3 := setIter_get (p + 1) hit.out
            have HIT := Lib.hid hit3
            have HM := Lib.hid (iterPos_of hit.out)
            have HM3 := Lib.hid (iterPos_of hit3)
            clear hit3 hd hvd
            go_wp2_with (go_at_call 116; refine (isDigit_yes _ _ (by omega) (by omega)).mono ?_; rintro e w' ⟨rfl, rfl⟩)
            go_roundw
            case rel => exact ⟨p + 1, v * 10 + (t[p].toNat - 48), by omega, by rw [HX.out], hv3, HIT, hb2, HV⟩
            case measure => rw [HM.out, HM3.out]; omega
          · have hr : ¬ (48 ≤ (t[p].toNat : Int) ∧ (t[p].toNat : Int) ≤ 57) := fun g => hd ((dig_iff t[p]).2 ⟨by omega, by omega⟩)
            have H := Lib.hid (parI_digit (l := s.data.toList) (b := t[p]) (by rw [← HTS.out]; exact mem_byte t p hlt) (by simpa using hd))
            have HR := Lib.hid hr
            clear hr hd
            go_wp2_with (go_at_call 116; refine (isDigit_no _ _ HR.out).mono ?_; rintro e w' ⟨rfl, rfl⟩)
            go_ret2
            exact ⟨ret_par H.out rfl, hb2⟩
        · have hnx := next_any (P := Tryz.prog) hit.out hlt
          have hr := (decode_high t p hlt (by omega)).1
          have hb2 := below_setIter (s := t) (p := p + (Utf8.decode t p).2) hbel (Nat.le_refl _)
          have H := Lib.hid (parI_digit (l := s.data.toList) (b := t[p]) (by rw [← HTS.out]; exact mem_byte t p hlt) (by cases h : dig t[p] with | false => rfl | true => exact absurd ((dig_iff t[p]).1 h) (by omega)))
          generalize (Utf8.decode t p).1 = r at *
          generalize (Utf8.decode t p).2 = q at *
          go_wp2_with (go_at_call 116; refine (isDigit_no _ _ (by omega)).mono ?_; rintro e w' ⟨rfl, rfl⟩)
          go_ret2
          exact ⟨ret_par H.out rfl, hb2⟩
      · have hnx := next_end (P := Tryz.prog) hit.out hlt
        obtain rfl : p = t.size := by omega
        have HT : t.data.toList.take t.size = t.data.toList := List.take_of_length_le (by simp)
        have HVD : Hid (v = dval s.data.toList) := Lib.hid (by rw [hvd.out, HT, HTS.out, dval_trim])
        have HTB := Lib.hid (HTAB.out.on hbel)
        clear HT hvd
        cases b with
        | true =>
          have HA := Lib.hid (fun w h => implFmt (-(v : Int)) w (by omega) (by omega) h)
          have HN := Lib.hid (show sval s.data.toList = -(v : Int) by rw [sval_neg HB.out, ← HVD.out])
          by_cases hx : (⟨(Lib.itoa (-(v : Int))).toArray⟩ : ByteArray).toList = s.toList
          · have H := Lib.hid (parI_ok (l := s.data.toList) (by rw [HN.out]; exact (text_eq _ s).1 hx) hc9.out)
            have heq : (!(⟨(Lib.itoa (-(v : Int))).toArray⟩ : ByteArray).toList == s.toList) = false := by simp [hx]
            generalize (⟨(Lib.itoa (-(v : Int))).toArray⟩ : ByteArray) = X at HA heq hx
            clear hx
            go_wp2_with (go_at_call 30; refine (HA.out _ HTB.out).mono ?_; rintro e w1 ⟨rfl, hb1⟩)
            go_ret2
            exact ⟨ret_par (a := -(v : Int)) H.out HN.out.symm, hbel.trans (hb1.mono hbel.size)⟩
          · have H := Lib.hid (parI_text (l := s.data.toList) (fun g => hx ((text_eq _ s).2 (by rw [HN.out] at g; exact g))))
            have heq : (!(⟨(Lib.itoa (-(v : Int))).toArray⟩ : ByteArray).toList == s.toList) = true := by rw [Bool.not_eq_true', beq_eq_false_iff_ne]; exact hx
            generalize (⟨(Lib.itoa (-(v : Int))).toArray⟩ : ByteArray) = X at HA heq hx
            clear hx
            go_wp2_with (go_at_call 30; refine (HA.out _ HTB.out).mono ?_; rintro e w1 ⟨rfl, hb1⟩)
            go_ret2
            exact ⟨ret_par H.out rfl, hbel.trans (hb1.mono hbel.size)⟩
        | false =>
          have HA := Lib.hid (fun w h => implFmt (v : Int) w (by omega) (by omega) h)
          have HN := Lib.hid (show sval s.data.toList = (v : Int) by rw [sval_pos HB.out, ← HVD.out])
          by_cases hx : (⟨(Lib.itoa (v : Int)).toArray⟩ : ByteArray).toList = s.toList
          · have H := Lib.hid (parI_ok (l := s.data.toList) (by rw [HN.out]; exact (text_eq _ s).1 hx) hc9.out)
            have heq : (!(⟨(Lib.itoa (v : Int)).toArray⟩ : ByteArray).toList == s.toList) = false := by simp [hx]
            generalize (⟨(Lib.itoa (v : Int)).toArray⟩ : ByteArray) = X at HA heq hx
            clear hx
            go_wp2_with (go_at_call 30; refine (HA.out _ HTB.out).mono ?_; rintro e w1 ⟨rfl, hb1⟩)
            go_ret2
            exact ⟨ret_par (a := (v : Int)) H.out HN.out.symm, hbel.trans (hb1.mono hbel.size)⟩
          · have H := Lib.hid (parI_text (l := s.data.toList) (fun g => hx ((text_eq _ s).2 (by rw [HN.out] at g; exact g))))
            have heq : (!(⟨(Lib.itoa (v : Int)).toArray⟩ : ByteArray).toList == s.toList) = true := by rw [Bool.not_eq_true', beq_eq_false_iff_ne]; exact hx
            generalize (⟨(Lib.itoa (v : Int)).toArray⟩ : ByteArray) = X at HA heq hx
            clear hx
            go_wp2_with (go_at_call 30; refine (HA.out _ HTB.out).mono ?_; rintro e w1 ⟨rfl, hb1⟩)
            go_ret2
            exact ⟨ret_par H.out rfl, hbel.trans (hb1.mono hbel.size)⟩
end Go.Proofs.YtijfnabglblimaaGreatDoor
namespace Go.Proofs.YtijfnabglblimaaGreatDoor.Comma
open Go.RowKit Go.Shelf
attribute [local go_sem] Oper.semAt_some
set_option linter.unusedVariables false
set_option linter.unusedSimpArgs false
theorem boxed_below {W W' : World} {C j : Nat} {t : TypeId} {v : Value} (h : Boxed W j t v) (hj : j < C) (hb : Below C W W') : Boxed W' j t v := (hb.block j hj).trans h
theorem boxed_only {W W' : World} {B hi j : Nat} {t : TypeId} {v : Value} (h : Boxed W j t v) (hj : j < B) (hb : Only B hi W W') : Boxed W' j t v := (hb.block j h.lt (Or.inl hj)).trans h
theorem append_ints_in {F : Fence} {n : Nat} {w : World} {ops : Array Oper} {rest : List Oper} {o : Oper} {a : Act} {Q : Exit → Act → World → Prop} (hgd : o.guard = none) (s x : Operand)
    (ho : o.op = .call { callee := .builtin .append, args := #[s, x], argTypes := #[25, 25] })
    (B : Nat) (v : Value) (xs : List Int) (hs : a.eval s = v) (hown : OwnsN w B v xs) (hB : B ≤ w.heap.size)
    (C : Array Value) (ys : List Int) (m c : Nat) (hx : a.eval x = .slice (some ⟨w.heap.size, 0, none⟩) m c) (hC : C.toList = ys.map (Value.int .i64)) (hm : m = ys.length)
    (h63 : xs.length + ys.length ≤ 17592186044416)
    (h : ∀ v' w', OwnsN w' B v' (xs ++ ys) → Below B w w' → wpListIn F n Tryz.prog ops Q rest (a.put o.dst v') w') : wpListIn F n Tryz.prog ops Q (o :: rest) a (w.alloc (.cells C 3)) := by
  obtain ⟨i0, hi, hz0, hz1, hz2⟩ := info_parts Tryz.infoI64
  subst hm
  refine wpListIn_append_own _ hgd s x 25 ho B 3 i0 (.int .i64 0) 1 8 Tryz.underlying25 hi hz0 hz1 hz2 rfl (by decide) v xs.length _ hs (hown.alloc _) ⟨w.heap.size, 0, none⟩ ys.length c (ys.map (Value.int .i64)) hx (by simp) ?_ (by intro u hu; simp at hu; obtain ⟨y, _, rfl⟩ := hu; rfl) (by unfold maxLen; omega) (by omega) (by simp; omega) ?_
  · intro j u hj
    have e : (⟨w.heap.size, 0, none⟩ : Addr).add j = ⟨w.heap.size, j, none⟩ := by unfold Addr.add; split <;> simp_all
    rw [e, cell_lit]
    rw [← hC] at hj
    simpa using hj
  · intro v' w' h1 h2 _
    refine h v' w' ?_ ?_
    · unfold OwnsN
      simpa using h1
    · exact ((Below.refl B w).alloc hB _).grown h2 (by simp; omega) (fun k hk => (hown.lt k hk).1)
/-- What splitInts answers: a slice of its own, and whether all pieces are numerals. -/
def SplitAns (w : World) (r : Option (List Int)) (e : Ending) (w' : World) : Prop := ∃ v, e = .returned (.tuple #[v, .bool r.isSome]) ∧ OwnsN w' w.heap.size v (r.getD []) ∧ Below w.heap.size w w'
theorem splitAns_yes {w w' : World} {r : Option (List Int)} {ys : List Int} {v : Value} (h : r = some ys) (o : OwnsN w' w.heap.size v ys) (b : Below w.heap.size w w') : SplitAns w r (.returned (.tuple #[v, .bool true])) w' := ⟨v, by rw [h]; rfl, by rw [h]; exact o, b⟩
theorem splitAns_no {w w' : World} {r : Option (List Int)} (h : r = none) (b : Below w.heap.size w w') : SplitAns w r (.returned (.tuple #[.slice none 0 0, .bool false])) w' := ⟨.slice none 0 0, by rw [h]; rfl, by rw [h]; exact ownsN_nil _ _, b⟩
set_option maxHeartbeats 8000000 in
set_option maxRecDepth 100000 in
theorem splitInts_any (l : List UInt8) (w : World) (hl : l.length ≤ 1048576) (hT : Tab w) :
    Calls Tryz.prog 66 #[.string (strB l)] w (SplitAns w (intsGo [] (cutL 44 l))) := by
  refine (callsIn_wide (n := 6)).1 ?_
  refine callsIn_of_wp_marks Tryz.func66 rfl trivial ?_ rfl
  simp only [Tryz.ntmps66, List.size_toArray, List.length_cons, List.length_nil, Nat.reduceAdd, Nat.reduceSub, Array.replicate_succ, Array.replicate_zero, List.push_toArray, List.append_toArray, List.nil_append, List.cons_append]
  gi_wp2_with (refine ⟨trivial, ?_⟩; gi_at_call 92; refine (callsIn_wide.2 (splitSeq0 _ _ _)).mono ?_; rintro e w' ⟨rfl, rfl⟩)
  have HT := Lib.hid hT
  have HQ : Hid (∀ k, ((cutL 44 l).getD k []).length ≤ 1048576) := Lib.hid (fun k => Nat.le_trans (cut_piece 44 l k) hl)
  have HPL := Lib.hid (cut_len 44 l)
  have HL := Lib.hid hl
  have HSP := splitStops 5 (w.heap.size + 1 + 1 + 1) (w.heap.size + 1 + 1 + 1 + 1) (w.heap.size + 1 + 1 + 1 + 2) (by omega) l hl
  obtain ⟨W0, hW0⟩ : ∃ W0, ((((((w.alloc (.cells #[.slice none 0 0] 25)).alloc (.cells #[.bool false] 4)).alloc (.cells #[.slice none 0 0] 25)).alloc (.cells #[.string (strB l)] 9)).alloc (.cells #[.string ⟨#[44]⟩] 9)).alloc (.cells #[.int .i64 0] 3)) = W0 := ⟨_, rfl⟩
  rw [hW0]
  have x0 : Boxed W0 w.heap.size 25 (.slice none 0 0) := by
    have := Boxed.new w 25 (.slice none 0 0)
    rw [← hW0]; exact (((((this.alloc _).alloc _).alloc _).alloc _).alloc _)
  have x1 : Boxed W0 (w.heap.size + 1) 4 (.bool false) := by
    have := Boxed.new (w.alloc (.cells #[.slice none 0 0] 25)) 4 (.bool false)
    simp only [World.size_alloc] at this
    rw [← hW0]; exact ((((this.alloc _).alloc _).alloc _).alloc _)
  have x2 : Boxed W0 (w.heap.size + 1 + 1) 25 (.slice none 0 0) := by
    have := Boxed.new ((w.alloc (.cells #[.slice none 0 0] 25)).alloc (.cells #[.bool false] 4)) 25 (.slice none 0 0)
    simp only [World.size_alloc] at this
    rw [← hW0]; exact (((this.alloc _).alloc _).alloc _)
  have x3 : Boxed W0 (w.heap.size + 1 + 1 + 1) 9 (.string (strB l)) := by
    have := Boxed.new (((w.alloc (.cells #[.slice none 0 0] 25)).alloc (.cells #[.bool false] 4)).alloc (.cells #[.slice none 0 0] 25)) 9 (.string (strB l))
    simp only [World.size_alloc] at this
    rw [← hW0]; exact ((this.alloc _).alloc _)
  have x4 : Boxed W0 (w.heap.size + 1 + 1 + 1 + 1) 9 (.string ⟨#[44]⟩) := by
    have := Boxed.new ((((w.alloc (.cells #[.slice none 0 0] 25)).alloc (.cells #[.bool false] 4)).alloc (.cells #[.slice none 0 0] 25)).alloc (.cells #[.string (strB l)] 9)) 9 (.string ⟨#[44]⟩)
    simp only [World.size_alloc] at this
    rw [← hW0]; exact (this.alloc _)
  have x5 : Boxed W0 (w.heap.size + 1 + 1 + 1 + 2) 3 (.int .i64 0) := by
    have := Boxed.new (((((w.alloc (.cells #[.slice none 0 0] 25)).alloc (.cells #[.bool false] 4)).alloc (.cells #[.slice none 0 0] 25)).alloc (.cells #[.string (strB l)] 9)).alloc (.cells #[.string ⟨#[44]⟩] 9)) 3 (.int .i64 0)
    simp only [World.size_alloc] at this
    rw [← hW0]; exact this
  have xs : W0.heap.size = w.heap.size + 1 + 1 + 1 + 3 := by rw [← hW0]; simp [World.size_alloc]
  have xb : Below w.heap.size w W0 := by
    rw [← hW0]
    exact ((((((Below.refl _ w).alloc (Nat.le_refl _) _).alloc (by simp) _).alloc (by simp; omega) _).alloc (by simp; omega) _).alloc (by simp; omega) _).alloc (by simp; omega) _
  clear hW0 hT hl
  refine rangeSplit (by omega) (w.heap.size + 1 + 1 + 1) l rfl xs HSP x3 x4 x5
    (fun k W => ∃ (ys : List Int) (v : Value), ys.length = k ∧ Hid (intsGo ys ((cutL 44 l).drop k) = intsGo [] (cutL 44 l)) ∧ Boxed W w.heap.size 25 (.slice none 0 0) ∧ Boxed W (w.heap.size + 1) 4 (.bool false) ∧ Boxed W (w.heap.size + 1 + 1) 25 v ∧ OwnsN W (w.heap.size + 1 + 1 + 1 + 5) v ys ∧ Below w.heap.size w W)
    (fun W => Hid (intsGo [] (cutL 44 l) = none) ∧ Boxed W w.heap.size 25 (.slice none 0 0) ∧ Boxed W (w.heap.size + 1) 4 (.bool false) ∧ Below w.heap.size w W)
    ?hI ?hIx ⟨[], .slice none 0 0, rfl, Lib.hid rfl, x0, x1, x2, ownsN_nil _ _, xb⟩
    (fun x => { tmps := #[.string (strB l), undef, .pointer (some ⟨w.heap.size, 0, none⟩), .pointer (some ⟨w.heap.size + 1, 0, none⟩), .pointer (some ⟨w.heap.size + 1 + 1, 0, none⟩), .string (strB x), undef, undef, .string (strB l), .func (.func 135) #[] #[.pointer (some ⟨w.heap.size + 1 + 1 + 1 + 1, 0, none⟩), .pointer (some ⟨w.heap.size + 1 + 1 + 1, 0, none⟩), .pointer (some ⟨w.heap.size + 1 + 1 + 1 + 2, 0, none⟩)], .string (strB x), undef, undef, undef, undef, undef, undef, undef, undef, undef, undef, undef, undef], defers := [] })
    rfl ?assign ?body ?done ?stop
  case hI =>
    rintro k W W' ⟨ys, v, hy, hgo, b0, b1, b2, hown, hbel⟩ hb
    exact ⟨ys, v, hy, hgo, boxed_only b0 (by omega) hb, boxed_only b1 (by omega) hb, boxed_only b2 (by omega) hb, ownsN_only hown hb (Nat.le_refl _), only_below hbel hb (by omega) (by have := b0.lt; omega)⟩
  case hIx =>
    rintro W W' ⟨hgo, b0, b1, hbel⟩ hb
    exact ⟨hgo, boxed_only b0 (by omega) hb, boxed_only b1 (by omega) hb, only_below hbel hb (by omega) (by have := b0.lt; omega)⟩
  case assign =>
    intro L x W K hK
    gi_wp2
    exact hK
  case body =>
    rintro L k W hk h8 ⟨ys, v, hy, hgo, b0, b1, b2, hown, hbel⟩
    clear x0 x1 x2 x3 x4 x5 xs xb HSP
    have hQ := HQ.out k
    have hkl : ys.length + 1 ≤ 17592186044416 := by have := HPL.out; have := HL.out; omega
    have HY := Lib.hid hy
    have HITK : Hid ((parI ((cutL 44 l).getD k [])).2 = true → intsGo (ys ++ [(parI ((cutL 44 l).getD k [])).1]) ((cutL 44 l).drop (k + 1)) = intsGo [] (cutL 44 l)) := Lib.hid (fun h => by rw [← intsGo_hit hk h]; exact hgo.out)
    have HMISS : Hid ((parI ((cutL 44 l).getD k [])).2 = false → intsGo [] (cutL 44 l) = none) := Lib.hid (fun h => by rw [← hgo.out]; exact intsGo_miss hk h)
    clear hgo hy
    generalize (cutL 44 l).getD k [] = q at *
    have HRUN := Lib.hid (implPar (strB q) W (by rw [strB_size]; exact hQ) (HT.out.on hbel))
    have eq : (strB q).data.toList = q := rfl
    rw [eq] at HRUN
    clear eq
    obtain ⟨pn, hpn⟩ : ∃ pn, (parI q).1 = pn := ⟨_, rfl⟩
    rw [hpn] at HRUN HITK
    clear hpn
    cases hpo : (parI q).2 with
    | true =>
      have HG := Lib.hid (HITK.out hpo)
      rw [hpo] at HRUN
      clear hpo HITK HMISS hQ
      gi_wp2_with (first | (refine ⟨trivial, ?_⟩; gi_at_call 90; refine (CallsIn.inRound L (callsIn_wide.2 HRUN.out)).mono ?_; rintro e w1 ⟨rfl, hb⟩; have k0 := boxed_below b0 (by omega) hb; have k1 := boxed_below b1 (by omega) hb; have k2 := boxed_below b2 (by omega) hb; have c2 := k2.cell; have o1 := ownsN_below hown hb; have z1 := hb.size) | (gi_at_builtin; refine append_ints_in rfl _ _ rfl (w.heap.size + 1 + 1 + 1 + 5) _ ys rfl o1 (by omega) _ [pn] 1 _ rfl rfl rfl (by simpa using hkl) ?_; intro u w2 o2 h2; have j0 := boxed_below k0 (by omega) h2; have j1 := boxed_below k1 (by omega) h2; have j2 := boxed_below k2 (by omega) h2; have d2 := j2.cell; have f2 := j2.frozen; obtain ⟨ua, ucap, rfl⟩ := ints_len (ownsN_ints o2)))
      have o3 : OwnsN w2 (w.heap.size + 1 + 1 + 1 + 5) (.slice ua (ys.length + 1) ucap) (ys ++ [pn]) := by simpa using o2
      exact ⟨((stays_below hb).trans (stays_hi h2 (by omega))).trans (stays_set (by omega) _), ys ++ [pn], .slice ua (ys.length + 1) ucap, by have := HY.out; simp; omega, HG, j0.other (by omega) _, j1.other (by omega) _, j2.set _, ownsN_low o3 (by omega) 0 _, ((hbel.trans (hb.mono (by omega))).trans (h2.mono (by omega))).setCell (p := ⟨_, 0, none⟩) (by simp; omega) _⟩
    | false =>
      have HG := Lib.hid (HMISS.out hpo)
      rw [hpo] at HRUN
      clear hpo HITK HMISS hQ
      gi_wp2_with (refine ⟨trivial, ?_⟩; gi_at_call 90; refine (CallsIn.inRound L (callsIn_wide.2 HRUN.out)).mono ?_; rintro e w1 ⟨rfl, hb⟩; have k0 := boxed_below b0 (by omega) hb; have k1 := boxed_below b1 (by omega) hb; have c0 := k0.cell; have f0 := k0.frozen; have c1 := k1.cell; have f1 := k1.frozen)
      exact ⟨((stays_below hb).trans (stays_set (by omega) _)).trans (stays_set (by omega) _), HG, (k0.set _).other (by omega) _, (k1.other (by omega) _).set _, ((hbel.trans (hb.mono (by omega))).setCell (p := ⟨_, 0, none⟩) (by simp) _).setCell (p := ⟨_, 0, none⟩) (by simp) _⟩
  case done =>
    rintro D W hD hD5 ⟨ys, v, hy, hgo, b0, b1, b2, hown, hbel⟩ hK
    clear x0 x1 x2 x3 x4 x5 xs xb HSP
    have HA : Hid (intsGo [] (cutL 44 l) = some ys) := Lib.hid (by have := hgo.out; rw [List.drop_eq_nil_of_le (Nat.le_refl _)] at this; exact this.symm)
    obtain ⟨va, vcap, rfl⟩ := ints_len (ownsN_ints hown)
    have c0 := b0.cell
    have f0 := b0.frozen
    have c1 := b1.cell
    have f1 := b1.frozen
    have c2 := b2.cell
    clear hgo hy
    gi_wp2
    have k0 := (b0.set (.slice va ys.length vcap)).other (B' := w.heap.size + 1) (by omega) (.bool true)
    have k1 := (b1.other (B' := w.heap.size) (by omega) (.slice va ys.length vcap)).set (.bool true)
    have hKD : ((W.setCell ⟨w.heap.size, 0, none⟩ (.slice va ys.length vcap)).setCell ⟨w.heap.size + 1, 0, none⟩ (.bool true)).heap[D]? = some (.deferred (some [])) :=
      ((Below.heap_setCell _ _ _ D (by simp; omega)).trans (Below.heap_setCell _ _ _ D (by simp; omega))).trans hK
    have hbel5 : Below w.heap.size w ((W.setCell ⟨w.heap.size, 0, none⟩ (.slice va ys.length vcap)).setCell ⟨w.heap.size + 1, 0, none⟩ (.bool true)) := (hbel.setCell (p := ⟨w.heap.size, 0, none⟩) (by simp) _).setCell (p := ⟨w.heap.size + 1, 0, none⟩) (by simp) _
    have o5 := ownsN_low (ownsN_low hown (b := w.heap.size) (by omega) 0 (.slice va ys.length vcap)) (b := w.heap.size + 1) (by omega) 0 (.bool true)
    clear c0 f0 c1 f1 c2 hK hbel b0 b1 b2 hown
    generalize (W.setCell ⟨w.heap.size, 0, none⟩ (.slice va ys.length vcap)).setCell ⟨w.heap.size + 1, 0, none⟩ (.bool true) = W5 at *
    refine ⟨by simp, .inl ⟨_, _, rfl, run_takeDeferred hKD, ?_⟩⟩
    have hput := only_put (B := w.heap.size + 1 + 1 + 1) W5 (.deferred none) hKD hD hD5
    have e0 := (boxed_only k0 (by omega) hput).cell
    have e1 := (boxed_only k1 (by omega) hput).cell
    refine ⟨_, ?_, splitAns_yes HA.out (ownsN_up (ownsN_only o5 hput (Nat.le_refl _)) (by omega)) (only_below hbel5 hput (by omega) (by have := k0.lt; omega))⟩
    simp [results, Tryz.f66, go_sem, e0, e1]
  case stop =>
    rintro D W hD hD5 ⟨hgo, b0, b1, hbel⟩ hK
    clear x0 x1 x2 x3 x4 x5 xs xb HSP
    gi_wp2
    refine ⟨by simp, .inl ⟨_, _, rfl, run_takeDeferred hK, ?_⟩⟩
    have hput := only_put (B := w.heap.size + 1 + 1 + 1) W (.deferred none) hK hD hD5
    have e0 := (boxed_only b0 (by omega) hput).cell
    have e1 := (boxed_only b1 (by omega) hput).cell
    refine ⟨_, ?_, splitAns_no hgo.out (only_below hbel hput (by omega) (by have := b0.lt; omega))⟩
    simp [results, Tryz.f66, go_sem, e0, e1]
end Go.Proofs.YtijfnabglblimaaGreatDoor.Comma
namespace Go.Proofs.YtijfnabglblimaaGreatDoor
open Go.RowKit
set_option linter.unusedVariables false
end Go.Proofs.YtijfnabglblimaaGreatDoor
namespace Go.Proofs.YtijfnabglblimaaGreatDoor
open Go.RowKit
set_option linter.unusedVariables false
set_option linter.unusedSimpArgs false
/-- What was there, but the block R, lies as it lay; blocks from C on may be written. -/
structure Rowed (R C : Nat) (W W' : World) : Prop where
  os : W'.os = W.os
  tape : W'.tape = W.tape
  output : W'.output = W.output
  size : W.heap.size ≤ W'.heap.size
  block : ∀ k, k < C → k ≠ R → W'.heap[k]? = W.heap[k]?
theorem Rowed.refl (R C : Nat) (W : World) : Rowed R C W W := ⟨rfl, rfl, rfl, Nat.le_refl _, fun _ _ _ => rfl⟩
theorem Rowed.below {R C D : Nat} {a b c : World} (h : Rowed R C a b) (k : Below D b c) (hD : C ≤ D) : Rowed R C a c := ⟨k.os.trans h.os, k.tape.trans h.tape, k.output.trans h.output, Nat.le_trans h.size k.size, fun i hi hn => (k.block i (by omega)).trans (h.block i hi hn)⟩
theorem Rowed.set {R C : Nat} {a b : World} (h : Rowed R C a b) (j : Nat) (v : Value) : Rowed R C a (b.setCell ⟨R, j, none⟩ v) := ⟨h.os, h.tape, h.output, by simpa [World.setCell] using h.size, fun i hi hn => (Below.heap_setCell b _ v i (by simpa using hn)).trans (h.block i hi hn)⟩
theorem Rowed.all {R C D : Nat} {a b c : World} (h : Rowed R C b c) (k : Below D a b) (hD : D ≤ R) (hC : D ≤ C) : Below D a c := ⟨h.os.trans k.os, h.tape.trans k.tape, h.output.trans k.output, Nat.le_trans k.size h.size, fun i hi => (h.block i (by omega) (by omega)).trans (k.block i hi)⟩
def ParAnsQ (w : World) (p : QD × Bool) (e : Ending) (w' : World) : Prop :=
  ∃ cv ov, e = .returned (.tuple #[qV p.1.1 p.1.2.1 cv ov, .bool p.2]) ∧ OwnsC w' w.heap.size cv p.1.2.2.1 ∧ OwnsN w' w.heap.size ov p.1.2.2.2 ∧ (∀ b, cv.ownBlock = some b → ov.ownBlock ≠ some b) ∧ Below w.heap.size w w'
theorem parAnsQ_no {w w' : World} {p : QD × Bool} (h : p = (q0D, false)) (b : Below w.heap.size w w') : ParAnsQ w p (.returned (.tuple #[qV 0 0 (.slice none 0 0) (.slice none 0 0), .bool false])) w' :=
  ⟨.slice none 0 0, .slice none 0 0, by rw [h]; rfl, by rw [h]; exact ownsC_nil _ _, by rw [h]; exact ownsN_nil _ _, fun b hb => by simp [Value.ownBlock] at hb, b⟩
theorem parAnsQ_yes {w w' : World} {p : QD × Bool} {id tn : Int} {cs : List CondD} {os : List Int} {cv ov : Value} (h : p = ((id, tn, cs, os), true)) (o : OwnsC w' w.heap.size cv cs) (n : OwnsN w' w.heap.size ov os) (d : ∀ b, cv.ownBlock = some b → ov.ownBlock ≠ some b) (b : Below w.heap.size w w') :
    ParAnsQ w p (.returned (.tuple #[qV id tn cv ov, .bool true])) w' := ⟨cv, ov, by rw [h], by rw [h]; exact o, by rw [h]; exact n, d, b⟩
end Go.Proofs.YtijfnabglblimaaGreatDoor
