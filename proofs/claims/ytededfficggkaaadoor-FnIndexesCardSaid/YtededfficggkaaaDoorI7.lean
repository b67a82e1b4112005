/-
 Texts of the proof, merged: MatchSpec.
-/
import Derived.Test.YtededfficggkaaaDoorI2
import Derived.Test.YtededfficggkaaaDoorI5
namespace Go.Proofs.YtededfficggkaaaDoor
open Go.RowKit
set_option linter.unusedVariables false
set_option linter.unusedSimpArgs false
/-- The value of the condition's field lies between its bounds. -/
def okC (xs : List Int) (c : CondD) : Bool := decide (c.2.1 ≤ xs.getD c.1.toNat 0 ∧ xs.getD c.1.toNat 0 ≤ c.2.2)
def matchB (id tn : Int) (cs : List CondD) (os : List Int) (r : RowD) : Bool := rowB r && (queryB id tn cs os && cs.all (okC r.2))
theorem query_conds {id tn : Int} {cs : List CondD} {os : List Int} (h : queryB id tn cs os = true) {k : Nat} (hk : k < cs.length) : 0 ≤ (cs.getD k c0D).1 ∧ (cs.getD k c0D).1 ≤ 2 := by
 unfold queryB at h
 simp only [Bool.and_eq_true] at h
 have h1 := h.1
 unfold condsB at h1
 rw [List.all_eq_true] at h1
 have := h1 k (List.mem_range.2 hk)
 rw [Bool.and_eq_true] at this
 have h2 := this.1
 unfold condB at h2
 simp only [Bool.and_eq_true, decide_eq_true_eq] at h2
 exact h2.1
theorem row_len {r : RowD} (h : rowB r = true) : r.2.length = 3 := by
 unfold rowB at h
 simp only [Bool.and_eq_true, decide_eq_true_eq] at h
 exact h.2.2
theorem all_bad {xs : List Int} {cs : List CondD} {k : Nat} (hk : k < cs.length) (h : okC xs (cs.getD k c0D) = false) : cs.all (okC xs) = false := by
 rw [Bool.eq_false_iff]
 intro g
 rw [List.all_eq_true] at g
 have e : cs.getD k c0D = cs[k] := by simp [List.getD, hk]
 rw [e, g _ (List.getElem_mem hk)] at h
 exact Bool.noConfusion h
theorem all_ok {xs : List Int} {cs : List CondD} (h : ∀ k, k < cs.length → okC xs (cs.getD k c0D) = true) : cs.all (okC xs) = true := by
 rw [List.all_eq_true]
 intro c hc
 obtain ⟨k, hk, rfl⟩ := List.getElem_of_mem hc
 have := h k hk
 have e : cs.getD k c0D = cs[k] := by simp [List.getD, hk]
 rwa [e] at this
theorem qr_boxes {W w : World} {g : Nat} {a b c d x y : Value} (g0 : W.heap[g]? = some (.cells #[a, b, c, d] 63 (0, 0))) (g1 : W.heap[g + 1]? = some (.cells #[x, y] 51 (0, 0))) (hz : g + 1 < W.heap.size) (hb : Below W.heap.size W w) :
  w.cell? ⟨g, 0, none⟩ = some a ∧ w.cell? ⟨g, 1, none⟩ = some b ∧ w.cell? ⟨g, 2, none⟩ = some c ∧ w.cell? ⟨g, 3, none⟩ = some d ∧ w.cell? ⟨g + 1, 0, none⟩ = some x ∧ w.cell? ⟨g + 1, 1, none⟩ = some y := by
 have h0 := (hb.block g (by omega)).trans g0
 have h1 := (hb.block (g + 1) hz).trans g1
 exact ⟨(cell_of_row w _ 0 _ _ _ h0).trans rfl, (cell_of_row w _ 1 _ _ _ h0).trans rfl, (cell_of_row w _ 2 _ _ _ h0).trans rfl, (cell_of_row w _ 3 _ _ _ h0).trans rfl, (cell_of_row w _ 0 _ _ _ h1).trans rfl, (cell_of_row w _ 1 _ _ _ h1).trans rfl⟩
set_option maxHeartbeats 16000000 in
set_option maxRecDepth 100000 in
theorem specMatch_noRow (id tn rid : Int) (cv ov vv : Value) (cs : List CondD) (os xs : List Int) (w : World) (h : CondsR w cv cs) (hn : cs.length ≤ 1048576) (g : Ints w ov os) (hm : os.length ≤ 1048576) (gr : Ints w vv xs) (hx : xs.length ≤ 1048576) (hr : rowB (rid, xs) = false) :
  Calls Tryd.prog 42 #[qV id tn cv ov, .agg #[.int .i64 rid, vv]] w fun e w' => e = .returned (.bool (matchB id tn cs os (rid, xs))) ∧ Below w.heap.size w w' := by
 obtain ⟨ca, ccap, rfl⟩ := condsR_len h
 obtain ⟨oa, ocap, rfl⟩ := ints_len g
 obtain ⟨va, vcap, rfl⟩ := ints_len gr
 have hb0 : Below w.heap.size w ((w.alloc (.cells #[.int .i64 id, .int .i64 tn, .slice ca cs.length ccap, .slice oa os.length ocap] 63)).alloc (.cells #[.int .i64 rid, .slice va xs.length vcap] 51)) := ((Below.refl _ w).alloc (Nat.le_refl _) _).alloc (by simp) _
 have HG1 : Hid (((w.alloc (.cells #[.int .i64 id, .int .i64 tn, .slice ca cs.length ccap, .slice oa os.length ocap] 63)).alloc (.cells #[.int .i64 rid, .slice va xs.length vcap] 51)).heap[w.heap.size + 1]? = some (.cells #[.int .i64 rid, .slice va xs.length vcap] 51 (0, 0))) := Lib.hid (by
  have := heap_alloc_new (w.alloc (.cells #[.int .i64 id, .int .i64 tn, .slice ca cs.length ccap, .slice oa os.length ocap] 63)) (.cells #[.int .i64 rid, .slice va xs.length vcap] 51)
  simpa only [World.size_alloc] using this)
 have HG0 : Hid (((w.alloc (.cells #[.int .i64 id, .int .i64 tn, .slice ca cs.length ccap, .slice oa os.length ocap] 63)).alloc (.cells #[.int .i64 rid, .slice va xs.length vcap] 51)).heap[w.heap.size]? = some (.cells #[.int .i64 id, .int .i64 tn, .slice ca cs.length ccap, .slice oa os.length ocap] 63 (0, 0))) := Lib.hid (by
  rw [Below.heap_alloc _ _ _ (by simp)]
  exact heap_alloc_new w _)
 have HZ : Hid (w.heap.size + 1 < ((w.alloc (.cells #[.int .i64 id, .int .i64 tn, .slice ca cs.length ccap, .slice oa os.length ocap] 63)).alloc (.cells #[.int .i64 rid, .slice va xs.length vcap] 51)).heap.size) := Lib.hid (by simp)
 have HB0 := Lib.hid hb0
 have HC := Lib.hid (condsR_below h hb0)
 have HO := Lib.hid (ints_below g hb0)
 have HX := Lib.hid (ints_below gr hb0)
 have HR := Lib.hid (fun w h => specIsRow rid (.slice va xs.length vcap) xs w h hx)
 have HQ := Lib.hid (fun w h g => specIsQuery id tn (.slice ca cs.length ccap) (.slice oa os.length ocap) cs os w h hn g hm)
 have HF : Hid (matchB id tn cs os (rid, xs) = false) := Lib.hid (by unfold matchB; rw [hr]; simp)
 rw [hr] at HR
 clear hr
 clear h g hm gr hx hb0
 go_enter Tryd.func42, Tryd.ntmps42
 go_wp2
 generalize ((w.alloc (.cells #[.int .i64 id, .int .i64 tn, .slice ca cs.length ccap, .slice oa os.length ocap] 63)).alloc (.cells #[.int .i64 rid, .slice va xs.length vcap] 51)) = W at *
 go_loopw [5] (fun i wr => ∃ k : Nat, k ≤ cs.length ∧ i = .int .i64 k ∧ k = 0 ∧ Below W.heap.size W wr) (fun i _ => cs.length - (intOf i).toNat)
 case atStart => exact ⟨0, Nat.zero_le _, rfl, rfl, Below.refl _ _⟩
 case round =>
  obtain ⟨k, hk, rfl, hk0, hbel⟩ := hrel
  subst hk0
  obtain ⟨p0, p1, p2, p3, r0, r1⟩ := qr_boxes HG0.out HG1.out HZ.out hbel
  by_cases hlt : 0 < cs.length
  ·
   have i2 : (0 : Int) < (cs.length : Int) := by omega
   go_wp2_with fail
   refine (HR.out _ (ints_below HX.out hbel)).mono ?_
   rintro e u1 ⟨rfl, bu1⟩
   have cu1 := hbel.trans (bu1.mono hbel.size)
   clear p0 p1 p2 p3 r0 r1 bu1
   obtain ⟨p0, p1, p2, p3, r0, r1⟩ := qr_boxes HG0.out HG1.out HZ.out cu1
   go_wp2_with fail
   refine (HR.out _ (ints_below HX.out cu1)).mono ?_
   rintro e u3 ⟨rfl, bu3⟩
   have cu3 := cu1.trans (bu3.mono cu1.size)
   clear p0 p1 p2 p3 r0 r1 bu3
   obtain ⟨p0, p1, p2, p3, r0, r1⟩ := qr_boxes HG0.out HG1.out HZ.out cu3
   go_wp2
   go_ret
   exact ⟨ret_b HF.out.symm, HB0.out.trans (cu3.mono HB0.out.size)⟩
  ·
   have i2 : ¬ (0 : Int) < (cs.length : Int) := by omega
   go_wp2_with fail
   refine (HR.out _ (ints_below HX.out hbel)).mono ?_
   rintro e u3 ⟨rfl, bu3⟩
   have cu3 := hbel.trans (bu3.mono hbel.size)
   clear p0 p1 p2 p3 r0 r1 bu3
   obtain ⟨p0, p1, p2, p3, r0, r1⟩ := qr_boxes HG0.out HG1.out HZ.out cu3
   go_wp2
   go_ret
   exact ⟨ret_b HF.out.symm, HB0.out.trans (cu3.mono HB0.out.size)⟩
set_option maxHeartbeats 16000000 in
set_option maxRecDepth 100000 in
theorem specMatch_noQuery (id tn rid : Int) (cv ov vv : Value) (cs : List CondD) (os xs : List Int) (w : World) (h : CondsR w cv cs) (hn : cs.length ≤ 1048576) (g : Ints w ov os) (hm : os.length ≤ 1048576) (gr : Ints w vv xs) (hx : xs.length ≤ 1048576) (hr : rowB (rid, xs) = true) (hq : queryB id tn cs os = false) :
  Calls Tryd.prog 42 #[qV id tn cv ov, .agg #[.int .i64 rid, vv]] w fun e w' => e = .returned (.bool (matchB id tn cs os (rid, xs))) ∧ Below w.heap.size w w' := by
 obtain ⟨ca, ccap, rfl⟩ := condsR_len h
 obtain ⟨oa, ocap, rfl⟩ := ints_len g
 obtain ⟨va, vcap, rfl⟩ := ints_len gr
 have hb0 : Below w.heap.size w ((w.alloc (.cells #[.int .i64 id, .int .i64 tn, .slice ca cs.length ccap, .slice oa os.length ocap] 63)).alloc (.cells #[.int .i64 rid, .slice va xs.length vcap] 51)) := ((Below.refl _ w).alloc (Nat.le_refl _) _).alloc (by simp) _
 have HG1 : Hid (((w.alloc (.cells #[.int .i64 id, .int .i64 tn, .slice ca cs.length ccap, .slice oa os.length ocap] 63)).alloc (.cells #[.int .i64 rid, .slice va xs.length vcap] 51)).heap[w.heap.size + 1]? = some (.cells #[.int .i64 rid, .slice va xs.length vcap] 51 (0, 0))) := Lib.hid (by
  have := heap_alloc_new (w.alloc (.cells #[.int .i64 id, .int .i64 tn, .slice ca cs.length ccap, .slice oa os.length ocap] 63)) (.cells #[.int .i64 rid, .slice va xs.length vcap] 51)
  simpa only [World.size_alloc] using this)
 have HG0 : Hid (((w.alloc (.cells #[.int .i64 id, .int .i64 tn, .slice ca cs.length ccap, .slice oa os.length ocap] 63)).alloc (.cells #[.int .i64 rid, .slice va xs.length vcap] 51)).heap[w.heap.size]? = some (.cells #[.int .i64 id, .int .i64 tn, .slice ca cs.length ccap, .slice oa os.length ocap] 63 (0, 0))) := Lib.hid (by
  rw [Below.heap_alloc _ _ _ (by simp)]
  exact heap_alloc_new w _)
 have HZ : Hid (w.heap.size + 1 < ((w.alloc (.cells #[.int .i64 id, .int .i64 tn, .slice ca cs.length ccap, .slice oa os.length ocap] 63)).alloc (.cells #[.int .i64 rid, .slice va xs.length vcap] 51)).heap.size) := Lib.hid (by simp)
 have HB0 := Lib.hid hb0
 have HC := Lib.hid (condsR_below h hb0)
 have HO := Lib.hid (ints_below g hb0)
 have HX := Lib.hid (ints_below gr hb0)
 have HR := Lib.hid (fun w h => specIsRow rid (.slice va xs.length vcap) xs w h hx)
 have HQ := Lib.hid (fun w h g => specIsQuery id tn (.slice ca cs.length ccap) (.slice oa os.length ocap) cs os w h hn g hm)
 have HF : Hid (matchB id tn cs os (rid, xs) = false) := Lib.hid (by unfold matchB; rw [hq]; simp)
 rw [hr] at HR
 rw [hq] at HQ
 clear hr hq
 clear h g hm gr hx hb0
 go_enter Tryd.func42, Tryd.ntmps42
 go_wp2
 generalize ((w.alloc (.cells #[.int .i64 id, .int .i64 tn, .slice ca cs.length ccap, .slice oa os.length ocap] 63)).alloc (.cells #[.int .i64 rid, .slice va xs.length vcap] 51)) = W at *
 go_loopw [5] (fun i wr => ∃ k : Nat, k ≤ cs.length ∧ i = .int .i64 k ∧ k = 0 ∧ Below W.heap.size W wr) (fun i _ => cs.length - (intOf i).toNat)
 case atStart => exact ⟨0, Nat.zero_le _, rfl, rfl, Below.refl _ _⟩
 case round =>
  obtain ⟨k, hk, rfl, hk0, hbel⟩ := hrel
  subst hk0
  obtain ⟨p0, p1, p2, p3, r0, r1⟩ := qr_boxes HG0.out HG1.out HZ.out hbel
  by_cases hlt : 0 < cs.length
  ·
   have i2 : (0 : Int) < (cs.length : Int) := by omega
   go_wp2_with fail
   refine (HR.out _ (ints_below HX.out hbel)).mono ?_
   rintro e u1 ⟨rfl, bu1⟩
   have cu1 := hbel.trans (bu1.mono hbel.size)
   clear p0 p1 p2 p3 r0 r1 bu1
   obtain ⟨p0, p1, p2, p3, r0, r1⟩ := qr_boxes HG0.out HG1.out HZ.out cu1
   go_wp2_with fail
   refine (HQ.out _ (condsR_below HC.out cu1) (ints_below HO.out cu1)).mono ?_
   rintro e u2 ⟨rfl, bu2⟩
   have cu2 := cu1.trans (bu2.mono cu1.size)
   clear p0 p1 p2 p3 r0 r1 bu2
   obtain ⟨p0, p1, p2, p3, r0, r1⟩ := qr_boxes HG0.out HG1.out HZ.out cu2
   go_wp2_with fail
   refine (HR.out _ (ints_below HX.out cu2)).mono ?_
   rintro e u3 ⟨rfl, bu3⟩
   have cu3 := cu2.trans (bu3.mono cu2.size)
   clear p0 p1 p2 p3 r0 r1 bu3
   obtain ⟨p0, p1, p2, p3, r0, r1⟩ := qr_boxes HG0.out HG1.out HZ.out cu3
   go_wp2_with fail
   refine (HQ.out _ (condsR_below HC.out cu3) (ints_below HO.out cu3)).mono ?_
   rintro e u4 ⟨rfl, bu4⟩
   have cu4 := cu3.trans (bu4.mono cu3.size)
   clear p0 p1 p2 p3 r0 r1 bu4
   obtain ⟨p0, p1, p2, p3, r0, r1⟩ := qr_boxes HG0.out HG1.out HZ.out cu4
   go_wp2
   go_ret
   exact ⟨ret_b HF.out.symm, HB0.out.trans (cu4.mono HB0.out.size)⟩
  ·
   have i2 : ¬ (0 : Int) < (cs.length : Int) := by omega
   go_wp2_with fail
   refine (HR.out _ (ints_below HX.out hbel)).mono ?_
   rintro e u3 ⟨rfl, bu3⟩
   have cu3 := hbel.trans (bu3.mono hbel.size)
   clear p0 p1 p2 p3 r0 r1 bu3
   obtain ⟨p0, p1, p2, p3, r0, r1⟩ := qr_boxes HG0.out HG1.out HZ.out cu3
   go_wp2_with fail
   refine (HQ.out _ (condsR_below HC.out cu3) (ints_below HO.out cu3)).mono ?_
   rintro e u4 ⟨rfl, bu4⟩
   have cu4 := cu3.trans (bu4.mono cu3.size)
   clear p0 p1 p2 p3 r0 r1 bu4
   obtain ⟨p0, p1, p2, p3, r0, r1⟩ := qr_boxes HG0.out HG1.out HZ.out cu4
   go_wp2
   go_ret
   exact ⟨ret_b HF.out.symm, HB0.out.trans (cu4.mono HB0.out.size)⟩
set_option maxHeartbeats 16000000 in
set_option maxRecDepth 100000 in
theorem specMatch_both (id tn rid : Int) (cv ov vv : Value) (cs : List CondD) (os xs : List Int) (w : World) (h : CondsR w cv cs) (hn : cs.length ≤ 1048576) (g : Ints w ov os) (hm : os.length ≤ 1048576) (gr : Ints w vv xs) (hx : xs.length ≤ 1048576) (hr : rowB (rid, xs) = true) (hq : queryB id tn cs os = true) :
  Calls Tryd.prog 42 #[qV id tn cv ov, .agg #[.int .i64 rid, vv]] w fun e w' => e = .returned (.bool (matchB id tn cs os (rid, xs))) ∧ Below w.heap.size w w' := by
 obtain ⟨ca, ccap, rfl⟩ := condsR_len h
 obtain ⟨oa, ocap, rfl⟩ := ints_len g
 obtain ⟨va, vcap, rfl⟩ := ints_len gr
 have hb0 : Below w.heap.size w ((w.alloc (.cells #[.int .i64 id, .int .i64 tn, .slice ca cs.length ccap, .slice oa os.length ocap] 63)).alloc (.cells #[.int .i64 rid, .slice va xs.length vcap] 51)) := ((Below.refl _ w).alloc (Nat.le_refl _) _).alloc (by simp) _
 have HG1 : Hid (((w.alloc (.cells #[.int .i64 id, .int .i64 tn, .slice ca cs.length ccap, .slice oa os.length ocap] 63)).alloc (.cells #[.int .i64 rid, .slice va xs.length vcap] 51)).heap[w.heap.size + 1]? = some (.cells #[.int .i64 rid, .slice va xs.length vcap] 51 (0, 0))) := Lib.hid (by
  have := heap_alloc_new (w.alloc (.cells #[.int .i64 id, .int .i64 tn, .slice ca cs.length ccap, .slice oa os.length ocap] 63)) (.cells #[.int .i64 rid, .slice va xs.length vcap] 51)
  simpa only [World.size_alloc] using this)
 have HG0 : Hid (((w.alloc (.cells #[.int .i64 id, .int .i64 tn, .slice ca cs.length ccap, .slice oa os.length ocap] 63)).alloc (.cells #[.int .i64 rid, .slice va xs.length vcap] 51)).heap[w.heap.size]? = some (.cells #[.int .i64 id, .int .i64 tn, .slice ca cs.length ccap, .slice oa os.length ocap] 63 (0, 0))) := Lib.hid (by
  rw [Below.heap_alloc _ _ _ (by simp)]
  exact heap_alloc_new w _)
 have HZ : Hid (w.heap.size + 1 < ((w.alloc (.cells #[.int .i64 id, .int .i64 tn, .slice ca cs.length ccap, .slice oa os.length ocap] 63)).alloc (.cells #[.int .i64 rid, .slice va xs.length vcap] 51)).heap.size) := Lib.hid (by simp)
 have HB0 := Lib.hid hb0
 have HC := Lib.hid (condsR_below h hb0)
 have HO := Lib.hid (ints_below g hb0)
 have HX := Lib.hid (ints_below gr hb0)
 have HR := Lib.hid (fun w h => specIsRow rid (.slice va xs.length vcap) xs w h hx)
 have HQ := Lib.hid (fun w h g => specIsQuery id tn (.slice ca cs.length ccap) (.slice oa os.length ocap) cs os w h hn g hm)
 have HCD := Lib.hid (fun (k : Nat) (hk : k < cs.length) => query_conds hq hk)
 have HLN := Lib.hid (row_len hr)
 simp only at HLN
 have HFB : Hid (∀ b, cs.all (okC xs) = b → matchB id tn cs os (rid, xs) = b) := Lib.hid (fun b h => by unfold matchB; rw [hr, hq, h]; simp)
 rw [hr] at HR
 rw [hq] at HQ
 clear hr hq
 clear h g hm gr hx hb0
 go_enter Tryd.func42, Tryd.ntmps42
 go_wp2
 generalize ((w.alloc (.cells #[.int .i64 id, .int .i64 tn, .slice ca cs.length ccap, .slice oa os.length ocap] 63)).alloc (.cells #[.int .i64 rid, .slice va xs.length vcap] 51)) = W at *
 go_loopw [5] (fun i wr => ∃ k : Nat, k ≤ cs.length ∧ i = .int .i64 k ∧ Hid (∀ j, j < k → okC xs (cs.getD j c0D) = true) ∧ Below W.heap.size W wr) (fun i _ => cs.length - (intOf i).toNat)
 case atStart => exact ⟨0, Nat.zero_le _, rfl, Lib.hid (fun j hj => by omega), Below.refl _ _⟩
 case round =>
  obtain ⟨k, hk, rfl, hall, hbel⟩ := hrel
  obtain ⟨p0, p1, p2, p3, r0, r1⟩ := qr_boxes HG0.out HG1.out HZ.out hbel
  by_cases hlt : k < cs.length
  ·
   have i1 : (0 : Int) ≤ (k : Int) := by omega
   have i2 : (k : Int) < (cs.length : Int) := by omega
   go_wp2_with fail
   refine (HR.out _ (ints_below HX.out hbel)).mono ?_
   rintro e u1 ⟨rfl, bu1⟩
   have cu1 := hbel.trans (bu1.mono hbel.size)
   clear p0 p1 p2 p3 r0 r1 bu1
   obtain ⟨p0, p1, p2, p3, r0, r1⟩ := qr_boxes HG0.out HG1.out HZ.out cu1
   go_wp2_with fail
   refine (HQ.out _ (condsR_below HC.out cu1) (ints_below HO.out cu1)).mono ?_
   rintro e u2 ⟨rfl, bu2⟩
   have cu2 := cu1.trans (bu2.mono cu1.size)
   clear p0 p1 p2 p3 r0 r1 bu2
   obtain ⟨p0, p1, p2, p3, r0, r1⟩ := qr_boxes HG0.out HG1.out HZ.out cu2
   obtain ⟨bc, offc, capc, hvc, hblc, d1, d2, d3⟩ := condsR_at (condsR_below HC.out cu2) hlt
   simp only [Value.slice.injEq] at hvc
   obtain ⟨rfl, _, rfl⟩ := hvc
   have hcd := HCD.out k hlt
   have hok : okC xs (cs.getD k c0D) = true → Hid (∀ j, j < k + 1 → okC xs (cs.getD j c0D) = true) := fun h => Lib.hid (fun j hj => by
    by_cases e : j = k
    ·
     subst e; exact h
    ·
     exact hall.out j (by omega))
   have hno : okC xs (cs.getD k c0D) = false → Hid (matchB id tn cs os (rid, xs) = false) := fun h => Lib.hid (HFB.out _ (all_bad hlt h))
   have HOK := Lib.hid hok
   have HNO := Lib.hid hno
   clear hok hno hall cu1 hbel
   generalize cs.getD k c0D = c at *
   obtain ⟨f, lo, hi⟩ := c
   simp only at d1 d2 d3 hcd
   obtain ⟨fn, rfl⟩ := Int.eq_ofNat_of_zero_le hcd.1
   have hfn : fn < xs.length := by have := HLN.out; omega
   obtain ⟨bx, offx, capx, hvx, hblx, hcx⟩ := ints_cell (ints_below HX.out cu2) (by omega)
   simp only [Value.slice.injEq] at hvx
   obtain ⟨rfl, _, rfl⟩ := hvx
   have x0 := hcx fn hfn
   have j1 : (0 : Int) ≤ (fn : Int) := by omega
   have j2 : (fn : Int) < (xs.length : Int) := by omega
   have ho : okC xs ((fn : Int), lo, hi) = decide (lo ≤ xs.getD fn 0 ∧ xs.getD fn 0 ≤ hi) := by unfold okC; simp
   rw [ho] at HOK HNO
   clear hcx ho hcd
   generalize xs.getD fn 0 = x at *
   have hal : Below u2.heap.size u2 (u2.alloc (.cells #[.int .i64 (fn : Int), .int .i64 lo, .int .i64 hi] 124)) := (Below.refl _ _).alloc (Nat.le_refl _) _
   have g3 := heap_alloc_new u2 (.cells #[.int .i64 (fn : Int), .int .i64 lo, .int .i64 hi] 124)
   go_wp2
   generalize u2.alloc (.cells #[.int .i64 (fn : Int), .int .i64 lo, .int .i64 hi] 124) = W3 at *
   have c3 := cu2.trans (hal.mono cu2.size)
   have x3 := (hal.cell (p := ⟨bx, offx + fn, none⟩) hblx).trans x0
   have e0 := (cell_of_row W3 _ 0 _ _ _ g3).trans (show _ = some (Value.int .i64 (fn : Int)) from rfl)
   have e1 := (cell_of_row W3 _ 1 _ _ _ g3).trans (show _ = some (Value.int .i64 lo) from rfl)
   have e2 := (cell_of_row W3 _ 2 _ _ _ g3).trans (show _ = some (Value.int .i64 hi) from rfl)
   clear p0 p1 p2 p3 r0 r1 x0 d1 d2 d3 hal cu2 g3
   obtain ⟨p0, p1, p2, p3, r0, r1⟩ := qr_boxes HG0.out HG1.out HZ.out c3
   by_cases hin : lo ≤ x ∧ x ≤ hi
   ·
    have HA := HOK.out (decide_eq_true hin)
    have HIN := Lib.hid (fun w => in_yes x lo hi w hin.1 hin.2)
    clear HOK HNO hin
    refine wp_region_held_drew (S := fun w' => w'.cell? ⟨w.heap.size + 1, 1, none⟩ = some (.slice (some ⟨bx, offx, none⟩) xs.length vcap) ∧ w'.cell? ⟨u2.heap.size, 0, none⟩ = some (.int .i64 (fn : Int)) ∧ w'.cell? ⟨u2.heap.size, 1, none⟩ = some (.int .i64 lo) ∧ w'.cell? ⟨u2.heap.size, 2, none⟩ = some (.int .i64 hi) ∧ w'.cell? ⟨bx, offx + fn, none⟩ = some (.int .i64 x)) (by kernel_rfl) ⟨r1, e0, e1, e2, x3⟩ (fun hHeld => ?_)
    refine tR (i := 0) (v := ?_) ?_ ?_; rotate_left
    ·
     intro w hSw; (try dsimp only at hSw); go_simp; try (with_reducible rfl)
    try simp only [Act.put, lA, lB, lC]
    refine tR (i := 1) (v := ?_) ?_ ?_; rotate_left
    ·
     intro w hSw; (try dsimp only at hSw); go_simp; try (with_reducible rfl)
    try simp only [Act.put, lA, lB, lC]
    refine tR (i := 2) (v := ?_) ?_ ?_; rotate_left
    ·
     intro w hSw; (try dsimp only at hSw); go_simp; try (with_reducible rfl)
    try simp only [Act.put, lA, lB, lC]
    refine tR (i := 3) (v := ?_) ?_ ?_; rotate_left
    ·
     intro w hSw; (try dsimp only at hSw); go_simp; try (with_reducible rfl)
    try simp only [Act.put, lA, lB, lC]
    refine tR (i := 4) (v := ?_) ?_ ?_; rotate_left
    ·
     intro w hSw; (try dsimp only at hSw); go_simp; try (with_reducible rfl)
    try simp only [Act.put, lA, lB, lC]
    refine tR (i := 5) (v := ?_) ?_ ?_; rotate_left
    ·
     intro w hSw; (try dsimp only at hSw); go_simp; try (with_reducible rfl)
    try simp only [Act.put, lA, lB, lC]
    refine tR (i := 6) (v := ?_) ?_ ?_; rotate_left
    ·
     intro w hSw; (try dsimp only at hSw); go_simp; try (with_reducible rfl)
    try simp only [Act.put, lA, lB, lC]
    refine tR (i := 7) (v := ?_) ?_ ?_; rotate_left
    ·
     intro w hSw; (try dsimp only at hSw); go_simp; try (with_reducible rfl)
    try simp only [Act.put, lA, lB, lC]
    refine tR (i := 8) (v := ?_) ?_ ?_; rotate_left
    ·
     intro w hSw; (try dsimp only at hSw); go_simp; try (with_reducible rfl)
    try simp only [Act.put, lA, lB, lC]
    refine tR (i := 9) (v := ?_) ?_ ?_; rotate_left
    ·
     intro w hSw; (try dsimp only at hSw); go_simp; try (with_reducible rfl)
    try simp only [Act.put, lA, lB, lC]
    refine wpAnyH_ready (rs := [10]) (by kernel_rfl) (by simp) ?_
    refine AllReadyH.cons (o := _) (by simp only [hA, hB, hC]; rfl) (fun K hK => ?_) AllReadyH.nil
    go_simp
    refine (HIN.out _).mono ?_
    rintro e w8 ⟨rfl, rfl⟩
    refine hK.out _ _ ⟨r1, e0, e1, e2, x3⟩ (fun hHeld => ?_)
    clear hK K
    try simp only [Act.put, lA, lB, lC]
    refine tR (i := 11) (v := ?_) ?_ ?_; rotate_left
    ·
     intro w hSw; (try dsimp only at hSw); go_simp; try (with_reducible rfl)
    try simp only [Act.put, lA, lB, lC]
    refine wpAnyH_done (by kernel_rfl) ?_ _
    have c4 : Below W.heap.size W W3.drew := below_drew c3
    clear hHeld
    go_wp2
    go_roundw
    case rel => exact ⟨k + 1, by omega, by go_num, HA, c4⟩
    case measure => simp [intOf]; omega
   ·
    have HF := HNO.out (decide_eq_false hin)
    have HIN := Lib.hid (fun w => in_no x lo hi w hin)
    clear HOK HNO hin
    refine wp_region_held_drew (S := fun w' => w'.cell? ⟨w.heap.size + 1, 1, none⟩ = some (.slice (some ⟨bx, offx, none⟩) xs.length vcap) ∧ w'.cell? ⟨u2.heap.size, 0, none⟩ = some (.int .i64 (fn : Int)) ∧ w'.cell? ⟨u2.heap.size, 1, none⟩ = some (.int .i64 lo) ∧ w'.cell? ⟨u2.heap.size, 2, none⟩ = some (.int .i64 hi) ∧ w'.cell? ⟨bx, offx + fn, none⟩ = some (.int .i64 x)) (by kernel_rfl) ⟨r1, e0, e1, e2, x3⟩ (fun hHeld => ?_)
    refine tR (i := 0) (v := ?_) ?_ ?_; rotate_left
    ·
     intro w hSw; (try dsimp only at hSw); go_simp; try (with_reducible rfl)
    try simp only [Act.put, lA, lB, lC]
    refine tR (i := 1) (v := ?_) ?_ ?_; rotate_left
    ·
     intro w hSw; (try dsimp only at hSw); go_simp; try (with_reducible rfl)
    try simp only [Act.put, lA, lB, lC]
    refine tR (i := 2) (v := ?_) ?_ ?_; rotate_left
    ·
     intro w hSw; (try dsimp only at hSw); go_simp; try (with_reducible rfl)
    try simp only [Act.put, lA, lB, lC]
    refine tR (i := 3) (v := ?_) ?_ ?_; rotate_left
    ·
     intro w hSw; (try dsimp only at hSw); go_simp; try (with_reducible rfl)
    try simp only [Act.put, lA, lB, lC]
    refine tR (i := 4) (v := ?_) ?_ ?_; rotate_left
    ·
     intro w hSw; (try dsimp only at hSw); go_simp; try (with_reducible rfl)
    try simp only [Act.put, lA, lB, lC]
    refine tR (i := 5) (v := ?_) ?_ ?_; rotate_left
    ·
     intro w hSw; (try dsimp only at hSw); go_simp; try (with_reducible rfl)
    try simp only [Act.put, lA, lB, lC]
    refine tR (i := 6) (v := ?_) ?_ ?_; rotate_left
    ·
     intro w hSw; (try dsimp only at hSw); go_simp; try (with_reducible rfl)
    try simp only [Act.put, lA, lB, lC]
    refine tR (i := 7) (v := ?_) ?_ ?_; rotate_left
    ·
     intro w hSw; (try dsimp only at hSw); go_simp; try (with_reducible rfl)
    try simp only [Act.put, lA, lB, lC]
    refine tR (i := 8) (v := ?_) ?_ ?_; rotate_left
    ·
     intro w hSw; (try dsimp only at hSw); go_simp; try (with_reducible rfl)
    try simp only [Act.put, lA, lB, lC]
    refine tR (i := 9) (v := ?_) ?_ ?_; rotate_left
    ·
     intro w hSw; (try dsimp only at hSw); go_simp; try (with_reducible rfl)
    try simp only [Act.put, lA, lB, lC]
    refine wpAnyH_ready (rs := [10]) (by kernel_rfl) (by simp) ?_
    refine AllReadyH.cons (o := _) (by simp only [hA, hB, hC]; rfl) (fun K hK => ?_) AllReadyH.nil
    go_simp
    refine (HIN.out _).mono ?_
    rintro e w8 ⟨rfl, rfl⟩
    refine hK.out _ _ ⟨r1, e0, e1, e2, x3⟩ (fun hHeld => ?_)
    clear hK K
    try simp only [Act.put, lA, lB, lC]
    refine tR (i := 11) (v := ?_) ?_ ?_; rotate_left
    ·
     intro w hSw; (try dsimp only at hSw); go_simp; try (with_reducible rfl)
    try simp only [Act.put, lA, lB, lC]
    refine wpAnyH_done (by kernel_rfl) ?_ _
    have c4 : Below W.heap.size W W3.drew := below_drew c3
    clear hHeld
    go_wp2
    go_ret
    exact ⟨ret_b HF.out.symm, HB0.out.trans (c4.mono HB0.out.size)⟩
  ·
   obtain rfl : k = cs.length := by omega
   have HF := Lib.hid (HFB.out _ (all_ok hall.out))
   clear hall
   have i2 : ¬ (cs.length : Int) < (cs.length : Int) := by omega
   go_wp2_with fail
   refine (HR.out _ (ints_below HX.out hbel)).mono ?_
   rintro e u3 ⟨rfl, bu3⟩
   have cu3 := hbel.trans (bu3.mono hbel.size)
   clear p0 p1 p2 p3 r0 r1 bu3
   obtain ⟨p0, p1, p2, p3, r0, r1⟩ := qr_boxes HG0.out HG1.out HZ.out cu3
   go_wp2_with fail
   refine (HQ.out _ (condsR_below HC.out cu3) (ints_below HO.out cu3)).mono ?_
   rintro e u4 ⟨rfl, bu4⟩
   have cu4 := cu3.trans (bu4.mono cu3.size)
   clear p0 p1 p2 p3 r0 r1 bu4
   obtain ⟨p0, p1, p2, p3, r0, r1⟩ := qr_boxes HG0.out HG1.out HZ.out cu4
   go_wp2
   go_ret
   exact ⟨ret_b HF.out.symm, HB0.out.trans (cu4.mono HB0.out.size)⟩
theorem specMatchesRow (id tn rid : Int) (cv ov vv : Value) (cs : List CondD) (os xs : List Int) (w : World) (h : CondsR w cv cs) (hn : cs.length ≤ 1048576) (g : Ints w ov os) (hm : os.length ≤ 1048576) (gr : Ints w vv xs) (hx : xs.length ≤ 1048576) :
  Calls Tryd.prog 42 #[qV id tn cv ov, .agg #[.int .i64 rid, vv]] w fun e w' => e = .returned (.bool (matchB id tn cs os (rid, xs))) ∧ Below w.heap.size w w' := by
 cases hr : rowB (rid, xs) with
 | false => exact specMatch_noRow id tn rid cv ov vv cs os xs w h hn g hm gr hx hr
 | true =>
  cases hq : queryB id tn cs os with
  | false => exact specMatch_noQuery id tn rid cv ov vv cs os xs w h hn g hm gr hx hr hq
  | true => exact specMatch_both id tn rid cv ov vv cs os xs w h hn g hm gr hx hr hq
end Go.Proofs.YtededfficggkaaaDoor
