/-
  Texts of the proof, merged: MatchSpec, AppInts, FreshInts, ProjSpec, RowMark, CondMark, RowMarkW, RowMark1, ProjLaw, MatchLaw, Rec, RecLim, RecEq, RowIsP, QueryMatchP, RowAre, RowLess, RowCopy, RowIns, RowInsM.
-/
import Derived.Test.YtginjmnohnidiaaAA2
import Derived.Deep.Upon
import Derived.Laws.CopyOwn
import Derived.Lib.MinMax
import Derived.Laws.StructEq
import Derived.Maps.AppendAt
namespace Go.Proofs.Ytginjmnohnidiaa
open Go.RowKit
set_option linter.unusedVariables false
set_option linter.unusedSimpArgs false
/-- The value of the condition's field lies between its bounds. -/
def okC (xs : List Int) (c : CondD) : Bool := decide (c.2.1 ≤ xs.getD c.1.toNat 0 ∧ xs.getD c.1.toNat 0 ≤ c.2.2)
def matchB (id tn : Int) (cs : List CondD) (os : List Int) (r : RowD) : Bool := rowB r && (queryB id tn cs os && cs.all (okC r.2))
theorem query_conds {id tn : Int} {cs : List CondD} {os : List Int} (h : queryB id tn cs os = true) {k : Nat} (hk : k < cs.length) : 0 ≤ (cs.getD k c0D).1 ∧ (cs.getD k c0D).1 ≤ 2 := by
  unfold queryB at h
  simp only [Bool.and_eq_true] at h
  have h1 := h.1
  unfold condsB at h1
  rw [List.all_eq_true] at h1
  have := h1 k (List.mem_range.2 hk)
  rw [Bool.and_eq_true] at this
  have h2 := this.1
  unfold condB at h2
  simp only [Bool.and_eq_true, decide_eq_true_eq] at h2
  exact h2.1
theorem row_len {r : RowD} (h : rowB r = true) : r.2.length = 3 := by
  unfold rowB at h
  simp only [Bool.and_eq_true, decide_eq_true_eq] at h
  exact h.2.2
theorem all_bad {xs : List Int} {cs : List CondD} {k : Nat} (hk : k < cs.length) (h : okC xs (cs.getD k c0D) = false) : cs.all (okC xs) = false := by
  rw [Bool.eq_false_iff]
  intro g
  rw [List.all_eq_true] at g
  have e : cs.getD k c0D = cs[k] := by simp [List.getD, hk]
  rw [e, g _ (List.getElem_mem hk)] at h
  exact Bool.noConfusion h
theorem all_ok {xs : List Int} {cs : List CondD} (h : ∀ k, k < cs.length → okC xs (cs.getD k c0D) = true) : cs.all (okC xs) = true := by
  rw [List.all_eq_true]
  intro c hc
  obtain ⟨k, hk, rfl⟩ := List.getElem_of_mem hc
  have := h k hk
  have e : cs.getD k c0D = cs[k] := by simp [List.getD, hk]
  rwa [e] at this
theorem qr_boxes {W w : World} {g : Nat} {a b c d x y : Value} (g0 : W.heap[g]? = some (.cells #[a, b, c, d] 38 (0, 0))) (g1 : W.heap[g + 1]? = some (.cells #[x, y] 76 (0, 0))) (hz : g + 1 < W.heap.size) (hb : Below W.heap.size W w) :
    w.cell? ⟨g, 0, none⟩ = some a ∧ w.cell? ⟨g, 1, none⟩ = some b ∧ w.cell? ⟨g, 2, none⟩ = some c ∧ w.cell? ⟨g, 3, none⟩ = some d ∧ w.cell? ⟨g + 1, 0, none⟩ = some x ∧ w.cell? ⟨g + 1, 1, none⟩ = some y := by
  have h0 := (hb.block g (by omega)).trans g0
  have h1 := (hb.block (g + 1) hz).trans g1
  exact ⟨(cell_of_row w _ 0 _ _ _ h0).trans rfl, (cell_of_row w _ 1 _ _ _ h0).trans rfl, (cell_of_row w _ 2 _ _ _ h0).trans rfl, (cell_of_row w _ 3 _ _ _ h0).trans rfl, (cell_of_row w _ 0 _ _ _ h1).trans rfl, (cell_of_row w _ 1 _ _ _ h1).trans rfl⟩
set_option maxHeartbeats 16000000 in
set_option maxRecDepth 100000 in
theorem specMatch_noRow (id tn rid : Int) (cv ov vv : Value) (cs : List CondD) (os xs : List Int) (w : World) (h : CondsR w cv cs) (hn : cs.length ≤ 1048576) (g : Ints w ov os) (hm : os.length ≤ 1048576) (gr : Ints w vv xs) (hx : xs.length ≤ 1048576) (hr : rowB (rid, xs) = false) :
    Calls Try.prog 59 #[qV id tn cv ov, .agg #[.int .i64 rid, vv]] w fun e w' => e = .returned (.bool (matchB id tn cs os (rid, xs))) ∧ Below w.heap.size w w' := by
  obtain ⟨ca, ccap, rfl⟩ := condsR_len h
  obtain ⟨oa, ocap, rfl⟩ := ints_len g
  obtain ⟨va, vcap, rfl⟩ := ints_len gr
  have hb0 : Below w.heap.size w ((w.alloc (.cells #[.int .i64 id, .int .i64 tn, .slice ca cs.length ccap, .slice oa os.length ocap] 38)).alloc (.cells #[.int .i64 rid, .slice va xs.length vcap] 76)) := ((Below.refl _ w).alloc (Nat.le_refl _) _).alloc (by simp) _
  have HG1 : Hid (((w.alloc (.cells #[.int .i64 id, .int .i64 tn, .slice ca cs.length ccap, .slice oa os.length ocap] 38)).alloc (.cells #[.int .i64 rid, .slice va xs.length vcap] 76)).heap[w.heap.size + 1]? = some (.cells #[.int .i64 rid, .slice va xs.length vcap] 76 (0, 0))) := Lib.hid (by
    have := heap_alloc_new (w.alloc (.cells #[.int .i64 id, .int .i64 tn, .slice ca cs.length ccap, .slice oa os.length ocap] 38)) (.cells #[.int .i64 rid, .slice va xs.length vcap] 76)
    simpa only [World.size_alloc] using this)
  have HG0 : Hid (((w.alloc (.cells #[.int .i64 id, .int .i64 tn, .slice ca cs.length ccap, .slice oa os.length ocap] 38)).alloc (.cells #[.int .i64 rid, .slice va xs.length vcap] 76)).heap[w.heap.size]? = some (.cells #[.int .i64 id, .int .i64 tn, .slice ca cs.length ccap, .slice oa os.length ocap] 38 (0, 0))) := Lib.hid (by
    rw [Below.heap_alloc _ _ _ (by simp)]
    exact heap_alloc_new w _)
  have HZ : Hid (w.heap.size + 1 < ((w.alloc (.cells #[.int .i64 id, .int .i64 tn, .slice ca cs.length ccap, .slice oa os.length ocap] 38)).alloc (.cells #[.int .i64 rid, .slice va xs.length vcap] 76)).heap.size) := Lib.hid (by simp)
  have HB0 := Lib.hid hb0
  have HC := Lib.hid (condsR_below h hb0)
  have HO := Lib.hid (ints_below g hb0)
  have HX := Lib.hid (ints_below gr hb0)
  have HR := Lib.hid (fun w h => specIsRow rid (.slice va xs.length vcap) xs w h hx)
  have HQ := Lib.hid (fun w h g => specIsQuery id tn (.slice ca cs.length ccap) (.slice oa os.length ocap) cs os w h hn g hm)
  have HF : Hid (matchB id tn cs os (rid, xs) = false) := Lib.hid (by unfold matchB; rw [hr]; simp)
  rw [hr] at HR
  clear hr
  clear h g hm gr hx hb0
  go_enter Try.func59, Try.ntmps59
  go_wp2
  generalize ((w.alloc (.cells #[.int .i64 id, .int .i64 tn, .slice ca cs.length ccap, .slice oa os.length ocap] 38)).alloc (.cells #[.int .i64 rid, .slice va xs.length vcap] 76)) = W at *
  go_loopw [5] (fun i wr => ∃ k : Nat, k ≤ cs.length ∧ i = .int .i64 k ∧ k = 0 ∧ Below W.heap.size W wr) (fun i _ => cs.length - (intOf i).toNat)
  case atStart => exact ⟨0, Nat.zero_le _, rfl, rfl, Below.refl _ _⟩
  case round =>
    obtain ⟨k, hk, rfl, hk0, hbel⟩ := hrel
    subst hk0
    obtain ⟨p0, p1, p2, p3, r0, r1⟩ := qr_boxes HG0.out HG1.out HZ.out hbel
    by_cases hlt : 0 < cs.length
    · have i2 : (0 : Int) < (cs.length : Int) := by omega
      go_wp2_with fail
      refine (HR.out _ (ints_below HX.out hbel)).mono ?_
      rintro e u1 ⟨rfl, bu1⟩
      have cu1 := hbel.trans (bu1.mono hbel.size)
      clear p0 p1 p2 p3 r0 r1 bu1
      obtain ⟨p0, p1, p2, p3, r0, r1⟩ := qr_boxes HG0.out HG1.out HZ.out cu1
      go_wp2_with fail
      refine (HR.out _ (ints_below HX.out cu1)).mono ?_
      rintro e u3 ⟨rfl, bu3⟩
      have cu3 := cu1.trans (bu3.mono cu1.size)
      clear p0 p1 p2 p3 r0 r1 bu3
      obtain ⟨p0, p1, p2, p3, r0, r1⟩ := qr_boxes HG0.out HG1.out HZ.out cu3
      go_wp2
      go_ret
      exact ⟨ret_b HF.out.symm, HB0.out.trans (cu3.mono HB0.out.size)⟩
    · have i2 : ¬ (0 : Int) < (cs.length : Int) := by omega
      go_wp2_with fail
      refine (HR.out _ (ints_below HX.out hbel)).mono ?_
      rintro e u3 ⟨rfl, bu3⟩
      have cu3 := hbel.trans (bu3.mono hbel.size)
      clear p0 p1 p2 p3 r0 r1 bu3
      obtain ⟨p0, p1, p2, p3, r0, r1⟩ := qr_boxes HG0.out HG1.out HZ.out cu3
      go_wp2
      go_ret
      exact ⟨ret_b HF.out.symm, HB0.out.trans (cu3.mono HB0.out.size)⟩
set_option maxHeartbeats 16000000 in
set_option maxRecDepth 100000 in
theorem specMatch_noQuery (id tn rid : Int) (cv ov vv : Value) (cs : List CondD) (os xs : List Int) (w : World) (h : CondsR w cv cs) (hn : cs.length ≤ 1048576) (g : Ints w ov os) (hm : os.length ≤ 1048576) (gr : Ints w vv xs) (hx : xs.length ≤ 1048576) (hr : rowB (rid, xs) = true) (hq : queryB id tn cs os = false) :
    Calls Try.prog 59 #[qV id tn cv ov, .agg #[.int .i64 rid, vv]] w fun e w' => e = .returned (.bool (matchB id tn cs os (rid, xs))) ∧ Below w.heap.size w w' := by
  obtain ⟨ca, ccap, rfl⟩ := condsR_len h
  obtain ⟨oa, ocap, rfl⟩ := ints_len g
  obtain ⟨va, vcap, rfl⟩ := ints_len gr
  have hb0 : Below w.heap.size w ((w.alloc (.cells #[.int .i64 id, .int .i64 tn, .slice ca cs.length ccap, .slice oa os.length ocap] 38)).alloc (.cells #[.int .i64 rid, .slice va xs.length vcap] 76)) := ((Below.refl _ w).alloc (Nat.le_refl _) _).alloc (by simp) _
  have HG1 : Hid (((w.alloc (.cells #[.int .i64 id, .int .i64 tn, .slice ca cs.length ccap, .slice oa os.length ocap] 38)).alloc (.cells #[.int .i64 rid, .slice va xs.length vcap] 76)).heap[w.heap.size + 1]? = some (.cells #[.int .i64 rid, .slice va xs.length vcap] 76 (0, 0))) := Lib.hid (by
    have := heap_alloc_new (w.alloc (.cells #[.int .i64 id, .int .i64 tn, .slice ca cs.length ccap, .slice oa os.length ocap] 38)) (.cells #[.int .i64 rid, .slice va xs.length vcap] 76)
    simpa only [World.size_alloc] using this)
  have HG0 : Hid (((w.alloc (.cells #[.int .i64 id, .int .i64 tn, .slice ca cs.length ccap, .slice oa os.length ocap] 38)).alloc (.cells #[.int .i64 rid, .slice va xs.length vcap] 76)).heap[w.heap.size]? = some (.cells #[.int .i64 id, .int .i64 tn, .slice ca cs.length ccap, .slice oa os.length ocap] 38 (0, 0))) := Lib.hid (by
    rw [Below.heap_alloc _ _ _ (by simp)]
    exact heap_alloc_new w _)
  have HZ : Hid (w.heap.size + 1 < ((w.alloc (.cells #[.int .i64 id, .int .i64 tn, .slice ca cs.length ccap, .slice oa os.length ocap] 38)).alloc (.cells #[.int .i64 rid, .slice va xs.length vcap] 76)).heap.size) := Lib.hid (by simp)
  have HB0 := Lib.hid hb0
  have HC := Lib.hid (condsR_below h hb0)
  have HO := Lib.hid (ints_below g hb0)
  have HX := Lib.hid (ints_below gr hb0)
  have HR := Lib.hid (fun w h => specIsRow rid (.slice va xs.length vcap) xs w h hx)
  have HQ := Lib.hid (fun w h g => specIsQuery id tn (.slice ca cs.length ccap) (.slice oa os.length ocap) cs os w h hn g hm)
  have HF : Hid (matchB id tn cs os (rid, xs) = false) := Lib.hid (by unfold matchB; rw [hq]; simp)
  rw [hr] at HR
  rw [hq] at HQ
  clear hr hq
  clear h g hm gr hx hb0
  go_enter Try.func59, Try.ntmps59
  go_wp2
  generalize ((w.alloc (.cells #[.int .i64 id, .int .i64 tn, .slice ca cs.length ccap, .slice oa os.length ocap] 38)).alloc (.cells #[.int .i64 rid, .slice va xs.length vcap] 76)) = W at *
  go_loopw [5] (fun i wr => ∃ k : Nat, k ≤ cs.length ∧ i = .int .i64 k ∧ k = 0 ∧ Below W.heap.size W wr) (fun i _ => cs.length - (intOf i).toNat)
  case atStart => exact ⟨0, Nat.zero_le _, rfl, rfl, Below.refl _ _⟩
  case round =>
    obtain ⟨k, hk, rfl, hk0, hbel⟩ := hrel
    subst hk0
    obtain ⟨p0, p1, p2, p3, r0, r1⟩ := qr_boxes HG0.out HG1.out HZ.out hbel
    by_cases hlt : 0 < cs.length
    · have i2 : (0 : Int) < (cs.length : Int) := by omega
      go_wp2_with fail
      refine (HR.out _ (ints_below HX.out hbel)).mono ?_
      rintro e u1 ⟨rfl, bu1⟩
      have cu1 := hbel.trans (bu1.mono hbel.size)
      clear p0 p1 p2 p3 r0 r1 bu1
      obtain ⟨p0, p1, p2, p3, r0, r1⟩ := qr_boxes HG0.out HG1.out HZ.out cu1
      go_wp2_with fail
      refine (HQ.out _ (condsR_below HC.out cu1) (ints_below HO.out cu1)).mono ?_
      rintro e u2 ⟨rfl, bu2⟩
      have cu2 := cu1.trans (bu2.mono cu1.size)
      clear p0 p1 p2 p3 r0 r1 bu2
      obtain ⟨p0, p1, p2, p3, r0, r1⟩ := qr_boxes HG0.out HG1.out HZ.out cu2
      go_wp2_with fail
      refine (HR.out _ (ints_below HX.out cu2)).mono ?_
      rintro e u3 ⟨rfl, bu3⟩
      have cu3 := cu2.trans (bu3.mono cu2.size)
      clear p0 p1 p2 p3 r0 r1 bu3
      obtain ⟨p0, p1, p2, p3, r0, r1⟩ := qr_boxes HG0.out HG1.out HZ.out cu3
      go_wp2_with fail
      refine (HQ.out _ (condsR_below HC.out cu3) (ints_below HO.out cu3)).mono ?_
      rintro e u4 ⟨rfl, bu4⟩
      have cu4 := cu3.trans (bu4.mono cu3.size)
      clear p0 p1 p2 p3 r0 r1 bu4
      obtain ⟨p0, p1, p2, p3, r0, r1⟩ := qr_boxes HG0.out HG1.out HZ.out cu4
      go_wp2
      go_ret
      exact ⟨ret_b HF.out.symm, HB0.out.trans (cu4.mono HB0.out.size)⟩
    · have i2 : ¬ (0 : Int) < (cs.length : Int) := by omega
      go_wp2_with fail
      refine (HR.out _ (ints_below HX.out hbel)).mono ?_
      rintro e u3 ⟨rfl, bu3⟩
      have cu3 := hbel.trans (bu3.mono hbel.size)
      clear p0 p1 p2 p3 r0 r1 bu3
      obtain ⟨p0, p1, p2, p3, r0, r1⟩ := qr_boxes HG0.out HG1.out HZ.out cu3
      go_wp2_with fail
      refine (HQ.out _ (condsR_below HC.out cu3) (ints_below HO.out cu3)).mono ?_
      rintro e u4 ⟨rfl, bu4⟩
      have cu4 := cu3.trans (bu4.mono cu3.size)
      clear p0 p1 p2 p3 r0 r1 bu4
      obtain ⟨p0, p1, p2, p3, r0, r1⟩ := qr_boxes HG0.out HG1.out HZ.out cu4
      go_wp2
      go_ret
      exact ⟨ret_b HF.out.symm, HB0.out.trans (cu4.mono HB0.out.size)⟩
set_option maxHeartbeats 16000000 in
set_option maxRecDepth 100000 in
theorem specMatch_both (id tn rid : Int) (cv ov vv : Value) (cs : List CondD) (os xs : List Int) (w : World) (h : CondsR w cv cs) (hn : cs.length ≤ 1048576) (g : Ints w ov os) (hm : os.length ≤ 1048576) (gr : Ints w vv xs) (hx : xs.length ≤ 1048576) (hr : rowB (rid, xs) = true) (hq : queryB id tn cs os = true) :
    Calls Try.prog 59 #[qV id tn cv ov, .agg #[.int .i64 rid, vv]] w fun e w' => e = .returned (.bool (matchB id tn cs os (rid, xs))) ∧ Below w.heap.size w w' := by
  obtain ⟨ca, ccap, rfl⟩ := condsR_len h
  obtain ⟨oa, ocap, rfl⟩ := ints_len g
  obtain ⟨va, vcap, rfl⟩ := ints_len gr
  have hb0 : Below w.heap.size w ((w.alloc (.cells #[.int .i64 id, .int .i64 tn, .slice ca cs.length ccap, .slice oa os.length ocap] 38)).alloc (.cells #[.int .i64 rid, .slice va xs.length vcap] 76)) := ((Below.refl _ w).alloc (Nat.le_refl _) _).alloc (by simp) _
  have HG1 : Hid (((w.alloc (.cells #[.int .i64 id, .int .i64 tn, .slice ca cs.length ccap, .slice oa os.length ocap] 38)).alloc (.cells #[.int .i64 rid, .slice va xs.length vcap] 76)).heap[w.heap.size + 1]? = some (.cells #[.int .i64 rid, .slice va xs.length vcap] 76 (0, 0))) := Lib.hid (by
    have := heap_alloc_new (w.alloc (.cells #[.int .i64 id, .int .i64 tn, .slice ca cs.length ccap, .slice oa os.length ocap] 38)) (.cells #[.int .i64 rid, .slice va xs.length vcap] 76)
    simpa only [World.size_alloc] using this)
  have HG0 : Hid (((w.alloc (.cells #[.int .i64 id, .int .i64 tn, .slice ca cs.length ccap, .slice oa os.length ocap] 38)).alloc (.cells #[.int .i64 rid, .slice va xs.length vcap] 76)).heap[w.heap.size]? = some (.cells #[.int .i64 id, .int .i64 tn, .slice ca cs.length ccap, .slice oa os.length ocap] 38 (0, 0))) := Lib.hid (by
    rw [Below.heap_alloc _ _ _ (by simp)]
    exact heap_alloc_new w _)
  have HZ : Hid (w.heap.size + 1 < ((w.alloc (.cells #[.int .i64 id, .int .i64 tn, .slice ca cs.length ccap, .slice oa os.length ocap] 38)).alloc (.cells #[.int .i64 rid, .slice va xs.length vcap] 76)).heap.size) := Lib.hid (by simp)
  have HB0 := Lib.hid hb0
  have HC := Lib.hid (condsR_below h hb0)
  have HO := Lib.hid (ints_below g hb0)
  have HX := Lib.hid (ints_below gr hb0)
  have HR := Lib.hid (fun w h => specIsRow rid (.slice va xs.length vcap) xs w h hx)
  have HQ := Lib.hid (fun w h g => specIsQuery id tn (.slice ca cs.length ccap) (.slice oa os.length ocap) cs os w h hn g hm)
  have HCD := Lib.hid (fun (k : Nat) (hk : k < cs.length) => query_conds hq hk)
  have HLN := Lib.hid (row_len hr)
  simp only at HLN
  have HFB : Hid (∀ b, cs.all (okC xs) = b → matchB id tn cs os (rid, xs) = b) := Lib.hid (fun b h => by unfold matchB; rw [hr, hq, h]; simp)
  rw [hr] at HR
  rw [hq] at HQ
  clear hr hq
  clear h g hm gr hx hb0
  go_enter Try.func59, Try.ntmps59
  go_wp2
  generalize ((w.alloc (.cells #[.int .i64 id, .int .i64 tn, .slice ca cs.length ccap, .slice oa os.length ocap] 38)).alloc (.cells #[.int .i64 rid, .slice va xs.length vcap] 76)) = W at *
  go_loopw [5] (fun i wr => ∃ k : Nat, k ≤ cs.length ∧ i = .int .i64 k ∧ Hid (∀ j, j < k → okC xs (cs.getD j c0D) = true) ∧ Below W.heap.size W wr) (fun i _ => cs.length - (intOf i).toNat)
  case atStart => exact ⟨0, Nat.zero_le _, rfl, Lib.hid (fun j hj => by omega), Below.refl _ _⟩
  case round =>
    obtain ⟨k, hk, rfl, hall, hbel⟩ := hrel
    obtain ⟨p0, p1, p2, p3, r0, r1⟩ := qr_boxes HG0.out HG1.out HZ.out hbel
    by_cases hlt : k < cs.length
    · have i1 : (0 : Int) ≤ (k : Int) := by omega
      have i2 : (k : Int) < (cs.length : Int) := by omega
      go_wp2_with fail
      refine (HR.out _ (ints_below HX.out hbel)).mono ?_
      rintro e u1 ⟨rfl, bu1⟩
      have cu1 := hbel.trans (bu1.mono hbel.size)
      clear p0 p1 p2 p3 r0 r1 bu1
      obtain ⟨p0, p1, p2, p3, r0, r1⟩ := qr_boxes HG0.out HG1.out HZ.out cu1
      go_wp2_with fail
      refine (HQ.out _ (condsR_below HC.out cu1) (ints_below HO.out cu1)).mono ?_
      rintro e u2 ⟨rfl, bu2⟩
      have cu2 := cu1.trans (bu2.mono cu1.size)
      clear p0 p1 p2 p3 r0 r1 bu2
      obtain ⟨p0, p1, p2, p3, r0, r1⟩ := qr_boxes HG0.out HG1.out HZ.out cu2
      obtain ⟨bc, offc, capc, hvc, hblc, d1, d2, d3⟩ := condsR_at (condsR_below HC.out cu2) hlt
      simp only [Value.slice.injEq] at hvc
      obtain ⟨rfl, _, rfl⟩ := hvc
      have hcd := HCD.out k hlt
      have hok : okC xs (cs.getD k c0D) = true → Hid (∀ j, j < k + 1 → okC xs (cs.getD j c0D) = true) := fun h => Lib.hid (fun j hj => by
        by_cases e : j = k
        · subst e; exact h
        · exact hall.out j (by omega))
      have hno : okC xs (cs.getD k c0D) = false → Hid (matchB id tn cs os (rid, xs) = false) := fun h => Lib.hid (HFB.out _ (all_bad hlt h))
      have HOK := Lib.hid hok
      have HNO := Lib.hid hno
      clear hok hno hall cu1 hbel
      generalize cs.getD k c0D = c at *
      obtain ⟨f, lo, hi⟩ := c
      simp only at d1 d2 d3 hcd
      obtain ⟨fn, rfl⟩ := Int.eq_ofNat_of_zero_le hcd.1
      have hfn : fn < xs.length := by have := HLN.out; omega
      obtain ⟨bx, offx, capx, hvx, hblx, hcx⟩ := ints_cell (ints_below HX.out cu2) (by omega)
      simp only [Value.slice.injEq] at hvx
      obtain ⟨rfl, _, rfl⟩ := hvx
      have x0 := hcx fn hfn
      have j1 : (0 : Int) ≤ (fn : Int) := by omega
      have j2 : (fn : Int) < (xs.length : Int) := by omega
      have ho : okC xs ((fn : Int), lo, hi) = decide (lo ≤ xs.getD fn 0 ∧ xs.getD fn 0 ≤ hi) := by unfold okC; simp
      rw [ho] at HOK HNO
      clear hcx ho hcd
      generalize xs.getD fn 0 = x at *
      have hal : Below u2.heap.size u2 (u2.alloc (.cells #[.int .i64 (fn : Int), .int .i64 lo, .int .i64 hi] 125)) := (Below.refl _ _).alloc (Nat.le_refl _) _
      have g3 := heap_alloc_new u2 (.cells #[.int .i64 (fn : Int), .int .i64 lo, .int .i64 hi] 125)
      go_wp2
      generalize u2.alloc (.cells #[.int .i64 (fn : Int), .int .i64 lo, .int .i64 hi] 125) = W3 at *
      have c3 := cu2.trans (hal.mono cu2.size)
      have x3 := (hal.cell (p := ⟨bx, offx + fn, none⟩) hblx).trans x0
      have e0 := (cell_of_row W3 _ 0 _ _ _ g3).trans (show _ = some (Value.int .i64 (fn : Int)) from rfl)
      have e1 := (cell_of_row W3 _ 1 _ _ _ g3).trans (show _ = some (Value.int .i64 lo) from rfl)
      have e2 := (cell_of_row W3 _ 2 _ _ _ g3).trans (show _ = some (Value.int .i64 hi) from rfl)
      clear p0 p1 p2 p3 r0 r1 x0 d1 d2 d3 hal cu2 g3
      obtain ⟨p0, p1, p2, p3, r0, r1⟩ := qr_boxes HG0.out HG1.out HZ.out c3
      by_cases hin : lo ≤ x ∧ x ≤ hi
      · have HA := HOK.out (decide_eq_true hin)
        have HIN := Lib.hid (fun w => in_yes x lo hi w hin.1 hin.2)
        clear HOK HNO hin
        refine wp_region_held_drew (S := fun w' => w'.cell? ⟨w.heap.size + 1, 1, none⟩ = some (.slice (some ⟨bx, offx, none⟩) xs.length vcap) ∧ w'.cell? ⟨u2.heap.size, 0, none⟩ = some (.int .i64 (fn : Int)) ∧ w'.cell? ⟨u2.heap.size, 1, none⟩ = some (.int .i64 lo) ∧ w'.cell? ⟨u2.heap.size, 2, none⟩ = some (.int .i64 hi) ∧ w'.cell? ⟨bx, offx + fn, none⟩ = some (.int .i64 x)) (by kernel_rfl) ⟨r1, e0, e1, e2, x3⟩ (fun hHeld => ?_)
        refine take_runs (i := 0) (v := ?_) (by simp only [List.getElem?_toArray, List.getElem?_cons_succ, List.getElem?_cons_zero]; rfl) (by kernel_rfl) (by kernel_rfl) (by kernel_rfl) rfl (by exact fun _ _ _ h => h) (by rfl) ?_ (by assumption) ?_
        rotate_left
        · intro w hSw; (try dsimp only at hSw); go_simp; try (with_reducible rfl)
        try simp only [Act.put, List.setIfInBounds_toArray, List.set_cons_zero, List.set_cons_succ]
        refine take_runs (i := 1) (v := ?_) (by simp only [List.getElem?_toArray, List.getElem?_cons_succ, List.getElem?_cons_zero]; rfl) (by kernel_rfl) (by kernel_rfl) (by kernel_rfl) rfl (by exact fun _ _ _ h => h) (by rfl) ?_ (by assumption) ?_
        rotate_left
        · intro w hSw; (try dsimp only at hSw); go_simp; try (with_reducible rfl)
        try simp only [Act.put, List.setIfInBounds_toArray, List.set_cons_zero, List.set_cons_succ]
        refine take_runs (i := 2) (v := ?_) (by simp only [List.getElem?_toArray, List.getElem?_cons_succ, List.getElem?_cons_zero]; rfl) (by kernel_rfl) (by kernel_rfl) (by kernel_rfl) rfl (by exact fun _ _ _ h => h) (by rfl) ?_ (by assumption) ?_
        rotate_left
        · intro w hSw; (try dsimp only at hSw); go_simp; try (with_reducible rfl)
        try simp only [Act.put, List.setIfInBounds_toArray, List.set_cons_zero, List.set_cons_succ]
        refine take_runs (i := 3) (v := ?_) (by simp only [List.getElem?_toArray, List.getElem?_cons_succ, List.getElem?_cons_zero]; rfl) (by kernel_rfl) (by kernel_rfl) (by kernel_rfl) rfl (by exact fun _ _ _ h => h) (by rfl) ?_ (by assumption) ?_
        rotate_left
        · intro w hSw; (try dsimp only at hSw); go_simp; try (with_reducible rfl)
        try simp only [Act.put, List.setIfInBounds_toArray, List.set_cons_zero, List.set_cons_succ]
        refine take_runs (i := 4) (v := ?_) (by simp only [List.getElem?_toArray, List.getElem?_cons_succ, List.getElem?_cons_zero]; rfl) (by kernel_rfl) (by kernel_rfl) (by kernel_rfl) rfl (by exact fun _ _ _ h => h) (by rfl) ?_ (by assumption) ?_
        rotate_left
        · intro w hSw; (try dsimp only at hSw); go_simp; try (with_reducible rfl)
        try simp only [Act.put, List.setIfInBounds_toArray, List.set_cons_zero, List.set_cons_succ]
        refine take_runs (i := 5) (v := ?_) (by simp only [List.getElem?_toArray, List.getElem?_cons_succ, List.getElem?_cons_zero]; rfl) (by kernel_rfl) (by kernel_rfl) (by kernel_rfl) rfl (by exact fun _ _ _ h => h) (by rfl) ?_ (by assumption) ?_
        rotate_left
        · intro w hSw; (try dsimp only at hSw); go_simp; try (with_reducible rfl)
        try simp only [Act.put, List.setIfInBounds_toArray, List.set_cons_zero, List.set_cons_succ]
        refine take_runs (i := 6) (v := ?_) (by simp only [List.getElem?_toArray, List.getElem?_cons_succ, List.getElem?_cons_zero]; rfl) (by kernel_rfl) (by kernel_rfl) (by kernel_rfl) rfl (by exact fun _ _ _ h => h) (by rfl) ?_ (by assumption) ?_
        rotate_left
        · intro w hSw; (try dsimp only at hSw); go_simp; try (with_reducible rfl)
        try simp only [Act.put, List.setIfInBounds_toArray, List.set_cons_zero, List.set_cons_succ]
        refine take_runs (i := 7) (v := ?_) (by simp only [List.getElem?_toArray, List.getElem?_cons_succ, List.getElem?_cons_zero]; rfl) (by kernel_rfl) (by kernel_rfl) (by kernel_rfl) rfl (by exact fun _ _ _ h => h) (by rfl) ?_ (by assumption) ?_
        rotate_left
        · intro w hSw; (try dsimp only at hSw); go_simp; try (with_reducible rfl)
        try simp only [Act.put, List.setIfInBounds_toArray, List.set_cons_zero, List.set_cons_succ]
        refine take_runs (i := 8) (v := ?_) (by simp only [List.getElem?_toArray, List.getElem?_cons_succ, List.getElem?_cons_zero]; rfl) (by kernel_rfl) (by kernel_rfl) (by kernel_rfl) rfl (by exact fun _ _ _ h => h) (by rfl) ?_ (by assumption) ?_
        rotate_left
        · intro w hSw; (try dsimp only at hSw); go_simp; try (with_reducible rfl)
        try simp only [Act.put, List.setIfInBounds_toArray, List.set_cons_zero, List.set_cons_succ]
        refine take_runs (i := 9) (v := ?_) (by simp only [List.getElem?_toArray, List.getElem?_cons_succ, List.getElem?_cons_zero]; rfl) (by kernel_rfl) (by kernel_rfl) (by kernel_rfl) rfl (by exact fun _ _ _ h => h) (by rfl) ?_ (by assumption) ?_
        rotate_left
        · intro w hSw; (try dsimp only at hSw); go_simp; try (with_reducible rfl)
        try simp only [Act.put, List.setIfInBounds_toArray, List.set_cons_zero, List.set_cons_succ]
        refine wpAnyH_ready (rs := [10]) (by kernel_rfl) (by simp) ?_
        refine AllReadyH.cons (o := _) (by simp only [List.getElem?_toArray, List.getElem?_cons_succ, List.getElem?_cons_zero]; rfl) (fun K hK => ?_) AllReadyH.nil
        go_simp
        refine (HIN.out _).mono ?_
        rintro e w8 ⟨rfl, rfl⟩
        refine hK.out _ _ ⟨r1, e0, e1, e2, x3⟩ (fun hHeld => ?_)
        clear hK K
        try simp only [Act.put, List.setIfInBounds_toArray, List.set_cons_zero, List.set_cons_succ]
        refine take_runs (i := 11) (v := ?_) (by simp only [List.getElem?_toArray, List.getElem?_cons_succ, List.getElem?_cons_zero]; rfl) (by kernel_rfl) (by kernel_rfl) (by kernel_rfl) rfl (by exact fun _ _ _ h => h) (by rfl) ?_ (by assumption) ?_
        rotate_left
        · intro w hSw; (try dsimp only at hSw); go_simp; try (with_reducible rfl)
        try simp only [Act.put, List.setIfInBounds_toArray, List.set_cons_zero, List.set_cons_succ]
        refine wpAnyH_done (by kernel_rfl) ?_ _
        have c4 : Below W.heap.size W W3.drew := below_drew c3
        clear hHeld
        go_wp2
        go_roundw
        case rel => exact ⟨k + 1, by omega, by go_num, HA, c4⟩
        case measure => simp [intOf]; omega
      · have HF := HNO.out (decide_eq_false hin)
        have HIN := Lib.hid (fun w => in_no x lo hi w hin)
        clear HOK HNO hin
        refine wp_region_held_drew (S := fun w' => w'.cell? ⟨w.heap.size + 1, 1, none⟩ = some (.slice (some ⟨bx, offx, none⟩) xs.length vcap) ∧ w'.cell? ⟨u2.heap.size, 0, none⟩ = some (.int .i64 (fn : Int)) ∧ w'.cell? ⟨u2.heap.size, 1, none⟩ = some (.int .i64 lo) ∧ w'.cell? ⟨u2.heap.size, 2, none⟩ = some (.int .i64 hi) ∧ w'.cell? ⟨bx, offx + fn, none⟩ = some (.int .i64 x)) (by kernel_rfl) ⟨r1, e0, e1, e2, x3⟩ (fun hHeld => ?_)
        refine take_runs (i := 0) (v := ?_) (by simp only [List.getElem?_toArray, List.getElem?_cons_succ, List.getElem?_cons_zero]; rfl) (by kernel_rfl) (by kernel_rfl) (by kernel_rfl) rfl (by exact fun _ _ _ h => h) (by rfl) ?_ (by assumption) ?_
        rotate_left
        · intro w hSw; (try dsimp only at hSw); go_simp; try (with_reducible rfl)
        try simp only [Act.put, List.setIfInBounds_toArray, List.set_cons_zero, List.set_cons_succ]
        refine take_runs (i := 1) (v := ?_) (by simp only [List.getElem?_toArray, List.getElem?_cons_succ, List.getElem?_cons_zero]; rfl) (by kernel_rfl) (by kernel_rfl) (by kernel_rfl) rfl (by exact fun _ _ _ h => h) (by rfl) ?_ (by assumption) ?_
        rotate_left
        · intro w hSw; (try dsimp only at hSw); go_simp; try (with_reducible rfl)
        try simp only [Act.put, List.setIfInBounds_toArray, List.set_cons_zero, List.set_cons_succ]
        refine take_runs (i := 2) (v := ?_) (by simp only [List.getElem?_toArray, List.getElem?_cons_succ, List.getElem?_cons_zero]; rfl) (by kernel_rfl) (by kernel_rfl) (by kernel_rfl) rfl (by exact fun _ _ _ h => h) (by rfl) ?_ (by assumption) ?_
        rotate_left
        · intro w hSw; (try dsimp only at hSw); go_simp; try (with_reducible rfl)
        try simp only [Act.put, List.setIfInBounds_toArray, List.set_cons_zero, List.set_cons_succ]
        refine take_runs (i := 3) (v := ?_) (by simp only [List.getElem?_toArray, List.getElem?_cons_succ, List.getElem?_cons_zero]; rfl) (by kernel_rfl) (by kernel_rfl) (by kernel_rfl) rfl (by exact fun _ _ _ h => h) (by rfl) ?_ (by assumption) ?_
        rotate_left
        · intro w hSw; (try dsimp only at hSw); go_simp; try (with_reducible rfl)
        try simp only [Act.put, List.setIfInBounds_toArray, List.set_cons_zero, List.set_cons_succ]
        refine take_runs (i := 4) (v := ?_) (by simp only [List.getElem?_toArray, List.getElem?_cons_succ, List.getElem?_cons_zero]; rfl) (by kernel_rfl) (by kernel_rfl) (by kernel_rfl) rfl (by exact fun _ _ _ h => h) (by rfl) ?_ (by assumption) ?_
        rotate_left
        · intro w hSw; (try dsimp only at hSw); go_simp; try (with_reducible rfl)
        try simp only [Act.put, List.setIfInBounds_toArray, List.set_cons_zero, List.set_cons_succ]
        refine take_runs (i := 5) (v := ?_) (by simp only [List.getElem?_toArray, List.getElem?_cons_succ, List.getElem?_cons_zero]; rfl) (by kernel_rfl) (by kernel_rfl) (by kernel_rfl) rfl (by exact fun _ _ _ h => h) (by rfl) ?_ (by assumption) ?_
        rotate_left
        · intro w hSw; (try dsimp only at hSw); go_simp; try (with_reducible rfl)
        try simp only [Act.put, List.setIfInBounds_toArray, List.set_cons_zero, List.set_cons_succ]
        refine take_runs (i := 6) (v := ?_) (by simp only [List.getElem?_toArray, List.getElem?_cons_succ, List.getElem?_cons_zero]; rfl) (by kernel_rfl) (by kernel_rfl) (by kernel_rfl) rfl (by exact fun _ _ _ h => h) (by rfl) ?_ (by assumption) ?_
        rotate_left
        · intro w hSw; (try dsimp only at hSw); go_simp; try (with_reducible rfl)
        try simp only [Act.put, List.setIfInBounds_toArray, List.set_cons_zero, List.set_cons_succ]
        refine take_runs (i := 7) (v := ?_) (by simp only [List.getElem?_toArray, List.getElem?_cons_succ, List.getElem?_cons_zero]; rfl) (by kernel_rfl) (by kernel_rfl) (by kernel_rfl) rfl (by exact fun _ _ _ h => h) (by rfl) ?_ (by assumption) ?_
        rotate_left
        · intro w hSw; (try dsimp only at hSw); go_simp; try (with_reducible rfl)
        try simp only [Act.put, List.setIfInBounds_toArray, List.set_cons_zero, List.set_cons_succ]
        refine take_runs (i := 8) (v := ?_) (by simp only [List.getElem?_toArray, List.getElem?_cons_succ, List.getElem?_cons_zero]; rfl) (by kernel_rfl) (by kernel_rfl) (by kernel_rfl) rfl (by exact fun _ _ _ h => h) (by rfl) ?_ (by assumption) ?_
        rotate_left
        · intro w hSw; (try dsimp only at hSw); go_simp; try (with_reducible rfl)
        try simp only [Act.put, List.setIfInBounds_toArray, List.set_cons_zero, List.set_cons_succ]
        refine take_runs (i := 9) (v := ?_) (by simp only [List.getElem?_toArray, List.getElem?_cons_succ, List.getElem?_cons_zero]; rfl) (by kernel_rfl) (by kernel_rfl) (by kernel_rfl) rfl (by exact fun _ _ _ h => h) (by rfl) ?_ (by assumption) ?_
        rotate_left
        · intro w hSw; (try dsimp only at hSw); go_simp; try (with_reducible rfl)
        try simp only [Act.put, List.setIfInBounds_toArray, List.set_cons_zero, List.set_cons_succ]
        refine wpAnyH_ready (rs := [10]) (by kernel_rfl) (by simp) ?_
        refine AllReadyH.cons (o := _) (by simp only [List.getElem?_toArray, List.getElem?_cons_succ, List.getElem?_cons_zero]; rfl) (fun K hK => ?_) AllReadyH.nil
        go_simp
        refine (HIN.out _).mono ?_
        rintro e w8 ⟨rfl, rfl⟩
        refine hK.out _ _ ⟨r1, e0, e1, e2, x3⟩ (fun hHeld => ?_)
        clear hK K
        try simp only [Act.put, List.setIfInBounds_toArray, List.set_cons_zero, List.set_cons_succ]
        refine take_runs (i := 11) (v := ?_) (by simp only [List.getElem?_toArray, List.getElem?_cons_succ, List.getElem?_cons_zero]; rfl) (by kernel_rfl) (by kernel_rfl) (by kernel_rfl) rfl (by exact fun _ _ _ h => h) (by rfl) ?_ (by assumption) ?_
        rotate_left
        · intro w hSw; (try dsimp only at hSw); go_simp; try (with_reducible rfl)
        try simp only [Act.put, List.setIfInBounds_toArray, List.set_cons_zero, List.set_cons_succ]
        refine wpAnyH_done (by kernel_rfl) ?_ _
        have c4 : Below W.heap.size W W3.drew := below_drew c3
        clear hHeld
        go_wp2
        go_ret
        exact ⟨ret_b HF.out.symm, HB0.out.trans (c4.mono HB0.out.size)⟩
    · obtain rfl : k = cs.length := by omega
      have HF := Lib.hid (HFB.out _ (all_ok hall.out))
      clear hall
      have i2 : ¬ (cs.length : Int) < (cs.length : Int) := by omega
      go_wp2_with fail
      refine (HR.out _ (ints_below HX.out hbel)).mono ?_
      rintro e u3 ⟨rfl, bu3⟩
      have cu3 := hbel.trans (bu3.mono hbel.size)
      clear p0 p1 p2 p3 r0 r1 bu3
      obtain ⟨p0, p1, p2, p3, r0, r1⟩ := qr_boxes HG0.out HG1.out HZ.out cu3
      go_wp2_with fail
      refine (HQ.out _ (condsR_below HC.out cu3) (ints_below HO.out cu3)).mono ?_
      rintro e u4 ⟨rfl, bu4⟩
      have cu4 := cu3.trans (bu4.mono cu3.size)
      clear p0 p1 p2 p3 r0 r1 bu4
      obtain ⟨p0, p1, p2, p3, r0, r1⟩ := qr_boxes HG0.out HG1.out HZ.out cu4
      go_wp2
      go_ret
      exact ⟨ret_b HF.out.symm, HB0.out.trans (cu4.mono HB0.out.size)⟩
theorem specMatchesRow (id tn rid : Int) (cv ov vv : Value) (cs : List CondD) (os xs : List Int) (w : World) (h : CondsR w cv cs) (hn : cs.length ≤ 1048576) (g : Ints w ov os) (hm : os.length ≤ 1048576) (gr : Ints w vv xs) (hx : xs.length ≤ 1048576) :
    Calls Try.prog 59 #[qV id tn cv ov, .agg #[.int .i64 rid, vv]] w fun e w' => e = .returned (.bool (matchB id tn cs os (rid, xs))) ∧ Below w.heap.size w w' := by
  cases hr : rowB (rid, xs) with
  | false => exact specMatch_noRow id tn rid cv ov vv cs os xs w h hn g hm gr hx hr
  | true =>
    cases hq : queryB id tn cs os with
    | false => exact specMatch_noQuery id tn rid cv ov vv cs os xs w h hn g hm gr hx hr hq
    | true => exact specMatch_both id tn rid cv ov vv cs os xs w h hn g hm gr hx hr hq
end Go.Proofs.Ytginjmnohnidiaa
namespace Go.Proofs.Ytginjmnohnidiaa
open Go.RowKit
set_option linter.unusedVariables false
theorem ownsN_cap {w : World} {B : Nat} {v : Value} {xs : List Int} (h : OwnsN w B v xs) : ∃ a cap, v = .slice a xs.length cap ∧ xs.length ≤ cap := by
  rcases h.2 with ⟨rfl, h0⟩ | ⟨g, cap, cur, rfl, hb, hg, hn, _⟩
  · exact ⟨none, 0, by rw [h0], by rw [h0]; exact Nat.le_refl _⟩
  · exact ⟨_, cap, rfl, hn⟩
theorem run_append_ints {w : World} {B : Nat} {v u : Value} {xs ys : List Int} (ty : TypeId) (hown : OwnsN w B v xs) (hu : Ints w u ys) (hB : B ≤ w.heap.size) (h63 : xs.length + ys.length ≤ 17592186044416) :
    ∃ v' w', (Builtin.append_ #[31, 31] ty #[v, u]).run Try.prog w = .ok v' w' ∧ OwnsN w' B v' (xs ++ ys) ∧ Below B w w' := by
  obtain ⟨i0, hi, hz0, hz1, hz2⟩ := info_parts Try.infoI64
  rcases hu with ⟨rfl, a', cap', rfl⟩ | ⟨b, off, cap', rfl, hcap, hbl, hc⟩
  · obtain ⟨a, cap, rfl, hle⟩ := ownsN_cap hown
    have hs : Src Try.prog i0.size 31 (.slice a' 0 cap') 0 [] w := by
      cases a' with
      | none => exact Src.ofNil w Try.underlying31 cap'
      | some ad => exact Src.ofSlice w Try.underlying31 ad 0 cap' [] (by simp) (by simp) (by simp)
    exact ⟨_, _, run_append_nothing w 31 31 ty 3 i0 Try.underlying31 hi a xs.length cap hle _ hs, by simpa using hown, Below.refl B w⟩
  · obtain ⟨v', w', hr, h2, h3, h4⟩ := run_append_own (P := Try.prog) w B 31 ty 3 i0 (.int .i64 0) 1 8 Try.underlying31 hi hz0 hz1 hz2 rfl (by decide) v xs.length _ hown ⟨b, off, none⟩ ys.length cap' (ys.map (Value.int .i64)) (by simp) (by
        intro j q hj
        rw [Go.WideShapes.add_plain]
        rw [List.getElem?_map] at hj
        by_cases hlt : j < ys.length
        · rw [hc j hlt]
          rw [List.getElem?_eq_getElem hlt] at hj
          simpa [List.getD, hlt] using hj
        · rw [List.getElem?_eq_none (by omega)] at hj
          simp at hj) (by intro q hq; simp at hq; obtain ⟨y, _, rfl⟩ := hq; rfl) (by unfold maxLen; omega) (by omega) hB
    refine ⟨v', w', hr, ?_, ?_⟩
    · unfold OwnsN
      simpa using h2
    · exact (Below.refl B w).grown h3 hB (fun k hk => (hown.lt k hk).1)
/-- As a step of a region taken by hand. -/
theorem step_append_ints {w : World} {ops : Array Oper} {o : Oper} {a : Act} {K : Act → World → Prop} {Q : Exit → Act → World → Prop} {E : Prop} (hwa : Region.wanted o (yielded ops a.tmps) = true) (s x : Operand)
    (ho : o.op = .call { callee := .builtin .append, args := #[s, x], argTypes := #[31, 31] })
    (B : Nat) (v u : Value) (xs ys : List Int) (hs : a.eval s = v) (hx : a.eval x = u) (hown : OwnsN w B v xs) (hu : Ints w u ys) (hB : B ≤ w.heap.size) (h63 : xs.length + ys.length ≤ 17592186044416)
    (h : ∀ v' w', OwnsN w' B v' (xs ++ ys) → Below B w w' → K (a.put o.dst v') w') : if Region.wanted o (yielded ops a.tmps) = true then Oper.wp Try.prog o a w K Q else E := by
  rw [if_pos hwa]
  obtain ⟨v', w', hr, h2, h3⟩ := run_append_ints o.type hown hu hB h63
  unfold Oper.wp execOp
  simp only [ho, resolve, invoke, builtin, Sem.run_bind, Sem.run_pure, Result.andThen_ok, List.map_toArray, List.map_cons, List.map_nil, hs, hx, hr]
  exact h v' w' h2 h3
end Go.Proofs.Ytginjmnohnidiaa
namespace Go.Proofs.Ytginjmnohnidiaa
open Go.RowKit
/-- Numbers in new memory are answered. -/
def FreshInts (w : World) (xs : List Int) (e : Ending) (w' : World) : Prop := ∃ v, e = .returned v ∧ OwnsN w' w.heap.size v xs ∧ Below w.heap.size w w'
end Go.Proofs.Ytginjmnohnidiaa
namespace Go.Proofs.Ytginjmnohnidiaa
open Go.RowKit
set_option linter.unusedVariables false
set_option linter.unusedSimpArgs false
end Go.Proofs.Ytginjmnohnidiaa
namespace Go.Proofs.Ytginjmnohnidiaa
open Go.RowKit
set_option linter.unusedVariables false
/-- The slice v owns the rows rs, the values of row j in the slice vs j. -/
def OwnsV (w : World) (B : Nat) (v : Value) (rs : List RowD) (vs : Nat → Value) : Prop :=
  ∃ (cs : List Value), w.ownsRow B 76 2 v rs.length cs ∧
    (∀ j, j < rs.length → cs[j * 2]? = some (.int .i64 (rs.getD j (0, [])).1) ∧ cs[j * 2 + 1]? = some (vs j) ∧ OwnsN w B (vs j) (rs.getD j (0, [])).2 ∧ ∀ b, (vs j).ownBlock = some b → v.ownBlock ≠ some b) ∧
    ∀ i j, i < rs.length → j < rs.length → i ≠ j → ∀ b, (vs i).ownBlock = some b → (vs j).ownBlock ≠ some b
theorem ownsV_of {w : World} {B : Nat} {v : Value} {rs : List RowD} (h : OwnsR w B v rs) : ∃ vs, OwnsV w B v rs vs := by
  obtain ⟨cs, vs, h⟩ := h
  exact ⟨vs, cs, h⟩
theorem ownsR_of {w : World} {B : Nat} {v : Value} {rs : List RowD} {vs : Nat → Value} (h : OwnsV w B v rs vs) : OwnsR w B v rs := by
  obtain ⟨cs, h⟩ := h
  exact ⟨cs, vs, h⟩
/-- Only blocks from B up to hi have turned. -/
structure Only (B hi : Nat) (w w' : World) : Prop where
  os : w'.os = w.os
  tape : w'.tape = w.tape
  output : w'.output = w.output
  size : w.heap.size ≤ w'.heap.size
  block : ∀ k, k < w.heap.size → (k < B ∨ hi ≤ k) → w'.heap[k]? = w.heap[k]?
theorem Only.refl (B hi : Nat) (w : World) : Only B hi w w := ⟨rfl, rfl, rfl, Nat.le_refl _, fun _ _ _ => rfl⟩
theorem Only.trans {B hi : Nat} {a b c : World} (h : Only B hi a b) (k : Only B hi b c) : Only B hi a c :=
  ⟨k.os.trans h.os, k.tape.trans h.tape, k.output.trans h.output, Nat.le_trans h.size k.size, fun i hi' hn => (k.block i (Nat.lt_of_lt_of_le hi' h.size) hn).trans (h.block i hi' hn)⟩
theorem only_grown {B hi : Nat} {w w' : World} {row : Option Nat} (h : w.grownBy w' row) (hr : ∀ b, row = some b → B ≤ b ∧ b < hi) : Only B hi w w' :=
  ⟨h.os, h.tape, h.output, h.size, fun k hk hn => h.block k hk (fun e => by have := hr k e.symm; omega)⟩
theorem only_below {B hi C : Nat} {a w w' : World} (h : Below C a w) (k : Only B hi w w') (hC : C ≤ B) (hs : C ≤ w.heap.size) : Below C a w' :=
  h.trans ⟨k.os, k.tape, k.output, k.size, fun i hi' => k.block i (by omega) (Or.inl (by omega))⟩
/-- What is owned beside the range stays. -/
theorem ownsR_only {B hi C : Nat} {w w' : World} {v : Value} {rs : List RowD} (h : OwnsR w C v rs) (k : Only B hi w w') (hc : hi ≤ C) : OwnsR w' C v rs := by
  obtain ⟨cs, vs, h1, h2, h3⟩ := h
  have hk : ∀ {e : TypeId} {size : Nat} {u : Value} {n : Nat} {xs : List Value}, w.ownsRow C e size u n xs → w'.ownsRow C e size u n xs := by
    intro e size u n xs hu
    refine ⟨hu.1, ?_⟩
    rcases hu.2 with hn | ⟨g, cap, cur, rfl, hb', hg, rest⟩
    · exact .inl hn
    · refine .inr ⟨g, cap, cur, rfl, hb', ?_, rest⟩
      rw [k.block g (Array.getElem?_eq_some_iff.1 hg).1 (Or.inr (by omega))]
      exact hg
  exact ⟨cs, vs, hk h1, fun j hj => ⟨(h2 j hj).1, (h2 j hj).2.1, hk (h2 j hj).2.2.1, (h2 j hj).2.2.2⟩, h3⟩
/-- The mark of row j. -/
def mkAt (rs : List RowD) (k : Int) (j : Nat) : Int := k + (j : Int) + ((((rs.take j).map fun r => r.2.length).sum : Nat) : Int)
def mRow (rs : List RowD) (k : Int) (j : Nat) : RowD := (mkAt rs k j, marks (mkAt rs k j + 1) (rs.getD j (0, [])).2.length)
def markTo (rs : List RowD) (k : Int) (j : Nat) : List RowD := (List.range j).map (mRow rs k) ++ rs.drop j
def mRows (rs : List RowD) (k : Int) : List RowD := (List.range rs.length).map (mRow rs k)
theorem mkAt_zero (rs : List RowD) (k : Int) : mkAt rs k 0 = k := by simp [mkAt]
theorem mkAt_step {rs : List RowD} {k : Int} {j : Nat} (hj : j < rs.length) : mkAt rs k (j + 1) = mkAt rs k j + 1 + ((rs.getD j (0, [])).2.length : Int) := by
  unfold mkAt
  have e : rs.getD j (0, []) = rs[j] := by simp [List.getD, hj]
  rw [e, List.take_succ_eq_append_getElem hj, List.map_append, List.sum_append]
  simp; omega
theorem mkAt_range {rs : List RowD} {k : Int} {j : Nat} (hs : szL rs ≤ 1048576) (hj : j ≤ rs.length) : k ≤ mkAt rs k j ∧ mkAt rs k j ≤ k + 1048576 := by
  have h1 := szTo_le hj
  unfold szTo at h1
  unfold mkAt
  omega
theorem markTo_len {rs : List RowD} {k : Int} {j : Nat} (hj : j ≤ rs.length) : (markTo rs k j).length = rs.length := by simp [markTo]; omega
theorem markTo_at {rs : List RowD} {k : Int} {j : Nat} (hj : j < rs.length) : (markTo rs k j).getD j (0, []) = rs.getD j (0, []) := by
  unfold markTo
  simp only [List.getD]
  rw [List.getElem?_append_right (by simp), List.getElem?_drop]
  simp
theorem markTo_step {rs : List RowD} {k : Int} {j : Nat} (hj : j < rs.length) : (markTo rs k j).set j (mRow rs k j) = markTo rs k (j + 1) := by
  unfold markTo
  rw [List.set_append_right _ _ (by simp), List.drop_eq_getElem_cons hj, List.range_succ, List.map_append]
  simp only [List.length_map, List.length_range, Nat.sub_self, List.set_cons_zero, List.map_cons, List.map_nil, List.append_assoc, List.cons_append, List.nil_append]
theorem markTo_all (rs : List RowD) (k : Int) : markTo rs k rs.length = mRows rs k := by simp [markTo, mRows]
theorem markTo_zero (rs : List RowD) (k : Int) : markTo rs k 0 = rs := by simp [markTo]
/-- Row j is marked: its number is stored, and its values are turned within their own block. -/
theorem ownsV_mark {w w2 : World} {B g n cap : Nat} {rs : List RowD} {vs : Nat → Value} (h : OwnsV w B (.slice (some ⟨g, 0, none⟩) n cap) rs vs) {j : Nat} (hj : j < rs.length) (m : Int) {ys : List Int}
    (hg : (w.setCell ⟨g, j * 2, none⟩ (.int .i64 m)).grownBy w2 (vs j).ownBlock) (ho : OwnsN w2 B (vs j) ys) : OwnsV w2 B (.slice (some ⟨g, 0, none⟩) n cap) (rs.set j (m, ys)) vs := by
  obtain ⟨cs, h1, h2, h3⟩ := h
  have hn : n = rs.length := by
    rcases h1.2 with ⟨h', _⟩ | ⟨_, _, _, h', _⟩
    · simp at h'
    · simp only [Value.slice.injEq] at h'; exact h'.2.1
  subst hn
  have hcl : cs.length = rs.length * 2 := h1.1
  have s1 := (World.ownsRow.stored h1 (j * 2) (.int .i64 m)).1
  have hgv : (Value.slice (some ⟨g, 0, none⟩) rs.length cap).ownBlock = some g := rfl
  have hne : (vs j).ownBlock ≠ some g := fun e => (h2 j hj).2.2.2 g e hgv
  have s2 := s1.kept hg (Or.inr (by rw [hgv]; exact fun e => hne e.symm))
  refine ⟨cs.set (j * 2) (.int .i64 m), by rw [List.length_set]; exact s2, ?_, ?_⟩
  · intro i hi
    rw [List.length_set] at hi
    obtain ⟨g1, g2, g3, g4⟩ := h2 i hi
    by_cases e : i = j
    · subst e
      have er : (rs.set i ((m, ys) : RowD)).getD i (0, []) = (m, ys) := by simp [List.getD, hi]
      rw [er]
      exact ⟨by rw [List.getElem?_set_self (by omega)], by rw [List.getElem?_set_ne (by omega)]; exact g2, ho, g4⟩
    · have er : (rs.set j ((m, ys) : RowD)).getD i (0, []) = rs.getD i (0, []) := by simp [List.getD, List.getElem?_set_ne (Ne.symm e)]
      rw [er]
      refine ⟨by rw [List.getElem?_set_ne (by omega)]; exact g1, by rw [List.getElem?_set_ne (by omega)]; exact g2, ?_, g4⟩
      have hp1 : (vs i).ownBlock = none ∨ (vs i).ownBlock ≠ some g := by
        cases eb : (vs i).ownBlock with
        | none => exact Or.inl rfl
        | some b => exact Or.inr (fun q => g4 b eb (by rw [hgv, q]))
      have hp2 : (vs i).ownBlock = none ∨ (vs i).ownBlock ≠ (vs j).ownBlock := by
        cases eb : (vs i).ownBlock with
        | none => exact Or.inl rfl
        | some b => exact Or.inr (fun q => h3 i j hi hj e b eb q.symm)
      exact (World.ownsRow.kept g3 (grow_set w g (j * 2) _) hp1).kept hg hp2
  · intro i i' hi hi' hii b hb
    rw [List.length_set] at hi hi'
    exact h3 i i' hi hi' hii b hb
end Go.Proofs.Ytginjmnohnidiaa
namespace Go.Proofs.Ytginjmnohnidiaa
open Go.RowKit
set_option linter.unusedVariables false
set_option linter.unusedSimpArgs false
/-- The conditions (k, k + 1, k + 2), (k + 3, ..), .. -/
def mCond (k : Int) (i : Nat) : CondD := (k + 3 * (i : Int), k + 3 * (i : Int) + 1, k + 3 * (i : Int) + 1 + 1)
def marksC (k : Int) (n : Nat) : List CondD := (List.range n).map (mCond k)
theorem marksC_length (k : Int) (n : Nat) : (marksC k n).length = n := by simp [marksC]
def markedCTo (cs : List CondD) (k : Int) (j : Nat) : List CondD := marksC k j ++ cs.drop j
theorem markedCTo_step (cs : List CondD) (k : Int) (j : Nat) (h : j < cs.length) : (markedCTo cs k j).set j (mCond k j) = markedCTo cs k (j + 1) := by
  unfold markedCTo
  rw [List.set_append_right _ _ (by rw [marksC_length]; exact Nat.le_refl _), marksC_length, Nat.sub_self, List.drop_eq_getElem_cons h, List.set_cons_zero]
  simp [marksC, List.range_succ]
theorem markedCTo_length (cs : List CondD) (k : Int) (j : Nat) (h : j ≤ cs.length) : (markedCTo cs k j).length = cs.length := by
  unfold markedCTo; rw [List.length_append, marksC_length, List.length_drop]; omega
theorem markedCTo_all (cs : List CondD) (k : Int) : markedCTo cs k cs.length = marksC k cs.length := by unfold markedCTo; simp
theorem ownsC_form {w : World} {B : Nat} {v : Value} {cs : List CondD} (h : OwnsC w B v cs) : (v = .slice none 0 0 ∧ cs = []) ∨ ∃ g cap, v = .slice (some ⟨g, 0, none⟩) cs.length cap ∧ B ≤ g ∧ g < w.heap.size := by
  rcases h.2 with ⟨e, h0⟩ | ⟨g, cap, cur, e, hb, hg, rest⟩
  · exact Or.inl ⟨e, List.eq_nil_of_length_eq_zero h0⟩
  · exact Or.inr ⟨g, cap, e, hb, (Array.getElem?_eq_some_iff.1 hg).1⟩
def MarkedC (w : World) (B : Nat) (v : Value) (n : Nat) (k : Int) (e : Ending) (w' : World) : Prop := e = .returned (.int .i64 (k + 3 * (n : Int))) ∧ OwnsC w' B v (marksC k n) ∧ w.grownBy w' v.ownBlock
set_option maxHeartbeats 4000000 in
set_option maxRecDepth 100000 in
theorem markCondS_any (v : Value) (cs : List CondD) (B : Nat) (k : Int) (w : World) (h : OwnsC w B v cs) (hn : cs.length ≤ 1048576) (k0 : 0 ≤ k) (k1 : k ≤ 1073741824) :
    Calls Try.prog 66 #[v, .int .i64 k] w (MarkedC w B v cs.length k) := by
  have H := Lib.hid h
  rcases ownsC_form h with ⟨rfl, rfl⟩ | ⟨g, cap, rfl, hBg, hgl⟩
  · clear h
    go_enter Try.func66, Try.ntmps66
    go_wp2
    go_loop [1, 5] (fun m i => i = .int .i64 0 ∧ m = .int .i64 k) (fun _ _ => 0)
    case atStart => exact ⟨rfl, rfl⟩
    case round =>
      obtain ⟨rfl, rfl⟩ := hrel
      go_wp2
      go_ret
      exact ⟨by simp, by rw [show marksC k 0 = [] from rfl]; exact H.out, World.grownBy.refl _ _⟩
  · clear h
    go_enter Try.func66, Try.ntmps66
    go_wp2
    go_loopw [1, 5] (fun m i wr => ∃ j : Nat, j ≤ cs.length ∧ i = .int .i64 j ∧ m = .int .i64 (k + 3 * (j : Int)) ∧ OwnsC wr B (.slice (some ⟨g, 0, none⟩) cs.length cap) (markedCTo cs k j) ∧ w.grownBy wr (some g)) (fun _ i _ => cs.length - (intOf i).toNat)
    case atStart => exact ⟨0, Nat.zero_le _, rfl, by simp, by rw [show markedCTo cs k 0 = cs by simp [markedCTo, marksC]]; exact H.out, World.grownBy.refl _ _⟩
    case round =>
      obtain ⟨j, hj, rfl, rfl, hown, hgr⟩ := hrel
      by_cases hlt : j < cs.length
      · have i1 : (0 : Int) ≤ (j : Int) := by omega
        have i2 : (j : Int) < (cs.length : Int) := by omega
        have hl : j < (markedCTo cs k j).length := by rw [markedCTo_length cs k j hj]; exact hlt
        obtain ⟨⟨x0, q0⟩, ⟨x1, q1⟩, ⟨x2, q2⟩, f0, f1, f2⟩ := ownsC_cells hown hl
        have hst := ownsC_store hown hl (mCond k j)
        rw [markedCTo_step cs k j hlt] at hst
        unfold mCond at hst
        simp only at hst
        have hg2 := grown_more (grown_more (grown_more hgr (grownBy_store wr g (j * 3) (.int .i64 (k + 3 * (j : Int))))) (grownBy_store _ g (j * 3 + 1) (.int .i64 (k + 3 * (j : Int) + 1)))) (grownBy_store _ g (j * 3 + 2) (.int .i64 (k + 3 * (j : Int) + 1 + 1)))
        have HST := Lib.hid hst
        have HG2 := Lib.hid hg2
        clear hst hown hgr hg2 hl
        go_wp2
        go_roundw
        case rel => exact ⟨j + 1, by omega, by go_num, by simp; omega, HST.out, HG2.out⟩
        case measure => simp [intOf]; omega
      · obtain rfl : j = cs.length := by omega
        rw [markedCTo_all] at hown
        go_wp2
        go_ret
        exact ⟨rfl, hown, hgr⟩
theorem ownsC_beside {w w' : World} {B : Nat} {v : Value} {cs : List CondD} {r : Option Nat} (h : OwnsC w B v cs) (hg : w.grownBy w' r) (hne : ∀ b, v.ownBlock = some b → r ≠ some b) : OwnsC w' B v cs := by
  refine h.kept hg ?_
  cases hv : v.ownBlock with
  | none => exact Or.inl rfl
  | some k => exact Or.inr (fun e => hne k hv e.symm)
theorem ownsN_beside {w w' : World} {B : Nat} {v : Value} {xs : List Int} {r : Option Nat} (h : OwnsN w B v xs) (hg : w.grownBy w' r) (hne : ∀ b, v.ownBlock = some b → r ≠ some b) : OwnsN w' B v xs := by
  refine h.kept hg ?_
  cases hv : v.ownBlock with
  | none => exact Or.inl rfl
  | some k => exact Or.inr (fun e => hne k hv e.symm)
def MarkedQ (w : World) (B hi : Nat) (cv ov : Value) (n m : Nat) (k : Int) (e : Ending) (w' : World) : Prop :=
  e = .returned (.int .i64 (k + 3 * (n : Int) + (m : Int))) ∧ OwnsC w' B cv (marksC k n) ∧ OwnsN w' B ov (marks (k + 3 * (n : Int)) m) ∧ Only B hi w w'
set_option maxHeartbeats 4000000 in
set_option maxRecDepth 100000 in
theorem markQuery_any (id tn : Int) (cv ov : Value) (cs : List CondD) (os : List Int) (B hi : Nat) (k : Int) (w : World) (h : OwnsC w B cv cs) (g : OwnsN w B ov os) (hd : ∀ b, cv.ownBlock = some b → ov.ownBlock ≠ some b)
    (hc : ∀ b, cv.ownBlock = some b → b < hi) (ho : ∀ b, ov.ownBlock = some b → b < hi) (hhi : hi ≤ w.heap.size) (hn : cs.length ≤ 1048576) (hm : os.length ≤ 1048576) (k0 : 0 ≤ k) (k1 : k ≤ 1048576) :
    Calls Try.prog 24 #[qV id tn cv ov, .int .i64 k] w (MarkedQ w B hi cv ov cs.length os.length k) := by
  obtain ⟨ca, ccap, rfl⟩ := ownsC_len h
  obtain ⟨oa, ocap, rfl⟩ := ints_len (ownsN_ints g)
  have hb : Below w.heap.size w (w.alloc (.cells #[.int .i64 id, .int .i64 tn, .slice ca cs.length ccap, .slice oa os.length ocap] 38)) := (Below.refl _ w).alloc (Nat.le_refl _) _
  have hq := heap_alloc_new w (.cells #[.int .i64 id, .int .i64 tn, .slice ca cs.length ccap, .slice oa os.length ocap] 38)
  have HC := Lib.hid (markCondS_any (.slice ca cs.length ccap) cs B k _ (ownsC_below h hb) hn k0 (by omega))
  have HO := Lib.hid (ownsN_below g hb)
  have hsz : w.heap.size < (w.alloc (.cells #[.int .i64 id, .int .i64 tn, .slice ca cs.length ccap, .slice oa os.length ocap] 38)).heap.size := by simp
  have o1 : Only B hi w (w.alloc (.cells #[.int .i64 id, .int .i64 tn, .slice ca cs.length ccap, .slice oa os.length ocap] 38)) := ⟨hb.os, hb.tape, hb.output, hb.size, fun j hj _ => hb.block j hj⟩
  have HLC := Lib.hid h.lt
  have HLO := Lib.hid g.lt
  have HD := Lib.hid hd
  have HHC := Lib.hid hc
  have HHO := Lib.hid ho
  have O1 := Lib.hid o1
  have HSZ := Lib.hid hsz
  have HQ := Lib.hid hq
  have HK := Lib.hid (fun w (h : OwnsN w B (.slice oa os.length ocap) os) => markIntS_any (.slice oa os.length ocap) os B (k + 3 * (cs.length : Int)) w h hm (by omega) (by omega))
  clear h g hd hc ho hb hq hsz o1
  go_enter Try.func24, Try.ntmps24
  go_wp2_with fail
  generalize w.alloc (.cells #[.int .i64 id, .int .i64 tn, .slice ca cs.length ccap, .slice oa os.length ocap] 38) = W at *
  refine HC.out.mono ?_
  rintro e w1 ⟨rfl, oc1, g1⟩
  have oc := Lib.hid oc1
  have on1 := ownsN_beside HO.out g1 (fun b hb e => HD.out b e hb)
  have hq1 := (g1.block w.heap.size HSZ.out (fun e => absurd (HLC.out _ e.symm).2 (Nat.lt_irrefl _))).trans HQ.out
  have o2 := O1.out.trans (only_grown g1 (fun b hb => ⟨(HLC.out b hb).1, HHC.out b hb⟩))
  have p3 := (cell_of_row w1 _ 3 _ _ _ hq1).trans (show _ = some (Value.slice oa os.length ocap) from rfl)
  have O2 := Lib.hid o2
  have ON := Lib.hid on1
  clear oc1 on1 g1 hq1 o2 O1 HO HQ
  go_wp2_with fail
  refine (HK.out _ ON.out).mono ?_
  rintro e w2 ⟨rfl, on2, g2⟩
  have oc2 := ownsC_beside oc.out g2 (fun b hb e => HD.out b hb e)
  have o3 := O2.out.trans (only_grown g2 (fun b hb => ⟨(HLO.out b hb).1, HHO.out b hb⟩))
  clear p3
  go_wp2
  go_ret
  exact ⟨rfl, oc2, on2, o3⟩
end Go.Proofs.Ytginjmnohnidiaa
namespace Go.Proofs.Ytginjmnohnidiaa
open Go.RowKit
set_option linter.unusedVariables false
theorem ownsR_form {w : World} {B : Nat} {v : Value} {rs : List RowD} (h : OwnsR w B v rs) : (v = .slice none 0 0 ∧ rs = []) ∨ ∃ g cap, v = .slice (some ⟨g, 0, none⟩) rs.length cap ∧ B ≤ g ∧ g < w.heap.size := by
  obtain ⟨cs, vs, h1, _⟩ := h
  have h1' := h1
  rcases h1.2 with ⟨rfl, h0⟩ | ⟨g, cap, cur, rfl, hb, hg, _⟩
  · exact Or.inl ⟨rfl, List.eq_nil_of_length_eq_zero h0⟩
  · exact Or.inr ⟨g, cap, rfl, hb, (Array.getElem?_eq_some_iff.1 hg).1⟩
theorem ownsV_cells {w : World} {B g n cap : Nat} {rs : List RowD} {vs : Nat → Value} (h : OwnsV w B (.slice (some ⟨g, 0, none⟩) n cap) rs vs) {j : Nat} (hj : j < rs.length) :
    w.cell? ⟨g, j * 2, none⟩ = some (.int .i64 (rs.getD j (0, [])).1) ∧ w.cell? ⟨g, j * 2 + 1, none⟩ = some (vs j) ∧ w.frozen? ⟨g, j * 2, none⟩ = false ∧ OwnsN w B (vs j) (rs.getD j (0, [])).2 ∧ (vs j).ownBlock ≠ some g := by
  obtain ⟨cs, h1, h2, _⟩ := h
  obtain ⟨g1, g2, g3, g4⟩ := h2 j hj
  have hn : n = rs.length := by
    rcases h1.2 with ⟨h', _⟩ | ⟨_, _, _, h', _⟩
    · simp at h'
    · simp only [Value.slice.injEq] at h'; exact h'.2.1
  subst hn
  exact ⟨(World.ownsRow.cellAt h1 (j * 2) (by omega)).trans g1, (World.ownsRow.cellAt h1 (j * 2 + 1) (by omega)).trans g2, World.ownsRow.frozenAt h1 _, g3, fun e => g4 g e rfl⟩
theorem ownsV_below {w w' : World} {B : Nat} {v : Value} {rs : List RowD} {vs : Nat → Value} (h : OwnsV w B v rs vs) (hb : Below w.heap.size w w') : OwnsV w' B v rs vs := by
  obtain ⟨cs, h1, h2, h3⟩ := h
  exact ⟨cs, ownsRow_below h1 hb, fun j hj => ⟨(h2 j hj).1, (h2 j hj).2.1, ownsN_below (h2 j hj).2.2.1 hb, (h2 j hj).2.2.2⟩, h3⟩
set_option maxHeartbeats 4000000 in
set_option maxRecDepth 100000 in
theorem markRowS_V (v : Value) (rs : List RowD) (vs : Nat → Value) (B hi : Nat) (k : Int) (w : World) (hv : OwnsV w B v rs vs) (hvb : ∀ j, j < rs.length → ∀ b, (vs j).ownBlock = some b → b < hi) (hgb : ∀ b, v.ownBlock = some b → b < hi) (hs : szL rs ≤ 1048576) (k0 : 0 ≤ k) (k1 : k ≤ 16777216) :
    Calls Try.prog 17 #[v, .int .i64 k] w fun e w' => e = .returned (.int .i64 (mkAt rs k rs.length)) ∧ OwnsR w' B v (mRows rs k) ∧ Only B hi w w' := by
  have h := ownsR_of hv
  have HS := Lib.hid hs
  have hlen := szL_len hs
  rcases ownsR_form h with ⟨rfl, rfl⟩ | ⟨g, cap, rfl, hBg, hgw⟩
  · have H := Lib.hid h
    clear h hs hv hvb hgb
    go_enter Try.func17, Try.ntmps17
    go_wp2
    go_loop [1, 5] (fun m i => i = .int .i64 0 ∧ m = .int .i64 k) (fun _ _ => 0)
    case atStart => exact ⟨rfl, rfl⟩
    case round =>
      obtain ⟨rfl, rfl⟩ := hrel
      go_wp2
      go_ret
      exact ⟨by simp [mkAt], by rw [show mRows [] k = [] from rfl]; exact H.out, Only.refl _ _ _⟩
  · have HV : Hid (∀ j, j < rs.length → ∀ b, (vs j).ownBlock = some b → B ≤ b ∧ b < hi) := Lib.hid (fun j hj b hb => by
      obtain ⟨_, _, _, ho, _⟩ := ownsV_cells hv hj
      exact ⟨(ho.lt b hb).1, hvb j hj b hb⟩)
    have hgl : g < hi := hgb g rfl
    have HO := Lib.hid hv
    clear h hs hv hvb hgb hgw
    go_enter Try.func17, Try.ntmps17
    go_wp2
    go_loopw [1, 5] (fun m i wr => ∃ j : Nat, j ≤ rs.length ∧ i = .int .i64 j ∧ m = .int .i64 (mkAt rs k j) ∧ OwnsV wr B (.slice (some ⟨g, 0, none⟩) rs.length cap) (markTo rs k j) vs ∧ Only B hi w wr) (fun _ i _ => rs.length - (intOf i).toNat)
    case atStart => exact ⟨0, Nat.zero_le _, rfl, by rw [mkAt_zero], by rw [markTo_zero]; exact HO.out, Only.refl _ _ _⟩
    case round =>
      obtain ⟨j, hj, rfl, rfl, hown, hon⟩ := hrel
      by_cases hlt : j < rs.length
      · have i1 : (0 : Int) ≤ (j : Int) := by omega
        have i2 : (j : Int) < (rs.length : Int) := by omega
        have hjl : j < (markTo rs k j).length := by rw [markTo_len hj]; exact hlt
        obtain ⟨c1, c2, f1, o1, n1⟩ := ownsV_cells hown hjl
        rw [markTo_at hlt] at c1 o1
        obtain ⟨r1, r2⟩ := mkAt_range (k := k) HS.out hj
        have hxl := szL_row HS.out hlt
        have hstep := mkAt_step (k := k) hlt
        have hset := Lib.hid (markTo_step (k := k) hlt)
        have hmr : mRow rs k j = (mkAt rs k j, marks (mkAt rs k j + 1) (rs.getD j (0, [])).2.length) := rfl
        rw [hmr] at hset
        generalize mkAt rs k j = m at *
        have HM : Hid (∃ m', mkAt rs k (j + 1) = m') := Lib.hid ⟨_, rfl⟩
        obtain ⟨m', hm'⟩ := HM.out
        rw [hm'] at hstep
        have HM' := Lib.hid hm'
        clear hm' HM
        have HOW := Lib.hid (fun w2 => ownsV_mark (w2 := w2) hown hjl m (ys := marks (m + 1) (rs.getD j (0, [])).2.length))
        rw [hset.out] at HOW
        generalize rs.getD j (0, []) = r at *
        obtain ⟨id, xs⟩ := r
        simp only at c1 o1 hxl hstep HOW
        have hne : (vs j).ownBlock = none ∨ (vs j).ownBlock ≠ some g := Or.inr n1
        have o2 : OwnsN (wr.setCell ⟨g, j * 2, none⟩ (.int .i64 m)) B (vs j) xs := World.ownsRow.kept o1 (grow_set wr g (j * 2) _) hne
        have HVJ := Lib.hid (HV.out j hlt)
        generalize vs j = u at *
        clear hown n1 hne o1 HV HO
        go_wp2_with fail
        refine (markIntS_any u xs B (m + 1) _ o2 hxl (by omega) (by omega)).mono ?_
        rintro e w2 ⟨rfl, ou, hg⟩
        have hv2 := Lib.hid (HOW.out w2 hg ou)
        have hon2 := (hon.trans (only_grown (grow_set wr g (j * 2) (.int .i64 m)) (fun b hb => by cases hb; exact ⟨hBg, hgl⟩))).trans (only_grown hg HVJ.out)
        clear HOW ou hg hon
        have hmm : m + 1 + (xs.length : Int) = m' := by omega
        rw [hmm]
        clear hmm hstep hmr hset
        go_wp2
        go_roundw
        case rel => exact ⟨j + 1, by omega, by go_num, by rw [HM'.out], hv2.out, hon2⟩
        case measure => simp [intOf]; omega
      · obtain rfl : j = rs.length := by omega
        rw [markTo_all] at hown
        go_wp2
        go_ret
        exact ⟨rfl, ownsR_of hown, hon⟩
theorem ownsV_bound {w : World} {B : Nat} {v : Value} {rs : List RowD} {vs : Nat → Value} (h : OwnsV w B v rs vs) : (∀ j, j < rs.length → ∀ b, (vs j).ownBlock = some b → b < w.heap.size) ∧ ∀ b, v.ownBlock = some b → b < w.heap.size := by
  obtain ⟨cs, h1, h2, _⟩ := h
  exact ⟨fun j hj b hb => ((h2 j hj).2.2.1.lt b hb).2, fun b hb => (h1.lt b hb).2⟩
theorem markRowS_any (v : Value) (rs : List RowD) (B : Nat) (k : Int) (w0 w : World) (h0 : OwnsR w0 B v rs) (hb0 : Below w0.heap.size w0 w) (hs : szL rs ≤ 1048576) (k0 : 0 ≤ k) (k1 : k ≤ 1048576) :
    Calls Try.prog 17 #[v, .int .i64 k] w fun e w' => e = .returned (.int .i64 (mkAt rs k rs.length)) ∧ OwnsR w' B v (mRows rs k) ∧ Only B w0.heap.size w w' := by
  obtain ⟨vs, hv0⟩ := ownsV_of h0
  exact markRowS_V v rs vs B w0.heap.size k w (ownsV_below hv0 hb0) (ownsV_bound hv0).1 (ownsV_bound hv0).2 hs k0 (by omega)
theorem ownsV_only {B hi C : Nat} {w w' : World} {v : Value} {rs : List RowD} {vs : Nat → Value} (h : OwnsV w C v rs vs) (k : Only B hi w w') (hc : hi ≤ C) : OwnsV w' C v rs vs := by
  obtain ⟨cs, h1, h2, h3⟩ := h
  have hk : ∀ {e : TypeId} {size : Nat} {u : Value} {n : Nat} {xs : List Value}, w.ownsRow C e size u n xs → w'.ownsRow C e size u n xs := by
    intro e size u n xs hu
    refine ⟨hu.1, ?_⟩
    rcases hu.2 with hn | ⟨g, cap, cur, rfl, hb', hg, rest⟩
    · exact .inl hn
    · refine .inr ⟨g, cap, cur, rfl, hb', ?_, rest⟩
      rw [k.block g (Array.getElem?_eq_some_iff.1 hg).1 (Or.inr (by omega))]
      exact hg
  exact ⟨cs, hk h1, fun j hj => ⟨(h2 j hj).1, (h2 j hj).2.1, hk (h2 j hj).2.2.1, (h2 j hj).2.2.2⟩, h3⟩
theorem mRows_len (rs : List RowD) (k : Int) : (mRows rs k).length = rs.length := by simp [mRows]
theorem mRows_at {rs : List RowD} {k : Int} {j : Nat} (hj : j < rs.length) : (mRows rs k).getD j (0, []) = (mkAt rs k j, marks (mkAt rs k j + 1) (rs.getD j (0, [])).2.length) := by
  simp [mRows, List.getD, hj, mRow]
set_option maxHeartbeats 4000000 in
set_option maxRecDepth 100000 in
theorem heldRowS_any (v : Value) (rs : List RowD) (k : Int) (w : World) (h : RowsR w v (mRows rs k)) (hs : szL rs ≤ 1048576) (k0 : 0 ≤ k) (k1 : k ≤ 1048576) :
    Calls Try.prog 18 #[v, .int .i64 k] w fun e w' => e = .returned (.int .i64 (mkAt rs k rs.length)) ∧ w = w' := by
  have HS := Lib.hid hs
  have H := Lib.hid h
  have hlen := szL_len hs
  obtain ⟨a, cap, rfl⟩ := rowsR_len h
  rw [mRows_len] at H ⊢
  clear h hs
  go_enter Try.func18, Try.ntmps18
  go_wp2
  go_loop [1, 5] (fun m i => ∃ j : Nat, j ≤ rs.length ∧ i = .int .i64 j ∧ m = .int .i64 (mkAt rs k j)) (fun _ i => rs.length - (intOf i).toNat)
  case atStart => exact ⟨0, Nat.zero_le _, rfl, by rw [mkAt_zero]⟩
  case round =>
    obtain ⟨j, hj, rfl, rfl⟩ := hrel
    by_cases hlt : j < rs.length
    · obtain ⟨b, off, cap', vv, hv, hbl, hc1, hc2, hI⟩ := rowsR_at H.out (k := j) (by rw [mRows_len]; exact hlt)
      rw [mRows_len] at hv
      simp only [Value.slice.injEq] at hv
      obtain ⟨rfl, _, rfl⟩ := hv
      rw [mRows_at hlt] at hc1 hI
      have i1 : (0 : Int) ≤ (j : Int) := by omega
      have i2 : (j : Int) < (rs.length : Int) := by omega
      obtain ⟨r1, r2⟩ := mkAt_range (k := k) HS.out hj
      have hxl := szL_row HS.out hlt
      have hstep := mkAt_step (k := k) hlt
      have HM : Hid (∃ m', mkAt rs k (j + 1) = m') := Lib.hid ⟨_, rfl⟩
      obtain ⟨m', hm'⟩ := HM.out
      rw [hm'] at hstep
      have HM' := Lib.hid hm'
      clear hm' HM
      generalize mkAt rs k j = m at *
      simp only at hc1 hI
      generalize (rs.getD j (0, [])).2.length = n at *
      have hnn : ¬ m' < 0 := by omega
      clear H
      go_wp2_with fail
      refine (heldIntS_any vv n (m + 1) _ hI hxl (by omega) (by omega)).mono ?_
      rintro e w2 ⟨rfl, rfl⟩
      have hmm : m + 1 + (n : Int) = m' := by omega
      rw [hmm]
      clear hmm hstep
      go_wp2
      go_round
      case rel => exact ⟨j + 1, by omega, by go_num, by rw [HM'.out]⟩
      case measure => simp [intOf]; omega
    · obtain rfl : j = rs.length := by omega
      go_wp2
      go_ret
      exact ⟨rfl, rfl⟩
end Go.Proofs.Ytginjmnohnidiaa
namespace Go.Proofs.Ytginjmnohnidiaa
open Go.RowKit
set_option linter.unusedVariables false
set_option linter.unusedSimpArgs false
end Go.Proofs.Ytginjmnohnidiaa
namespace Go.Proofs.Ytginjmnohnidiaa
open Go.RowKit
set_option linter.unusedVariables false
set_option linter.unusedSimpArgs false
end Go.Proofs.Ytginjmnohnidiaa
namespace Go.Proofs.Ytginjmnohnidiaa
open Go.RowKit
set_option linter.unusedVariables false
set_option linter.unusedSimpArgs false
end Go.Proofs.Ytginjmnohnidiaa
namespace Go.Proofs.Ytginjmnohnidiaa
open Go.RowKit
set_option linter.unusedVariables false
set_option linter.unusedSimpArgs false
/-- The record of a row. -/
def recV (id : Int) (xs : List Int) : Value := .agg #[.int .i64 id, .int .i64 xs.length, .int .i64 (xs.getD 0 0), .int .i64 (xs.getD 1 0), .int .i64 (xs.getD 2 0)]
theorem info_size {P : Program} {e : TypeId} {z : Option Value} {n b : Nat} (h : (P.info? e).map (fun i => (i.zero, i.size, i.bytes)) = some (z, n, b)) : (P.info? e).map (·.size) = some n := by
  cases hq : P.info? e with
  | none => rw [hq] at h; simp at h
  | some i => rw [hq] at h; simp at h; simp [h.2.1]
theorem copy_src {w : World} {a : Option Addr} {cap g : Nat} {xs : List Int} (h : Ints w (.slice a xs.length cap) xs) : 0 < ((xs.take 3).map (Value.int .i64)).length → (some ⟨g, 2, none⟩ : Option Addr) = some ⟨g, 2, none⟩ ∧ ∃ ad, a = some ad ∧ ∀ j v, ((xs.take 3).map (Value.int .i64))[j]? = some v → w.cell? (ad.add j) = some v := by
  intro h0
  refine ⟨rfl, ?_⟩
  rcases h with ⟨rfl, _⟩ | ⟨b, off, cap', e, _, _, hc⟩
  · simp at h0
  · simp only [Value.slice.injEq] at e
    obtain ⟨rfl, _, _⟩ := e
    refine ⟨_, rfl, fun j v hj => ?_⟩
    rw [Go.WideShapes.add_plain]
    rw [List.getElem?_map, List.getElem?_take] at hj
    by_cases hlt : j < 3
    · rw [if_pos hlt] at hj
      by_cases hl : j < xs.length
      · rw [hc j hl]
        rw [List.getElem?_eq_getElem hl] at hj
        simpa [List.getD, hl] using hj
      · rw [List.getElem?_eq_none (by omega)] at hj
        simp at hj
    · rw [if_neg hlt] at hj
      simp at hj
theorem splice_rec (a b : Value) (xs : List Int) : splice [a, b, .int .i64 0, .int .i64 0, .int .i64 0] 2 ((xs.take 3).map (Value.int .i64)) = [a, b, .int .i64 (xs.getD 0 0), .int .i64 (xs.getD 1 0), .int .i64 (xs.getD 2 0)] := by
  match xs with
  | [] => rfl
  | [x] => rfl
  | [x, y] => rfl
  | x :: y :: z :: r => rfl
set_option maxHeartbeats 4000000 in
set_option maxRecDepth 100000 in
theorem recordOf_any (id : Int) (vv : Value) (xs : List Int) (w : World) (h : Ints w vv xs) (hn : xs.length ≤ 1048576) :
    Calls Try.prog 135 #[.agg #[.int .i64 id, vv]] w fun e w' => e = .returned (recV id xs) ∧ Below w.heap.size w w' := by
  have H := Lib.hid h
  have HN := Lib.hid hn
  obtain ⟨va, vcap, rfl⟩ := ints_len h
  clear h hn
  go_enter Try.func135, Try.ntmps135
  go_wp2
  have hh : Below w.heap.size w (((w.alloc (.cells #[.int .i64 id, .slice va xs.length vcap] 76)).alloc (.cells #[.int .i64 0, .int .i64 0, .int .i64 0, .int .i64 0, .int .i64 0] 157)).alloc (.cells #[.int .i64 id, .int .i64 xs.length, .int .i64 0, .int .i64 0, .int .i64 0] 157)) := (((Below.refl _ w).alloc (Nat.le_refl _) _).alloc (by simp) _).alloc (by simp; omega) _
  have g2 : (((w.alloc (.cells #[.int .i64 id, .slice va xs.length vcap] 76)).alloc (.cells #[.int .i64 0, .int .i64 0, .int .i64 0, .int .i64 0, .int .i64 0] 157)).alloc (.cells #[.int .i64 id, .int .i64 xs.length, .int .i64 0, .int .i64 0, .int .i64 0] 157)).heap[w.heap.size + 2]? = some (.cells #[.int .i64 id, .int .i64 xs.length, .int .i64 0, .int .i64 0, .int .i64 0] 157 (0, 0)) := by
    have := heap_alloc_new ((w.alloc (.cells #[.int .i64 id, .slice va xs.length vcap] 76)).alloc (.cells #[.int .i64 0, .int .i64 0, .int .i64 0, .int .i64 0, .int .i64 0] 157)) (.cells #[.int .i64 id, .int .i64 xs.length, .int .i64 0, .int .i64 0, .int .i64 0] 157)
    simpa only [World.size_alloc] using this
  have g1 : (((w.alloc (.cells #[.int .i64 id, .slice va xs.length vcap] 76)).alloc (.cells #[.int .i64 0, .int .i64 0, .int .i64 0, .int .i64 0, .int .i64 0] 157)).alloc (.cells #[.int .i64 id, .int .i64 xs.length, .int .i64 0, .int .i64 0, .int .i64 0] 157)).heap[w.heap.size + 1]? = some (.cells #[.int .i64 0, .int .i64 0, .int .i64 0, .int .i64 0, .int .i64 0] 157 (0, 0)) := by
    rw [Below.heap_alloc _ _ _ (by simp)]
    have := heap_alloc_new (w.alloc (.cells #[.int .i64 id, .slice va xs.length vcap] 76)) (.cells #[.int .i64 0, .int .i64 0, .int .i64 0, .int .i64 0, .int .i64 0] 157)
    simpa only [World.size_alloc] using this
  have g0 : (((w.alloc (.cells #[.int .i64 id, .slice va xs.length vcap] 76)).alloc (.cells #[.int .i64 0, .int .i64 0, .int .i64 0, .int .i64 0, .int .i64 0] 157)).alloc (.cells #[.int .i64 id, .int .i64 xs.length, .int .i64 0, .int .i64 0, .int .i64 0] 157)).heap[w.heap.size]? = some (.cells #[.int .i64 id, .slice va xs.length vcap] 76 (0, 0)) := by
    rw [Below.heap_alloc _ _ _ (by simp; omega), Below.heap_alloc _ _ _ (by simp)]
    exact heap_alloc_new w _
  have hs : (((w.alloc (.cells #[.int .i64 id, .slice va xs.length vcap] 76)).alloc (.cells #[.int .i64 0, .int .i64 0, .int .i64 0, .int .i64 0, .int .i64 0] 157)).alloc (.cells #[.int .i64 id, .int .i64 xs.length, .int .i64 0, .int .i64 0, .int .i64 0] 157)).heap.size = w.heap.size + 3 := by simp [World.size_alloc]
  generalize (((w.alloc (.cells #[.int .i64 id, .slice va xs.length vcap] 76)).alloc (.cells #[.int .i64 0, .int .i64 0, .int .i64 0, .int .i64 0, .int .i64 0] 157)).alloc (.cells #[.int .i64 id, .int .i64 xs.length, .int .i64 0, .int .i64 0, .int .i64 0] 157)) = W at *
  have b0 := cell_of_row W _ 1 _ _ _ g0
  simp at b0
  have I2 := ints_below H.out hh
  refine wp_region_held_drew (S := fun w' => w'.cell? ⟨w.heap.size, 1, none⟩ = some (.slice va xs.length vcap)) (by kernel_rfl) b0 (fun hHeld => ?_)
  refine take_runs (i := 0) (v := ?_) (by simp only [List.getElem?_toArray, List.getElem?_cons_succ, List.getElem?_cons_zero]; rfl) (by kernel_rfl) (by kernel_rfl) (by kernel_rfl) rfl (by exact fun _ _ _ h => h) (by rfl) ?_ (by assumption) ?_
  rotate_left
  · intro w hSw; (try dsimp only at hSw); go_simp; try (with_reducible rfl)
  try simp only [Act.put, List.setIfInBounds_toArray, List.set_cons_zero, List.set_cons_succ]
  refine take_runs (i := 1) (v := ?_) (by simp only [List.getElem?_toArray, List.getElem?_cons_succ, List.getElem?_cons_zero]; rfl) (by kernel_rfl) (by kernel_rfl) (by kernel_rfl) rfl (by exact fun _ _ _ h => h) (by rfl) ?_ (by assumption) ?_
  rotate_left
  · intro w hSw; (try dsimp only at hSw); go_simp; try (with_reducible rfl)
  try simp only [Act.put, List.setIfInBounds_toArray, List.set_cons_zero, List.set_cons_succ]
  refine take_runs (i := 2) (v := ?_) (by simp only [List.getElem?_toArray, List.getElem?_cons_succ, List.getElem?_cons_zero]; rfl) (by kernel_rfl) (by kernel_rfl) (by kernel_rfl) rfl (by exact fun _ _ _ h => h) (by rfl) ?_ (by assumption) ?_
  rotate_left
  · intro w hSw; (try dsimp only at hSw); go_simp; try (with_reducible rfl)
  try simp only [Act.put, List.setIfInBounds_toArray, List.set_cons_zero, List.set_cons_succ]
  refine take_runs (i := 3) (v := ?_) (by simp only [List.getElem?_toArray, List.getElem?_cons_succ, List.getElem?_cons_zero]; rfl) (by kernel_rfl) (by kernel_rfl) (by kernel_rfl) rfl (by exact fun _ _ _ h => h) (by rfl) ?_ (by assumption) ?_
  rotate_left
  · intro w hSw; (try dsimp only at hSw); go_simp; try (with_reducible rfl)
  try simp only [Act.put, List.setIfInBounds_toArray, List.set_cons_zero, List.set_cons_succ]
  refine wpAnyH_ready (rs := [4]) (by kernel_rfl) (by simp) ?_
  refine AllReadyH.cons (o := _) (by simp only [List.getElem?_toArray, List.getElem?_cons_succ, List.getElem?_cons_zero]; rfl) (fun K hK => ?_) AllReadyH.nil
  refine step_copy_splice rfl (.tmp 11) (.tmp 13) 31 31 rfl 3 Try.underlying31 (info_size Try.infoI64) _ _ _ _ _ _ rfl rfl (w.heap.size + 2) 2 [.int .i64 id, .int .i64 xs.length, .int .i64 0, .int .i64 0, .int .i64 0] _ g2 ((xs.take 3).map (Value.int .i64)) (by simp [Nat.min_comm]) (copy_src I2) (by simp; omega) (fun u hu => by obtain ⟨y, _, rfl⟩ := List.mem_map.1 hu; rfl) (w.heap.size + 2) W (below_drew (Below.refl _ W)) (Nat.le_refl _) ?_
  intro W2 G2 bA
  rw [splice_rec] at G2
  have k0 := (bA.block w.heap.size (by omega)).trans g0
  have b1 := cell_of_row W2 _ 1 _ _ _ k0
  simp at b1
  refine hK.out _ _ b1 (fun hHeld2 => ?_)
  clear hK K hHeld
  try simp only [Act.put, List.setIfInBounds_toArray, List.set_cons_zero, List.set_cons_succ]
  refine wpAnyH_done (by kernel_rfl) ?_ _
  have k1 := (bA.block (w.heap.size + 1) (by omega)).trans g1
  have k2 := G2.out
  have hbb := hh.trans (bA.mono (by omega))
  clear G2 bA g0 g1 g2 I2 hHeld2 b0 b1 k0 hh hs
  obtain ⟨n, hn2⟩ : ∃ n : Nat, n = xs.length := ⟨_, rfl⟩
  have c0 := cell_of_row W2 _ 0 _ _ _ k2
  have d0 := cell_of_row W2 _ 0 _ _ _ k1
  have f0 := frozen_of_row W2 _ 0 _ _ k1
  have c1 := cell_of_row W2 _ 1 _ _ _ k2
  have d1 := cell_of_row W2 _ 1 _ _ _ k1
  have f1 := frozen_of_row W2 _ 1 _ _ k1
  have c2 := cell_of_row W2 _ 2 _ _ _ k2
  have d2 := cell_of_row W2 _ 2 _ _ _ k1
  have f2 := frozen_of_row W2 _ 2 _ _ k1
  have c3 := cell_of_row W2 _ 3 _ _ _ k2
  have d3 := cell_of_row W2 _ 3 _ _ _ k1
  have f3 := frozen_of_row W2 _ 3 _ _ k1
  have c4 := cell_of_row W2 _ 4 _ _ _ k2
  have d4 := cell_of_row W2 _ 4 _ _ _ k1
  have f4 := frozen_of_row W2 _ 4 _ _ k1
  simp at c0 c1 c2 c3 c4 d0 d1 d2 d3 d4
  clear k2 hn2
  generalize hx0 : xs[0]?.getD 0 = x0 at c2
  generalize hx1 : xs[1]?.getD 0 = x1 at c3
  generalize hx2 : xs[2]?.getD 0 = x2 at c4
  have HX := Lib.hid (And.intro hx0 (And.intro hx1 hx2))
  clear hx0 hx1 hx2
  go_wp2
  have r0 := heap_setCell_same W2 (w.heap.size + 1) 0 _ _ (.int .i64 id) k1
  have r1 := heap_setCell_same _ (w.heap.size + 1) 1 _ _ (.int .i64 xs.length) r0
  have r2 := heap_setCell_same _ (w.heap.size + 1) 2 _ _ (.int .i64 x0) r1
  have r3 := heap_setCell_same _ (w.heap.size + 1) 3 _ _ (.int .i64 x1) r2
  have r4 := heap_setCell_same _ (w.heap.size + 1) 4 _ _ (.int .i64 x2) r3
  have B4 := (((((hbb.setCell (p := ⟨w.heap.size + 1, 0, none⟩) (by simp) (.int .i64 id)).setCell (p := ⟨w.heap.size + 1, 1, none⟩) (by simp) (.int .i64 xs.length)).setCell (p := ⟨w.heap.size + 1, 2, none⟩) (by simp) (.int .i64 x0)).setCell (p := ⟨w.heap.size + 1, 3, none⟩) (by simp) (.int .i64 x1)).setCell (p := ⟨w.heap.size + 1, 4, none⟩) (by simp) (.int .i64 x2))
  clear r0 r1 r2 r3 k1
  have e0 := cell_of_row _ _ 0 _ _ _ r4
  have e1 := cell_of_row _ _ 1 _ _ _ r4
  have e2 := cell_of_row _ _ 2 _ _ _ r4
  have e3 := cell_of_row _ _ 3 _ _ _ r4
  have e4 := cell_of_row _ _ 4 _ _ _ r4
  simp at e0 e1 e2 e3 e4
  clear r4
  refine bodyPost_ret (v := .agg #[.int .i64 id, .int .i64 xs.length, .int .i64 x0, .int .i64 x1, .int .i64 x2]) ?_ rfl ?_
  · simp [results, Try.f135, go_sem, e0, e1, e2, e3, e4]
  · obtain ⟨rfl, rfl, rfl⟩ := HX.out
    exact ⟨by simp [recV], B4⟩
end Go.Proofs.Ytginjmnohnidiaa
namespace Go.Proofs.Ytginjmnohnidiaa
open Go.RowKit
set_option linter.unusedVariables false
set_option linter.unusedSimpArgs false
/-- A value moved into the range. -/
def limI (x : Int) : Int := min (max x 0) 99
theorem idx0 (a b c : Int) (w : World) : Sem.run Try.prog (Instr.index 155 (.agg #[.int .i64 a, .int .i64 b, .int .i64 c]) (.int .i64 0)) w = .ok (.int .i64 a) w := by
  have u := Try.underlying155
  have z := Try.sizeOf3
  have g := Try.isAgg3
  unfold Instr.index
  go_simp
theorem idx1 (a b c : Int) (w : World) : Sem.run Try.prog (Instr.index 155 (.agg #[.int .i64 a, .int .i64 b, .int .i64 c]) (.int .i64 1)) w = .ok (.int .i64 b) w := by
  have u := Try.underlying155
  have z := Try.sizeOf3
  have g := Try.isAgg3
  unfold Instr.index
  go_simp
theorem idx2 (a b c : Int) (w : World) : Sem.run Try.prog (Instr.index 155 (.agg #[.int .i64 a, .int .i64 b, .int .i64 c]) (.int .i64 2)) w = .ok (.int .i64 c) w := by
  have u := Try.underlying155
  have z := Try.sizeOf3
  have g := Try.isAgg3
  unfold Instr.index
  go_simp
set_option maxHeartbeats 4000000 in
set_option maxRecDepth 100000 in
theorem limited_any (a b c : Int) (w : World) :
    Calls Try.prog 147 #[.agg #[.int .i64 a, .int .i64 b, .int .i64 c]] w fun e w' => e = .returned (.agg #[.int .i64 (limI a), .int .i64 (limI b), .int .i64 (limI c)]) ∧ Below w.heap.size w w' := by
  have i0 := idx0 a b c
  have i1 := idx1 a b c
  have i2 := idx2 a b c
  go_enter Try.func147, Try.ntmps147
  go_wp2
  refine wp_loop_rounds 4 ?_
  rw [rounds_succ]
  go_wp2
  rw [rounds_succ]
  go_wp2
  rw [rounds_succ]
  go_wp2
  rw [rounds_succ]
  go_wp2
  refine bodyPost_ret (v := .agg #[.int .i64 (limI a), .int .i64 (limI b), .int .i64 (limI c)]) ?_ rfl ?_
  · simp [results, Try.f147, go_sem, limI]
  refine ⟨rfl, ?_⟩
  exact ((Below.refl _ w).alloc (Nat.le_refl _) _).alloc (by simp) _
end Go.Proofs.Ytginjmnohnidiaa
namespace Go.Proofs.Ytginjmnohnidiaa
open Go.RowKit
set_option linter.unusedVariables false
set_option linter.unusedSimpArgs false
theorem eqIn_arr (d : Nat) (a b c x y z : Int) (w : World) : (Op.equalIn (d + 2) 155 (.agg #[.int .i64 a, .int .i64 b, .int .i64 c]) (.agg #[.int .i64 x, .int .i64 y, .int .i64 z])).run Try.prog w = .ok (a == x && b == y && c == z) w := by
  have u := Try.underlying155
  have u3 := Try.underlying3
  have z3 := Try.sizeOf3
  have g := Try.isAgg3
  rw [Op.equalIn]
  simp only [Sem.run_bind, run_underlying u, Result.andThen_ok, z3]
  simp only [Std.Legacy.Range.forIn_eq_forIn_range', Std.Legacy.Range.size]
  simp [List.range', g, z3, go_sem, run_equalIn_int (P := Try.prog) _ d _ _ _ _ _ u3]
  by_cases h1 : a = x <;> by_cases h2 : b = y <;> by_cases h3 : c = z <;> simp [h1, h2, h3]
theorem eql_arr (a b c x y z : Int) (w : World) : Sem.run Try.prog (binOp .eql 155 (.agg #[.int .i64 a, .int .i64 b, .int .i64 c]) (.agg #[.int .i64 x, .int .i64 y, .int .i64 z])) w = .ok (.bool (a == x && b == y && c == z)) w := by
  rw [run_eql_struct, show (10000 : Nat) = 9998 + 2 from rfl, eqIn_arr]
  rfl
theorem guard_arr (o1 o2 : Operand) (xs ys : Array Value) (w : World) : Sem.run Try.prog (eqGuard .eql 155 o1 o2 (.agg xs) (.agg ys)) w = .ok () w := run_eqGuard_agg w _ _ _ _ _ _ (by kernel_rfl)
end Go.Proofs.Ytginjmnohnidiaa
namespace Go.Proofs.Ytginjmnohnidiaa
open Go.RowKit
set_option linter.unusedVariables false
set_option linter.unusedSimpArgs false
theorem isRowId_yes (id : Int) (w : World) (h1 : 0 ≤ id) (h2 : id ≤ 999) : Calls Try.prog 146 #[.int .i64 id] w fun e w' => e = .returned (.bool true) ∧ w' = w := by
  go_enter Try.func146, Try.ntmps146
  go_wp2
  go_ret
  exact ⟨rfl, rfl⟩
theorem isRowId_no (id : Int) (w : World) (h : ¬ (0 ≤ id ∧ id ≤ 999)) : Calls Try.prog 146 #[.int .i64 id] w fun e w' => e = .returned (.bool false) ∧ w' = w := by
  by_cases h1 : 0 ≤ id
  · have h2 : ¬ id ≤ 999 := fun g => h ⟨h1, g⟩
    clear h
    go_enter Try.func146, Try.ntmps146
    go_wp2
    go_ret
    exact ⟨rfl, rfl⟩
  · clear h
    go_enter Try.func146, Try.ntmps146
    go_wp2
    go_ret
    exact ⟨rfl, rfl⟩
/-- Is a record valid? -/
def recB (id n a b c : Int) : Bool := decide (0 ≤ id ∧ id ≤ 999) && (decide (n = 3) && (a == limI a && b == limI b && c == limI c))
theorem lim_in (x : Int) : (x == limI x) = decide (0 ≤ x ∧ x ≤ 99) := by
  unfold limI
  by_cases h : 0 ≤ x ∧ x ≤ 99
  · rw [decide_eq_true h, beq_iff_eq]; omega
  · rw [decide_eq_false h, beq_eq_false_iff_ne]; omega
theorem recB_row (id : Int) (xs : List Int) : recB id xs.length (xs.getD 0 0) (xs.getD 1 0) (xs.getD 2 0) = rowB (id, xs) := by
  unfold recB rowB
  simp only [lim_in]
  match xs with
  | [] => simp
  | [x] => simp
  | [x, y] => simp
  | [x, y, z] => simp [List.all, Bool.and_assoc]
  | x :: y :: z :: u :: r =>
    have : ¬ ((r.length : Int) + 1 + 1 + 1 + 1 = 3) := by omega
    simp [this]
theorem below_from {W w8 w9 : World} (h : w8 = W.drew) (b : Below w8.heap.size w8 w9) : Below W.heap.size W w9 := by subst h; exact ⟨b.os, b.tape, b.output, b.size, b.block⟩
set_option maxHeartbeats 8000000 in
set_option maxRecDepth 100000 in
theorem isValid_id (id n a b c : Int) (w : World) (h : ¬ (0 ≤ id ∧ id ≤ 999)) :
    Calls Try.prog 136 #[.agg #[.int .i64 id, .int .i64 n, .int .i64 a, .int .i64 b, .int .i64 c]] w fun e w' => e = .returned (.bool (false)) ∧ Below w.heap.size w w' := by
  have HI := Lib.hid (fun w => isRowId_no id w h)
  clear h
  go_enter Try.func136, Try.ntmps136
  go_wp2
  have hh : Below w.heap.size w (w.alloc (.cells #[.int .i64 id, .int .i64 n, .int .i64 a, .int .i64 b, .int .i64 c] 157)) := (Below.refl _ w).alloc (Nat.le_refl _) _
  have g0 := heap_alloc_new w (.cells #[.int .i64 id, .int .i64 n, .int .i64 a, .int .i64 b, .int .i64 c] 157)
  have hlt : w.heap.size < (w.alloc (.cells #[.int .i64 id, .int .i64 n, .int .i64 a, .int .i64 b, .int .i64 c] 157)).heap.size := by simp
  generalize w.alloc (.cells #[.int .i64 id, .int .i64 n, .int .i64 a, .int .i64 b, .int .i64 c] 157) = W at *
  have q0 := cell_of_row W _ 0 _ _ _ g0
  have q1 := cell_of_row W _ 1 _ _ _ g0
  have q2 := cell_of_row W _ 2 _ _ _ g0
  have q3 := cell_of_row W _ 3 _ _ _ g0
  have q4 := cell_of_row W _ 4 _ _ _ g0
  simp at q0 q1 q2 q3 q4
  refine wp_region_held_drew (S := fun w' => w'.cell? ⟨w.heap.size, 0, none⟩ = some (.int .i64 id) ∧ w'.cell? ⟨w.heap.size, 1, none⟩ = some (.int .i64 n) ∧ w'.cell? ⟨w.heap.size, 2, none⟩ = some (.int .i64 a) ∧ w'.cell? ⟨w.heap.size, 3, none⟩ = some (.int .i64 b) ∧ w'.cell? ⟨w.heap.size, 4, none⟩ = some (.int .i64 c)) (by kernel_rfl) ⟨q0, q1, q2, q3, q4⟩ (fun hHeld => ?_)
  refine take_runs (i := 0) (v := ?_) (by simp only [List.getElem?_toArray, List.getElem?_cons_succ, List.getElem?_cons_zero]; rfl) (by kernel_rfl) (by kernel_rfl) (by kernel_rfl) rfl (by exact fun _ _ _ h => h) (by rfl) ?_ (by assumption) ?_
  rotate_left
  · intro w hSw; (try dsimp only at hSw); go_simp; try (with_reducible rfl)
  try simp only [Act.put, List.setIfInBounds_toArray, List.set_cons_zero, List.set_cons_succ]
  refine take_runs (i := 1) (v := ?_) (by simp only [List.getElem?_toArray, List.getElem?_cons_succ, List.getElem?_cons_zero]; rfl) (by kernel_rfl) (by kernel_rfl) (by kernel_rfl) rfl (by exact fun _ _ _ h => h) (by rfl) ?_ (by assumption) ?_
  rotate_left
  · intro w hSw; (try dsimp only at hSw); go_simp; try (with_reducible rfl)
  try simp only [Act.put, List.setIfInBounds_toArray, List.set_cons_zero, List.set_cons_succ]
  refine wpAnyH_ready (rs := [2]) (by kernel_rfl) (by simp) ?_
  refine AllReadyH.cons (o := _) (by simp only [List.getElem?_toArray, List.getElem?_cons_succ, List.getElem?_cons_zero]; rfl) (fun K hK => ?_) AllReadyH.nil
  go_simp
  refine (HI.out _).mono ?_
  rintro e w8 ⟨rfl, rfl⟩
  refine hK.out _ _ ⟨q0, q1, q2, q3, q4⟩ (fun hHeld => ?_)
  clear hK K
  try simp only [Act.put, List.setIfInBounds_toArray, List.set_cons_zero, List.set_cons_succ]
  refine take_runs (i := 3) (v := ?_) (by simp only [List.getElem?_toArray, List.getElem?_cons_succ, List.getElem?_cons_zero]; rfl) (by kernel_rfl) (by kernel_rfl) (by kernel_rfl) rfl (by exact fun _ _ _ h => h) (by rfl) ?_ (by assumption) ?_
  rotate_left
  · intro w hSw; (try dsimp only at hSw); go_simp; try (with_reducible rfl)
  try simp only [Act.put, List.setIfInBounds_toArray, List.set_cons_zero, List.set_cons_succ]
  refine take_over (i := 4) (by simp only [List.getElem?_toArray, List.getElem?_cons_succ, List.getElem?_cons_zero]; rfl) (by kernel_rfl) (by kernel_rfl) (by kernel_rfl) rfl (by exact fun _ _ _ h => h) (by rfl) (by assumption) ?_
  try simp only [Act.put, List.setIfInBounds_toArray, List.set_cons_zero, List.set_cons_succ]
  refine take_over (i := 5) (by simp only [List.getElem?_toArray, List.getElem?_cons_succ, List.getElem?_cons_zero]; rfl) (by kernel_rfl) (by kernel_rfl) (by kernel_rfl) rfl (by exact fun _ _ _ h => h) (by rfl) (by assumption) ?_
  try simp only [Act.put, List.setIfInBounds_toArray, List.set_cons_zero, List.set_cons_succ]
  refine take_over (i := 6) (by simp only [List.getElem?_toArray, List.getElem?_cons_succ, List.getElem?_cons_zero]; rfl) (by kernel_rfl) (by kernel_rfl) (by kernel_rfl) rfl (by exact fun _ _ _ h => h) (by rfl) (by assumption) ?_
  try simp only [Act.put, List.setIfInBounds_toArray, List.set_cons_zero, List.set_cons_succ]
  refine take_runs (i := 7) (v := ?_) (by simp only [List.getElem?_toArray, List.getElem?_cons_succ, List.getElem?_cons_zero]; rfl) (by kernel_rfl) (by kernel_rfl) (by kernel_rfl) rfl (by exact fun _ _ _ h => h) (by rfl) ?_ (by assumption) ?_
  rotate_left
  · intro w hSw; (try dsimp only at hSw); go_simp; try (with_reducible rfl)
  try simp only [Act.put, List.setIfInBounds_toArray, List.set_cons_zero, List.set_cons_succ]
  refine take_runs (i := 8) (v := ?_) (by simp only [List.getElem?_toArray, List.getElem?_cons_succ, List.getElem?_cons_zero]; rfl) (by kernel_rfl) (by kernel_rfl) (by kernel_rfl) rfl (by exact fun _ _ _ h => h) (by rfl) ?_ (by assumption) ?_
  rotate_left
  · intro w hSw; (try dsimp only at hSw); go_simp; try (with_reducible rfl)
  try simp only [Act.put, List.setIfInBounds_toArray, List.set_cons_zero, List.set_cons_succ]
  refine take_over (i := 9) (by simp only [List.getElem?_toArray, List.getElem?_cons_succ, List.getElem?_cons_zero]; rfl) (by kernel_rfl) (by kernel_rfl) (by kernel_rfl) rfl (by exact fun _ _ _ h => h) (by rfl) (by assumption) ?_
  try simp only [Act.put, List.setIfInBounds_toArray, List.set_cons_zero, List.set_cons_succ]
  refine take_over (i := 10) (by simp only [List.getElem?_toArray, List.getElem?_cons_succ, List.getElem?_cons_zero]; rfl) (by kernel_rfl) (by kernel_rfl) (by kernel_rfl) rfl (by exact fun _ _ _ h => h) (by rfl) (by assumption) ?_
  try simp only [Act.put, List.setIfInBounds_toArray, List.set_cons_zero, List.set_cons_succ]
  refine take_over (i := 11) (by simp only [List.getElem?_toArray, List.getElem?_cons_succ, List.getElem?_cons_zero]; rfl) (by kernel_rfl) (by kernel_rfl) (by kernel_rfl) rfl (by exact fun _ _ _ h => h) (by rfl) (by assumption) ?_
  try simp only [Act.put, List.setIfInBounds_toArray, List.set_cons_zero, List.set_cons_succ]
  refine take_over (i := 12) (by simp only [List.getElem?_toArray, List.getElem?_cons_succ, List.getElem?_cons_zero]; rfl) (by kernel_rfl) (by kernel_rfl) (by kernel_rfl) rfl (by exact fun _ _ _ h => h) (by rfl) (by assumption) ?_
  try simp only [Act.put, List.setIfInBounds_toArray, List.set_cons_zero, List.set_cons_succ]
  refine take_over (i := 13) (by simp only [List.getElem?_toArray, List.getElem?_cons_succ, List.getElem?_cons_zero]; rfl) (by kernel_rfl) (by kernel_rfl) (by kernel_rfl) rfl (by exact fun _ _ _ h => h) (by rfl) (by assumption) ?_
  try simp only [Act.put, List.setIfInBounds_toArray, List.set_cons_zero, List.set_cons_succ]
  refine take_over (i := 14) (by simp only [List.getElem?_toArray, List.getElem?_cons_succ, List.getElem?_cons_zero]; rfl) (by kernel_rfl) (by kernel_rfl) (by kernel_rfl) rfl (by exact fun _ _ _ h => h) (by rfl) (by assumption) ?_
  try simp only [Act.put, List.setIfInBounds_toArray, List.set_cons_zero, List.set_cons_succ]
  refine take_runs (i := 15) (v := ?_) (by simp only [List.getElem?_toArray, List.getElem?_cons_succ, List.getElem?_cons_zero]; rfl) (by kernel_rfl) (by kernel_rfl) (by kernel_rfl) rfl (by exact fun _ _ _ h => h) (by rfl) ?_ (by assumption) ?_
  rotate_left
  · intro w hSw; (try dsimp only at hSw); go_simp; try (with_reducible rfl)
  try simp only [Act.put, List.setIfInBounds_toArray, List.set_cons_zero, List.set_cons_succ]
  refine take_runs (i := 16) (v := ?_) (by simp only [List.getElem?_toArray, List.getElem?_cons_succ, List.getElem?_cons_zero]; rfl) (by kernel_rfl) (by kernel_rfl) (by kernel_rfl) rfl (by exact fun _ _ _ h => h) (by rfl) ?_ (by assumption) ?_
  rotate_left
  · intro w hSw; (try dsimp only at hSw); go_simp; try (with_reducible rfl)
  try simp only [Act.put, List.setIfInBounds_toArray, List.set_cons_zero, List.set_cons_succ]
  refine wpAnyH_done (by kernel_rfl) ?_ _
  have b11 : Below w.heap.size w W.drew := below_drew hh
  clear hHeld
  go_wp2
  go_ret
  exact ⟨rfl, b11⟩
set_option maxHeartbeats 8000000 in
set_option maxRecDepth 100000 in
theorem isValid_count (id n a b c : Int) (w : World) (h1 : 0 ≤ id) (h2 : id ≤ 999) (h3 : ¬ n = 3) :
    Calls Try.prog 136 #[.agg #[.int .i64 id, .int .i64 n, .int .i64 a, .int .i64 b, .int .i64 c]] w fun e w' => e = .returned (.bool (false)) ∧ Below w.heap.size w w' := by
  have HI := Lib.hid (fun w => isRowId_yes id w h1 h2)
  clear h1 h2
  have hd : (n == 3) = false := by simpa using h3
  clear h3
  go_enter Try.func136, Try.ntmps136
  go_wp2
  have hh : Below w.heap.size w (w.alloc (.cells #[.int .i64 id, .int .i64 n, .int .i64 a, .int .i64 b, .int .i64 c] 157)) := (Below.refl _ w).alloc (Nat.le_refl _) _
  have g0 := heap_alloc_new w (.cells #[.int .i64 id, .int .i64 n, .int .i64 a, .int .i64 b, .int .i64 c] 157)
  have hlt : w.heap.size < (w.alloc (.cells #[.int .i64 id, .int .i64 n, .int .i64 a, .int .i64 b, .int .i64 c] 157)).heap.size := by simp
  generalize w.alloc (.cells #[.int .i64 id, .int .i64 n, .int .i64 a, .int .i64 b, .int .i64 c] 157) = W at *
  have q0 := cell_of_row W _ 0 _ _ _ g0
  have q1 := cell_of_row W _ 1 _ _ _ g0
  have q2 := cell_of_row W _ 2 _ _ _ g0
  have q3 := cell_of_row W _ 3 _ _ _ g0
  have q4 := cell_of_row W _ 4 _ _ _ g0
  simp at q0 q1 q2 q3 q4
  refine wp_region_held_drew (S := fun w' => w'.cell? ⟨w.heap.size, 0, none⟩ = some (.int .i64 id) ∧ w'.cell? ⟨w.heap.size, 1, none⟩ = some (.int .i64 n) ∧ w'.cell? ⟨w.heap.size, 2, none⟩ = some (.int .i64 a) ∧ w'.cell? ⟨w.heap.size, 3, none⟩ = some (.int .i64 b) ∧ w'.cell? ⟨w.heap.size, 4, none⟩ = some (.int .i64 c)) (by kernel_rfl) ⟨q0, q1, q2, q3, q4⟩ (fun hHeld => ?_)
  refine take_runs (i := 0) (v := ?_) (by simp only [List.getElem?_toArray, List.getElem?_cons_succ, List.getElem?_cons_zero]; rfl) (by kernel_rfl) (by kernel_rfl) (by kernel_rfl) rfl (by exact fun _ _ _ h => h) (by rfl) ?_ (by assumption) ?_
  rotate_left
  · intro w hSw; (try dsimp only at hSw); go_simp; try (with_reducible rfl)
  try simp only [Act.put, List.setIfInBounds_toArray, List.set_cons_zero, List.set_cons_succ]
  refine take_runs (i := 1) (v := ?_) (by simp only [List.getElem?_toArray, List.getElem?_cons_succ, List.getElem?_cons_zero]; rfl) (by kernel_rfl) (by kernel_rfl) (by kernel_rfl) rfl (by exact fun _ _ _ h => h) (by rfl) ?_ (by assumption) ?_
  rotate_left
  · intro w hSw; (try dsimp only at hSw); go_simp; try (with_reducible rfl)
  try simp only [Act.put, List.setIfInBounds_toArray, List.set_cons_zero, List.set_cons_succ]
  refine wpAnyH_ready (rs := [2]) (by kernel_rfl) (by simp) ?_
  refine AllReadyH.cons (o := _) (by simp only [List.getElem?_toArray, List.getElem?_cons_succ, List.getElem?_cons_zero]; rfl) (fun K hK => ?_) AllReadyH.nil
  go_simp
  refine (HI.out _).mono ?_
  rintro e w8 ⟨rfl, rfl⟩
  refine hK.out _ _ ⟨q0, q1, q2, q3, q4⟩ (fun hHeld => ?_)
  clear hK K
  try simp only [Act.put, List.setIfInBounds_toArray, List.set_cons_zero, List.set_cons_succ]
  refine take_runs (i := 3) (v := ?_) (by simp only [List.getElem?_toArray, List.getElem?_cons_succ, List.getElem?_cons_zero]; rfl) (by kernel_rfl) (by kernel_rfl) (by kernel_rfl) rfl (by exact fun _ _ _ h => h) (by rfl) ?_ (by assumption) ?_
  rotate_left
  · intro w hSw; (try dsimp only at hSw); go_simp; try (with_reducible rfl)
  try simp only [Act.put, List.setIfInBounds_toArray, List.set_cons_zero, List.set_cons_succ]
  refine take_runs (i := 4) (v := ?_) (by simp only [List.getElem?_toArray, List.getElem?_cons_succ, List.getElem?_cons_zero]; rfl) (by kernel_rfl) (by kernel_rfl) (by kernel_rfl) rfl (by exact fun _ _ _ h => h) (by rfl) ?_ (by assumption) ?_
  rotate_left
  · intro w hSw; (try dsimp only at hSw); go_simp; try (with_reducible rfl)
  try simp only [Act.put, List.setIfInBounds_toArray, List.set_cons_zero, List.set_cons_succ]
  refine take_runs (i := 5) (v := ?_) (by simp only [List.getElem?_toArray, List.getElem?_cons_succ, List.getElem?_cons_zero]; rfl) (by kernel_rfl) (by kernel_rfl) (by kernel_rfl) rfl (by exact fun _ _ _ h => h) (by rfl) ?_ (by assumption) ?_
  rotate_left
  · intro w hSw; (try dsimp only at hSw); go_simp; try (with_reducible rfl)
  try simp only [Act.put, List.setIfInBounds_toArray, List.set_cons_zero, List.set_cons_succ]
  refine take_runs (i := 6) (v := ?_) (by simp only [List.getElem?_toArray, List.getElem?_cons_succ, List.getElem?_cons_zero]; rfl) (by kernel_rfl) (by kernel_rfl) (by kernel_rfl) rfl (by exact fun _ _ _ h => h) (by rfl) ?_ (by assumption) ?_
  rotate_left
  · intro w hSw; (try dsimp only at hSw); go_simp; try (with_reducible rfl)
  try simp only [Act.put, List.setIfInBounds_toArray, List.set_cons_zero, List.set_cons_succ]
  refine take_runs (i := 7) (v := ?_) (by simp only [List.getElem?_toArray, List.getElem?_cons_succ, List.getElem?_cons_zero]; rfl) (by kernel_rfl) (by kernel_rfl) (by kernel_rfl) rfl (by exact fun _ _ _ h => h) (by rfl) ?_ (by assumption) ?_
  rotate_left
  · intro w hSw; (try dsimp only at hSw); go_simp; try (with_reducible rfl)
  try simp only [Act.put, List.setIfInBounds_toArray, List.set_cons_zero, List.set_cons_succ]
  refine take_runs (i := 8) (v := ?_) (by simp only [List.getElem?_toArray, List.getElem?_cons_succ, List.getElem?_cons_zero]; rfl) (by kernel_rfl) (by kernel_rfl) (by kernel_rfl) rfl (by exact fun _ _ _ h => h) (by rfl) ?_ (by assumption) ?_
  rotate_left
  · intro w hSw; (try dsimp only at hSw); go_simp; try (with_reducible rfl)
  try simp only [Act.put, List.setIfInBounds_toArray, List.set_cons_zero, List.set_cons_succ]
  refine take_over (i := 9) (by simp only [List.getElem?_toArray, List.getElem?_cons_succ, List.getElem?_cons_zero]; rfl) (by kernel_rfl) (by kernel_rfl) (by kernel_rfl) rfl (by exact fun _ _ _ h => h) (by rfl) (by assumption) ?_
  try simp only [Act.put, List.setIfInBounds_toArray, List.set_cons_zero, List.set_cons_succ]
  refine take_over (i := 10) (by simp only [List.getElem?_toArray, List.getElem?_cons_succ, List.getElem?_cons_zero]; rfl) (by kernel_rfl) (by kernel_rfl) (by kernel_rfl) rfl (by exact fun _ _ _ h => h) (by rfl) (by assumption) ?_
  try simp only [Act.put, List.setIfInBounds_toArray, List.set_cons_zero, List.set_cons_succ]
  refine take_over (i := 11) (by simp only [List.getElem?_toArray, List.getElem?_cons_succ, List.getElem?_cons_zero]; rfl) (by kernel_rfl) (by kernel_rfl) (by kernel_rfl) rfl (by exact fun _ _ _ h => h) (by rfl) (by assumption) ?_
  try simp only [Act.put, List.setIfInBounds_toArray, List.set_cons_zero, List.set_cons_succ]
  refine take_over (i := 12) (by simp only [List.getElem?_toArray, List.getElem?_cons_succ, List.getElem?_cons_zero]; rfl) (by kernel_rfl) (by kernel_rfl) (by kernel_rfl) rfl (by exact fun _ _ _ h => h) (by rfl) (by assumption) ?_
  try simp only [Act.put, List.setIfInBounds_toArray, List.set_cons_zero, List.set_cons_succ]
  refine take_over (i := 13) (by simp only [List.getElem?_toArray, List.getElem?_cons_succ, List.getElem?_cons_zero]; rfl) (by kernel_rfl) (by kernel_rfl) (by kernel_rfl) rfl (by exact fun _ _ _ h => h) (by rfl) (by assumption) ?_
  try simp only [Act.put, List.setIfInBounds_toArray, List.set_cons_zero, List.set_cons_succ]
  refine take_over (i := 14) (by simp only [List.getElem?_toArray, List.getElem?_cons_succ, List.getElem?_cons_zero]; rfl) (by kernel_rfl) (by kernel_rfl) (by kernel_rfl) rfl (by exact fun _ _ _ h => h) (by rfl) (by assumption) ?_
  try simp only [Act.put, List.setIfInBounds_toArray, List.set_cons_zero, List.set_cons_succ]
  refine take_runs (i := 15) (v := ?_) (by simp only [List.getElem?_toArray, List.getElem?_cons_succ, List.getElem?_cons_zero]; rfl) (by kernel_rfl) (by kernel_rfl) (by kernel_rfl) rfl (by exact fun _ _ _ h => h) (by rfl) ?_ (by assumption) ?_
  rotate_left
  · intro w hSw; (try dsimp only at hSw); go_simp; try (with_reducible rfl)
  try simp only [Act.put, List.setIfInBounds_toArray, List.set_cons_zero, List.set_cons_succ]
  refine take_runs (i := 16) (v := ?_) (by simp only [List.getElem?_toArray, List.getElem?_cons_succ, List.getElem?_cons_zero]; rfl) (by kernel_rfl) (by kernel_rfl) (by kernel_rfl) rfl (by exact fun _ _ _ h => h) (by rfl) ?_ (by assumption) ?_
  rotate_left
  · intro w hSw; (try dsimp only at hSw); go_simp; try (with_reducible rfl)
  try simp only [Act.put, List.setIfInBounds_toArray, List.set_cons_zero, List.set_cons_succ]
  refine wpAnyH_done (by kernel_rfl) ?_ _
  have b11 : Below w.heap.size w W.drew := below_drew hh
  clear hHeld
  go_wp2
  go_ret
  exact ⟨rfl, b11⟩
set_option maxHeartbeats 8000000 in
set_option maxRecDepth 100000 in
theorem isValid_all (id n a b c : Int) (w : World) (h1 : 0 ≤ id) (h2 : id ≤ 999) (h3 : n = 3) :
    Calls Try.prog 136 #[.agg #[.int .i64 id, .int .i64 n, .int .i64 a, .int .i64 b, .int .i64 c]] w fun e w' => e = .returned (.bool (a == limI a && b == limI b && c == limI c)) ∧ Below w.heap.size w w' := by
  have HI := Lib.hid (fun w => isRowId_yes id w h1 h2)
  clear h1 h2
  have hd : (n == 3) = true := by simpa using h3
  clear h3
  have HL := Lib.hid (fun w => limited_any a b c w)
  have he := fun w => eql_arr a b c (limI a) (limI b) (limI c) w
  have hgd := fun (o1 o2 : Operand) (xs ys : Array Value) (w : World) => guard_arr o1 o2 xs ys w
  generalize hr : (a == limI a && b == limI b && c == limI c) = r at he ⊢
  clear hr
  go_enter Try.func136, Try.ntmps136
  go_wp2
  have hh : Below w.heap.size w (w.alloc (.cells #[.int .i64 id, .int .i64 n, .int .i64 a, .int .i64 b, .int .i64 c] 157)) := (Below.refl _ w).alloc (Nat.le_refl _) _
  have g0 := heap_alloc_new w (.cells #[.int .i64 id, .int .i64 n, .int .i64 a, .int .i64 b, .int .i64 c] 157)
  have hlt : w.heap.size < (w.alloc (.cells #[.int .i64 id, .int .i64 n, .int .i64 a, .int .i64 b, .int .i64 c] 157)).heap.size := by simp
  generalize w.alloc (.cells #[.int .i64 id, .int .i64 n, .int .i64 a, .int .i64 b, .int .i64 c] 157) = W at *
  have q0 := cell_of_row W _ 0 _ _ _ g0
  have q1 := cell_of_row W _ 1 _ _ _ g0
  have q2 := cell_of_row W _ 2 _ _ _ g0
  have q3 := cell_of_row W _ 3 _ _ _ g0
  have q4 := cell_of_row W _ 4 _ _ _ g0
  simp at q0 q1 q2 q3 q4
  refine wp_region_held_drew (S := fun w' => w'.cell? ⟨w.heap.size, 0, none⟩ = some (.int .i64 id) ∧ w'.cell? ⟨w.heap.size, 1, none⟩ = some (.int .i64 n) ∧ w'.cell? ⟨w.heap.size, 2, none⟩ = some (.int .i64 a) ∧ w'.cell? ⟨w.heap.size, 3, none⟩ = some (.int .i64 b) ∧ w'.cell? ⟨w.heap.size, 4, none⟩ = some (.int .i64 c)) (by kernel_rfl) ⟨q0, q1, q2, q3, q4⟩ (fun hHeld => ?_)
  refine take_runs (i := 0) (v := ?_) (by simp only [List.getElem?_toArray, List.getElem?_cons_succ, List.getElem?_cons_zero]; rfl) (by kernel_rfl) (by kernel_rfl) (by kernel_rfl) rfl (by exact fun _ _ _ h => h) (by rfl) ?_ (by assumption) ?_
  rotate_left
  · intro w hSw; (try dsimp only at hSw); go_simp; try (with_reducible rfl)
  try simp only [Act.put, List.setIfInBounds_toArray, List.set_cons_zero, List.set_cons_succ]
  refine take_runs (i := 1) (v := ?_) (by simp only [List.getElem?_toArray, List.getElem?_cons_succ, List.getElem?_cons_zero]; rfl) (by kernel_rfl) (by kernel_rfl) (by kernel_rfl) rfl (by exact fun _ _ _ h => h) (by rfl) ?_ (by assumption) ?_
  rotate_left
  · intro w hSw; (try dsimp only at hSw); go_simp; try (with_reducible rfl)
  try simp only [Act.put, List.setIfInBounds_toArray, List.set_cons_zero, List.set_cons_succ]
  refine wpAnyH_ready (rs := [2]) (by kernel_rfl) (by simp) ?_
  refine AllReadyH.cons (o := _) (by simp only [List.getElem?_toArray, List.getElem?_cons_succ, List.getElem?_cons_zero]; rfl) (fun K hK => ?_) AllReadyH.nil
  go_simp
  refine (HI.out _).mono ?_
  rintro e w8 ⟨rfl, rfl⟩
  refine hK.out _ _ ⟨q0, q1, q2, q3, q4⟩ (fun hHeld => ?_)
  clear hK K
  try simp only [Act.put, List.setIfInBounds_toArray, List.set_cons_zero, List.set_cons_succ]
  refine take_runs (i := 3) (v := ?_) (by simp only [List.getElem?_toArray, List.getElem?_cons_succ, List.getElem?_cons_zero]; rfl) (by kernel_rfl) (by kernel_rfl) (by kernel_rfl) rfl (by exact fun _ _ _ h => h) (by rfl) ?_ (by assumption) ?_
  rotate_left
  · intro w hSw; (try dsimp only at hSw); go_simp; try (with_reducible rfl)
  try simp only [Act.put, List.setIfInBounds_toArray, List.set_cons_zero, List.set_cons_succ]
  refine take_runs (i := 4) (v := ?_) (by simp only [List.getElem?_toArray, List.getElem?_cons_succ, List.getElem?_cons_zero]; rfl) (by kernel_rfl) (by kernel_rfl) (by kernel_rfl) rfl (by exact fun _ _ _ h => h) (by rfl) ?_ (by assumption) ?_
  rotate_left
  · intro w hSw; (try dsimp only at hSw); go_simp; try (with_reducible rfl)
  try simp only [Act.put, List.setIfInBounds_toArray, List.set_cons_zero, List.set_cons_succ]
  refine take_runs (i := 5) (v := ?_) (by simp only [List.getElem?_toArray, List.getElem?_cons_succ, List.getElem?_cons_zero]; rfl) (by kernel_rfl) (by kernel_rfl) (by kernel_rfl) rfl (by exact fun _ _ _ h => h) (by rfl) ?_ (by assumption) ?_
  rotate_left
  · intro w hSw; (try dsimp only at hSw); go_simp; try (with_reducible rfl)
  try simp only [Act.put, List.setIfInBounds_toArray, List.set_cons_zero, List.set_cons_succ]
  refine take_runs (i := 6) (v := ?_) (by simp only [List.getElem?_toArray, List.getElem?_cons_succ, List.getElem?_cons_zero]; rfl) (by kernel_rfl) (by kernel_rfl) (by kernel_rfl) rfl (by exact fun _ _ _ h => h) (by rfl) ?_ (by assumption) ?_
  rotate_left
  · intro w hSw; (try dsimp only at hSw); go_simp; try (with_reducible rfl)
  try simp only [Act.put, List.setIfInBounds_toArray, List.set_cons_zero, List.set_cons_succ]
  refine take_runs (i := 7) (v := ?_) (by simp only [List.getElem?_toArray, List.getElem?_cons_succ, List.getElem?_cons_zero]; rfl) (by kernel_rfl) (by kernel_rfl) (by kernel_rfl) rfl (by exact fun _ _ _ h => h) (by rfl) ?_ (by assumption) ?_
  rotate_left
  · intro w hSw; (try dsimp only at hSw); go_simp; try (with_reducible rfl)
  try simp only [Act.put, List.setIfInBounds_toArray, List.set_cons_zero, List.set_cons_succ]
  refine take_runs (i := 8) (v := ?_) (by simp only [List.getElem?_toArray, List.getElem?_cons_succ, List.getElem?_cons_zero]; rfl) (by kernel_rfl) (by kernel_rfl) (by kernel_rfl) rfl (by exact fun _ _ _ h => h) (by rfl) ?_ (by assumption) ?_
  rotate_left
  · intro w hSw; (try dsimp only at hSw); go_simp; try (with_reducible rfl)
  try simp only [Act.put, List.setIfInBounds_toArray, List.set_cons_zero, List.set_cons_succ]
  refine take_runs (i := 9) (v := ?_) (by simp only [List.getElem?_toArray, List.getElem?_cons_succ, List.getElem?_cons_zero]; rfl) (by kernel_rfl) (by kernel_rfl) (by kernel_rfl) rfl (by exact fun _ _ _ h => h) (by rfl) ?_ (by assumption) ?_
  rotate_left
  · intro w hSw; (try dsimp only at hSw); go_simp; try (with_reducible rfl)
  try simp only [Act.put, List.setIfInBounds_toArray, List.set_cons_zero, List.set_cons_succ]
  refine take_runs (i := 10) (v := ?_) (by simp only [List.getElem?_toArray, List.getElem?_cons_succ, List.getElem?_cons_zero]; rfl) (by kernel_rfl) (by kernel_rfl) (by kernel_rfl) rfl (by exact fun _ _ _ h => h) (by rfl) ?_ (by assumption) ?_
  rotate_left
  · intro w hSw; (try dsimp only at hSw); go_simp; try (with_reducible rfl)
  try simp only [Act.put, List.setIfInBounds_toArray, List.set_cons_zero, List.set_cons_succ]
  refine take_runs (i := 11) (v := ?_) (by simp only [List.getElem?_toArray, List.getElem?_cons_succ, List.getElem?_cons_zero]; rfl) (by kernel_rfl) (by kernel_rfl) (by kernel_rfl) rfl (by exact fun _ _ _ h => h) (by rfl) ?_ (by assumption) ?_
  rotate_left
  · intro w hSw; (try dsimp only at hSw); go_simp; try (with_reducible rfl)
  try simp only [Act.put, List.setIfInBounds_toArray, List.set_cons_zero, List.set_cons_succ]
  refine take_runs (i := 12) (v := ?_) (by simp only [List.getElem?_toArray, List.getElem?_cons_succ, List.getElem?_cons_zero]; rfl) (by kernel_rfl) (by kernel_rfl) (by kernel_rfl) rfl (by exact fun _ _ _ h => h) (by rfl) ?_ (by assumption) ?_
  rotate_left
  · intro w hSw; (try dsimp only at hSw); go_simp; try (with_reducible rfl)
  try simp only [Act.put, List.setIfInBounds_toArray, List.set_cons_zero, List.set_cons_succ]
  refine wpAnyH_ready (rs := [13]) (by kernel_rfl) (by simp) ?_
  refine AllReadyH.cons (o := _) (by simp only [List.getElem?_toArray, List.getElem?_cons_succ, List.getElem?_cons_zero]; rfl) (fun K hK => ?_) AllReadyH.nil
  go_simp
  refine (HL.out _).mono ?_
  rintro e w9 ⟨rfl, b9⟩
  have b10 : Below W.heap.size W w9 := below_from rfl b9
  have g2 := (b10.block w.heap.size hlt).trans g0
  have r0 := cell_of_row w9 _ 0 _ _ _ g2
  have r1 := cell_of_row w9 _ 1 _ _ _ g2
  have r2 := cell_of_row w9 _ 2 _ _ _ g2
  have r3 := cell_of_row w9 _ 3 _ _ _ g2
  have r4 := cell_of_row w9 _ 4 _ _ _ g2
  simp at r0 r1 r2 r3 r4
  refine hK.out _ _ ⟨r0, r1, r2, r3, r4⟩ (fun hHeld => ?_)
  clear hK K
  try simp only [Act.put, List.setIfInBounds_toArray, List.set_cons_zero, List.set_cons_succ]
  refine take_runs (i := 14) (v := ?_) (by simp only [List.getElem?_toArray, List.getElem?_cons_succ, List.getElem?_cons_zero]; rfl) (by kernel_rfl) (by kernel_rfl) (by kernel_rfl) rfl (by exact fun _ _ _ h => h) (by rfl) ?_ (by assumption) ?_
  rotate_left
  · intro w hSw; (try dsimp only at hSw); go_simp; try (with_reducible rfl)
  try simp only [Act.put, List.setIfInBounds_toArray, List.set_cons_zero, List.set_cons_succ]
  refine take_runs (i := 15) (v := ?_) (by simp only [List.getElem?_toArray, List.getElem?_cons_succ, List.getElem?_cons_zero]; rfl) (by kernel_rfl) (by kernel_rfl) (by kernel_rfl) rfl (by exact fun _ _ _ h => h) (by rfl) ?_ (by assumption) ?_
  rotate_left
  · intro w hSw; (try dsimp only at hSw); go_simp; try (with_reducible rfl)
  try simp only [Act.put, List.setIfInBounds_toArray, List.set_cons_zero, List.set_cons_succ]
  refine take_runs (i := 16) (v := ?_) (by simp only [List.getElem?_toArray, List.getElem?_cons_succ, List.getElem?_cons_zero]; rfl) (by kernel_rfl) (by kernel_rfl) (by kernel_rfl) rfl (by exact fun _ _ _ h => h) (by rfl) ?_ (by assumption) ?_
  rotate_left
  · intro w hSw; (try dsimp only at hSw); go_simp; try (with_reducible rfl)
  try simp only [Act.put, List.setIfInBounds_toArray, List.set_cons_zero, List.set_cons_succ]
  refine wpAnyH_done (by kernel_rfl) ?_ _
  have b11 := hh.trans (b10.mono hh.size)
  clear hHeld b9 b10
  go_wp2
  go_ret
  exact ⟨rfl, b11⟩
theorem isValid_any (id n a b c : Int) (w : World) :
    Calls Try.prog 136 #[.agg #[.int .i64 id, .int .i64 n, .int .i64 a, .int .i64 b, .int .i64 c]] w fun e w' => e = .returned (.bool (recB id n a b c)) ∧ Below w.heap.size w w' := by
  by_cases h : 0 ≤ id ∧ id ≤ 999
  · by_cases h3 : n = 3
    · have e : recB id n a b c = (a == limI a && b == limI b && c == limI c) := by unfold recB; rw [decide_eq_true h, decide_eq_true h3]; simp
      rw [e]
      exact isValid_all id n a b c w h.1 h.2 h3
    · have e : recB id n a b c = false := by unfold recB; rw [decide_eq_false h3]; simp
      rw [e]
      exact isValid_count id n a b c w h.1 h.2 h3
  · have e : recB id n a b c = false := by unfold recB; rw [decide_eq_false h]; simp
    rw [e]
    exact isValid_id id n a b c w h
set_option maxHeartbeats 4000000 in
set_option maxRecDepth 100000 in
theorem implIsRow (id : Int) (vv : Value) (xs : List Int) (w : World) (h : Ints w vv xs) (hn : xs.length ≤ 1048576) :
    Calls Try.prog 103 #[.agg #[.int .i64 id, vv]] w fun e w' => e = .returned (.bool (rowB (id, xs))) ∧ Below w.heap.size w w' := by
  have HR := Lib.hid (fun w h => recordOf_any id vv xs w h hn)
  have HV := Lib.hid (fun w => isValid_any id xs.length (xs.getD 0 0) (xs.getD 1 0) (xs.getD 2 0) w)
  rw [recB_row] at HV
  have H := Lib.hid h
  unfold recV at HR
  clear h hn
  generalize xs.getD 0 0 = x0 at *
  generalize xs.getD 1 0 = x1 at *
  generalize xs.getD 2 0 = x2 at *
  generalize rowB (id, xs) = r at *
  go_enter Try.func103, Try.ntmps103
  go_wp2_with fail
  have hb : Below w.heap.size w (w.alloc (.cells #[.int .i64 id, vv] 76)) := (Below.refl _ w).alloc (Nat.le_refl _) _
  refine (HR.out _ (ints_below H.out hb)).mono ?_
  rintro e w1 ⟨rfl, b1⟩
  have b2 := hb.trans (b1.mono hb.size)
  clear hb b1
  go_wp2_with fail
  refine (HV.out _).mono ?_
  rintro e w2 ⟨rfl, b3⟩
  have b4 := b2.trans (b3.mono b2.size)
  clear b2 b3
  go_wp2
  go_ret
  exact ⟨rfl, b4⟩
end Go.Proofs.Ytginjmnohnidiaa
namespace Go.Proofs.Ytginjmnohnidiaa
open Go.RowKit
set_option linter.unusedVariables false
set_option linter.unusedSimpArgs false
set_option maxHeartbeats 4000000 in
set_option maxRecDepth 100000 in
theorem admit_any (cv vv : Value) (cs : List CondD) (xs : List Int) (w : World) (h : CondsR w cv cs) (hn : cs.length ≤ 1048576) (gr : Ints w vv xs) (h3 : xs.length = 3) (hc : ∀ k, k < cs.length → 0 ≤ (cs.getD k c0D).1 ∧ (cs.getD k c0D).1 ≤ 2) :
    Calls Try.prog 104 #[cv, vv] w fun e w' => e = .returned (.bool (cs.all (okC xs))) ∧ Below w.heap.size w w' := by
  have H := Lib.hid h
  have HX := Lib.hid gr
  have HLN := Lib.hid h3
  have HCD := Lib.hid hc
  obtain ⟨ca, ccap, rfl⟩ := condsR_len h
  obtain ⟨va, vcap, rfl⟩ := ints_len gr
  clear h gr h3 hc
  go_enter Try.func104, Try.ntmps104
  go_wp2
  go_loopw [10] (fun i wr => ∃ k : Nat, k ≤ cs.length ∧ i = .int .i64 k ∧ Hid (∀ j, j < k → okC xs (cs.getD j c0D) = true) ∧ Below w.heap.size w wr) (fun i _ => cs.length - (intOf i).toNat)
  case atStart => exact ⟨0, Nat.zero_le _, rfl, Lib.hid (fun j hj => by omega), Below.refl _ _⟩
  case round =>
    obtain ⟨k, hk, rfl, hall, hbel⟩ := hrel
    by_cases hlt : k < cs.length
    · have i1 : (0 : Int) ≤ (k : Int) := by omega
      have i2 : (k : Int) < (cs.length : Int) := by omega
      obtain ⟨bc, offc, capc, hvc, hblc, d1, d2, d3⟩ := condsR_at (condsR_below H.out hbel) hlt
      simp only [Value.slice.injEq] at hvc
      obtain ⟨rfl, _, rfl⟩ := hvc
      have hcd := HCD.out k hlt
      have hok : okC xs (cs.getD k c0D) = true → Hid (∀ j, j < k + 1 → okC xs (cs.getD j c0D) = true) := fun h => Lib.hid (fun j hj => by
        by_cases e : j = k
        · subst e; exact h
        · exact hall.out j (by omega))
      have hno : okC xs (cs.getD k c0D) = false → Hid (cs.all (okC xs) = false) := fun h => Lib.hid (all_bad hlt h)
      have HOK := Lib.hid hok
      have HNO := Lib.hid hno
      clear hok hno hall
      generalize cs.getD k c0D = c at *
      obtain ⟨f, lo, hi⟩ := c
      simp only at d1 d2 d3 hcd
      obtain ⟨fn, rfl⟩ := Int.eq_ofNat_of_zero_le hcd.1
      have hfn : fn < xs.length := by have := HLN.out; omega
      obtain ⟨bx, offx, capx, hvx, hblx, hcx⟩ := ints_cell (ints_below HX.out hbel) (by omega)
      simp only [Value.slice.injEq] at hvx
      obtain ⟨rfl, _, rfl⟩ := hvx
      have x0 := hcx fn hfn
      have j1 : (0 : Int) ≤ (fn : Int) := by omega
      have j2 : (fn : Int) < (xs.length : Int) := by omega
      have ho : okC xs ((fn : Int), lo, hi) = decide (lo ≤ xs.getD fn 0 ∧ xs.getD fn 0 ≤ hi) := by unfold okC; simp
      rw [ho] at HOK HNO
      clear hcx ho hcd
      generalize xs.getD fn 0 = x at *
      have hal : Below wr.heap.size wr (wr.alloc (.cells #[.int .i64 (fn : Int), .int .i64 lo, .int .i64 hi] 125)) := (Below.refl _ _).alloc (Nat.le_refl _) _
      have x1 := (hal.cell (p := ⟨bx, offx + fn, none⟩) hblx).trans x0
      have c3 := hbel.trans (hal.mono hbel.size)
      by_cases ha : lo ≤ x
      · by_cases hb : x ≤ hi
        · have HA := HOK.out (decide_eq_true ⟨ha, hb⟩)
          have ta : ¬ x < lo := by omega
          have tb : ¬ hi < x := by omega
          clear HOK HNO ha hb hal hblx hblc x0
          go_wp2
          go_roundw
          case rel => exact ⟨k + 1, by omega, by go_num, HA, c3⟩
          case measure => simp [intOf]; omega
        · have HA := HNO.out (decide_eq_false (fun g => hb g.2))
          have ta : ¬ x < lo := by omega
          have tb : hi < x := by omega
          clear HOK HNO ha hb hal hblx hblc x0
          go_wp2
          go_ret
          exact ⟨ret_b HA.out.symm, c3⟩
      · have HA := HNO.out (decide_eq_false (fun g => ha g.1))
        have ta : x < lo := by omega
        clear HOK HNO ha hal hblx hblc x0
        go_wp2
        go_ret
        exact ⟨ret_b HA.out.symm, c3⟩
    · obtain rfl : k = cs.length := by omega
      have HA := Lib.hid (all_ok hall.out)
      clear hall
      go_wp2
      go_ret
      exact ⟨ret_b HA.out.symm, hbel⟩
theorem cr_boxes {W w : World} {g : Nat} {a b x y : Value} (g0 : W.heap[g]? = some (.cells #[a, b] 88 (0, 0))) (g1 : W.heap[g + 1]? = some (.cells #[x, y] 76 (0, 0))) (hz : g + 1 < W.heap.size) (hb : Below W.heap.size W w) :
    w.cell? ⟨g, 0, none⟩ = some a ∧ w.cell? ⟨g, 1, none⟩ = some b ∧ w.cell? ⟨g + 1, 0, none⟩ = some x ∧ w.cell? ⟨g + 1, 1, none⟩ = some y := by
  have k0 := (hb.block g (by omega)).trans g0
  have k1 := (hb.block (g + 1) hz).trans g1
  exact ⟨(cell_of_row w _ 0 _ _ _ k0).trans rfl, (cell_of_row w _ 1 _ _ _ k0).trans rfl, (cell_of_row w _ 0 _ _ _ k1).trans rfl, (cell_of_row w _ 1 _ _ _ k1).trans rfl⟩
set_option maxHeartbeats 4000000 in
set_option maxRecDepth 100000 in
theorem matches_any (rid : Int) (cv ov vv : Value) (cs : List CondD) (os xs : List Int) (w : World) (h : CondsR w cv cs) (hn : cs.length ≤ 1048576) (g : Ints w ov os) (gr : Ints w vv xs) (hx : xs.length ≤ 1048576) (hc : ∀ k, k < cs.length → 0 ≤ (cs.getD k c0D).1 ∧ (cs.getD k c0D).1 ≤ 2) :
    Calls Try.prog 63 #[.agg #[cv, ov], .agg #[.int .i64 rid, vv]] w fun e w' => e = .returned (.bool (rowB (rid, xs) && cs.all (okC xs))) ∧ Below w.heap.size w w' := by
  obtain ⟨ca, ccap, rfl⟩ := condsR_len h
  obtain ⟨oa, ocap, rfl⟩ := ints_len g
  obtain ⟨va, vcap, rfl⟩ := ints_len gr
  have hb0 : Below w.heap.size w ((w.alloc (.cells #[.slice ca cs.length ccap, .slice oa os.length ocap] 88)).alloc (.cells #[.int .i64 rid, .slice va xs.length vcap] 76)) := ((Below.refl _ w).alloc (Nat.le_refl _) _).alloc (by simp) _
  have HG1 : Hid (((w.alloc (.cells #[.slice ca cs.length ccap, .slice oa os.length ocap] 88)).alloc (.cells #[.int .i64 rid, .slice va xs.length vcap] 76)).heap[w.heap.size + 1]? = some (.cells #[.int .i64 rid, .slice va xs.length vcap] 76 (0, 0))) := Lib.hid (by
    have := heap_alloc_new (w.alloc (.cells #[.slice ca cs.length ccap, .slice oa os.length ocap] 88)) (.cells #[.int .i64 rid, .slice va xs.length vcap] 76)
    simpa only [World.size_alloc] using this)
  have HG0 : Hid (((w.alloc (.cells #[.slice ca cs.length ccap, .slice oa os.length ocap] 88)).alloc (.cells #[.int .i64 rid, .slice va xs.length vcap] 76)).heap[w.heap.size]? = some (.cells #[.slice ca cs.length ccap, .slice oa os.length ocap] 88 (0, 0))) := Lib.hid (by
    rw [Below.heap_alloc _ _ _ (by simp)]
    exact heap_alloc_new w _)
  have HZ : Hid (w.heap.size + 1 < ((w.alloc (.cells #[.slice ca cs.length ccap, .slice oa os.length ocap] 88)).alloc (.cells #[.int .i64 rid, .slice va xs.length vcap] 76)).heap.size) := Lib.hid (by simp)
  have HB0 := Lib.hid hb0
  have HC := Lib.hid (condsR_below h hb0)
  have HX := Lib.hid (ints_below gr hb0)
  have HR := Lib.hid (fun w h => implIsRow rid (.slice va xs.length vcap) xs w h hx)
  clear h g gr hx hb0
  cases hr : rowB (rid, xs) with
  | false =>
    have HT : Hid ((false && cs.all (okC xs)) = false) := Lib.hid rfl
    rw [hr] at HR
    clear hr
    go_enter Try.func63, Try.ntmps63
    go_wp2_with fail
    generalize ((w.alloc (.cells #[.slice ca cs.length ccap, .slice oa os.length ocap] 88)).alloc (.cells #[.int .i64 rid, .slice va xs.length vcap] 76)) = W at *
    refine (HR.out _ HX.out).mono ?_
    rintro e w1 ⟨rfl, b1⟩
    have c1 := HB0.out.trans (b1.mono HB0.out.size)
    go_wp2
    go_ret
    exact ⟨ret_b HT.out.symm, c1⟩
  | true =>
    have HA := Lib.hid (fun w h g => admit_any (.slice ca cs.length ccap) (.slice va xs.length vcap) cs xs w h hn g (row_len hr) hc)
    rw [hr] at HR
    clear hr hn hc
    obtain ⟨r, hrr⟩ : ∃ r, cs.all (okC xs) = r := ⟨_, rfl⟩
    rw [hrr] at HA ⊢
    clear hrr
    go_enter Try.func63, Try.ntmps63
    go_wp2_with fail
    generalize ((w.alloc (.cells #[.slice ca cs.length ccap, .slice oa os.length ocap] 88)).alloc (.cells #[.int .i64 rid, .slice va xs.length vcap] 76)) = W at *
    refine (HR.out _ HX.out).mono ?_
    rintro e w1 ⟨rfl, b1⟩
    have c1 := HB0.out.trans (b1.mono HB0.out.size)
    obtain ⟨p0, p1, r0, r1⟩ := cr_boxes HG0.out HG1.out HZ.out b1
    go_wp2_with fail
    refine (HA.out _ (condsR_below HC.out b1) (ints_below HX.out b1)).mono ?_
    rintro e w2 ⟨rfl, b2⟩
    have c2 := c1.trans (b2.mono c1.size)
    go_wp2
    go_ret
    exact ⟨ret_b (by simp), c2⟩
end Go.Proofs.Ytginjmnohnidiaa
namespace Go.Proofs.Ytginjmnohnidiaa
open Go.RowKit
set_option linter.unusedVariables false
set_option linter.unusedSimpArgs false
end Go.Proofs.Ytginjmnohnidiaa
namespace Go.Proofs.Ytginjmnohnidiaa
open Go.RowKit
set_option linter.unusedVariables false
set_option linter.unusedSimpArgs false
/-- The first list lies before the second. -/
def lessL : List Int → List Int → Bool
  | _, [] => false
  | [], _ :: _ => true
  | x :: xs, y :: ys => if x = y then lessL xs ys else decide (x < y)
/-- Rows by their numbers, then by their values. -/
def rowLess (a b : RowD) : Bool := if a.1 = b.1 then lessL a.2 b.2 else decide (a.1 < b.1)
theorem lessL_step {xs ys : List Int} {k : Nat} (hx : k < xs.length) (hy : k < ys.length) (h : xs.getD k 0 = ys.getD k 0) : lessL (xs.drop k) (ys.drop k) = lessL (xs.drop (k + 1)) (ys.drop (k + 1)) := by
  rw [List.drop_eq_getElem_cons hx, List.drop_eq_getElem_cons hy]
  have e : xs[k] = ys[k] := by simpa [List.getD, hx, hy] using h
  simp only [lessL, e, if_true]
theorem lessL_ne {xs ys : List Int} {k : Nat} (hx : k < xs.length) (hy : k < ys.length) (h : ¬ xs.getD k 0 = ys.getD k 0) : lessL (xs.drop k) (ys.drop k) = decide (xs.getD k 0 < ys.getD k 0) := by
  rw [List.drop_eq_getElem_cons hx, List.drop_eq_getElem_cons hy]
  have e : ¬ xs[k] = ys[k] := by simpa [List.getD, hx, hy] using h
  simp only [lessL, if_neg e]
  simp [List.getD, hx, hy]
theorem lessL_end {xs ys : List Int} {k : Nat} (hx : k ≤ xs.length) (hy : k ≤ ys.length) (h : ¬ (k < xs.length ∧ k < ys.length)) : lessL (xs.drop k) (ys.drop k) = decide (xs.length < ys.length) := by
  by_cases e : k = ys.length
  · subst e
    rw [List.drop_length]
    rw [decide_eq_false (by omega)]
    unfold lessL
    rfl
  · have e2 : k = xs.length := by omega
    subst e2
    rw [List.drop_length, List.drop_eq_getElem_cons (by omega), decide_eq_true (by omega)]
    rfl
set_option maxHeartbeats 4000000 in
set_option maxRecDepth 100000 in
theorem l3LessInts_any (v u : Value) (xs ys : List Int) (w : World) (h : Ints w v xs) (g : Ints w u ys) (hn : xs.length ≤ 1048576) (hm : ys.length ≤ 1048576) :
    Calls Try.prog 91 #[v, u] w fun e w' => e = .returned (.bool (lessL xs ys)) ∧ Below w.heap.size w w' := by
  have H := Lib.hid h
  have G := Lib.hid g
  obtain ⟨a, cap, rfl⟩ := ints_len h
  obtain ⟨a2, cap2, rfl⟩ := ints_len g
  clear h g
  go_enter Try.func91, Try.ntmps91
  go_wp2
  go_loopw [5] (fun i wr => ∃ k : Nat, k ≤ xs.length ∧ k ≤ ys.length ∧ i = .int .i64 k ∧ Hid (lessL (xs.drop k) (ys.drop k) = lessL xs ys) ∧ Below w.heap.size w wr) (fun i _ => xs.length - (intOf i).toNat)
  case atStart => exact ⟨0, Nat.zero_le _, Nat.zero_le _, rfl, Lib.hid (by simp), Below.refl _ _⟩
  case round =>
    obtain ⟨k, hk, hk2, rfl, hall, hbel⟩ := hrel
    by_cases hlt : k < xs.length ∧ k < ys.length
    · obtain ⟨h1, h2⟩ := hlt
      obtain ⟨b, off, cap', hv, hbl, hc⟩ := ints_cell H.out (by omega)
      obtain ⟨b2, off2, cap2', hv2, hbl2, hc2⟩ := ints_cell G.out (by omega)
      simp only [Value.slice.injEq] at hv hv2
      obtain ⟨rfl, _, rfl⟩ := hv
      obtain ⟨rfl, _, rfl⟩ := hv2
      have hcell := (hbel.cell (p := ⟨b, off + k, none⟩) hbl).trans (hc k h1)
      have hcell2 := (hbel.cell (p := ⟨b2, off2 + k, none⟩) hbl2).trans (hc2 k h2)
      have i1 : (0 : Int) ≤ (k : Int) := by omega
      have i2 : (k : Int) < (xs.length : Int) := by omega
      have i3 : (k : Int) < (ys.length : Int) := by omega
      have HST := Lib.hid (fun e => (lessL_step h1 h2 e).symm.trans hall.out)
      have HNE := Lib.hid (fun e => (lessL_ne h1 h2 e).symm.trans hall.out)
      clear hc hc2 hall
      generalize xs.getD k 0 = x at *
      generalize ys.getD k 0 = y at *
      by_cases he : x = y
      · subst he
        have HA := Lib.hid (HST.out rfl)
        clear HST HNE
        go_wp2
        go_quiet (fail)
        go_wp2
        go_roundw
        case rel => exact ⟨k + 1, by omega, by omega, by go_num, HA, below_same hbel rfl rfl rfl rfl⟩
        case measure => simp [intOf]; omega
      · have HA := Lib.hid (HNE.out he)
        have hne : (x != y) = true := by rw [bne_iff_ne]; exact he
        clear HST HNE he
        go_wp2
        go_quiet (fail)
        go_wp2
        go_quiet (fail)
        go_wp2
        go_ret
        exact ⟨ret_b HA.out, below_same hbel rfl rfl rfl rfl⟩
    · have HE := Lib.hid ((lessL_end hk hk2 hlt).symm.trans hall.out)
      clear hall
      by_cases h1 : k < xs.length
      · have h2 : ¬ k < ys.length := fun h2 => hlt ⟨h1, h2⟩
        have i3 : ¬ (k : Int) < (ys.length : Int) := by omega
        have i2 : (k : Int) < (xs.length : Int) := by omega
        go_wp2
        go_ret
        exact ⟨ret_b (by rw [← HE.out]), hbel⟩
      · have i2 : ¬ (k : Int) < (xs.length : Int) := by omega
        go_wp2
        go_ret
        exact ⟨ret_b (by rw [← HE.out]), hbel⟩
set_option maxHeartbeats 4000000 in
set_option maxRecDepth 100000 in
theorem l3Less_any (id id2 : Int) (v u : Value) (xs ys : List Int) (w : World) (h : Ints w v xs) (g : Ints w u ys) (hn : xs.length ≤ 1048576) (hm : ys.length ≤ 1048576) :
    Calls Try.prog 48 #[.agg #[.int .i64 id, v], .agg #[.int .i64 id2, u]] w fun e w' => e = .returned (.bool (rowLess (id, xs) (id2, ys))) ∧ Below w.heap.size w w' := by
  have HL := Lib.hid (fun w h g => l3LessInts_any v u xs ys w h g hn hm)
  have hb : Below w.heap.size w ((w.alloc (.cells #[.int .i64 id, v] 76)).alloc (.cells #[.int .i64 id2, u] 76)) := ((Below.refl _ w).alloc (Nat.le_refl _) _).alloc (by simp [World.size_alloc]) _
  have I1 := Lib.hid (ints_below h hb)
  have I2 := Lib.hid (ints_below g hb)
  by_cases he : id = id2
  · subst he
    have HA : Hid (rowLess (id, xs) (id, ys) = lessL xs ys) := Lib.hid (by simp [rowLess])
    obtain ⟨a, cap, rfl⟩ := ints_len h
    obtain ⟨a2, cap2, rfl⟩ := ints_len g
    clear h g
    go_enter Try.func48, Try.ntmps48
    go_wp2_with fail
    refine (HL.out _ I1.out I2.out).mono ?_
    rintro e w2 ⟨rfl, b2⟩
    have b3 := hb.trans (b2.mono hb.size)
    go_wp2
    go_ret
    exact ⟨ret_b HA.out.symm, b3⟩
  · have HA : Hid (rowLess (id, xs) (id2, ys) = decide (id < id2)) := Lib.hid (by simp [rowLess, he])
    have hne : (id != id2) = true := by rw [bne_iff_ne]; exact he
    obtain ⟨a, cap, rfl⟩ := ints_len h
    obtain ⟨a2, cap2, rfl⟩ := ints_len g
    clear h g he
    go_enter Try.func48, Try.ntmps48
    go_wp2
    go_ret
    exact ⟨ret_b HA.out.symm, hb⟩
end Go.Proofs.Ytginjmnohnidiaa
namespace Go.Proofs.Ytginjmnohnidiaa
open Go.RowKit
set_option linter.unusedVariables false
set_option linter.unusedSimpArgs false
set_option maxHeartbeats 4000000 in
set_option maxRecDepth 100000 in
theorem l3Copy_any (id : Int) (vv : Value) (xs : List Int) (w : World) (h : Ints w vv xs) (hn : xs.length ≤ 1048576) :
    Calls Try.prog 49 #[.agg #[.int .i64 id, vv]] w (FreshRow w (id, xs)) := by
  have H := Lib.hid h
  have HN := Lib.hid hn
  obtain ⟨va, vcap, rfl⟩ := ints_len h
  clear h hn
  go_enter Try.func49, Try.ntmps49
  go_wp2
  have hh : Below w.heap.size w ((w.alloc (.cells #[.int .i64 id, .slice va xs.length vcap] 76)).alloc (.cells #[.int .i64 0, .slice none 0 0] 76)) := ((Below.refl _ w).alloc (Nat.le_refl _) _).alloc (by simp) _
  have g2 : ((w.alloc (.cells #[.int .i64 id, .slice va xs.length vcap] 76)).alloc (.cells #[.int .i64 0, .slice none 0 0] 76)).heap[w.heap.size + 1]? = some (.cells #[.int .i64 0, .slice none 0 0] 76 (0, 0)) := by
    have := heap_alloc_new (w.alloc (.cells #[.int .i64 id, .slice va xs.length vcap] 76)) (.cells #[.int .i64 0, .slice none 0 0] 76)
    simpa only [World.size_alloc] using this
  have g1 : ((w.alloc (.cells #[.int .i64 id, .slice va xs.length vcap] 76)).alloc (.cells #[.int .i64 0, .slice none 0 0] 76)).heap[w.heap.size]? = some (.cells #[.int .i64 id, .slice va xs.length vcap] 76 (0, 0)) := by
    rw [Below.heap_alloc _ _ _ (by simp)]
    exact heap_alloc_new w _
  have hs : ((w.alloc (.cells #[.int .i64 id, .slice va xs.length vcap] 76)).alloc (.cells #[.int .i64 0, .slice none 0 0] 76)).heap.size = w.heap.size + 2 := by simp [World.size_alloc]
  generalize ((w.alloc (.cells #[.int .i64 id, .slice va xs.length vcap] 76)).alloc (.cells #[.int .i64 0, .slice none 0 0] 76)) = W at *
  have b0 := box_cells g1 (Below.refl _ W)
  refine wp_region_held_drew (S := fun w' => w'.cell? ⟨w.heap.size, 0, none⟩ = some (.int .i64 id) ∧ w'.cell? ⟨w.heap.size, 1, none⟩ = some (.slice va xs.length vcap)) (by kernel_rfl) ⟨b0.1, b0.2⟩ (fun hHeld => ?_)
  refine take_runs (i := 0) (v := ?_) (by simp only [List.getElem?_toArray, List.getElem?_cons_succ, List.getElem?_cons_zero]; rfl) (by kernel_rfl) (by kernel_rfl) (by kernel_rfl) rfl (by exact fun _ _ _ h => h) (by rfl) ?_ (by assumption) ?_
  rotate_left
  · intro w hSw; (try dsimp only at hSw); go_simp; try (with_reducible rfl)
  try simp only [Act.put, List.setIfInBounds_toArray, List.set_cons_zero, List.set_cons_succ]
  refine take_runs (i := 1) (v := ?_) (by simp only [List.getElem?_toArray, List.getElem?_cons_succ, List.getElem?_cons_zero]; rfl) (by kernel_rfl) (by kernel_rfl) (by kernel_rfl) rfl (by exact fun _ _ _ h => h) (by rfl) ?_ (by assumption) ?_
  rotate_left
  · intro w hSw; (try dsimp only at hSw); go_simp; try (with_reducible rfl)
  try simp only [Act.put, List.setIfInBounds_toArray, List.set_cons_zero, List.set_cons_succ]
  refine take_runs (i := 3) (v := ?_) (by simp only [List.getElem?_toArray, List.getElem?_cons_succ, List.getElem?_cons_zero]; rfl) (by kernel_rfl) (by kernel_rfl) (by kernel_rfl) rfl (by exact fun _ _ _ h => h) (by rfl) ?_ (by assumption) ?_
  rotate_left
  · intro w hSw; (try dsimp only at hSw); go_simp; try (with_reducible rfl)
  try simp only [Act.put, List.setIfInBounds_toArray, List.set_cons_zero, List.set_cons_succ]
  refine take_runs (i := 4) (v := ?_) (by simp only [List.getElem?_toArray, List.getElem?_cons_succ, List.getElem?_cons_zero]; rfl) (by kernel_rfl) (by kernel_rfl) (by kernel_rfl) rfl (by exact fun _ _ _ h => h) (by rfl) ?_ (by assumption) ?_
  rotate_left
  · intro w hSw; (try dsimp only at hSw); go_simp; try (with_reducible rfl)
  try simp only [Act.put, List.setIfInBounds_toArray, List.set_cons_zero, List.set_cons_succ]
  refine wpAnyH_ready (rs := [2]) (by kernel_rfl) (by simp) ?_
  refine AllReadyH.cons (o := _) (by simp only [List.getElem?_toArray, List.getElem?_cons_succ, List.getElem?_cons_zero]; rfl) (fun K hK => ?_) AllReadyH.nil
  go_simp
  have bA : Below W.heap.size W (W.alloc (.cells #[] 3)).drew := below_drew ((Below.refl _ W).alloc (Nat.le_refl _) _)
  have oA : OwnsN (W.alloc (.cells #[] 3)).drew W.heap.size (.slice (some ⟨w.heap.size + 2, 0, none⟩) 0 0) [] := by
    rw [← hs]
    exact World.ownsRow.drew (ownsN_lit W W.heap.size (Nat.le_refl _) #[] 0 [] rfl rfl (by unfold maxLen; omega))
  generalize (W.alloc (.cells #[] 3)).drew = W2 at *
  refine hK.out _ _ (box_cells g1 bA) (fun hHeld2 => ?_)
  clear hK K hHeld
  try simp only [Act.put, List.setIfInBounds_toArray, List.set_cons_zero, List.set_cons_succ]
  have B2 := hh.trans (bA.mono hh.size)
  have I2 := ints_below H.out B2
  refine wpAnyH_ready (rs := [5]) (by kernel_rfl) (by simp) ?_
  refine AllReadyH.cons (o := _) (by simp only [List.getElem?_toArray, List.getElem?_cons_succ, List.getElem?_cons_zero]; rfl) (fun K hK => ?_) AllReadyH.nil
  refine step_append_ints rfl (.tmp 5) (.tmp 7) rfl W.heap.size _ _ [] xs rfl rfl oA I2 bA.size (by have := HN.out; simp; omega) ?_
  intro u W3 oB bB
  rw [List.nil_append] at oB
  obtain ⟨ua, ucap, rfl⟩ := ints_len (ownsN_ints oB)
  have bC := bA.trans bB
  refine hK.out _ _ (box_cells g1 bC) (fun hHeld3 => ?_)
  clear hK K hHeld2
  try simp only [Act.put, List.setIfInBounds_toArray, List.set_cons_zero, List.set_cons_succ]
  refine take_runs (i := 6) (v := ?_) (by simp only [List.getElem?_toArray, List.getElem?_cons_succ, List.getElem?_cons_zero]; rfl) (by kernel_rfl) (by kernel_rfl) (by kernel_rfl) rfl (by exact fun _ _ _ h => h) (by rfl) ?_ (by assumption) ?_
  rotate_left
  · intro w hSw; (try dsimp only at hSw); go_simp; try (with_reducible rfl)
  try simp only [Act.put, List.setIfInBounds_toArray, List.set_cons_zero, List.set_cons_succ]
  have k2 := (bC.block (w.heap.size + 1) (by omega)).trans g2
  have c0 := cell_of_row W3 _ 0 _ _ _ k2
  have c1 := cell_of_row W3 _ 1 _ _ _ k2
  have f0 := frozen_of_row W3 _ 0 _ _ k2
  have f1 := frozen_of_row W3 _ 1 _ _ k2
  simp at c0 c1
  refine wpAnyH_ready (rs := [7]) (by kernel_rfl) (by simp) ?_
  refine AllReadyH.cons (o := _) (by simp only [List.getElem?_toArray, List.getElem?_cons_succ, List.getElem?_cons_zero]; rfl) (fun K hK => ?_) AllReadyH.nil
  go_simp
  have k0 := (bC.block w.heap.size (by omega)).trans g1
  have m0 := (heap_setCell_other (W3.setCell ⟨w.heap.size + 1, 0, none⟩ (.int .i64 id)) ⟨w.heap.size + 1, 1, none⟩ w.heap.size (.slice ua xs.length ucap) (by simp)).trans ((heap_setCell_other W3 ⟨w.heap.size + 1, 0, none⟩ w.heap.size (.int .i64 id) (by simp)).trans k0)
  have r1 := heap_setCell_same W3 (w.heap.size + 1) 0 _ _ (.int .i64 id) k2
  have r2 := heap_setCell_same _ (w.heap.size + 1) 1 _ _ (.slice ua xs.length ucap) r1
  have o4 := ownsN_low (ownsN_low oB (b := w.heap.size + 1) (by omega) 0 (.int .i64 id)) (b := w.heap.size + 1) (by omega) 1 (.slice ua xs.length ucap)
  have B4 := ((hh.trans (bC.mono hh.size)).setCell (p := ⟨w.heap.size + 1, 0, none⟩) (by simp) (.int .i64 id)).setCell (p := ⟨w.heap.size + 1, 1, none⟩) (by simp) (.slice ua xs.length ucap)
  have e0 := cell_of_row _ _ 0 _ _ _ r2
  have e1 := cell_of_row _ _ 1 _ _ _ r2
  simp at e0 e1
  clear r1 r2 k0 k2 c0 c1 f0 f1
  generalize (W3.setCell ⟨w.heap.size + 1, 0, none⟩ (.int .i64 id)).setCell ⟨w.heap.size + 1, 1, none⟩ (.slice ua xs.length ucap) = W4 at *
  refine hK.out _ _ (box_cells m0 (Below.refl _ W4)) (fun hHeld4 => ?_)
  clear hK K hHeld3
  try simp only [Act.put, List.setIfInBounds_toArray, List.set_cons_zero, List.set_cons_succ]
  refine wpAnyH_done (by kernel_rfl) ?_ _
  go_wp2
  refine bodyPost_ret (v := .agg #[.int .i64 id, .slice ua xs.length ucap]) ?_ rfl ?_
  · simp [results, Try.f49, go_sem, e0, e1]
  · exact ⟨_, rfl, ownsN_up o4 (by omega), B4⟩
end Go.Proofs.Ytginjmnohnidiaa
namespace Go.Proofs.Ytginjmnohnidiaa
open Go.RowKit
set_option linter.unusedVariables false
/-- Where the row r goes among the first k rows. -/
def insAt (rs : List RowD) (r : RowD) : Nat → Nat
  | 0 => 0
  | k + 1 => if rowLess r (rs.getD k (0, [])) then insAt rs r k else k + 1
def insL (rs : List RowD) (r : RowD) : List RowD := rs.take (insAt rs r rs.length) ++ r :: rs.drop (insAt rs r rs.length)
def sortTo (a : List RowD) (k : Nat) : List RowD := (a.take k).foldl insL []
def sortL (a : List RowD) : List RowD := a.foldl insL []
theorem sortTo_step {a : List RowD} {k : Nat} (hk : k < a.length) : sortTo a (k + 1) = insL (sortTo a k) (a.getD k (0, [])) := by
  unfold sortTo
  rw [List.take_succ_eq_append_getElem hk, List.foldl_append]
  simp [List.getD, hk]
theorem sortTo_all (a : List RowD) : sortTo a a.length = sortL a := by simp [sortTo, sortL]
theorem insAt_le (rs : List RowD) (r : RowD) (k : Nat) : insAt rs r k ≤ k := by
  induction k with
  | zero => exact Nat.le_refl _
  | succ k ih => unfold insAt; split <;> omega
theorem insL_perm (rs : List RowD) (r : RowD) : (insL rs r).Perm (r :: rs) := by
  unfold insL
  refine List.perm_middle.trans ?_
  rw [List.take_append_drop]
theorem foldl_perm (a : List RowD) : ∀ acc, (a.foldl insL acc).Perm (a ++ acc) := by
  induction a with
  | nil => intro acc; exact List.Perm.refl _
  | cons r a ih =>
    intro acc
    refine (ih (insL acc r)).trans ?_
    refine (List.Perm.append_left a (insL_perm acc r)).trans ?_
    exact List.perm_middle
theorem sortL_perm (a : List RowD) : (sortL a).Perm a := by have := foldl_perm a []; rw [List.append_nil] at this; exact this
theorem szL_perm {a b : List RowD} (h : a.Perm b) : szL a = szL b := by
  unfold szL szTo
  rw [List.take_length, List.take_length, h.length_eq]
  have := (h.map (fun r : RowD => r.2.length)).sum_nat
  rw [this]
theorem szL_sort (a : List RowD) (h : szL a ≤ 1048576) : szL (sortL a) ≤ 1048576 := by rw [szL_perm (sortL_perm a)]; exact h
theorem sortTo_perm (a : List RowD) (k : Nat) : (sortTo a k).Perm (a.take k) := by have := foldl_perm (a.take k) []; rw [List.append_nil] at this; exact this
theorem sortTo_len {a : List RowD} {k : Nat} (hk : k ≤ a.length) : (sortTo a k).length = k := by rw [(sortTo_perm a k).length_eq, List.length_take]; omega
theorem sortTo_sz {a : List RowD} {k : Nat} (hs : szL a ≤ 1048576) (hk : k ≤ a.length) : szL (sortTo a k) ≤ 1048576 := by
  rw [szL_perm (sortTo_perm a k)]
  have h1 := szTo_le hk
  unfold szL szTo at *
  rw [List.take_take, List.length_take, show min (min k a.length) k = k by omega]
  omega
/-- The cells of a slice of rows that the call made. -/
def RowsC (w : World) (B : Nat) (v : Value) (n : Nat) (cs : List Value) : Prop := w.ownsRow B 76 2 v n cs
theorem info_row : ∃ i, Try.prog.info? 76 = some i ∧ i.zero = some (.agg #[.int .i64 0, .slice none 0 0]) ∧ i.size = 2 ∧ i.bytes = 32 := by
  have h1 := Try.infoRow
  have h2 := row_bytes
  cases e : Try.prog.info? 76 with
  | none => rw [e] at h1; simp at h1
  | some i => rw [e] at h1 h2; simp at h1 h2; exact ⟨i, rfl, h1.1, h1.2, h2⟩
/-- 'append(x, ..)' of m rows whose cells lie at ad. -/
theorem append_rows {w : World} {ops : Array Oper} {rest : List Oper} {o : Oper} {a : Act} {Q : Exit → Act → World → Prop} (hgd : o.guard = none) (s x : Operand)
    (ho : o.op = .call { callee := .builtin .append, args := #[s, x], argTypes := #[24, 24] })
    (B : Nat) (v : Value) (n : Nat) (cs : List Value) (hs : a.eval s = v) (hown : RowsC w B v n cs) (hB : B ≤ w.heap.size)
    (ad : Addr) (m c : Nat) (news : List Value) (hx : a.eval x = .slice (some ad) m c) (hl : news.length = m * 2) (hnews : ∀ j u, news[j]? = some u → w.cell? (ad.add j) = some u) (h1 : ∀ u ∈ news, u.oneCell' = true) (h63 : n + m ≤ 2097152)
    (h : ∀ v' w', RowsC w' B v' (n + m) (cs ++ news) → w.grownBy w' v.ownBlock → (v' = .slice none 0 0 ↔ v = .slice none 0 0 ∧ m = 0) → (v'.ownBlock = v.ownBlock ∨ v'.ownBlock = some w.heap.size) → wpList Try.prog ops Q rest (a.put o.dst v') w') : wpList Try.prog ops Q (o :: rest) a w := by
  obtain ⟨i0, hi, hz0, hz1, hz2⟩ := info_row
  exact wpList_append_own_at _ hgd s x 24 ho B 76 i0 (.agg #[.int .i64 0, .slice none 0 0]) 2 32 Try.underlying24 hi hz0 hz1 hz2 rfl (by decide) v n cs hs hown ad m c news hx hl hnews h1 (by unfold maxLen; omega) (by omega) hB h
theorem rowsC_kept {w w' : World} {B : Nat} {v : Value} {n : Nat} {cs : List Value} (h : RowsC w B v n cs) (hb : Below w.heap.size w w') : RowsC w' B v n cs := ownsRow_below h hb
end Go.Proofs.Ytginjmnohnidiaa
namespace Go.Proofs.Ytginjmnohnidiaa
open Go.RowKit
set_option linter.unusedVariables false
theorem mid_low {α : Type} {cs : List α} {p i : Nat} {x y : α} (hp : p * 2 ≤ cs.length) (hi : i < p * 2) : (cs.take (p * 2) ++ [x, y] ++ cs.drop (p * 2))[i]? = cs[i]? := by
  have hl : (cs.take (p * 2)).length = p * 2 := by rw [List.length_take]; omega
  rw [List.append_assoc, List.getElem?_append_left (by omega), List.getElem?_take, if_pos hi]
theorem mid_at {α : Type} {cs : List α} {p : Nat} {x y : α} (hp : p * 2 ≤ cs.length) : (cs.take (p * 2) ++ [x, y] ++ cs.drop (p * 2))[p * 2]? = some x ∧ (cs.take (p * 2) ++ [x, y] ++ cs.drop (p * 2))[p * 2 + 1]? = some y := by
  have hl : (cs.take (p * 2)).length = p * 2 := by rw [List.length_take]; omega
  constructor
  · rw [List.append_assoc, List.getElem?_append_right (by omega), hl]
    simp
  · rw [List.append_assoc, List.getElem?_append_right (by omega), hl]
    simp
theorem mid_high {α : Type} {cs : List α} {p i : Nat} {x y : α} (hp : p * 2 ≤ cs.length) (hi : p * 2 + 2 ≤ i) : (cs.take (p * 2) ++ [x, y] ++ cs.drop (p * 2))[i]? = cs[i - 2]? := by
  have hl : (cs.take (p * 2)).length = p * 2 := by rw [List.length_take]; omega
  have hl2 : (cs.take (p * 2) ++ [x, y]).length = p * 2 + 2 := by rw [List.length_append, hl]; rfl
  rw [List.getElem?_append_right (by omega), hl2, List.getElem?_drop]
  congr 1
  omega
theorem rowIns_low {rs : List RowD} {p j : Nat} {r : RowD} (hp : p ≤ rs.length) (hj : j < p) : (rs.take p ++ r :: rs.drop p).getD j (0, []) = rs.getD j (0, []) := by
  have hl : (rs.take p).length = p := by rw [List.length_take]; omega
  simp only [List.getD]
  rw [List.getElem?_append_left (by omega), List.getElem?_take, if_pos hj]
theorem row_at {rs : List RowD} {p : Nat} {r : RowD} (hp : p ≤ rs.length) : (rs.take p ++ r :: rs.drop p).getD p (0, []) = r := by
  have hl : (rs.take p).length = p := by rw [List.length_take]; omega
  simp only [List.getD]
  rw [List.getElem?_append_right (by omega), hl, Nat.sub_self]
  rfl
theorem row_high {rs : List RowD} {p j : Nat} {r : RowD} (hp : p ≤ rs.length) (hj : p < j) : (rs.take p ++ r :: rs.drop p).getD j (0, []) = rs.getD (j - 1) (0, []) := by
  have hl : (rs.take p).length = p := by rw [List.length_take]; omega
  simp only [List.getD]
  rw [List.getElem?_append_right (by omega), hl, show j - p = (j - 1 - p) + 1 by omega, List.getElem?_cons_succ, List.getElem?_drop, show p + (j - 1 - p) = j - 1 by omega]
theorem insert_owns {W w : World} {B p : Nat} {v x3 vv : Value} {rs : List RowD} {vs : Nat → Value} {cs : List Value} {r : RowD} (hp : p ≤ rs.length)
    (h1 : W.ownsRow B 76 2 v rs.length cs)
    (h2 : ∀ j, j < rs.length → cs[j * 2]? = some (.int .i64 (rs.getD j (0, [])).1) ∧ cs[j * 2 + 1]? = some (vs j) ∧ OwnsN W B (vs j) (rs.getD j (0, [])).2 ∧ ∀ b, (vs j).ownBlock = some b → v.ownBlock ≠ some b)
    (h3 : ∀ i j, i < rs.length → j < rs.length → i ≠ j → ∀ b, (vs i).ownBlock = some b → (vs j).ownBlock ≠ some b)
    (hb : Below W.heap.size W w) (hB : B ≤ W.heap.size) (hx : RowsC w W.heap.size x3 (rs.length + 1) (cs.take (p * 2) ++ [.int .i64 r.1, vv] ++ cs.drop (p * 2)))
    (hv : OwnsN w W.heap.size vv r.2) (hne : ∀ b, vv.ownBlock = some b → x3.ownBlock ≠ some b) : OwnsR w B x3 (rs.take p ++ r :: rs.drop p) := by
  have hcl : cs.length = rs.length * 2 := h1.1
  have hlen : (rs.take p ++ r :: rs.drop p).length = rs.length + 1 := by simp; omega
  have hxlt : ∀ b, x3.ownBlock = some b → W.heap.size ≤ b := fun b e => (hx.lt b e).1
  have old : ∀ j, j < rs.length → ∀ b, (vs j).ownBlock = some b → b < W.heap.size := fun j hj b e => ((h2 j hj).2.2.1.lt b e).2
  have new : ∀ b, vv.ownBlock = some b → W.heap.size ≤ b := fun b e => (hv.lt b e).1
  refine ⟨cs.take (p * 2) ++ [.int .i64 r.1, vv] ++ cs.drop (p * 2), fun j => if j < p then vs j else if j = p then vv else vs (j - 1), ?_, ?_, ?_⟩
  · rw [hlen]
    refine ⟨hx.1, ?_⟩
    rcases hx.2 with hn | ⟨g, cap, cur, e, hb', rest⟩
    · exact .inl hn
    · exact .inr ⟨g, cap, cur, e, Nat.le_trans hB hb', rest⟩
  · intro j hj
    rw [hlen] at hj
    by_cases c1 : j < p
    · simp only [if_pos c1]
      obtain ⟨g1, g2, g3, _⟩ := h2 j (by omega)
      rw [rowIns_low hp c1, mid_low (by omega) (by omega), mid_low (by omega) (by omega)]
      exact ⟨g1, g2, ownsN_below g3 hb, fun b e q => by have := hxlt b q; have := old j (by omega) b e; omega⟩
    · by_cases c2 : j = p
      · subst c2
        simp only [Nat.lt_irrefl, if_false, if_true]
        rw [row_at hp]
        have := mid_at (cs := cs) (p := j) (x := Value.int .i64 r.1) (y := vv) (by omega)
        exact ⟨this.1, this.2, ownsN_up hv hB, hne⟩
      · simp only [if_neg c1, if_neg c2]
        obtain ⟨g1, g2, g3, _⟩ := h2 (j - 1) (by omega)
        rw [row_high hp (by omega), mid_high (by omega) (by omega), mid_high (by omega) (by omega), show j * 2 - 2 = (j - 1) * 2 by omega, show j * 2 + 1 - 2 = (j - 1) * 2 + 1 by omega]
        exact ⟨g1, g2, ownsN_below g3 hb, fun b e q => by have := hxlt b q; have := old (j - 1) (by omega) b e; omega⟩
  · intro i j hi hj hij b
    rw [hlen] at hi hj
    by_cases a1 : i < p
    · simp only [if_pos a1]
      intro e
      by_cases c1 : j < p
      · simp only [if_pos c1]; exact h3 i j (by omega) (by omega) hij b e
      · by_cases c2 : j = p
        · simp only [if_neg c1, if_pos c2]
          intro q
          have := new b q; have := old i (by omega) b e; omega
        · simp only [if_neg c1, if_neg c2]; exact h3 i (j - 1) (by omega) (by omega) (by omega) b e
    · by_cases a2 : i = p
      · simp only [if_neg a1, if_pos a2]
        intro e
        have hnb := new b e
        by_cases c1 : j < p
        · simp only [if_pos c1]; intro q; have := old j (by omega) b q; omega
        · by_cases c2 : j = p
          · omega
          · simp only [if_neg c1, if_neg c2]; intro q; have := old (j - 1) (by omega) b q; omega
      · simp only [if_neg a1, if_neg a2]
        intro e
        have hob := old (i - 1) (by omega) b e
        by_cases c1 : j < p
        · simp only [if_pos c1]; exact h3 (i - 1) j (by omega) (by omega) (by omega) b e
        · by_cases c2 : j = p
          · simp only [if_neg c1, if_pos c2]; intro q; have := new b q; omega
          · simp only [if_neg c1, if_neg c2]; exact h3 (i - 1) (j - 1) (by omega) (by omega) (by omega) b e
theorem rows_one {W : World} {B : Nat} {rs : List RowD} {vs : Nat → Value} {cs : List Value} (hl : cs.length = rs.length * 2)
    (h2 : ∀ j, j < rs.length → cs[j * 2]? = some (.int .i64 (rs.getD j (0, [])).1) ∧ cs[j * 2 + 1]? = some (vs j) ∧ OwnsN W B (vs j) (rs.getD j (0, [])).2) : ∀ u ∈ cs, u.oneCell' = true := by
  intro u hu
  obtain ⟨i, hi, rfl⟩ := List.getElem_of_mem hu
  obtain ⟨g1, g2, g3⟩ := h2 (i / 2) (by omega)
  rcases Nat.mod_two_eq_zero_or_one i with e | e
  · have : i / 2 * 2 = i := by omega
    rw [this, List.getElem?_eq_getElem hi] at g1
    rw [Option.some.inj g1]
    rfl
  · have : i / 2 * 2 + 1 = i := by omega
    rw [this, List.getElem?_eq_getElem hi] at g2
    rw [Option.some.inj g2]
    obtain ⟨a, c, e⟩ := ints_len (ownsN_ints g3)
    rw [e]
    rfl
theorem rows_cells {W w : World} {B g k cp : Nat} {cs : List Value} (h1 : W.ownsRow B 76 2 (.slice (some ⟨g, 0, none⟩) k cp) k cs) (hb : Below W.heap.size W w) : ∀ j u, cs[j]? = some u → w.cell? ((⟨g, 0, none⟩ : Addr).add j) = some u := by
  intro j u hj
  have hl := (List.getElem?_eq_some_iff.1 hj).1
  have hcl : cs.length = k * 2 := h1.1
  rw [Go.WideShapes.add_plain, Nat.zero_add]
  exact (hb.cell (p := ⟨g, j, none⟩) (h1.lt g rfl).2).trans ((World.ownsRow.cellAt h1 j (by omega)).trans hj)
end Go.Proofs.Ytginjmnohnidiaa
