/-
  The walk of the specification's ProjectRow.
-/
import Derived.Test.YteelgogfpidcdaaMatchSpec
import Derived.Test.YteelgogfpidcdaaAppInts
namespace Go.Proofs.Yteelgogfpidcdaa
open Go.RowKit
set_option linter.unusedVariables false
set_option linter.unusedSimpArgs false
/-- A slice of numbers in new memory is answered. -/
def FreshInts (w : World) (xs : List Int) (e : Ending) (w' : World) : Prop := ∃ v, e = .returned v ∧ OwnsN w' w.heap.size v xs ∧ Below w.heap.size w w'
def projL (id tn : Int) (cs : List CondD) (os : List Int) (r : RowD) : List Int := if rowB r && queryB id tn cs os then os.map (fun f => r.2.getD f.toNat 0) else []
theorem query_fields {id tn : Int} {cs : List CondD} {os : List Int} (h : queryB id tn cs os = true) {k : Nat} (hk : k < os.length) : 0 ≤ os.getD k 0 ∧ os.getD k 0 ≤ 2 := by
  unfold queryB at h
  simp only [Bool.and_eq_true] at h
  have h1 := h.2.2.2.2
  unfold fieldsB at h1
  rw [Bool.and_eq_true, List.all_eq_true] at h1
  have e : os.getD k 0 = os[k] := by simp [List.getD, hk]
  rw [e]
  exact of_decide_eq_true (h1.1 _ (List.getElem_mem hk))
theorem query_few {id tn : Int} {cs : List CondD} {os : List Int} (h : queryB id tn cs os = true) : cs.length ≤ 3 ∧ os.length ≤ 3 := by
  unfold queryB fieldsB at h
  simp only [Bool.and_eq_true, decide_eq_true_eq] at h
  exact ⟨h.2.2.2.1, h.2.2.2.2.2.2⟩
theorem proj_step {os xs : List Int} {k : Nat} (hk : k < os.length) : (os.take k).map (fun f => xs.getD f.toNat 0) ++ [xs.getD (os.getD k 0).toNat 0] = (os.take (k + 1)).map (fun f => xs.getD f.toNat 0) := by
  rw [List.take_succ_eq_append_getElem hk, List.map_append]
  simp [List.getD, hk]
theorem ints_one' {w : World} {h : Nat} {x : Int} (hc : w.cell? ⟨h, 0, none⟩ = some (.int .i64 x)) (hl : h < w.heap.size) : Ints w (.slice (some ⟨h, 0, none⟩) 1 1) [x] :=
  Or.inr ⟨h, 0, 1, rfl, by simp, hl, fun j hj => by
    have : j = 0 := by simp at hj; omega
    subst this
    simpa using hc⟩
set_option maxHeartbeats 16000000 in
set_option maxRecDepth 100000 in
theorem specProj_noRow (id tn rid : Int) (cv ov vv : Value) (cs : List CondD) (os xs : List Int) (w : World) (h : CondsR w cv cs) (hn : cs.length ≤ 1048576) (g : Ints w ov os) (hm : os.length ≤ 1048576) (gr : Ints w vv xs) (hx : xs.length ≤ 1048576) (hr : rowB (rid, xs) = false) :
    Calls Try.prog 29 #[qV id tn cv ov, .agg #[.int .i64 rid, vv]] w (FreshInts w (projL id tn cs os (rid, xs))) := by
  obtain ⟨ca, ccap, rfl⟩ := condsR_len h
  obtain ⟨oa, ocap, rfl⟩ := ints_len g
  obtain ⟨va, vcap, rfl⟩ := ints_len gr
  have hb0 : Below w.heap.size w ((w.alloc (.cells #[.int .i64 id, .int .i64 tn, .slice ca cs.length ccap, .slice oa os.length ocap] 36)).alloc (.cells #[.int .i64 rid, .slice va xs.length vcap] 51)) := ((Below.refl _ w).alloc (Nat.le_refl _) _).alloc (by simp) _
  have HG1 : Hid (((w.alloc (.cells #[.int .i64 id, .int .i64 tn, .slice ca cs.length ccap, .slice oa os.length ocap] 36)).alloc (.cells #[.int .i64 rid, .slice va xs.length vcap] 51)).heap[w.heap.size + 1]? = some (.cells #[.int .i64 rid, .slice va xs.length vcap] 51 (0, 0))) := Lib.hid (by
    have := heap_alloc_new (w.alloc (.cells #[.int .i64 id, .int .i64 tn, .slice ca cs.length ccap, .slice oa os.length ocap] 36)) (.cells #[.int .i64 rid, .slice va xs.length vcap] 51)
    simpa only [World.size_alloc] using this)
  have HG0 : Hid (((w.alloc (.cells #[.int .i64 id, .int .i64 tn, .slice ca cs.length ccap, .slice oa os.length ocap] 36)).alloc (.cells #[.int .i64 rid, .slice va xs.length vcap] 51)).heap[w.heap.size]? = some (.cells #[.int .i64 id, .int .i64 tn, .slice ca cs.length ccap, .slice oa os.length ocap] 36 (0, 0))) := Lib.hid (by
    rw [Below.heap_alloc _ _ _ (by simp)]
    exact heap_alloc_new w _)
  have HZ : Hid (w.heap.size + 1 < ((w.alloc (.cells #[.int .i64 id, .int .i64 tn, .slice ca cs.length ccap, .slice oa os.length ocap] 36)).alloc (.cells #[.int .i64 rid, .slice va xs.length vcap] 51)).heap.size) := Lib.hid (by simp)
  have HB0 := Lib.hid hb0
  have HC := Lib.hid (condsR_below h hb0)
  have HO := Lib.hid (ints_below g hb0)
  have HX := Lib.hid (ints_below gr hb0)
  have HR := Lib.hid (fun w h => specIsRow rid (.slice va xs.length vcap) xs w h hx)
  have HQ := Lib.hid (fun w h g => specIsQuery id tn (.slice ca cs.length ccap) (.slice oa os.length ocap) cs os w h hn g hm)
  have HF : Hid (projL id tn cs os (rid, xs) = []) := Lib.hid (by unfold projL; rw [hr]; simp)
  rw [hr] at HR
  clear hr
  have HS2 : Hid (((w.alloc (.cells #[.int .i64 id, .int .i64 tn, .slice ca cs.length ccap, .slice oa os.length ocap] 36)).alloc (.cells #[.int .i64 rid, .slice va xs.length vcap] 51)).heap.size = w.heap.size + 1 + 1) := Lib.hid (by simp [World.size_alloc])
  clear h g hm gr hx hb0
  go_enter Try.func29, Try.ntmps29
  go_wp2
  generalize ((w.alloc (.cells #[.int .i64 id, .int .i64 tn, .slice ca cs.length ccap, .slice oa os.length ocap] 36)).alloc (.cells #[.int .i64 rid, .slice va xs.length vcap] 51)) = W at *
  have hl0 : Below W.heap.size W (W.alloc (.cells #[] 3)) := (Below.refl _ _).alloc (Nat.le_refl _) _
  have ol0 : ∀ B, B ≤ W.heap.size → OwnsN (W.alloc (.cells #[] 3)) B (.slice (some ⟨w.heap.size + 1 + 1, 0, none⟩) 0 0) [] := fun B hB => by rw [← HS2.out]; exact ownsN_lit W B hB #[] 0 [] rfl rfl (by decide)
  go_loopw [5, 6] (fun v i wr => ∃ k : Nat, k ≤ os.length ∧ i = .int .i64 k ∧ k = 0 ∧ OwnsN wr W.heap.size v [] ∧ Below W.heap.size W wr) (fun _ i _ => os.length - (intOf i).toNat)
  case atStart => exact ⟨0, Nat.zero_le _, rfl, rfl, ol0 _ (Nat.le_refl _), hl0⟩
  case round =>
    obtain ⟨k, hk, rfl, hk0, hown, hbel⟩ := hrel
    subst hk0
    clear hl0 ol0
    obtain ⟨p0, p1, p2, p3, r0, r1⟩ := qr_boxes HG0.out HG1.out HZ.out hbel
    by_cases hlt : 0 < os.length
    · have i2 : (0 : Int) < (os.length : Int) := by omega
      go_wp2_with fail
      refine (HR.out _ (ints_below HX.out hbel)).mono ?_
      rintro e u1 ⟨rfl, bu1⟩
      have cu1 := hbel.trans (bu1.mono hbel.size)
      replace hown := ownsN_below hown bu1
      clear p0 p1 p2 p3 r0 r1 bu1
      obtain ⟨p0, p1, p2, p3, r0, r1⟩ := qr_boxes HG0.out HG1.out HZ.out cu1
      go_wp2
      go_ret
      exact ⟨_, rfl, by rw [HF.out]; exact ownsN_up (hown) HB0.out.size, HB0.out.trans (cu1.mono HB0.out.size)⟩
    · have i2 : ¬ (0 : Int) < (os.length : Int) := by omega
      go_wp2
      go_ret
      exact ⟨_, rfl, by rw [HF.out]; exact ownsN_up (hown) HB0.out.size, HB0.out.trans (hbel.mono HB0.out.size)⟩
set_option maxHeartbeats 16000000 in
set_option maxRecDepth 100000 in
theorem specProj_noQuery (id tn rid : Int) (cv ov vv : Value) (cs : List CondD) (os xs : List Int) (w : World) (h : CondsR w cv cs) (hn : cs.length ≤ 1048576) (g : Ints w ov os) (hm : os.length ≤ 1048576) (gr : Ints w vv xs) (hx : xs.length ≤ 1048576) (hr : rowB (rid, xs) = true) (hq : queryB id tn cs os = false) :
    Calls Try.prog 29 #[qV id tn cv ov, .agg #[.int .i64 rid, vv]] w (FreshInts w (projL id tn cs os (rid, xs))) := by
  obtain ⟨ca, ccap, rfl⟩ := condsR_len h
  obtain ⟨oa, ocap, rfl⟩ := ints_len g
  obtain ⟨va, vcap, rfl⟩ := ints_len gr
  have hb0 : Below w.heap.size w ((w.alloc (.cells #[.int .i64 id, .int .i64 tn, .slice ca cs.length ccap, .slice oa os.length ocap] 36)).alloc (.cells #[.int .i64 rid, .slice va xs.length vcap] 51)) := ((Below.refl _ w).alloc (Nat.le_refl _) _).alloc (by simp) _
  have HG1 : Hid (((w.alloc (.cells #[.int .i64 id, .int .i64 tn, .slice ca cs.length ccap, .slice oa os.length ocap] 36)).alloc (.cells #[.int .i64 rid, .slice va xs.length vcap] 51)).heap[w.heap.size + 1]? = some (.cells #[.int .i64 rid, .slice va xs.length vcap] 51 (0, 0))) := Lib.hid (by
    have := heap_alloc_new (w.alloc (.cells #[.int .i64 id, .int .i64 tn, .slice ca cs.length ccap, .slice oa os.length ocap] 36)) (.cells #[.int .i64 rid, .slice va xs.length vcap] 51)
    simpa only [World.size_alloc] using this)
  have HG0 : Hid (((w.alloc (.cells #[.int .i64 id, .int .i64 tn, .slice ca cs.length ccap, .slice oa os.length ocap] 36)).alloc (.cells #[.int .i64 rid, .slice va xs.length vcap] 51)).heap[w.heap.size]? = some (.cells #[.int .i64 id, .int .i64 tn, .slice ca cs.length ccap, .slice oa os.length ocap] 36 (0, 0))) := Lib.hid (by
    rw [Below.heap_alloc _ _ _ (by simp)]
    exact heap_alloc_new w _)
  have HZ : Hid (w.heap.size + 1 < ((w.alloc (.cells #[.int .i64 id, .int .i64 tn, .slice ca cs.length ccap, .slice oa os.length ocap] 36)).alloc (.cells #[.int .i64 rid, .slice va xs.length vcap] 51)).heap.size) := Lib.hid (by simp)
  have HB0 := Lib.hid hb0
  have HC := Lib.hid (condsR_below h hb0)
  have HO := Lib.hid (ints_below g hb0)
  have HX := Lib.hid (ints_below gr hb0)
  have HR := Lib.hid (fun w h => specIsRow rid (.slice va xs.length vcap) xs w h hx)
  have HQ := Lib.hid (fun w h g => specIsQuery id tn (.slice ca cs.length ccap) (.slice oa os.length ocap) cs os w h hn g hm)
  have HF : Hid (projL id tn cs os (rid, xs) = []) := Lib.hid (by unfold projL; rw [hq]; simp)
  rw [hr] at HR
  rw [hq] at HQ
  clear hr hq
  have HS2 : Hid (((w.alloc (.cells #[.int .i64 id, .int .i64 tn, .slice ca cs.length ccap, .slice oa os.length ocap] 36)).alloc (.cells #[.int .i64 rid, .slice va xs.length vcap] 51)).heap.size = w.heap.size + 1 + 1) := Lib.hid (by simp [World.size_alloc])
  clear h g hm gr hx hb0
  go_enter Try.func29, Try.ntmps29
  go_wp2
  generalize ((w.alloc (.cells #[.int .i64 id, .int .i64 tn, .slice ca cs.length ccap, .slice oa os.length ocap] 36)).alloc (.cells #[.int .i64 rid, .slice va xs.length vcap] 51)) = W at *
  have hl0 : Below W.heap.size W (W.alloc (.cells #[] 3)) := (Below.refl _ _).alloc (Nat.le_refl _) _
  have ol0 : ∀ B, B ≤ W.heap.size → OwnsN (W.alloc (.cells #[] 3)) B (.slice (some ⟨w.heap.size + 1 + 1, 0, none⟩) 0 0) [] := fun B hB => by rw [← HS2.out]; exact ownsN_lit W B hB #[] 0 [] rfl rfl (by decide)
  go_loopw [5, 6] (fun v i wr => ∃ k : Nat, k ≤ os.length ∧ i = .int .i64 k ∧ k = 0 ∧ OwnsN wr W.heap.size v [] ∧ Below W.heap.size W wr) (fun _ i _ => os.length - (intOf i).toNat)
  case atStart => exact ⟨0, Nat.zero_le _, rfl, rfl, ol0 _ (Nat.le_refl _), hl0⟩
  case round =>
    obtain ⟨k, hk, rfl, hk0, hown, hbel⟩ := hrel
    subst hk0
    clear hl0 ol0
    obtain ⟨p0, p1, p2, p3, r0, r1⟩ := qr_boxes HG0.out HG1.out HZ.out hbel
    by_cases hlt : 0 < os.length
    · have i2 : (0 : Int) < (os.length : Int) := by omega
      go_wp2_with fail
      refine (HR.out _ (ints_below HX.out hbel)).mono ?_
      rintro e u1 ⟨rfl, bu1⟩
      have cu1 := hbel.trans (bu1.mono hbel.size)
      replace hown := ownsN_below hown bu1
      clear p0 p1 p2 p3 r0 r1 bu1
      obtain ⟨p0, p1, p2, p3, r0, r1⟩ := qr_boxes HG0.out HG1.out HZ.out cu1
      go_wp2_with fail
      refine (HQ.out _ (condsR_below HC.out cu1) (ints_below HO.out cu1)).mono ?_
      rintro e u2 ⟨rfl, bu2⟩
      have cu2 := cu1.trans (bu2.mono cu1.size)
      replace hown := ownsN_below hown bu2
      clear p0 p1 p2 p3 r0 r1 bu2
      obtain ⟨p0, p1, p2, p3, r0, r1⟩ := qr_boxes HG0.out HG1.out HZ.out cu2
      go_wp2
      go_ret
      exact ⟨_, rfl, by rw [HF.out]; exact ownsN_up (hown) HB0.out.size, HB0.out.trans (cu2.mono HB0.out.size)⟩
    · have i2 : ¬ (0 : Int) < (os.length : Int) := by omega
      go_wp2
      go_ret
      exact ⟨_, rfl, by rw [HF.out]; exact ownsN_up (hown) HB0.out.size, HB0.out.trans (hbel.mono HB0.out.size)⟩
set_option maxHeartbeats 16000000 in
set_option maxRecDepth 100000 in
theorem specProj_both (id tn rid : Int) (cv ov vv : Value) (cs : List CondD) (os xs : List Int) (w : World) (h : CondsR w cv cs) (hn : cs.length ≤ 1048576) (g : Ints w ov os) (hm : os.length ≤ 1048576) (gr : Ints w vv xs) (hx : xs.length ≤ 1048576) (hr : rowB (rid, xs) = true) (hq : queryB id tn cs os = true) :
    Calls Try.prog 29 #[qV id tn cv ov, .agg #[.int .i64 rid, vv]] w (FreshInts w (projL id tn cs os (rid, xs))) := by
  obtain ⟨ca, ccap, rfl⟩ := condsR_len h
  obtain ⟨oa, ocap, rfl⟩ := ints_len g
  obtain ⟨va, vcap, rfl⟩ := ints_len gr
  have hb0 : Below w.heap.size w ((w.alloc (.cells #[.int .i64 id, .int .i64 tn, .slice ca cs.length ccap, .slice oa os.length ocap] 36)).alloc (.cells #[.int .i64 rid, .slice va xs.length vcap] 51)) := ((Below.refl _ w).alloc (Nat.le_refl _) _).alloc (by simp) _
  have HG1 : Hid (((w.alloc (.cells #[.int .i64 id, .int .i64 tn, .slice ca cs.length ccap, .slice oa os.length ocap] 36)).alloc (.cells #[.int .i64 rid, .slice va xs.length vcap] 51)).heap[w.heap.size + 1]? = some (.cells #[.int .i64 rid, .slice va xs.length vcap] 51 (0, 0))) := Lib.hid (by
    have := heap_alloc_new (w.alloc (.cells #[.int .i64 id, .int .i64 tn, .slice ca cs.length ccap, .slice oa os.length ocap] 36)) (.cells #[.int .i64 rid, .slice va xs.length vcap] 51)
    simpa only [World.size_alloc] using this)
  have HG0 : Hid (((w.alloc (.cells #[.int .i64 id, .int .i64 tn, .slice ca cs.length ccap, .slice oa os.length ocap] 36)).alloc (.cells #[.int .i64 rid, .slice va xs.length vcap] 51)).heap[w.heap.size]? = some (.cells #[.int .i64 id, .int .i64 tn, .slice ca cs.length ccap, .slice oa os.length ocap] 36 (0, 0))) := Lib.hid (by
    rw [Below.heap_alloc _ _ _ (by simp)]
    exact heap_alloc_new w _)
  have HZ : Hid (w.heap.size + 1 < ((w.alloc (.cells #[.int .i64 id, .int .i64 tn, .slice ca cs.length ccap, .slice oa os.length ocap] 36)).alloc (.cells #[.int .i64 rid, .slice va xs.length vcap] 51)).heap.size) := Lib.hid (by simp)
  have HB0 := Lib.hid hb0
  have HC := Lib.hid (condsR_below h hb0)
  have HO := Lib.hid (ints_below g hb0)
  have HX := Lib.hid (ints_below gr hb0)
  have HR := Lib.hid (fun w h => specIsRow rid (.slice va xs.length vcap) xs w h hx)
  have HQ := Lib.hid (fun w h g => specIsQuery id tn (.slice ca cs.length ccap) (.slice oa os.length ocap) cs os w h hn g hm)
  have HFD := Lib.hid (fun (k : Nat) (hk : k < os.length) => query_fields hq hk)
  have HLN := Lib.hid (row_len hr)
  simp only at HLN
  have HOL := Lib.hid (query_few hq).2
  have HF : Hid (projL id tn cs os (rid, xs) = os.map (fun f => xs.getD f.toNat 0)) := Lib.hid (by unfold projL; rw [hr, hq]; rfl)
  rw [hr] at HR
  rw [hq] at HQ
  clear hr hq
  have HS2 : Hid (((w.alloc (.cells #[.int .i64 id, .int .i64 tn, .slice ca cs.length ccap, .slice oa os.length ocap] 36)).alloc (.cells #[.int .i64 rid, .slice va xs.length vcap] 51)).heap.size = w.heap.size + 1 + 1) := Lib.hid (by simp [World.size_alloc])
  clear h g hm gr hx hb0
  go_enter Try.func29, Try.ntmps29
  go_wp2
  generalize ((w.alloc (.cells #[.int .i64 id, .int .i64 tn, .slice ca cs.length ccap, .slice oa os.length ocap] 36)).alloc (.cells #[.int .i64 rid, .slice va xs.length vcap] 51)) = W at *
  have hl0 : Below W.heap.size W (W.alloc (.cells #[] 3)) := (Below.refl _ _).alloc (Nat.le_refl _) _
  have ol0 : ∀ B, B ≤ W.heap.size → OwnsN (W.alloc (.cells #[] 3)) B (.slice (some ⟨w.heap.size + 1 + 1, 0, none⟩) 0 0) [] := fun B hB => by rw [← HS2.out]; exact ownsN_lit W B hB #[] 0 [] rfl rfl (by decide)
  go_loopw [5, 6] (fun v i wr => ∃ k : Nat, k ≤ os.length ∧ i = .int .i64 k ∧ OwnsN wr W.heap.size v ((os.take k).map (fun f => xs.getD f.toNat 0)) ∧ Below W.heap.size W wr) (fun _ i _ => os.length - (intOf i).toNat)
  case atStart => exact ⟨0, Nat.zero_le _, rfl, by rw [List.take_zero, List.map_nil]; exact ol0 _ (Nat.le_refl _), hl0⟩
  case round =>
    obtain ⟨k, hk, rfl, hown, hbel⟩ := hrel
    clear hl0 ol0
    obtain ⟨p0, p1, p2, p3, r0, r1⟩ := qr_boxes HG0.out HG1.out HZ.out hbel
    by_cases hlt : k < os.length
    · have i1 : (0 : Int) ≤ (k : Int) := by omega
      have i2 : (k : Int) < (os.length : Int) := by omega
      go_wp2_with fail
      refine (HR.out _ (ints_below HX.out hbel)).mono ?_
      rintro e u1 ⟨rfl, bu1⟩
      have cu1 := hbel.trans (bu1.mono hbel.size)
      replace hown := ownsN_below hown bu1
      clear p0 p1 p2 p3 r0 r1 bu1
      obtain ⟨p0, p1, p2, p3, r0, r1⟩ := qr_boxes HG0.out HG1.out HZ.out cu1
      go_wp2_with fail
      refine (HQ.out _ (condsR_below HC.out cu1) (ints_below HO.out cu1)).mono ?_
      rintro e u2 ⟨rfl, bu2⟩
      have cu2 := cu1.trans (bu2.mono cu1.size)
      replace hown := ownsN_below hown bu2
      clear p0 p1 p2 p3 r0 r1 bu2
      obtain ⟨p0, p1, p2, p3, r0, r1⟩ := qr_boxes HG0.out HG1.out HZ.out cu2
      obtain ⟨bo, offo, capo, hvo, hblo, hco⟩ := ints_cell (ints_below HO.out cu2) (by omega)
      simp only [Value.slice.injEq] at hvo
      obtain ⟨rfl, _, rfl⟩ := hvo
      have o0 := hco k hlt
      have HSO : Hid (∀ W', Below W.heap.size W W' → W'.cell? ⟨bo, offo + k, none⟩ = some (.int .i64 (os.getD k 0))) := Lib.hid (fun W' hb' => by
        obtain ⟨b', off', cap', hv', hbl', hc'⟩ := ints_cell (ints_below HO.out hb') (by omega)
        simp only [Value.slice.injEq, Option.some.injEq, Addr.mk.injEq] at hv'
        obtain ⟨⟨rfl, rfl, _⟩, _, _⟩ := hv'
        exact hc' k hlt)
      have hfd := HFD.out k hlt
      have HST := Lib.hid (proj_step (xs := xs) hlt)
      have hkl : ((os.take k).map (fun f => xs.getD f.toNat 0)).length = k := by rw [List.length_map, List.length_take]; omega
      have HKL : Hid (k ≤ 3 ∧ ((os.take k).map (fun f => xs.getD f.toNat 0)).length = k) := Lib.hid ⟨by have := HOL.out; omega, hkl⟩
      have i5 := HKL.out.1
      clear hco hkl cu1 hbel
      generalize os.getD k 0 = f at *
      obtain ⟨fn, rfl⟩ := Int.eq_ofNat_of_zero_le hfd.1
      have hfn : fn < xs.length := by have := HLN.out; omega
      obtain ⟨bx, offx, capx, hvx, hblx, hcx⟩ := ints_cell (ints_below HX.out cu2) (by omega)
      simp only [Value.slice.injEq] at hvx
      obtain ⟨rfl, _, rfl⟩ := hvx
      have x0 := hcx fn hfn
      have HSX : Hid (∀ W', Below W.heap.size W W' → W'.cell? ⟨bx, offx + fn, none⟩ = some (.int .i64 (xs.getD fn 0))) := Lib.hid (fun W' hb' => by
        obtain ⟨b', off', cap', hv', hbl', hc'⟩ := ints_cell (ints_below HX.out hb') (by omega)
        simp only [Value.slice.injEq, Option.some.injEq, Addr.mk.injEq] at hv'
        obtain ⟨⟨rfl, rfl, _⟩, _, _⟩ := hv'
        exact hc' fn hfn)
      have j1 : (0 : Int) ≤ (fn : Int) := by omega
      have j2 : (fn : Int) < (xs.length : Int) := by omega
      have ht : ((fn : Int)).toNat = fn := by omega
      rw [ht] at HST
      clear hcx hfd ht
      generalize xs.getD fn 0 = x at *
      generalize (os.take k).map (fun f => xs.getD f.toNat 0) = ac at *
      obtain ⟨aa, acap, rfl⟩ := ints_len (ownsN_ints hown)
      have HOW := Lib.hid hown
      have CU2 := Lib.hid cu2
      clear hown
      go_wp2
      refine wp_region_held_drew (S := fun w' => w'.cell? ⟨w.heap.size + 1, 1, none⟩ = some (.slice (some ⟨bx, offx, none⟩) xs.length vcap) ∧ w'.cell? ⟨w.heap.size, 3, none⟩ = some (.slice (some ⟨bo, offo, none⟩) os.length ocap) ∧ w'.cell? ⟨bo, offo + k, none⟩ = some (.int .i64 (fn : Int)) ∧ w'.cell? ⟨bx, offx + fn, none⟩ = some (.int .i64 x)) (by kernel_rfl) ⟨r1, p3, o0, x0⟩ (fun hHeld => ?_)
      refine take_runs (i := 0) (v := ?_) (by simp only [List.getElem?_toArray, List.getElem?_cons_succ, List.getElem?_cons_zero]; rfl) (by kernel_rfl) (by kernel_rfl) (by kernel_rfl) rfl (by exact fun _ _ _ h => h) (by rfl) ?_ (by assumption) ?_
      rotate_left
      · intro w hSw; (try dsimp only at hSw); go_simp; try (with_reducible rfl)
      try simp only [Act.put, List.setIfInBounds_toArray, List.set_cons_zero, List.set_cons_succ]
      refine take_runs (i := 1) (v := ?_) (by simp only [List.getElem?_toArray, List.getElem?_cons_succ, List.getElem?_cons_zero]; rfl) (by kernel_rfl) (by kernel_rfl) (by kernel_rfl) rfl (by exact fun _ _ _ h => h) (by rfl) ?_ (by assumption) ?_
      rotate_left
      · intro w hSw; (try dsimp only at hSw); go_simp; try (with_reducible rfl)
      try simp only [Act.put, List.setIfInBounds_toArray, List.set_cons_zero, List.set_cons_succ]
      refine take_runs (i := 2) (v := ?_) (by simp only [List.getElem?_toArray, List.getElem?_cons_succ, List.getElem?_cons_zero]; rfl) (by kernel_rfl) (by kernel_rfl) (by kernel_rfl) rfl (by exact fun _ _ _ h => h) (by rfl) ?_ (by assumption) ?_
      rotate_left
      · intro w hSw; (try dsimp only at hSw); go_simp; try (with_reducible rfl)
      try simp only [Act.put, List.setIfInBounds_toArray, List.set_cons_zero, List.set_cons_succ]
      refine take_runs (i := 3) (v := ?_) (by simp only [List.getElem?_toArray, List.getElem?_cons_succ, List.getElem?_cons_zero]; rfl) (by kernel_rfl) (by kernel_rfl) (by kernel_rfl) rfl (by exact fun _ _ _ h => h) (by rfl) ?_ (by assumption) ?_
      rotate_left
      · intro w hSw; (try dsimp only at hSw); go_simp; try (with_reducible rfl)
      try simp only [Act.put, List.setIfInBounds_toArray, List.set_cons_zero, List.set_cons_succ]
      refine take_runs (i := 4) (v := ?_) (by simp only [List.getElem?_toArray, List.getElem?_cons_succ, List.getElem?_cons_zero]; rfl) (by kernel_rfl) (by kernel_rfl) (by kernel_rfl) rfl (by exact fun _ _ _ h => h) (by rfl) ?_ (by assumption) ?_
      rotate_left
      · intro w hSw; (try dsimp only at hSw); go_simp; try (with_reducible rfl)
      try simp only [Act.put, List.setIfInBounds_toArray, List.set_cons_zero, List.set_cons_succ]
      refine take_runs (i := 5) (v := ?_) (by simp only [List.getElem?_toArray, List.getElem?_cons_succ, List.getElem?_cons_zero]; rfl) (by kernel_rfl) (by kernel_rfl) (by kernel_rfl) rfl (by exact fun _ _ _ h => h) (by rfl) ?_ (by assumption) ?_
      rotate_left
      · intro w hSw; (try dsimp only at hSw); go_simp; try (with_reducible rfl)
      try simp only [Act.put, List.setIfInBounds_toArray, List.set_cons_zero, List.set_cons_succ]
      refine take_runs (i := 6) (v := ?_) (by simp only [List.getElem?_toArray, List.getElem?_cons_succ, List.getElem?_cons_zero]; rfl) (by kernel_rfl) (by kernel_rfl) (by kernel_rfl) rfl (by exact fun _ _ _ h => h) (by rfl) ?_ (by assumption) ?_
      rotate_left
      · intro w hSw; (try dsimp only at hSw); go_simp; try (with_reducible rfl)
      try simp only [Act.put, List.setIfInBounds_toArray, List.set_cons_zero, List.set_cons_succ]
      refine take_runs (i := 7) (v := ?_) (by simp only [List.getElem?_toArray, List.getElem?_cons_succ, List.getElem?_cons_zero]; rfl) (by kernel_rfl) (by kernel_rfl) (by kernel_rfl) rfl (by exact fun _ _ _ h => h) (by rfl) ?_ (by assumption) ?_
      rotate_left
      · intro w hSw; (try dsimp only at hSw); go_simp; try (with_reducible rfl)
      try simp only [Act.put, List.setIfInBounds_toArray, List.set_cons_zero, List.set_cons_succ]
      refine take_runs (i := 8) (v := ?_) (by simp only [List.getElem?_toArray, List.getElem?_cons_succ, List.getElem?_cons_zero]; rfl) (by kernel_rfl) (by kernel_rfl) (by kernel_rfl) rfl (by exact fun _ _ _ h => h) (by rfl) ?_ (by assumption) ?_
      rotate_left
      · intro w hSw; (try dsimp only at hSw); go_simp; try (with_reducible rfl)
      try simp only [Act.put, List.setIfInBounds_toArray, List.set_cons_zero, List.set_cons_succ]
      refine take_runs (i := 9) (v := ?_) (by simp only [List.getElem?_toArray, List.getElem?_cons_succ, List.getElem?_cons_zero]; rfl) (by kernel_rfl) (by kernel_rfl) (by kernel_rfl) rfl (by exact fun _ _ _ h => h) (by rfl) ?_ (by assumption) ?_
      rotate_left
      · intro w hSw; (try dsimp only at hSw); go_simp; try (with_reducible rfl)
      try simp only [Act.put, List.setIfInBounds_toArray, List.set_cons_zero, List.set_cons_succ]
      refine wpAnyH_ready (rs := [10]) (by kernel_rfl) (by simp) ?_
      refine AllReadyH.cons (o := _) (by simp only [List.getElem?_toArray, List.getElem?_cons_succ, List.getElem?_cons_zero]; rfl) (fun K hK => ?_) AllReadyH.nil
      go_simp
      have hA : Below u2.heap.size u2 (u2.alloc (.cells #[.int .i64 x] 3)).drew := below_drew ((Below.refl _ _).alloc (Nat.le_refl _) _)
      have q7 : (u2.alloc (.cells #[.int .i64 x] 3)).drew.cell? ⟨u2.heap.size, 0, none⟩ = some (.int .i64 x) := (cell_lit u2 #[.int .i64 x] 3 0).trans rfl
      have l7 : u2.heap.size < (u2.alloc (.cells #[.int .i64 x] 3)).drew.heap.size := by show u2.heap.size < (u2.alloc _).heap.size; simp
      generalize (u2.alloc (.cells #[.int .i64 x] 3)).drew = W7 at *
      have c7 := CU2.out.trans (hA.mono CU2.out.size)
      have o7 := ownsN_below HOW.out hA
      have xo := (hA.cell (p := ⟨bo, offo + k, none⟩) hblo).trans o0
      have xx := (hA.cell (p := ⟨bx, offx + fn, none⟩) hblx).trans x0
      clear p0 p1 p2 p3 r0 r1
      obtain ⟨p0, p1, p2, p3, r0, r1⟩ := qr_boxes HG0.out HG1.out HZ.out c7
      refine hK.out _ _ ⟨r1, p3, xo, xx⟩ (fun hHeld => ?_)
      clear hK K
      try simp only [Act.put, List.setIfInBounds_toArray, List.set_cons_zero, List.set_cons_succ]
      refine wpAnyH_ready (rs := [11]) (by kernel_rfl) (by simp) ?_
      refine AllReadyH.cons (o := _) (by simp only [List.getElem?_toArray, List.getElem?_cons_succ, List.getElem?_cons_zero]; rfl) (fun K hK => ?_) AllReadyH.nil
      refine step_append_ints rfl (.tmp 23) (.tmp 33) rfl W.heap.size _ _ ac [x] rfl rfl o7 (ints_one' q7 l7) c7.size (by have := HKL.out; simp; omega) ?_
      intro u W8 oB bB
      have c8 := c7.trans bB
      have l8 : bo < W8.heap.size ∧ bx < W8.heap.size := ⟨Nat.lt_of_lt_of_le (Nat.lt_of_lt_of_le hblo hA.size) bB.size, Nat.lt_of_lt_of_le (Nat.lt_of_lt_of_le hblx hA.size) bB.size⟩
      have yo : W8.cell? ⟨bo, offo + k, none⟩ = some (.int .i64 (fn : Int)) := by
        exact HSO.out W8 c8
      have yx : W8.cell? ⟨bx, offx + fn, none⟩ = some (.int .i64 x) := HSX.out W8 c8
      clear p0 p1 p2 p3 r0 r1
      obtain ⟨p0, p1, p2, p3, r0, r1⟩ := qr_boxes HG0.out HG1.out HZ.out c8
      refine hK.out _ _ ⟨r1, p3, yo, yx⟩ (fun hHeld => ?_)
      clear hK K
      try simp only [Act.put, List.setIfInBounds_toArray, List.set_cons_zero, List.set_cons_succ]
      refine take_runs (i := 12) (v := ?_) (by simp only [List.getElem?_toArray, List.getElem?_cons_succ, List.getElem?_cons_zero]; rfl) (by kernel_rfl) (by kernel_rfl) (by kernel_rfl) rfl (by exact fun _ _ _ h => h) (by rfl) ?_ (by assumption) ?_
      rotate_left
      · intro w hSw; (try dsimp only at hSw); go_simp; try (with_reducible rfl)
      try simp only [Act.put, List.setIfInBounds_toArray, List.set_cons_zero, List.set_cons_succ]
      refine wpAnyH_done (by kernel_rfl) ?_ _
      rw [HST.out] at oB
      clear hHeld
      go_wp2
      go_roundw
      case rel => exact ⟨k + 1, by omega, by go_num, oB, c8⟩
      case measure => simp [intOf]; omega
    · obtain rfl : k = os.length := by omega
      rw [List.take_length] at hown
      have i2 : ¬ (os.length : Int) < (os.length : Int) := by omega
      go_wp2
      go_ret
      exact ⟨_, rfl, by rw [HF.out]; exact ownsN_up (hown) HB0.out.size, HB0.out.trans (hbel.mono HB0.out.size)⟩
theorem specProjectRow (id tn rid : Int) (cv ov vv : Value) (cs : List CondD) (os xs : List Int) (w : World) (h : CondsR w cv cs) (hn : cs.length ≤ 1048576) (g : Ints w ov os) (hm : os.length ≤ 1048576) (gr : Ints w vv xs) (hx : xs.length ≤ 1048576) :
    Calls Try.prog 29 #[qV id tn cv ov, .agg #[.int .i64 rid, vv]] w (FreshInts w (projL id tn cs os (rid, xs))) := by
  cases hr : rowB (rid, xs) with
  | false => exact specProj_noRow id tn rid cv ov vv cs os xs w h hn g hm gr hx hr
  | true =>
    cases hq : queryB id tn cs os with
    | false => exact specProj_noQuery id tn rid cv ov vv cs os xs w h hn g hm gr hx hr hq
    | true => exact specProj_both id tn rid cv ov vv cs os xs w h hn g hm gr hx hr hq
end Go.Proofs.Yteelgogfpidcdaa
