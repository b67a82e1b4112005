/-
  The walk of the exact law of MatchesRow: if the program's function answers what the specification's does, the law returns true.
-/
import Derived.Test.YteelgogfpidcdaaQueryLaw1
import Derived.Test.YteelgogfpidcdaaMatchSpec
namespace Go.Proofs.Yteelgogfpidcdaa
open Go.RowKit
set_option linter.unusedVariables false
set_option linter.unusedSimpArgs false
set_option maxHeartbeats 16000000 in
set_option maxRecDepth 100000 in
theorem law_fnExactMatchesRow (id tn : Int) (cv ov : Value) (cs : List CondD) (os : List Int) (rid : Int) (vv : Value) (xs : List Int) (w : World) (h : CondsR w cv cs) (g : Ints w ov os) (gr : Ints w vv xs)
    (hn : (cs.length : Int) ≤ 9223372036854775807) (hm : (os.length : Int) ≤ 9223372036854775807) (hx : (xs.length : Int) ≤ 9223372036854775807)
    (himpl : ∀ (cv ov vv : Value) (w : World), CondsR w cv cs → cs.length ≤ 1048576 → Ints w ov os → os.length ≤ 1048576 → Ints w vv xs → xs.length ≤ 1048576 → Calls Try.prog 27 #[qV id tn cv ov, .agg #[.int .i64 rid, vv]] w fun e w' => e = .returned (.bool (matchB id tn cs os (rid, xs))) ∧ Below w.heap.size w w') :
    Calls Try.prog 6 #[qV id tn cv ov, .agg #[.int .i64 rid, vv]] w fun e w' => e = .returned (.bool true) ∧ Below w.heap.size w w' := by
  obtain ⟨ca, ccap, rfl⟩ := condsR_len h
  obtain ⟨oa, ocap, rfl⟩ := ints_len g
  obtain ⟨va, vcap, rfl⟩ := ints_len gr
  have hb0 : Below w.heap.size w ((w.alloc (.cells #[.int .i64 id, .int .i64 tn, .slice ca cs.length ccap, .slice oa os.length ocap] 31)).alloc (.cells #[.int .i64 rid, .slice va xs.length vcap] 48)) := ((Below.refl _ w).alloc (Nat.le_refl _) _).alloc (by simp) _
  have r : Hid (((w.alloc (.cells #[.int .i64 id, .int .i64 tn, .slice ca cs.length ccap, .slice oa os.length ocap] 31)).alloc (.cells #[.int .i64 rid, .slice va xs.length vcap] 48)).heap[w.heap.size + 1]? = some (.cells #[.int .i64 rid, .slice va xs.length vcap] 48 (0, 0))) := Lib.hid (by
    have := heap_alloc_new (w.alloc (.cells #[.int .i64 id, .int .i64 tn, .slice ca cs.length ccap, .slice oa os.length ocap] 31)) (.cells #[.int .i64 rid, .slice va xs.length vcap] 48)
    simpa only [World.size_alloc] using this)
  have q : Hid (((w.alloc (.cells #[.int .i64 id, .int .i64 tn, .slice ca cs.length ccap, .slice oa os.length ocap] 31)).alloc (.cells #[.int .i64 rid, .slice va xs.length vcap] 48)).heap[w.heap.size]? = some (.cells #[.int .i64 id, .int .i64 tn, .slice ca cs.length ccap, .slice oa os.length ocap] 31 (0, 0))) := Lib.hid (by
    rw [Below.heap_alloc _ _ _ (by simp)]
    exact heap_alloc_new w _)
  by_cases hl : (cs.length : Int) + (os.length : Int) ≤ 1048576
  · have HZ := Lib.hid (fun w => szQuery_yes id tn ca oa ccap ocap cs.length os.length 1048576 w hl (by omega))
    have hneg : ¬ 1048576 - (cs.length : Int) - (os.length : Int) < 0 := by omega
    by_cases hl2 : (cs.length : Int) + (os.length : Int) + (xs.length : Int) ≤ 1048576
    · have HN : Hid (cs.length ≤ 1048576) := Lib.hid (by omega)
      have HM : Hid (os.length ≤ 1048576) := Lib.hid (by omega)
      have HX : Hid (xs.length ≤ 1048576) := Lib.hid (by omega)
      have HY := Lib.hid (fun w => szRow_yes rid va vcap xs.length (1048576 - (cs.length : Int) - (os.length : Int)) w (by omega) (by omega))
      have HS := Lib.hid (fun cv ov vv w h g gr => specMatchesRow id tn rid cv ov vv cs os xs w h HN.out g HM.out gr HX.out)
      have HI := Lib.hid (fun cv ov vv w h g gr => himpl cv ov vv w h HN.out g HM.out gr HX.out)
      have HT := Lib.hid (fun cv ov w h g => toQuery_any id tn cv ov cs os w h HN.out g HM.out)
      have HR := Lib.hid (fun vv w h => toRow_any rid vv xs w h HX.out)
      have HE := Lib.hid (fun cv cu ov ou w h h' g g' => eqQuery_same id tn cv cu ov ou cs os w h h' g g' HN.out HM.out)
      have HF := Lib.hid (fun v u w h g => eqRow_same rid v u xs w h g HX.out)
      have hneg2 : ¬ 1048576 - (cs.length : Int) - (os.length : Int) - (xs.length : Int) < 0 := by omega
      have hc := Lib.hid (condsR_below h hb0)
      have ho := Lib.hid (ints_below g hb0)
      have hv := Lib.hid (ints_below gr hb0)
      have HB0 := Lib.hid hb0
      clear h g gr hn hm hx himpl hl hl2 hb0
      generalize matchB id tn cs os (rid, xs) = res at *
      have hrr : (res != res) = false := by simp
      go_enter Try.func6, Try.ntmps6
      go_wp2_with fail
      generalize ((w.alloc (.cells #[.int .i64 id, .int .i64 tn, .slice ca cs.length ccap, .slice oa os.length ocap] 31)).alloc (.cells #[.int .i64 rid, .slice va xs.length vcap] 48)) = W at *
      have d := Lib.hid (Below.refl W.heap.size W)
      refine (HZ.out _).mono ?_
      rintro e v1 ⟨rfl, c1⟩
      replace q := Lib.hid ((c1.block w.heap.size (Array.getElem?_eq_some_iff.1 q.out).1).trans q.out)
      replace r := Lib.hid ((c1.block (w.heap.size + 1) (Array.getElem?_eq_some_iff.1 r.out).1).trans r.out)
      replace hc := Lib.hid (condsR_below hc.out c1)
      replace ho := Lib.hid (ints_below ho.out c1)
      replace hv := Lib.hid (ints_below hv.out c1)
      replace d := Lib.hid (d.out.trans (c1.mono d.out.size))
      clear c1
      have p_r_0 := (cell_of_row v1 _ 0 _ _ _ r.out).trans (show _ = some (Value.int .i64 rid) from rfl)
      have p_r_1 := (cell_of_row v1 _ 1 _ _ _ r.out).trans (show _ = some (Value.slice va xs.length vcap) from rfl)
      go_wp2_with fail
      clear p_r_0 p_r_1
      refine (HY.out _).mono ?_
      rintro e v2 ⟨rfl, c2⟩
      replace q := Lib.hid ((c2.block w.heap.size (Array.getElem?_eq_some_iff.1 q.out).1).trans q.out)
      replace r := Lib.hid ((c2.block (w.heap.size + 1) (Array.getElem?_eq_some_iff.1 r.out).1).trans r.out)
      replace hc := Lib.hid (condsR_below hc.out c2)
      replace ho := Lib.hid (ints_below ho.out c2)
      replace hv := Lib.hid (ints_below hv.out c2)
      replace d := Lib.hid (d.out.trans (c2.mono d.out.size))
      clear c2
      go_wp2
      have p_q_0 := (cell_of_row v2 _ 0 _ _ _ q.out).trans (show _ = some (Value.int .i64 id) from rfl)
      have p_q_1 := (cell_of_row v2 _ 1 _ _ _ q.out).trans (show _ = some (Value.int .i64 tn) from rfl)
      have p_q_2 := (cell_of_row v2 _ 2 _ _ _ q.out).trans (show _ = some (Value.slice ca cs.length ccap) from rfl)
      have p_q_3 := (cell_of_row v2 _ 3 _ _ _ q.out).trans (show _ = some (Value.slice oa os.length ocap) from rfl)
      have p_r_0 := (cell_of_row v2 _ 0 _ _ _ r.out).trans (show _ = some (Value.int .i64 rid) from rfl)
      have p_r_1 := (cell_of_row v2 _ 1 _ _ _ r.out).trans (show _ = some (Value.slice va xs.length vcap) from rfl)
      refine wp_region_held_drew (S := fun w' => w'.cell? ⟨w.heap.size, 0, none⟩ = some (.int .i64 id) ∧ w'.cell? ⟨w.heap.size, 1, none⟩ = some (.int .i64 tn) ∧ w'.cell? ⟨w.heap.size, 2, none⟩ = some (.slice ca cs.length ccap) ∧ w'.cell? ⟨w.heap.size, 3, none⟩ = some (.slice oa os.length ocap) ∧ w'.cell? ⟨(w.heap.size + 1), 0, none⟩ = some (.int .i64 rid) ∧ w'.cell? ⟨(w.heap.size + 1), 1, none⟩ = some (.slice va xs.length vcap)) (by kernel_rfl) ⟨p_q_0, p_q_1, p_q_2, p_q_3, p_r_0, p_r_1⟩ (fun hHeld => ?_)
      clear p_q_0 p_q_1 p_q_2 p_q_3 p_r_0 p_r_1
      have cdr : Below v2.heap.size v2 v2.drew := below_drew (Below.refl _ _)
      replace q := Lib.hid ((cdr.block w.heap.size (Array.getElem?_eq_some_iff.1 q.out).1).trans q.out)
      replace r := Lib.hid ((cdr.block (w.heap.size + 1) (Array.getElem?_eq_some_iff.1 r.out).1).trans r.out)
      replace hc := Lib.hid (condsR_below hc.out cdr)
      replace ho := Lib.hid (ints_below ho.out cdr)
      replace hv := Lib.hid (ints_below hv.out cdr)
      replace d := Lib.hid (d.out.trans (cdr.mono d.out.size))
      clear cdr
      refine take_runs (i := 0) (v := ?_) (by simp only [List.getElem?_toArray, List.getElem?_cons_succ, List.getElem?_cons_zero]; rfl) (by kernel_rfl) (by kernel_rfl) (by kernel_rfl) rfl (by exact fun _ _ _ h => h) (by rfl) ?_ (by assumption) ?_
      rotate_left
      · intro w hSw; (try dsimp only at hSw); go_simp; try (with_reducible rfl)
      try simp only [Act.put, List.setIfInBounds_toArray, List.set_cons_zero, List.set_cons_succ]
      refine take_runs (i := 2) (v := ?_) (by simp only [List.getElem?_toArray, List.getElem?_cons_succ, List.getElem?_cons_zero]; rfl) (by kernel_rfl) (by kernel_rfl) (by kernel_rfl) rfl (by exact fun _ _ _ h => h) (by rfl) ?_ (by assumption) ?_
      rotate_left
      · intro w hSw; (try dsimp only at hSw); go_simp; try (with_reducible rfl)
      try simp only [Act.put, List.setIfInBounds_toArray, List.set_cons_zero, List.set_cons_succ]
      refine wpAnyH_ready (rs := [1]) (by kernel_rfl) (by simp) ?_
      refine AllReadyH.cons (o := _) (by simp only [List.getElem?_toArray, List.getElem?_cons_succ, List.getElem?_cons_zero]; rfl) (fun K hK => ?_) AllReadyH.nil
      go_simp
      refine (HT.out _ _ _ hc.out ho.out).mono ?_
      rintro e v3 ⟨cv1, ov1, rfl, oc1, on1, _, c3⟩
      replace q := Lib.hid ((c3.block w.heap.size (Array.getElem?_eq_some_iff.1 q.out).1).trans q.out)
      replace r := Lib.hid ((c3.block (w.heap.size + 1) (Array.getElem?_eq_some_iff.1 r.out).1).trans r.out)
      replace hc := Lib.hid (condsR_below hc.out c3)
      replace ho := Lib.hid (ints_below ho.out c3)
      replace hv := Lib.hid (ints_below hv.out c3)
      replace d := Lib.hid (d.out.trans (c3.mono d.out.size))
      clear c3
      obtain ⟨ca1, cp1, rfl⟩ := ownsC_len oc1
      obtain ⟨oa1, op1, rfl⟩ := ints_len (ownsN_ints on1)
      replace oc1 := Lib.hid oc1
      replace on1 := Lib.hid on1
      have p_q_0 := (cell_of_row v3 _ 0 _ _ _ q.out).trans (show _ = some (Value.int .i64 id) from rfl)
      have p_q_1 := (cell_of_row v3 _ 1 _ _ _ q.out).trans (show _ = some (Value.int .i64 tn) from rfl)
      have p_q_2 := (cell_of_row v3 _ 2 _ _ _ q.out).trans (show _ = some (Value.slice ca cs.length ccap) from rfl)
      have p_q_3 := (cell_of_row v3 _ 3 _ _ _ q.out).trans (show _ = some (Value.slice oa os.length ocap) from rfl)
      have p_r_0 := (cell_of_row v3 _ 0 _ _ _ r.out).trans (show _ = some (Value.int .i64 rid) from rfl)
      have p_r_1 := (cell_of_row v3 _ 1 _ _ _ r.out).trans (show _ = some (Value.slice va xs.length vcap) from rfl)
      refine hK.out _ _ ⟨p_q_0, p_q_1, p_q_2, p_q_3, p_r_0, p_r_1⟩ (fun hHeld => ?_)
      clear p_q_0 p_q_1 p_q_2 p_q_3 p_r_0 p_r_1
      clear hK K
      try simp only [Act.put, List.setIfInBounds_toArray, List.set_cons_zero, List.set_cons_succ]
      refine wpAnyH_ready (rs := [3]) (by kernel_rfl) (by simp) ?_
      refine AllReadyH.cons (o := _) (by simp only [List.getElem?_toArray, List.getElem?_cons_succ, List.getElem?_cons_zero]; rfl) (fun K hK => ?_) AllReadyH.nil
      go_simp
      refine (HR.out _ _ hv.out).mono ?_
      rintro e v4 ⟨rv1, rfl, or1, c4⟩
      replace q := Lib.hid ((c4.block w.heap.size (Array.getElem?_eq_some_iff.1 q.out).1).trans q.out)
      replace r := Lib.hid ((c4.block (w.heap.size + 1) (Array.getElem?_eq_some_iff.1 r.out).1).trans r.out)
      replace hc := Lib.hid (condsR_below hc.out c4)
      replace ho := Lib.hid (ints_below ho.out c4)
      replace hv := Lib.hid (ints_below hv.out c4)
      replace oc1 := Lib.hid (ownsC_below oc1.out c4)
      replace on1 := Lib.hid (ownsN_below on1.out c4)
      replace d := Lib.hid (d.out.trans (c4.mono d.out.size))
      clear c4
      obtain ⟨ra1, rp1, rfl⟩ := ints_len (ownsN_ints or1)
      replace or1 := Lib.hid or1
      have p_q_0 := (cell_of_row v4 _ 0 _ _ _ q.out).trans (show _ = some (Value.int .i64 id) from rfl)
      have p_q_1 := (cell_of_row v4 _ 1 _ _ _ q.out).trans (show _ = some (Value.int .i64 tn) from rfl)
      have p_q_2 := (cell_of_row v4 _ 2 _ _ _ q.out).trans (show _ = some (Value.slice ca cs.length ccap) from rfl)
      have p_q_3 := (cell_of_row v4 _ 3 _ _ _ q.out).trans (show _ = some (Value.slice oa os.length ocap) from rfl)
      have p_r_0 := (cell_of_row v4 _ 0 _ _ _ r.out).trans (show _ = some (Value.int .i64 rid) from rfl)
      have p_r_1 := (cell_of_row v4 _ 1 _ _ _ r.out).trans (show _ = some (Value.slice va xs.length vcap) from rfl)
      refine hK.out _ _ ⟨p_q_0, p_q_1, p_q_2, p_q_3, p_r_0, p_r_1⟩ (fun hHeld => ?_)
      clear p_q_0 p_q_1 p_q_2 p_q_3 p_r_0 p_r_1
      clear hK K
      try simp only [Act.put, List.setIfInBounds_toArray, List.set_cons_zero, List.set_cons_succ]
      refine wpAnyH_ready (rs := [4]) (by kernel_rfl) (by simp) ?_
      refine AllReadyH.cons (o := _) (by simp only [List.getElem?_toArray, List.getElem?_cons_succ, List.getElem?_cons_zero]; rfl) (fun K hK => ?_) AllReadyH.nil
      go_simp
      refine (HS.out _ _ _ _ (ownsC_conds oc1.out) (ownsN_ints on1.out) (ownsN_ints or1.out)).mono ?_
      rintro e v5 ⟨rfl, c5⟩
      replace q := Lib.hid ((c5.block w.heap.size (Array.getElem?_eq_some_iff.1 q.out).1).trans q.out)
      replace r := Lib.hid ((c5.block (w.heap.size + 1) (Array.getElem?_eq_some_iff.1 r.out).1).trans r.out)
      replace hc := Lib.hid (condsR_below hc.out c5)
      replace ho := Lib.hid (ints_below ho.out c5)
      replace hv := Lib.hid (ints_below hv.out c5)
      replace oc1 := Lib.hid (ownsC_below oc1.out c5)
      replace on1 := Lib.hid (ownsN_below on1.out c5)
      replace or1 := Lib.hid (ownsN_below or1.out c5)
      replace d := Lib.hid (d.out.trans (c5.mono d.out.size))
      clear c5
      have p_q_0 := (cell_of_row v5 _ 0 _ _ _ q.out).trans (show _ = some (Value.int .i64 id) from rfl)
      have p_q_1 := (cell_of_row v5 _ 1 _ _ _ q.out).trans (show _ = some (Value.int .i64 tn) from rfl)
      have p_q_2 := (cell_of_row v5 _ 2 _ _ _ q.out).trans (show _ = some (Value.slice ca cs.length ccap) from rfl)
      have p_q_3 := (cell_of_row v5 _ 3 _ _ _ q.out).trans (show _ = some (Value.slice oa os.length ocap) from rfl)
      have p_r_0 := (cell_of_row v5 _ 0 _ _ _ r.out).trans (show _ = some (Value.int .i64 rid) from rfl)
      have p_r_1 := (cell_of_row v5 _ 1 _ _ _ r.out).trans (show _ = some (Value.slice va xs.length vcap) from rfl)
      refine hK.out _ _ ⟨p_q_0, p_q_1, p_q_2, p_q_3, p_r_0, p_r_1⟩ (fun hHeld => ?_)
      clear p_q_0 p_q_1 p_q_2 p_q_3 p_r_0 p_r_1
      clear hK K
      try simp only [Act.put, List.setIfInBounds_toArray, List.set_cons_zero, List.set_cons_succ]
      refine take_runs (i := 5) (v := ?_) (by simp only [List.getElem?_toArray, List.getElem?_cons_succ, List.getElem?_cons_zero]; rfl) (by kernel_rfl) (by kernel_rfl) (by kernel_rfl) rfl (by exact fun _ _ _ h => h) (by rfl) ?_ (by assumption) ?_
      rotate_left
      · intro w hSw; (try dsimp only at hSw); go_simp; try (with_reducible rfl)
      try simp only [Act.put, List.setIfInBounds_toArray, List.set_cons_zero, List.set_cons_succ]
      refine wpAnyH_done (by kernel_rfl) ?_ _
      clear hHeld
      clear oc1
      clear on1
      clear or1
      have p_q_0 := (cell_of_row v5 _ 0 _ _ _ q.out).trans (show _ = some (Value.int .i64 id) from rfl)
      have p_q_1 := (cell_of_row v5 _ 1 _ _ _ q.out).trans (show _ = some (Value.int .i64 tn) from rfl)
      have p_q_2 := (cell_of_row v5 _ 2 _ _ _ q.out).trans (show _ = some (Value.slice ca cs.length ccap) from rfl)
      have p_q_3 := (cell_of_row v5 _ 3 _ _ _ q.out).trans (show _ = some (Value.slice oa os.length ocap) from rfl)
      go_wp2_with fail
      clear p_q_0 p_q_1 p_q_2 p_q_3
      refine (HT.out _ _ _ hc.out ho.out).mono ?_
      rintro e v6 ⟨cv2, ov2, rfl, oc2, on2, _, c6⟩
      replace q := Lib.hid ((c6.block w.heap.size (Array.getElem?_eq_some_iff.1 q.out).1).trans q.out)
      replace r := Lib.hid ((c6.block (w.heap.size + 1) (Array.getElem?_eq_some_iff.1 r.out).1).trans r.out)
      replace hc := Lib.hid (condsR_below hc.out c6)
      replace ho := Lib.hid (ints_below ho.out c6)
      replace hv := Lib.hid (ints_below hv.out c6)
      replace d := Lib.hid (d.out.trans (c6.mono d.out.size))
      clear c6
      obtain ⟨ca2, cp2, rfl⟩ := ownsC_len oc2
      obtain ⟨oa2, op2, rfl⟩ := ints_len (ownsN_ints on2)
      replace oc2 := Lib.hid oc2
      replace on2 := Lib.hid on2
      have hal : Below v6.heap.size v6 (v6.alloc (.cells #[.int .i64 id, .int .i64 tn, .slice ca2 cs.length cp2, .slice oa2 os.length op2] 36)) := (Below.refl _ _).alloc (Nat.le_refl _) _
      have x := Lib.hid (heap_alloc_new v6 (.cells #[.int .i64 id, .int .i64 tn, .slice ca2 cs.length cp2, .slice oa2 os.length op2] 36))
      replace q := Lib.hid ((hal.block w.heap.size (Array.getElem?_eq_some_iff.1 q.out).1).trans q.out)
      replace r := Lib.hid ((hal.block (w.heap.size + 1) (Array.getElem?_eq_some_iff.1 r.out).1).trans r.out)
      replace hc := Lib.hid (condsR_below hc.out hal)
      replace ho := Lib.hid (ints_below ho.out hal)
      replace hv := Lib.hid (ints_below hv.out hal)
      replace oc2 := Lib.hid (ownsC_below oc2.out hal)
      replace on2 := Lib.hid (ownsN_below on2.out hal)
      replace d := Lib.hid (d.out.trans (hal.mono d.out.size))
      clear hal
      have p_r_0 := (cell_of_row (v6.alloc (.cells #[.int .i64 id, .int .i64 tn, .slice ca2 cs.length cp2, .slice oa2 os.length op2] 36)) _ 0 _ _ _ r.out).trans (show _ = some (Value.int .i64 rid) from rfl)
      have p_r_1 := (cell_of_row (v6.alloc (.cells #[.int .i64 id, .int .i64 tn, .slice ca2 cs.length cp2, .slice oa2 os.length op2] 36)) _ 1 _ _ _ r.out).trans (show _ = some (Value.slice va xs.length vcap) from rfl)
      go_wp2_with fail
      clear p_r_0 p_r_1
      generalize (v6.alloc (.cells #[.int .i64 id, .int .i64 tn, .slice ca2 cs.length cp2, .slice oa2 os.length op2] 36)) = W5 at *
      refine (HR.out _ _ hv.out).mono ?_
      rintro e v7 ⟨rv2, rfl, or2, c7⟩
      replace q := Lib.hid ((c7.block w.heap.size (Array.getElem?_eq_some_iff.1 q.out).1).trans q.out)
      replace r := Lib.hid ((c7.block (w.heap.size + 1) (Array.getElem?_eq_some_iff.1 r.out).1).trans r.out)
      replace hc := Lib.hid (condsR_below hc.out c7)
      replace ho := Lib.hid (ints_below ho.out c7)
      replace hv := Lib.hid (ints_below hv.out c7)
      replace oc2 := Lib.hid (ownsC_below oc2.out c7)
      replace on2 := Lib.hid (ownsN_below on2.out c7)
      replace x := Lib.hid ((c7.block v6.heap.size (Array.getElem?_eq_some_iff.1 x.out).1).trans x.out)
      replace d := Lib.hid (d.out.trans (c7.mono d.out.size))
      clear c7
      obtain ⟨ra2, rp2, rfl⟩ := ints_len (ownsN_ints or2)
      replace or2 := Lib.hid or2
      have hal : Below v7.heap.size v7 (v7.alloc (.cells #[.int .i64 rid, .slice ra2 xs.length rp2] 51)) := (Below.refl _ _).alloc (Nat.le_refl _) _
      have y := Lib.hid (heap_alloc_new v7 (.cells #[.int .i64 rid, .slice ra2 xs.length rp2] 51))
      replace q := Lib.hid ((hal.block w.heap.size (Array.getElem?_eq_some_iff.1 q.out).1).trans q.out)
      replace r := Lib.hid ((hal.block (w.heap.size + 1) (Array.getElem?_eq_some_iff.1 r.out).1).trans r.out)
      replace hc := Lib.hid (condsR_below hc.out hal)
      replace ho := Lib.hid (ints_below ho.out hal)
      replace hv := Lib.hid (ints_below hv.out hal)
      replace oc2 := Lib.hid (ownsC_below oc2.out hal)
      replace on2 := Lib.hid (ownsN_below on2.out hal)
      replace x := Lib.hid ((hal.block v6.heap.size (Array.getElem?_eq_some_iff.1 x.out).1).trans x.out)
      replace or2 := Lib.hid (ownsN_below or2.out hal)
      replace d := Lib.hid (d.out.trans (hal.mono d.out.size))
      clear hal
      have p_x_0 := (cell_of_row (v7.alloc (.cells #[.int .i64 rid, .slice ra2 xs.length rp2] 51)) _ 0 _ _ _ x.out).trans (show _ = some (Value.int .i64 id) from rfl)
      have p_x_1 := (cell_of_row (v7.alloc (.cells #[.int .i64 rid, .slice ra2 xs.length rp2] 51)) _ 1 _ _ _ x.out).trans (show _ = some (Value.int .i64 tn) from rfl)
      have p_x_2 := (cell_of_row (v7.alloc (.cells #[.int .i64 rid, .slice ra2 xs.length rp2] 51)) _ 2 _ _ _ x.out).trans (show _ = some (Value.slice ca2 cs.length cp2) from rfl)
      have p_x_3 := (cell_of_row (v7.alloc (.cells #[.int .i64 rid, .slice ra2 xs.length rp2] 51)) _ 3 _ _ _ x.out).trans (show _ = some (Value.slice oa2 os.length op2) from rfl)
      have p_y_0 := (cell_of_row (v7.alloc (.cells #[.int .i64 rid, .slice ra2 xs.length rp2] 51)) _ 0 _ _ _ y.out).trans (show _ = some (Value.int .i64 rid) from rfl)
      have p_y_1 := (cell_of_row (v7.alloc (.cells #[.int .i64 rid, .slice ra2 xs.length rp2] 51)) _ 1 _ _ _ y.out).trans (show _ = some (Value.slice ra2 xs.length rp2) from rfl)
      go_wp2_with fail
      clear p_x_0 p_x_1 p_x_2 p_x_3 p_y_0 p_y_1
      generalize (v7.alloc (.cells #[.int .i64 rid, .slice ra2 xs.length rp2] 51)) = W6 at *
      refine (HI.out _ _ _ _ (ownsC_conds oc2.out) (ownsN_ints on2.out) (ownsN_ints or2.out)).mono ?_
      rintro e v8 ⟨rfl, c8⟩
      replace q := Lib.hid ((c8.block w.heap.size (Array.getElem?_eq_some_iff.1 q.out).1).trans q.out)
      replace r := Lib.hid ((c8.block (w.heap.size + 1) (Array.getElem?_eq_some_iff.1 r.out).1).trans r.out)
      replace hc := Lib.hid (condsR_below hc.out c8)
      replace ho := Lib.hid (ints_below ho.out c8)
      replace hv := Lib.hid (ints_below hv.out c8)
      replace oc2 := Lib.hid (ownsC_below oc2.out c8)
      replace on2 := Lib.hid (ownsN_below on2.out c8)
      replace x := Lib.hid ((c8.block v6.heap.size (Array.getElem?_eq_some_iff.1 x.out).1).trans x.out)
      replace or2 := Lib.hid (ownsN_below or2.out c8)
      replace y := Lib.hid ((c8.block v7.heap.size (Array.getElem?_eq_some_iff.1 y.out).1).trans y.out)
      replace d := Lib.hid (d.out.trans (c8.mono d.out.size))
      clear c8
      go_wp2
      have p_x_0 := (cell_of_row v8 _ 0 _ _ _ x.out).trans (show _ = some (Value.int .i64 id) from rfl)
      have p_x_1 := (cell_of_row v8 _ 1 _ _ _ x.out).trans (show _ = some (Value.int .i64 tn) from rfl)
      have p_x_2 := (cell_of_row v8 _ 2 _ _ _ x.out).trans (show _ = some (Value.slice ca2 cs.length cp2) from rfl)
      have p_x_3 := (cell_of_row v8 _ 3 _ _ _ x.out).trans (show _ = some (Value.slice oa2 os.length op2) from rfl)
      have p_q_0 := (cell_of_row v8 _ 0 _ _ _ q.out).trans (show _ = some (Value.int .i64 id) from rfl)
      have p_q_1 := (cell_of_row v8 _ 1 _ _ _ q.out).trans (show _ = some (Value.int .i64 tn) from rfl)
      have p_q_2 := (cell_of_row v8 _ 2 _ _ _ q.out).trans (show _ = some (Value.slice ca cs.length ccap) from rfl)
      have p_q_3 := (cell_of_row v8 _ 3 _ _ _ q.out).trans (show _ = some (Value.slice oa os.length ocap) from rfl)
      refine wp_region_held_drew (S := fun w' => w'.cell? ⟨v6.heap.size, 0, none⟩ = some (.int .i64 id) ∧ w'.cell? ⟨v6.heap.size, 1, none⟩ = some (.int .i64 tn) ∧ w'.cell? ⟨v6.heap.size, 2, none⟩ = some (.slice ca2 cs.length cp2) ∧ w'.cell? ⟨v6.heap.size, 3, none⟩ = some (.slice oa2 os.length op2) ∧ w'.cell? ⟨w.heap.size, 0, none⟩ = some (.int .i64 id) ∧ w'.cell? ⟨w.heap.size, 1, none⟩ = some (.int .i64 tn) ∧ w'.cell? ⟨w.heap.size, 2, none⟩ = some (.slice ca cs.length ccap) ∧ w'.cell? ⟨w.heap.size, 3, none⟩ = some (.slice oa os.length ocap)) (by kernel_rfl) ⟨p_x_0, p_x_1, p_x_2, p_x_3, p_q_0, p_q_1, p_q_2, p_q_3⟩ (fun hHeld => ?_)
      clear p_x_0 p_x_1 p_x_2 p_x_3 p_q_0 p_q_1 p_q_2 p_q_3
      have cdr : Below v8.heap.size v8 v8.drew := below_drew (Below.refl _ _)
      replace q := Lib.hid ((cdr.block w.heap.size (Array.getElem?_eq_some_iff.1 q.out).1).trans q.out)
      replace r := Lib.hid ((cdr.block (w.heap.size + 1) (Array.getElem?_eq_some_iff.1 r.out).1).trans r.out)
      replace hc := Lib.hid (condsR_below hc.out cdr)
      replace ho := Lib.hid (ints_below ho.out cdr)
      replace hv := Lib.hid (ints_below hv.out cdr)
      replace oc2 := Lib.hid (ownsC_below oc2.out cdr)
      replace on2 := Lib.hid (ownsN_below on2.out cdr)
      replace x := Lib.hid ((cdr.block v6.heap.size (Array.getElem?_eq_some_iff.1 x.out).1).trans x.out)
      replace or2 := Lib.hid (ownsN_below or2.out cdr)
      replace y := Lib.hid ((cdr.block v7.heap.size (Array.getElem?_eq_some_iff.1 y.out).1).trans y.out)
      replace d := Lib.hid (d.out.trans (cdr.mono d.out.size))
      clear cdr
      refine take_runs (i := 0) (v := ?_) (by simp only [List.getElem?_toArray, List.getElem?_cons_succ, List.getElem?_cons_zero]; rfl) (by kernel_rfl) (by kernel_rfl) (by kernel_rfl) rfl (by exact fun _ _ _ h => h) (by rfl) ?_ (by assumption) ?_
      rotate_left
      · intro w hSw; (try dsimp only at hSw); go_simp; try (with_reducible rfl)
      try simp only [Act.put, List.setIfInBounds_toArray, List.set_cons_zero, List.set_cons_succ]
      refine take_runs (i := 1) (v := ?_) (by simp only [List.getElem?_toArray, List.getElem?_cons_succ, List.getElem?_cons_zero]; rfl) (by kernel_rfl) (by kernel_rfl) (by kernel_rfl) rfl (by exact fun _ _ _ h => h) (by rfl) ?_ (by assumption) ?_
      rotate_left
      · intro w hSw; (try dsimp only at hSw); go_simp; try (with_reducible rfl)
      try simp only [Act.put, List.setIfInBounds_toArray, List.set_cons_zero, List.set_cons_succ]
      refine wpAnyH_ready (rs := [2]) (by kernel_rfl) (by simp) ?_
      refine AllReadyH.cons (o := _) (by simp only [List.getElem?_toArray, List.getElem?_cons_succ, List.getElem?_cons_zero]; rfl) (fun K hK => ?_) AllReadyH.nil
      go_simp
      refine (HT.out _ _ _ hc.out ho.out).mono ?_
      rintro e v9 ⟨cv3, ov3, rfl, oc3, on3, _, c9⟩
      replace q := Lib.hid ((c9.block w.heap.size (Array.getElem?_eq_some_iff.1 q.out).1).trans q.out)
      replace r := Lib.hid ((c9.block (w.heap.size + 1) (Array.getElem?_eq_some_iff.1 r.out).1).trans r.out)
      replace hc := Lib.hid (condsR_below hc.out c9)
      replace ho := Lib.hid (ints_below ho.out c9)
      replace hv := Lib.hid (ints_below hv.out c9)
      replace oc2 := Lib.hid (ownsC_below oc2.out c9)
      replace on2 := Lib.hid (ownsN_below on2.out c9)
      replace x := Lib.hid ((c9.block v6.heap.size (Array.getElem?_eq_some_iff.1 x.out).1).trans x.out)
      replace or2 := Lib.hid (ownsN_below or2.out c9)
      replace y := Lib.hid ((c9.block v7.heap.size (Array.getElem?_eq_some_iff.1 y.out).1).trans y.out)
      replace d := Lib.hid (d.out.trans (c9.mono d.out.size))
      clear c9
      obtain ⟨ca3, cp3, rfl⟩ := ownsC_len oc3
      obtain ⟨oa3, op3, rfl⟩ := ints_len (ownsN_ints on3)
      replace oc3 := Lib.hid oc3
      replace on3 := Lib.hid on3
      have p_x_0 := (cell_of_row v9 _ 0 _ _ _ x.out).trans (show _ = some (Value.int .i64 id) from rfl)
      have p_x_1 := (cell_of_row v9 _ 1 _ _ _ x.out).trans (show _ = some (Value.int .i64 tn) from rfl)
      have p_x_2 := (cell_of_row v9 _ 2 _ _ _ x.out).trans (show _ = some (Value.slice ca2 cs.length cp2) from rfl)
      have p_x_3 := (cell_of_row v9 _ 3 _ _ _ x.out).trans (show _ = some (Value.slice oa2 os.length op2) from rfl)
      have p_q_0 := (cell_of_row v9 _ 0 _ _ _ q.out).trans (show _ = some (Value.int .i64 id) from rfl)
      have p_q_1 := (cell_of_row v9 _ 1 _ _ _ q.out).trans (show _ = some (Value.int .i64 tn) from rfl)
      have p_q_2 := (cell_of_row v9 _ 2 _ _ _ q.out).trans (show _ = some (Value.slice ca cs.length ccap) from rfl)
      have p_q_3 := (cell_of_row v9 _ 3 _ _ _ q.out).trans (show _ = some (Value.slice oa os.length ocap) from rfl)
      refine hK.out _ _ ⟨p_x_0, p_x_1, p_x_2, p_x_3, p_q_0, p_q_1, p_q_2, p_q_3⟩ (fun hHeld => ?_)
      clear p_x_0 p_x_1 p_x_2 p_x_3 p_q_0 p_q_1 p_q_2 p_q_3
      clear hK K
      try simp only [Act.put, List.setIfInBounds_toArray, List.set_cons_zero, List.set_cons_succ]
      refine wpAnyH_ready (rs := [3]) (by kernel_rfl) (by simp) ?_
      refine AllReadyH.cons (o := _) (by simp only [List.getElem?_toArray, List.getElem?_cons_succ, List.getElem?_cons_zero]; rfl) (fun K hK => ?_) AllReadyH.nil
      go_simp
      refine (HE.out _ _ _ _ _ (ownsC_conds oc2.out) (ownsC_conds oc3.out) (ownsN_ints on2.out) (ownsN_ints on3.out)).mono ?_
      rintro e v10 ⟨rfl, c10⟩
      replace q := Lib.hid ((c10.block w.heap.size (Array.getElem?_eq_some_iff.1 q.out).1).trans q.out)
      replace r := Lib.hid ((c10.block (w.heap.size + 1) (Array.getElem?_eq_some_iff.1 r.out).1).trans r.out)
      replace hc := Lib.hid (condsR_below hc.out c10)
      replace ho := Lib.hid (ints_below ho.out c10)
      replace hv := Lib.hid (ints_below hv.out c10)
      replace oc2 := Lib.hid (ownsC_below oc2.out c10)
      replace on2 := Lib.hid (ownsN_below on2.out c10)
      replace x := Lib.hid ((c10.block v6.heap.size (Array.getElem?_eq_some_iff.1 x.out).1).trans x.out)
      replace or2 := Lib.hid (ownsN_below or2.out c10)
      replace y := Lib.hid ((c10.block v7.heap.size (Array.getElem?_eq_some_iff.1 y.out).1).trans y.out)
      replace oc3 := Lib.hid (ownsC_below oc3.out c10)
      replace on3 := Lib.hid (ownsN_below on3.out c10)
      replace d := Lib.hid (d.out.trans (c10.mono d.out.size))
      clear c10
      have p_x_0 := (cell_of_row v10 _ 0 _ _ _ x.out).trans (show _ = some (Value.int .i64 id) from rfl)
      have p_x_1 := (cell_of_row v10 _ 1 _ _ _ x.out).trans (show _ = some (Value.int .i64 tn) from rfl)
      have p_x_2 := (cell_of_row v10 _ 2 _ _ _ x.out).trans (show _ = some (Value.slice ca2 cs.length cp2) from rfl)
      have p_x_3 := (cell_of_row v10 _ 3 _ _ _ x.out).trans (show _ = some (Value.slice oa2 os.length op2) from rfl)
      have p_q_0 := (cell_of_row v10 _ 0 _ _ _ q.out).trans (show _ = some (Value.int .i64 id) from rfl)
      have p_q_1 := (cell_of_row v10 _ 1 _ _ _ q.out).trans (show _ = some (Value.int .i64 tn) from rfl)
      have p_q_2 := (cell_of_row v10 _ 2 _ _ _ q.out).trans (show _ = some (Value.slice ca cs.length ccap) from rfl)
      have p_q_3 := (cell_of_row v10 _ 3 _ _ _ q.out).trans (show _ = some (Value.slice oa os.length ocap) from rfl)
      refine hK.out _ _ ⟨p_x_0, p_x_1, p_x_2, p_x_3, p_q_0, p_q_1, p_q_2, p_q_3⟩ (fun hHeld => ?_)
      clear p_x_0 p_x_1 p_x_2 p_x_3 p_q_0 p_q_1 p_q_2 p_q_3
      clear hK K
      try simp only [Act.put, List.setIfInBounds_toArray, List.set_cons_zero, List.set_cons_succ]
      refine take_runs (i := 4) (v := ?_) (by simp only [List.getElem?_toArray, List.getElem?_cons_succ, List.getElem?_cons_zero]; rfl) (by kernel_rfl) (by kernel_rfl) (by kernel_rfl) rfl (by exact fun _ _ _ h => h) (by rfl) ?_ (by assumption) ?_
      rotate_left
      · intro w hSw; (try dsimp only at hSw); go_simp; try (with_reducible rfl)
      try simp only [Act.put, List.setIfInBounds_toArray, List.set_cons_zero, List.set_cons_succ]
      refine wpAnyH_done (by kernel_rfl) ?_ _
      clear hHeld
      clear oc3
      clear on3
      go_wp2
      have p_y_0 := (cell_of_row v10 _ 0 _ _ _ y.out).trans (show _ = some (Value.int .i64 rid) from rfl)
      have p_y_1 := (cell_of_row v10 _ 1 _ _ _ y.out).trans (show _ = some (Value.slice ra2 xs.length rp2) from rfl)
      have p_r_0 := (cell_of_row v10 _ 0 _ _ _ r.out).trans (show _ = some (Value.int .i64 rid) from rfl)
      have p_r_1 := (cell_of_row v10 _ 1 _ _ _ r.out).trans (show _ = some (Value.slice va xs.length vcap) from rfl)
      refine wp_region_held_drew (S := fun w' => w'.cell? ⟨v7.heap.size, 0, none⟩ = some (.int .i64 rid) ∧ w'.cell? ⟨v7.heap.size, 1, none⟩ = some (.slice ra2 xs.length rp2) ∧ w'.cell? ⟨(w.heap.size + 1), 0, none⟩ = some (.int .i64 rid) ∧ w'.cell? ⟨(w.heap.size + 1), 1, none⟩ = some (.slice va xs.length vcap)) (by kernel_rfl) ⟨p_y_0, p_y_1, p_r_0, p_r_1⟩ (fun hHeld => ?_)
      clear p_y_0 p_y_1 p_r_0 p_r_1
      have cdr : Below v10.heap.size v10 v10.drew := below_drew (Below.refl _ _)
      replace q := Lib.hid ((cdr.block w.heap.size (Array.getElem?_eq_some_iff.1 q.out).1).trans q.out)
      replace r := Lib.hid ((cdr.block (w.heap.size + 1) (Array.getElem?_eq_some_iff.1 r.out).1).trans r.out)
      replace hc := Lib.hid (condsR_below hc.out cdr)
      replace ho := Lib.hid (ints_below ho.out cdr)
      replace hv := Lib.hid (ints_below hv.out cdr)
      replace oc2 := Lib.hid (ownsC_below oc2.out cdr)
      replace on2 := Lib.hid (ownsN_below on2.out cdr)
      replace x := Lib.hid ((cdr.block v6.heap.size (Array.getElem?_eq_some_iff.1 x.out).1).trans x.out)
      replace or2 := Lib.hid (ownsN_below or2.out cdr)
      replace y := Lib.hid ((cdr.block v7.heap.size (Array.getElem?_eq_some_iff.1 y.out).1).trans y.out)
      replace d := Lib.hid (d.out.trans (cdr.mono d.out.size))
      clear cdr
      refine take_runs (i := 0) (v := ?_) (by simp only [List.getElem?_toArray, List.getElem?_cons_succ, List.getElem?_cons_zero]; rfl) (by kernel_rfl) (by kernel_rfl) (by kernel_rfl) rfl (by exact fun _ _ _ h => h) (by rfl) ?_ (by assumption) ?_
      rotate_left
      · intro w hSw; (try dsimp only at hSw); go_simp; try (with_reducible rfl)
      try simp only [Act.put, List.setIfInBounds_toArray, List.set_cons_zero, List.set_cons_succ]
      refine take_runs (i := 1) (v := ?_) (by simp only [List.getElem?_toArray, List.getElem?_cons_succ, List.getElem?_cons_zero]; rfl) (by kernel_rfl) (by kernel_rfl) (by kernel_rfl) rfl (by exact fun _ _ _ h => h) (by rfl) ?_ (by assumption) ?_
      rotate_left
      · intro w hSw; (try dsimp only at hSw); go_simp; try (with_reducible rfl)
      try simp only [Act.put, List.setIfInBounds_toArray, List.set_cons_zero, List.set_cons_succ]
      refine wpAnyH_ready (rs := [2]) (by kernel_rfl) (by simp) ?_
      refine AllReadyH.cons (o := _) (by simp only [List.getElem?_toArray, List.getElem?_cons_succ, List.getElem?_cons_zero]; rfl) (fun K hK => ?_) AllReadyH.nil
      go_simp
      refine (HR.out _ _ hv.out).mono ?_
      rintro e v11 ⟨rv3, rfl, or3, c11⟩
      replace q := Lib.hid ((c11.block w.heap.size (Array.getElem?_eq_some_iff.1 q.out).1).trans q.out)
      replace r := Lib.hid ((c11.block (w.heap.size + 1) (Array.getElem?_eq_some_iff.1 r.out).1).trans r.out)
      replace hc := Lib.hid (condsR_below hc.out c11)
      replace ho := Lib.hid (ints_below ho.out c11)
      replace hv := Lib.hid (ints_below hv.out c11)
      replace oc2 := Lib.hid (ownsC_below oc2.out c11)
      replace on2 := Lib.hid (ownsN_below on2.out c11)
      replace x := Lib.hid ((c11.block v6.heap.size (Array.getElem?_eq_some_iff.1 x.out).1).trans x.out)
      replace or2 := Lib.hid (ownsN_below or2.out c11)
      replace y := Lib.hid ((c11.block v7.heap.size (Array.getElem?_eq_some_iff.1 y.out).1).trans y.out)
      replace d := Lib.hid (d.out.trans (c11.mono d.out.size))
      clear c11
      obtain ⟨ra3, rp3, rfl⟩ := ints_len (ownsN_ints or3)
      replace or3 := Lib.hid or3
      have p_y_0 := (cell_of_row v11 _ 0 _ _ _ y.out).trans (show _ = some (Value.int .i64 rid) from rfl)
      have p_y_1 := (cell_of_row v11 _ 1 _ _ _ y.out).trans (show _ = some (Value.slice ra2 xs.length rp2) from rfl)
      have p_r_0 := (cell_of_row v11 _ 0 _ _ _ r.out).trans (show _ = some (Value.int .i64 rid) from rfl)
      have p_r_1 := (cell_of_row v11 _ 1 _ _ _ r.out).trans (show _ = some (Value.slice va xs.length vcap) from rfl)
      refine hK.out _ _ ⟨p_y_0, p_y_1, p_r_0, p_r_1⟩ (fun hHeld => ?_)
      clear p_y_0 p_y_1 p_r_0 p_r_1
      clear hK K
      try simp only [Act.put, List.setIfInBounds_toArray, List.set_cons_zero, List.set_cons_succ]
      refine wpAnyH_ready (rs := [3]) (by kernel_rfl) (by simp) ?_
      refine AllReadyH.cons (o := _) (by simp only [List.getElem?_toArray, List.getElem?_cons_succ, List.getElem?_cons_zero]; rfl) (fun K hK => ?_) AllReadyH.nil
      go_simp
      refine (HF.out _ _ _ (ownsN_ints or2.out) (ownsN_ints or3.out)).mono ?_
      rintro e v12 ⟨rfl, c12⟩
      replace q := Lib.hid ((c12.block w.heap.size (Array.getElem?_eq_some_iff.1 q.out).1).trans q.out)
      replace r := Lib.hid ((c12.block (w.heap.size + 1) (Array.getElem?_eq_some_iff.1 r.out).1).trans r.out)
      replace hc := Lib.hid (condsR_below hc.out c12)
      replace ho := Lib.hid (ints_below ho.out c12)
      replace hv := Lib.hid (ints_below hv.out c12)
      replace oc2 := Lib.hid (ownsC_below oc2.out c12)
      replace on2 := Lib.hid (ownsN_below on2.out c12)
      replace x := Lib.hid ((c12.block v6.heap.size (Array.getElem?_eq_some_iff.1 x.out).1).trans x.out)
      replace or2 := Lib.hid (ownsN_below or2.out c12)
      replace y := Lib.hid ((c12.block v7.heap.size (Array.getElem?_eq_some_iff.1 y.out).1).trans y.out)
      replace or3 := Lib.hid (ownsN_below or3.out c12)
      replace d := Lib.hid (d.out.trans (c12.mono d.out.size))
      clear c12
      have p_y_0 := (cell_of_row v12 _ 0 _ _ _ y.out).trans (show _ = some (Value.int .i64 rid) from rfl)
      have p_y_1 := (cell_of_row v12 _ 1 _ _ _ y.out).trans (show _ = some (Value.slice ra2 xs.length rp2) from rfl)
      have p_r_0 := (cell_of_row v12 _ 0 _ _ _ r.out).trans (show _ = some (Value.int .i64 rid) from rfl)
      have p_r_1 := (cell_of_row v12 _ 1 _ _ _ r.out).trans (show _ = some (Value.slice va xs.length vcap) from rfl)
      refine hK.out _ _ ⟨p_y_0, p_y_1, p_r_0, p_r_1⟩ (fun hHeld => ?_)
      clear p_y_0 p_y_1 p_r_0 p_r_1
      clear hK K
      try simp only [Act.put, List.setIfInBounds_toArray, List.set_cons_zero, List.set_cons_succ]
      refine take_runs (i := 4) (v := ?_) (by simp only [List.getElem?_toArray, List.getElem?_cons_succ, List.getElem?_cons_zero]; rfl) (by kernel_rfl) (by kernel_rfl) (by kernel_rfl) rfl (by exact fun _ _ _ h => h) (by rfl) ?_ (by assumption) ?_
      rotate_left
      · intro w hSw; (try dsimp only at hSw); go_simp; try (with_reducible rfl)
      try simp only [Act.put, List.setIfInBounds_toArray, List.set_cons_zero, List.set_cons_succ]
      refine wpAnyH_done (by kernel_rfl) ?_ _
      clear hHeld
      go_wp2
      go_ret
      exact ⟨rfl, HB0.out.trans (d.out.mono HB0.out.size)⟩
    · have HY := Lib.hid (fun w => szRow_no rid va vcap xs.length (1048576 - (cs.length : Int) - (os.length : Int)) w (by omega) (by omega) hx)
      clear himpl hl hl2 hn hm hx h g gr q
      go_enter Try.func6, Try.ntmps6
      go_wp2_with fail
      generalize ((w.alloc (.cells #[.int .i64 id, .int .i64 tn, .slice ca cs.length ccap, .slice oa os.length ocap] 31)).alloc (.cells #[.int .i64 rid, .slice va xs.length vcap] 48)) = W at *
      refine (HZ.out _).mono ?_
      rintro e w1 ⟨rfl, b1⟩
      have b2 := hb0.trans (b1.mono hb0.size)
      have g1 := (b1.block (w.heap.size + 1) (Array.getElem?_eq_some_iff.1 r.out).1).trans r.out
      have p0 := (cell_of_row w1 _ 0 _ _ _ g1).trans (show _ = some (Value.int .i64 rid) from rfl)
      have p1 := (cell_of_row w1 _ 1 _ _ _ g1).trans (show _ = some (Value.slice va xs.length vcap) from rfl)
      clear g1 b1 hb0 HZ r
      go_wp2_with fail
      refine (HY.out _).mono ?_
      rintro e w2 ⟨rfl, b3⟩
      have b4 := b2.trans (b3.mono b2.size)
      go_wp2
      go_ret
      exact ⟨rfl, b4⟩
  · have HZ := Lib.hid (fun w => szQuery_no id tn ca oa ccap ocap cs.length os.length 1048576 w (by omega) (by omega) (by omega) hn hm)
    clear himpl hl hn hm hx h g gr q r
    go_enter Try.func6, Try.ntmps6
    go_wp2_with fail
    generalize ((w.alloc (.cells #[.int .i64 id, .int .i64 tn, .slice ca cs.length ccap, .slice oa os.length ocap] 31)).alloc (.cells #[.int .i64 rid, .slice va xs.length vcap] 48)) = W at *
    refine (HZ.out _).mono ?_
    rintro e w1 ⟨rfl, b1⟩
    have b2 := hb0.trans (b1.mono hb0.size)
    go_wp2
    go_ret
    exact ⟨rfl, b2⟩
end Go.Proofs.Yteelgogfpidcdaa
