/-
  The walk of the exact law of ProjectRow: if the program's function answers what the specification's does, the law returns true.
-/
import Derived.Test.YteelgogfpidcdaaQueryLaw1
import Derived.Test.YteelgogfpidcdaaProjSpec
import Derived.Test.YteelgogfpidcdaaCondMark
import Derived.Test.YteelgogfpidcdaaRowMarkW
import Derived.Test.YteelgogfpidcdaaRowMark1
namespace Go.Proofs.Yteelgogfpidcdaa
open Go.RowKit
set_option linter.unusedVariables false
set_option linter.unusedSimpArgs false
theorem projL_len (id tn : Int) (cs : List CondD) (os : List Int) (r : RowD) : (projL id tn cs os r).length ≤ os.length := by
  unfold projL
  split
  · simp
  · simp
set_option maxHeartbeats 32000000 in
set_option maxRecDepth 100000 in
theorem law_fnExactProjectRow (id tn : Int) (cv ov : Value) (cs : List CondD) (os : List Int) (rid : Int) (vv : Value) (xs : List Int) (w : World) (h : CondsR w cv cs) (g : Ints w ov os) (gr : Ints w vv xs)
    (hn : (cs.length : Int) ≤ 9223372036854775807) (hm : (os.length : Int) ≤ 9223372036854775807) (hx : (xs.length : Int) ≤ 9223372036854775807)
    (himpl : ∀ (cv ov vv : Value) (w : World), CondsR w cv cs → cs.length ≤ 1048576 → Ints w ov os → os.length ≤ 1048576 → Ints w vv xs → xs.length ≤ 1048576 → Calls Try.prog 30 #[qV id tn cv ov, .agg #[.int .i64 rid, vv]] w (FreshInts w (projL id tn cs os (rid, xs)))) :
    Calls Try.prog 7 #[qV id tn cv ov, .agg #[.int .i64 rid, vv]] w fun e w' => e = .returned (.bool true) ∧ Below w.heap.size w w' := by
  obtain ⟨ca, ccap, rfl⟩ := condsR_len h
  obtain ⟨oa, ocap, rfl⟩ := ints_len g
  obtain ⟨va, vcap, rfl⟩ := ints_len gr
  have hb0 : Below w.heap.size w ((w.alloc (.cells #[.int .i64 id, .int .i64 tn, .slice ca cs.length ccap, .slice oa os.length ocap] 31)).alloc (.cells #[.int .i64 rid, .slice va xs.length vcap] 48)) := ((Below.refl _ w).alloc (Nat.le_refl _) _).alloc (by simp) _
  have r : Hid (((w.alloc (.cells #[.int .i64 id, .int .i64 tn, .slice ca cs.length ccap, .slice oa os.length ocap] 31)).alloc (.cells #[.int .i64 rid, .slice va xs.length vcap] 48)).heap[w.heap.size + 1]? = some (.cells #[.int .i64 rid, .slice va xs.length vcap] 48 (0, 0))) := Lib.hid (by
    have := heap_alloc_new (w.alloc (.cells #[.int .i64 id, .int .i64 tn, .slice ca cs.length ccap, .slice oa os.length ocap] 31)) (.cells #[.int .i64 rid, .slice va xs.length vcap] 48)
    simpa only [World.size_alloc] using this)
  have q : Hid (((w.alloc (.cells #[.int .i64 id, .int .i64 tn, .slice ca cs.length ccap, .slice oa os.length ocap] 31)).alloc (.cells #[.int .i64 rid, .slice va xs.length vcap] 48)).heap[w.heap.size]? = some (.cells #[.int .i64 id, .int .i64 tn, .slice ca cs.length ccap, .slice oa os.length ocap] 31 (0, 0))) := Lib.hid (by
    rw [Below.heap_alloc _ _ _ (by simp)]
    exact heap_alloc_new w _)
  have hv := Lib.hid (ints_below gr hb0)
  by_cases hl : (cs.length : Int) + (os.length : Int) ≤ 1048576
  · have HZ := Lib.hid (fun w => szQuery_yes id tn ca oa ccap ocap cs.length os.length 1048576 w hl (by omega))
    have hneg : ¬ 1048576 - (cs.length : Int) - (os.length : Int) < 0 := by omega
    by_cases hl2 : (cs.length : Int) + (os.length : Int) + (xs.length : Int) ≤ 1048576
    · have HN : Hid (cs.length ≤ 1048576) := Lib.hid (by omega)
      have HM : Hid (os.length ≤ 1048576) := Lib.hid (by omega)
      have HX : Hid (xs.length ≤ 1048576) := Lib.hid (by omega)
      have HP : Hid ((projL id tn cs os (rid, xs)).length ≤ 1048576) := Lib.hid (Nat.le_trans (projL_len id tn cs os (rid, xs)) HM.out)
      have HY := Lib.hid (fun w => szRow_yes rid va vcap xs.length (1048576 - (cs.length : Int) - (os.length : Int)) w (by omega) (by omega))
      have HS := Lib.hid (fun cv ov vv w h g gr => specProjectRow id tn rid cv ov vv cs os xs w h HN.out g HM.out gr HX.out)
      have HR := Lib.hid (fun vv w h => toRow_any rid vv xs w h HX.out)
      have HF := Lib.hid (fun v u w h g => eqRow_same rid v u xs w h g HX.out)
      have HMK := Lib.hid (fun v B hi w h hlt hhi => markRow_only rid v xs B hi (1 + 3 * (cs.length : Int) + (os.length : Int)) w h hlt hhi HX.out (by omega) (by omega))
      have hneg3 : ¬ 1 + 3 * (cs.length : Int) + (os.length : Int) + (xs.length : Int) < 0 := by omega
      have HI := Lib.hid (fun cv ov vv w h g gr => himpl cv ov vv w h HN.out g HM.out gr HX.out)
      have HT := Lib.hid (fun cv ov w h g => toQuery_any id tn cv ov cs os w h HN.out g HM.out)
      have HE := Lib.hid (fun cv cu ov ou w h h' g g' => eqQuery_same id tn cv cu ov ou cs os w h h' g g' HN.out HM.out)
      have HMQ := Lib.hid (fun cv ov B hi w h g hd hc ho hhi => markQuery_any id tn cv ov cs os B hi 1 w h g hd hc ho hhi HN.out HM.out (by omega) (by omega))
      have hneg2 : ¬ 1048576 - (cs.length : Int) - (os.length : Int) - (xs.length : Int) < 0 := by omega
      have hc := Lib.hid (condsR_below h hb0)
      have ho := Lib.hid (ints_below g hb0)
      have HB0 := Lib.hid hb0
      clear h g gr hn hm hx himpl hl hl2 hb0
      generalize projL id tn cs os (rid, xs) = res at *
      have HG := Lib.hid (fun v u w h g => eqIntS_same v u res w h g HP.out)
      have HMG := Lib.hid (fun v B w h => markIntS_any v res B 1 w h HP.out (by omega) (by omega))
      have HHG := Lib.hid (fun v w h => (heldIntS_any v res.length 1 w h HP.out (by omega) (by omega)).mono (fun e w' (h : e = .returned (.int .i64 (1 + (res.length : Int))) ∧ w = w') => show e = .returned (.int .i64 (1 + (res.length : Int))) ∧ Below w.heap.size w w' from ⟨h.1, h.2 ▸ Below.refl _ _⟩))
      have hneg4 : ¬ 1 + (res.length : Int) < 0 := by omega
      have hrr : ((1 + (res.length : Int)) != (1 + (res.length : Int))) = false := by simp
      go_enter Try.func7, Try.ntmps7
      go_wp2_with fail
      generalize ((w.alloc (.cells #[.int .i64 id, .int .i64 tn, .slice ca cs.length ccap, .slice oa os.length ocap] 31)).alloc (.cells #[.int .i64 rid, .slice va xs.length vcap] 48)) = W at *
      have d := Lib.hid (Below.refl W.heap.size W)
      refine (HZ.out _).mono ?_
      rintro e v1 ⟨rfl, c1⟩
      replace d := Lib.hid (d.out.trans (c1.mono d.out.size))
      clear c1
      have g_r := (d.out.block (w.heap.size + 1) (Array.getElem?_eq_some_iff.1 r.out).1).trans r.out
      have p_r_0 := (cell_of_row v1 _ 0 _ _ _ g_r).trans (show _ = some (Value.int .i64 rid) from rfl)
      have p_r_1 := (cell_of_row v1 _ 1 _ _ _ g_r).trans (show _ = some (Value.slice va xs.length vcap) from rfl)
      clear g_r
      go_wp2_with fail
      clear p_r_0 p_r_1
      refine (HY.out _).mono ?_
      rintro e v2 ⟨rfl, c2⟩
      replace d := Lib.hid (d.out.trans (c2.mono d.out.size))
      clear c2
      go_wp2
      have g_q := (d.out.block w.heap.size (Array.getElem?_eq_some_iff.1 q.out).1).trans q.out
      have p_q_0 := (cell_of_row v2 _ 0 _ _ _ g_q).trans (show _ = some (Value.int .i64 id) from rfl)
      have p_q_1 := (cell_of_row v2 _ 1 _ _ _ g_q).trans (show _ = some (Value.int .i64 tn) from rfl)
      have p_q_2 := (cell_of_row v2 _ 2 _ _ _ g_q).trans (show _ = some (Value.slice ca cs.length ccap) from rfl)
      have p_q_3 := (cell_of_row v2 _ 3 _ _ _ g_q).trans (show _ = some (Value.slice oa os.length ocap) from rfl)
      clear g_q
      have g_r := (d.out.block (w.heap.size + 1) (Array.getElem?_eq_some_iff.1 r.out).1).trans r.out
      have p_r_0 := (cell_of_row v2 _ 0 _ _ _ g_r).trans (show _ = some (Value.int .i64 rid) from rfl)
      have p_r_1 := (cell_of_row v2 _ 1 _ _ _ g_r).trans (show _ = some (Value.slice va xs.length vcap) from rfl)
      clear g_r
      refine wp_region_held_drew (S := fun w' => w'.cell? ⟨w.heap.size, 0, none⟩ = some (.int .i64 id) ∧ w'.cell? ⟨w.heap.size, 1, none⟩ = some (.int .i64 tn) ∧ w'.cell? ⟨w.heap.size, 2, none⟩ = some (.slice ca cs.length ccap) ∧ w'.cell? ⟨w.heap.size, 3, none⟩ = some (.slice oa os.length ocap) ∧ w'.cell? ⟨(w.heap.size + 1), 0, none⟩ = some (.int .i64 rid) ∧ w'.cell? ⟨(w.heap.size + 1), 1, none⟩ = some (.slice va xs.length vcap)) (by kernel_rfl) ⟨p_q_0, p_q_1, p_q_2, p_q_3, p_r_0, p_r_1⟩ (fun hHeld => ?_)
      clear p_q_0 p_q_1 p_q_2 p_q_3 p_r_0 p_r_1
      have cdr : Below v2.heap.size v2 v2.drew := below_drew (Below.refl _ _)
      replace d := Lib.hid (d.out.trans (cdr.mono d.out.size))
      clear cdr
      refine take_runs (i := 0) (v := ?_) (by simp only [List.getElem?_toArray, List.getElem?_cons_succ, List.getElem?_cons_zero]; rfl) (by kernel_rfl) (by kernel_rfl) (by kernel_rfl) rfl (by exact fun _ _ _ h => h) (by rfl) ?_ (by assumption) ?_
      rotate_left
      · intro w hSw; (try dsimp only at hSw); go_simp; try (with_reducible rfl)
      try simp only [Act.put, List.setIfInBounds_toArray, List.set_cons_zero, List.set_cons_succ]
      refine take_runs (i := 2) (v := ?_) (by simp only [List.getElem?_toArray, List.getElem?_cons_succ, List.getElem?_cons_zero]; rfl) (by kernel_rfl) (by kernel_rfl) (by kernel_rfl) rfl (by exact fun _ _ _ h => h) (by rfl) ?_ (by assumption) ?_
      rotate_left
      · intro w hSw; (try dsimp only at hSw); go_simp; try (with_reducible rfl)
      try simp only [Act.put, List.setIfInBounds_toArray, List.set_cons_zero, List.set_cons_succ]
      refine wpAnyH_ready (rs := [1]) (by kernel_rfl) (by simp) ?_
      refine AllReadyH.cons (o := _) (by simp only [List.getElem?_toArray, List.getElem?_cons_succ, List.getElem?_cons_zero]; rfl) (fun K hK => ?_) AllReadyH.nil
      go_simp
      refine (HT.out _ _ _ (condsR_below hc.out d.out) (ints_below ho.out d.out)).mono ?_
      rintro e v3 ⟨cv1, ov1, rfl, oc1, on1, dq1, c3⟩
      replace d := Lib.hid (d.out.trans (c3.mono d.out.size))
      clear c3
      obtain ⟨ca1, cp1, rfl⟩ := ownsC_len oc1
      obtain ⟨oa1, op1, rfl⟩ := ints_len (ownsN_ints on1)
      replace oc1 := Lib.hid oc1
      replace on1 := Lib.hid on1
      replace dq1 := Lib.hid dq1
      have g_q := (d.out.block w.heap.size (Array.getElem?_eq_some_iff.1 q.out).1).trans q.out
      have p_q_0 := (cell_of_row v3 _ 0 _ _ _ g_q).trans (show _ = some (Value.int .i64 id) from rfl)
      have p_q_1 := (cell_of_row v3 _ 1 _ _ _ g_q).trans (show _ = some (Value.int .i64 tn) from rfl)
      have p_q_2 := (cell_of_row v3 _ 2 _ _ _ g_q).trans (show _ = some (Value.slice ca cs.length ccap) from rfl)
      have p_q_3 := (cell_of_row v3 _ 3 _ _ _ g_q).trans (show _ = some (Value.slice oa os.length ocap) from rfl)
      clear g_q
      have g_r := (d.out.block (w.heap.size + 1) (Array.getElem?_eq_some_iff.1 r.out).1).trans r.out
      have p_r_0 := (cell_of_row v3 _ 0 _ _ _ g_r).trans (show _ = some (Value.int .i64 rid) from rfl)
      have p_r_1 := (cell_of_row v3 _ 1 _ _ _ g_r).trans (show _ = some (Value.slice va xs.length vcap) from rfl)
      clear g_r
      refine hK.out _ _ ⟨p_q_0, p_q_1, p_q_2, p_q_3, p_r_0, p_r_1⟩ (fun hHeld => ?_)
      clear p_q_0 p_q_1 p_q_2 p_q_3 p_r_0 p_r_1
      clear hK K
      try simp only [Act.put, List.setIfInBounds_toArray, List.set_cons_zero, List.set_cons_succ]
      refine wpAnyH_ready (rs := [3]) (by kernel_rfl) (by simp) ?_
      refine AllReadyH.cons (o := _) (by simp only [List.getElem?_toArray, List.getElem?_cons_succ, List.getElem?_cons_zero]; rfl) (fun K hK => ?_) AllReadyH.nil
      go_simp
      refine (HR.out _ _ (ints_below hv.out d.out)).mono ?_
      rintro e v4 ⟨rv1, rfl, or1, c4⟩
      replace oc1 := Lib.hid (ownsC_below oc1.out c4)
      replace on1 := Lib.hid (ownsN_below on1.out c4)
      replace d := Lib.hid (d.out.trans (c4.mono d.out.size))
      clear c4
      obtain ⟨ra1, rp1, rfl⟩ := ints_len (ownsN_ints or1)
      replace or1 := Lib.hid or1
      have g_q := (d.out.block w.heap.size (Array.getElem?_eq_some_iff.1 q.out).1).trans q.out
      have p_q_0 := (cell_of_row v4 _ 0 _ _ _ g_q).trans (show _ = some (Value.int .i64 id) from rfl)
      have p_q_1 := (cell_of_row v4 _ 1 _ _ _ g_q).trans (show _ = some (Value.int .i64 tn) from rfl)
      have p_q_2 := (cell_of_row v4 _ 2 _ _ _ g_q).trans (show _ = some (Value.slice ca cs.length ccap) from rfl)
      have p_q_3 := (cell_of_row v4 _ 3 _ _ _ g_q).trans (show _ = some (Value.slice oa os.length ocap) from rfl)
      clear g_q
      have g_r := (d.out.block (w.heap.size + 1) (Array.getElem?_eq_some_iff.1 r.out).1).trans r.out
      have p_r_0 := (cell_of_row v4 _ 0 _ _ _ g_r).trans (show _ = some (Value.int .i64 rid) from rfl)
      have p_r_1 := (cell_of_row v4 _ 1 _ _ _ g_r).trans (show _ = some (Value.slice va xs.length vcap) from rfl)
      clear g_r
      refine hK.out _ _ ⟨p_q_0, p_q_1, p_q_2, p_q_3, p_r_0, p_r_1⟩ (fun hHeld => ?_)
      clear p_q_0 p_q_1 p_q_2 p_q_3 p_r_0 p_r_1
      clear hK K
      try simp only [Act.put, List.setIfInBounds_toArray, List.set_cons_zero, List.set_cons_succ]
      refine wpAnyH_ready (rs := [4]) (by kernel_rfl) (by simp) ?_
      refine AllReadyH.cons (o := _) (by simp only [List.getElem?_toArray, List.getElem?_cons_succ, List.getElem?_cons_zero]; rfl) (fun K hK => ?_) AllReadyH.nil
      go_simp
      refine (HS.out _ _ _ _ (ownsC_conds oc1.out) (ownsN_ints on1.out) (ownsN_ints or1.out)).mono ?_
      rintro e v5 ⟨gw, rfl, ow, c5⟩
      replace oc1 := Lib.hid (ownsC_below oc1.out c5)
      replace on1 := Lib.hid (ownsN_below on1.out c5)
      replace or1 := Lib.hid (ownsN_below or1.out c5)
      replace d := Lib.hid (d.out.trans (c5.mono d.out.size))
      clear c5
      have w0 := Lib.hid (ownsN_ints ow)
      clear ow
      have g_q := (d.out.block w.heap.size (Array.getElem?_eq_some_iff.1 q.out).1).trans q.out
      have p_q_0 := (cell_of_row v5 _ 0 _ _ _ g_q).trans (show _ = some (Value.int .i64 id) from rfl)
      have p_q_1 := (cell_of_row v5 _ 1 _ _ _ g_q).trans (show _ = some (Value.int .i64 tn) from rfl)
      have p_q_2 := (cell_of_row v5 _ 2 _ _ _ g_q).trans (show _ = some (Value.slice ca cs.length ccap) from rfl)
      have p_q_3 := (cell_of_row v5 _ 3 _ _ _ g_q).trans (show _ = some (Value.slice oa os.length ocap) from rfl)
      clear g_q
      have g_r := (d.out.block (w.heap.size + 1) (Array.getElem?_eq_some_iff.1 r.out).1).trans r.out
      have p_r_0 := (cell_of_row v5 _ 0 _ _ _ g_r).trans (show _ = some (Value.int .i64 rid) from rfl)
      have p_r_1 := (cell_of_row v5 _ 1 _ _ _ g_r).trans (show _ = some (Value.slice va xs.length vcap) from rfl)
      clear g_r
      refine hK.out _ _ ⟨p_q_0, p_q_1, p_q_2, p_q_3, p_r_0, p_r_1⟩ (fun hHeld => ?_)
      clear p_q_0 p_q_1 p_q_2 p_q_3 p_r_0 p_r_1
      clear hK K
      try simp only [Act.put, List.setIfInBounds_toArray, List.set_cons_zero, List.set_cons_succ]
      refine take_runs (i := 5) (v := ?_) (by simp only [List.getElem?_toArray, List.getElem?_cons_succ, List.getElem?_cons_zero]; rfl) (by kernel_rfl) (by kernel_rfl) (by kernel_rfl) rfl (by exact fun _ _ _ h => h) (by rfl) ?_ (by assumption) ?_
      rotate_left
      · intro w hSw; (try dsimp only at hSw); go_simp; try (with_reducible rfl)
      try simp only [Act.put, List.setIfInBounds_toArray, List.set_cons_zero, List.set_cons_succ]
      refine wpAnyH_done (by kernel_rfl) ?_ _
      clear hHeld
      clear oc1
      clear on1
      clear or1
      clear dq1
      replace hc := Lib.hid (condsR_below hc.out d.out)
      replace ho := Lib.hid (ints_below ho.out d.out)
      replace hv := Lib.hid (ints_below hv.out d.out)
      replace q := Lib.hid ((d.out.block w.heap.size (Array.getElem?_eq_some_iff.1 q.out).1).trans q.out)
      replace r := Lib.hid ((d.out.block (w.heap.size + 1) (Array.getElem?_eq_some_iff.1 r.out).1).trans r.out)
      have D0 := d
      clear d
      have d := Lib.hid (Below.refl v5.heap.size v5)
      have g_q := (d.out.block w.heap.size (Array.getElem?_eq_some_iff.1 q.out).1).trans q.out
      have p_q_0 := (cell_of_row v5 _ 0 _ _ _ g_q).trans (show _ = some (Value.int .i64 id) from rfl)
      have p_q_1 := (cell_of_row v5 _ 1 _ _ _ g_q).trans (show _ = some (Value.int .i64 tn) from rfl)
      have p_q_2 := (cell_of_row v5 _ 2 _ _ _ g_q).trans (show _ = some (Value.slice ca cs.length ccap) from rfl)
      have p_q_3 := (cell_of_row v5 _ 3 _ _ _ g_q).trans (show _ = some (Value.slice oa os.length ocap) from rfl)
      clear g_q
      go_wp2_with fail
      clear p_q_0 p_q_1 p_q_2 p_q_3
      refine (HT.out _ _ _ (condsR_below hc.out d.out) (ints_below ho.out d.out)).mono ?_
      rintro e v6 ⟨cv2, ov2, rfl, oc2, on2, dq2, c6⟩
      replace d := Lib.hid (d.out.trans (c6.mono d.out.size))
      clear c6
      obtain ⟨ca2, cp2, rfl⟩ := ownsC_len oc2
      obtain ⟨oa2, op2, rfl⟩ := ints_len (ownsN_ints on2)
      replace oc2 := Lib.hid oc2
      replace on2 := Lib.hid on2
      replace dq2 := Lib.hid dq2
      have hlc := Lib.hid (fun b hb => (oc2.out.lt b hb).2)
      have hlo := Lib.hid (fun b hb => (on2.out.lt b hb).2)
      have z1 := Lib.hid (Nat.le_refl v6.heap.size)
      have hal : Below v6.heap.size v6 (v6.alloc (.cells #[.int .i64 id, .int .i64 tn, .slice ca2 cs.length cp2, .slice oa2 os.length op2] 36)) := (Below.refl _ _).alloc (Nat.le_refl _) _
      have x := Lib.hid (heap_alloc_new v6 (.cells #[.int .i64 id, .int .i64 tn, .slice ca2 cs.length cp2, .slice oa2 os.length op2] 36))
      replace oc2 := Lib.hid (ownsC_below oc2.out hal)
      replace on2 := Lib.hid (ownsN_below on2.out hal)
      replace z1 := Lib.hid (Nat.le_trans z1.out hal.size)
      replace d := Lib.hid (d.out.trans (hal.mono d.out.size))
      clear hal
      have g_r := (d.out.block (w.heap.size + 1) (Array.getElem?_eq_some_iff.1 r.out).1).trans r.out
      have p_r_0 := (cell_of_row (v6.alloc (.cells #[.int .i64 id, .int .i64 tn, .slice ca2 cs.length cp2, .slice oa2 os.length op2] 36)) _ 0 _ _ _ g_r).trans (show _ = some (Value.int .i64 rid) from rfl)
      have p_r_1 := (cell_of_row (v6.alloc (.cells #[.int .i64 id, .int .i64 tn, .slice ca2 cs.length cp2, .slice oa2 os.length op2] 36)) _ 1 _ _ _ g_r).trans (show _ = some (Value.slice va xs.length vcap) from rfl)
      clear g_r
      go_wp2_with fail
      clear p_r_0 p_r_1
      generalize (v6.alloc (.cells #[.int .i64 id, .int .i64 tn, .slice ca2 cs.length cp2, .slice oa2 os.length op2] 36)) = W5 at *
      have z1a := z1
      have zUr := Lib.hid d.out.size
      have z5 := Lib.hid (Nat.le_refl W5.heap.size)
      refine (HR.out _ _ (ints_below hv.out d.out)).mono ?_
      rintro e v7 ⟨rv2, rfl, or2, c7⟩
      replace oc2 := Lib.hid (ownsC_below oc2.out c7)
      replace on2 := Lib.hid (ownsN_below on2.out c7)
      replace x := Lib.hid ((c7.block v6.heap.size (Array.getElem?_eq_some_iff.1 x.out).1).trans x.out)
      replace z1 := Lib.hid (Nat.le_trans z1.out c7.size)
      replace z5 := Lib.hid (Nat.le_trans z5.out c7.size)
      replace d := Lib.hid (d.out.trans (c7.mono d.out.size))
      clear c7
      obtain ⟨ra2, rp2, rfl⟩ := ints_len (ownsN_ints or2)
      replace or2 := Lib.hid or2
      have z1b := z1
      have hlr := Lib.hid (fun b hb => (or2.out.lt b hb).2)
      have z2 := Lib.hid (Nat.le_refl v7.heap.size)
      have hal : Below v7.heap.size v7 (v7.alloc (.cells #[.int .i64 rid, .slice ra2 xs.length rp2] 51)) := (Below.refl _ _).alloc (Nat.le_refl _) _
      have y := Lib.hid (heap_alloc_new v7 (.cells #[.int .i64 rid, .slice ra2 xs.length rp2] 51))
      replace oc2 := Lib.hid (ownsC_below oc2.out hal)
      replace on2 := Lib.hid (ownsN_below on2.out hal)
      replace x := Lib.hid ((hal.block v6.heap.size (Array.getElem?_eq_some_iff.1 x.out).1).trans x.out)
      replace or2 := Lib.hid (ownsN_below or2.out hal)
      replace z1 := Lib.hid (Nat.le_trans z1.out hal.size)
      replace z5 := Lib.hid (Nat.le_trans z5.out hal.size)
      replace z2 := Lib.hid (Nat.le_trans z2.out hal.size)
      replace d := Lib.hid (d.out.trans (hal.mono d.out.size))
      clear hal
      have p_x_0 := (cell_of_row (v7.alloc (.cells #[.int .i64 rid, .slice ra2 xs.length rp2] 51)) _ 0 _ _ _ x.out).trans (show _ = some (Value.int .i64 id) from rfl)
      have p_x_1 := (cell_of_row (v7.alloc (.cells #[.int .i64 rid, .slice ra2 xs.length rp2] 51)) _ 1 _ _ _ x.out).trans (show _ = some (Value.int .i64 tn) from rfl)
      have p_x_2 := (cell_of_row (v7.alloc (.cells #[.int .i64 rid, .slice ra2 xs.length rp2] 51)) _ 2 _ _ _ x.out).trans (show _ = some (Value.slice ca2 cs.length cp2) from rfl)
      have p_x_3 := (cell_of_row (v7.alloc (.cells #[.int .i64 rid, .slice ra2 xs.length rp2] 51)) _ 3 _ _ _ x.out).trans (show _ = some (Value.slice oa2 os.length op2) from rfl)
      have p_y_0 := (cell_of_row (v7.alloc (.cells #[.int .i64 rid, .slice ra2 xs.length rp2] 51)) _ 0 _ _ _ y.out).trans (show _ = some (Value.int .i64 rid) from rfl)
      have p_y_1 := (cell_of_row (v7.alloc (.cells #[.int .i64 rid, .slice ra2 xs.length rp2] 51)) _ 1 _ _ _ y.out).trans (show _ = some (Value.slice ra2 xs.length rp2) from rfl)
      go_wp2_with fail
      clear p_x_0 p_x_1 p_x_2 p_x_3 p_y_0 p_y_1
      generalize (v7.alloc (.cells #[.int .i64 rid, .slice ra2 xs.length rp2] 51)) = W6 at *
      have z1c := z1
      have z2c := z2
      have zUg := Lib.hid d.out.size
      refine (HI.out _ _ _ _ (ownsC_conds oc2.out) (ownsN_ints on2.out) (ownsN_ints or2.out)).mono ?_
      rintro e v8 ⟨gv, rfl, og, c8⟩
      replace oc2 := Lib.hid (ownsC_below oc2.out c8)
      replace on2 := Lib.hid (ownsN_below on2.out c8)
      replace x := Lib.hid ((c8.block v6.heap.size (Array.getElem?_eq_some_iff.1 x.out).1).trans x.out)
      replace or2 := Lib.hid (ownsN_below or2.out c8)
      replace y := Lib.hid ((c8.block v7.heap.size (Array.getElem?_eq_some_iff.1 y.out).1).trans y.out)
      replace z1 := Lib.hid (Nat.le_trans z1.out c8.size)
      replace z5 := Lib.hid (Nat.le_trans z5.out c8.size)
      replace z2 := Lib.hid (Nat.le_trans z2.out c8.size)
      replace d := Lib.hid (d.out.trans (c8.mono d.out.size))
      clear c8
      obtain ⟨ga, gcap, rfl⟩ := ints_len (ownsN_ints og)
      replace og := Lib.hid og
      go_wp2_with fail
      refine (HG.out _ _ _ (ownsN_ints og.out) (ints_below w0.out d.out)).mono ?_
      rintro e v9 ⟨rfl, c9⟩
      replace oc2 := Lib.hid (ownsC_below oc2.out c9)
      replace on2 := Lib.hid (ownsN_below on2.out c9)
      replace x := Lib.hid ((c9.block v6.heap.size (Array.getElem?_eq_some_iff.1 x.out).1).trans x.out)
      replace or2 := Lib.hid (ownsN_below or2.out c9)
      replace y := Lib.hid ((c9.block v7.heap.size (Array.getElem?_eq_some_iff.1 y.out).1).trans y.out)
      replace og := Lib.hid (ownsN_below og.out c9)
      replace z1 := Lib.hid (Nat.le_trans z1.out c9.size)
      replace z5 := Lib.hid (Nat.le_trans z5.out c9.size)
      replace z2 := Lib.hid (Nat.le_trans z2.out c9.size)
      replace d := Lib.hid (d.out.trans (c9.mono d.out.size))
      clear c9
      go_wp2
      have p_x_0 := (cell_of_row v9 _ 0 _ _ _ x.out).trans (show _ = some (Value.int .i64 id) from rfl)
      have p_x_1 := (cell_of_row v9 _ 1 _ _ _ x.out).trans (show _ = some (Value.int .i64 tn) from rfl)
      have p_x_2 := (cell_of_row v9 _ 2 _ _ _ x.out).trans (show _ = some (Value.slice ca2 cs.length cp2) from rfl)
      have p_x_3 := (cell_of_row v9 _ 3 _ _ _ x.out).trans (show _ = some (Value.slice oa2 os.length op2) from rfl)
      have g_q := (d.out.block w.heap.size (Array.getElem?_eq_some_iff.1 q.out).1).trans q.out
      have p_q_0 := (cell_of_row v9 _ 0 _ _ _ g_q).trans (show _ = some (Value.int .i64 id) from rfl)
      have p_q_1 := (cell_of_row v9 _ 1 _ _ _ g_q).trans (show _ = some (Value.int .i64 tn) from rfl)
      have p_q_2 := (cell_of_row v9 _ 2 _ _ _ g_q).trans (show _ = some (Value.slice ca cs.length ccap) from rfl)
      have p_q_3 := (cell_of_row v9 _ 3 _ _ _ g_q).trans (show _ = some (Value.slice oa os.length ocap) from rfl)
      clear g_q
      refine wp_region_held_drew (S := fun w' => w'.cell? ⟨v6.heap.size, 0, none⟩ = some (.int .i64 id) ∧ w'.cell? ⟨v6.heap.size, 1, none⟩ = some (.int .i64 tn) ∧ w'.cell? ⟨v6.heap.size, 2, none⟩ = some (.slice ca2 cs.length cp2) ∧ w'.cell? ⟨v6.heap.size, 3, none⟩ = some (.slice oa2 os.length op2) ∧ w'.cell? ⟨w.heap.size, 0, none⟩ = some (.int .i64 id) ∧ w'.cell? ⟨w.heap.size, 1, none⟩ = some (.int .i64 tn) ∧ w'.cell? ⟨w.heap.size, 2, none⟩ = some (.slice ca cs.length ccap) ∧ w'.cell? ⟨w.heap.size, 3, none⟩ = some (.slice oa os.length ocap)) (by kernel_rfl) ⟨p_x_0, p_x_1, p_x_2, p_x_3, p_q_0, p_q_1, p_q_2, p_q_3⟩ (fun hHeld => ?_)
      clear p_x_0 p_x_1 p_x_2 p_x_3 p_q_0 p_q_1 p_q_2 p_q_3
      have cdr : Below v9.heap.size v9 v9.drew := below_drew (Below.refl _ _)
      replace oc2 := Lib.hid (ownsC_below oc2.out cdr)
      replace on2 := Lib.hid (ownsN_below on2.out cdr)
      replace x := Lib.hid ((cdr.block v6.heap.size (Array.getElem?_eq_some_iff.1 x.out).1).trans x.out)
      replace or2 := Lib.hid (ownsN_below or2.out cdr)
      replace y := Lib.hid ((cdr.block v7.heap.size (Array.getElem?_eq_some_iff.1 y.out).1).trans y.out)
      replace og := Lib.hid (ownsN_below og.out cdr)
      replace z1 := Lib.hid (Nat.le_trans z1.out cdr.size)
      replace z5 := Lib.hid (Nat.le_trans z5.out cdr.size)
      replace z2 := Lib.hid (Nat.le_trans z2.out cdr.size)
      replace d := Lib.hid (d.out.trans (cdr.mono d.out.size))
      clear cdr
      refine take_runs (i := 0) (v := ?_) (by simp only [List.getElem?_toArray, List.getElem?_cons_succ, List.getElem?_cons_zero]; rfl) (by kernel_rfl) (by kernel_rfl) (by kernel_rfl) rfl (by exact fun _ _ _ h => h) (by rfl) ?_ (by assumption) ?_
      rotate_left
      · intro w hSw; (try dsimp only at hSw); go_simp; try (with_reducible rfl)
      try simp only [Act.put, List.setIfInBounds_toArray, List.set_cons_zero, List.set_cons_succ]
      refine take_runs (i := 1) (v := ?_) (by simp only [List.getElem?_toArray, List.getElem?_cons_succ, List.getElem?_cons_zero]; rfl) (by kernel_rfl) (by kernel_rfl) (by kernel_rfl) rfl (by exact fun _ _ _ h => h) (by rfl) ?_ (by assumption) ?_
      rotate_left
      · intro w hSw; (try dsimp only at hSw); go_simp; try (with_reducible rfl)
      try simp only [Act.put, List.setIfInBounds_toArray, List.set_cons_zero, List.set_cons_succ]
      refine wpAnyH_ready (rs := [2]) (by kernel_rfl) (by simp) ?_
      refine AllReadyH.cons (o := _) (by simp only [List.getElem?_toArray, List.getElem?_cons_succ, List.getElem?_cons_zero]; rfl) (fun K hK => ?_) AllReadyH.nil
      go_simp
      refine (HT.out _ _ _ (condsR_below hc.out d.out) (ints_below ho.out d.out)).mono ?_
      rintro e v10 ⟨cv3, ov3, rfl, oc3, on3, dq3, c10⟩
      replace oc2 := Lib.hid (ownsC_below oc2.out c10)
      replace on2 := Lib.hid (ownsN_below on2.out c10)
      replace x := Lib.hid ((c10.block v6.heap.size (Array.getElem?_eq_some_iff.1 x.out).1).trans x.out)
      replace or2 := Lib.hid (ownsN_below or2.out c10)
      replace y := Lib.hid ((c10.block v7.heap.size (Array.getElem?_eq_some_iff.1 y.out).1).trans y.out)
      replace og := Lib.hid (ownsN_below og.out c10)
      replace z1 := Lib.hid (Nat.le_trans z1.out c10.size)
      replace z5 := Lib.hid (Nat.le_trans z5.out c10.size)
      replace z2 := Lib.hid (Nat.le_trans z2.out c10.size)
      replace d := Lib.hid (d.out.trans (c10.mono d.out.size))
      clear c10
      obtain ⟨ca3, cp3, rfl⟩ := ownsC_len oc3
      obtain ⟨oa3, op3, rfl⟩ := ints_len (ownsN_ints on3)
      replace oc3 := Lib.hid oc3
      replace on3 := Lib.hid on3
      replace dq3 := Lib.hid dq3
      have p_x_0 := (cell_of_row v10 _ 0 _ _ _ x.out).trans (show _ = some (Value.int .i64 id) from rfl)
      have p_x_1 := (cell_of_row v10 _ 1 _ _ _ x.out).trans (show _ = some (Value.int .i64 tn) from rfl)
      have p_x_2 := (cell_of_row v10 _ 2 _ _ _ x.out).trans (show _ = some (Value.slice ca2 cs.length cp2) from rfl)
      have p_x_3 := (cell_of_row v10 _ 3 _ _ _ x.out).trans (show _ = some (Value.slice oa2 os.length op2) from rfl)
      have g_q := (d.out.block w.heap.size (Array.getElem?_eq_some_iff.1 q.out).1).trans q.out
      have p_q_0 := (cell_of_row v10 _ 0 _ _ _ g_q).trans (show _ = some (Value.int .i64 id) from rfl)
      have p_q_1 := (cell_of_row v10 _ 1 _ _ _ g_q).trans (show _ = some (Value.int .i64 tn) from rfl)
      have p_q_2 := (cell_of_row v10 _ 2 _ _ _ g_q).trans (show _ = some (Value.slice ca cs.length ccap) from rfl)
      have p_q_3 := (cell_of_row v10 _ 3 _ _ _ g_q).trans (show _ = some (Value.slice oa os.length ocap) from rfl)
      clear g_q
      refine hK.out _ _ ⟨p_x_0, p_x_1, p_x_2, p_x_3, p_q_0, p_q_1, p_q_2, p_q_3⟩ (fun hHeld => ?_)
      clear p_x_0 p_x_1 p_x_2 p_x_3 p_q_0 p_q_1 p_q_2 p_q_3
      clear hK K
      try simp only [Act.put, List.setIfInBounds_toArray, List.set_cons_zero, List.set_cons_succ]
      refine wpAnyH_ready (rs := [3]) (by kernel_rfl) (by simp) ?_
      refine AllReadyH.cons (o := _) (by simp only [List.getElem?_toArray, List.getElem?_cons_succ, List.getElem?_cons_zero]; rfl) (fun K hK => ?_) AllReadyH.nil
      go_simp
      refine (HE.out _ _ _ _ _ (ownsC_conds oc2.out) (ownsC_conds oc3.out) (ownsN_ints on2.out) (ownsN_ints on3.out)).mono ?_
      rintro e v11 ⟨rfl, c11⟩
      replace oc2 := Lib.hid (ownsC_below oc2.out c11)
      replace on2 := Lib.hid (ownsN_below on2.out c11)
      replace x := Lib.hid ((c11.block v6.heap.size (Array.getElem?_eq_some_iff.1 x.out).1).trans x.out)
      replace or2 := Lib.hid (ownsN_below or2.out c11)
      replace y := Lib.hid ((c11.block v7.heap.size (Array.getElem?_eq_some_iff.1 y.out).1).trans y.out)
      replace og := Lib.hid (ownsN_below og.out c11)
      replace oc3 := Lib.hid (ownsC_below oc3.out c11)
      replace on3 := Lib.hid (ownsN_below on3.out c11)
      replace z1 := Lib.hid (Nat.le_trans z1.out c11.size)
      replace z5 := Lib.hid (Nat.le_trans z5.out c11.size)
      replace z2 := Lib.hid (Nat.le_trans z2.out c11.size)
      replace d := Lib.hid (d.out.trans (c11.mono d.out.size))
      clear c11
      have p_x_0 := (cell_of_row v11 _ 0 _ _ _ x.out).trans (show _ = some (Value.int .i64 id) from rfl)
      have p_x_1 := (cell_of_row v11 _ 1 _ _ _ x.out).trans (show _ = some (Value.int .i64 tn) from rfl)
      have p_x_2 := (cell_of_row v11 _ 2 _ _ _ x.out).trans (show _ = some (Value.slice ca2 cs.length cp2) from rfl)
      have p_x_3 := (cell_of_row v11 _ 3 _ _ _ x.out).trans (show _ = some (Value.slice oa2 os.length op2) from rfl)
      have g_q := (d.out.block w.heap.size (Array.getElem?_eq_some_iff.1 q.out).1).trans q.out
      have p_q_0 := (cell_of_row v11 _ 0 _ _ _ g_q).trans (show _ = some (Value.int .i64 id) from rfl)
      have p_q_1 := (cell_of_row v11 _ 1 _ _ _ g_q).trans (show _ = some (Value.int .i64 tn) from rfl)
      have p_q_2 := (cell_of_row v11 _ 2 _ _ _ g_q).trans (show _ = some (Value.slice ca cs.length ccap) from rfl)
      have p_q_3 := (cell_of_row v11 _ 3 _ _ _ g_q).trans (show _ = some (Value.slice oa os.length ocap) from rfl)
      clear g_q
      refine hK.out _ _ ⟨p_x_0, p_x_1, p_x_2, p_x_3, p_q_0, p_q_1, p_q_2, p_q_3⟩ (fun hHeld => ?_)
      clear p_x_0 p_x_1 p_x_2 p_x_3 p_q_0 p_q_1 p_q_2 p_q_3
      clear hK K
      try simp only [Act.put, List.setIfInBounds_toArray, List.set_cons_zero, List.set_cons_succ]
      refine take_runs (i := 4) (v := ?_) (by simp only [List.getElem?_toArray, List.getElem?_cons_succ, List.getElem?_cons_zero]; rfl) (by kernel_rfl) (by kernel_rfl) (by kernel_rfl) rfl (by exact fun _ _ _ h => h) (by rfl) ?_ (by assumption) ?_
      rotate_left
      · intro w hSw; (try dsimp only at hSw); go_simp; try (with_reducible rfl)
      try simp only [Act.put, List.setIfInBounds_toArray, List.set_cons_zero, List.set_cons_succ]
      refine wpAnyH_done (by kernel_rfl) ?_ _
      clear hHeld
      clear oc3
      clear on3
      clear dq3
      go_wp2
      have p_y_0 := (cell_of_row v11 _ 0 _ _ _ y.out).trans (show _ = some (Value.int .i64 rid) from rfl)
      have p_y_1 := (cell_of_row v11 _ 1 _ _ _ y.out).trans (show _ = some (Value.slice ra2 xs.length rp2) from rfl)
      have g_r := (d.out.block (w.heap.size + 1) (Array.getElem?_eq_some_iff.1 r.out).1).trans r.out
      have p_r_0 := (cell_of_row v11 _ 0 _ _ _ g_r).trans (show _ = some (Value.int .i64 rid) from rfl)
      have p_r_1 := (cell_of_row v11 _ 1 _ _ _ g_r).trans (show _ = some (Value.slice va xs.length vcap) from rfl)
      clear g_r
      refine wp_region_held_drew (S := fun w' => w'.cell? ⟨v7.heap.size, 0, none⟩ = some (.int .i64 rid) ∧ w'.cell? ⟨v7.heap.size, 1, none⟩ = some (.slice ra2 xs.length rp2) ∧ w'.cell? ⟨(w.heap.size + 1), 0, none⟩ = some (.int .i64 rid) ∧ w'.cell? ⟨(w.heap.size + 1), 1, none⟩ = some (.slice va xs.length vcap)) (by kernel_rfl) ⟨p_y_0, p_y_1, p_r_0, p_r_1⟩ (fun hHeld => ?_)
      clear p_y_0 p_y_1 p_r_0 p_r_1
      have cdr : Below v11.heap.size v11 v11.drew := below_drew (Below.refl _ _)
      replace oc2 := Lib.hid (ownsC_below oc2.out cdr)
      replace on2 := Lib.hid (ownsN_below on2.out cdr)
      replace x := Lib.hid ((cdr.block v6.heap.size (Array.getElem?_eq_some_iff.1 x.out).1).trans x.out)
      replace or2 := Lib.hid (ownsN_below or2.out cdr)
      replace y := Lib.hid ((cdr.block v7.heap.size (Array.getElem?_eq_some_iff.1 y.out).1).trans y.out)
      replace og := Lib.hid (ownsN_below og.out cdr)
      replace z1 := Lib.hid (Nat.le_trans z1.out cdr.size)
      replace z5 := Lib.hid (Nat.le_trans z5.out cdr.size)
      replace z2 := Lib.hid (Nat.le_trans z2.out cdr.size)
      replace d := Lib.hid (d.out.trans (cdr.mono d.out.size))
      clear cdr
      refine take_runs (i := 0) (v := ?_) (by simp only [List.getElem?_toArray, List.getElem?_cons_succ, List.getElem?_cons_zero]; rfl) (by kernel_rfl) (by kernel_rfl) (by kernel_rfl) rfl (by exact fun _ _ _ h => h) (by rfl) ?_ (by assumption) ?_
      rotate_left
      · intro w hSw; (try dsimp only at hSw); go_simp; try (with_reducible rfl)
      try simp only [Act.put, List.setIfInBounds_toArray, List.set_cons_zero, List.set_cons_succ]
      refine take_runs (i := 1) (v := ?_) (by simp only [List.getElem?_toArray, List.getElem?_cons_succ, List.getElem?_cons_zero]; rfl) (by kernel_rfl) (by kernel_rfl) (by kernel_rfl) rfl (by exact fun _ _ _ h => h) (by rfl) ?_ (by assumption) ?_
      rotate_left
      · intro w hSw; (try dsimp only at hSw); go_simp; try (with_reducible rfl)
      try simp only [Act.put, List.setIfInBounds_toArray, List.set_cons_zero, List.set_cons_succ]
      refine wpAnyH_ready (rs := [2]) (by kernel_rfl) (by simp) ?_
      refine AllReadyH.cons (o := _) (by simp only [List.getElem?_toArray, List.getElem?_cons_succ, List.getElem?_cons_zero]; rfl) (fun K hK => ?_) AllReadyH.nil
      go_simp
      refine (HR.out _ _ (ints_below hv.out d.out)).mono ?_
      rintro e v12 ⟨rv3, rfl, or3, c12⟩
      replace oc2 := Lib.hid (ownsC_below oc2.out c12)
      replace on2 := Lib.hid (ownsN_below on2.out c12)
      replace x := Lib.hid ((c12.block v6.heap.size (Array.getElem?_eq_some_iff.1 x.out).1).trans x.out)
      replace or2 := Lib.hid (ownsN_below or2.out c12)
      replace y := Lib.hid ((c12.block v7.heap.size (Array.getElem?_eq_some_iff.1 y.out).1).trans y.out)
      replace og := Lib.hid (ownsN_below og.out c12)
      replace z1 := Lib.hid (Nat.le_trans z1.out c12.size)
      replace z5 := Lib.hid (Nat.le_trans z5.out c12.size)
      replace z2 := Lib.hid (Nat.le_trans z2.out c12.size)
      replace d := Lib.hid (d.out.trans (c12.mono d.out.size))
      clear c12
      obtain ⟨ra3, rp3, rfl⟩ := ints_len (ownsN_ints or3)
      replace or3 := Lib.hid or3
      have p_y_0 := (cell_of_row v12 _ 0 _ _ _ y.out).trans (show _ = some (Value.int .i64 rid) from rfl)
      have p_y_1 := (cell_of_row v12 _ 1 _ _ _ y.out).trans (show _ = some (Value.slice ra2 xs.length rp2) from rfl)
      have g_r := (d.out.block (w.heap.size + 1) (Array.getElem?_eq_some_iff.1 r.out).1).trans r.out
      have p_r_0 := (cell_of_row v12 _ 0 _ _ _ g_r).trans (show _ = some (Value.int .i64 rid) from rfl)
      have p_r_1 := (cell_of_row v12 _ 1 _ _ _ g_r).trans (show _ = some (Value.slice va xs.length vcap) from rfl)
      clear g_r
      refine hK.out _ _ ⟨p_y_0, p_y_1, p_r_0, p_r_1⟩ (fun hHeld => ?_)
      clear p_y_0 p_y_1 p_r_0 p_r_1
      clear hK K
      try simp only [Act.put, List.setIfInBounds_toArray, List.set_cons_zero, List.set_cons_succ]
      refine wpAnyH_ready (rs := [3]) (by kernel_rfl) (by simp) ?_
      refine AllReadyH.cons (o := _) (by simp only [List.getElem?_toArray, List.getElem?_cons_succ, List.getElem?_cons_zero]; rfl) (fun K hK => ?_) AllReadyH.nil
      go_simp
      refine (HF.out _ _ _ (ownsN_ints or2.out) (ownsN_ints or3.out)).mono ?_
      rintro e v13 ⟨rfl, c13⟩
      replace oc2 := Lib.hid (ownsC_below oc2.out c13)
      replace on2 := Lib.hid (ownsN_below on2.out c13)
      replace x := Lib.hid ((c13.block v6.heap.size (Array.getElem?_eq_some_iff.1 x.out).1).trans x.out)
      replace or2 := Lib.hid (ownsN_below or2.out c13)
      replace y := Lib.hid ((c13.block v7.heap.size (Array.getElem?_eq_some_iff.1 y.out).1).trans y.out)
      replace og := Lib.hid (ownsN_below og.out c13)
      replace or3 := Lib.hid (ownsN_below or3.out c13)
      replace z1 := Lib.hid (Nat.le_trans z1.out c13.size)
      replace z5 := Lib.hid (Nat.le_trans z5.out c13.size)
      replace z2 := Lib.hid (Nat.le_trans z2.out c13.size)
      replace d := Lib.hid (d.out.trans (c13.mono d.out.size))
      clear c13
      have p_y_0 := (cell_of_row v13 _ 0 _ _ _ y.out).trans (show _ = some (Value.int .i64 rid) from rfl)
      have p_y_1 := (cell_of_row v13 _ 1 _ _ _ y.out).trans (show _ = some (Value.slice ra2 xs.length rp2) from rfl)
      have g_r := (d.out.block (w.heap.size + 1) (Array.getElem?_eq_some_iff.1 r.out).1).trans r.out
      have p_r_0 := (cell_of_row v13 _ 0 _ _ _ g_r).trans (show _ = some (Value.int .i64 rid) from rfl)
      have p_r_1 := (cell_of_row v13 _ 1 _ _ _ g_r).trans (show _ = some (Value.slice va xs.length vcap) from rfl)
      clear g_r
      refine hK.out _ _ ⟨p_y_0, p_y_1, p_r_0, p_r_1⟩ (fun hHeld => ?_)
      clear p_y_0 p_y_1 p_r_0 p_r_1
      clear hK K
      try simp only [Act.put, List.setIfInBounds_toArray, List.set_cons_zero, List.set_cons_succ]
      refine take_runs (i := 4) (v := ?_) (by simp only [List.getElem?_toArray, List.getElem?_cons_succ, List.getElem?_cons_zero]; rfl) (by kernel_rfl) (by kernel_rfl) (by kernel_rfl) rfl (by exact fun _ _ _ h => h) (by rfl) ?_ (by assumption) ?_
      rotate_left
      · intro w hSw; (try dsimp only at hSw); go_simp; try (with_reducible rfl)
      try simp only [Act.put, List.setIfInBounds_toArray, List.set_cons_zero, List.set_cons_succ]
      refine wpAnyH_done (by kernel_rfl) ?_ _
      clear hHeld
      clear or3
      have p_x_0 := (cell_of_row v13 _ 0 _ _ _ x.out).trans (show _ = some (Value.int .i64 id) from rfl)
      have p_x_1 := (cell_of_row v13 _ 1 _ _ _ x.out).trans (show _ = some (Value.int .i64 tn) from rfl)
      have p_x_2 := (cell_of_row v13 _ 2 _ _ _ x.out).trans (show _ = some (Value.slice ca2 cs.length cp2) from rfl)
      have p_x_3 := (cell_of_row v13 _ 3 _ _ _ x.out).trans (show _ = some (Value.slice oa2 os.length op2) from rfl)
      go_wp2_with fail
      clear p_x_0 p_x_1 p_x_2 p_x_3
      refine (HMQ.out _ _ v5.heap.size v6.heap.size _ oc2.out on2.out dq2.out hlc.out hlo.out z1.out).mono ?_
      rintro e v14 ⟨rfl, _, _, k14⟩
      clear oc2
      clear on2
      clear x
      replace or2 := Lib.hid (ownsN_only or2.out k14 z1a.out)
      replace y := Lib.hid ((k14.block v7.heap.size (Array.getElem?_eq_some_iff.1 y.out).1 (Or.inr z1b.out)).trans y.out)
      replace og := Lib.hid (ownsN_only og.out k14 z1c.out)
      replace z1 := Lib.hid (Nat.le_trans z1.out k14.size)
      replace z5 := Lib.hid (Nat.le_trans z5.out k14.size)
      replace z2 := Lib.hid (Nat.le_trans z2.out k14.size)
      replace d := Lib.hid (only_below d.out k14 (Nat.le_refl _) d.out.size)
      clear k14 dq2 hlc hlo z1 z1a z1b z1c
      have p_y_0 := (cell_of_row v14 _ 0 _ _ _ y.out).trans (show _ = some (Value.int .i64 rid) from rfl)
      have p_y_1 := (cell_of_row v14 _ 1 _ _ _ y.out).trans (show _ = some (Value.slice ra2 xs.length rp2) from rfl)
      go_wp2_with fail
      clear p_y_0 p_y_1
      refine (HMK.out _ W5.heap.size v7.heap.size _ or2.out hlr.out z5.out).mono ?_
      rintro e v15 ⟨rfl, _, k15⟩
      clear or2
      clear y
      replace og := Lib.hid (ownsN_only og.out k15 z2c.out)
      replace z5 := Lib.hid (Nat.le_trans z5.out k15.size)
      replace z2 := Lib.hid (Nat.le_trans z2.out k15.size)
      replace d := Lib.hid (only_below d.out k15 zUr.out d.out.size)
      clear k15 hlr z2 z2c z5
      go_wp2_with fail
      refine (HG.out _ _ _ (ownsN_ints og.out) (ints_below w0.out d.out)).mono ?_
      rintro e v16 ⟨rfl, c16⟩
      replace og := Lib.hid (ownsN_below og.out c16)
      replace d := Lib.hid (d.out.trans (c16.mono d.out.size))
      clear c16
      go_wp2_with fail
      refine (HMG.out _ W6.heap.size _ og.out).mono ?_
      rintro e v17 ⟨rfl, om, g17⟩
      have k17 := only_grown (B := W6.heap.size) (hi := v16.heap.size) g17 (fun b hb => og.out.lt b hb)
      clear g17
      clear og
      replace d := Lib.hid (only_below d.out k17 zUg.out d.out.size)
      clear k17
      have og := Lib.hid om
      clear om
      go_wp2_with fail
      refine (HHG.out _ _ (ownsN_ints og.out)).mono ?_
      rintro e v18 ⟨rfl, c18⟩
      replace og := Lib.hid (ownsN_below og.out c18)
      replace d := Lib.hid (d.out.trans (c18.mono d.out.size))
      clear c18
      go_wp2
      have g_q := (d.out.block w.heap.size (Array.getElem?_eq_some_iff.1 q.out).1).trans q.out
      have p_q_0 := (cell_of_row v18 _ 0 _ _ _ g_q).trans (show _ = some (Value.int .i64 id) from rfl)
      have p_q_1 := (cell_of_row v18 _ 1 _ _ _ g_q).trans (show _ = some (Value.int .i64 tn) from rfl)
      have p_q_2 := (cell_of_row v18 _ 2 _ _ _ g_q).trans (show _ = some (Value.slice ca cs.length ccap) from rfl)
      have p_q_3 := (cell_of_row v18 _ 3 _ _ _ g_q).trans (show _ = some (Value.slice oa os.length ocap) from rfl)
      clear g_q
      have g_r := (d.out.block (w.heap.size + 1) (Array.getElem?_eq_some_iff.1 r.out).1).trans r.out
      have p_r_0 := (cell_of_row v18 _ 0 _ _ _ g_r).trans (show _ = some (Value.int .i64 rid) from rfl)
      have p_r_1 := (cell_of_row v18 _ 1 _ _ _ g_r).trans (show _ = some (Value.slice va xs.length vcap) from rfl)
      clear g_r
      refine wp_region_held_drew (S := fun w' => w'.cell? ⟨w.heap.size, 0, none⟩ = some (.int .i64 id) ∧ w'.cell? ⟨w.heap.size, 1, none⟩ = some (.int .i64 tn) ∧ w'.cell? ⟨w.heap.size, 2, none⟩ = some (.slice ca cs.length ccap) ∧ w'.cell? ⟨w.heap.size, 3, none⟩ = some (.slice oa os.length ocap) ∧ w'.cell? ⟨(w.heap.size + 1), 0, none⟩ = some (.int .i64 rid) ∧ w'.cell? ⟨(w.heap.size + 1), 1, none⟩ = some (.slice va xs.length vcap)) (by kernel_rfl) ⟨p_q_0, p_q_1, p_q_2, p_q_3, p_r_0, p_r_1⟩ (fun hHeld => ?_)
      clear p_q_0 p_q_1 p_q_2 p_q_3 p_r_0 p_r_1
      have cdr : Below v18.heap.size v18 v18.drew := below_drew (Below.refl _ _)
      replace og := Lib.hid (ownsN_below og.out cdr)
      replace d := Lib.hid (d.out.trans (cdr.mono d.out.size))
      clear cdr
      refine take_runs (i := 0) (v := ?_) (by simp only [List.getElem?_toArray, List.getElem?_cons_succ, List.getElem?_cons_zero]; rfl) (by kernel_rfl) (by kernel_rfl) (by kernel_rfl) rfl (by exact fun _ _ _ h => h) (by rfl) ?_ (by assumption) ?_
      rotate_left
      · intro w hSw; (try dsimp only at hSw); go_simp; try (with_reducible rfl)
      try simp only [Act.put, List.setIfInBounds_toArray, List.set_cons_zero, List.set_cons_succ]
      refine take_runs (i := 2) (v := ?_) (by simp only [List.getElem?_toArray, List.getElem?_cons_succ, List.getElem?_cons_zero]; rfl) (by kernel_rfl) (by kernel_rfl) (by kernel_rfl) rfl (by exact fun _ _ _ h => h) (by rfl) ?_ (by assumption) ?_
      rotate_left
      · intro w hSw; (try dsimp only at hSw); go_simp; try (with_reducible rfl)
      try simp only [Act.put, List.setIfInBounds_toArray, List.set_cons_zero, List.set_cons_succ]
      refine wpAnyH_ready (rs := [1]) (by kernel_rfl) (by simp) ?_
      refine AllReadyH.cons (o := _) (by simp only [List.getElem?_toArray, List.getElem?_cons_succ, List.getElem?_cons_zero]; rfl) (fun K hK => ?_) AllReadyH.nil
      go_simp
      refine (HT.out _ _ _ (condsR_below hc.out d.out) (ints_below ho.out d.out)).mono ?_
      rintro e v19 ⟨cv4, ov4, rfl, oc4, on4, dq4, c19⟩
      replace og := Lib.hid (ownsN_below og.out c19)
      replace d := Lib.hid (d.out.trans (c19.mono d.out.size))
      clear c19
      obtain ⟨ca4, cp4, rfl⟩ := ownsC_len oc4
      obtain ⟨oa4, op4, rfl⟩ := ints_len (ownsN_ints on4)
      replace oc4 := Lib.hid oc4
      replace on4 := Lib.hid on4
      replace dq4 := Lib.hid dq4
      have g_q := (d.out.block w.heap.size (Array.getElem?_eq_some_iff.1 q.out).1).trans q.out
      have p_q_0 := (cell_of_row v19 _ 0 _ _ _ g_q).trans (show _ = some (Value.int .i64 id) from rfl)
      have p_q_1 := (cell_of_row v19 _ 1 _ _ _ g_q).trans (show _ = some (Value.int .i64 tn) from rfl)
      have p_q_2 := (cell_of_row v19 _ 2 _ _ _ g_q).trans (show _ = some (Value.slice ca cs.length ccap) from rfl)
      have p_q_3 := (cell_of_row v19 _ 3 _ _ _ g_q).trans (show _ = some (Value.slice oa os.length ocap) from rfl)
      clear g_q
      have g_r := (d.out.block (w.heap.size + 1) (Array.getElem?_eq_some_iff.1 r.out).1).trans r.out
      have p_r_0 := (cell_of_row v19 _ 0 _ _ _ g_r).trans (show _ = some (Value.int .i64 rid) from rfl)
      have p_r_1 := (cell_of_row v19 _ 1 _ _ _ g_r).trans (show _ = some (Value.slice va xs.length vcap) from rfl)
      clear g_r
      refine hK.out _ _ ⟨p_q_0, p_q_1, p_q_2, p_q_3, p_r_0, p_r_1⟩ (fun hHeld => ?_)
      clear p_q_0 p_q_1 p_q_2 p_q_3 p_r_0 p_r_1
      clear hK K
      try simp only [Act.put, List.setIfInBounds_toArray, List.set_cons_zero, List.set_cons_succ]
      refine wpAnyH_ready (rs := [3]) (by kernel_rfl) (by simp) ?_
      refine AllReadyH.cons (o := _) (by simp only [List.getElem?_toArray, List.getElem?_cons_succ, List.getElem?_cons_zero]; rfl) (fun K hK => ?_) AllReadyH.nil
      go_simp
      refine (HR.out _ _ (ints_below hv.out d.out)).mono ?_
      rintro e v20 ⟨rv4, rfl, or4, c20⟩
      replace og := Lib.hid (ownsN_below og.out c20)
      replace oc4 := Lib.hid (ownsC_below oc4.out c20)
      replace on4 := Lib.hid (ownsN_below on4.out c20)
      replace d := Lib.hid (d.out.trans (c20.mono d.out.size))
      clear c20
      obtain ⟨ra4, rp4, rfl⟩ := ints_len (ownsN_ints or4)
      replace or4 := Lib.hid or4
      have g_q := (d.out.block w.heap.size (Array.getElem?_eq_some_iff.1 q.out).1).trans q.out
      have p_q_0 := (cell_of_row v20 _ 0 _ _ _ g_q).trans (show _ = some (Value.int .i64 id) from rfl)
      have p_q_1 := (cell_of_row v20 _ 1 _ _ _ g_q).trans (show _ = some (Value.int .i64 tn) from rfl)
      have p_q_2 := (cell_of_row v20 _ 2 _ _ _ g_q).trans (show _ = some (Value.slice ca cs.length ccap) from rfl)
      have p_q_3 := (cell_of_row v20 _ 3 _ _ _ g_q).trans (show _ = some (Value.slice oa os.length ocap) from rfl)
      clear g_q
      have g_r := (d.out.block (w.heap.size + 1) (Array.getElem?_eq_some_iff.1 r.out).1).trans r.out
      have p_r_0 := (cell_of_row v20 _ 0 _ _ _ g_r).trans (show _ = some (Value.int .i64 rid) from rfl)
      have p_r_1 := (cell_of_row v20 _ 1 _ _ _ g_r).trans (show _ = some (Value.slice va xs.length vcap) from rfl)
      clear g_r
      refine hK.out _ _ ⟨p_q_0, p_q_1, p_q_2, p_q_3, p_r_0, p_r_1⟩ (fun hHeld => ?_)
      clear p_q_0 p_q_1 p_q_2 p_q_3 p_r_0 p_r_1
      clear hK K
      try simp only [Act.put, List.setIfInBounds_toArray, List.set_cons_zero, List.set_cons_succ]
      refine wpAnyH_ready (rs := [4]) (by kernel_rfl) (by simp) ?_
      refine AllReadyH.cons (o := _) (by simp only [List.getElem?_toArray, List.getElem?_cons_succ, List.getElem?_cons_zero]; rfl) (fun K hK => ?_) AllReadyH.nil
      go_simp
      refine (HI.out _ _ _ _ (ownsC_conds oc4.out) (ownsN_ints on4.out) (ownsN_ints or4.out)).mono ?_
      rintro e v21 ⟨hv4, rfl, oh, c21⟩
      replace og := Lib.hid (ownsN_below og.out c21)
      replace oc4 := Lib.hid (ownsC_below oc4.out c21)
      replace on4 := Lib.hid (ownsN_below on4.out c21)
      replace or4 := Lib.hid (ownsN_below or4.out c21)
      replace d := Lib.hid (d.out.trans (c21.mono d.out.size))
      clear c21
      replace oh := Lib.hid oh
      have g_q := (d.out.block w.heap.size (Array.getElem?_eq_some_iff.1 q.out).1).trans q.out
      have p_q_0 := (cell_of_row v21 _ 0 _ _ _ g_q).trans (show _ = some (Value.int .i64 id) from rfl)
      have p_q_1 := (cell_of_row v21 _ 1 _ _ _ g_q).trans (show _ = some (Value.int .i64 tn) from rfl)
      have p_q_2 := (cell_of_row v21 _ 2 _ _ _ g_q).trans (show _ = some (Value.slice ca cs.length ccap) from rfl)
      have p_q_3 := (cell_of_row v21 _ 3 _ _ _ g_q).trans (show _ = some (Value.slice oa os.length ocap) from rfl)
      clear g_q
      have g_r := (d.out.block (w.heap.size + 1) (Array.getElem?_eq_some_iff.1 r.out).1).trans r.out
      have p_r_0 := (cell_of_row v21 _ 0 _ _ _ g_r).trans (show _ = some (Value.int .i64 rid) from rfl)
      have p_r_1 := (cell_of_row v21 _ 1 _ _ _ g_r).trans (show _ = some (Value.slice va xs.length vcap) from rfl)
      clear g_r
      refine hK.out _ _ ⟨p_q_0, p_q_1, p_q_2, p_q_3, p_r_0, p_r_1⟩ (fun hHeld => ?_)
      clear p_q_0 p_q_1 p_q_2 p_q_3 p_r_0 p_r_1
      clear hK K
      try simp only [Act.put, List.setIfInBounds_toArray, List.set_cons_zero, List.set_cons_succ]
      refine take_runs (i := 5) (v := ?_) (by simp only [List.getElem?_toArray, List.getElem?_cons_succ, List.getElem?_cons_zero]; rfl) (by kernel_rfl) (by kernel_rfl) (by kernel_rfl) rfl (by exact fun _ _ _ h => h) (by rfl) ?_ (by assumption) ?_
      rotate_left
      · intro w hSw; (try dsimp only at hSw); go_simp; try (with_reducible rfl)
      try simp only [Act.put, List.setIfInBounds_toArray, List.set_cons_zero, List.set_cons_succ]
      refine wpAnyH_done (by kernel_rfl) ?_ _
      clear hHeld
      clear oc4
      clear on4
      clear or4
      clear dq4
      go_wp2_with fail
      refine (HG.out _ _ _ (ownsN_ints oh.out) (ints_below w0.out d.out)).mono ?_
      rintro e v22 ⟨rfl, c22⟩
      replace og := Lib.hid (ownsN_below og.out c22)
      replace oh := Lib.hid (ownsN_below oh.out c22)
      replace d := Lib.hid (d.out.trans (c22.mono d.out.size))
      clear c22
      go_wp2_with fail
      refine (HHG.out _ _ (ownsN_ints og.out)).mono ?_
      rintro e v23 ⟨rfl, c23⟩
      replace og := Lib.hid (ownsN_below og.out c23)
      replace oh := Lib.hid (ownsN_below oh.out c23)
      replace d := Lib.hid (d.out.trans (c23.mono d.out.size))
      clear c23
      go_wp2
      go_ret
      exact ⟨rfl, HB0.out.trans ((D0.out.trans (d.out.mono D0.out.size)).mono HB0.out.size)⟩
    · have HY := Lib.hid (fun w => szRow_no rid va vcap xs.length (1048576 - (cs.length : Int) - (os.length : Int)) w (by omega) (by omega) hx)
      clear himpl hl hl2 hn hm hx h g gr q hv
      go_enter Try.func7, Try.ntmps7
      go_wp2_with fail
      generalize ((w.alloc (.cells #[.int .i64 id, .int .i64 tn, .slice ca cs.length ccap, .slice oa os.length ocap] 31)).alloc (.cells #[.int .i64 rid, .slice va xs.length vcap] 48)) = W at *
      refine (HZ.out _).mono ?_
      rintro e w1 ⟨rfl, b1⟩
      have b2 := hb0.trans (b1.mono hb0.size)
      have g1 := (b1.block (w.heap.size + 1) (Array.getElem?_eq_some_iff.1 r.out).1).trans r.out
      have p0 := (cell_of_row w1 _ 0 _ _ _ g1).trans (show _ = some (Value.int .i64 rid) from rfl)
      have p1 := (cell_of_row w1 _ 1 _ _ _ g1).trans (show _ = some (Value.slice va xs.length vcap) from rfl)
      clear g1 b1 hb0 HZ r
      go_wp2_with fail
      refine (HY.out _).mono ?_
      rintro e w2 ⟨rfl, b3⟩
      have b4 := b2.trans (b3.mono b2.size)
      go_wp2
      go_ret
      exact ⟨rfl, b4⟩
  · have HZ := Lib.hid (fun w => szQuery_no id tn ca oa ccap ocap cs.length os.length 1048576 w (by omega) (by omega) (by omega) hn hm)
    clear himpl hl hn hm hx h g gr q r hv
    go_enter Try.func7, Try.ntmps7
    go_wp2_with fail
    generalize ((w.alloc (.cells #[.int .i64 id, .int .i64 tn, .slice ca cs.length ccap, .slice oa os.length ocap] 31)).alloc (.cells #[.int .i64 rid, .slice va xs.length vcap] 48)) = W at *
    refine (HZ.out _).mono ?_
    rintro e w1 ⟨rfl, b1⟩
    have b2 := hb0.trans (b1.mono hb0.size)
    go_wp2
    go_ret
    exact ⟨rfl, b2⟩
end Go.Proofs.Yteelgogfpidcdaa
