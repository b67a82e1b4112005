/-
  The walk of the exact law of IsQuery: if the program's function answers what the specification's does, the law returns true.
-/
import Derived.Test.YteelgogfpidcdaaQuerySpec
namespace Go.Proofs.Yteelgogfpidcdaa
open Go.RowKit
set_option linter.unusedVariables false
set_option linter.unusedSimpArgs false
set_option maxHeartbeats 8000000 in
set_option maxRecDepth 100000 in
theorem law_fnExactIsQuery (id tn : Int) (cv ov : Value) (cs : List CondD) (os : List Int) (w : World) (h : CondsR w cv cs) (g : Ints w ov os) (hn : (cs.length : Int) ≤ 9223372036854775807) (hm : (os.length : Int) ≤ 9223372036854775807)
    (himpl : ∀ (cv ov : Value) (w : World), CondsR w cv cs → cs.length ≤ 1048576 → Ints w ov os → os.length ≤ 1048576 → Calls Try.prog 17 #[qV id tn cv ov] w fun e w' => e = .returned (.bool (queryB id tn cs os)) ∧ Below w.heap.size w w') :
    Calls Try.prog 4 #[qV id tn cv ov] w fun e w' => e = .returned (.bool true) ∧ Below w.heap.size w w' := by
  obtain ⟨ca, ccap, rfl⟩ := condsR_len h
  obtain ⟨oa, ocap, rfl⟩ := ints_len g
  by_cases hl : (cs.length : Int) + (os.length : Int) ≤ 1048576
  · have HN : Hid (cs.length ≤ 1048576) := Lib.hid (by omega)
    have HM : Hid (os.length ≤ 1048576) := Lib.hid (by omega)
    have HS := Lib.hid (fun cv ov w h g => specIsQuery id tn cv ov cs os w h HN.out g HM.out)
    have HI := Lib.hid (fun cv ov w h g => himpl cv ov w h HN.out g HM.out)
    have HZ := Lib.hid (fun w => szQuery_yes id tn ca oa ccap ocap cs.length os.length 1048576 w hl (by omega))
    have HT := Lib.hid (fun cv ov w h g => toQuery_any id tn cv ov cs os w h HN.out g HM.out)
    have HE := Lib.hid (fun cv cu ov ou w h h' g g' => eqQuery_same id tn cv cu ov ou cs os w h h' g g' HN.out HM.out)
    have hneg : ¬ 1048576 - (cs.length : Int) - (os.length : Int) < 0 := by omega
    have hb0 : Below w.heap.size w (w.alloc (.cells #[.int .i64 id, .int .i64 tn, .slice ca cs.length ccap, .slice oa os.length ocap] 31)) := (Below.refl _ w).alloc (Nat.le_refl _) _
    have q := Lib.hid (heap_alloc_new w (.cells #[.int .i64 id, .int .i64 tn, .slice ca cs.length ccap, .slice oa os.length ocap] 31))
    have hc := Lib.hid (condsR_below h hb0)
    have ho := Lib.hid (ints_below g hb0)
    have HB0 := Lib.hid hb0
    clear h g hn hm himpl hl hb0
    generalize queryB id tn cs os = r at *
    have hrr : (r != r) = false := by simp
    go_enter Try.func4, Try.ntmps4
    go_wp2_with fail
    generalize w.alloc (.cells #[.int .i64 id, .int .i64 tn, .slice ca cs.length ccap, .slice oa os.length ocap] 31) = W at *
    have d := Lib.hid (Below.refl W.heap.size W)
    refine (HZ.out _).mono ?_
    rintro e v1 ⟨rfl, c1⟩
    replace q := Lib.hid ((c1.block w.heap.size (Array.getElem?_eq_some_iff.1 q.out).1).trans q.out)
    replace hc := Lib.hid (condsR_below hc.out c1)
    replace ho := Lib.hid (ints_below ho.out c1)
    replace d := Lib.hid (d.out.trans (c1.mono d.out.size))
    clear c1
    have p_q_0 := (cell_of_row v1 _ 0 _ _ _ q.out).trans (show _ = some (Value.int .i64 id) from rfl)
    have p_q_1 := (cell_of_row v1 _ 1 _ _ _ q.out).trans (show _ = some (Value.int .i64 tn) from rfl)
    have p_q_2 := (cell_of_row v1 _ 2 _ _ _ q.out).trans (show _ = some (Value.slice ca cs.length ccap) from rfl)
    have p_q_3 := (cell_of_row v1 _ 3 _ _ _ q.out).trans (show _ = some (Value.slice oa os.length ocap) from rfl)
    go_wp2_with fail
    clear p_q_0 p_q_1 p_q_2 p_q_3
    refine (HT.out _ _ _ hc.out ho.out).mono ?_
    rintro e v2 ⟨cv1, ov1, rfl, oc1, on1, _, c2⟩
    replace q := Lib.hid ((c2.block w.heap.size (Array.getElem?_eq_some_iff.1 q.out).1).trans q.out)
    replace hc := Lib.hid (condsR_below hc.out c2)
    replace ho := Lib.hid (ints_below ho.out c2)
    replace d := Lib.hid (d.out.trans (c2.mono d.out.size))
    clear c2
    obtain ⟨ca1, cp1, rfl⟩ := ownsC_len oc1
    obtain ⟨oa1, op1, rfl⟩ := ints_len (ownsN_ints on1)
    replace oc1 := Lib.hid oc1
    replace on1 := Lib.hid on1
    go_wp2_with fail
    refine (HS.out _ _ _ (ownsC_conds oc1.out) (ownsN_ints on1.out)).mono ?_
    rintro e v3 ⟨rfl, c3⟩
    replace q := Lib.hid ((c3.block w.heap.size (Array.getElem?_eq_some_iff.1 q.out).1).trans q.out)
    replace hc := Lib.hid (condsR_below hc.out c3)
    replace ho := Lib.hid (ints_below ho.out c3)
    replace oc1 := Lib.hid (ownsC_below oc1.out c3)
    replace on1 := Lib.hid (ownsN_below on1.out c3)
    replace d := Lib.hid (d.out.trans (c3.mono d.out.size))
    clear c3
    clear oc1
    clear on1
    have p_q_0 := (cell_of_row v3 _ 0 _ _ _ q.out).trans (show _ = some (Value.int .i64 id) from rfl)
    have p_q_1 := (cell_of_row v3 _ 1 _ _ _ q.out).trans (show _ = some (Value.int .i64 tn) from rfl)
    have p_q_2 := (cell_of_row v3 _ 2 _ _ _ q.out).trans (show _ = some (Value.slice ca cs.length ccap) from rfl)
    have p_q_3 := (cell_of_row v3 _ 3 _ _ _ q.out).trans (show _ = some (Value.slice oa os.length ocap) from rfl)
    go_wp2_with fail
    clear p_q_0 p_q_1 p_q_2 p_q_3
    refine (HT.out _ _ _ hc.out ho.out).mono ?_
    rintro e v4 ⟨cv2, ov2, rfl, oc2, on2, _, c4⟩
    replace q := Lib.hid ((c4.block w.heap.size (Array.getElem?_eq_some_iff.1 q.out).1).trans q.out)
    replace hc := Lib.hid (condsR_below hc.out c4)
    replace ho := Lib.hid (ints_below ho.out c4)
    replace d := Lib.hid (d.out.trans (c4.mono d.out.size))
    clear c4
    obtain ⟨ca2, cp2, rfl⟩ := ownsC_len oc2
    obtain ⟨oa2, op2, rfl⟩ := ints_len (ownsN_ints on2)
    replace oc2 := Lib.hid oc2
    replace on2 := Lib.hid on2
    have hal : Below v4.heap.size v4 (v4.alloc (.cells #[.int .i64 id, .int .i64 tn, .slice ca2 cs.length cp2, .slice oa2 os.length op2] 36)) := (Below.refl _ _).alloc (Nat.le_refl _) _
    have x := Lib.hid (heap_alloc_new v4 (.cells #[.int .i64 id, .int .i64 tn, .slice ca2 cs.length cp2, .slice oa2 os.length op2] 36))
    replace q := Lib.hid ((hal.block w.heap.size (Array.getElem?_eq_some_iff.1 q.out).1).trans q.out)
    replace hc := Lib.hid (condsR_below hc.out hal)
    replace ho := Lib.hid (ints_below ho.out hal)
    replace oc2 := Lib.hid (ownsC_below oc2.out hal)
    replace on2 := Lib.hid (ownsN_below on2.out hal)
    replace d := Lib.hid (d.out.trans (hal.mono d.out.size))
    clear hal
    go_wp2_with fail
    generalize (v4.alloc (.cells #[.int .i64 id, .int .i64 tn, .slice ca2 cs.length cp2, .slice oa2 os.length op2] 36)) = W5 at *
    refine (HI.out _ _ _ (ownsC_conds oc2.out) (ownsN_ints on2.out)).mono ?_
    rintro e v5 ⟨rfl, c5⟩
    replace q := Lib.hid ((c5.block w.heap.size (Array.getElem?_eq_some_iff.1 q.out).1).trans q.out)
    replace hc := Lib.hid (condsR_below hc.out c5)
    replace ho := Lib.hid (ints_below ho.out c5)
    replace oc2 := Lib.hid (ownsC_below oc2.out c5)
    replace on2 := Lib.hid (ownsN_below on2.out c5)
    replace x := Lib.hid ((c5.block v4.heap.size (Array.getElem?_eq_some_iff.1 x.out).1).trans x.out)
    replace d := Lib.hid (d.out.trans (c5.mono d.out.size))
    clear c5
    go_wp2
    have p_x_0 := (cell_of_row v5 _ 0 _ _ _ x.out).trans (show _ = some (Value.int .i64 id) from rfl)
    have p_x_1 := (cell_of_row v5 _ 1 _ _ _ x.out).trans (show _ = some (Value.int .i64 tn) from rfl)
    have p_x_2 := (cell_of_row v5 _ 2 _ _ _ x.out).trans (show _ = some (Value.slice ca2 cs.length cp2) from rfl)
    have p_x_3 := (cell_of_row v5 _ 3 _ _ _ x.out).trans (show _ = some (Value.slice oa2 os.length op2) from rfl)
    have p_q_0 := (cell_of_row v5 _ 0 _ _ _ q.out).trans (show _ = some (Value.int .i64 id) from rfl)
    have p_q_1 := (cell_of_row v5 _ 1 _ _ _ q.out).trans (show _ = some (Value.int .i64 tn) from rfl)
    have p_q_2 := (cell_of_row v5 _ 2 _ _ _ q.out).trans (show _ = some (Value.slice ca cs.length ccap) from rfl)
    have p_q_3 := (cell_of_row v5 _ 3 _ _ _ q.out).trans (show _ = some (Value.slice oa os.length ocap) from rfl)
    refine wp_region_held_drew (S := fun w' => w'.cell? ⟨v4.heap.size, 0, none⟩ = some (.int .i64 id) ∧ w'.cell? ⟨v4.heap.size, 1, none⟩ = some (.int .i64 tn) ∧ w'.cell? ⟨v4.heap.size, 2, none⟩ = some (.slice ca2 cs.length cp2) ∧ w'.cell? ⟨v4.heap.size, 3, none⟩ = some (.slice oa2 os.length op2) ∧ w'.cell? ⟨w.heap.size, 0, none⟩ = some (.int .i64 id) ∧ w'.cell? ⟨w.heap.size, 1, none⟩ = some (.int .i64 tn) ∧ w'.cell? ⟨w.heap.size, 2, none⟩ = some (.slice ca cs.length ccap) ∧ w'.cell? ⟨w.heap.size, 3, none⟩ = some (.slice oa os.length ocap)) (by kernel_rfl) ⟨p_x_0, p_x_1, p_x_2, p_x_3, p_q_0, p_q_1, p_q_2, p_q_3⟩ (fun hHeld => ?_)
    clear p_x_0 p_x_1 p_x_2 p_x_3 p_q_0 p_q_1 p_q_2 p_q_3
    have cdr : Below v5.heap.size v5 v5.drew := below_drew (Below.refl _ _)
    replace q := Lib.hid ((cdr.block w.heap.size (Array.getElem?_eq_some_iff.1 q.out).1).trans q.out)
    replace hc := Lib.hid (condsR_below hc.out cdr)
    replace ho := Lib.hid (ints_below ho.out cdr)
    replace oc2 := Lib.hid (ownsC_below oc2.out cdr)
    replace on2 := Lib.hid (ownsN_below on2.out cdr)
    replace x := Lib.hid ((cdr.block v4.heap.size (Array.getElem?_eq_some_iff.1 x.out).1).trans x.out)
    replace d := Lib.hid (d.out.trans (cdr.mono d.out.size))
    clear cdr
    refine take_runs (i := 0) (v := ?_) (by simp only [List.getElem?_toArray, List.getElem?_cons_succ, List.getElem?_cons_zero]; rfl) (by kernel_rfl) (by kernel_rfl) (by kernel_rfl) rfl (by exact fun _ _ _ h => h) (by rfl) ?_ (by assumption) ?_
    rotate_left
    · intro w hSw; (try dsimp only at hSw); go_simp; try (with_reducible rfl)
    try simp only [Act.put, List.setIfInBounds_toArray, List.set_cons_zero, List.set_cons_succ]
    refine take_runs (i := 1) (v := ?_) (by simp only [List.getElem?_toArray, List.getElem?_cons_succ, List.getElem?_cons_zero]; rfl) (by kernel_rfl) (by kernel_rfl) (by kernel_rfl) rfl (by exact fun _ _ _ h => h) (by rfl) ?_ (by assumption) ?_
    rotate_left
    · intro w hSw; (try dsimp only at hSw); go_simp; try (with_reducible rfl)
    try simp only [Act.put, List.setIfInBounds_toArray, List.set_cons_zero, List.set_cons_succ]
    refine wpAnyH_ready (rs := [2]) (by kernel_rfl) (by simp) ?_
    refine AllReadyH.cons (o := _) (by simp only [List.getElem?_toArray, List.getElem?_cons_succ, List.getElem?_cons_zero]; rfl) (fun K hK => ?_) AllReadyH.nil
    go_simp
    refine (HT.out _ _ _ hc.out ho.out).mono ?_
    rintro e v6 ⟨cv3, ov3, rfl, oc3, on3, _, c6⟩
    replace q := Lib.hid ((c6.block w.heap.size (Array.getElem?_eq_some_iff.1 q.out).1).trans q.out)
    replace hc := Lib.hid (condsR_below hc.out c6)
    replace ho := Lib.hid (ints_below ho.out c6)
    replace oc2 := Lib.hid (ownsC_below oc2.out c6)
    replace on2 := Lib.hid (ownsN_below on2.out c6)
    replace x := Lib.hid ((c6.block v4.heap.size (Array.getElem?_eq_some_iff.1 x.out).1).trans x.out)
    replace d := Lib.hid (d.out.trans (c6.mono d.out.size))
    clear c6
    obtain ⟨ca3, cp3, rfl⟩ := ownsC_len oc3
    obtain ⟨oa3, op3, rfl⟩ := ints_len (ownsN_ints on3)
    replace oc3 := Lib.hid oc3
    replace on3 := Lib.hid on3
    have p_x_0 := (cell_of_row v6 _ 0 _ _ _ x.out).trans (show _ = some (Value.int .i64 id) from rfl)
    have p_x_1 := (cell_of_row v6 _ 1 _ _ _ x.out).trans (show _ = some (Value.int .i64 tn) from rfl)
    have p_x_2 := (cell_of_row v6 _ 2 _ _ _ x.out).trans (show _ = some (Value.slice ca2 cs.length cp2) from rfl)
    have p_x_3 := (cell_of_row v6 _ 3 _ _ _ x.out).trans (show _ = some (Value.slice oa2 os.length op2) from rfl)
    have p_q_0 := (cell_of_row v6 _ 0 _ _ _ q.out).trans (show _ = some (Value.int .i64 id) from rfl)
    have p_q_1 := (cell_of_row v6 _ 1 _ _ _ q.out).trans (show _ = some (Value.int .i64 tn) from rfl)
    have p_q_2 := (cell_of_row v6 _ 2 _ _ _ q.out).trans (show _ = some (Value.slice ca cs.length ccap) from rfl)
    have p_q_3 := (cell_of_row v6 _ 3 _ _ _ q.out).trans (show _ = some (Value.slice oa os.length ocap) from rfl)
    refine hK.out _ _ ⟨p_x_0, p_x_1, p_x_2, p_x_3, p_q_0, p_q_1, p_q_2, p_q_3⟩ (fun hHeld => ?_)
    clear p_x_0 p_x_1 p_x_2 p_x_3 p_q_0 p_q_1 p_q_2 p_q_3
    clear hK K
    try simp only [Act.put, List.setIfInBounds_toArray, List.set_cons_zero, List.set_cons_succ]
    refine wpAnyH_ready (rs := [3]) (by kernel_rfl) (by simp) ?_
    refine AllReadyH.cons (o := _) (by simp only [List.getElem?_toArray, List.getElem?_cons_succ, List.getElem?_cons_zero]; rfl) (fun K hK => ?_) AllReadyH.nil
    go_simp
    refine (HE.out _ _ _ _ _ (ownsC_conds oc2.out) (ownsC_conds (ownsC_below oc3.out (Below.refl _ _))) (ownsN_ints on2.out) (ownsN_ints on3.out)).mono ?_
    rintro e v7 ⟨rfl, c7⟩
    replace q := Lib.hid ((c7.block w.heap.size (Array.getElem?_eq_some_iff.1 q.out).1).trans q.out)
    replace hc := Lib.hid (condsR_below hc.out c7)
    replace ho := Lib.hid (ints_below ho.out c7)
    replace oc2 := Lib.hid (ownsC_below oc2.out c7)
    replace on2 := Lib.hid (ownsN_below on2.out c7)
    replace x := Lib.hid ((c7.block v4.heap.size (Array.getElem?_eq_some_iff.1 x.out).1).trans x.out)
    replace d := Lib.hid (d.out.trans (c7.mono d.out.size))
    clear c7
    have p_x_0 := (cell_of_row v7 _ 0 _ _ _ x.out).trans (show _ = some (Value.int .i64 id) from rfl)
    have p_x_1 := (cell_of_row v7 _ 1 _ _ _ x.out).trans (show _ = some (Value.int .i64 tn) from rfl)
    have p_x_2 := (cell_of_row v7 _ 2 _ _ _ x.out).trans (show _ = some (Value.slice ca2 cs.length cp2) from rfl)
    have p_x_3 := (cell_of_row v7 _ 3 _ _ _ x.out).trans (show _ = some (Value.slice oa2 os.length op2) from rfl)
    have p_q_0 := (cell_of_row v7 _ 0 _ _ _ q.out).trans (show _ = some (Value.int .i64 id) from rfl)
    have p_q_1 := (cell_of_row v7 _ 1 _ _ _ q.out).trans (show _ = some (Value.int .i64 tn) from rfl)
    have p_q_2 := (cell_of_row v7 _ 2 _ _ _ q.out).trans (show _ = some (Value.slice ca cs.length ccap) from rfl)
    have p_q_3 := (cell_of_row v7 _ 3 _ _ _ q.out).trans (show _ = some (Value.slice oa os.length ocap) from rfl)
    refine hK.out _ _ ⟨p_x_0, p_x_1, p_x_2, p_x_3, p_q_0, p_q_1, p_q_2, p_q_3⟩ (fun hHeld => ?_)
    clear p_x_0 p_x_1 p_x_2 p_x_3 p_q_0 p_q_1 p_q_2 p_q_3
    clear hK K
    try simp only [Act.put, List.setIfInBounds_toArray, List.set_cons_zero, List.set_cons_succ]
    refine take_runs (i := 4) (v := ?_) (by simp only [List.getElem?_toArray, List.getElem?_cons_succ, List.getElem?_cons_zero]; rfl) (by kernel_rfl) (by kernel_rfl) (by kernel_rfl) rfl (by exact fun _ _ _ h => h) (by rfl) ?_ (by assumption) ?_
    rotate_left
    · intro w hSw; (try dsimp only at hSw); go_simp; try (with_reducible rfl)
    try simp only [Act.put, List.setIfInBounds_toArray, List.set_cons_zero, List.set_cons_succ]
    refine wpAnyH_done (by kernel_rfl) ?_ _
    clear hHeld
    go_wp2
    go_ret
    exact ⟨rfl, HB0.out.trans (d.out.mono HB0.out.size)⟩
  · have HZ := Lib.hid (fun w => szQuery_no id tn ca oa ccap ocap cs.length os.length 1048576 w (by omega) (by omega) (by omega) hn hm)
    have hb0 : Below w.heap.size w (w.alloc (.cells #[.int .i64 id, .int .i64 tn, .slice ca cs.length ccap, .slice oa os.length ocap] 31)) := (Below.refl _ w).alloc (Nat.le_refl _) _
    clear himpl hl hn hm h g
    go_enter Try.func4, Try.ntmps4
    go_wp2_with fail
    refine (HZ.out _).mono ?_
    rintro e w1 ⟨rfl, b1⟩
    have b2 := hb0.trans (b1.mono hb0.size)
    go_wp2
    go_ret
    exact ⟨rfl, b2⟩
end Go.Proofs.Yteelgogfpidcdaa
