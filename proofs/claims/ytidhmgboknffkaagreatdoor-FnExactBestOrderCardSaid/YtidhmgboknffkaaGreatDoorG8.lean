/-
  Texts of the proof, merged: CountP, WorkP, WorkKeys, OrdMark, BestP, TyApp, FlatT, Cpl6Query, Mpl6Queries, StabSpec, StabsSpec, BuildSpec, IdxSpec2, IdxSpec1, SetOps.
-/
import Derived.Test.YtidhmgboknffkaaGreatDoorG7
import Derived.Maps.RangeWalk
import Derived.Maps.AppendAt
import Derived.Deep.Upon
import Derived.Deep.Slices
namespace Go.Proofs.YtidhmgboknffkaaGreatDoor
open Go.RowKit Go.Maps
set_option linter.unusedVariables false
set_option linter.unusedSimpArgs false
theorem arrK : WideMaps.ArrKey Tryz.prog 97 59 3 := ⟨Tryz.underlying97, by kernel_rfl, by kernel_rfl, by kernel_rfl⟩
theorem keyLawK : WideMaps.KeyLaw Tryz.prog 97 := arrK.law
theorem keyedK : Keyed Tryz.prog 97 := Keyed.of_law keyLawK
theorem typesK : ∃ m, Tryz.prog.types.size = m + 1 := ⟨Tryz.prog.types.size - 1, (Nat.sub_add_cancel (of_decide_eq_true (p := 1 ≤ Tryz.prog.types.size) (by kernel_rfl))).symm⟩
theorem zeroK (w : World) : (zeroValue 3).run Tryz.prog w = .ok (.int .i64 0) w := by kernel_rfl
theorem wf_u32 {m : Nat} (h : m < 16777216) : (Lit.int .u32 (m : Int)).wf = true := by
  have h1 : IntKind.u32.min = 0 := by decide
  have h2 : IntKind.u32.max = 4294967295 := by decide
  simp [Lit.wf, h1, h2]
  omega
/-- The key of three masks. -/
def keyL (a b c : Nat) : Lit := .string (keyBytes [.int .u32 (a : Int), .int .u32 (b : Int), .int .u32 (c : Int)])
theorem keyL_of {a b c : Nat} (ha : a < 16777216) (hb : b < 16777216) (hc : c < 16777216) : keyOf Tryz.prog 97 (.agg #[.int .u32 (a : Int), .int .u32 (b : Int), .int .u32 (c : Int)]) = some (keyL a b c) :=
  keyOf_triple arrK Tryz.underlying59 typesK (wf_u32 ha) (wf_u32 hb) (wf_u32 hc)
theorem keyL_lit {a b c : Nat} : WideAt.IsKeyLit (keyL a b c) := trivial
/-- The keys of the rows that are valid. -/
def keyR (fs : List (List SpanD)) (r : RowD) : Lit := keyL (setM fs r.2 0) (setM fs r.2 1) (setM fs r.2 2)
def keysTo (fs : List (List SpanD)) (rs : List RowD) (k : Nat) : List Lit := ((rs.take k).filter rowB).map (keyR fs)
theorem keysTo_yes {fs : List (List SpanD)} {rs : List RowD} {k : Nat} {d : RowD} (hk : k < rs.length) (h : rowB (rs.getD k d) = true) : keysTo fs rs (k + 1) = keysTo fs rs k ++ [keyR fs (rs.getD k d)] := by
  have e : rs.getD k d = rs[k] := by simp [List.getD, hk]
  rw [e] at h ⊢
  unfold keysTo
  rw [List.take_succ_eq_append_getElem hk, List.filter_append, List.map_append]
  simp [h]
theorem keysTo_no {fs : List (List SpanD)} {rs : List RowD} {k : Nat} {d : RowD} (hk : k < rs.length) (h : rowB (rs.getD k d) = false) : keysTo fs rs (k + 1) = keysTo fs rs k := by
  have e : rs.getD k d = rs[k] := by simp [List.getD, hk]
  rw [e] at h
  unfold keysTo
  rw [List.take_succ_eq_append_getElem hk, List.filter_append, List.map_append]
  simp [h]
theorem keysTo_len (fs : List (List SpanD)) (rs : List RowD) (k : Nat) : (keysTo fs rs k).length ≤ k := by
  unfold keysTo
  rw [List.length_map]
  exact Nat.le_trans (List.length_filter_le _ _) (by simp <;> omega)
theorem below_grown {w w' : World} (h : Below w.heap.size w w') (row : Option Nat) : w.grownBy w' row := ⟨h.os, h.tape, h.output, h.size, fun i hi _ => h.block i hi⟩
/-- An operation that runs, as a step of a drawn region. -/
theorem step_run {P : Program} {ops : Array Oper} {o : Oper} {a : Act} {w w' : World} {v : Value} {K : Act → World → Prop} {Q : Exit → Act → World → Prop} {E : Prop} (hgd : o.guard = none)
    (hy : (execOp a.eval o).run P w = .ok (.value v) w') (h : K (a.put o.dst v) w') : if Region.wanted o (yielded ops a.tmps) = true then Oper.wp P o a w K Q else E := by
  have hw : Region.wanted o (yielded ops a.tmps) = true := by simp [Region.wanted, hgd]
  rw [if_pos hw]
  unfold Oper.wp
  simp [hy, Result.andThen]
  exact h
/-- A step that leaves no value. -/
theorem step_skip {P : Program} {ops : Array Oper} {o : Oper} {a : Act} {w w' : World} {K : Act → World → Prop} {Q : Exit → Act → World → Prop} {E : Prop} (hgd : o.guard = none)
    (hy : (execOp a.eval o).run P w = .ok .skip w') (h : K (a.put o.dst undef) w') : if Region.wanted o (yielded ops a.tmps) = true then Oper.wp P o a w K Q else E := by
  have hw : Region.wanted o (yielded ops a.tmps) = true := by simp [Region.wanted, hgd]
  rw [if_pos hw]
  unfold Oper.wp
  simp [hy, Result.andThen]
  exact h
set_option maxHeartbeats 16000000 in
set_option maxRecDepth 100000 in
theorem implCountSets (m : Nat) (s0 s1 s2 : Value) (fs : List (List SpanD)) (rv : Value) (rs : List RowD) (w : World) (hc : CI w fs s0 s1 s2) (h : RowsR w rv rs) (hz : zL tSpanS fs ≤ 1048576) (hf : fs.length = 3) (hs : szL rs ≤ 1048576) :
    Calls Tryz.prog 27 #[ciV m s0 s1 s2, rv] w fun e w' => e = .returned (.map (some (w.heap.size + 1))) ∧ (∃ D : DataW Unit, World.ownsMap w' Tryz.prog 97 (plainElem (H := Unit) Tryz.prog 3) (w.heap.size + 1) rs.length D ∧ CountsD D (keysTo fs rs rs.length)) ∧ Below w.heap.size w w' := by
  have hmm := @run_makeMap Tryz.prog
  have hlen : rs.length ≤ 1048576 := by have := szTo_le (rs := rs) (Nat.zero_le _); rw [szTo_zero] at this; omega
  obtain ⟨ra, rc, rfl⟩ := rowsR_len h
  have H := Lib.hid h; have HC := Lib.hid hc; have HZ := Lib.hid hz; have HF := Lib.hid hf; have HS := Lib.hid hs
  have d := Lib.hid (((Below.refl w.heap.size w).alloc (Nat.le_refl _) (.cells #[.int .u32 (m : Int), s0, s1, s2] 63)).alloc (by simp) (.map #[] 0))
  have B0 : Hid (((w.alloc (.cells #[.int .u32 (m : Int), s0, s1, s2] 63)).alloc (.map #[] 0)).heap[w.heap.size]? = some (.cells #[.int .u32 (m : Int), s0, s1, s2] 63 (0, 0))) := Lib.hid (by rw [Below.heap_alloc _ _ _ (by simp)]; exact heap_alloc_new w _)
  have OM : Hid (∃ D : DataW Unit, World.ownsMap ((w.alloc (.cells #[.int .u32 (m : Int), s0, s1, s2] 63)).alloc (.map #[] 0)) Tryz.prog 97 (plainElem (H := Unit) Tryz.prog 3) (w.heap.size + 1) 0 D ∧ CountsD D (keysTo fs rs 0)) := Lib.hid ⟨.map [], by
    have := World.ownsMap_made (H := Unit) (w.alloc (.cells #[.int .u32 (m : Int), s0, s1, s2] 63)) Tryz.prog 97 (plainElem Tryz.prog 3)
    simpa only [World.size_alloc] using this, countsD_start⟩
  clear h hc hz hf hs
  go_enter Tryz.func27, Tryz.ntmps27
  go_wp2
  clear hmm
  generalize ((w.alloc (.cells #[.int .u32 (m : Int), s0, s1, s2] 63)).alloc (.map #[] 0)) = W at *
  go_loopw [11] (fun i wr => ∃ k : Nat, k ≤ rs.length ∧ i = .int .i64 k ∧ Hid (∃ D : DataW Unit, World.ownsMap wr Tryz.prog 97 (plainElem (H := Unit) Tryz.prog 3) (w.heap.size + 1) k D ∧ CountsD D (keysTo fs rs k)) ∧ Hid (wr.heap[w.heap.size]? = some (.cells #[.int .u32 (m : Int), s0, s1, s2] 63 (0, 0))) ∧ Hid (Below w.heap.size w wr)) (fun i _ => rs.length - (intOf i).toNat)
  case atStart => exact ⟨0, Nat.zero_le _, rfl, OM, B0, d⟩
  case round =>
    clear OM B0 d
    obtain ⟨k, hk, rfl, OM, B0, d⟩ := hrel
    by_cases hlt : k < rs.length
    · obtain ⟨b, off, cap', vv, hv, hbl, hc1, hc2, hI⟩ := rowsR_at (rowsR_below H.out d.out) hlt
      simp only [Value.slice.injEq] at hv
      obtain ⟨rfl, _, rfl⟩ := hv
      obtain ⟨va, vc, rfl⟩ := ints_len hI
      have hxl := szL_row HS.out hlt
      have i1 : (0 : Int) ≤ (k : Int) := by omega
      have i2 : (k : Int) < (rs.length : Int) := by omega
      have HR := Lib.hid (fun w h => implIsRow (rs.getD k (0, [])).1 (.slice va (rs.getD k (0, [])).2.length vc) (rs.getD k (0, [])).2 w h hxl)
      have er : (((rs.getD k (0, [])).1, (rs.getD k (0, [])).2) : RowD) = rs.getD k (0, []) := rfl
      rw [er] at HR
      clear er
      cases hrb : rowB (rs.getD k (0, [])) with
      | false =>
        have HK := Lib.hid (keysTo_no (fs := fs) hlt hrb)
        rw [hrb] at HR
        clear hrb
        generalize (rs.getD k (0, [])).1 = id at *
        generalize (rs.getD k (0, [])).2 = xs at *
        go_wp2_with fail
        have hal : Below wr.heap.size wr (wr.alloc (.cells #[.int .i64 id, .slice va xs.length vc] 56)) := (Below.refl _ _).alloc (Nat.le_refl _) _
        have OM2 : Hid (∃ D : DataW Unit, World.ownsMap (wr.alloc (.cells #[.int .i64 id, .slice va xs.length vc] 56)) Tryz.prog 97 (plainElem (H := Unit) Tryz.prog 3) (w.heap.size + 1) k D ∧ CountsD D (keysTo fs rs k)) := Lib.hid (by obtain ⟨D, h1, h2⟩ := OM.out; exact ⟨D, h1.alloc _, h2⟩)
        have I2 := Lib.hid (ints_below hI hal)
        replace B0 := Lib.hid ((hal.block w.heap.size (Array.getElem?_eq_some_iff.1 B0.out).1).trans B0.out)
        replace d := Lib.hid (d.out.trans (hal.mono d.out.size))
        clear hal OM hI
        generalize wr.alloc (.cells #[.int .i64 id, .slice va xs.length vc] 56) = W2 at *
        refine (HR.out W2 I2.out).mono ?_
        rintro e w3 ⟨rfl, c3⟩
        have OM3 : Hid (∃ D : DataW Unit, World.ownsMap w3 Tryz.prog 97 (plainElem (H := Unit) Tryz.prog 3) (w.heap.size + 1) (k + 1) D ∧ CountsD D (keysTo fs rs (k + 1))) := Lib.hid (by obtain ⟨D, h1, h2⟩ := OM2.out; exact ⟨D, (h1.kept (below_grown c3 none) (by simp)).mono (Nat.le_succ _), by rw [HK.out]; exact h2⟩)
        replace B0 := Lib.hid ((c3.block w.heap.size (Array.getElem?_eq_some_iff.1 B0.out).1).trans B0.out)
        replace d := Lib.hid (d.out.trans (c3.mono d.out.size))
        have Z_w3 := Lib.hid (show W2.heap.size ≤ w3.heap.size from c3.size)
        clear c3 OM2 I2
        go_wp2
        go_roundw
        case rel => exact ⟨k + 1, by omega, by go_num, OM3, B0, d⟩
        case measure => simp [intOf]; omega
      | true =>
        have HK := Lib.hid (keysTo_yes (fs := fs) hlt hrb)
        have HV3 : Hid ((rs.getD k (0, [])).2.length = 3) := Lib.hid (row_len hrb)
        have HKL := Lib.hid (keysTo_len fs rs k)
        rw [hrb] at HR
        clear hrb
        obtain ⟨D, hown, hcd⟩ := OM.out
        have HO := Lib.hid hown; have HCD := Lib.hid hcd
        have HW0 := Lib.hid HO.out.lt
        clear hown hcd OM
        have ek : keyR fs (rs.getD k (0, [])) = keyL (setM fs (rs.getD k (0, [])).2 0) (setM fs (rs.getD k (0, [])).2 1) (setM fs (rs.getD k (0, [])).2 2) := rfl
        rw [ek] at HK
        clear ek
        generalize (rs.getD k (0, [])).1 = id at *
        generalize (rs.getD k (0, [])).2 = xs at *
        go_wp2_with fail
        have hal : Below wr.heap.size wr (wr.alloc (.cells #[.int .i64 id, .slice va xs.length vc] 56)) := (Below.refl _ _).alloc (Nat.le_refl _) _
        have B3 : Hid ((wr.alloc (.cells #[.int .i64 id, .slice va xs.length vc] 56)).heap[wr.heap.size]? = some (.cells #[.int .i64 id, .slice va xs.length vc] 56 (0, 0))) := Lib.hid (heap_alloc_new wr _)
        replace HO := Lib.hid (HO.out.alloc (.cells #[.int .i64 id, .slice va xs.length vc] 56))
        have I2 := Lib.hid (ints_below hI hal)
        replace B0 := Lib.hid ((hal.block w.heap.size (Array.getElem?_eq_some_iff.1 B0.out).1).trans B0.out)
        replace d := Lib.hid (d.out.trans (hal.mono d.out.size))
        have YB : Hid (wr.heap.size < (wr.alloc (.cells #[.int .i64 id, .slice va xs.length vc] 56)).heap.size) := Lib.hid (by simp)
        clear hal hI
        generalize wr.alloc (.cells #[.int .i64 id, .slice va xs.length vc] 56) = W2 at *
        refine (HR.out W2 I2.out).mono ?_
        rintro e w3 ⟨rfl, c3⟩
        replace HO := Lib.hid (HO.out.kept (below_grown c3 none) (by simp))
        replace I2 := Lib.hid (ints_below I2.out c3)
        replace B0 := Lib.hid ((c3.block w.heap.size (Array.getElem?_eq_some_iff.1 B0.out).1).trans B0.out)
        replace B3 := Lib.hid ((c3.block wr.heap.size (Array.getElem?_eq_some_iff.1 B3.out).1).trans B3.out)
        replace d := Lib.hid (d.out.trans (c3.mono d.out.size))
        have Z_w3 := Lib.hid (show W2.heap.size ≤ w3.heap.size from c3.size)
        clear c3
        try clear Z_w3
        have m1 := setM_lt fs xs 0; have m2 := setM_lt fs xs 1; have m3 := setM_lt fs xs 2
        have HSO := Lib.hid (fun w g1 g2 => implSetsOf m s0 s1 s2 fs id (.slice va xs.length vc) xs w g1 g2 HZ.out HF.out HV3.out)
        have HKO := Lib.hid (keyL_of m1 m2 m3)
        clear m1 m2 m3
        generalize setM fs xs 0 = a at *
        generalize setM fs xs 1 = b2 at *
        generalize setM fs xs 2 = c at *
        have YM := Lib.hid HO.out.lt
        have HWR : Hid (w.heap.size + 1 < wr.heap.size) := HW0
        have p_B3_0 := (cell_of_row w3 _ 0 _ _ _ B3.out).trans (show _ = some (Value.int .i64 id) from rfl)
        have p_B3_1 := (cell_of_row w3 _ 1 _ _ _ B3.out).trans (show _ = some (Value.slice va xs.length vc) from rfl)
        go_wp2
        clear p_B3_0 p_B3_1
        have p_B0_0 := (cell_of_row w3 _ 0 _ _ _ B0.out).trans (show _ = some (Value.int .u32 (m : Int)) from rfl)
        have p_B0_1 := (cell_of_row w3 _ 1 _ _ _ B0.out).trans (show _ = some (s0) from rfl)
        have p_B0_2 := (cell_of_row w3 _ 2 _ _ _ B0.out).trans (show _ = some (s1) from rfl)
        have p_B0_3 := (cell_of_row w3 _ 3 _ _ _ B0.out).trans (show _ = some (s2) from rfl)
        have p_B3_0 := (cell_of_row w3 _ 0 _ _ _ B3.out).trans (show _ = some (Value.int .i64 id) from rfl)
        have p_B3_1 := (cell_of_row w3 _ 1 _ _ _ B3.out).trans (show _ = some (Value.slice va xs.length vc) from rfl)
        refine wp_region_held_drew (S := fun w' => w'.cell? ⟨w.heap.size, 0, none⟩ = some (Value.int .u32 (m : Int)) ∧ w'.cell? ⟨w.heap.size, 1, none⟩ = some (s0) ∧ w'.cell? ⟨w.heap.size, 2, none⟩ = some (s1) ∧ w'.cell? ⟨w.heap.size, 3, none⟩ = some (s2) ∧ w'.cell? ⟨wr.heap.size, 0, none⟩ = some (Value.int .i64 id) ∧ w'.cell? ⟨wr.heap.size, 1, none⟩ = some (Value.slice va xs.length vc)) (by kernel_rfl) ⟨p_B0_0, p_B0_1, p_B0_2, p_B0_3, p_B3_0, p_B3_1⟩ (fun hHeld => ?_)
        clear p_B0_0 p_B0_1 p_B0_2 p_B0_3 p_B3_0 p_B3_1
        have cdr : Below w3.heap.size w3 w3.drew := below_drew (Below.refl _ _)
        replace B0 := Lib.hid ((cdr.block w.heap.size (Array.getElem?_eq_some_iff.1 B0.out).1).trans B0.out)
        replace B3 := Lib.hid ((cdr.block wr.heap.size (Array.getElem?_eq_some_iff.1 B3.out).1).trans B3.out)
        replace d := Lib.hid (d.out.trans (cdr.mono d.out.size))
        clear cdr
        refine take_runs (i := 0) (v := ?_) (by simp only [List.getElem?_toArray, List.getElem?_cons_succ, List.getElem?_cons_zero]; rfl) (by kernel_rfl) (by kernel_rfl) (by kernel_rfl) rfl (by exact fun _ _ _ h => h) (by rfl) ?_ (by assumption) ?_
        rotate_left
        · intro w hSw; (try dsimp only at hSw); go_simp; try (with_reducible rfl)
        try simp only [Act.put, List.setIfInBounds_toArray, List.set_cons_zero, List.set_cons_succ]
        refine take_runs (i := 1) (v := ?_) (by simp only [List.getElem?_toArray, List.getElem?_cons_succ, List.getElem?_cons_zero]; rfl) (by kernel_rfl) (by kernel_rfl) (by kernel_rfl) rfl (by exact fun _ _ _ h => h) (by rfl) ?_ (by assumption) ?_
        rotate_left
        · intro w hSw; (try dsimp only at hSw); go_simp; try (with_reducible rfl)
        try simp only [Act.put, List.setIfInBounds_toArray, List.set_cons_zero, List.set_cons_succ]
        refine take_runs (i := 2) (v := ?_) (by simp only [List.getElem?_toArray, List.getElem?_cons_succ, List.getElem?_cons_zero]; rfl) (by kernel_rfl) (by kernel_rfl) (by kernel_rfl) rfl (by exact fun _ _ _ h => h) (by rfl) ?_ (by assumption) ?_
        rotate_left
        · intro w hSw; (try dsimp only at hSw); go_simp; try (with_reducible rfl)
        try simp only [Act.put, List.setIfInBounds_toArray, List.set_cons_zero, List.set_cons_succ]
        refine wpAnyH_ready (rs := [3]) (by kernel_rfl) (by simp) ?_
        refine (AllReadyH.cons (o := _) (by simp only [List.getElem?_toArray, List.getElem?_cons_succ, List.getElem?_cons_zero]; rfl) (fun K hK => ?_) AllReadyH.nil)
        go_simp
        refine (HSO.out (w3.drew) (ci_below HC.out d.out) I2.out).mono ?_
        rintro e w4 ⟨rfl, c4⟩
        replace HO := Lib.hid (HO.out.drew.kept (below_grown c4 none) (by simp))
        replace B0 := Lib.hid ((c4.block w.heap.size (Array.getElem?_eq_some_iff.1 B0.out).1).trans B0.out)
        replace B3 := Lib.hid ((c4.block wr.heap.size (Array.getElem?_eq_some_iff.1 B3.out).1).trans B3.out)
        replace d := Lib.hid (d.out.trans (c4.mono d.out.size))
        have Z_w4 := Lib.hid (show w3.heap.size ≤ w4.heap.size from c4.size)
        clear c4 I2
        try clear Z_w4
        obtain ⟨n, st, w5, hat, hwn, hlook, hent, hlook1, hg5, hst⟩ := entry_any keyLawK Tryz.underlying66 Tryz.underlying3 zeroK HO.out (by unfold maxLen; omega) HKO.out
        have hn := countsD_at HCD.out keyL_lit hat
        have hcl := cntK_le (keysTo fs rs k) (keyL a b2 c)
        have hn0 : 0 ≤ n := by omega
        have hn1 : n ≤ 1048576 := by have := HKL.out; omega
        obtain ⟨w6, hest, ho6, hg6⟩ := hst (n + 1) (WalkArith.wf_i64 (by omega))
        have HD6 := Lib.hid (countsD_step HCD.out keyL_lit hat)
        have HO6 := Lib.hid ho6
        have YM4 := Lib.hid HO.out.lt
        have HLK := Lib.hid hlook; have HEN := Lib.hid hent; have HLK1 := Lib.hid hlook1; have HES : Hid ((Instr.entryStore 66 (.map (some (w.heap.size + 1))) (Value.int .i64 (st : Int)) (Value.int .i64 (IntKind.i64.wrap (n + 1)))).run Tryz.prog w5 = .ok () w6) := Lib.hid (by rw [IntWalk.i64_in (n + 1) (by omega)]; exact hest); have HG5 := Lib.hid hg5; have HG6 := Lib.hid hg6
        clear hat hwn hlook hent hlook1 hg5 hst hn hcl hest ho6 hg6 HO HCD
        have p_B0_0 := (cell_of_row w4 _ 0 _ _ _ B0.out).trans (show _ = some (Value.int .u32 (m : Int)) from rfl)
        have p_B0_1 := (cell_of_row w4 _ 1 _ _ _ B0.out).trans (show _ = some (s0) from rfl)
        have p_B0_2 := (cell_of_row w4 _ 2 _ _ _ B0.out).trans (show _ = some (s1) from rfl)
        have p_B0_3 := (cell_of_row w4 _ 3 _ _ _ B0.out).trans (show _ = some (s2) from rfl)
        have p_B3_0 := (cell_of_row w4 _ 0 _ _ _ B3.out).trans (show _ = some (Value.int .i64 id) from rfl)
        have p_B3_1 := (cell_of_row w4 _ 1 _ _ _ B3.out).trans (show _ = some (Value.slice va xs.length vc) from rfl)
        refine hK.out _ _ ⟨p_B0_0, p_B0_1, p_B0_2, p_B0_3, p_B3_0, p_B3_1⟩ (fun hHeld => ?_)
        clear p_B0_0 p_B0_1 p_B0_2 p_B0_3 p_B3_0 p_B3_1
        clear hK K
        try simp only [Act.put, List.setIfInBounds_toArray, List.set_cons_zero, List.set_cons_succ]
        refine wpAnyH_ready (rs := [4, 6]) (by kernel_rfl) (by simp) ?_
        refine (AllReadyH.cons (o := _) (by simp only [List.getElem?_toArray, List.getElem?_cons_succ, List.getElem?_cons_zero]; rfl) (fun K hK => ?_) (AllReadyH.cons (o := _) (by simp only [List.getElem?_toArray, List.getElem?_cons_succ, List.getElem?_cons_zero]; rfl) (fun K hK => ?_) AllReadyH.nil))
        · refine step_run rfl (by go_simp; rw [HLK.out]; rfl) ?_
          have p_B0_0 := (cell_of_row w4 _ 0 _ _ _ B0.out).trans (show _ = some (Value.int .u32 (m : Int)) from rfl)
          have p_B0_1 := (cell_of_row w4 _ 1 _ _ _ B0.out).trans (show _ = some (s0) from rfl)
          have p_B0_2 := (cell_of_row w4 _ 2 _ _ _ B0.out).trans (show _ = some (s1) from rfl)
          have p_B0_3 := (cell_of_row w4 _ 3 _ _ _ B0.out).trans (show _ = some (s2) from rfl)
          have p_B3_0 := (cell_of_row w4 _ 0 _ _ _ B3.out).trans (show _ = some (Value.int .i64 id) from rfl)
          have p_B3_1 := (cell_of_row w4 _ 1 _ _ _ B3.out).trans (show _ = some (Value.slice va xs.length vc) from rfl)
          refine hK.out _ _ ⟨p_B0_0, p_B0_1, p_B0_2, p_B0_3, p_B3_0, p_B3_1⟩ (fun hHeld => ?_)
          clear p_B0_0 p_B0_1 p_B0_2 p_B0_3 p_B3_0 p_B3_1
          clear hK K
          try simp only [Act.put, List.setIfInBounds_toArray, List.set_cons_zero, List.set_cons_succ]
          refine take_runs (i := 5) (v := ?_) (by simp only [List.getElem?_toArray, List.getElem?_cons_succ, List.getElem?_cons_zero]; rfl) (by kernel_rfl) (by kernel_rfl) (by kernel_rfl) rfl (by exact fun _ _ _ h => h) (by rfl) ?_ (by assumption) ?_
          rotate_left
          · intro w hSw; (try dsimp only at hSw); go_simp; try (with_reducible rfl)
          try simp only [Act.put, List.setIfInBounds_toArray, List.set_cons_zero, List.set_cons_succ]
          refine wpAnyH_ready (rs := [6]) (by kernel_rfl) (by simp) ?_
          refine (AllReadyH.cons (o := _) (by simp only [List.getElem?_toArray, List.getElem?_cons_succ, List.getElem?_cons_zero]; rfl) (fun K hK => ?_) AllReadyH.nil)
          refine step_run rfl (by go_simp; rw [HEN.out]; rfl) ?_
          have tt : Turn (fun b => b = w.heap.size + 1) w4 w5 := turn_grown HG5.out (fun b hb => by cases hb; rfl)
          have hb0 := (Array.getElem?_eq_some_iff.1 B0.out).1; have hb3 := (Array.getElem?_eq_some_iff.1 B3.out).1; have yd := d.out.size; have yb := YB.out; have ym := YM.out
          replace B0 := Lib.hid ((tt.block w.heap.size hb0 (fun h => by omega)).trans B0.out)
          replace B3 := Lib.hid ((tt.block wr.heap.size hb3 (fun h => by have := HWR.out; omega)).trans B3.out)
          replace d := Lib.hid (below_turn d.out tt (fun b h => by omega) yd)
          clear tt hb0 hb3 yd yb ym
          have p_B0_0 := (cell_of_row w5 _ 0 _ _ _ B0.out).trans (show _ = some (Value.int .u32 (m : Int)) from rfl)
          have p_B0_1 := (cell_of_row w5 _ 1 _ _ _ B0.out).trans (show _ = some (s0) from rfl)
          have p_B0_2 := (cell_of_row w5 _ 2 _ _ _ B0.out).trans (show _ = some (s1) from rfl)
          have p_B0_3 := (cell_of_row w5 _ 3 _ _ _ B0.out).trans (show _ = some (s2) from rfl)
          have p_B3_0 := (cell_of_row w5 _ 0 _ _ _ B3.out).trans (show _ = some (Value.int .i64 id) from rfl)
          have p_B3_1 := (cell_of_row w5 _ 1 _ _ _ B3.out).trans (show _ = some (Value.slice va xs.length vc) from rfl)
          refine hK.out _ _ ⟨p_B0_0, p_B0_1, p_B0_2, p_B0_3, p_B3_0, p_B3_1⟩ (fun hHeld => ?_)
          clear p_B0_0 p_B0_1 p_B0_2 p_B0_3 p_B3_0 p_B3_1
          clear hK K
          try simp only [Act.put, List.setIfInBounds_toArray, List.set_cons_zero, List.set_cons_succ]
          refine take_runs (i := 7) (v := ?_) (by simp only [List.getElem?_toArray, List.getElem?_cons_succ, List.getElem?_cons_zero]; rfl) (by kernel_rfl) (by kernel_rfl) (by kernel_rfl) rfl (by exact fun _ _ _ h => h) (by rfl) ?_ (by assumption) ?_
          rotate_left
          · intro w hSw; (try dsimp only at hSw); go_simp; try (with_reducible rfl)
          try simp only [Act.put, List.setIfInBounds_toArray, List.set_cons_zero, List.set_cons_succ]
          refine wpAnyH_ready (rs := [8]) (by kernel_rfl) (by simp) ?_
          refine (AllReadyH.cons (o := _) (by simp only [List.getElem?_toArray, List.getElem?_cons_succ, List.getElem?_cons_zero]; rfl) (fun K hK => ?_) AllReadyH.nil)
          refine step_skip rfl (by go_simp; rw [HES.out]; rfl) ?_
          have tt : Turn (fun b => b = w.heap.size + 1) w5 w6 := turn_grown HG6.out (fun b hb => by cases hb; rfl)
          have hb0 := (Array.getElem?_eq_some_iff.1 B0.out).1; have hb3 := (Array.getElem?_eq_some_iff.1 B3.out).1; have yd := d.out.size; have yb := YB.out; have ym := YM.out
          replace B0 := Lib.hid ((tt.block w.heap.size hb0 (fun h => by omega)).trans B0.out)
          replace B3 := Lib.hid ((tt.block wr.heap.size hb3 (fun h => by have := HWR.out; omega)).trans B3.out)
          replace d := Lib.hid (below_turn d.out tt (fun b h => by omega) yd)
          clear tt hb0 hb3 yd yb ym
          have p_B0_0 := (cell_of_row w6 _ 0 _ _ _ B0.out).trans (show _ = some (Value.int .u32 (m : Int)) from rfl)
          have p_B0_1 := (cell_of_row w6 _ 1 _ _ _ B0.out).trans (show _ = some (s0) from rfl)
          have p_B0_2 := (cell_of_row w6 _ 2 _ _ _ B0.out).trans (show _ = some (s1) from rfl)
          have p_B0_3 := (cell_of_row w6 _ 3 _ _ _ B0.out).trans (show _ = some (s2) from rfl)
          have p_B3_0 := (cell_of_row w6 _ 0 _ _ _ B3.out).trans (show _ = some (Value.int .i64 id) from rfl)
          have p_B3_1 := (cell_of_row w6 _ 1 _ _ _ B3.out).trans (show _ = some (Value.slice va xs.length vc) from rfl)
          refine hK.out _ _ ⟨p_B0_0, p_B0_1, p_B0_2, p_B0_3, p_B3_0, p_B3_1⟩ (fun hHeld => ?_)
          clear p_B0_0 p_B0_1 p_B0_2 p_B0_3 p_B3_0 p_B3_1
          clear hK K
          try simp only [Act.put, List.setIfInBounds_toArray, List.set_cons_zero, List.set_cons_succ]
          refine wpAnyH_done (by kernel_rfl) ?_ _
          clear hHeld
          have OM9 : Hid (∃ D : DataW Unit, World.ownsMap w6 Tryz.prog 97 (plainElem (H := Unit) Tryz.prog 3) (w.heap.size + 1) (k + 1) D ∧ CountsD D (keysTo fs rs (k + 1))) := Lib.hid ⟨_, HO6.out, by rw [HK.out]; exact HD6.out⟩
          clear HO6 HD6 B3 HLK HEN HLK1 HES HG5 HG6
          go_wp2
          go_roundw
          case rel => exact ⟨k + 1, by omega, by go_num, OM9, B0, d⟩
          case measure => simp [intOf]; omega
        · refine step_run rfl (by go_simp; rw [HEN.out]; rfl) ?_
          have tt : Turn (fun b => b = w.heap.size + 1) w4 w5 := turn_grown HG5.out (fun b hb => by cases hb; rfl)
          have hb0 := (Array.getElem?_eq_some_iff.1 B0.out).1; have hb3 := (Array.getElem?_eq_some_iff.1 B3.out).1; have yd := d.out.size; have yb := YB.out; have ym := YM.out
          replace B0 := Lib.hid ((tt.block w.heap.size hb0 (fun h => by omega)).trans B0.out)
          replace B3 := Lib.hid ((tt.block wr.heap.size hb3 (fun h => by have := HWR.out; omega)).trans B3.out)
          replace d := Lib.hid (below_turn d.out tt (fun b h => by omega) yd)
          clear tt hb0 hb3 yd yb ym
          have p_B0_0 := (cell_of_row w5 _ 0 _ _ _ B0.out).trans (show _ = some (Value.int .u32 (m : Int)) from rfl)
          have p_B0_1 := (cell_of_row w5 _ 1 _ _ _ B0.out).trans (show _ = some (s0) from rfl)
          have p_B0_2 := (cell_of_row w5 _ 2 _ _ _ B0.out).trans (show _ = some (s1) from rfl)
          have p_B0_3 := (cell_of_row w5 _ 3 _ _ _ B0.out).trans (show _ = some (s2) from rfl)
          have p_B3_0 := (cell_of_row w5 _ 0 _ _ _ B3.out).trans (show _ = some (Value.int .i64 id) from rfl)
          have p_B3_1 := (cell_of_row w5 _ 1 _ _ _ B3.out).trans (show _ = some (Value.slice va xs.length vc) from rfl)
          refine hK.out _ _ ⟨p_B0_0, p_B0_1, p_B0_2, p_B0_3, p_B3_0, p_B3_1⟩ (fun hHeld => ?_)
          clear p_B0_0 p_B0_1 p_B0_2 p_B0_3 p_B3_0 p_B3_1
          clear hK K
          try simp only [Act.put, List.setIfInBounds_toArray, List.set_cons_zero, List.set_cons_succ]
          refine take_runs (i := 7) (v := ?_) (by simp only [List.getElem?_toArray, List.getElem?_cons_succ, List.getElem?_cons_zero]; rfl) (by kernel_rfl) (by kernel_rfl) (by kernel_rfl) rfl (by exact fun _ _ _ h => h) (by rfl) ?_ (by assumption) ?_
          rotate_left
          · intro w hSw; (try dsimp only at hSw); go_simp; try (with_reducible rfl)
          try simp only [Act.put, List.setIfInBounds_toArray, List.set_cons_zero, List.set_cons_succ]
          refine wpAnyH_ready (rs := [4]) (by kernel_rfl) (by simp) ?_
          refine (AllReadyH.cons (o := _) (by simp only [List.getElem?_toArray, List.getElem?_cons_succ, List.getElem?_cons_zero]; rfl) (fun K hK => ?_) AllReadyH.nil)
          refine step_run rfl (by go_simp; rw [HLK1.out]; rfl) ?_
          have p_B0_0 := (cell_of_row w5 _ 0 _ _ _ B0.out).trans (show _ = some (Value.int .u32 (m : Int)) from rfl)
          have p_B0_1 := (cell_of_row w5 _ 1 _ _ _ B0.out).trans (show _ = some (s0) from rfl)
          have p_B0_2 := (cell_of_row w5 _ 2 _ _ _ B0.out).trans (show _ = some (s1) from rfl)
          have p_B0_3 := (cell_of_row w5 _ 3 _ _ _ B0.out).trans (show _ = some (s2) from rfl)
          have p_B3_0 := (cell_of_row w5 _ 0 _ _ _ B3.out).trans (show _ = some (Value.int .i64 id) from rfl)
          have p_B3_1 := (cell_of_row w5 _ 1 _ _ _ B3.out).trans (show _ = some (Value.slice va xs.length vc) from rfl)
          refine hK.out _ _ ⟨p_B0_0, p_B0_1, p_B0_2, p_B0_3, p_B3_0, p_B3_1⟩ (fun hHeld => ?_)
          clear p_B0_0 p_B0_1 p_B0_2 p_B0_3 p_B3_0 p_B3_1
          clear hK K
          try simp only [Act.put, List.setIfInBounds_toArray, List.set_cons_zero, List.set_cons_succ]
          refine take_runs (i := 5) (v := ?_) (by simp only [List.getElem?_toArray, List.getElem?_cons_succ, List.getElem?_cons_zero]; rfl) (by kernel_rfl) (by kernel_rfl) (by kernel_rfl) rfl (by exact fun _ _ _ h => h) (by rfl) ?_ (by assumption) ?_
          rotate_left
          · intro w hSw; (try dsimp only at hSw); go_simp; try (with_reducible rfl)
          try simp only [Act.put, List.setIfInBounds_toArray, List.set_cons_zero, List.set_cons_succ]
          refine wpAnyH_ready (rs := [8]) (by kernel_rfl) (by simp) ?_
          refine (AllReadyH.cons (o := _) (by simp only [List.getElem?_toArray, List.getElem?_cons_succ, List.getElem?_cons_zero]; rfl) (fun K hK => ?_) AllReadyH.nil)
          refine step_skip rfl (by go_simp; rw [HES.out]; rfl) ?_
          have tt : Turn (fun b => b = w.heap.size + 1) w5 w6 := turn_grown HG6.out (fun b hb => by cases hb; rfl)
          have hb0 := (Array.getElem?_eq_some_iff.1 B0.out).1; have hb3 := (Array.getElem?_eq_some_iff.1 B3.out).1; have yd := d.out.size; have yb := YB.out; have ym := YM.out
          replace B0 := Lib.hid ((tt.block w.heap.size hb0 (fun h => by omega)).trans B0.out)
          replace B3 := Lib.hid ((tt.block wr.heap.size hb3 (fun h => by have := HWR.out; omega)).trans B3.out)
          replace d := Lib.hid (below_turn d.out tt (fun b h => by omega) yd)
          clear tt hb0 hb3 yd yb ym
          have p_B0_0 := (cell_of_row w6 _ 0 _ _ _ B0.out).trans (show _ = some (Value.int .u32 (m : Int)) from rfl)
          have p_B0_1 := (cell_of_row w6 _ 1 _ _ _ B0.out).trans (show _ = some (s0) from rfl)
          have p_B0_2 := (cell_of_row w6 _ 2 _ _ _ B0.out).trans (show _ = some (s1) from rfl)
          have p_B0_3 := (cell_of_row w6 _ 3 _ _ _ B0.out).trans (show _ = some (s2) from rfl)
          have p_B3_0 := (cell_of_row w6 _ 0 _ _ _ B3.out).trans (show _ = some (Value.int .i64 id) from rfl)
          have p_B3_1 := (cell_of_row w6 _ 1 _ _ _ B3.out).trans (show _ = some (Value.slice va xs.length vc) from rfl)
          refine hK.out _ _ ⟨p_B0_0, p_B0_1, p_B0_2, p_B0_3, p_B3_0, p_B3_1⟩ (fun hHeld => ?_)
          clear p_B0_0 p_B0_1 p_B0_2 p_B0_3 p_B3_0 p_B3_1
          clear hK K
          try simp only [Act.put, List.setIfInBounds_toArray, List.set_cons_zero, List.set_cons_succ]
          refine wpAnyH_done (by kernel_rfl) ?_ _
          clear hHeld
          have OM9 : Hid (∃ D : DataW Unit, World.ownsMap w6 Tryz.prog 97 (plainElem (H := Unit) Tryz.prog 3) (w.heap.size + 1) (k + 1) D ∧ CountsD D (keysTo fs rs (k + 1))) := Lib.hid ⟨_, HO6.out, by rw [HK.out]; exact HD6.out⟩
          clear HO6 HD6 B3 HLK HEN HLK1 HES HG5 HG6
          go_wp2
          go_roundw
          case rel => exact ⟨k + 1, by omega, by go_num, OM9, B0, d⟩
          case measure => simp [intOf]; omega
    · obtain rfl : k = rs.length := by omega
      go_wp2
      go_ret
      exact ⟨rfl, OM.out, d.out⟩
end Go.Proofs.YtidhmgboknffkaaGreatDoor
namespace Go.Proofs.YtidhmgboknffkaaGreatDoor
open Go.RowKit Go.Maps
set_option linter.unusedVariables false
set_option linter.unusedSimpArgs false
def IsKeyM (kl : Lit) (p : Nat × Nat × Nat) : Prop := p.1 < 16777216 ∧ p.2.1 < 16777216 ∧ p.2.2 < 16777216 ∧ kl = keyL p.1 p.2.1 p.2.2
/-- The work at a key. -/
noncomputable def gK (m : Nat) (os : List Int) (kl : Lit) : Int :=
  let p := @Classical.epsilon (Nat × Nat × Nat) ⟨(0, 0, 0)⟩ (IsKeyM kl)
  workK m os p.1 p.2.1 p.2.2
theorem keyL_inj {a b c a' b' c' : Nat} (ha : a < 16777216) (hb : b < 16777216) (hc : c < 16777216) (ha' : a' < 16777216) (hb' : b' < 16777216) (hc' : c' < 16777216) (h : keyL a b c = keyL a' b' c') : a = a' ∧ b = b' ∧ c = c' := by
  have h1 := keyL_of ha hb hc
  rw [h] at h1
  have := keyLawK.inj h1 (keyL_of ha' hb' hc')
  simp at this
  omega
theorem gK_at {m : Nat} {os : List Int} {a b c : Nat} (ha : a < 16777216) (hb : b < 16777216) (hc : c < 16777216) : gK m os (keyL a b c) = workK m os a b c := by
  have hex : ∃ p, IsKeyM (keyL a b c) p := ⟨(a, b, c), ha, hb, hc, rfl⟩
  have hp := @Classical.epsilon_spec (Nat × Nat × Nat) (IsKeyM (keyL a b c)) hex
  unfold gK
  have e : (⟨(0, 0, 0)⟩ : Nonempty (Nat × Nat × Nat)) = ⟨hex.choose⟩ := rfl
  dsimp only
  generalize @Classical.epsilon (Nat × Nat × Nat) _ (IsKeyM (keyL a b c)) = p at *
  obtain ⟨h1, h2, h3, h4⟩ := hp
  obtain ⟨e1, e2, e3⟩ := keyL_inj ha hb hc h1 h2 h3 h4
  rw [← e1, ← e2, ← e3]
theorem gK_range {m : Nat} (h : m < 16777216) {os : List Int} (ho : os.length = 3) (kl : Lit) : 0 ≤ gK m os kl ∧ gK m os kl ≤ 75 := workK_range h ho _ _ _
theorem keys_are {fs : List (List SpanD)} {rs : List RowD} {k : Nat} {kl : Lit} (h : kl ∈ keysTo fs rs k) : ∃ a b c : Nat, a < 16777216 ∧ b < 16777216 ∧ c < 16777216 ∧ kl = keyL a b c := by
  obtain ⟨r, _, rfl⟩ := List.mem_map.1 h
  exact ⟨_, _, _, setM_lt .., setM_lt .., setM_lt .., rfl⟩
theorem mul_le_of {c g M N : Int} (h0 : 0 ≤ c) (h1 : c ≤ N) (g0 : 0 ≤ g) (g1 : g ≤ M) : 0 ≤ c * g ∧ c * g ≤ N * M :=
  ⟨Int.mul_nonneg h0 g0, Int.le_trans (Int.mul_le_mul_of_nonneg_right h1 g0) (Int.mul_le_mul_of_nonneg_left g1 (Int.le_trans h0 h1))⟩
set_option maxHeartbeats 16000000 in
set_option maxRecDepth 100000 in
theorem implWorkOfMap (m : Nat) (s0 s1 s2 : Value) (bm n : Nat) (D : DataW Unit) (L : List Lit) (x0 x1 x2 : Int) (w : World) (hown : w.ownsMap Tryz.prog 97 (plainElem (H := Unit) Tryz.prog 3) bm n D) (hcd : CountsD D L) (hL : L.length ≤ 1048576)
    (hkeys : ∀ k ∈ L, ∃ a b c : Nat, a < 16777216 ∧ b < 16777216 ∧ c < 16777216 ∧ k = keyL a b c) (hm : m < 16777216) (h0 : 0 ≤ x0 ∧ x0 ≤ 2) (h1 : 0 ≤ x1 ∧ x1 ≤ 2) (h2 : 0 ≤ x2 ∧ x2 ≤ 2) :
    Calls Tryz.prog 28 #[ciV m s0 s1 s2, .map (some bm), .agg #[.int .i64 x0, .int .i64 x1, .int .i64 x2]] w fun e w' => e = .returned (.int .i64 ((L.map (gK m [x0, x1, x2])).sum)) ∧ Below w.heap.size w w' := by
  have HG := Lib.hid (fun kl => gK_range hm (os := [x0, x1, x2]) rfl kl)
  have HP := Lib.hid (fun a b c ha hb hc w => implProbe m s0 s1 s2 a b c x0 x1 x2 w hm ha hb hc h0 h1 h2)
  have HGK := Lib.hid (fun a b c ha hb hc => @gK_at m [x0, x1, x2] a b c ha hb hc)
  have HCD := Lib.hid hcd; have HK := Lib.hid hkeys; have HLL := Lib.hid hL
  have d := Lib.hid (((Below.refl w.heap.size w).alloc (Nat.le_refl _) (.cells #[.int .u32 (m : Int), s0, s1, s2] 63)).alloc (by simp) (.cells #[.int .i64 x0, .int .i64 x1, .int .i64 x2] 69))
  have B0 : Hid (((w.alloc (.cells #[.int .u32 (m : Int), s0, s1, s2] 63)).alloc (.cells #[.int .i64 x0, .int .i64 x1, .int .i64 x2] 69)).heap[w.heap.size]? = some (.cells #[.int .u32 (m : Int), s0, s1, s2] 63 (0, 0))) := Lib.hid (by rw [Below.heap_alloc _ _ _ (by simp)]; exact heap_alloc_new w _)
  have B1 : Hid (((w.alloc (.cells #[.int .u32 (m : Int), s0, s1, s2] 63)).alloc (.cells #[.int .i64 x0, .int .i64 x1, .int .i64 x2] 69)).heap[(w.heap.size + 1)]? = some (.cells #[.int .i64 x0, .int .i64 x1, .int .i64 x2] 69 (0, 0))) := Lib.hid (by
    have := heap_alloc_new (w.alloc (.cells #[.int .u32 (m : Int), s0, s1, s2] 63)) (.cells #[.int .i64 x0, .int .i64 x1, .int .i64 x2] 69)
    simpa only [World.size_alloc] using this)
  have HO : Hid (((w.alloc (.cells #[.int .u32 (m : Int), s0, s1, s2] 63)).alloc (.cells #[.int .i64 x0, .int .i64 x1, .int .i64 x2] 69)).ownsMap Tryz.prog 97 (plainElem (H := Unit) Tryz.prog 3) bm n D) := Lib.hid ((hown.alloc _).alloc _)
  have HBM := Lib.hid hown.lt
  have HSZ : Hid (((w.alloc (.cells #[.int .u32 (m : Int), s0, s1, s2] 63)).alloc (.cells #[.int .i64 x0, .int .i64 x1, .int .i64 x2] 69)).heap.size = w.heap.size + 1 + 1) := Lib.hid (by simp)
  clear hown hcd hL hkeys hm h0 h1 h2
  go_enter Tryz.func28, Tryz.ntmps28
  go_wp2_with (first
    | (at_range; refine wpList_range_own _ rfl _ 66 rfl 97 3 keyedK Tryz.underlying66 (plainElem (H := Unit) Tryz.prog 3) bm n D rfl HO.out ?_; intro w0 hrg0 hg0 hs0)
    | go_in)
  go_frame
  generalize ((w.alloc (.cells #[.int .u32 (m : Int), s0, s1, s2] 63)).alloc (.cells #[.int .i64 x0, .int .i64 x1, .int .i64 x2] 69)) = W at *
  have hb0 : Below w.heap.size w w0 := d.out.grown (hg0) d.out.size (fun j hj => by cases hj)
  have k0 := (hg0.block w.heap.size (Array.getElem?_eq_some_iff.1 B0.out).1 (by simp)).trans B0.out
  have k1 := (hg0.block (w.heap.size + 1) (Array.getElem?_eq_some_iff.1 B1.out).1 (by simp)).trans B1.out
  have HS0 : Hid (doneS (gK m [x0, x1, x2]) (Maps.has D) L = 0) := Lib.hid (doneS_start (fun k hk => HCD.out.here k hk))
  have HRG := Lib.hid hrg0
  have K0 := Lib.hid k0; have K1 := Lib.hid k1; have HD0 := Lib.hid hb0
  clear hrg0 hg0 hs0 hb0 k0 k1 B0 B1 d HO
  go_loopw [7] (fun s wr => ∃ (left : Lit → Bool) (cnt : Nat) (sum : Int), s = .int .i64 sum ∧ Hid (wr.ranges Tryz.prog 97 (plainElem (H := Unit) Tryz.prog 3) bm W.heap.size n D left cnt) ∧ Hid (sum = doneS (gK m [x0, x1, x2]) left L) ∧ Hid (∀ kl, left kl = true → kl ∈ L) ∧ Hid (wr.heap[w.heap.size]? = some (.cells #[.int .u32 (m : Int), s0, s1, s2] 63 (0, 0))) ∧ Hid (wr.heap[(w.heap.size + 1)]? = some (.cells #[.int .i64 x0, .int .i64 x1, .int .i64 x2] 69 (0, 0))) ∧ Hid (Below w.heap.size w wr)) (fun _ wr => wr.rangeLeft bm W.heap.size)
  case atStart => exact ⟨_, _, 0, rfl, HRG, Lib.hid HS0.out.symm, Lib.hid (fun kl h => HCD.out.only kl h), K0, K1, HD0⟩
  case round =>
    clear HRG HS0 K0 K1 HD0
    obtain ⟨left, cnt, sum, rfl, HRG, HSUM, HLEFT, B0, B1, d⟩ := hrel
    have hrg := HRG.out
    go_wp2_with (first
      | (at_next; refine wpList_next_ranges _ rfl _ rfl 97 keyedK (plainElem (H := Unit) Tryz.prog 3) (fun v : Value => v) (fun c : Int => Value.int .i64 c) (fun key kl hkey => ⟨key, rfl⟩) (fun v y hv => by obtain ⟨c, rfl, _⟩ := plainElem_int_inv Tryz.underlying3 hv; exact ⟨c, rfl⟩) bm W.heap.size n _ _ _ rfl hrg ?_ ?_)
      | go_in)
    · intro _ hl0
      have HE : Hid (sum = (L.map (gK m [x0, x1, x2])).sum) := Lib.hid (by rw [HSUM.out]; exact doneS_end hl0)
      clear hrg HSUM hl0
      go_wp2
      go_ret
      exact ⟨congrArg (fun z => Ending.returned (Value.int .i64 z)) HE.out, d.out⟩
    · intro x c kl yd yp w1 cnt1 hkey hlk hv hat hrg1 hlt hg1 hs1 hen
      obtain ⟨a, b, c2, ha, hb, hc, rfl⟩ := HK.out kl (HLEFT.out kl hlk)
      obtain rfl := keyLawK.inj hkey (keyL_of ha hb hc)
      obtain ⟨c', hc', hy, hwc⟩ := plainElem_int_inv Tryz.underlying3 hv
      injection hc' with _ hc''
      subst hc''
      simp only [Prod.mk.injEq] at hy
      obtain ⟨rfl, rfl⟩ := hy
      have hcn := countsD_at HCD.out keyL_lit (hat (.lit (.int .i64 0)))
      have hcl := cntK_le L (keyL a b c2)
      have hc0 : 0 ≤ c := by omega
      have hc1 : c ≤ 1048576 := by have := HLL.out; omega
      have HSN := Lib.hid (doneS_step (g := gK m [x0, x1, x2]) hlk L)
      have hsr := doneS_range HG.out left L
      rw [← HSUM.out] at hsr
      have hsn := doneS_range HG.out (fun z => left z && !z.sameKey (keyL a b c2)) L
      rw [HSN.out, ← HSUM.out, ← hcn, HGK.out a b c2 ha hb hc] at hsn
      rw [← HSUM.out, ← hcn, HGK.out a b c2 ha hb hc] at HSN
      have hll := HLL.out
      have hs0 : 0 ≤ sum := hsr.1
      have hs2 : sum ≤ 78643200 := by omega
      have hgk := HG.out (keyL a b c2)
      rw [HGK.out a b c2 ha hb hc] at hgk
      have HPR := Lib.hid (HP.out a b c2 ha hb hc)
      change Hid (∀ w, Calls Tryz.prog _ _ w fun e w' => e = .returned (.tuple #[_, .int .i64 (workK m [x0, x1, x2] a b c2)]) ∧ _) at HPR
      generalize (probeM (pick3 a b c2) [x0, x1, x2] m 0).1 = rest at *
      generalize workK m [x0, x1, x2] a b c2 = g at *
      have hmul := mul_le_of hc0 hc1 hgk.1 hgk.2
      have HMUL := Lib.hid hmul
      have hm0 := hmul.1
      have hm1 : c * g ≤ 78643200 := by have := hmul.2; omega
      have HHS := Lib.hid hsn
      have HLEFT2 : Hid (∀ kl, (left kl && !kl.sameKey (keyL a b c2)) = true → kl ∈ L) := Lib.hid (fun kl h => HLEFT.out kl (by revert h; cases left kl <;> simp))
      have HR1 := Lib.hid hrg1
      have hne0 := hrg1.ne
      have B0' := Lib.hid ((hg1.block w.heap.size (Array.getElem?_eq_some_iff.1 B0.out).1 (by have := HSZ.out; simp; omega)).trans B0.out)
      have B1' := Lib.hid ((hg1.block (w.heap.size + 1) (Array.getElem?_eq_some_iff.1 B1.out).1 (by have := HSZ.out; simp; omega)).trans B1.out)
      have d1 := Lib.hid (d.out.grown hg1 d.out.size (fun j hj => by cases hj; have := HSZ.out; omega))
      have HLT := Lib.hid hlt
      have HOLD := Lib.hid hrg.left_eq
      clear hkey hv hat hrg1 hlt hg1 hs1 hcn hcl hsr hsn hll hgk hmul hne0 hrg HSUM HLEFT B0 B1 d HRG hlk HK HP HGK HG
      have hal : Below w1.heap.size w1 (w1.alloc (.cells #[.int .u32 (a : Int), .int .u32 (b : Int), .int .u32 (c2 : Int)] 97)) := (Below.refl _ _).alloc (Nat.le_refl _) _
      have K0 := (hal.block w.heap.size (Array.getElem?_eq_some_iff.1 B0'.out).1).trans B0'.out
      have K1 := (hal.block (w.heap.size + 1) (Array.getElem?_eq_some_iff.1 B1'.out).1).trans B1'.out
      have p0 := (cell_of_row (w1.alloc (.cells #[.int .u32 (a : Int), .int .u32 (b : Int), .int .u32 (c2 : Int)] 97)) _ 0 _ _ _ K0).trans (show _ = some (Value.int .u32 (m : Int)) from rfl)
      have p1 := (cell_of_row (w1.alloc (.cells #[.int .u32 (a : Int), .int .u32 (b : Int), .int .u32 (c2 : Int)] 97)) _ 1 _ _ _ K0).trans (show _ = some (s0) from rfl)
      have p2 := (cell_of_row (w1.alloc (.cells #[.int .u32 (a : Int), .int .u32 (b : Int), .int .u32 (c2 : Int)] 97)) _ 2 _ _ _ K0).trans (show _ = some (s1) from rfl)
      have p3 := (cell_of_row (w1.alloc (.cells #[.int .u32 (a : Int), .int .u32 (b : Int), .int .u32 (c2 : Int)] 97)) _ 3 _ _ _ K0).trans (show _ = some (s2) from rfl)
      have q0 := (cell_of_row (w1.alloc (.cells #[.int .u32 (a : Int), .int .u32 (b : Int), .int .u32 (c2 : Int)] 97)) _ 0 _ _ _ K1).trans (show _ = some (Value.int .i64 x0) from rfl)
      have q1 := (cell_of_row (w1.alloc (.cells #[.int .u32 (a : Int), .int .u32 (b : Int), .int .u32 (c2 : Int)] 97)) _ 1 _ _ _ K1).trans (show _ = some (Value.int .i64 x1) from rfl)
      have q2 := (cell_of_row (w1.alloc (.cells #[.int .u32 (a : Int), .int .u32 (b : Int), .int .u32 (c2 : Int)] 97)) _ 2 _ _ _ K1).trans (show _ = some (Value.int .i64 x2) from rfl)
      clear K0 K1
      go_wp2_with fail
      clear p0 p1 p2 p3 q0 q1 q2 hen
      generalize (w1.alloc (.cells #[.int .u32 (a : Int), .int .u32 (b : Int), .int .u32 (c2 : Int)] 97)) = W2 at *
      refine (HPR.out W2).mono ?_
      rintro e w3 ⟨rfl, c3⟩
      have hbb := hal.trans (c3.mono hal.size)
      have HR3 := Lib.hid (HR1.out.kept (below_grown hbb none) (by simp) (by simp))
      have B03 := Lib.hid ((hbb.block w.heap.size (Array.getElem?_eq_some_iff.1 B0'.out).1).trans B0'.out)
      have B13 := Lib.hid ((hbb.block (w.heap.size + 1) (Array.getElem?_eq_some_iff.1 B1'.out).1).trans B1'.out)
      have d3 := Lib.hid (d1.out.trans (hbb.mono d1.out.size))
      clear c3 hal hbb HPR HR1 B0' B1' d1
      go_wp2
      go_roundw
      case rel => exact ⟨_, cnt1, sum + c * g, by first | rfl | (congr 1; omega), HR3, Lib.hid HSN.out.symm, HLEFT2, B03, B13, d3⟩
      case measure => rw [HR3.out.left_eq, HOLD.out]; exact HLT.out
end Go.Proofs.YtidhmgboknffkaaGreatDoor
namespace Go.Proofs.YtidhmgboknffkaaGreatDoor
open Go.RowKit
set_option linter.unusedVariables false
theorem list3 {os : List Int} (h : os.length = 3) : os = [os.getD 0 0, os.getD 1 0, os.getD 2 0] := by
  match os, h with
  | [a, b, c], _ => rfl
theorem work_keys {qs : List QD} {fs : List (List SpanD)} {rs : List RowD} {os : List Int} (hx : isIndexB qs fs = true) (ho : orderB os = true) :
    ((keysTo fs rs rs.length).map (gK (maskL (allL qs)) [os.getD 0 0, os.getD 1 0, os.getD 2 0])).sum = workL qs fs rs os := by
  rw [← list3 (order_len ho), mworkL_yes hx ho]
  unfold keysTo
  rw [List.take_length, List.map_map]
  congr 1
  apply List.map_congr_left
  intro r _
  exact gK_at (setM_lt ..) (setM_lt ..) (setM_lt ..)
end Go.Proofs.YtidhmgboknffkaaGreatDoor
namespace Go.Proofs.YtidhmgboknffkaaGreatDoor
open Go.RowKit
set_option linter.unusedVariables false
set_option linter.unusedSimpArgs false
/-- The slice v owns the numbers xs, in a block of an order's type. -/
def OwnsX (w : World) (B : Nat) (v : Value) (xs : List Int) : Prop := w.ownsRow B 69 1 v xs.length (xs.map (Value.int .i64))
def MarkedX (w : World) (B : Nat) (v : Value) (n : Nat) (k : Int) (e : Ending) (w' : World) : Prop := e = .returned (.int .i64 (k + (n : Int))) ∧ OwnsX w' B v (marks k n) ∧ w.grownBy w' v.ownBlock
theorem ownsX_len {w : World} {B : Nat} {a : Option Addr} {n cap : Nat} {xs : List Int} (h : OwnsX w B (.slice a n cap) xs) : n = xs.length := by
  rcases h.2 with ⟨h', h0⟩ | ⟨_, _, _, h', _⟩
  · simp only [Value.slice.injEq] at h'; omega
  · simp only [Value.slice.injEq] at h'; exact h'.2.1
theorem ownsX_form {w : World} {B : Nat} {v : Value} {xs : List Int} (h : OwnsX w B v xs) : (v = .slice none 0 0 ∧ xs = []) ∨ ∃ g cap, v = .slice (some ⟨g, 0, none⟩) xs.length cap ∧ B ≤ g ∧ g < w.heap.size := by
  rcases h.2 with ⟨rfl, h0⟩ | ⟨g, cap, cur, rfl, hb, hg, _⟩
  · exact .inl ⟨rfl, List.eq_nil_of_length_eq_zero h0⟩
  · exact .inr ⟨g, cap, rfl, hb, (Array.getElem?_eq_some_iff.1 hg).1⟩
theorem ownsX_cell {w : World} {B g n cap j : Nat} {xs : List Int} {x : Int} (h : OwnsX w B (.slice (some ⟨g, 0, none⟩) n cap) xs) (hx : xs[j]? = some x) : w.cell? ⟨g, j, none⟩ = some (.int .i64 x) := by
  have := World.ownsRow.cells h (g := g) rfl j (.int .i64 x) (by simp [hx])
  have e : (⟨g, 0, none⟩ : Addr).add j = ⟨g, j, none⟩ := by unfold Addr.add; split <;> simp_all
  rwa [e] at this
theorem ownsX_frozen {w : World} {B g n cap : Nat} {xs : List Int} (h : OwnsX w B (.slice (some ⟨g, 0, none⟩) n cap) xs) (j : Nat) : w.frozen? ⟨g, j, none⟩ = false := by
  obtain rfl := ownsX_len h
  exact World.ownsRow.frozenAt h j
theorem ownsX_store {w : World} {B g n cap : Nat} {xs : List Int} (h : OwnsX w B (.slice (some ⟨g, 0, none⟩) n cap) xs) (j : Nat) (x : Int) : OwnsX (w.setCell ⟨g, j, none⟩ (.int .i64 x)) B (.slice (some ⟨g, 0, none⟩) n cap) (xs.set j x) := by
  obtain rfl := ownsX_len h
  have := (World.ownsRow.stored h j (.int .i64 x)).1
  unfold OwnsX
  rw [List.length_set, List.map_set]
  exact this
set_option maxRecDepth 100000 in
theorem markOrdS_any (v : Value) (xs : List Int) (B : Nat) (k : Int) (w : World) (h : OwnsX w B v xs) (hn : xs.length ≤ 1048576) (k0 : 0 ≤ k) (k1 : k ≤ 1073741824) :
    Calls Tryz.prog 15 #[v, .int .i64 k] w (MarkedX w B v xs.length k) := by
  have H := Lib.hid h
  rcases ownsX_form h with ⟨rfl, rfl⟩ | ⟨g, cap, rfl, hBg, hgl⟩
  · clear h
    go_enter Tryz.func15, Tryz.ntmps15
    go_wp2
    go_loop [1, 5] (fun m i => i = .int .i64 0 ∧ m = .int .i64 k) (fun _ _ => 0)
    case atStart => exact ⟨rfl, rfl⟩
    case round =>
      obtain ⟨rfl, rfl⟩ := hrel
      go_wp2
      go_ret
      exact ⟨by simp, by rw [show marks k 0 = [] from rfl]; exact H.out, World.grownBy.refl _ _⟩
  · clear h
    go_enter Tryz.func15, Tryz.ntmps15
    go_wp2
    go_loopw [1, 5] (fun m i wr => ∃ j : Nat, j ≤ xs.length ∧ i = .int .i64 j ∧ m = .int .i64 (k + (j : Int)) ∧ OwnsX wr B (.slice (some ⟨g, 0, none⟩) xs.length cap) (markedTo xs k j) ∧ w.grownBy wr (some g)) (fun _ i _ => xs.length - (intOf i).toNat)
    case atStart => exact ⟨0, Nat.zero_le _, rfl, by simp, by rw [show markedTo xs k 0 = xs by simp [markedTo, marks]]; exact H.out, World.grownBy.refl _ _⟩
    case round =>
      obtain ⟨j, hj, rfl, rfl, hown, hgr⟩ := hrel
      by_cases hlt : j < xs.length
      · have i1 : (0 : Int) ≤ (j : Int) := by omega
        have i2 : (j : Int) < (xs.length : Int) := by omega
        have c1 := ownsX_cell hown (markedTo_at xs k j hlt)
        have f1 := ownsX_frozen hown j
        have hst := ownsX_store hown j (k + (j : Int))
        rw [markedTo_step xs k j hlt] at hst
        have hg2 := grown_more hgr (grownBy_store wr g j (.int .i64 (k + (j : Int))))
        have HST := Lib.hid hst
        clear hst hown hgr
        go_wp2
        go_roundw
        case rel => exact ⟨j + 1, by omega, by go_num, by simp; omega, HST.out, hg2⟩
        case measure => simp [intOf]; omega
      · obtain rfl : j = xs.length := by omega
        rw [markedTo_all] at hown
        go_wp2
        go_ret
        exact ⟨rfl, hown, hgr⟩
theorem slX_own {w : World} {F : Nat → Prop} {v : Value} {xs : List Int} (h : SlO 69 tInt w F v xs) : OwnsX w 0 v xs ∧ ∀ b, v.ownBlock = some b → F b := by
  obtain ⟨L, us, Fs, h1, h2, h3, h4⟩ := h
  refine ⟨?_, h2⟩
  have e : L = xs.map (Value.int .i64) := by
    apply List.ext_getElem?
    intro i
    by_cases hi : i < xs.length
    · obtain ⟨g1, g2, _⟩ := h3 i hi
      have g3 := g1 0 (by decide)
      have g4 : us i = [.int .i64 (xs.getD i 0)] := g2
      have e : i * tInt.n + 0 = i := by show i * 1 + 0 = _; omega
      rw [e, g4] at g3
      rw [g3]
      simp [List.getD, hi]
    · have hl : L.length = xs.length * 1 := h1.1
      rw [List.getElem?_eq_none (by omega), List.getElem?_eq_none (by simp; omega)]
  rw [e] at h1
  exact h1
theorem own_slX {w : World} {F : Nat → Prop} {v : Value} {xs : List Int} {B : Nat} (h : OwnsX w B v xs) (hF : ∀ b, v.ownBlock = some b → F b) : SlO 69 tInt w F v xs := by
  refine ⟨_, fun j => [.int .i64 (xs.getD j 0)], fun _ _ => False, row_low h (Nat.zero_le _), hF, fun j hj => ⟨fun i hi => ?_, rfl, fun b hb => False.elim hb⟩, fun i j _ _ _ b hb => False.elim hb⟩
  have hi0 : i < 1 := hi
  obtain rfl : i = 0 := by omega
  have e : j * tInt.n + 0 = j := by show j * 1 + 0 = _; omega
  rw [e]
  simp [List.getD, hj]
theorem markOrdS_X (v : Value) (xs : List Int) (F : Nat → Prop) (k : Int) (w : World) (h : SlO 69 tInt w F v xs) (hs : zL tInt xs ≤ 1048576) (k0 : 0 ≤ k) (k1 : k ≤ 1073741824) :
    Calls Tryz.prog 15 #[v, .int .i64 k] w fun e w' => e = .returned (.int .i64 (k + (ndL tInt xs : Int))) ∧ SlO 69 tInt w' F v (mAll tInt xs k) ∧ Turn F w w' := by
  rw [zL_ints] at hs
  obtain ⟨h1, h2⟩ := slX_own h
  refine (markOrdS_any v xs 0 k w h1 hs k0 k1).mono ?_
  rintro e w' ⟨rfl, o, g⟩
  rw [ndL_ints, mAll_ints]
  exact ⟨rfl, own_slX o h2, turn_grown g h2⟩
theorem slX_block {w : World} {b : Nat} {x y z : Int} (h : w.heap[b]? = some (.cells #[.int .i64 x, .int .i64 y, .int .i64 z] 69 (0, 0))) : SlO 69 tInt w (fun c => c = b) (.slice (some ⟨b, 0, none⟩) 3 3) [x, y, z] :=
  own_slX (B := 0) ⟨rfl, Or.inr ⟨b, 3, _, rfl, Nat.zero_le _, h, Nat.le_refl _, by decide, rfl, rfl⟩⟩ (fun c hc => by simp [Value.ownBlock] at hc; exact hc.symm)
end Go.Proofs.YtidhmgboknffkaaGreatDoor
namespace Go.Proofs.YtidhmgboknffkaaGreatDoor
open Go.RowKit
set_option linter.unusedVariables false
set_option linter.unusedSimpArgs false
theorem turn_grownBy {w w' : World} {b : Nat} (t : Turn (fun x => x = b) w w') : w.grownBy w' (some b) := ⟨t.os, t.tape, t.output, t.size, fun i hi hne => t.block i hi (fun e => hne (by rw [e]))⟩
/-- The best order so far, field by field. -/
def bK (f : List Int → Int) (k j : Nat) : Int := ((bestK f k).1).getD j 0
theorem bK_list (f : List Int → Int) {k : Nat} (h : k ≤ 6) : (bestK f k).1 = [bK f k 0, bK f k 1, bK f k 2] := by
  have := (bestK_mem f k h).1
  unfold bK
  simp only [ordersL, List.mem_cons, List.not_mem_nil, or_false] at this
  rcases this with e | e | e | e | e | e <;> rw [e] <;> rfl
theorem bK_less (f : List Int → Int) {k : Nat} (hk : k < 6) (h : f [oN k 0, oN k 1, oN k 2] < (bestK f k).2) : (bestK f (k + 1)).2 = f [oN k 0, oN k 1, oN k 2] ∧ bK f (k + 1) 0 = oN k 0 ∧ bK f (k + 1) 1 = oN k 1 ∧ bK f (k + 1) 2 = oN k 2 := by
  rw [← oN_list hk] at h ⊢
  unfold bK
  rw [show bestK f (k + 1) = (ordersL.getD k [], f (ordersL.getD k [])) from by rw [bestK, if_pos h]]
  exact ⟨rfl, rfl, rfl, rfl⟩
theorem bK_stay (f : List Int → Int) {k : Nat} (hk : k < 6) (h : ¬ f [oN k 0, oN k 1, oN k 2] < (bestK f k).2) : bestK f (k + 1) = bestK f k := by
  rw [← oN_list hk] at h
  rw [bestK, if_neg h]
theorem oN_range {k : Nat} (h : k < 6) (j : Nat) (hj : j < 3) : 0 ≤ oN k j ∧ oN k j ≤ 2 := by
  rcases (show k = 0 ∨ k = 1 ∨ k = 2 ∨ k = 3 ∨ k = 4 ∨ k = 5 by omega) with rfl | rfl | rfl | rfl | rfl | rfl <;> rcases (show j = 0 ∨ j = 1 ∨ j = 2 by omega) with rfl | rfl | rfl <;> decide
theorem keys_sum {qs : List QD} {fs : List (List SpanD)} {rs : List RowD} (hx : isIndexB qs fs = true) {x0 x1 x2 : Int} (ho : orderB [x0, x1, x2] = true) :
    ((keysTo fs rs rs.length).map (gK (maskL (allL qs)) [x0, x1, x2])).sum = workL qs fs rs [x0, x1, x2] := work_keys (os := [x0, x1, x2]) hx ho
theorem best_size (qs : List QD) (fs : List (List SpanD)) (rs : List RowD) : zL tInt (bestL qs fs rs) ≤ 1048576 := by
  rw [zL_ints]
  cases hx : isIndexB qs fs with
  | false => rw [mbestL_no hx]; decide
  | true => rw [mbestL_yes hx, bK_list _ (Nat.le_refl 6)]; show 3 ≤ 1048576; omega
set_option maxHeartbeats 32000000 in
set_option maxRecDepth 100000 in
theorem implBestOrder (qv fv rv : Value) (qs : List QD) (fs : List (List SpanD)) (rs : List RowD) (w : World) (h1 : SlR tQuery w qv qs) (h2 : SlR tSpanS w fv fs) (h3 : SlR tRow w rv rs) (hs : zL tQuery qs ≤ 1048576) (hz : zL tSpanS fs ≤ 1048576) (hv : zL tRow rs ≤ 1048576) (ht : OrdT w) :
    Calls Tryz.prog 9 #[.agg #[qv, fv], rv] w fun e w' => ∃ (g0 : Value) (G0 : Nat → Prop), e = .returned g0 ∧ SlO 69 tInt w' G0 g0 (bestL qs fs rs) ∧ (∀ b, G0 b → w.heap.size ≤ b) ∧ Below w.heap.size w w' := by
  obtain ⟨qa, qc, rfl⟩ := slR_len h1
  obtain ⟨fa, fc, rfl⟩ := slR_len h2
  obtain ⟨ra, rc, rfl⟩ := slR_len h3
  have HV : Hid (szL rs ≤ 1048576) := Lib.hid (by rw [← zL_rows]; exact hv)
  have HLR := Lib.hid (zL_len hv)
  have d := Lib.hid ((Below.refl w.heap.size w).alloc (Nat.le_refl _) (.cells #[.slice qa qs.length qc, .slice fa fs.length fc] 34))
  have B0 : Hid ((w.alloc (.cells #[.slice qa qs.length qc, .slice fa fs.length fc] 34)).heap[w.heap.size]? = some (.cells #[.slice qa qs.length qc, .slice fa fs.length fc] 34 (0, 0))) := Lib.hid (heap_alloc_new w _)
  have H1 := Lib.hid h1; have H2 := Lib.hid h2; have H3 := Lib.hid h3; have HT := Lib.hid ht
  have HZ := Lib.hid hz
  cases hx : isIndexB qs fs with
  | false =>
    have HX := Lib.hid (fun w g1 g2 => implCheck_no (.slice qa qs.length qc) (.slice fa fs.length fc) qs fs w g1 g2 hs hz hx)
    have HE : Hid (bestL qs fs rs = []) := Lib.hid (mbestL_no hx)
    clear h1 h2 h3 hs hz hv hx ht
    go_enter Tryz.func9, Tryz.ntmps9
    go_wp2_with fail
    generalize (w.alloc (.cells #[.slice qa qs.length qc, .slice fa fs.length fc] 34)) = W at *
    refine (HX.out W (slR_below tQuery_law H1.out d.out) (slR_below tSpanS_law H2.out d.out)).mono ?_
    rintro e w1 ⟨rfl, c1⟩
    replace B0 := Lib.hid ((c1.block w.heap.size (Array.getElem?_eq_some_iff.1 B0.out).1).trans B0.out)
    replace d := Lib.hid (d.out.trans (c1.mono d.out.size))
    clear c1
    have D := Lib.hid (d.out.alloc d.out.size (.cells #[.int .u32 0, .slice none 0 0, .slice none 0 0, .slice none 0 0] 63))
    go_wp2
    go_ret
    exact ⟨_, fun _ => False, rfl, by rw [HE.out]; exact slO_nil _ _ _ _, fun b h => h.elim, D.out⟩
  | true =>
    have HX := Lib.hid (fun w g1 g2 => implCheck_yes (.slice qa qs.length qc) (.slice fa fs.length fc) qs fs w g1 g2 hs hz hx)
    have HI := Lib.hid hx
    have HE : Hid (bestL qs fs rs = (bestK (workL qs fs rs) 6).1) := Lib.hid (mbestL_yes hx)
    have HF3 : Hid (fs.length = 3) := Lib.hid (by rw [(idx_iff hx).2, fldTo_len])
    clear h1 h2 h3 hs hz hv hx ht
    go_enter Tryz.func9, Tryz.ntmps9
    go_wp2_with fail
    generalize (w.alloc (.cells #[.slice qa qs.length qc, .slice fa fs.length fc] 34)) = W at *
    refine (HX.out W (slR_below tQuery_law H1.out d.out) (slR_below tSpanS_law H2.out d.out)).mono ?_
    rintro e w1 ⟨s0, s1, s2, rfl, hci, c1⟩
    have HSZ1 : Hid (w.heap.size ≤ w1.heap.size) := Lib.hid (Nat.le_trans d.out.size c1.size)
    replace B0 := Lib.hid ((c1.block w.heap.size (Array.getElem?_eq_some_iff.1 B0.out).1).trans B0.out)
    replace d := Lib.hid (d.out.trans (c1.mono d.out.size))
    clear c1
    obtain ⟨ta0, cp0, rfl⟩ := slR_len hci.1
    obtain ⟨ta1, cp1, rfl⟩ := slR_len hci.2.1
    obtain ⟨ta2, cp2, rfl⟩ := slR_len hci.2.2
    generalize (fs.getD 0 []).length = ln0 at *
    generalize (fs.getD 1 []).length = ln1 at *
    generalize (fs.getD 2 []).length = ln2 at *
    have HCI := Lib.hid hci
    clear hci
    have hmx := maskL_lt (allL qs)
    generalize hm : maskL (allL qs) = m at *
    have HM := Lib.hid hm
    have HMX := Lib.hid hmx
    clear hm hmx
    clear B0
    go_wp2_with fail
    have hal : Below w1.heap.size w1 (w1.alloc (.cells #[.int .u32 (m : Int), .slice ta0 ln0 cp0, .slice ta1 ln1 cp1, .slice ta2 ln2 cp2] 63)) := (Below.refl _ _).alloc (Nat.le_refl _) _
    have B2 : Hid ((w1.alloc (.cells #[.int .u32 (m : Int), .slice ta0 ln0 cp0, .slice ta1 ln1 cp1, .slice ta2 ln2 cp2] 63)).heap[w1.heap.size]? = some (.cells #[.int .u32 (m : Int), .slice ta0 ln0 cp0, .slice ta1 ln1 cp1, .slice ta2 ln2 cp2] 63 (0, 0))) := Lib.hid (heap_alloc_new _ _)
    replace HCI := Lib.hid (ci_below HCI.out hal)
    replace d := Lib.hid (d.out.trans (hal.mono d.out.size))
    clear hal
    generalize (w1.alloc (.cells #[.int .u32 (m : Int), .slice ta0 ln0 cp0, .slice ta1 ln1 cp1, .slice ta2 ln2 cp2] 63)) = W2 at *
    have HB2S : Hid (w1.heap.size < W2.heap.size) := Lib.hid (Array.getElem?_eq_some_iff.1 B2.out).1
    have HBN : Hid (w.heap.size ≤ w1.heap.size) := Lib.hid (HSZ1.out)
    refine (implCountSets m (.slice ta0 ln0 cp0) (.slice ta1 ln1 cp1) (.slice ta2 ln2 cp2) fs (.slice ra rs.length rc) rs W2 HCI.out (slR_rows (slR_below tRow_law H3.out d.out)) HZ.out HF3.out HV.out).mono ?_
    rintro e w3 ⟨rfl, hD, c3⟩
    obtain ⟨D, hown, hcd⟩ := hD
    have HOW := Lib.hid hown; have HCD := Lib.hid hcd
    clear hown hcd
    replace B2 := Lib.hid ((c3.block w1.heap.size (Array.getElem?_eq_some_iff.1 B2.out).1).trans B2.out)
    replace HCI := Lib.hid (ci_below HCI.out c3)
    replace d := Lib.hid (d.out.trans (c3.mono d.out.size))
    clear c3
    have HYM := Lib.hid HOW.out.lt
    have HW12 : Hid (w1.heap.size < W2.heap.size + 1) := Lib.hid (by have := (Array.getElem?_eq_some_iff.1 B2.out).1; have := HYM.out; have : w1.heap.size < W2.heap.size := HB2S.out; omega)
    generalize hbm : W2.heap.size + 1 = bm at *
    clear hbm
    have T3 := HT.out.on d.out
    have t0 : w3.cell? ⟨0, 0, none⟩ = some (.int .i64 0) := T3 0 (by omega)
    have t1 : w3.cell? ⟨0, 1, none⟩ = some (.int .i64 1) := T3 1 (by omega)
    have t2 : w3.cell? ⟨0, 2, none⟩ = some (.int .i64 2) := T3 2 (by omega)
    have hal : Below w3.heap.size w3 (w3.alloc (.cells #[.int .i64 0, .int .i64 1, .int .i64 2] 69)) := (Below.refl _ _).alloc (Nat.le_refl _) _
    have k2 := (hal.block w1.heap.size (Array.getElem?_eq_some_iff.1 B2.out).1).trans B2.out
    have p0 := (cell_of_row (w3.alloc (.cells #[.int .i64 0, .int .i64 1, .int .i64 2] 69)) _ 0 _ _ _ k2).trans (show _ = some (Value.int .u32 (m : Int)) from rfl)
    have p1 := (cell_of_row (w3.alloc (.cells #[.int .i64 0, .int .i64 1, .int .i64 2] 69)) _ 1 _ _ _ k2).trans (show _ = some (Value.slice ta0 ln0 cp0) from rfl)
    have p2 := (cell_of_row (w3.alloc (.cells #[.int .i64 0, .int .i64 1, .int .i64 2] 69)) _ 2 _ _ _ k2).trans (show _ = some (Value.slice ta1 ln1 cp1) from rfl)
    have p3 := (cell_of_row (w3.alloc (.cells #[.int .i64 0, .int .i64 1, .int .i64 2] 69)) _ 3 _ _ _ k2).trans (show _ = some (Value.slice ta2 ln2 cp2) from rfl)
    clear hal k2 T3
    go_wp2_with fail
    clear p0 p1 p2 p3 t0 t1 t2
    replace HOW := Lib.hid (HOW.out.alloc (.cells #[.int .i64 0, .int .i64 1, .int .i64 2] 69))
    have hal : Below w3.heap.size w3 (w3.alloc (.cells #[.int .i64 0, .int .i64 1, .int .i64 2] 69)) := (Below.refl _ _).alloc (Nat.le_refl _) _
    have B3 : Hid ((w3.alloc (.cells #[.int .i64 0, .int .i64 1, .int .i64 2] 69)).heap[w3.heap.size]? = some (.cells #[.int .i64 0, .int .i64 1, .int .i64 2] 69 (0, 0))) := Lib.hid (heap_alloc_new _ _)
    replace B2 := Lib.hid ((hal.block w1.heap.size (Array.getElem?_eq_some_iff.1 B2.out).1).trans B2.out)
    replace HCI := Lib.hid (ci_below HCI.out hal)
    replace d := Lib.hid (d.out.trans (hal.mono d.out.size))
    clear hal
    generalize (w3.alloc (.cells #[.int .i64 0, .int .i64 1, .int .i64 2] 69)) = W4 at *
    have Y3 : Hid (w3.heap.size < W4.heap.size) := Lib.hid (Array.getElem?_eq_some_iff.1 B3.out).1
    refine (implWorkOfMap m (.slice ta0 ln0 cp0) (.slice ta1 ln1 cp1) (.slice ta2 ln2 cp2) _ rs.length D (keysTo fs rs rs.length) 0 1 2 W4 HOW.out HCD.out (Nat.le_trans (keysTo_len fs rs rs.length) HLR.out) (fun k hk => keys_are hk) HMX.out ⟨by omega, by omega⟩ ⟨by omega, by omega⟩ ⟨by omega, by omega⟩).mono ?_
    rintro e w5 ⟨rfl, c5⟩
    replace HOW := Lib.hid (HOW.out.kept (below_grown c5 none) (by simp))
    have Y5 : Hid (w3.heap.size < w5.heap.size) := Lib.hid (Nat.lt_of_lt_of_le Y3.out c5.size)
    replace B2 := Lib.hid ((c5.block w1.heap.size (Array.getElem?_eq_some_iff.1 B2.out).1).trans B2.out)
    replace B3 := Lib.hid ((c5.block w3.heap.size (Array.getElem?_eq_some_iff.1 B3.out).1).trans B3.out)
    replace HCI := Lib.hid (ci_below HCI.out c5)
    replace d := Lib.hid (d.out.trans (c5.mono d.out.size))
    clear c5 Y3
    have HK0 : Hid (((keysTo fs rs rs.length).map (gK m [0, 1, 2])).sum = workL qs fs rs [0, 1, 2]) := Lib.hid (by have := keys_sum (rs := rs) HI.out (x0 := 0) (x1 := 1) (x2 := 2) (by decide); rw [HM.out] at this; exact this)
    rw [HK0.out]
    have HKS : Hid (∀ k, k < 6 → ((keysTo fs rs rs.length).map (gK m [oN k 0, oN k 1, oN k 2])).sum = workL qs fs rs [oN k 0, oN k 1, oN k 2]) := Lib.hid (fun k hk => by have := keys_sum (rs := rs) HI.out (oN_in hk); rw [HM.out] at this; exact this)
    have BF0 : Hid ((bestK (workL qs fs rs) 0).2 = workL qs fs rs [0, 1, 2] ∧ bK (workL qs fs rs) 0 0 = 0 ∧ bK (workL qs fs rs) 0 1 = 1 ∧ bK (workL qs fs rs) 0 2 = 2) := Lib.hid ⟨rfl, rfl, rfl, rfl⟩
    generalize workL qs fs rs = f at *
    have T5 := HT.out.on d.out
    have t0 : w5.cell? ⟨0, 0, none⟩ = some (.int .i64 0) := T5 0 (by omega)
    have t1 : w5.cell? ⟨0, 1, none⟩ = some (.int .i64 1) := T5 1 (by omega)
    have t2 : w5.cell? ⟨0, 2, none⟩ = some (.int .i64 2) := T5 2 (by omega)
    have t3 : w5.cell? ⟨0, 3, none⟩ = some (.int .i64 0) := T5 3 (by omega)
    have t4 : w5.cell? ⟨0, 4, none⟩ = some (.int .i64 2) := T5 4 (by omega)
    have t5 : w5.cell? ⟨0, 5, none⟩ = some (.int .i64 1) := T5 5 (by omega)
    have t6 : w5.cell? ⟨0, 6, none⟩ = some (.int .i64 1) := T5 6 (by omega)
    have t7 : w5.cell? ⟨0, 7, none⟩ = some (.int .i64 0) := T5 7 (by omega)
    have t8 : w5.cell? ⟨0, 8, none⟩ = some (.int .i64 2) := T5 8 (by omega)
    have t9 : w5.cell? ⟨0, 9, none⟩ = some (.int .i64 1) := T5 9 (by omega)
    have t10 : w5.cell? ⟨0, 10, none⟩ = some (.int .i64 2) := T5 10 (by omega)
    have t11 : w5.cell? ⟨0, 11, none⟩ = some (.int .i64 0) := T5 11 (by omega)
    have t12 : w5.cell? ⟨0, 12, none⟩ = some (.int .i64 2) := T5 12 (by omega)
    have t13 : w5.cell? ⟨0, 13, none⟩ = some (.int .i64 0) := T5 13 (by omega)
    have t14 : w5.cell? ⟨0, 14, none⟩ = some (.int .i64 1) := T5 14 (by omega)
    have t15 : w5.cell? ⟨0, 15, none⟩ = some (.int .i64 2) := T5 15 (by omega)
    have t16 : w5.cell? ⟨0, 16, none⟩ = some (.int .i64 1) := T5 16 (by omega)
    have t17 : w5.cell? ⟨0, 17, none⟩ = some (.int .i64 0) := T5 17 (by omega)
    clear T5
    go_wp2
    clear t0 t1 t2 t3 t4 t5 t6 t7 t8 t9 t10 t11 t12 t13 t14 t15 t16 t17
    generalize hbb : w3.heap.size = bb at *
    have HBB := Lib.hid hbb
    have HMB : Hid (bm < bb) := Lib.hid HYM.out
    have HNB : Hid (w1.heap.size < bb) := Lib.hid (by have := HMB.out; have := HW12.out; omega)
    have HWB : Hid (w.heap.size ≤ bb) := Lib.hid (by have := HNB.out; have := HBN.out; omega)
    clear hbb
    go_loopw [9, 30] (fun s i wr => ∃ k : Nat, k ≤ 6 ∧ i = .int .i64 k ∧ s = .int .i64 (bestK f k).2 ∧ Hid (wr.heap[w1.heap.size]? = some (.cells #[.int .u32 (m : Int), .slice ta0 ln0 cp0, .slice ta1 ln1 cp1, .slice ta2 ln2 cp2] 63 (0, 0))) ∧ Hid (wr.heap[bb]? = some (.cells #[.int .i64 (bK f k 0), .int .i64 (bK f k 1), .int .i64 (bK f k 2)] 69 (0, 0))) ∧ Hid (wr.ownsMap Tryz.prog 97 (plainElem (H := Unit) Tryz.prog 3) bm rs.length D) ∧ Hid (Below w.heap.size w wr)) (fun _ i _ => 6 - (intOf i).toNat)
    case atStart => exact ⟨0, Nat.zero_le _, rfl, by rw [BF0.out.1], B2, by rw [BF0.out.2.1, BF0.out.2.2.1, BF0.out.2.2.2]; exact B3, HOW, d⟩
    case round =>
      clear B2 B3 HOW d BF0 HK0
      obtain ⟨k, hk, rfl, rfl, B2, B3, HOW, d⟩ := hrel
      by_cases hlt : k < 6
      · have hI := idxO hlt
        have i1 : (0 : Int) ≤ (k : Int) := by omega
        have i2 : (k : Int) < 6 := by omega
        have HX0 := Lib.hid (oN_range hlt 0 (by omega)); have HX1 := Lib.hid (oN_range hlt 1 (by omega)); have HX2 := Lib.hid (oN_range hlt 2 (by omega))
        have HSUM := Lib.hid (HKS.out k hlt)
        have HLESS := Lib.hid (bK_less f hlt)
        have HSTAY := Lib.hid (bK_stay f hlt)
        generalize oN k 0 = y0 at *
        generalize oN k 1 = y1 at *
        generalize oN k 2 = y2 at *
        have hal : Below wr.heap.size wr (wr.alloc (.cells #[.int .i64 y0, .int .i64 y1, .int .i64 y2] 69)) := (Below.refl _ _).alloc (Nat.le_refl _) _
        have k2 := (hal.block w1.heap.size (Array.getElem?_eq_some_iff.1 B2.out).1).trans B2.out
        have p0 := (cell_of_row (wr.alloc (.cells #[.int .i64 y0, .int .i64 y1, .int .i64 y2] 69)) _ 0 _ _ _ k2).trans (show _ = some (Value.int .u32 (m : Int)) from rfl)
        have p1 := (cell_of_row (wr.alloc (.cells #[.int .i64 y0, .int .i64 y1, .int .i64 y2] 69)) _ 1 _ _ _ k2).trans (show _ = some (Value.slice ta0 ln0 cp0) from rfl)
        have p2 := (cell_of_row (wr.alloc (.cells #[.int .i64 y0, .int .i64 y1, .int .i64 y2] 69)) _ 2 _ _ _ k2).trans (show _ = some (Value.slice ta1 ln1 cp1) from rfl)
        have p3 := (cell_of_row (wr.alloc (.cells #[.int .i64 y0, .int .i64 y1, .int .i64 y2] 69)) _ 3 _ _ _ k2).trans (show _ = some (Value.slice ta2 ln2 cp2) from rfl)
        clear hal k2
        go_wp2_with fail
        clear p0 p1 p2 p3 hI
        replace HOW := Lib.hid (HOW.out.alloc (.cells #[.int .i64 y0, .int .i64 y1, .int .i64 y2] 69))
        have hal : Below wr.heap.size wr (wr.alloc (.cells #[.int .i64 y0, .int .i64 y1, .int .i64 y2] 69)) := (Below.refl _ _).alloc (Nat.le_refl _) _
        have B4 : Hid ((wr.alloc (.cells #[.int .i64 y0, .int .i64 y1, .int .i64 y2] 69)).heap[wr.heap.size]? = some (.cells #[.int .i64 y0, .int .i64 y1, .int .i64 y2] 69 (0, 0))) := Lib.hid (heap_alloc_new _ _)
        replace B2 := Lib.hid ((hal.block w1.heap.size (Array.getElem?_eq_some_iff.1 B2.out).1).trans B2.out)
        replace B3 := Lib.hid ((hal.block bb (Array.getElem?_eq_some_iff.1 B3.out).1).trans B3.out)
        replace d := Lib.hid (d.out.trans (hal.mono d.out.size))
        clear hal
        generalize (wr.alloc (.cells #[.int .i64 y0, .int .i64 y1, .int .i64 y2] 69)) = W6 at *
        refine (implWorkOfMap m (.slice ta0 ln0 cp0) (.slice ta1 ln1 cp1) (.slice ta2 ln2 cp2) _ rs.length D (keysTo fs rs rs.length) y0 y1 y2 W6 HOW.out HCD.out (Nat.le_trans (keysTo_len fs rs rs.length) HLR.out) (fun k hk => keys_are hk) HMX.out HX0.out HX1.out HX2.out).mono ?_
        rintro e w7 ⟨rfl, c7⟩
        replace HOW := Lib.hid (HOW.out.kept (below_grown c7 none) (by simp))
        replace B2 := Lib.hid ((c7.block w1.heap.size (Array.getElem?_eq_some_iff.1 B2.out).1).trans B2.out)
        replace B3 := Lib.hid ((c7.block bb (Array.getElem?_eq_some_iff.1 B3.out).1).trans B3.out)
        replace B4 := Lib.hid ((c7.block wr.heap.size (Array.getElem?_eq_some_iff.1 B4.out).1).trans B4.out)
        replace d := Lib.hid (d.out.trans (c7.mono d.out.size))
        clear c7
        rw [HSUM.out]
        by_cases hlw : f [y0, y1, y2] < (bestK f k).2
        · have HN := Lib.hid (HLESS.out hlw)
          clear HLESS HSTAY HSUM HX0 HX1 HX2
          have yb := HBB.out
          have c0 := (cell_of_row w7 _ 0 _ _ _ B4.out).trans (show _ = some (Value.int .i64 y0) from rfl)
          have c1 := (cell_of_row w7 _ 1 _ _ _ B4.out).trans (show _ = some (Value.int .i64 y1) from rfl)
          have c2 := (cell_of_row w7 _ 2 _ _ _ B4.out).trans (show _ = some (Value.int .i64 y2) from rfl)
          have z0 := (cell_of_row w7 _ 0 _ _ _ B3.out).trans (show _ = some (Value.int .i64 (bK f k 0)) from rfl)
          have g0 := frozen_of_row w7 _ 0 _ _ B3.out
          have z1 := (cell_of_row w7 _ 1 _ _ _ B3.out).trans (show _ = some (Value.int .i64 (bK f k 1)) from rfl)
          have g1 := frozen_of_row w7 _ 1 _ _ B3.out
          have z2 := (cell_of_row w7 _ 2 _ _ _ B3.out).trans (show _ = some (Value.int .i64 (bK f k 2)) from rfl)
          have g2 := frozen_of_row w7 _ 2 _ _ B3.out
          have tt : Turn (fun b => b = bb) w7 (((w7.setCell ⟨bb, 0, none⟩ (.int .i64 y0)).setCell ⟨bb, 1, none⟩ (.int .i64 y1)).setCell ⟨bb, 2, none⟩ (.int .i64 y2)) := ((((Turn.refl (fun b => b = bb) _).trans (turn_set (G := fun b => b = bb) (g := bb) (j := 0) (u := .int .i64 y0) rfl)).trans (turn_set (G := fun b => b = bb) (g := bb) (j := 1) (u := .int .i64 y1) rfl)).trans (turn_set (G := fun b => b = bb) (g := bb) (j := 2) (u := .int .i64 y2) rfl))
          have r := (heap_setCell_same _ bb 2 _ _ (.int .i64 y2) (heap_setCell_same _ bb 1 _ _ (.int .i64 y1) (heap_setCell_same w7 bb 0 _ _ (.int .i64 y0) B3.out)))
          simp at r
          have K3 : Hid ((((w7.setCell ⟨bb, 0, none⟩ (.int .i64 y0)).setCell ⟨bb, 1, none⟩ (.int .i64 y1)).setCell ⟨bb, 2, none⟩ (.int .i64 y2)).heap[bb]? = some (.cells #[.int .i64 y0, .int .i64 y1, .int .i64 y2] 69 (0, 0))) := Lib.hid r
          have yw := HWB.out; have ym := HMB.out; have yn := HNB.out
          have K2 := Lib.hid ((tt.block w1.heap.size (Array.getElem?_eq_some_iff.1 B2.out).1 (fun h => by omega)).trans B2.out)
          have KM := Lib.hid (HOW.out.kept (turn_grownBy tt) (by simp; omega))
          have KD := Lib.hid (below_turn d.out tt (fun b h => by omega) d.out.size)
          clear tt r yb yw ym yn B2 B3 B4 HOW d
          go_wp2
          go_roundw
          case rel => exact ⟨k + 1, by omega, by go_num, by rw [HN.out.1], K2, by rw [HN.out.2.1, HN.out.2.2.1, HN.out.2.2.2]; exact K3, KM, KD⟩
          case measure => simp [intOf]; omega
        · have HN := Lib.hid (HSTAY.out (by first | exact hlw | omega))
          clear HLESS HSTAY HSUM HX0 HX1 HX2 B4
          go_wp2
          go_roundw
          case rel => exact ⟨k + 1, by omega, by go_num, by rw [HN.out], B2, by unfold bK at B3 ⊢; rw [HN.out]; exact B3, HOW, d⟩
          case measure => simp [intOf]; omega
      · obtain rfl : k = 6 := by omega
        have HL := Lib.hid (bK_list f (Nat.le_refl 6))
        have yw := HWB.out
        go_wp2
        go_ret
        exact ⟨_, fun b => b = bb, rfl, by rw [HE.out, HL.out]; exact slX_block B3.out, fun b h => by omega, d.out⟩
end Go.Proofs.YtidhmgboknffkaaGreatDoor
namespace Go.Proofs.YtidhmgboknffkaaGreatDoor
open Go.RowKit
set_option linter.unusedVariables false
set_option linter.unusedSimpArgs false
/-- 'T{}' as a slice: no element yet. -/
theorem slO_empty {α : Type} {T : Ty α} (w : World) (e : TypeId) (F : Nat → Prop) (h : F w.heap.size) : SlO e T (w.alloc (.cells #[] e)) F (.slice (some ⟨w.heap.size, 0, none⟩) 0 0) [] := by
  refine ⟨[], fun _ => [], fun _ _ => False, ?_, fun b hb => ?_, fun j hj => by simp at hj, fun i j hi => by simp at hi⟩
  · have := World.ownsRow_made (base := 0) (e := e) (size := T.n) w #[] 0 (Nat.zero_le _) (by unfold maxLen; omega) (by simp)
    exact this
  · simp [Value.ownBlock] at hb; rw [← hb]; exact h
end Go.Proofs.YtidhmgboknffkaaGreatDoor
namespace Go.Proofs.YtidhmgboknffkaaGreatDoor
open Go.RowKit
set_option linter.unusedVariables false
end Go.Proofs.YtidhmgboknffkaaGreatDoor
namespace Go.Proofs.YtidhmgboknffkaaGreatDoor
open Go.RowKit
set_option linter.unusedVariables false
set_option linter.unusedSimpArgs false
end Go.Proofs.YtidhmgboknffkaaGreatDoor
namespace Go.Proofs.YtidhmgboknffkaaGreatDoor
open Go.RowKit
set_option linter.unusedVariables false
set_option linter.unusedSimpArgs false
end Go.Proofs.YtidhmgboknffkaaGreatDoor
namespace Go.Proofs.YtidhmgboknffkaaGreatDoor
open Go.RowKit
set_option linter.unusedVariables false
set_option linter.unusedSimpArgs false
theorem in_is (x lo hi : Int) (w : World) : Calls Tryz.prog 58 #[.int .i64 x, .int .i64 lo, .int .i64 hi] w fun e w' => e = .returned (.bool (decide (lo ≤ x ∧ x ≤ hi))) ∧ w' = w := by
  by_cases h : lo ≤ x ∧ x ≤ hi
  · rw [decide_eq_true h]; exact in_yes x lo hi w h.1 h.2
  · rw [decide_eq_false h]; exact in_no x lo hi w h
theorem stabS_no {a : List QD} {f v : Int} (h : (areQB a && (okF f && okV v)) = false) : stabL a f v = [] := by unfold stabL; rw [h]; rfl
theorem stabS_yes {a : List QD} {f v : Int} (h : (areQB a && (okF f && okV v)) = true) : stabL a f v = (a.filter (admQ f v)).map (·.1) := by unfold stabL; rw [h]; rfl
theorem admF_yes {a : List QD} {f v : Int} {k : Nat} (hk : k < a.length) (h : admQ f v (a.getD k q0D) = true) : ((a.take k).filter (admQ f v)).map (·.1) ++ [(a.getD k q0D).1] = ((a.take (k + 1)).filter (admQ f v)).map (·.1) := by
  have e : a.getD k q0D = a[k] := by simp [List.getD, hk]
  rw [e] at h ⊢
  rw [List.take_succ_eq_append_getElem hk, List.filter_append, List.map_append]
  simp [List.filter_cons, h]
theorem admF_no {a : List QD} {f v : Int} {k : Nat} (hk : k < a.length) (h : admQ f v (a.getD k q0D) = false) : ((a.take k).filter (admQ f v)).map (·.1) = ((a.take (k + 1)).filter (admQ f v)).map (·.1) := by
  have e : a.getD k q0D = a[k] := by simp [List.getD, hk]
  rw [e] at h
  rw [List.take_succ_eq_append_getElem hk, List.filter_append, List.map_append]
  simp [List.filter_cons, h]
theorem admF_len (a : List QD) (f v : Int) (k : Nat) : (((a.take k).filter (admQ f v)).map (·.1)).length ≤ a.length := by
  rw [List.length_map]
  have := List.length_filter_le (admQ f v) (a.take k)
  rw [List.length_take] at this
  omega
set_option maxHeartbeats 8000000 in
set_option maxRecDepth 100000 in
theorem specStabSet (va : Value) (a : List QD) (f v : Int) (w : World) (h : QueriesR w va a) (hs : szQL a ≤ 1048576) :
    Calls Tryz.prog 59 #[va, .int .i64 f, .int .i64 v] w (FreshInts w (stabL a f v)) := by
  have H := Lib.hid h
  have HS := Lib.hid hs
  have hn := szQL_len hs
  obtain ⟨ao, cap, rfl⟩ := queriesR_len h
  have HA := Lib.hid (fun w h => specAreQueries (.slice ao a.length cap) a w h hs)
  have HF : Hid (∀ w, Calls Tryz.prog 58 #[.int .i64 f, .int .i64 0, .int .i64 2] w fun e w' => e = .returned (.bool (okF f)) ∧ w' = w) := Lib.hid (fun w => in_is f 0 2 w)
  have HV : Hid (∀ w, Calls Tryz.prog 58 #[.int .i64 v, .int .i64 0, .int .i64 99] w fun e w' => e = .returned (.bool (okV v)) ∧ w' = w) := Lib.hid (fun w => in_is v 0 99 w)
  clear h hs
  cases ha : areQB a with
  | false =>
    have HE : Hid (stabL a f v = []) := Lib.hid (stabS_no (by rw [ha]; rfl))
    rw [ha] at HA
    clear ha HF HV
    rw [HE.out]
    clear HE
    go_enter Tryz.func59, Tryz.ntmps59
    go_wp2
    have hown := ownsN_lit w w.heap.size (Nat.le_refl _) #[] 0 [] rfl rfl (by decide)
    have hbel := (Below.refl w.heap.size w).alloc (Nat.le_refl _) (.cells #[] 3)
    generalize w.alloc (.cells #[] 3) = w0 at hown hbel ⊢
    go_loopw [7, 8] (fun v i wr => wr = w0 ∧ i = .int .i64 0 ∧ v = .slice (some ⟨w.heap.size, 0, none⟩) 0 0) (fun _ _ _ => 0)
    case atStart => exact ⟨rfl, rfl, rfl⟩
    case round =>
      obtain ⟨rfl, rfl, rfl⟩ := hrel
      by_cases hl : 0 < a.length
      · have i2 : (0 : Int) < (a.length : Int) := by omega
        go_wp2_with fail
        refine (HA.out _ (queriesR_below H.out hbel)).mono ?_
        rintro e w1 ⟨rfl, hb1⟩
        have hown1 := ownsN_below hown hb1
        have hbel1 := hbel.trans (hb1.mono hbel.size)
        clear hown hbel hb1
        go_wp2
        go_ret
        exact ⟨_, rfl, hown1, hbel1⟩
      · have hl2 : ¬ ((0 : Int) < (a.length : Int)) := by omega
        go_wp2
        go_ret
        exact ⟨_, rfl, hown, hbel⟩
  | true =>
    rw [ha] at HA
    cases hf : okF f with
    | false =>
      have HE : Hid (stabL a f v = []) := Lib.hid (stabS_no (by rw [ha, hf]; rfl))
      rw [hf] at HF
      clear ha hf HV
      rw [HE.out]
      clear HE
      go_enter Tryz.func59, Tryz.ntmps59
      go_wp2
      have hown := ownsN_lit w w.heap.size (Nat.le_refl _) #[] 0 [] rfl rfl (by decide)
      have hbel := (Below.refl w.heap.size w).alloc (Nat.le_refl _) (.cells #[] 3)
      generalize w.alloc (.cells #[] 3) = w0 at hown hbel ⊢
      go_loopw [7, 8] (fun v i wr => wr = w0 ∧ i = .int .i64 0 ∧ v = .slice (some ⟨w.heap.size, 0, none⟩) 0 0) (fun _ _ _ => 0)
      case atStart => exact ⟨rfl, rfl, rfl⟩
      case round =>
        obtain ⟨rfl, rfl, rfl⟩ := hrel
        by_cases hl : 0 < a.length
        · have i2 : (0 : Int) < (a.length : Int) := by omega
          go_wp2_with fail
          refine (HA.out _ (queriesR_below H.out hbel)).mono ?_
          rintro e w1 ⟨rfl, hb1⟩
          have hown1 := ownsN_below hown hb1
          have hbel1 := hbel.trans (hb1.mono hbel.size)
          clear hown hbel hb1
          go_wp2_with fail
          refine (HF.out _).mono ?_
          rintro e w2 ⟨rfl, rfl⟩
          go_wp2
          go_ret
          exact ⟨_, rfl, hown1, hbel1⟩
        · have hl2 : ¬ ((0 : Int) < (a.length : Int)) := by omega
          go_wp2
          go_ret
          exact ⟨_, rfl, hown, hbel⟩
    | true =>
      rw [hf] at HF
      cases hv : okV v with
      | false =>
        have HE : Hid (stabL a f v = []) := Lib.hid (stabS_no (by rw [ha, hf, hv]; rfl))
        rw [hv] at HV
        clear ha hf hv
        rw [HE.out]
        clear HE
        go_enter Tryz.func59, Tryz.ntmps59
        go_wp2
        have hown := ownsN_lit w w.heap.size (Nat.le_refl _) #[] 0 [] rfl rfl (by decide)
        have hbel := (Below.refl w.heap.size w).alloc (Nat.le_refl _) (.cells #[] 3)
        generalize w.alloc (.cells #[] 3) = w0 at hown hbel ⊢
        go_loopw [7, 8] (fun v i wr => wr = w0 ∧ i = .int .i64 0 ∧ v = .slice (some ⟨w.heap.size, 0, none⟩) 0 0) (fun _ _ _ => 0)
        case atStart => exact ⟨rfl, rfl, rfl⟩
        case round =>
          obtain ⟨rfl, rfl, rfl⟩ := hrel
          by_cases hl : 0 < a.length
          · have i2 : (0 : Int) < (a.length : Int) := by omega
            go_wp2_with fail
            refine (HA.out _ (queriesR_below H.out hbel)).mono ?_
            rintro e w1 ⟨rfl, hb1⟩
            have hown1 := ownsN_below hown hb1
            have hbel1 := hbel.trans (hb1.mono hbel.size)
            clear hown hbel hb1
            go_wp2_with fail
            refine (HF.out _).mono ?_
            rintro e w2 ⟨rfl, rfl⟩
            go_wp2_with fail
            refine (HV.out _).mono ?_
            rintro e w2 ⟨rfl, rfl⟩
            go_wp2
            go_ret
            exact ⟨_, rfl, hown1, hbel1⟩
          · have hl2 : ¬ ((0 : Int) < (a.length : Int)) := by omega
            go_wp2
            go_ret
            exact ⟨_, rfl, hown, hbel⟩
      | true =>
        have HE := Lib.hid (stabS_yes (a := a) (f := f) (v := v) (by rw [ha, hf, hv]; rfl))
        rw [hv] at HV
        rw [HE.out]
        clear ha hf hv HE
        go_enter Tryz.func59, Tryz.ntmps59
        go_wp2
        go_loopw [7, 8] (fun o i wr => ∃ k : Nat, k ≤ a.length ∧ i = .int .i64 k ∧ OwnsN wr w.heap.size o (((a.take k).filter (admQ f v)).map (·.1)) ∧ Below w.heap.size w wr) (fun _ i _ => a.length - (intOf i).toNat)
        case atStart => exact ⟨0, Nat.zero_le _, rfl, ownsN_lit w _ (Nat.le_refl _) #[] 0 [] rfl rfl (by decide), (Below.refl _ _).alloc (Nat.le_refl _) _⟩
        case round =>
          obtain ⟨k, hk, rfl, hown, hbel⟩ := hrel
          by_cases hlt : k < a.length
          · have i1 : (0 : Int) ≤ (k : Int) := by omega
            have i2 : (k : Int) < (a.length : Int) := by omega
            have HL := Lib.hid (admF_len a f v k)
            have HYES := Lib.hid (fun h => admF_yes (f := f) (v := v) hlt h)
            have HNO := Lib.hid (fun h => admF_no (f := f) (v := v) hlt h)
            have HCL := Lib.hid (szQL_at HS.out hlt).1
            go_wp2_with fail
            refine (HA.out _ (queriesR_below H.out hbel)).mono ?_
            rintro e w1 ⟨rfl, hb1⟩
            have hown1 := ownsN_below hown hb1
            have hbel1 := hbel.trans (hb1.mono hbel.size)
            clear hown hbel hb1
            go_wp2_with fail
            refine (HF.out _).mono ?_
            rintro e w2 ⟨rfl, rfl⟩
            go_wp2_with fail
            refine (HV.out _).mono ?_
            rintro e w2 ⟨rfl, rfl⟩
            have hB1 := hbel1.size
            obtain ⟨b, off, cap', cv, ov, hv, hbl, hc1, hc2, hc3, hc4, hC, hO⟩ := queriesR_at (queriesR_below H.out hbel1) hlt
            simp only [Value.slice.injEq] at hv
            obtain ⟨rfl, _, rfl⟩ := hv
            generalize a.getD k q0D = q at *
            obtain ⟨qid, qtn, qc, qo⟩ := q
            simp only at hc1 hc2 hc3 hc4 hC hO HCL HYES
            have HAQ : Hid (admQ f v (qid, qtn, qc, qo) = admB qc f v) := Lib.hid rfl
            obtain ⟨ca, ccap, rfl⟩ := condsR_len hC
            obtain ⟨oa, ocap, rfl⟩ := ints_len hO
            have HCC := Lib.hid hC
            clear hC hO
            generalize ((a.take k).filter (admQ f v)).map (·.1) = ac at *
            go_wp2_with fail
            refine (specAdmits qid qtn f v (.slice ca qc.length ccap) (.slice oa qo.length ocap) qc _ HCC.out HCL.out).mono ?_
            rintro e w3 ⟨rfl, hb3⟩
            rw [← HAQ.out]
            have hown3 := ownsN_below hown1 hb3
            have hbel3 := hbel1.trans (hb3.mono hbel1.size)
            have hB3 := hbel3.size
            have p1 := (hb3.cell (p := ⟨b, off + k * 4, none⟩) hbl).trans hc1
            clear hown1 hbel1 hb3 hc1 hc2 hc3 hc4
            cases hmb : admQ f v (qid, qtn, qc, qo) with
            | true =>
              have HY := Lib.hid (HYES.out hmb)
              clear hmb HYES HNO
              go_wp2_with (at_builtin; refine append_ints rfl (.tmp 35) (.tmp 41) rfl w.heap.size _ _ rfl hown3 hB3 _ [qid] 1 _ rfl (by first | rfl | (simp; done)) rfl (by have := HL.out; simp; omega) ?_)
              intro v' w4 hown4 hb4
              rw [HY.out] at hown4
              have hb5 := hbel3.trans hb4
              clear hown3 hbel3 hb4 p1
              go_wp2
              go_roundw
              case rel => exact ⟨k + 1, by omega, by go_num, hown4, hb5⟩
              case measure => simp [intOf]; omega
            | false =>
              have HY := Lib.hid (HNO.out hmb)
              clear hmb HYES HNO
              rw [HY.out] at hown3
              go_wp2
              go_roundw
              case rel => exact ⟨k + 1, by omega, by go_num, hown3, hbel3⟩
              case measure => simp [intOf]; omega
          · obtain rfl : k = a.length := by omega
            rw [List.take_length] at hown
            go_wp2
            go_ret
            exact ⟨_, rfl, hown, hbel⟩
end Go.Proofs.YtidhmgboknffkaaGreatDoor
namespace Go.Proofs.YtidhmgboknffkaaGreatDoor
open Go.RowKit
set_option linter.unusedVariables false
set_option linter.unusedSimpArgs false
set_option maxHeartbeats 8000000 in
set_option maxRecDepth 100000 in
theorem specStabIndex (va : Value) (a : List QD) (f : Int) (w : World) (h : QueriesR w va a) (hs : szQL a ≤ 1048576) :
    Calls Tryz.prog 39 #[va, .int .i64 f] w (FreshSpans w (spansL a f)) := by
  have H := Lib.hid h
  obtain ⟨ao, cap, rfl⟩ := queriesR_len h
  have HA := Lib.hid (fun w h => specAreQueries (.slice ao a.length cap) a w h hs)
  have HF : Hid (∀ w, Calls Tryz.prog 58 #[.int .i64 f, .int .i64 0, .int .i64 2] w fun e w' => e = .returned (.bool (okF f)) ∧ w' = w) := Lib.hid (fun w => in_is f 0 2 w)
  have HST : Hid (∀ (k : Nat) (w : World), QueriesR w (.slice ao a.length cap) a → Calls Tryz.prog 59 #[.slice ao a.length cap, .int .i64 f, .int .i64 (k : Int)] w (FreshInts w (stabL a f k))) := Lib.hid (fun k w h => specStabSet _ a f k w h hs)
  have HLN : Hid (∀ k : Nat, (stabL a f k).length ≤ 24) := Lib.hid (fun k => stabL_len a f k)
  have HFL : Hid (∀ v : Int, (stabL a f v).length ≤ 24) := Lib.hid (fun v => stabL_len a f v)
  clear h hs
  cases ha : areQB a with
  | false =>
    have HE : Hid (spansL a f = []) := Lib.hid (spansL_no (by rw [ha, Bool.false_and]))
    rw [ha] at HA
    rw [HE.out]
    clear HF HE ha HLN HST
    have oe := ownsP_empty w
    have be := (Below.refl w.heap.size w).alloc (Nat.le_refl _) (.cells #[] 109)
    go_enter Tryz.func39, Tryz.ntmps39
    go_wp2_with fail
    generalize w.alloc (.cells #[] 109) = W0 at *
    refine (HA.out _ (queriesR_below H.out be)).mono ?_
    rintro e w1 ⟨rfl, b1⟩
    have b2 := be.trans (b1.mono be.size)
    have o2 := ownsP_below oe b1
    clear b1 oe be
    go_wp2
    go_ret
    exact ⟨_, rfl, o2, b2⟩
  | true =>
    rw [ha] at HA
    cases hf : okF f with
    | false =>
      have HE : Hid (spansL a f = []) := Lib.hid (spansL_no (by rw [ha, hf, Bool.and_false]))
      rw [hf] at HF
      rw [HE.out]
      clear HE ha hf HLN HST
      have oe := ownsP_empty w
      have be := (Below.refl w.heap.size w).alloc (Nat.le_refl _) (.cells #[] 109)
      go_enter Tryz.func39, Tryz.ntmps39
      go_wp2_with fail
      generalize w.alloc (.cells #[] 109) = W0 at *
      refine (HA.out _ (queriesR_below H.out be)).mono ?_
      rintro e w1 ⟨rfl, b1⟩
      have b2 := be.trans (b1.mono be.size)
      have o2 := ownsP_below oe b1
      clear b1 oe be
      go_wp2_with fail
      refine (HF.out _).mono ?_
      rintro e w2 ⟨rfl, rfl⟩
      go_wp2
      go_ret
      exact ⟨_, rfl, o2, b2⟩
    | true =>
      have HE : Hid (spansL a f = spansTo (stabL a f) 100) := Lib.hid (spansL_yes (by rw [ha, hf, Bool.and_self]))
      rw [hf] at HF
      rw [HE.out]
      obtain ⟨F, hF⟩ : ∃ F : Int → List Int, stabL a f = F := ⟨_, rfl⟩
      rw [hF] at HFL HLN HST ⊢
      obtain ⟨R, hR⟩ : ∃ R, spansTo F 100 = R := ⟨_, rfl⟩
      rw [hR]
      have HR := Lib.hid hR
      clear HE ha hf hF hR
      have oe := ownsP_empty w
      have be := (Below.refl w.heap.size w).alloc (Nat.le_refl _) (.cells #[] 109)
      go_enter Tryz.func39, Tryz.ntmps39
      go_wp2_with fail
      generalize w.alloc (.cells #[] 109) = W0 at *
      refine (HA.out _ (queriesR_below H.out be)).mono ?_
      rintro e w1 ⟨rfl, b1⟩
      have b2 := be.trans (b1.mono be.size)
      have o2 := ownsP_below oe b1
      clear b1 oe be
      go_wp2_with fail
      refine (HF.out _).mono ?_
      rintro e w2 ⟨rfl, rfl⟩
      go_wp2
      go_loopw [5, 6] (fun o i wr => ∃ k : Nat, k ≤ 100 ∧ i = .int .i64 k ∧ OwnsP wr w.heap.size o (spansTo F k) ∧ Below w.heap.size w wr) (fun _ i _ => 100 - (intOf i).toNat)
      case atStart => exact ⟨0, Nat.zero_le _, rfl, o2, b2⟩
      case round =>
        obtain ⟨k, hk, rfl, hown, hbel⟩ := hrel
        by_cases hlt : k < 100
        · have i1 : (0 : Int) ≤ (k : Int) := by omega
          have i2 : (k : Int) ≤ 99 := by omega
          have i4 : (k : Int) < 100 := by omega
          have HAL : Hid ((spansTo F k).length ≤ 100) := Lib.hid (by have := spansTo_len F k; omega)
          have HSL : Hid ((F (k : Int)).length ≤ 24) := Lib.hid (HLN.out k)
          have HST1 : Hid (0 < (spansTo F k).length → ((spansTo F k).getD ((spansTo F k).length - 1) p0D).2.2 = F (k : Int) → (spansTo F k).set ((spansTo F k).length - 1) (((spansTo F k).getD ((spansTo F k).length - 1) p0D).1, (k : Int), ((spansTo F k).getD ((spansTo F k).length - 1) p0D).2.2) = spansTo F (k + 1)) := Lib.hid (fun h0 h => stepP_set h0 h)
          have HST2 : Hid (¬ (0 < (spansTo F k).length ∧ ((spansTo F k).getD ((spansTo F k).length - 1) p0D).2.2 = F (k : Int)) → spansTo F k ++ [((k : Int), (k : Int), F (k : Int))] = spansTo F (k + 1)) := Lib.hid (fun h => stepP_app h)
          have HSTL : Hid (∀ j, j < (spansTo F k).length → ((spansTo F k).getD j p0D).2.2.length ≤ 24) := Lib.hid (fun j hj => (spansTo_sets (F := F) (M := 24) (fun v => HFL.out v) k _ (getD_mem hj)))
          generalize spansTo F k = acc at *
          obtain ⟨oa, ocap, rfl⟩ := ownsP_len hown
          have HOW := Lib.hid hown
          have HBL := Lib.hid hbel
          clear hown hbel
          go_wp2_with fail
          refine (HST.out k _ (queriesR_below H.out HBL.out)).mono ?_
          rintro e v1 ⟨su, rfl, os, b1⟩
          generalize F (k : Int) = s at *
          obtain ⟨sa, sc, rfl⟩ := ints_len (ownsN_ints os)
          have HOS := Lib.hid os
          have HB1 := Lib.hid b1
          clear os b1
          by_cases hp : 0 < acc.length
          · have hp2 : (0 : Int) < (acc.length : Int) := by omega
            obtain ⟨g, cap2, hv, hBg, hgw, hfz, vv, hc2, hc1, hI⟩ := ownsP_shape HOW.out hp
            simp only [Value.slice.injEq, true_and] at hv
            obtain ⟨rfl, rfl⟩ := hv
            obtain ⟨va2, vcap2, rfl⟩ := ints_len hI
            have d2 := (HB1.out.cell (p := ⟨g, (acc.length - 1) * 3 + 2, none⟩) hgw).trans hc2
            have d1 := (HB1.out.cell (p := ⟨g, (acc.length - 1) * 3 + 1, none⟩) hgw).trans hc1
            have HI1 := Lib.hid (ints_below hI HB1.out)
            have hxl := HSTL.out _ (show acc.length - 1 < acc.length by omega)
            obtain ⟨m, hm⟩ : ∃ m, acc.length = m + 1 := ⟨acc.length - 1, by omega⟩
            have HM := Lib.hid hm
            rw [show acc.length - 1 = m by omega] at d1 d2 HI1 hxl HST1 HST2
            have HW1 := Lib.hid (fun (u : World) (h : OwnsP u w.heap.size (.slice (some ⟨g, 0, none⟩) acc.length ocap) acc) => ownsP_to h (k := m) (by have := HM.out; omega) (k : Int))
            have HOW1 := Lib.hid (ownsP_below HOW.out HB1.out)
            rw [hm] at HOW HOW1 HW1
            have hm9 : m ≤ 99 := by have := HAL.out; omega
            have HMR := Lib.hid hp
            clear hc1 hc2 hI hfz HSTL hp hp2
            have hp2 : (0 : Int) < (m : Int) + 1 := by omega
            have hp3 : (m : Int) < (m : Int) + 1 := by omega
            have hp4 : (0 : Int) ≤ (m : Int) := by omega
            clear hm
            obtain ⟨r, hr⟩ : ∃ r, acc.getD m p0D = r := ⟨_, rfl⟩
            rw [hr] at d1 d2 HI1 hxl HST1 HST2 HW1
            clear hr
            obtain ⟨rf, rt, xs⟩ := r
            simp only at d1 d2 HI1 hxl HST1 HST2 HW1
            rw [HM.out]
            go_wp2_with fail
            refine (specInts (.slice va2 xs.length vcap2) (.slice sa s.length sc) xs s _ HI1.out (ownsN_ints HOS.out) (by omega) (by have := HSL.out; omega)).mono ?_
            rintro e v2 ⟨rfl, b2⟩
            have e1 := (b2.cell (p := ⟨g, m * 3 + 1, none⟩) (Nat.lt_of_lt_of_le hgw HB1.out.size)).trans d1
            have HO2 := Lib.hid (ownsP_below HOW1.out b2)
            have HC2 := Lib.hid ((HBL.out.trans (HB1.out.mono HBL.out.size)).trans (b2.mono (HBL.out.trans (HB1.out.mono HBL.out.size)).size))
            have HS2 := Lib.hid (ownsN_below HOS.out b2)
            clear d1 d2 HI1 HOW1
            cases hd : decide (xs = s) with
            | true =>
              have HX := Lib.hid (HST1.out (by have := HM.out; omega) (of_decide_eq_true hd))
              clear hd HST1 HST2
              have fz : v2.frozen? ⟨g, m * 3 + 1, none⟩ = false := by
                obtain ⟨cs2, vs2, q1, _⟩ := HO2.out
                rw [HM.out] at q1
                exact World.ownsRow.frozenAt q1 _
              have FO := Lib.hid (HW1.out v2 HO2.out)
              rw [HX.out] at FO
              have B4 := HC2.out.setCell (p := ⟨g, m * 3 + 1, none⟩) hBg (.int .i64 (k : Int))
              clear b2 HW1
              go_wp2
              go_roundw
              case rel => exact ⟨k + 1, by omega, by go_num, FO.out, B4⟩
              case measure => simp [intOf]; omega
            | false =>
              have HX := Lib.hid (HST2.out (fun g => of_decide_eq_false hd g.2))
              clear hd HST2 e1
              have HBW := Lib.hid (HB1.out.trans (b2.mono HB1.out.size))
              clear b2
              clear HST1 HW1 hp2 hp3 hp4
              obtain ⟨cs, vs, q1, q2, q3⟩ := HOW.out
              have HL1 := Lib.hid (fun (j : Nat) (hj : j < acc.length) (q : Nat) (e : (vs j).ownBlock = some q) => ((q2 j hj).2.2.2.1.lt q e).2)
              have HL2 := Lib.hid (fun (q : Nat) e => (q1.lt q e).2)
              have hbb := HBW.out
              have H1 := Lib.hid (ownsRow_below q1 hbb)
              have H2 := Lib.hid (fun (j : Nat) (hj : j < acc.length) => (⟨(q2 j hj).1, (q2 j hj).2.1, (q2 j hj).2.2.1, ownsN_below (q2 j hj).2.2.2.1 hbb, (q2 j hj).2.2.2.2⟩ : _ ∧ _ ∧ _ ∧ _ ∧ _))
              have H3 := Lib.hid q3
              have hal : Below v2.heap.size v2 (v2.alloc (.cells #[.int .i64 (k : Int), .int .i64 (k : Int), .slice sa s.length sc] 109)) := (Below.refl _ _).alloc (Nat.le_refl _) _
              have HAL2 := Lib.hid hal
              have HCA := Lib.hid (HC2.out.trans (hal.mono HC2.out.size))
              have oX : SpansC (v2.alloc (.cells #[.int .i64 (k : Int), .int .i64 (k : Int), .slice sa s.length sc] 109)) w.heap.size _ acc.length cs := spansC_kept H1.out hal
              rw [HM.out] at oX
              clear hal q1 q2 q3 hbb
              go_wp2_with (at_builtin; refine append_spans rfl (.tmp 47) (.tmp 52) rfl w.heap.size _ _ _ rfl oX HCA.out.size ⟨v2.heap.size, 0, none⟩ 1 1 [.int .i64 (k : Int), .int .i64 (k : Int), .slice sa s.length sc] rfl rfl (fun j u hj => by rw [Go.WideShapes.add_plain, Nat.zero_add, cell_lit]; simpa using hj) (by intro u hu; simp at hu; rcases hu with rfl | rfl | rfl <;> rfl) (by have := HAL.out; omega) ?_)
              intro x3 W3 oX3 gX3 _ hat3
              have oX4 : SpansC W3 w.heap.size x3 (acc.length + 1) (cs ++ [.int .i64 (k : Int), .int .i64 (k : Int), .slice sa s.length sc]) := by
                rw [HM.out]; exact oX3
              skip
              have FO := append_ownsP (r := ((k : Int), (k : Int), s)) H1.out H2.out H3.out HL1.out HL2.out HBL.out.size HS2.out HAL2.out gX3 oX4 (by simpa [World.size_alloc] using hat3)
              have FB := HCA.out.grown gX3 HCA.out.size (fun q e => (H1.out.lt q e).1)
              rw [HX.out] at FO
              clear oX oX3 oX4 gX3 hat3
              go_wp2
              go_roundw
              case rel => exact ⟨k + 1, by omega, by go_num, FO, FB⟩
              case measure => simp [intOf]; omega
          · have hz : acc.length = 0 := by omega
            have HX := Lib.hid (HST2.out (fun g => hp g.1))
            have HO2 := Lib.hid (ownsP_below HOW.out HB1.out)
            have HC2 := Lib.hid (HBL.out.trans (HB1.out.mono HBL.out.size))
            have HS2 := HOS
            have HBW := HB1
            clear HST2 hp HSTL
            rw [hz]
            clear HST1
            obtain ⟨cs, vs, q1, q2, q3⟩ := HOW.out
            have HL1 := Lib.hid (fun (j : Nat) (hj : j < acc.length) (q : Nat) (e : (vs j).ownBlock = some q) => ((q2 j hj).2.2.2.1.lt q e).2)
            have HL2 := Lib.hid (fun (q : Nat) e => (q1.lt q e).2)
            have hbb := HBW.out
            have H1 := Lib.hid (ownsRow_below q1 hbb)
            have H2 := Lib.hid (fun (j : Nat) (hj : j < acc.length) => (⟨(q2 j hj).1, (q2 j hj).2.1, (q2 j hj).2.2.1, ownsN_below (q2 j hj).2.2.2.1 hbb, (q2 j hj).2.2.2.2⟩ : _ ∧ _ ∧ _ ∧ _ ∧ _))
            have H3 := Lib.hid q3
            have hal : Below v1.heap.size v1 (v1.alloc (.cells #[.int .i64 (k : Int), .int .i64 (k : Int), .slice sa s.length sc] 109)) := (Below.refl _ _).alloc (Nat.le_refl _) _
            have HAL2 := Lib.hid hal
            have HCA := Lib.hid (HC2.out.trans (hal.mono HC2.out.size))
            have oX : SpansC (v1.alloc (.cells #[.int .i64 (k : Int), .int .i64 (k : Int), .slice sa s.length sc] 109)) w.heap.size _ acc.length cs := spansC_kept H1.out hal
            rw [hz] at oX
            clear hal q1 q2 q3 hbb
            go_wp2_with (at_builtin; refine append_spans rfl (.tmp 47) (.tmp 52) rfl w.heap.size _ _ _ rfl oX HCA.out.size ⟨v1.heap.size, 0, none⟩ 1 1 [.int .i64 (k : Int), .int .i64 (k : Int), .slice sa s.length sc] rfl rfl (fun j u hj => by rw [Go.WideShapes.add_plain, Nat.zero_add, cell_lit]; simpa using hj) (by intro u hu; simp at hu; rcases hu with rfl | rfl | rfl <;> rfl) (by have := HAL.out; omega) ?_)
            intro x3 W3 oX3 gX3 _ hat3
            have oX4 : SpansC W3 w.heap.size x3 (acc.length + 1) (cs ++ [.int .i64 (k : Int), .int .i64 (k : Int), .slice sa s.length sc]) := by
              rw [hz]; exact oX3
            rw [show (Value.slice oa 0 ocap).ownBlock = (Value.slice oa acc.length ocap).ownBlock by rw [hz]] at gX3 hat3
            have FO := append_ownsP (r := ((k : Int), (k : Int), s)) H1.out H2.out H3.out HL1.out HL2.out HBL.out.size HS2.out HAL2.out gX3 oX4 (by simpa [World.size_alloc] using hat3)
            have FB := HCA.out.grown gX3 HCA.out.size (fun q e => (H1.out.lt q e).1)
            rw [HX.out] at FO
            clear oX oX3 oX4 gX3 hat3
            go_wp2
            go_roundw
            case rel => exact ⟨k + 1, by omega, by go_num, FO, FB⟩
            case measure => simp [intOf]; omega
        · obtain rfl : k = 100 := by omega
          rw [HR.out] at hown
          have i2 : ¬ ((100 : Nat) : Int) ≤ 99 := by omega
          have i3 : ¬ ((100 : Nat) : Int) < 100 := by omega
          obtain ⟨oa, ocap, rfl⟩ := ownsP_len hown
          go_wp2
          go_ret
          exact ⟨_, rfl, hown, hbel⟩
end Go.Proofs.YtidhmgboknffkaaGreatDoor
namespace Go.Proofs.YtidhmgboknffkaaGreatDoor
open Go.RowKit
set_option linter.unusedVariables false
set_option linter.unusedSimpArgs false
end Go.Proofs.YtidhmgboknffkaaGreatDoor
namespace Go.Proofs.YtidhmgboknffkaaGreatDoor
open Go.RowKit
set_option linter.unusedVariables false
set_option linter.unusedSimpArgs false
/-- As far as k the fields are the spans. -/
def FldTo (qs : List QD) (fs : List (List SpanD)) (k : Nat) : Prop := ∀ j, j < k → fs.getD j [] = spansL qs (j : Int)
theorem isIdx_no {qs : List QD} {fs : List (List SpanD)} (h : areQB qs = false) : isIndexB qs fs = false := by unfold isIndexB; rw [h]; rfl
theorem isIdx_len {qs : List QD} {fs : List (List SpanD)} (h : ¬ fs.length = 3) : isIndexB qs fs = false := by
  unfold isIndexB
  rw [decide_eq_false (fun e => h (by rw [e, fldTo_len])), Bool.and_false]
theorem isIdx_at {qs : List QD} {fs : List (List SpanD)} {k : Nat} (hk : k < 3) (h : ¬ fs.getD k [] = spansL qs (k : Int)) : isIndexB qs fs = false := by
  unfold isIndexB
  rw [decide_eq_false (fun e => h (by rw [e, fldTo_at qs hk])), Bool.and_false]
theorem isIdx_yes {qs : List QD} {fs : List (List SpanD)} (hq : areQB qs = true) (hl : fs.length = 3) (h : FldTo qs fs 3) : isIndexB qs fs = true := by
  unfold isIndexB
  rw [hq, Bool.true_and, decide_eq_true_eq]
  apply List.ext_getElem
  · rw [hl, fldTo_len]
  · intro i h1 h2
    have := h i (by omega)
    rw [← fldTo_at qs (k := 3) (by omega)] at this
    simpa [List.getD, h1, h2] using this
set_option maxHeartbeats 16000000 in
set_option maxRecDepth 100000 in
theorem specIsIndex (qv fv : Value) (qs : List QD) (fs : List (List SpanD)) (w : World) (h1 : SlR tQuery w qv qs) (h2 : SlR tSpanS w fv fs) (hs : zL tQuery qs ≤ 1048576) (hz : zL tSpanS fs ≤ 1048576) :
    Calls Tryz.prog 21 #[.agg #[qv, fv]] w fun e w' => e = .returned (.bool (isIndexB qs fs)) ∧ Below w.heap.size w w' := by
  have HSQ : Hid (szQL qs ≤ 1048576) := Lib.hid (by rw [← zL_queries]; exact hs)
  have HZF := Lib.hid hz
  have hlen := zL_len hs
  have hlen2 := zL_len hz
  obtain ⟨qa, qc, rfl⟩ := slR_len h1
  obtain ⟨fa, fc, rfl⟩ := slR_len h2
  have d0 := Lib.hid ((Below.refl w.heap.size w).alloc (Nat.le_refl _) (.cells #[.slice qa qs.length qc, .slice fa fs.length fc] 34))
  have B0 : Hid ((w.alloc (.cells #[.slice qa qs.length qc, .slice fa fs.length fc] 34)).heap[w.heap.size]? = some (.cells #[.slice qa qs.length qc, .slice fa fs.length fc] 34 (0, 0))) := Lib.hid (heap_alloc_new w _)
  have Y0 : Hid (w.heap.size < (w.alloc (.cells #[.slice qa qs.length qc, .slice fa fs.length fc] 34)).heap.size) := Lib.hid (by simp [World.size_alloc])
  have H1 := Lib.hid h1
  have H2 := Lib.hid h2
  have HA := Lib.hid (fun w h => specAreQueries (.slice qa qs.length qc) qs w h HSQ.out)
  clear h1 h2 hs hz
  cases hq : areQB qs with
  | false =>
    have HE := Lib.hid (isIdx_no (fs := fs) hq)
    rw [hq] at HA
    rw [HE.out]
    clear hq HE
    go_enter Tryz.func21, Tryz.ntmps21
    go_wp2_with fail
    generalize w.alloc (.cells #[.slice qa qs.length qc, .slice fa fs.length fc] 34) = W at *
    refine (HA.out W (slR_queries (slR_below tQuery_law H1.out d0.out))).mono ?_
    rintro e w1 ⟨rfl, b1⟩
    have D := Lib.hid (d0.out.trans (b1.mono d0.out.size))
    clear b1
    go_wp2
    go_ret
    exact ⟨rfl, D.out⟩
  | true =>
    have HQ := Lib.hid hq
    rw [hq] at HA
    clear hq
    by_cases hl : fs.length = 3
    · have HL := Lib.hid hl
      have hne : ((fs.length : Int) != 3) = false := by rw [hl]; rfl
      clear hl
      go_enter Tryz.func21, Tryz.ntmps21
      go_wp2_with fail
      generalize w.alloc (.cells #[.slice qa qs.length qc, .slice fa fs.length fc] 34) = W at *
      refine (HA.out W (slR_queries (slR_below tQuery_law H1.out d0.out))).mono ?_
      rintro e w1 ⟨rfl, b1⟩
      have k0 := (b1.block w.heap.size Y0.out).trans B0.out
      have d1 := d0.out.trans (b1.mono d0.out.size)
      have y1 := Nat.lt_of_lt_of_le Y0.out b1.size
      have c1 := (cell_of_row w1 _ 1 _ _ _ k0).trans (show _ = some (Value.slice fa fs.length fc) from rfl)
      clear b1 d0 B0 Y0
      go_wp2
      clear c1 hne
      go_loopw [3] (fun i wr => ∃ k : Nat, k ≤ 3 ∧ i = .int .i64 k ∧ Hid (FldTo qs fs k) ∧ wr.heap[w.heap.size]? = some (.cells #[.slice qa qs.length qc, .slice fa fs.length fc] 34 (0, 0)) ∧ Below w.heap.size w wr ∧ w.heap.size < wr.heap.size) (fun i _ => 3 - (intOf i).toNat)
      case atStart => exact ⟨0, by omega, rfl, Lib.hid (fun j hj => by omega), k0, d1, y1⟩
      case round =>
        obtain ⟨k, hk, rfl, hf, hr, hbel, hsz⟩ := hrel
        by_cases hlt : k < 3
        · have i1 : (0 : Int) ≤ (k : Int) := by omega
          have i2 : (k : Int) < 3 := by omega
          have i3 : (k : Int) < (fs.length : Int) := by have := HL.out; omega
          have hkf : k < fs.length := by have := HL.out; omega
          obtain ⟨b, off, cap', cs, hv, hbl, hcs, hR⟩ := slR_at H2.out hkf
          simp only [Value.slice.injEq] at hv
          obtain ⟨rfl, _, rfl⟩ := hv
          obtain ⟨u, rfl, hU⟩ := hR
          have p0 : w.cell? ⟨b, off + k, none⟩ = some u := by have := hcs 0 Nat.one_pos; rw [show tSpanS.n = 1 from rfl, Nat.mul_one, Nat.add_zero] at this; exact this
          have hzx := zL_at HZF.out hkf
          have HU := Lib.hid hU
          have HZU : Hid (zpL (fs.getD k []) ≤ 1048576) := Lib.hid (by rw [← zL_spans]; exact hzx)
          have HUL : Hid (∃ a cap, u = .slice a (fs.getD k []).length cap) := Lib.hid (slR_len hU)
          have HNO := Lib.hid (fun h => isIdx_at (qs := qs) (fs := fs) hlt h)
          have HST : Hid (fs.getD k [] = spansL qs (k : Int) → FldTo qs fs (k + 1)) := Lib.hid (fun h j hj => by
            by_cases e : j = k
            · rw [e]; exact h
            · exact hf.out j (by omega))
          have P0 := Lib.hid p0
          have HBL := Lib.hid hbl
          have B0 := Lib.hid hr
          have d := Lib.hid hbel
          have ZS : Hid (zpL (spansL qs (k : Int)) ≤ 1048576) := Lib.hid (by have := spansL_size qs (k : Int); omega)
          clear hcs p0 hU hzx hf hr hbel k0 d1 y1 hbl
          change Hid (SlR tSpan w u (fs.getD k [])) at HU
          generalize fs.getD k [] = rs at *
          obtain ⟨ua, uc, rfl⟩ := HUL.out
          clear HUL
          by_cases he : rs = spansL qs (k : Int)
          · have HS := Lib.hid (HST.out he)
            have HDE : Hid (decide (rs = spansL qs (k : Int)) = true) := Lib.hid (decide_eq_true he)
            clear he HST HNO
            go_wp2
            have p_B0_0 := (cell_of_row wr _ 0 _ _ _ B0.out).trans (show _ = some (Value.slice qa qs.length qc) from rfl)
            have p_B0_1 := (cell_of_row wr _ 1 _ _ _ B0.out).trans (show _ = some (Value.slice (some ⟨b, off, none⟩) fs.length fc) from rfl)
            have p_el := (d.out.cell (p := ⟨b, off + k, none⟩) HBL.out).trans P0.out
            refine wp_region_held_drew (S := fun w' => w'.cell? ⟨w.heap.size, 0, none⟩ = some (Value.slice qa qs.length qc) ∧ w'.cell? ⟨w.heap.size, 1, none⟩ = some (Value.slice (some ⟨b, off, none⟩) fs.length fc) ∧ w'.cell? ⟨b, off + k, none⟩ = some (Value.slice ua rs.length uc)) (by kernel_rfl) ⟨p_B0_0, p_B0_1, p_el⟩ (fun hHeld => ?_)
            clear p_B0_0 p_B0_1 p_el
            have cdr : Below wr.heap.size wr wr.drew := below_drew (Below.refl _ _)
            replace B0 := Lib.hid ((cdr.block w.heap.size (Array.getElem?_eq_some_iff.1 B0.out).1).trans B0.out)
            replace d := Lib.hid (d.out.trans (cdr.mono d.out.size))
            clear cdr
            refine take_runs (i := 0) (v := ?_) (by simp only [List.getElem?_toArray, List.getElem?_cons_succ, List.getElem?_cons_zero]; rfl) (by kernel_rfl) (by kernel_rfl) (by kernel_rfl) rfl (by exact fun _ _ _ h => h) (by rfl) ?_ (by assumption) ?_
            rotate_left
            · intro w hSw; (try dsimp only at hSw); go_simp; try (with_reducible rfl)
            try simp only [Act.put, List.setIfInBounds_toArray, List.set_cons_zero, List.set_cons_succ]
            refine take_runs (i := 1) (v := ?_) (by simp only [List.getElem?_toArray, List.getElem?_cons_succ, List.getElem?_cons_zero]; rfl) (by kernel_rfl) (by kernel_rfl) (by kernel_rfl) rfl (by exact fun _ _ _ h => h) (by rfl) ?_ (by assumption) ?_
            rotate_left
            · intro w hSw; (try dsimp only at hSw); go_simp; try (with_reducible rfl)
            try simp only [Act.put, List.setIfInBounds_toArray, List.set_cons_zero, List.set_cons_succ]
            refine take_runs (i := 2) (v := ?_) (by simp only [List.getElem?_toArray, List.getElem?_cons_succ, List.getElem?_cons_zero]; rfl) (by kernel_rfl) (by kernel_rfl) (by kernel_rfl) rfl (by exact fun _ _ _ h => h) (by rfl) ?_ (by assumption) ?_
            rotate_left
            · intro w hSw; (try dsimp only at hSw); go_simp; try (with_reducible rfl)
            try simp only [Act.put, List.setIfInBounds_toArray, List.set_cons_zero, List.set_cons_succ]
            refine take_runs (i := 3) (v := ?_) (by simp only [List.getElem?_toArray, List.getElem?_cons_succ, List.getElem?_cons_zero]; rfl) (by kernel_rfl) (by kernel_rfl) (by kernel_rfl) rfl (by exact fun _ _ _ h => h) (by rfl) ?_ (by assumption) ?_
            rotate_left
            · intro w hSw; (try dsimp only at hSw); go_simp; try (with_reducible rfl)
            try simp only [Act.put, List.setIfInBounds_toArray, List.set_cons_zero, List.set_cons_succ]
            refine take_runs (i := 4) (v := ?_) (by simp only [List.getElem?_toArray, List.getElem?_cons_succ, List.getElem?_cons_zero]; rfl) (by kernel_rfl) (by kernel_rfl) (by kernel_rfl) rfl (by exact fun _ _ _ h => h) (by rfl) ?_ (by assumption) ?_
            rotate_left
            · intro w hSw; (try dsimp only at hSw); go_simp; try (with_reducible rfl)
            try simp only [Act.put, List.setIfInBounds_toArray, List.set_cons_zero, List.set_cons_succ]
            refine take_runs (i := 5) (v := ?_) (by simp only [List.getElem?_toArray, List.getElem?_cons_succ, List.getElem?_cons_zero]; rfl) (by kernel_rfl) (by kernel_rfl) (by kernel_rfl) rfl (by exact fun _ _ _ h => h) (by rfl) ?_ (by assumption) ?_
            rotate_left
            · intro w hSw; (try dsimp only at hSw); go_simp; try (with_reducible rfl)
            try simp only [Act.put, List.setIfInBounds_toArray, List.set_cons_zero, List.set_cons_succ]
            refine take_runs (i := 6) (v := ?_) (by simp only [List.getElem?_toArray, List.getElem?_cons_succ, List.getElem?_cons_zero]; rfl) (by kernel_rfl) (by kernel_rfl) (by kernel_rfl) rfl (by exact fun _ _ _ h => h) (by rfl) ?_ (by assumption) ?_
            rotate_left
            · intro w hSw; (try dsimp only at hSw); go_simp; try (with_reducible rfl)
            try simp only [Act.put, List.setIfInBounds_toArray, List.set_cons_zero, List.set_cons_succ]
            refine take_runs (i := 7) (v := ?_) (by simp only [List.getElem?_toArray, List.getElem?_cons_succ, List.getElem?_cons_zero]; rfl) (by kernel_rfl) (by kernel_rfl) (by kernel_rfl) rfl (by exact fun _ _ _ h => h) (by rfl) ?_ (by assumption) ?_
            rotate_left
            · intro w hSw; (try dsimp only at hSw); go_simp; try (with_reducible rfl)
            try simp only [Act.put, List.setIfInBounds_toArray, List.set_cons_zero, List.set_cons_succ]
            refine wpAnyH_ready (rs := [8]) (by kernel_rfl) (by simp) ?_
            refine (AllReadyH.cons (o := _) (by simp only [List.getElem?_toArray, List.getElem?_cons_succ, List.getElem?_cons_zero]; rfl) (fun K hK => ?_) AllReadyH.nil)
            go_simp
            refine (specStabIndex (.slice qa qs.length qc) qs (k : Int) (wr.drew) (slR_queries (slR_below tQuery_law H1.out d.out)) HSQ.out).mono ?_
            rintro e w5 ⟨su, rfl, os, c5⟩
            replace B0 := Lib.hid ((c5.block w.heap.size (Array.getElem?_eq_some_iff.1 B0.out).1).trans B0.out)
            replace d := Lib.hid (d.out.trans (c5.mono d.out.size))
            have Z_w5 := Lib.hid (show wr.heap.size ≤ w5.heap.size from c5.size)
            clear c5
            have S5 := Lib.hid (ownsP_spans os)
            have SB5 := Lib.hid (Below.refl w5.heap.size w5)
            clear os
            have p_B0_0 := (cell_of_row w5 _ 0 _ _ _ B0.out).trans (show _ = some (Value.slice qa qs.length qc) from rfl)
            have p_B0_1 := (cell_of_row w5 _ 1 _ _ _ B0.out).trans (show _ = some (Value.slice (some ⟨b, off, none⟩) fs.length fc) from rfl)
            have p_el := (d.out.cell (p := ⟨b, off + k, none⟩) HBL.out).trans P0.out
            refine hK.out _ _ ⟨p_B0_0, p_B0_1, p_el⟩ (fun hHeld => ?_)
            clear p_B0_0 p_B0_1 p_el
            clear hK K
            try simp only [Act.put, List.setIfInBounds_toArray, List.set_cons_zero, List.set_cons_succ]
            refine wpAnyH_ready (rs := [9]) (by kernel_rfl) (by simp) ?_
            refine (AllReadyH.cons (o := _) (by simp only [List.getElem?_toArray, List.getElem?_cons_succ, List.getElem?_cons_zero]; rfl) (fun K hK => ?_) AllReadyH.nil)
            go_simp
            refine (specEqSpans (.slice ua rs.length uc) su rs (spansL qs (k : Int)) w5 (slR_spans (slR_below tSpan_law HU.out d.out)) S5.out HZU.out ZS.out).mono ?_
            rintro e w6 ⟨rfl, c6⟩
            replace B0 := Lib.hid ((c6.block w.heap.size (Array.getElem?_eq_some_iff.1 B0.out).1).trans B0.out)
            replace d := Lib.hid (d.out.trans (c6.mono d.out.size))
            have Z_w6 := Lib.hid (show w5.heap.size ≤ w6.heap.size from c6.size)
            clear c6 S5 SB5
            rw [HDE.out]
            have p_B0_0 := (cell_of_row w6 _ 0 _ _ _ B0.out).trans (show _ = some (Value.slice qa qs.length qc) from rfl)
            have p_B0_1 := (cell_of_row w6 _ 1 _ _ _ B0.out).trans (show _ = some (Value.slice (some ⟨b, off, none⟩) fs.length fc) from rfl)
            have p_el := (d.out.cell (p := ⟨b, off + k, none⟩) HBL.out).trans P0.out
            refine hK.out _ _ ⟨p_B0_0, p_B0_1, p_el⟩ (fun hHeld => ?_)
            clear p_B0_0 p_B0_1 p_el
            clear hK K
            try simp only [Act.put, List.setIfInBounds_toArray, List.set_cons_zero, List.set_cons_succ]
            refine take_runs (i := 10) (v := ?_) (by simp only [List.getElem?_toArray, List.getElem?_cons_succ, List.getElem?_cons_zero]; rfl) (by kernel_rfl) (by kernel_rfl) (by kernel_rfl) rfl (by exact fun _ _ _ h => h) (by rfl) ?_ (by assumption) ?_
            rotate_left
            · intro w hSw; (try dsimp only at hSw); go_simp; try (with_reducible rfl)
            try simp only [Act.put, List.setIfInBounds_toArray, List.set_cons_zero, List.set_cons_succ]
            refine wpAnyH_done (by kernel_rfl) ?_ _
            clear hHeld
            go_wp2
            go_roundw
            case rel => exact ⟨k + 1, by omega, by go_num, HS, B0.out, d.out, Nat.lt_of_lt_of_le hsz (Nat.le_trans Z_w5.out Z_w6.out)⟩
            case measure => simp [intOf]; omega
          · have HF := Lib.hid (HNO.out he)
            have HDE : Hid (decide (rs = spansL qs (k : Int)) = false) := Lib.hid (decide_eq_false he)
            clear he HST HNO
            go_wp2
            have p_B0_0 := (cell_of_row wr _ 0 _ _ _ B0.out).trans (show _ = some (Value.slice qa qs.length qc) from rfl)
            have p_B0_1 := (cell_of_row wr _ 1 _ _ _ B0.out).trans (show _ = some (Value.slice (some ⟨b, off, none⟩) fs.length fc) from rfl)
            have p_el := (d.out.cell (p := ⟨b, off + k, none⟩) HBL.out).trans P0.out
            refine wp_region_held_drew (S := fun w' => w'.cell? ⟨w.heap.size, 0, none⟩ = some (Value.slice qa qs.length qc) ∧ w'.cell? ⟨w.heap.size, 1, none⟩ = some (Value.slice (some ⟨b, off, none⟩) fs.length fc) ∧ w'.cell? ⟨b, off + k, none⟩ = some (Value.slice ua rs.length uc)) (by kernel_rfl) ⟨p_B0_0, p_B0_1, p_el⟩ (fun hHeld => ?_)
            clear p_B0_0 p_B0_1 p_el
            have cdr : Below wr.heap.size wr wr.drew := below_drew (Below.refl _ _)
            replace B0 := Lib.hid ((cdr.block w.heap.size (Array.getElem?_eq_some_iff.1 B0.out).1).trans B0.out)
            replace d := Lib.hid (d.out.trans (cdr.mono d.out.size))
            clear cdr
            refine take_runs (i := 0) (v := ?_) (by simp only [List.getElem?_toArray, List.getElem?_cons_succ, List.getElem?_cons_zero]; rfl) (by kernel_rfl) (by kernel_rfl) (by kernel_rfl) rfl (by exact fun _ _ _ h => h) (by rfl) ?_ (by assumption) ?_
            rotate_left
            · intro w hSw; (try dsimp only at hSw); go_simp; try (with_reducible rfl)
            try simp only [Act.put, List.setIfInBounds_toArray, List.set_cons_zero, List.set_cons_succ]
            refine take_runs (i := 1) (v := ?_) (by simp only [List.getElem?_toArray, List.getElem?_cons_succ, List.getElem?_cons_zero]; rfl) (by kernel_rfl) (by kernel_rfl) (by kernel_rfl) rfl (by exact fun _ _ _ h => h) (by rfl) ?_ (by assumption) ?_
            rotate_left
            · intro w hSw; (try dsimp only at hSw); go_simp; try (with_reducible rfl)
            try simp only [Act.put, List.setIfInBounds_toArray, List.set_cons_zero, List.set_cons_succ]
            refine take_runs (i := 2) (v := ?_) (by simp only [List.getElem?_toArray, List.getElem?_cons_succ, List.getElem?_cons_zero]; rfl) (by kernel_rfl) (by kernel_rfl) (by kernel_rfl) rfl (by exact fun _ _ _ h => h) (by rfl) ?_ (by assumption) ?_
            rotate_left
            · intro w hSw; (try dsimp only at hSw); go_simp; try (with_reducible rfl)
            try simp only [Act.put, List.setIfInBounds_toArray, List.set_cons_zero, List.set_cons_succ]
            refine take_runs (i := 3) (v := ?_) (by simp only [List.getElem?_toArray, List.getElem?_cons_succ, List.getElem?_cons_zero]; rfl) (by kernel_rfl) (by kernel_rfl) (by kernel_rfl) rfl (by exact fun _ _ _ h => h) (by rfl) ?_ (by assumption) ?_
            rotate_left
            · intro w hSw; (try dsimp only at hSw); go_simp; try (with_reducible rfl)
            try simp only [Act.put, List.setIfInBounds_toArray, List.set_cons_zero, List.set_cons_succ]
            refine take_runs (i := 4) (v := ?_) (by simp only [List.getElem?_toArray, List.getElem?_cons_succ, List.getElem?_cons_zero]; rfl) (by kernel_rfl) (by kernel_rfl) (by kernel_rfl) rfl (by exact fun _ _ _ h => h) (by rfl) ?_ (by assumption) ?_
            rotate_left
            · intro w hSw; (try dsimp only at hSw); go_simp; try (with_reducible rfl)
            try simp only [Act.put, List.setIfInBounds_toArray, List.set_cons_zero, List.set_cons_succ]
            refine take_runs (i := 5) (v := ?_) (by simp only [List.getElem?_toArray, List.getElem?_cons_succ, List.getElem?_cons_zero]; rfl) (by kernel_rfl) (by kernel_rfl) (by kernel_rfl) rfl (by exact fun _ _ _ h => h) (by rfl) ?_ (by assumption) ?_
            rotate_left
            · intro w hSw; (try dsimp only at hSw); go_simp; try (with_reducible rfl)
            try simp only [Act.put, List.setIfInBounds_toArray, List.set_cons_zero, List.set_cons_succ]
            refine take_runs (i := 6) (v := ?_) (by simp only [List.getElem?_toArray, List.getElem?_cons_succ, List.getElem?_cons_zero]; rfl) (by kernel_rfl) (by kernel_rfl) (by kernel_rfl) rfl (by exact fun _ _ _ h => h) (by rfl) ?_ (by assumption) ?_
            rotate_left
            · intro w hSw; (try dsimp only at hSw); go_simp; try (with_reducible rfl)
            try simp only [Act.put, List.setIfInBounds_toArray, List.set_cons_zero, List.set_cons_succ]
            refine take_runs (i := 7) (v := ?_) (by simp only [List.getElem?_toArray, List.getElem?_cons_succ, List.getElem?_cons_zero]; rfl) (by kernel_rfl) (by kernel_rfl) (by kernel_rfl) rfl (by exact fun _ _ _ h => h) (by rfl) ?_ (by assumption) ?_
            rotate_left
            · intro w hSw; (try dsimp only at hSw); go_simp; try (with_reducible rfl)
            try simp only [Act.put, List.setIfInBounds_toArray, List.set_cons_zero, List.set_cons_succ]
            refine wpAnyH_ready (rs := [8]) (by kernel_rfl) (by simp) ?_
            refine (AllReadyH.cons (o := _) (by simp only [List.getElem?_toArray, List.getElem?_cons_succ, List.getElem?_cons_zero]; rfl) (fun K hK => ?_) AllReadyH.nil)
            go_simp
            refine (specStabIndex (.slice qa qs.length qc) qs (k : Int) (wr.drew) (slR_queries (slR_below tQuery_law H1.out d.out)) HSQ.out).mono ?_
            rintro e w5 ⟨su, rfl, os, c5⟩
            replace B0 := Lib.hid ((c5.block w.heap.size (Array.getElem?_eq_some_iff.1 B0.out).1).trans B0.out)
            replace d := Lib.hid (d.out.trans (c5.mono d.out.size))
            have Z_w5 := Lib.hid (show wr.heap.size ≤ w5.heap.size from c5.size)
            clear c5
            have S5 := Lib.hid (ownsP_spans os)
            have SB5 := Lib.hid (Below.refl w5.heap.size w5)
            clear os
            have p_B0_0 := (cell_of_row w5 _ 0 _ _ _ B0.out).trans (show _ = some (Value.slice qa qs.length qc) from rfl)
            have p_B0_1 := (cell_of_row w5 _ 1 _ _ _ B0.out).trans (show _ = some (Value.slice (some ⟨b, off, none⟩) fs.length fc) from rfl)
            have p_el := (d.out.cell (p := ⟨b, off + k, none⟩) HBL.out).trans P0.out
            refine hK.out _ _ ⟨p_B0_0, p_B0_1, p_el⟩ (fun hHeld => ?_)
            clear p_B0_0 p_B0_1 p_el
            clear hK K
            try simp only [Act.put, List.setIfInBounds_toArray, List.set_cons_zero, List.set_cons_succ]
            refine wpAnyH_ready (rs := [9]) (by kernel_rfl) (by simp) ?_
            refine (AllReadyH.cons (o := _) (by simp only [List.getElem?_toArray, List.getElem?_cons_succ, List.getElem?_cons_zero]; rfl) (fun K hK => ?_) AllReadyH.nil)
            go_simp
            refine (specEqSpans (.slice ua rs.length uc) su rs (spansL qs (k : Int)) w5 (slR_spans (slR_below tSpan_law HU.out d.out)) S5.out HZU.out ZS.out).mono ?_
            rintro e w6 ⟨rfl, c6⟩
            replace B0 := Lib.hid ((c6.block w.heap.size (Array.getElem?_eq_some_iff.1 B0.out).1).trans B0.out)
            replace d := Lib.hid (d.out.trans (c6.mono d.out.size))
            have Z_w6 := Lib.hid (show w5.heap.size ≤ w6.heap.size from c6.size)
            clear c6 S5 SB5
            rw [HDE.out]
            have p_B0_0 := (cell_of_row w6 _ 0 _ _ _ B0.out).trans (show _ = some (Value.slice qa qs.length qc) from rfl)
            have p_B0_1 := (cell_of_row w6 _ 1 _ _ _ B0.out).trans (show _ = some (Value.slice (some ⟨b, off, none⟩) fs.length fc) from rfl)
            have p_el := (d.out.cell (p := ⟨b, off + k, none⟩) HBL.out).trans P0.out
            refine hK.out _ _ ⟨p_B0_0, p_B0_1, p_el⟩ (fun hHeld => ?_)
            clear p_B0_0 p_B0_1 p_el
            clear hK K
            try simp only [Act.put, List.setIfInBounds_toArray, List.set_cons_zero, List.set_cons_succ]
            refine take_runs (i := 10) (v := ?_) (by simp only [List.getElem?_toArray, List.getElem?_cons_succ, List.getElem?_cons_zero]; rfl) (by kernel_rfl) (by kernel_rfl) (by kernel_rfl) rfl (by exact fun _ _ _ h => h) (by rfl) ?_ (by assumption) ?_
            rotate_left
            · intro w hSw; (try dsimp only at hSw); go_simp; try (with_reducible rfl)
            try simp only [Act.put, List.setIfInBounds_toArray, List.set_cons_zero, List.set_cons_succ]
            refine wpAnyH_done (by kernel_rfl) ?_ _
            clear hHeld
            go_wp2
            go_ret
            exact ⟨ret_b HF.out.symm, d.out⟩
        · obtain rfl : k = 3 := by omega
          have HY := Lib.hid (isIdx_yes HQ.out HL.out hf.out)
          clear hf
          go_wp2
          go_ret
          exact ⟨ret_b HY.out.symm, hbel⟩
    · have HE := Lib.hid (isIdx_len (qs := qs) hl)
      have hne : ((fs.length : Int) != 3) = true := by rw [bne_iff_ne]; omega
      rw [HE.out]
      clear hl HE
      go_enter Tryz.func21, Tryz.ntmps21
      go_wp2_with fail
      generalize w.alloc (.cells #[.slice qa qs.length qc, .slice fa fs.length fc] 34) = W at *
      refine (HA.out W (slR_queries (slR_below tQuery_law H1.out d0.out))).mono ?_
      rintro e w1 ⟨rfl, b1⟩
      have k0 := (b1.block w.heap.size Y0.out).trans B0.out
      have D := Lib.hid (d0.out.trans (b1.mono d0.out.size))
      have c1 := (cell_of_row w1 _ 1 _ _ _ k0).trans (show _ = some (Value.slice fa fs.length fc) from rfl)
      clear b1 k0
      go_wp2
      go_ret
      exact ⟨rfl, D.out⟩
end Go.Proofs.YtidhmgboknffkaaGreatDoor
namespace Go.Proofs.YtidhmgboknffkaaGreatDoor
open Go.RowKit
set_option linter.unusedVariables false
set_option linter.unusedSimpArgs false
theorem allL_step {qs : List QD} {k : Nat} (h : k < qs.length) : (qs.take k).map (·.1) ++ [(qs.getD k q0D).1] = (qs.take (k + 1)).map (·.1) := by
  have e : qs.getD k q0D = qs[k] := by simp [List.getD, h]
  rw [e, List.take_succ_eq_append_getElem h, List.map_append]; rfl
set_option maxHeartbeats 4000000 in
set_option maxRecDepth 100000 in
theorem specL6All (v : Value) (qs : List QD) (w : World) (h : QueriesR w v qs) (hn : qs.length ≤ 1048576) :
    Calls Tryz.prog 61 #[v] w (FreshInts w (allL qs)) := by
  have H := Lib.hid h
  obtain ⟨a, cap, rfl⟩ := queriesR_len h
  clear h
  go_enter Tryz.func61, Tryz.ntmps61
  go_wp2
  go_loopw [3, 4] (fun o i wr => ∃ k : Nat, k ≤ qs.length ∧ i = .int .i64 k ∧ OwnsN wr w.heap.size o ((qs.take k).map (·.1)) ∧ Below w.heap.size w wr) (fun _ i _ => qs.length - (intOf i).toNat)
  case atStart => exact ⟨0, Nat.zero_le _, rfl, ownsN_lit w _ (Nat.le_refl _) #[] 0 [] rfl rfl (by decide), (Below.refl _ _).alloc (Nat.le_refl _) _⟩
  case round =>
    obtain ⟨k, hk, rfl, hown, hbel⟩ := hrel
    by_cases hlt : k < qs.length
    · have i1 : (0 : Int) ≤ (k : Int) := by omega
      have i2 : (k : Int) < (qs.length : Int) := by omega
      obtain ⟨b, off, cap', cv, ov, hv, hbl, hc1, hc2, hc3, hc4, _, _⟩ := queriesR_at (queriesR_below H.out hbel) hlt
      simp only [Value.slice.injEq] at hv
      obtain ⟨rfl, _, rfl⟩ := hv
      have HY := Lib.hid (allL_step hlt)
      have HL : Hid (((qs.take k).map (·.1)).length ≤ 1048576) := Lib.hid (by rw [List.length_map, List.length_take]; omega)
      have hB := hbel.size
      generalize (qs.getD k q0D).1 = qid at *
      generalize (qs.take k).map (·.1) = ac at *
      clear hc2 hc3 hc4
      go_wp2_with (at_builtin; refine append_ints rfl (.tmp 12) (.tmp 18) rfl w.heap.size _ _ rfl hown hB _ [qid] 1 _ rfl (by first | rfl | (simp; done)) rfl (by have := HL.out; simp; omega) ?_)
      intro v' w4 hown4 hb4
      rw [HY.out] at hown4
      have hb5 := hbel.trans hb4
      clear hown hbel hb4 hc1
      go_wp2
      go_roundw
      case rel => exact ⟨k + 1, by omega, by go_num, hown4, hb5⟩
      case measure => simp [intOf]; omega
    · obtain rfl : k = qs.length := by omega
      rw [List.take_length] at hown
      go_wp2
      go_ret
      exact ⟨_, rfl, hown, hbel⟩
/-- As far as k the order is one. -/
def OrdTo (os : List Int) (k : Nat) : Prop := ∀ i, i < k → (0 ≤ os.getD i 0 ∧ os.getD i 0 ≤ 2) ∧ os.getD i 0 ∉ os.take i
theorem orderB_len {os : List Int} (h : ¬ os.length = 3) : orderB os = false := by unfold orderB; rw [decide_eq_false h]; rfl
theorem orderB_yes {os : List Int} (hl : os.length = 3) (h : OrdTo os os.length) : orderB os = true := by
  unfold orderB
  rw [decide_eq_true hl, Bool.true_and, List.all_eq_true]
  intro i hi
  have := h i (List.mem_range.1 hi)
  simp only [Bool.and_eq_true, decide_eq_true_eq, Bool.not_eq_true', decide_eq_false_iff_not]
  exact this
theorem orderB_no {os : List Int} {k : Nat} (hk : k < os.length) (h : ¬ ((0 ≤ os.getD k 0 ∧ os.getD k 0 ≤ 2) ∧ os.getD k 0 ∉ os.take k)) : orderB os = false := by
  rw [Bool.eq_false_iff]
  intro g
  unfold orderB at g
  rw [Bool.and_eq_true, List.all_eq_true] at g
  have := g.2 k (List.mem_range.2 hk)
  simp only [Bool.and_eq_true, decide_eq_true_eq, Bool.not_eq_true', decide_eq_false_iff_not] at this
  exact h this
theorem order_iff {os : List Int} (h : orderB os = true) : os.length = 3 ∧ ∀ i, i < os.length → 0 ≤ os.getD i 0 ∧ os.getD i 0 ≤ 2 := by
  unfold orderB at h
  rw [Bool.and_eq_true, List.all_eq_true, decide_eq_true_eq] at h
  refine ⟨h.1, fun i hi => ?_⟩
  have := h.2 i (List.mem_range.2 hi)
  rw [Bool.and_eq_true, decide_eq_true_eq] at this
  exact this.1
theorem ints_take {w : World} {b off cap n : Nat} {xs : List Int} (h : Ints w (.slice (some ⟨b, off, none⟩) n cap) xs) {k : Nat} (hk : k ≤ xs.length) (hp : 0 < xs.length) : Ints w (.slice (some ⟨b, off, none⟩) k cap) (xs.take k) := by
  rcases h with ⟨rfl, _⟩ | ⟨b', off', cap', hv, h2, h3, h4⟩
  · simp at hp
  · simp only [Value.slice.injEq, Option.some.injEq, Addr.mk.injEq] at hv
    obtain ⟨⟨rfl, rfl, _⟩, _, rfl⟩ := hv
    have hl : (xs.take k).length = k := by rw [List.length_take]; omega
    refine Or.inr ⟨b, off, cap, by rw [hl], by omega, h3, fun j hj => ?_⟩
    rw [hl] at hj
    rw [h4 j (by omega)]
    have h1 : j < (xs.take k).length := by omega
    simp [List.getD, hj, show j < xs.length by omega]
theorem ints_cap {w : World} {b off cap n : Nat} {xs : List Int} (h : Ints w (.slice (some ⟨b, off, none⟩) n cap) xs) (hp : 0 < xs.length) : xs.length ≤ cap := by
  rcases h with ⟨rfl, _⟩ | ⟨b', off', cap', hv, h2, _⟩
  · simp at hp
  · simp only [Value.slice.injEq] at hv
    obtain ⟨_, _, rfl⟩ := hv
    exact h2
theorem has_yes (v : Value) (xs : List Int) (x : Int) (w : World) (h : Ints w v xs) (hn : xs.length ≤ 1048576) (hm : x ∈ xs) :
    Calls Tryz.prog 60 #[v, .int .i64 x] w fun e w' => e = .returned (.bool true) ∧ w' = w :=
  (specHas v xs x w h hn).mono fun e w' g => ⟨by rw [g.1, decide_eq_true hm], g.2.symm⟩
theorem has_no (v : Value) (xs : List Int) (x : Int) (w : World) (h : Ints w v xs) (hn : xs.length ≤ 1048576) (hm : x ∉ xs) :
    Calls Tryz.prog 60 #[v, .int .i64 x] w fun e w' => e = .returned (.bool false) ∧ w' = w :=
  (specHas v xs x w h hn).mono fun e w' g => ⟨by rw [g.1, decide_eq_false hm], g.2.symm⟩
set_option maxHeartbeats 4000000 in
set_option maxRecDepth 100000 in
theorem specL6Order (v : Value) (os : List Int) (w : World) (h : Ints w v os) (hn : os.length ≤ 1048576) :
    Calls Tryz.prog 40 #[v] w fun e w' => e = .returned (.bool (orderB os)) ∧ Below w.heap.size w w' := by
  have H := Lib.hid h
  obtain ⟨a, cap, rfl⟩ := ints_len h
  clear h
  by_cases hl : os.length = 3
  · have hne : ((os.length : Int) != 3) = false := by rw [hl]; rfl
    have HL := Lib.hid hl
    clear hl
    go_enter Tryz.func40, Tryz.ntmps40
    go_wp2
    clear hne
    go_loopw [3] (fun i wr => ∃ k : Nat, k ≤ os.length ∧ i = .int .i64 k ∧ Hid (OrdTo os k) ∧ Below w.heap.size w wr) (fun i _ => os.length - (intOf i).toNat)
    case atStart => exact ⟨0, Nat.zero_le _, rfl, Lib.hid (fun i hi => by omega), Below.refl _ _⟩
    case round =>
      obtain ⟨k, hk, rfl, hord, hbel⟩ := hrel
      by_cases hlt : k < os.length
      · have I := ints_below H.out hbel
        obtain ⟨b, off, cap', hv, hbl, hc⟩ := ints_cell I (by omega)
        simp only [Value.slice.injEq] at hv
        obtain ⟨rfl, _, rfl⟩ := hv
        have hcell := hc k hlt
        have hcp := ints_cap I (by omega)
        have HT := Lib.hid (ints_take I hk (by omega))
        have HTL : Hid ((os.take k).length ≤ 1048576) := Lib.hid (by rw [List.length_take]; omega)
        have i1 : (0 : Int) ≤ (k : Int) := by omega
        have i2 : (k : Int) < (os.length : Int) := by omega
        have i3 : (k : Int) ≤ (cap : Int) := by omega
        have i4 : k ≤ cap := by omega
        have HNO := Lib.hid (fun h => orderB_no (os := os) hlt h)
        have HST : Hid ((0 ≤ os.getD k 0 ∧ os.getD k 0 ≤ 2) ∧ os.getD k 0 ∉ os.take k → OrdTo os (k + 1)) := Lib.hid (fun h i hi => by
          by_cases e : i = k
          · rw [e]; exact h
          · exact hord.out i (by omega))
        clear hc I hord
        generalize os.getD k 0 = y at *
        generalize os.take k = ts at *
        by_cases hin : 0 ≤ y ∧ y ≤ 2
        · obtain ⟨g0, g1⟩ := hin
          by_cases hm : y ∈ ts
          · have HF := Lib.hid (HNO.out (fun q => q.2 hm))
            have HM := Lib.hid hm
            clear hm HNO HST
            go_wp2
            go_quiet ((first | (go_at_call 58; exact Calls.quiet_of_same (in_yes _ _ _ _ (by omega) (by omega))) | (go_at_call 60; exact Calls.quiet_of_same (has_yes _ ts _ _ HT.out HTL.out HM.out))))
            go_wp2
            go_ret
            exact ⟨ret_b HF.out.symm, below_same hbel rfl rfl rfl rfl⟩
          · have HS := Lib.hid (HST.out ⟨⟨g0, g1⟩, hm⟩)
            have HM := Lib.hid hm
            clear hm HNO HST
            go_wp2
            go_quiet ((first | (go_at_call 58; exact Calls.quiet_of_same (in_yes _ _ _ _ (by omega) (by omega))) | (go_at_call 60; exact Calls.quiet_of_same (has_no _ ts _ _ HT.out HTL.out HM.out))))
            go_wp2
            go_roundw
            case rel => exact ⟨k + 1, by omega, by go_num, HS, below_same hbel rfl rfl rfl rfl⟩
            case measure => simp [intOf]; omega
        · have HF := Lib.hid (HNO.out (fun q => hin q.1))
          have HI := Lib.hid hin
          clear hin HNO HST
          go_wp2
          go_quiet ((go_at_call 58; exact Calls.quiet_of_same (in_no _ _ _ _ HI.out)))
          go_wp2
          go_ret
          exact ⟨ret_b HF.out.symm, below_same hbel rfl rfl rfl rfl⟩
      · obtain rfl : k = os.length := by omega
        have HY := Lib.hid (orderB_yes HL.out hord.out)
        clear hord
        go_wp2
        go_ret
        exact ⟨ret_b HY.out.symm, hbel⟩
  · have hne : ((os.length : Int) != 3) = true := by rw [bne_iff_ne]; omega
    have HF := Lib.hid (orderB_len hl)
    clear hl
    go_enter Tryz.func40, Tryz.ntmps40
    go_wp2
    go_ret
    exact ⟨ret_b HF.out.symm, Below.refl _ _⟩
end Go.Proofs.YtidhmgboknffkaaGreatDoor
namespace Go.Proofs.YtidhmgboknffkaaGreatDoor
open Go.RowKit
set_option linter.unusedVariables false
/-- The first k of a that p takes. -/
def accA (p : Int → Bool) (a : List Int) (k : Nat) : List Int := (a.take k).filter p
theorem accA_yes {p : Int → Bool} {a : List Int} {k : Nat} (hk : k < a.length) (h : p (a.getD k 0) = true) : accA p a k ++ [a.getD k 0] = accA p a (k + 1) := by
  unfold accA
  have e : a.getD k 0 = a[k] := by simp [List.getD, hk]
  rw [e] at h ⊢
  rw [List.take_succ_eq_append_getElem hk, List.filter_append]
  simp [h]
theorem accA_no {p : Int → Bool} {a : List Int} {k : Nat} (hk : k < a.length) (h : p (a.getD k 0) = false) : accA p a k = accA p a (k + 1) := by
  unfold accA
  have e : a.getD k 0 = a[k] := by simp [List.getD, hk]
  rw [e] at h
  rw [List.take_succ_eq_append_getElem hk, List.filter_append]
  simp [h]
theorem accA_len (p : Int → Bool) (a : List Int) (k : Nat) : (accA p a k).length ≤ a.length := by
  have h1 := List.length_filter_le p (a.take k)
  have h2 := List.length_take_le' k a
  unfold accA; omega
theorem meet_no {a b : List Int} (h : (setB a && setB b) = false) : meetL a b = [] := by unfold meetL; rw [h]; rfl
theorem meet_yes {a b : List Int} (h1 : setB a = true) (h2 : setB b = true) : meetL a b = accA (fun x => decide (x ∈ b)) a a.length := by unfold meetL accA; rw [h1, h2, List.take_length]; rfl
/-! ### Meet -/
set_option maxHeartbeats 2000000 in
set_option maxRecDepth 100000 in
theorem specMeet (va vb : Value) (a b : List Int) (w : World) (ha : Ints w va a) (hb : Ints w vb b) (na : a.length ≤ 1048576) (nb : b.length ≤ 1048576) :
    Calls Tryz.prog 63 #[va, vb] w (Fresh w (meetL a b)) := by
  have HA := Lib.hid ha
  have HB := Lib.hid hb
  have NA := Lib.hid na
  have NB := Lib.hid nb
  obtain ⟨ao, cap, hva⟩ := ints_len ha
  clear ha hb nb
  by_cases hsa : setB a = true
  · by_cases hsb : setB b = true
    · have HU := Lib.hid (meet_yes hsa hsb)
      have SA := Lib.hid hsa
      have SB := Lib.hid hsb
      clear hsa hsb
      generalize hp : (fun x => decide (x ∈ b)) = p at HU
      have HP := Lib.hid hp
      clear hp
      subst hva
      go_enter Tryz.func63, Tryz.ntmps63
      go_wp2
      go_loopw [5, 6] (fun v i wr => ∃ k : Nat, k ≤ a.length ∧ i = .int .i64 k ∧ OwnsN wr w.heap.size v (accA p a k) ∧ Below w.heap.size w wr) (fun _ i _ => a.length - (intOf i).toNat)
      case atStart => exact ⟨0, Nat.zero_le _, rfl, ownsN_lit w _ (Nat.le_refl _) #[] 0 [] rfl rfl (by decide), (Below.refl _ _).alloc (Nat.le_refl _) _⟩
      case round =>
        obtain ⟨k, hk, rfl, hown, hbel⟩ := hrel
        by_cases hlt : k < a.length
        · have HL := Lib.hid (accA_len p a k)
          have HK := Lib.hid (congrFun HP.out (a.getD k 0))
          have i1 : (0 : Int) ≤ (k : Int) := by omega
          have i2 : (k : Int) < (a.length : Int) := by omega
          go_wp2_with fail
          refine (specIsSet _ a _ (ints_below HA.out hbel) NA.out).mono ?_
          rintro e w1 ⟨rfl, hb1⟩
          rw [SA.out]
          have hown1 := ownsN_below hown hb1
          have hbel1 := hbel.trans (hb1.mono hbel.size)
          clear hown hbel hb1
          go_wp2_with fail
          refine (specIsSet vb b _ (ints_below HB.out hbel1) NB.out).mono ?_
          rintro e w2 ⟨rfl, hb2⟩
          rw [SB.out]
          have hown2 := ownsN_below hown1 hb2
          have hbel2 := hbel1.trans (hb2.mono hbel1.size)
          have hB2 := hbel2.size
          clear hown1 hbel1 hb2
          obtain ⟨bb, off, cap', hv, hbl, hc⟩ := ints_cell HA.out (by omega)
          simp only [Value.slice.injEq] at hv
          obtain ⟨rfl, _, rfl⟩ := hv
          have hcell := (hbel2.cell (p := ⟨bb, off + k, none⟩) hbl).trans (hc k hlt)
          have HYES := Lib.hid (fun h => accA_yes (p := p) hlt h)
          have HNO := Lib.hid (fun h => accA_no (p := p) hlt h)
          clear hc
          generalize a.getD k 0 = y at hcell HK HYES HNO
          go_wp2_with fail
          refine (specHas vb b y _ (ints_below HB.out hbel2) NB.out).mono ?_
          rintro e w3 ⟨rfl, rfl⟩
          cases hmb : decide (y ∈ b) with
          | true =>
            have HT : Hid (p y = true) := Lib.hid (by rw [← HK.out]; simp [hmb])
            clear hmb
            go_wp2_with (at_builtin; refine append_ints rfl (.tmp 28) (.tmp 33) rfl w.heap.size _ _ rfl hown2 hB2 _ [y] 1 _ rfl (by first | rfl | (simp; done)) rfl (by have := HL.out; have := NA.out; simp; omega) ?_)
            intro v' w4 hown3 hb3
            rw [HYES.out HT.out] at hown3
            have hb4 := hbel2.trans hb3
            clear hown2 hbel2 hb3 hcell
            go_wp2
            go_roundw
            case rel => exact ⟨k + 1, by omega, by go_num, hown3, hb4⟩
            case measure => simp [intOf]; omega
          | false =>
            have HT : Hid (p y = false) := Lib.hid (by rw [← HK.out]; simp [hmb])
            clear hmb
            rw [HNO.out HT.out] at hown2
            go_wp2
            go_roundw
            case rel => exact ⟨k + 1, by omega, by go_num, hown2, hbel2⟩
            case measure => simp [intOf]; omega
        · obtain rfl : k = a.length := by omega
          rw [← HU.out] at hown
          go_wp2
          go_ret
          exact ⟨_, rfl, hown, hbel⟩
    · have HE := Lib.hid (meet_no (a := a) (b := b) (by simp [hsb]))
      have SA := Lib.hid hsa
      have SB := Lib.hid (show setB b = false by simpa using hsb)
      clear hsa hsb
      rw [HE.out]
      subst hva
      go_enter Tryz.func63, Tryz.ntmps63
      go_wp2
      have hown := ownsN_lit w w.heap.size (Nat.le_refl _) #[] 0 [] rfl rfl (by decide)
      have hbel := (Below.refl w.heap.size w).alloc (Nat.le_refl _) (.cells #[] 3)
      generalize w.alloc (.cells #[] 3) = w0 at hown hbel ⊢
      go_loopw [5, 6] (fun v i wr => wr = w0 ∧ i = .int .i64 0 ∧ v = .slice (some ⟨w.heap.size, 0, none⟩) 0 0) (fun _ _ _ => 0)
      case atStart => exact ⟨rfl, rfl, rfl⟩
      case round =>
        obtain ⟨rfl, rfl, rfl⟩ := hrel
        by_cases hl : 0 < a.length
        · go_wp2_with fail
          refine (specIsSet _ a _ (ints_below HA.out hbel) NA.out).mono ?_
          rintro e w1 ⟨rfl, hb1⟩
          rw [SA.out]
          have hown1 := ownsN_below hown hb1
          have hbel1 := hbel.trans (hb1.mono hbel.size)
          clear hown hbel hb1
          go_wp2_with fail
          refine (specIsSet vb b _ (ints_below HB.out hbel1) NB.out).mono ?_
          rintro e w2 ⟨rfl, hb2⟩
          rw [SB.out]
          have hown2 := ownsN_below hown1 hb2
          have hbel2 := hbel1.trans (hb2.mono hbel1.size)
          clear hown1 hbel1 hb2
          go_wp2
          go_ret
          exact ⟨_, rfl, hown2, hbel2⟩
        · have hl2 : ¬ ((0 : Int) < (a.length : Int)) := by omega
          go_wp2
          go_ret
          exact ⟨_, rfl, hown, hbel⟩
  · have HE := Lib.hid (meet_no (a := a) (b := b) (by simp [hsa]))
    have SA := Lib.hid (show setB a = false by simpa using hsa)
    clear hsa
    rw [HE.out]
    subst hva
    go_enter Tryz.func63, Tryz.ntmps63
    go_wp2
    have hown := ownsN_lit w w.heap.size (Nat.le_refl _) #[] 0 [] rfl rfl (by decide)
    have hbel := (Below.refl w.heap.size w).alloc (Nat.le_refl _) (.cells #[] 3)
    generalize w.alloc (.cells #[] 3) = w0 at hown hbel ⊢
    go_loopw [5, 6] (fun v i wr => wr = w0 ∧ i = .int .i64 0 ∧ v = .slice (some ⟨w.heap.size, 0, none⟩) 0 0) (fun _ _ _ => 0)
    case atStart => exact ⟨rfl, rfl, rfl⟩
    case round =>
      obtain ⟨rfl, rfl, rfl⟩ := hrel
      by_cases hl : 0 < a.length
      · go_wp2_with fail
        refine (specIsSet _ a _ (ints_below HA.out hbel) NA.out).mono ?_
        rintro e w1 ⟨rfl, hb1⟩
        rw [SA.out]
        have hown1 := ownsN_below hown hb1
        have hbel1 := hbel.trans (hb1.mono hbel.size)
        clear hown hbel hb1
        go_wp2
        go_ret
        exact ⟨_, rfl, hown1, hbel1⟩
      · have hl2 : ¬ ((0 : Int) < (a.length : Int)) := by omega
        go_wp2
        go_ret
        exact ⟨_, rfl, hown, hbel⟩
/-! ### Sub -/
end Go.Proofs.YtidhmgboknffkaaGreatDoor
