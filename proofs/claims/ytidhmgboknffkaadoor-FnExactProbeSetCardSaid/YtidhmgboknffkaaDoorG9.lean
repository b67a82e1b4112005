/-
  Texts of the proof, merged: CountP, WorkP, WorkOfP, TyApp, FlatT, Cpl6Query, Mpl6Queries, BuildSpec, IdxSpec5, IdxSpec6, IdxSpec7, IdxSpec8, IdxFit, IdxRes, OrdLaid.
-/
import Derived.Test.YtidhmgboknffkaaDoorG8
import Derived.Maps.RangeWalk
import Derived.Maps.AppendAt
import Derived.Deep.Upon
import Derived.Deep.Slices
import Derived.Lib.LaidTab
import Derived.LaidMore
namespace Go.Proofs.YtidhmgboknffkaaDoor
open Go.RowKit Go.Maps
set_option linter.unusedVariables false
set_option linter.unusedSimpArgs false
theorem arrK : WideMaps.ArrKey Tryd.prog 106 93 3 := ⟨Tryd.underlying106, by kernel_rfl, by kernel_rfl, by kernel_rfl⟩
theorem keyLawK : WideMaps.KeyLaw Tryd.prog 106 := arrK.law
theorem keyedK : Keyed Tryd.prog 106 := Keyed.of_law keyLawK
theorem typesK : ∃ m, Tryd.prog.types.size = m + 1 := ⟨Tryd.prog.types.size - 1, (Nat.sub_add_cancel (of_decide_eq_true (p := 1 ≤ Tryd.prog.types.size) (by kernel_rfl))).symm⟩
theorem zeroK (w : World) : (zeroValue 3).run Tryd.prog w = .ok (.int .i64 0) w := by kernel_rfl
theorem wf_u32 {m : Nat} (h : m < 16777216) : (Lit.int .u32 (m : Int)).wf = true := by
  have h1 : IntKind.u32.min = 0 := by decide
  have h2 : IntKind.u32.max = 4294967295 := by decide
  simp [Lit.wf, h1, h2]
  omega
/-- The key of three masks. -/
def keyL (a b c : Nat) : Lit := .string (keyBytes [.int .u32 (a : Int), .int .u32 (b : Int), .int .u32 (c : Int)])
theorem keyL_of {a b c : Nat} (ha : a < 16777216) (hb : b < 16777216) (hc : c < 16777216) : keyOf Tryd.prog 106 (.agg #[.int .u32 (a : Int), .int .u32 (b : Int), .int .u32 (c : Int)]) = some (keyL a b c) :=
  keyOf_triple arrK Tryd.underlying93 typesK (wf_u32 ha) (wf_u32 hb) (wf_u32 hc)
theorem keyL_lit {a b c : Nat} : WideAt.IsKeyLit (keyL a b c) := trivial
/-- The keys of the rows that are valid. -/
def keyR (fs : List (List SpanD)) (r : RowD) : Lit := keyL (setM fs r.2 0) (setM fs r.2 1) (setM fs r.2 2)
def keysTo (fs : List (List SpanD)) (rs : List RowD) (k : Nat) : List Lit := ((rs.take k).filter rowB).map (keyR fs)
theorem keysTo_yes {fs : List (List SpanD)} {rs : List RowD} {k : Nat} {d : RowD} (hk : k < rs.length) (h : rowB (rs.getD k d) = true) : keysTo fs rs (k + 1) = keysTo fs rs k ++ [keyR fs (rs.getD k d)] := by
  have e : rs.getD k d = rs[k] := by simp [List.getD, hk]
  rw [e] at h ⊢
  unfold keysTo
  rw [List.take_succ_eq_append_getElem hk, List.filter_append, List.map_append]
  simp [h]
theorem keysTo_no {fs : List (List SpanD)} {rs : List RowD} {k : Nat} {d : RowD} (hk : k < rs.length) (h : rowB (rs.getD k d) = false) : keysTo fs rs (k + 1) = keysTo fs rs k := by
  have e : rs.getD k d = rs[k] := by simp [List.getD, hk]
  rw [e] at h
  unfold keysTo
  rw [List.take_succ_eq_append_getElem hk, List.filter_append, List.map_append]
  simp [h]
theorem keysTo_len (fs : List (List SpanD)) (rs : List RowD) (k : Nat) : (keysTo fs rs k).length ≤ k := by
  unfold keysTo
  rw [List.length_map]
  exact Nat.le_trans (List.length_filter_le _ _) (by simp <;> omega)
theorem below_grown {w w' : World} (h : Below w.heap.size w w') (row : Option Nat) : w.grownBy w' row := ⟨h.os, h.tape, h.output, h.size, fun i hi _ => h.block i hi⟩
/-- An operation that runs, as a step of a drawn region. -/
theorem step_run {P : Program} {ops : Array Oper} {o : Oper} {a : Act} {w w' : World} {v : Value} {K : Act → World → Prop} {Q : Exit → Act → World → Prop} {E : Prop} (hgd : o.guard = none)
    (hy : (execOp a.eval o).run P w = .ok (.value v) w') (h : K (a.put o.dst v) w') : if Region.wanted o (yielded ops a.tmps) = true then Oper.wp P o a w K Q else E := by
  have hw : Region.wanted o (yielded ops a.tmps) = true := by simp [Region.wanted, hgd]
  rw [if_pos hw]
  unfold Oper.wp
  simp [hy, Result.andThen]
  exact h
/-- A step that leaves no value. -/
theorem step_skip {P : Program} {ops : Array Oper} {o : Oper} {a : Act} {w w' : World} {K : Act → World → Prop} {Q : Exit → Act → World → Prop} {E : Prop} (hgd : o.guard = none)
    (hy : (execOp a.eval o).run P w = .ok .skip w') (h : K (a.put o.dst undef) w') : if Region.wanted o (yielded ops a.tmps) = true then Oper.wp P o a w K Q else E := by
  have hw : Region.wanted o (yielded ops a.tmps) = true := by simp [Region.wanted, hgd]
  rw [if_pos hw]
  unfold Oper.wp
  simp [hy, Result.andThen]
  exact h
set_option maxHeartbeats 16000000 in
set_option maxRecDepth 100000 in
theorem implCountSets (m : Nat) (s0 s1 s2 : Value) (fs : List (List SpanD)) (rv : Value) (rs : List RowD) (w : World) (hc : CI w fs s0 s1 s2) (h : RowsR w rv rs) (hz : zL tSpanS fs ≤ 1048576) (hf : fs.length = 3) (hs : szL rs ≤ 1048576) :
    Calls Tryd.prog 72 #[ciV m s0 s1 s2, rv] w fun e w' => e = .returned (.map (some (w.heap.size + 1))) ∧ (∃ D : DataW Unit, World.ownsMap w' Tryd.prog 106 (plainElem (H := Unit) Tryd.prog 3) (w.heap.size + 1) rs.length D ∧ CountsD D (keysTo fs rs rs.length)) ∧ Below w.heap.size w w' := by
  have hmm := @run_makeMap Tryd.prog
  have hlen : rs.length ≤ 1048576 := by have := szTo_le (rs := rs) (Nat.zero_le _); rw [szTo_zero] at this; omega
  obtain ⟨ra, rc, rfl⟩ := rowsR_len h
  have H := Lib.hid h; have HC := Lib.hid hc; have HZ := Lib.hid hz; have HF := Lib.hid hf; have HS := Lib.hid hs
  have d := Lib.hid (((Below.refl w.heap.size w).alloc (Nat.le_refl _) (.cells #[.int .u32 (m : Int), s0, s1, s2] 96)).alloc (by simp) (.map #[] 0))
  have B0 : Hid (((w.alloc (.cells #[.int .u32 (m : Int), s0, s1, s2] 96)).alloc (.map #[] 0)).heap[w.heap.size]? = some (.cells #[.int .u32 (m : Int), s0, s1, s2] 96 (0, 0))) := Lib.hid (by rw [Below.heap_alloc _ _ _ (by simp)]; exact heap_alloc_new w _)
  have OM : Hid (∃ D : DataW Unit, World.ownsMap ((w.alloc (.cells #[.int .u32 (m : Int), s0, s1, s2] 96)).alloc (.map #[] 0)) Tryd.prog 106 (plainElem (H := Unit) Tryd.prog 3) (w.heap.size + 1) 0 D ∧ CountsD D (keysTo fs rs 0)) := Lib.hid ⟨.map [], by
    have := World.ownsMap_made (H := Unit) (w.alloc (.cells #[.int .u32 (m : Int), s0, s1, s2] 96)) Tryd.prog 106 (plainElem Tryd.prog 3)
    simpa only [World.size_alloc] using this, countsD_start⟩
  clear h hc hz hf hs
  go_enter Tryd.func72, Tryd.ntmps72
  go_wp2
  clear hmm
  generalize ((w.alloc (.cells #[.int .u32 (m : Int), s0, s1, s2] 96)).alloc (.map #[] 0)) = W at *
  go_loopw [11] (fun i wr => ∃ k : Nat, k ≤ rs.length ∧ i = .int .i64 k ∧ Hid (∃ D : DataW Unit, World.ownsMap wr Tryd.prog 106 (plainElem (H := Unit) Tryd.prog 3) (w.heap.size + 1) k D ∧ CountsD D (keysTo fs rs k)) ∧ Hid (wr.heap[w.heap.size]? = some (.cells #[.int .u32 (m : Int), s0, s1, s2] 96 (0, 0))) ∧ Hid (Below w.heap.size w wr)) (fun i _ => rs.length - (intOf i).toNat)
  case atStart => exact ⟨0, Nat.zero_le _, rfl, OM, B0, d⟩
  case round =>
    clear OM B0 d
    obtain ⟨k, hk, rfl, OM, B0, d⟩ := hrel
    by_cases hlt : k < rs.length
    · obtain ⟨b, off, cap', vv, hv, hbl, hc1, hc2, hI⟩ := rowsR_at (rowsR_below H.out d.out) hlt
      simp only [Value.slice.injEq] at hv
      obtain ⟨rfl, _, rfl⟩ := hv
      obtain ⟨va, vc, rfl⟩ := ints_len hI
      have hxl := szL_row HS.out hlt
      have i1 : (0 : Int) ≤ (k : Int) := by omega
      have i2 : (k : Int) < (rs.length : Int) := by omega
      have HR := Lib.hid (fun w h => implIsRow (rs.getD k (0, [])).1 (.slice va (rs.getD k (0, [])).2.length vc) (rs.getD k (0, [])).2 w h hxl)
      have er : (((rs.getD k (0, [])).1, (rs.getD k (0, [])).2) : RowD) = rs.getD k (0, []) := rfl
      rw [er] at HR
      clear er
      cases hrb : rowB (rs.getD k (0, [])) with
      | false =>
        have HK := Lib.hid (keysTo_no (fs := fs) hlt hrb)
        rw [hrb] at HR
        clear hrb
        generalize (rs.getD k (0, [])).1 = id at *
        generalize (rs.getD k (0, [])).2 = xs at *
        go_wp2_with fail
        have hal : Below wr.heap.size wr (wr.alloc (.cells #[.int .i64 id, .slice va xs.length vc] 30)) := (Below.refl _ _).alloc (Nat.le_refl _) _
        have OM2 : Hid (∃ D : DataW Unit, World.ownsMap (wr.alloc (.cells #[.int .i64 id, .slice va xs.length vc] 30)) Tryd.prog 106 (plainElem (H := Unit) Tryd.prog 3) (w.heap.size + 1) k D ∧ CountsD D (keysTo fs rs k)) := Lib.hid (by obtain ⟨D, h1, h2⟩ := OM.out; exact ⟨D, h1.alloc _, h2⟩)
        have I2 := Lib.hid (ints_below hI hal)
        replace B0 := Lib.hid ((hal.block w.heap.size (Array.getElem?_eq_some_iff.1 B0.out).1).trans B0.out)
        replace d := Lib.hid (d.out.trans (hal.mono d.out.size))
        clear hal OM hI
        generalize wr.alloc (.cells #[.int .i64 id, .slice va xs.length vc] 30) = W2 at *
        refine (HR.out W2 I2.out).mono ?_
        rintro e w3 ⟨rfl, c3⟩
        have OM3 : Hid (∃ D : DataW Unit, World.ownsMap w3 Tryd.prog 106 (plainElem (H := Unit) Tryd.prog 3) (w.heap.size + 1) (k + 1) D ∧ CountsD D (keysTo fs rs (k + 1))) := Lib.hid (by obtain ⟨D, h1, h2⟩ := OM2.out; exact ⟨D, (h1.kept (below_grown c3 none) (by simp)).mono (Nat.le_succ _), by rw [HK.out]; exact h2⟩)
        replace B0 := Lib.hid ((c3.block w.heap.size (Array.getElem?_eq_some_iff.1 B0.out).1).trans B0.out)
        replace d := Lib.hid (d.out.trans (c3.mono d.out.size))
        have Z_w3 := Lib.hid (show W2.heap.size ≤ w3.heap.size from c3.size)
        clear c3 OM2 I2
        go_wp2
        go_roundw
        case rel => exact ⟨k + 1, by omega, by go_num, OM3, B0, d⟩
        case measure => simp [intOf]; omega
      | true =>
        have HK := Lib.hid (keysTo_yes (fs := fs) hlt hrb)
        have HV3 : Hid ((rs.getD k (0, [])).2.length = 3) := Lib.hid (row_len hrb)
        have HKL := Lib.hid (keysTo_len fs rs k)
        rw [hrb] at HR
        clear hrb
        obtain ⟨D, hown, hcd⟩ := OM.out
        have HO := Lib.hid hown; have HCD := Lib.hid hcd
        have HW0 := Lib.hid HO.out.lt
        clear hown hcd OM
        have ek : keyR fs (rs.getD k (0, [])) = keyL (setM fs (rs.getD k (0, [])).2 0) (setM fs (rs.getD k (0, [])).2 1) (setM fs (rs.getD k (0, [])).2 2) := rfl
        rw [ek] at HK
        clear ek
        generalize (rs.getD k (0, [])).1 = id at *
        generalize (rs.getD k (0, [])).2 = xs at *
        go_wp2_with fail
        have hal : Below wr.heap.size wr (wr.alloc (.cells #[.int .i64 id, .slice va xs.length vc] 30)) := (Below.refl _ _).alloc (Nat.le_refl _) _
        have B3 : Hid ((wr.alloc (.cells #[.int .i64 id, .slice va xs.length vc] 30)).heap[wr.heap.size]? = some (.cells #[.int .i64 id, .slice va xs.length vc] 30 (0, 0))) := Lib.hid (heap_alloc_new wr _)
        replace HO := Lib.hid (HO.out.alloc (.cells #[.int .i64 id, .slice va xs.length vc] 30))
        have I2 := Lib.hid (ints_below hI hal)
        replace B0 := Lib.hid ((hal.block w.heap.size (Array.getElem?_eq_some_iff.1 B0.out).1).trans B0.out)
        replace d := Lib.hid (d.out.trans (hal.mono d.out.size))
        have YB : Hid (wr.heap.size < (wr.alloc (.cells #[.int .i64 id, .slice va xs.length vc] 30)).heap.size) := Lib.hid (by simp)
        clear hal hI
        generalize wr.alloc (.cells #[.int .i64 id, .slice va xs.length vc] 30) = W2 at *
        refine (HR.out W2 I2.out).mono ?_
        rintro e w3 ⟨rfl, c3⟩
        replace HO := Lib.hid (HO.out.kept (below_grown c3 none) (by simp))
        replace I2 := Lib.hid (ints_below I2.out c3)
        replace B0 := Lib.hid ((c3.block w.heap.size (Array.getElem?_eq_some_iff.1 B0.out).1).trans B0.out)
        replace B3 := Lib.hid ((c3.block wr.heap.size (Array.getElem?_eq_some_iff.1 B3.out).1).trans B3.out)
        replace d := Lib.hid (d.out.trans (c3.mono d.out.size))
        have Z_w3 := Lib.hid (show W2.heap.size ≤ w3.heap.size from c3.size)
        clear c3
        try clear Z_w3
        have m1 := setM_lt fs xs 0; have m2 := setM_lt fs xs 1; have m3 := setM_lt fs xs 2
        have HSO := Lib.hid (fun w g1 g2 => implSetsOf m s0 s1 s2 fs id (.slice va xs.length vc) xs w g1 g2 HZ.out HF.out HV3.out)
        have HKO := Lib.hid (keyL_of m1 m2 m3)
        clear m1 m2 m3
        generalize setM fs xs 0 = a at *
        generalize setM fs xs 1 = b2 at *
        generalize setM fs xs 2 = c at *
        have YM := Lib.hid HO.out.lt
        have HWR : Hid (w.heap.size + 1 < wr.heap.size) := HW0
        have p_B3_0 := (cell_of_row w3 _ 0 _ _ _ B3.out).trans (show _ = some (Value.int .i64 id) from rfl)
        have p_B3_1 := (cell_of_row w3 _ 1 _ _ _ B3.out).trans (show _ = some (Value.slice va xs.length vc) from rfl)
        go_wp2
        clear p_B3_0 p_B3_1
        have p_B0_0 := (cell_of_row w3 _ 0 _ _ _ B0.out).trans (show _ = some (Value.int .u32 (m : Int)) from rfl)
        have p_B0_1 := (cell_of_row w3 _ 1 _ _ _ B0.out).trans (show _ = some (s0) from rfl)
        have p_B0_2 := (cell_of_row w3 _ 2 _ _ _ B0.out).trans (show _ = some (s1) from rfl)
        have p_B0_3 := (cell_of_row w3 _ 3 _ _ _ B0.out).trans (show _ = some (s2) from rfl)
        have p_B3_0 := (cell_of_row w3 _ 0 _ _ _ B3.out).trans (show _ = some (Value.int .i64 id) from rfl)
        have p_B3_1 := (cell_of_row w3 _ 1 _ _ _ B3.out).trans (show _ = some (Value.slice va xs.length vc) from rfl)
        refine wp_region_held_drew (S := fun w' => w'.cell? ⟨w.heap.size, 0, none⟩ = some (Value.int .u32 (m : Int)) ∧ w'.cell? ⟨w.heap.size, 1, none⟩ = some (s0) ∧ w'.cell? ⟨w.heap.size, 2, none⟩ = some (s1) ∧ w'.cell? ⟨w.heap.size, 3, none⟩ = some (s2) ∧ w'.cell? ⟨wr.heap.size, 0, none⟩ = some (Value.int .i64 id) ∧ w'.cell? ⟨wr.heap.size, 1, none⟩ = some (Value.slice va xs.length vc)) (by kernel_rfl) ⟨p_B0_0, p_B0_1, p_B0_2, p_B0_3, p_B3_0, p_B3_1⟩ (fun hHeld => ?_)
        clear p_B0_0 p_B0_1 p_B0_2 p_B0_3 p_B3_0 p_B3_1
        have cdr : Below w3.heap.size w3 w3.drew := below_drew (Below.refl _ _)
        replace B0 := Lib.hid ((cdr.block w.heap.size (Array.getElem?_eq_some_iff.1 B0.out).1).trans B0.out)
        replace B3 := Lib.hid ((cdr.block wr.heap.size (Array.getElem?_eq_some_iff.1 B3.out).1).trans B3.out)
        replace d := Lib.hid (d.out.trans (cdr.mono d.out.size))
        clear cdr
        refine take_runs (i := 0) (v := ?_) (by simp only [List.getElem?_toArray, List.getElem?_cons_succ, List.getElem?_cons_zero]; rfl) (by kernel_rfl) (by kernel_rfl) (by kernel_rfl) rfl (by exact fun _ _ _ h => h) (by rfl) ?_ (by assumption) ?_
        rotate_left
        · intro w hSw; (try dsimp only at hSw); go_simp; try (with_reducible rfl)
        try simp only [Act.put, List.setIfInBounds_toArray, List.set_cons_zero, List.set_cons_succ]
        refine take_runs (i := 1) (v := ?_) (by simp only [List.getElem?_toArray, List.getElem?_cons_succ, List.getElem?_cons_zero]; rfl) (by kernel_rfl) (by kernel_rfl) (by kernel_rfl) rfl (by exact fun _ _ _ h => h) (by rfl) ?_ (by assumption) ?_
        rotate_left
        · intro w hSw; (try dsimp only at hSw); go_simp; try (with_reducible rfl)
        try simp only [Act.put, List.setIfInBounds_toArray, List.set_cons_zero, List.set_cons_succ]
        refine take_runs (i := 2) (v := ?_) (by simp only [List.getElem?_toArray, List.getElem?_cons_succ, List.getElem?_cons_zero]; rfl) (by kernel_rfl) (by kernel_rfl) (by kernel_rfl) rfl (by exact fun _ _ _ h => h) (by rfl) ?_ (by assumption) ?_
        rotate_left
        · intro w hSw; (try dsimp only at hSw); go_simp; try (with_reducible rfl)
        try simp only [Act.put, List.setIfInBounds_toArray, List.set_cons_zero, List.set_cons_succ]
        refine wpAnyH_ready (rs := [3]) (by kernel_rfl) (by simp) ?_
        refine (AllReadyH.cons (o := _) (by simp only [List.getElem?_toArray, List.getElem?_cons_succ, List.getElem?_cons_zero]; rfl) (fun K hK => ?_) AllReadyH.nil)
        go_simp
        refine (HSO.out (w3.drew) (ci_below HC.out d.out) I2.out).mono ?_
        rintro e w4 ⟨rfl, c4⟩
        replace HO := Lib.hid (HO.out.drew.kept (below_grown c4 none) (by simp))
        replace B0 := Lib.hid ((c4.block w.heap.size (Array.getElem?_eq_some_iff.1 B0.out).1).trans B0.out)
        replace B3 := Lib.hid ((c4.block wr.heap.size (Array.getElem?_eq_some_iff.1 B3.out).1).trans B3.out)
        replace d := Lib.hid (d.out.trans (c4.mono d.out.size))
        have Z_w4 := Lib.hid (show w3.heap.size ≤ w4.heap.size from c4.size)
        clear c4 I2
        try clear Z_w4
        obtain ⟨n, st, w5, hat, hwn, hlook, hent, hlook1, hg5, hst⟩ := entry_any keyLawK Tryd.underlying117 Tryd.underlying3 zeroK HO.out (by unfold maxLen; omega) HKO.out
        have hn := countsD_at HCD.out keyL_lit hat
        have hcl := cntK_le (keysTo fs rs k) (keyL a b2 c)
        have hn0 : 0 ≤ n := by omega
        have hn1 : n ≤ 1048576 := by have := HKL.out; omega
        obtain ⟨w6, hest, ho6, hg6⟩ := hst (n + 1) (WalkArith.wf_i64 (by omega))
        have HD6 := Lib.hid (countsD_step HCD.out keyL_lit hat)
        have HO6 := Lib.hid ho6
        have YM4 := Lib.hid HO.out.lt
        have HLK := Lib.hid hlook; have HEN := Lib.hid hent; have HLK1 := Lib.hid hlook1; have HES : Hid ((Instr.entryStore 117 (.map (some (w.heap.size + 1))) (Value.int .i64 (st : Int)) (Value.int .i64 (IntKind.i64.wrap (n + 1)))).run Tryd.prog w5 = .ok () w6) := Lib.hid (by rw [IntWalk.i64_in (n + 1) (by omega)]; exact hest); have HG5 := Lib.hid hg5; have HG6 := Lib.hid hg6
        clear hat hwn hlook hent hlook1 hg5 hst hn hcl hest ho6 hg6 HO HCD
        have p_B0_0 := (cell_of_row w4 _ 0 _ _ _ B0.out).trans (show _ = some (Value.int .u32 (m : Int)) from rfl)
        have p_B0_1 := (cell_of_row w4 _ 1 _ _ _ B0.out).trans (show _ = some (s0) from rfl)
        have p_B0_2 := (cell_of_row w4 _ 2 _ _ _ B0.out).trans (show _ = some (s1) from rfl)
        have p_B0_3 := (cell_of_row w4 _ 3 _ _ _ B0.out).trans (show _ = some (s2) from rfl)
        have p_B3_0 := (cell_of_row w4 _ 0 _ _ _ B3.out).trans (show _ = some (Value.int .i64 id) from rfl)
        have p_B3_1 := (cell_of_row w4 _ 1 _ _ _ B3.out).trans (show _ = some (Value.slice va xs.length vc) from rfl)
        refine hK.out _ _ ⟨p_B0_0, p_B0_1, p_B0_2, p_B0_3, p_B3_0, p_B3_1⟩ (fun hHeld => ?_)
        clear p_B0_0 p_B0_1 p_B0_2 p_B0_3 p_B3_0 p_B3_1
        clear hK K
        try simp only [Act.put, List.setIfInBounds_toArray, List.set_cons_zero, List.set_cons_succ]
        refine wpAnyH_ready (rs := [4, 6]) (by kernel_rfl) (by simp) ?_
        refine (AllReadyH.cons (o := _) (by simp only [List.getElem?_toArray, List.getElem?_cons_succ, List.getElem?_cons_zero]; rfl) (fun K hK => ?_) (AllReadyH.cons (o := _) (by simp only [List.getElem?_toArray, List.getElem?_cons_succ, List.getElem?_cons_zero]; rfl) (fun K hK => ?_) AllReadyH.nil))
        · refine step_run rfl (by go_simp; rw [HLK.out]; rfl) ?_
          have p_B0_0 := (cell_of_row w4 _ 0 _ _ _ B0.out).trans (show _ = some (Value.int .u32 (m : Int)) from rfl)
          have p_B0_1 := (cell_of_row w4 _ 1 _ _ _ B0.out).trans (show _ = some (s0) from rfl)
          have p_B0_2 := (cell_of_row w4 _ 2 _ _ _ B0.out).trans (show _ = some (s1) from rfl)
          have p_B0_3 := (cell_of_row w4 _ 3 _ _ _ B0.out).trans (show _ = some (s2) from rfl)
          have p_B3_0 := (cell_of_row w4 _ 0 _ _ _ B3.out).trans (show _ = some (Value.int .i64 id) from rfl)
          have p_B3_1 := (cell_of_row w4 _ 1 _ _ _ B3.out).trans (show _ = some (Value.slice va xs.length vc) from rfl)
          refine hK.out _ _ ⟨p_B0_0, p_B0_1, p_B0_2, p_B0_3, p_B3_0, p_B3_1⟩ (fun hHeld => ?_)
          clear p_B0_0 p_B0_1 p_B0_2 p_B0_3 p_B3_0 p_B3_1
          clear hK K
          try simp only [Act.put, List.setIfInBounds_toArray, List.set_cons_zero, List.set_cons_succ]
          refine take_runs (i := 5) (v := ?_) (by simp only [List.getElem?_toArray, List.getElem?_cons_succ, List.getElem?_cons_zero]; rfl) (by kernel_rfl) (by kernel_rfl) (by kernel_rfl) rfl (by exact fun _ _ _ h => h) (by rfl) ?_ (by assumption) ?_
          rotate_left
          · intro w hSw; (try dsimp only at hSw); go_simp; try (with_reducible rfl)
          try simp only [Act.put, List.setIfInBounds_toArray, List.set_cons_zero, List.set_cons_succ]
          refine wpAnyH_ready (rs := [6]) (by kernel_rfl) (by simp) ?_
          refine (AllReadyH.cons (o := _) (by simp only [List.getElem?_toArray, List.getElem?_cons_succ, List.getElem?_cons_zero]; rfl) (fun K hK => ?_) AllReadyH.nil)
          refine step_run rfl (by go_simp; rw [HEN.out]; rfl) ?_
          have tt : Turn (fun b => b = w.heap.size + 1) w4 w5 := turn_grown HG5.out (fun b hb => by cases hb; rfl)
          have hb0 := (Array.getElem?_eq_some_iff.1 B0.out).1; have hb3 := (Array.getElem?_eq_some_iff.1 B3.out).1; have yd := d.out.size; have yb := YB.out; have ym := YM.out
          replace B0 := Lib.hid ((tt.block w.heap.size hb0 (fun h => by omega)).trans B0.out)
          replace B3 := Lib.hid ((tt.block wr.heap.size hb3 (fun h => by have := HWR.out; omega)).trans B3.out)
          replace d := Lib.hid (below_turn d.out tt (fun b h => by omega) yd)
          clear tt hb0 hb3 yd yb ym
          have p_B0_0 := (cell_of_row w5 _ 0 _ _ _ B0.out).trans (show _ = some (Value.int .u32 (m : Int)) from rfl)
          have p_B0_1 := (cell_of_row w5 _ 1 _ _ _ B0.out).trans (show _ = some (s0) from rfl)
          have p_B0_2 := (cell_of_row w5 _ 2 _ _ _ B0.out).trans (show _ = some (s1) from rfl)
          have p_B0_3 := (cell_of_row w5 _ 3 _ _ _ B0.out).trans (show _ = some (s2) from rfl)
          have p_B3_0 := (cell_of_row w5 _ 0 _ _ _ B3.out).trans (show _ = some (Value.int .i64 id) from rfl)
          have p_B3_1 := (cell_of_row w5 _ 1 _ _ _ B3.out).trans (show _ = some (Value.slice va xs.length vc) from rfl)
          refine hK.out _ _ ⟨p_B0_0, p_B0_1, p_B0_2, p_B0_3, p_B3_0, p_B3_1⟩ (fun hHeld => ?_)
          clear p_B0_0 p_B0_1 p_B0_2 p_B0_3 p_B3_0 p_B3_1
          clear hK K
          try simp only [Act.put, List.setIfInBounds_toArray, List.set_cons_zero, List.set_cons_succ]
          refine take_runs (i := 7) (v := ?_) (by simp only [List.getElem?_toArray, List.getElem?_cons_succ, List.getElem?_cons_zero]; rfl) (by kernel_rfl) (by kernel_rfl) (by kernel_rfl) rfl (by exact fun _ _ _ h => h) (by rfl) ?_ (by assumption) ?_
          rotate_left
          · intro w hSw; (try dsimp only at hSw); go_simp; try (with_reducible rfl)
          try simp only [Act.put, List.setIfInBounds_toArray, List.set_cons_zero, List.set_cons_succ]
          refine wpAnyH_ready (rs := [8]) (by kernel_rfl) (by simp) ?_
          refine (AllReadyH.cons (o := _) (by simp only [List.getElem?_toArray, List.getElem?_cons_succ, List.getElem?_cons_zero]; rfl) (fun K hK => ?_) AllReadyH.nil)
          refine step_skip rfl (by go_simp; rw [HES.out]; rfl) ?_
          have tt : Turn (fun b => b = w.heap.size + 1) w5 w6 := turn_grown HG6.out (fun b hb => by cases hb; rfl)
          have hb0 := (Array.getElem?_eq_some_iff.1 B0.out).1; have hb3 := (Array.getElem?_eq_some_iff.1 B3.out).1; have yd := d.out.size; have yb := YB.out; have ym := YM.out
          replace B0 := Lib.hid ((tt.block w.heap.size hb0 (fun h => by omega)).trans B0.out)
          replace B3 := Lib.hid ((tt.block wr.heap.size hb3 (fun h => by have := HWR.out; omega)).trans B3.out)
          replace d := Lib.hid (below_turn d.out tt (fun b h => by omega) yd)
          clear tt hb0 hb3 yd yb ym
          have p_B0_0 := (cell_of_row w6 _ 0 _ _ _ B0.out).trans (show _ = some (Value.int .u32 (m : Int)) from rfl)
          have p_B0_1 := (cell_of_row w6 _ 1 _ _ _ B0.out).trans (show _ = some (s0) from rfl)
          have p_B0_2 := (cell_of_row w6 _ 2 _ _ _ B0.out).trans (show _ = some (s1) from rfl)
          have p_B0_3 := (cell_of_row w6 _ 3 _ _ _ B0.out).trans (show _ = some (s2) from rfl)
          have p_B3_0 := (cell_of_row w6 _ 0 _ _ _ B3.out).trans (show _ = some (Value.int .i64 id) from rfl)
          have p_B3_1 := (cell_of_row w6 _ 1 _ _ _ B3.out).trans (show _ = some (Value.slice va xs.length vc) from rfl)
          refine hK.out _ _ ⟨p_B0_0, p_B0_1, p_B0_2, p_B0_3, p_B3_0, p_B3_1⟩ (fun hHeld => ?_)
          clear p_B0_0 p_B0_1 p_B0_2 p_B0_3 p_B3_0 p_B3_1
          clear hK K
          try simp only [Act.put, List.setIfInBounds_toArray, List.set_cons_zero, List.set_cons_succ]
          refine wpAnyH_done (by kernel_rfl) ?_ _
          clear hHeld
          have OM9 : Hid (∃ D : DataW Unit, World.ownsMap w6 Tryd.prog 106 (plainElem (H := Unit) Tryd.prog 3) (w.heap.size + 1) (k + 1) D ∧ CountsD D (keysTo fs rs (k + 1))) := Lib.hid ⟨_, HO6.out, by rw [HK.out]; exact HD6.out⟩
          clear HO6 HD6 B3 HLK HEN HLK1 HES HG5 HG6
          go_wp2
          go_roundw
          case rel => exact ⟨k + 1, by omega, by go_num, OM9, B0, d⟩
          case measure => simp [intOf]; omega
        · refine step_run rfl (by go_simp; rw [HEN.out]; rfl) ?_
          have tt : Turn (fun b => b = w.heap.size + 1) w4 w5 := turn_grown HG5.out (fun b hb => by cases hb; rfl)
          have hb0 := (Array.getElem?_eq_some_iff.1 B0.out).1; have hb3 := (Array.getElem?_eq_some_iff.1 B3.out).1; have yd := d.out.size; have yb := YB.out; have ym := YM.out
          replace B0 := Lib.hid ((tt.block w.heap.size hb0 (fun h => by omega)).trans B0.out)
          replace B3 := Lib.hid ((tt.block wr.heap.size hb3 (fun h => by have := HWR.out; omega)).trans B3.out)
          replace d := Lib.hid (below_turn d.out tt (fun b h => by omega) yd)
          clear tt hb0 hb3 yd yb ym
          have p_B0_0 := (cell_of_row w5 _ 0 _ _ _ B0.out).trans (show _ = some (Value.int .u32 (m : Int)) from rfl)
          have p_B0_1 := (cell_of_row w5 _ 1 _ _ _ B0.out).trans (show _ = some (s0) from rfl)
          have p_B0_2 := (cell_of_row w5 _ 2 _ _ _ B0.out).trans (show _ = some (s1) from rfl)
          have p_B0_3 := (cell_of_row w5 _ 3 _ _ _ B0.out).trans (show _ = some (s2) from rfl)
          have p_B3_0 := (cell_of_row w5 _ 0 _ _ _ B3.out).trans (show _ = some (Value.int .i64 id) from rfl)
          have p_B3_1 := (cell_of_row w5 _ 1 _ _ _ B3.out).trans (show _ = some (Value.slice va xs.length vc) from rfl)
          refine hK.out _ _ ⟨p_B0_0, p_B0_1, p_B0_2, p_B0_3, p_B3_0, p_B3_1⟩ (fun hHeld => ?_)
          clear p_B0_0 p_B0_1 p_B0_2 p_B0_3 p_B3_0 p_B3_1
          clear hK K
          try simp only [Act.put, List.setIfInBounds_toArray, List.set_cons_zero, List.set_cons_succ]
          refine take_runs (i := 7) (v := ?_) (by simp only [List.getElem?_toArray, List.getElem?_cons_succ, List.getElem?_cons_zero]; rfl) (by kernel_rfl) (by kernel_rfl) (by kernel_rfl) rfl (by exact fun _ _ _ h => h) (by rfl) ?_ (by assumption) ?_
          rotate_left
          · intro w hSw; (try dsimp only at hSw); go_simp; try (with_reducible rfl)
          try simp only [Act.put, List.setIfInBounds_toArray, List.set_cons_zero, List.set_cons_succ]
          refine wpAnyH_ready (rs := [4]) (by kernel_rfl) (by simp) ?_
          refine (AllReadyH.cons (o := _) (by simp only [List.getElem?_toArray, List.getElem?_cons_succ, List.getElem?_cons_zero]; rfl) (fun K hK => ?_) AllReadyH.nil)
          refine step_run rfl (by go_simp; rw [HLK1.out]; rfl) ?_
          have p_B0_0 := (cell_of_row w5 _ 0 _ _ _ B0.out).trans (show _ = some (Value.int .u32 (m : Int)) from rfl)
          have p_B0_1 := (cell_of_row w5 _ 1 _ _ _ B0.out).trans (show _ = some (s0) from rfl)
          have p_B0_2 := (cell_of_row w5 _ 2 _ _ _ B0.out).trans (show _ = some (s1) from rfl)
          have p_B0_3 := (cell_of_row w5 _ 3 _ _ _ B0.out).trans (show _ = some (s2) from rfl)
          have p_B3_0 := (cell_of_row w5 _ 0 _ _ _ B3.out).trans (show _ = some (Value.int .i64 id) from rfl)
          have p_B3_1 := (cell_of_row w5 _ 1 _ _ _ B3.out).trans (show _ = some (Value.slice va xs.length vc) from rfl)
          refine hK.out _ _ ⟨p_B0_0, p_B0_1, p_B0_2, p_B0_3, p_B3_0, p_B3_1⟩ (fun hHeld => ?_)
          clear p_B0_0 p_B0_1 p_B0_2 p_B0_3 p_B3_0 p_B3_1
          clear hK K
          try simp only [Act.put, List.setIfInBounds_toArray, List.set_cons_zero, List.set_cons_succ]
          refine take_runs (i := 5) (v := ?_) (by simp only [List.getElem?_toArray, List.getElem?_cons_succ, List.getElem?_cons_zero]; rfl) (by kernel_rfl) (by kernel_rfl) (by kernel_rfl) rfl (by exact fun _ _ _ h => h) (by rfl) ?_ (by assumption) ?_
          rotate_left
          · intro w hSw; (try dsimp only at hSw); go_simp; try (with_reducible rfl)
          try simp only [Act.put, List.setIfInBounds_toArray, List.set_cons_zero, List.set_cons_succ]
          refine wpAnyH_ready (rs := [8]) (by kernel_rfl) (by simp) ?_
          refine (AllReadyH.cons (o := _) (by simp only [List.getElem?_toArray, List.getElem?_cons_succ, List.getElem?_cons_zero]; rfl) (fun K hK => ?_) AllReadyH.nil)
          refine step_skip rfl (by go_simp; rw [HES.out]; rfl) ?_
          have tt : Turn (fun b => b = w.heap.size + 1) w5 w6 := turn_grown HG6.out (fun b hb => by cases hb; rfl)
          have hb0 := (Array.getElem?_eq_some_iff.1 B0.out).1; have hb3 := (Array.getElem?_eq_some_iff.1 B3.out).1; have yd := d.out.size; have yb := YB.out; have ym := YM.out
          replace B0 := Lib.hid ((tt.block w.heap.size hb0 (fun h => by omega)).trans B0.out)
          replace B3 := Lib.hid ((tt.block wr.heap.size hb3 (fun h => by have := HWR.out; omega)).trans B3.out)
          replace d := Lib.hid (below_turn d.out tt (fun b h => by omega) yd)
          clear tt hb0 hb3 yd yb ym
          have p_B0_0 := (cell_of_row w6 _ 0 _ _ _ B0.out).trans (show _ = some (Value.int .u32 (m : Int)) from rfl)
          have p_B0_1 := (cell_of_row w6 _ 1 _ _ _ B0.out).trans (show _ = some (s0) from rfl)
          have p_B0_2 := (cell_of_row w6 _ 2 _ _ _ B0.out).trans (show _ = some (s1) from rfl)
          have p_B0_3 := (cell_of_row w6 _ 3 _ _ _ B0.out).trans (show _ = some (s2) from rfl)
          have p_B3_0 := (cell_of_row w6 _ 0 _ _ _ B3.out).trans (show _ = some (Value.int .i64 id) from rfl)
          have p_B3_1 := (cell_of_row w6 _ 1 _ _ _ B3.out).trans (show _ = some (Value.slice va xs.length vc) from rfl)
          refine hK.out _ _ ⟨p_B0_0, p_B0_1, p_B0_2, p_B0_3, p_B3_0, p_B3_1⟩ (fun hHeld => ?_)
          clear p_B0_0 p_B0_1 p_B0_2 p_B0_3 p_B3_0 p_B3_1
          clear hK K
          try simp only [Act.put, List.setIfInBounds_toArray, List.set_cons_zero, List.set_cons_succ]
          refine wpAnyH_done (by kernel_rfl) ?_ _
          clear hHeld
          have OM9 : Hid (∃ D : DataW Unit, World.ownsMap w6 Tryd.prog 106 (plainElem (H := Unit) Tryd.prog 3) (w.heap.size + 1) (k + 1) D ∧ CountsD D (keysTo fs rs (k + 1))) := Lib.hid ⟨_, HO6.out, by rw [HK.out]; exact HD6.out⟩
          clear HO6 HD6 B3 HLK HEN HLK1 HES HG5 HG6
          go_wp2
          go_roundw
          case rel => exact ⟨k + 1, by omega, by go_num, OM9, B0, d⟩
          case measure => simp [intOf]; omega
    · obtain rfl : k = rs.length := by omega
      go_wp2
      go_ret
      exact ⟨rfl, OM.out, d.out⟩
end Go.Proofs.YtidhmgboknffkaaDoor
namespace Go.Proofs.YtidhmgboknffkaaDoor
open Go.RowKit Go.Maps
set_option linter.unusedVariables false
set_option linter.unusedSimpArgs false
def IsKeyM (kl : Lit) (p : Nat × Nat × Nat) : Prop := p.1 < 16777216 ∧ p.2.1 < 16777216 ∧ p.2.2 < 16777216 ∧ kl = keyL p.1 p.2.1 p.2.2
/-- The work at a key. -/
noncomputable def gK (m : Nat) (os : List Int) (kl : Lit) : Int :=
  let p := @Classical.epsilon (Nat × Nat × Nat) ⟨(0, 0, 0)⟩ (IsKeyM kl)
  workK m os p.1 p.2.1 p.2.2
theorem keyL_inj {a b c a' b' c' : Nat} (ha : a < 16777216) (hb : b < 16777216) (hc : c < 16777216) (ha' : a' < 16777216) (hb' : b' < 16777216) (hc' : c' < 16777216) (h : keyL a b c = keyL a' b' c') : a = a' ∧ b = b' ∧ c = c' := by
  have h1 := keyL_of ha hb hc
  rw [h] at h1
  have := keyLawK.inj h1 (keyL_of ha' hb' hc')
  simp at this
  omega
theorem gK_at {m : Nat} {os : List Int} {a b c : Nat} (ha : a < 16777216) (hb : b < 16777216) (hc : c < 16777216) : gK m os (keyL a b c) = workK m os a b c := by
  have hex : ∃ p, IsKeyM (keyL a b c) p := ⟨(a, b, c), ha, hb, hc, rfl⟩
  have hp := @Classical.epsilon_spec (Nat × Nat × Nat) (IsKeyM (keyL a b c)) hex
  unfold gK
  have e : (⟨(0, 0, 0)⟩ : Nonempty (Nat × Nat × Nat)) = ⟨hex.choose⟩ := rfl
  dsimp only
  generalize @Classical.epsilon (Nat × Nat × Nat) _ (IsKeyM (keyL a b c)) = p at *
  obtain ⟨h1, h2, h3, h4⟩ := hp
  obtain ⟨e1, e2, e3⟩ := keyL_inj ha hb hc h1 h2 h3 h4
  rw [← e1, ← e2, ← e3]
theorem gK_range {m : Nat} (h : m < 16777216) {os : List Int} (ho : os.length = 3) (kl : Lit) : 0 ≤ gK m os kl ∧ gK m os kl ≤ 75 := workK_range h ho _ _ _
theorem keys_are {fs : List (List SpanD)} {rs : List RowD} {k : Nat} {kl : Lit} (h : kl ∈ keysTo fs rs k) : ∃ a b c : Nat, a < 16777216 ∧ b < 16777216 ∧ c < 16777216 ∧ kl = keyL a b c := by
  obtain ⟨r, _, rfl⟩ := List.mem_map.1 h
  exact ⟨_, _, _, setM_lt .., setM_lt .., setM_lt .., rfl⟩
theorem mul_le_of {c g M N : Int} (h0 : 0 ≤ c) (h1 : c ≤ N) (g0 : 0 ≤ g) (g1 : g ≤ M) : 0 ≤ c * g ∧ c * g ≤ N * M :=
  ⟨Int.mul_nonneg h0 g0, Int.le_trans (Int.mul_le_mul_of_nonneg_right h1 g0) (Int.mul_le_mul_of_nonneg_left g1 (Int.le_trans h0 h1))⟩
set_option maxHeartbeats 16000000 in
set_option maxRecDepth 100000 in
theorem implWorkOfMap (m : Nat) (s0 s1 s2 : Value) (bm n : Nat) (D : DataW Unit) (L : List Lit) (x0 x1 x2 : Int) (w : World) (hown : w.ownsMap Tryd.prog 106 (plainElem (H := Unit) Tryd.prog 3) bm n D) (hcd : CountsD D L) (hL : L.length ≤ 1048576)
    (hkeys : ∀ k ∈ L, ∃ a b c : Nat, a < 16777216 ∧ b < 16777216 ∧ c < 16777216 ∧ k = keyL a b c) (hm : m < 16777216) (h0 : 0 ≤ x0 ∧ x0 ≤ 2) (h1 : 0 ≤ x1 ∧ x1 ≤ 2) (h2 : 0 ≤ x2 ∧ x2 ≤ 2) :
    Calls Tryd.prog 73 #[ciV m s0 s1 s2, .map (some bm), .agg #[.int .i64 x0, .int .i64 x1, .int .i64 x2]] w fun e w' => e = .returned (.int .i64 ((L.map (gK m [x0, x1, x2])).sum)) ∧ Below w.heap.size w w' := by
  have HG := Lib.hid (fun kl => gK_range hm (os := [x0, x1, x2]) rfl kl)
  have HP := Lib.hid (fun a b c ha hb hc w => implProbe m s0 s1 s2 a b c x0 x1 x2 w hm ha hb hc h0 h1 h2)
  have HGK := Lib.hid (fun a b c ha hb hc => @gK_at m [x0, x1, x2] a b c ha hb hc)
  have HCD := Lib.hid hcd; have HK := Lib.hid hkeys; have HLL := Lib.hid hL
  have d := Lib.hid (((Below.refl w.heap.size w).alloc (Nat.le_refl _) (.cells #[.int .u32 (m : Int), s0, s1, s2] 96)).alloc (by simp) (.cells #[.int .i64 x0, .int .i64 x1, .int .i64 x2] 100))
  have B0 : Hid (((w.alloc (.cells #[.int .u32 (m : Int), s0, s1, s2] 96)).alloc (.cells #[.int .i64 x0, .int .i64 x1, .int .i64 x2] 100)).heap[w.heap.size]? = some (.cells #[.int .u32 (m : Int), s0, s1, s2] 96 (0, 0))) := Lib.hid (by rw [Below.heap_alloc _ _ _ (by simp)]; exact heap_alloc_new w _)
  have B1 : Hid (((w.alloc (.cells #[.int .u32 (m : Int), s0, s1, s2] 96)).alloc (.cells #[.int .i64 x0, .int .i64 x1, .int .i64 x2] 100)).heap[(w.heap.size + 1)]? = some (.cells #[.int .i64 x0, .int .i64 x1, .int .i64 x2] 100 (0, 0))) := Lib.hid (by
    have := heap_alloc_new (w.alloc (.cells #[.int .u32 (m : Int), s0, s1, s2] 96)) (.cells #[.int .i64 x0, .int .i64 x1, .int .i64 x2] 100)
    simpa only [World.size_alloc] using this)
  have HO : Hid (((w.alloc (.cells #[.int .u32 (m : Int), s0, s1, s2] 96)).alloc (.cells #[.int .i64 x0, .int .i64 x1, .int .i64 x2] 100)).ownsMap Tryd.prog 106 (plainElem (H := Unit) Tryd.prog 3) bm n D) := Lib.hid ((hown.alloc _).alloc _)
  have HBM := Lib.hid hown.lt
  have HSZ : Hid (((w.alloc (.cells #[.int .u32 (m : Int), s0, s1, s2] 96)).alloc (.cells #[.int .i64 x0, .int .i64 x1, .int .i64 x2] 100)).heap.size = w.heap.size + 1 + 1) := Lib.hid (by simp)
  clear hown hcd hL hkeys hm h0 h1 h2
  go_enter Tryd.func73, Tryd.ntmps73
  go_wp2_with (first
    | (at_range; refine wpList_range_own _ rfl _ 117 rfl 106 3 keyedK Tryd.underlying117 (plainElem (H := Unit) Tryd.prog 3) bm n D rfl HO.out ?_; intro w0 hrg0 hg0 hs0)
    | go_in)
  go_frame
  generalize ((w.alloc (.cells #[.int .u32 (m : Int), s0, s1, s2] 96)).alloc (.cells #[.int .i64 x0, .int .i64 x1, .int .i64 x2] 100)) = W at *
  have hb0 : Below w.heap.size w w0 := d.out.grown (hg0) d.out.size (fun j hj => by cases hj)
  have k0 := (hg0.block w.heap.size (Array.getElem?_eq_some_iff.1 B0.out).1 (by simp)).trans B0.out
  have k1 := (hg0.block (w.heap.size + 1) (Array.getElem?_eq_some_iff.1 B1.out).1 (by simp)).trans B1.out
  have HS0 : Hid (doneS (gK m [x0, x1, x2]) (Maps.has D) L = 0) := Lib.hid (doneS_start (fun k hk => HCD.out.here k hk))
  have HRG := Lib.hid hrg0
  have K0 := Lib.hid k0; have K1 := Lib.hid k1; have HD0 := Lib.hid hb0
  clear hrg0 hg0 hs0 hb0 k0 k1 B0 B1 d HO
  go_loopw [7] (fun s wr => ∃ (left : Lit → Bool) (cnt : Nat) (sum : Int), s = .int .i64 sum ∧ Hid (wr.ranges Tryd.prog 106 (plainElem (H := Unit) Tryd.prog 3) bm W.heap.size n D left cnt) ∧ Hid (sum = doneS (gK m [x0, x1, x2]) left L) ∧ Hid (∀ kl, left kl = true → kl ∈ L) ∧ Hid (wr.heap[w.heap.size]? = some (.cells #[.int .u32 (m : Int), s0, s1, s2] 96 (0, 0))) ∧ Hid (wr.heap[(w.heap.size + 1)]? = some (.cells #[.int .i64 x0, .int .i64 x1, .int .i64 x2] 100 (0, 0))) ∧ Hid (Below w.heap.size w wr)) (fun _ wr => wr.rangeLeft bm W.heap.size)
  case atStart => exact ⟨_, _, 0, rfl, HRG, Lib.hid HS0.out.symm, Lib.hid (fun kl h => HCD.out.only kl h), K0, K1, HD0⟩
  case round =>
    clear HRG HS0 K0 K1 HD0
    obtain ⟨left, cnt, sum, rfl, HRG, HSUM, HLEFT, B0, B1, d⟩ := hrel
    have hrg := HRG.out
    go_wp2_with (first
      | (at_next; refine wpList_next_ranges _ rfl _ rfl 106 keyedK (plainElem (H := Unit) Tryd.prog 3) (fun v : Value => v) (fun c : Int => Value.int .i64 c) (fun key kl hkey => ⟨key, rfl⟩) (fun v y hv => by obtain ⟨c, rfl, _⟩ := plainElem_int_inv Tryd.underlying3 hv; exact ⟨c, rfl⟩) bm W.heap.size n _ _ _ rfl hrg ?_ ?_)
      | go_in)
    · intro _ hl0
      have HE : Hid (sum = (L.map (gK m [x0, x1, x2])).sum) := Lib.hid (by rw [HSUM.out]; exact doneS_end hl0)
      clear hrg HSUM hl0
      go_wp2
      go_ret
      exact ⟨congrArg (fun z => Ending.returned (Value.int .i64 z)) HE.out, d.out⟩
    · intro x c kl yd yp w1 cnt1 hkey hlk hv hat hrg1 hlt hg1 hs1 hen
      obtain ⟨a, b, c2, ha, hb, hc, rfl⟩ := HK.out kl (HLEFT.out kl hlk)
      obtain rfl := keyLawK.inj hkey (keyL_of ha hb hc)
      obtain ⟨c', hc', hy, hwc⟩ := plainElem_int_inv Tryd.underlying3 hv
      injection hc' with _ hc''
      subst hc''
      simp only [Prod.mk.injEq] at hy
      obtain ⟨rfl, rfl⟩ := hy
      have hcn := countsD_at HCD.out keyL_lit (hat (.lit (.int .i64 0)))
      have hcl := cntK_le L (keyL a b c2)
      have hc0 : 0 ≤ c := by omega
      have hc1 : c ≤ 1048576 := by have := HLL.out; omega
      have HSN := Lib.hid (doneS_step (g := gK m [x0, x1, x2]) hlk L)
      have hsr := doneS_range HG.out left L
      rw [← HSUM.out] at hsr
      have hsn := doneS_range HG.out (fun z => left z && !z.sameKey (keyL a b c2)) L
      rw [HSN.out, ← HSUM.out, ← hcn, HGK.out a b c2 ha hb hc] at hsn
      rw [← HSUM.out, ← hcn, HGK.out a b c2 ha hb hc] at HSN
      have hll := HLL.out
      have hs0 : 0 ≤ sum := hsr.1
      have hs2 : sum ≤ 78643200 := by omega
      have hgk := HG.out (keyL a b c2)
      rw [HGK.out a b c2 ha hb hc] at hgk
      have HPR := Lib.hid (HP.out a b c2 ha hb hc)
      change Hid (∀ w, Calls Tryd.prog _ _ w fun e w' => e = .returned (.tuple #[_, .int .i64 (workK m [x0, x1, x2] a b c2)]) ∧ _) at HPR
      generalize (probeM (pick3 a b c2) [x0, x1, x2] m 0).1 = rest at *
      generalize workK m [x0, x1, x2] a b c2 = g at *
      have hmul := mul_le_of hc0 hc1 hgk.1 hgk.2
      have HMUL := Lib.hid hmul
      have hm0 := hmul.1
      have hm1 : c * g ≤ 78643200 := by have := hmul.2; omega
      have HHS := Lib.hid hsn
      have HLEFT2 : Hid (∀ kl, (left kl && !kl.sameKey (keyL a b c2)) = true → kl ∈ L) := Lib.hid (fun kl h => HLEFT.out kl (by revert h; cases left kl <;> simp))
      have HR1 := Lib.hid hrg1
      have hne0 := hrg1.ne
      have B0' := Lib.hid ((hg1.block w.heap.size (Array.getElem?_eq_some_iff.1 B0.out).1 (by have := HSZ.out; simp; omega)).trans B0.out)
      have B1' := Lib.hid ((hg1.block (w.heap.size + 1) (Array.getElem?_eq_some_iff.1 B1.out).1 (by have := HSZ.out; simp; omega)).trans B1.out)
      have d1 := Lib.hid (d.out.grown hg1 d.out.size (fun j hj => by cases hj; have := HSZ.out; omega))
      have HLT := Lib.hid hlt
      have HOLD := Lib.hid hrg.left_eq
      clear hkey hv hat hrg1 hlt hg1 hs1 hcn hcl hsr hsn hll hgk hmul hne0 hrg HSUM HLEFT B0 B1 d HRG hlk HK HP HGK HG
      have hal : Below w1.heap.size w1 (w1.alloc (.cells #[.int .u32 (a : Int), .int .u32 (b : Int), .int .u32 (c2 : Int)] 106)) := (Below.refl _ _).alloc (Nat.le_refl _) _
      have K0 := (hal.block w.heap.size (Array.getElem?_eq_some_iff.1 B0'.out).1).trans B0'.out
      have K1 := (hal.block (w.heap.size + 1) (Array.getElem?_eq_some_iff.1 B1'.out).1).trans B1'.out
      have p0 := (cell_of_row (w1.alloc (.cells #[.int .u32 (a : Int), .int .u32 (b : Int), .int .u32 (c2 : Int)] 106)) _ 0 _ _ _ K0).trans (show _ = some (Value.int .u32 (m : Int)) from rfl)
      have p1 := (cell_of_row (w1.alloc (.cells #[.int .u32 (a : Int), .int .u32 (b : Int), .int .u32 (c2 : Int)] 106)) _ 1 _ _ _ K0).trans (show _ = some (s0) from rfl)
      have p2 := (cell_of_row (w1.alloc (.cells #[.int .u32 (a : Int), .int .u32 (b : Int), .int .u32 (c2 : Int)] 106)) _ 2 _ _ _ K0).trans (show _ = some (s1) from rfl)
      have p3 := (cell_of_row (w1.alloc (.cells #[.int .u32 (a : Int), .int .u32 (b : Int), .int .u32 (c2 : Int)] 106)) _ 3 _ _ _ K0).trans (show _ = some (s2) from rfl)
      have q0 := (cell_of_row (w1.alloc (.cells #[.int .u32 (a : Int), .int .u32 (b : Int), .int .u32 (c2 : Int)] 106)) _ 0 _ _ _ K1).trans (show _ = some (Value.int .i64 x0) from rfl)
      have q1 := (cell_of_row (w1.alloc (.cells #[.int .u32 (a : Int), .int .u32 (b : Int), .int .u32 (c2 : Int)] 106)) _ 1 _ _ _ K1).trans (show _ = some (Value.int .i64 x1) from rfl)
      have q2 := (cell_of_row (w1.alloc (.cells #[.int .u32 (a : Int), .int .u32 (b : Int), .int .u32 (c2 : Int)] 106)) _ 2 _ _ _ K1).trans (show _ = some (Value.int .i64 x2) from rfl)
      clear K0 K1
      go_wp2_with fail
      clear p0 p1 p2 p3 q0 q1 q2 hen
      generalize (w1.alloc (.cells #[.int .u32 (a : Int), .int .u32 (b : Int), .int .u32 (c2 : Int)] 106)) = W2 at *
      refine (HPR.out W2).mono ?_
      rintro e w3 ⟨rfl, c3⟩
      have hbb := hal.trans (c3.mono hal.size)
      have HR3 := Lib.hid (HR1.out.kept (below_grown hbb none) (by simp) (by simp))
      have B03 := Lib.hid ((hbb.block w.heap.size (Array.getElem?_eq_some_iff.1 B0'.out).1).trans B0'.out)
      have B13 := Lib.hid ((hbb.block (w.heap.size + 1) (Array.getElem?_eq_some_iff.1 B1'.out).1).trans B1'.out)
      have d3 := Lib.hid (d1.out.trans (hbb.mono d1.out.size))
      clear c3 hal hbb HPR HR1 B0' B1' d1
      go_wp2
      go_roundw
      case rel => exact ⟨_, cnt1, sum + c * g, by first | rfl | (congr 1; omega), HR3, Lib.hid HSN.out.symm, HLEFT2, B03, B13, d3⟩
      case measure => rw [HR3.out.left_eq, HOLD.out]; exact HLT.out
end Go.Proofs.YtidhmgboknffkaaDoor
namespace Go.Proofs.YtidhmgboknffkaaDoor
open Go.RowKit
set_option linter.unusedVariables false
set_option linter.unusedSimpArgs false
theorem work_keys {qs : List QD} {fs : List (List SpanD)} {rs : List RowD} {os : List Int} (hx : isIndexB qs fs = true) (ho : orderB os = true) :
    ((keysTo fs rs rs.length).map (gK (maskL (allL qs)) [os.getD 0 0, os.getD 1 0, os.getD 2 0])).sum = workL qs fs rs os := by
  rw [← list3 (order_len ho), mworkL_yes hx ho]
  unfold keysTo
  rw [List.take_length, List.map_map]
  congr 1
  apply List.map_congr_left
  intro r _
  exact gK_at (setM_lt ..) (setM_lt ..) (setM_lt ..)
set_option maxHeartbeats 16000000 in
set_option maxRecDepth 100000 in
theorem implWorkOf (qv fv rv ov : Value) (qs : List QD) (fs : List (List SpanD)) (rs : List RowD) (os : List Int) (w : World) (h1 : SlR tQuery w qv qs) (h2 : SlR tSpanS w fv fs) (h3 : SlR tRow w rv rs) (h4 : Ints w ov os) (hs : zL tQuery qs ≤ 1048576) (hz : zL tSpanS fs ≤ 1048576) (hv : zL tRow rs ≤ 1048576) (ho : os.length ≤ 1048576) (ht : OrdT w) :
    Calls Tryd.prog 24 #[.agg #[qv, fv], rv, ov] w fun e w' => e = .returned (.int .i64 (workL qs fs rs os)) ∧ Below w.heap.size w w' := by
  obtain ⟨qa, qc, rfl⟩ := slR_len h1
  obtain ⟨fa, fc, rfl⟩ := slR_len h2
  obtain ⟨ra, rc, rfl⟩ := slR_len h3
  obtain ⟨oa, oc, rfl⟩ := ints_len h4
  have HV : Hid (szL rs ≤ 1048576) := Lib.hid (by rw [← zL_rows]; exact hv)
  have hlr := zL_len hv
  have HLR := Lib.hid hlr
  have d := Lib.hid ((Below.refl w.heap.size w).alloc (Nat.le_refl _) (.cells #[.slice qa qs.length qc, .slice fa fs.length fc] 27))
  have B0 : Hid ((w.alloc (.cells #[.slice qa qs.length qc, .slice fa fs.length fc] 27)).heap[w.heap.size]? = some (.cells #[.slice qa qs.length qc, .slice fa fs.length fc] 27 (0, 0))) := Lib.hid (heap_alloc_new w _)
  have H1 := Lib.hid h1; have H2 := Lib.hid h2; have H3 := Lib.hid h3; have H4 := Lib.hid h4; have HT := Lib.hid ht
  have HZ := Lib.hid hz
  have HO := Lib.hid (fun w g t => implOrderOf (.slice oa os.length oc) os w g ho t)
  cases hx : isIndexB qs fs with
  | false =>
    have HX := Lib.hid (fun w g1 g2 => implCheck_no (.slice qa qs.length qc) (.slice fa fs.length fc) qs fs w g1 g2 hs hz hx)
    have HE : Hid (workL qs fs rs os = 0) := Lib.hid (mworkL_no (by rw [hx]; rfl))
    clear h1 h2 h3 h4 hs hz hv ho hx ht hlr
    go_enter Tryd.func24, Tryd.ntmps24
    go_wp2_with fail
    generalize (w.alloc (.cells #[.slice qa qs.length qc, .slice fa fs.length fc] 27)) = W at *
    refine (HX.out W (slR_below tQuery_law H1.out d.out) (slR_below tSpanS_law H2.out d.out)).mono ?_
    rintro e w1 ⟨rfl, c1⟩
    replace B0 := Lib.hid ((c1.block w.heap.size (Array.getElem?_eq_some_iff.1 B0.out).1).trans B0.out)
    replace d := Lib.hid (d.out.trans (c1.mono d.out.size))
    clear c1
    go_wp2_with fail
    have hal : Below w1.heap.size w1 (w1.alloc (.cells #[.int .u32 0, .slice none 0 0, .slice none 0 0, .slice none 0 0] 96)) := (Below.refl _ _).alloc (Nat.le_refl _) _
    have B2 : Hid ((w1.alloc (.cells #[.int .u32 0, .slice none 0 0, .slice none 0 0, .slice none 0 0] 96)).heap[w1.heap.size]? = some (.cells #[.int .u32 0, .slice none 0 0, .slice none 0 0, .slice none 0 0] 96 (0, 0))) := Lib.hid (heap_alloc_new _ _)
    replace B0 := Lib.hid ((hal.block w.heap.size (Array.getElem?_eq_some_iff.1 B0.out).1).trans B0.out)
    replace d := Lib.hid (d.out.trans (hal.mono d.out.size))
    clear hal
    generalize (w1.alloc (.cells #[.int .u32 0, .slice none 0 0, .slice none 0 0, .slice none 0 0] 96)) = W2 at *
    refine (HO.out W2 (ints_below H4.out d.out) (HT.out.on d.out)).mono ?_
    rintro e w3 ⟨hor, c2⟩
    replace B0 := Lib.hid ((c2.block w.heap.size (Array.getElem?_eq_some_iff.1 B0.out).1).trans B0.out)
    replace B2 := Lib.hid ((c2.block w1.heap.size (Array.getElem?_eq_some_iff.1 B2.out).1).trans B2.out)
    replace d := Lib.hid (d.out.trans (c2.mono d.out.size))
    clear c2
    rcases hor with ⟨ho, rfl⟩ | ⟨ho, rfl⟩
    · clear ho B2 B0
      generalize os.getD 0 0 = x0 at *
      generalize os.getD 1 0 = x1 at *
      generalize os.getD 2 0 = x2 at *
      have D := Lib.hid (d.out.alloc d.out.size (.cells #[.int .i64 x0, .int .i64 x1, .int .i64 x2] 100))
      go_wp2
      go_ret
      exact ⟨ty_ret HE.out.symm, D.out⟩
    · clear ho B2 B0
      have D := Lib.hid (d.out.alloc d.out.size (.cells #[.int .i64 0, .int .i64 0, .int .i64 0] 100))
      go_wp2
      go_ret
      exact ⟨ty_ret HE.out.symm, D.out⟩
  | true =>
    have HX := Lib.hid (fun w g1 g2 => implCheck_yes (.slice qa qs.length qc) (.slice fa fs.length fc) qs fs w g1 g2 hs hz hx)
    have HI := Lib.hid hx
    have HQ := Lib.hid (idx_iff hx).1
    have HF3 : Hid (fs.length = 3) := Lib.hid (by rw [(idx_iff hx).2, fldTo_len])
    clear h1 h2 h3 h4 hs hz hv ho hx ht hlr
    go_enter Tryd.func24, Tryd.ntmps24
    go_wp2_with fail
    generalize (w.alloc (.cells #[.slice qa qs.length qc, .slice fa fs.length fc] 27)) = W at *
    refine (HX.out W (slR_below tQuery_law H1.out d.out) (slR_below tSpanS_law H2.out d.out)).mono ?_
    rintro e w1 ⟨s0, s1, s2, rfl, hci, c1⟩
    replace B0 := Lib.hid ((c1.block w.heap.size (Array.getElem?_eq_some_iff.1 B0.out).1).trans B0.out)
    replace d := Lib.hid (d.out.trans (c1.mono d.out.size))
    clear c1
    obtain ⟨ta0, cp0, rfl⟩ := slR_len hci.1
    obtain ⟨ta1, cp1, rfl⟩ := slR_len hci.2.1
    obtain ⟨ta2, cp2, rfl⟩ := slR_len hci.2.2
    generalize (fs.getD 0 []).length = ln0 at *
    generalize (fs.getD 1 []).length = ln1 at *
    generalize (fs.getD 2 []).length = ln2 at *
    have HCI := Lib.hid hci
    clear hci
    have hmx := maskL_lt (allL qs)
    generalize hm : maskL (allL qs) = m at *
    have HM := Lib.hid hm
    have HMX := Lib.hid hmx
    clear hm hmx
    clear B0
    go_wp2_with fail
    have hal : Below w1.heap.size w1 (w1.alloc (.cells #[.int .u32 (m : Int), .slice ta0 ln0 cp0, .slice ta1 ln1 cp1, .slice ta2 ln2 cp2] 96)) := (Below.refl _ _).alloc (Nat.le_refl _) _
    have B2 : Hid ((w1.alloc (.cells #[.int .u32 (m : Int), .slice ta0 ln0 cp0, .slice ta1 ln1 cp1, .slice ta2 ln2 cp2] 96)).heap[w1.heap.size]? = some (.cells #[.int .u32 (m : Int), .slice ta0 ln0 cp0, .slice ta1 ln1 cp1, .slice ta2 ln2 cp2] 96 (0, 0))) := Lib.hid (heap_alloc_new _ _)
    replace HCI := Lib.hid (ci_below HCI.out hal)
    replace d := Lib.hid (d.out.trans (hal.mono d.out.size))
    clear hal
    generalize (w1.alloc (.cells #[.int .u32 (m : Int), .slice ta0 ln0 cp0, .slice ta1 ln1 cp1, .slice ta2 ln2 cp2] 96)) = W2 at *
    refine (HO.out W2 (ints_below H4.out d.out) (HT.out.on d.out)).mono ?_
    rintro e w3 ⟨hor, c2⟩
    replace B2 := Lib.hid ((c2.block w1.heap.size (Array.getElem?_eq_some_iff.1 B2.out).1).trans B2.out)
    replace HCI := Lib.hid (ci_below HCI.out c2)
    replace d := Lib.hid (d.out.trans (c2.mono d.out.size))
    clear c2
    rcases hor with ⟨ho, rfl⟩ | ⟨ho, rfl⟩
    · have x0 := order_range ho 0 (by omega); have x1 := order_range ho 1 (by omega); have x2 := order_range ho 2 (by omega)
      have HX0 := Lib.hid x0; have HX1 := Lib.hid x1; have HX2 := Lib.hid x2
      clear x0 x1 x2
      have HE := Lib.hid (work_keys (rs := rs) HI.out ho)
      rw [HM.out] at HE
      clear ho
      generalize os.getD 0 0 = y0 at *
      generalize os.getD 1 0 = y1 at *
      generalize os.getD 2 0 = y2 at *
      go_wp2
      have hal : Below w3.heap.size w3 (w3.alloc (.cells #[.int .i64 y0, .int .i64 y1, .int .i64 y2] 100)) := (Below.refl _ _).alloc (Nat.le_refl _) _
      have B3 : Hid ((w3.alloc (.cells #[.int .i64 y0, .int .i64 y1, .int .i64 y2] 100)).heap[w3.heap.size]? = some (.cells #[.int .i64 y0, .int .i64 y1, .int .i64 y2] 100 (0, 0))) := Lib.hid (heap_alloc_new _ _)
      replace B2 := Lib.hid ((hal.block w1.heap.size (Array.getElem?_eq_some_iff.1 B2.out).1).trans B2.out)
      replace HCI := Lib.hid (ci_below HCI.out hal)
      replace d := Lib.hid (d.out.trans (hal.mono d.out.size))
      clear hal
      generalize (w3.alloc (.cells #[.int .i64 y0, .int .i64 y1, .int .i64 y2] 100)) = W4 at *
      have p_B2_0 := (cell_of_row W4 _ 0 _ _ _ B2.out).trans (show _ = some (Value.int .u32 (m : Int)) from rfl)
      have p_B2_1 := (cell_of_row W4 _ 1 _ _ _ B2.out).trans (show _ = some (Value.slice ta0 ln0 cp0) from rfl)
      have p_B2_2 := (cell_of_row W4 _ 2 _ _ _ B2.out).trans (show _ = some (Value.slice ta1 ln1 cp1) from rfl)
      have p_B2_3 := (cell_of_row W4 _ 3 _ _ _ B2.out).trans (show _ = some (Value.slice ta2 ln2 cp2) from rfl)
      have p_B3_0 := (cell_of_row W4 _ 0 _ _ _ B3.out).trans (show _ = some (Value.int .i64 y0) from rfl)
      have p_B3_1 := (cell_of_row W4 _ 1 _ _ _ B3.out).trans (show _ = some (Value.int .i64 y1) from rfl)
      have p_B3_2 := (cell_of_row W4 _ 2 _ _ _ B3.out).trans (show _ = some (Value.int .i64 y2) from rfl)
      refine wp_region_held_drew (S := fun w' => w'.cell? ⟨w1.heap.size, 0, none⟩ = some (Value.int .u32 (m : Int)) ∧ w'.cell? ⟨w1.heap.size, 1, none⟩ = some (Value.slice ta0 ln0 cp0) ∧ w'.cell? ⟨w1.heap.size, 2, none⟩ = some (Value.slice ta1 ln1 cp1) ∧ w'.cell? ⟨w1.heap.size, 3, none⟩ = some (Value.slice ta2 ln2 cp2) ∧ w'.cell? ⟨w3.heap.size, 0, none⟩ = some (Value.int .i64 y0) ∧ w'.cell? ⟨w3.heap.size, 1, none⟩ = some (Value.int .i64 y1) ∧ w'.cell? ⟨w3.heap.size, 2, none⟩ = some (Value.int .i64 y2)) (by kernel_rfl) ⟨p_B2_0, p_B2_1, p_B2_2, p_B2_3, p_B3_0, p_B3_1, p_B3_2⟩ (fun hHeld => ?_)
      clear p_B2_0 p_B2_1 p_B2_2 p_B2_3 p_B3_0 p_B3_1 p_B3_2
      have cdr : Below W4.heap.size W4 W4.drew := below_drew (Below.refl _ _)
      replace B2 := Lib.hid ((cdr.block w1.heap.size (Array.getElem?_eq_some_iff.1 B2.out).1).trans B2.out)
      replace B3 := Lib.hid ((cdr.block w3.heap.size (Array.getElem?_eq_some_iff.1 B3.out).1).trans B3.out)
      replace HCI := Lib.hid (ci_below HCI.out cdr)
      replace d := Lib.hid (d.out.trans (cdr.mono d.out.size))
      clear cdr
      refine take_runs (i := 0) (v := ?_) (by simp only [List.getElem?_toArray, List.getElem?_cons_succ, List.getElem?_cons_zero]; rfl) (by kernel_rfl) (by kernel_rfl) (by kernel_rfl) rfl (by exact fun _ _ _ h => h) (by rfl) ?_ (by assumption) ?_
      rotate_left
      · intro w hSw; (try dsimp only at hSw); go_simp; try (with_reducible rfl)
      try simp only [Act.put, List.setIfInBounds_toArray, List.set_cons_zero, List.set_cons_succ]
      refine take_runs (i := 1) (v := ?_) (by simp only [List.getElem?_toArray, List.getElem?_cons_succ, List.getElem?_cons_zero]; rfl) (by kernel_rfl) (by kernel_rfl) (by kernel_rfl) rfl (by exact fun _ _ _ h => h) (by rfl) ?_ (by assumption) ?_
      rotate_left
      · intro w hSw; (try dsimp only at hSw); go_simp; try (with_reducible rfl)
      try simp only [Act.put, List.setIfInBounds_toArray, List.set_cons_zero, List.set_cons_succ]
      refine take_runs (i := 2) (v := ?_) (by simp only [List.getElem?_toArray, List.getElem?_cons_succ, List.getElem?_cons_zero]; rfl) (by kernel_rfl) (by kernel_rfl) (by kernel_rfl) rfl (by exact fun _ _ _ h => h) (by rfl) ?_ (by assumption) ?_
      rotate_left
      · intro w hSw; (try dsimp only at hSw); go_simp; try (with_reducible rfl)
      try simp only [Act.put, List.setIfInBounds_toArray, List.set_cons_zero, List.set_cons_succ]
      refine take_runs (i := 4) (v := ?_) (by simp only [List.getElem?_toArray, List.getElem?_cons_succ, List.getElem?_cons_zero]; rfl) (by kernel_rfl) (by kernel_rfl) (by kernel_rfl) rfl (by exact fun _ _ _ h => h) (by rfl) ?_ (by assumption) ?_
      rotate_left
      · intro w hSw; (try dsimp only at hSw); go_simp; try (with_reducible rfl)
      try simp only [Act.put, List.setIfInBounds_toArray, List.set_cons_zero, List.set_cons_succ]
      refine wpAnyH_ready (rs := [3]) (by kernel_rfl) (by simp) ?_
      refine (AllReadyH.cons (o := _) (by simp only [List.getElem?_toArray, List.getElem?_cons_succ, List.getElem?_cons_zero]; rfl) (fun K hK => ?_) AllReadyH.nil)
      go_simp
      refine (implCountSets m (.slice ta0 ln0 cp0) (.slice ta1 ln1 cp1) (.slice ta2 ln2 cp2) fs (.slice ra rs.length rc) rs (W4.drew) HCI.out (slR_rows (slR_below tRow_law H3.out d.out)) HZ.out HF3.out HV.out).mono ?_
      rintro e w6 ⟨rfl, hD, c6⟩
      obtain ⟨D, hown, hcd⟩ := hD
      have HOW := Lib.hid hown; have HCD := Lib.hid hcd
      clear hown hcd
      replace B2 := Lib.hid ((c6.block w1.heap.size (Array.getElem?_eq_some_iff.1 B2.out).1).trans B2.out)
      replace B3 := Lib.hid ((c6.block w3.heap.size (Array.getElem?_eq_some_iff.1 B3.out).1).trans B3.out)
      replace HCI := Lib.hid (ci_below HCI.out c6)
      replace d := Lib.hid (d.out.trans (c6.mono d.out.size))
      clear c6
      have p_B2_0 := (cell_of_row w6 _ 0 _ _ _ B2.out).trans (show _ = some (Value.int .u32 (m : Int)) from rfl)
      have p_B2_1 := (cell_of_row w6 _ 1 _ _ _ B2.out).trans (show _ = some (Value.slice ta0 ln0 cp0) from rfl)
      have p_B2_2 := (cell_of_row w6 _ 2 _ _ _ B2.out).trans (show _ = some (Value.slice ta1 ln1 cp1) from rfl)
      have p_B2_3 := (cell_of_row w6 _ 3 _ _ _ B2.out).trans (show _ = some (Value.slice ta2 ln2 cp2) from rfl)
      have p_B3_0 := (cell_of_row w6 _ 0 _ _ _ B3.out).trans (show _ = some (Value.int .i64 y0) from rfl)
      have p_B3_1 := (cell_of_row w6 _ 1 _ _ _ B3.out).trans (show _ = some (Value.int .i64 y1) from rfl)
      have p_B3_2 := (cell_of_row w6 _ 2 _ _ _ B3.out).trans (show _ = some (Value.int .i64 y2) from rfl)
      refine hK.out _ _ ⟨p_B2_0, p_B2_1, p_B2_2, p_B2_3, p_B3_0, p_B3_1, p_B3_2⟩ (fun hHeld => ?_)
      clear p_B2_0 p_B2_1 p_B2_2 p_B2_3 p_B3_0 p_B3_1 p_B3_2
      clear hK K
      try simp only [Act.put, List.setIfInBounds_toArray, List.set_cons_zero, List.set_cons_succ]
      refine wpAnyH_ready (rs := [5]) (by kernel_rfl) (by simp) ?_
      refine (AllReadyH.cons (o := _) (by simp only [List.getElem?_toArray, List.getElem?_cons_succ, List.getElem?_cons_zero]; rfl) (fun K hK => ?_) AllReadyH.nil)
      go_simp
      refine (implWorkOfMap m (.slice ta0 ln0 cp0) (.slice ta1 ln1 cp1) (.slice ta2 ln2 cp2) _ rs.length D (keysTo fs rs rs.length) y0 y1 y2 w6 HOW.out HCD.out (Nat.le_trans (keysTo_len fs rs rs.length) HLR.out) (fun k hk => keys_are hk) HMX.out HX0.out HX1.out HX2.out).mono ?_
      rintro e w7 ⟨rfl, c7⟩
      replace B2 := Lib.hid ((c7.block w1.heap.size (Array.getElem?_eq_some_iff.1 B2.out).1).trans B2.out)
      replace B3 := Lib.hid ((c7.block w3.heap.size (Array.getElem?_eq_some_iff.1 B3.out).1).trans B3.out)
      replace HCI := Lib.hid (ci_below HCI.out c7)
      replace d := Lib.hid (d.out.trans (c7.mono d.out.size))
      clear c7 HOW HCD
      rw [HE.out]
      have p_B2_0 := (cell_of_row w7 _ 0 _ _ _ B2.out).trans (show _ = some (Value.int .u32 (m : Int)) from rfl)
      have p_B2_1 := (cell_of_row w7 _ 1 _ _ _ B2.out).trans (show _ = some (Value.slice ta0 ln0 cp0) from rfl)
      have p_B2_2 := (cell_of_row w7 _ 2 _ _ _ B2.out).trans (show _ = some (Value.slice ta1 ln1 cp1) from rfl)
      have p_B2_3 := (cell_of_row w7 _ 3 _ _ _ B2.out).trans (show _ = some (Value.slice ta2 ln2 cp2) from rfl)
      have p_B3_0 := (cell_of_row w7 _ 0 _ _ _ B3.out).trans (show _ = some (Value.int .i64 y0) from rfl)
      have p_B3_1 := (cell_of_row w7 _ 1 _ _ _ B3.out).trans (show _ = some (Value.int .i64 y1) from rfl)
      have p_B3_2 := (cell_of_row w7 _ 2 _ _ _ B3.out).trans (show _ = some (Value.int .i64 y2) from rfl)
      refine hK.out _ _ ⟨p_B2_0, p_B2_1, p_B2_2, p_B2_3, p_B3_0, p_B3_1, p_B3_2⟩ (fun hHeld => ?_)
      clear p_B2_0 p_B2_1 p_B2_2 p_B2_3 p_B3_0 p_B3_1 p_B3_2
      clear hK K
      try simp only [Act.put, List.setIfInBounds_toArray, List.set_cons_zero, List.set_cons_succ]
      refine take_runs (i := 6) (v := ?_) (by simp only [List.getElem?_toArray, List.getElem?_cons_succ, List.getElem?_cons_zero]; rfl) (by kernel_rfl) (by kernel_rfl) (by kernel_rfl) rfl (by exact fun _ _ _ h => h) (by rfl) ?_ (by assumption) ?_
      rotate_left
      · intro w hSw; (try dsimp only at hSw); go_simp; try (with_reducible rfl)
      try simp only [Act.put, List.setIfInBounds_toArray, List.set_cons_zero, List.set_cons_succ]
      refine wpAnyH_done (by kernel_rfl) ?_ _
      clear hHeld
      go_wp2
      go_ret
      exact ⟨rfl, d.out⟩
    · have HE : Hid (workL qs fs rs os = 0) := Lib.hid (mworkL_no (by rw [ho, Bool.and_false]))
      clear ho B2
      have D := Lib.hid (d.out.alloc d.out.size (.cells #[.int .i64 0, .int .i64 0, .int .i64 0] 100))
      go_wp2
      go_ret
      exact ⟨ty_ret HE.out.symm, D.out⟩
end Go.Proofs.YtidhmgboknffkaaDoor
namespace Go.Proofs.YtidhmgboknffkaaDoor
open Go.RowKit
set_option linter.unusedVariables false
set_option linter.unusedSimpArgs false
end Go.Proofs.YtidhmgboknffkaaDoor
namespace Go.Proofs.YtidhmgboknffkaaDoor
open Go.RowKit
set_option linter.unusedVariables false
end Go.Proofs.YtidhmgboknffkaaDoor
namespace Go.Proofs.YtidhmgboknffkaaDoor
open Go.RowKit
set_option linter.unusedVariables false
set_option linter.unusedSimpArgs false
end Go.Proofs.YtidhmgboknffkaaDoor
namespace Go.Proofs.YtidhmgboknffkaaDoor
open Go.RowKit
set_option linter.unusedVariables false
set_option linter.unusedSimpArgs false
end Go.Proofs.YtidhmgboknffkaaDoor
namespace Go.Proofs.YtidhmgboknffkaaDoor
open Go.RowKit
set_option linter.unusedVariables false
set_option linter.unusedSimpArgs false
end Go.Proofs.YtidhmgboknffkaaDoor
namespace Go.Proofs.YtidhmgboknffkaaDoor
open Go.RowKit
set_option linter.unusedVariables false
set_option linter.unusedSimpArgs false
set_option maxHeartbeats 16000000 in
set_option maxRecDepth 100000 in
theorem specMatchSet (qv fv vv : Value) (qs : List QD) (fs : List (List SpanD)) (rid : Int) (vs : List Int) (w : World) (h1 : SlR tQuery w qv qs) (h2 : SlR tSpanS w fv fs) (h3 : Ints w vv vs) (hs : zL tQuery qs ≤ 1048576) (hz : zL tSpanS fs ≤ 1048576) (hv : vs.length ≤ 1048576) :
    Calls Tryd.prog 28 #[.agg #[qv, fv], .agg #[.int .i64 rid, vv]] w (FreshInts w (probeB qs fs (rid, vs) [0, 1, 2]).1) := by
  have hlen := zL_len hs
  have HS := Lib.hid hs
  have HZ := Lib.hid hz
  have hvl : vs.length ≤ 1048576 := hv
  obtain ⟨qa, qc, rfl⟩ := slR_len h1
  obtain ⟨fa, fc, rfl⟩ := slR_len h2
  obtain ⟨va, vc, rfl⟩ := ints_len h3
  have d := Lib.hid (((Below.refl w.heap.size w).alloc (Nat.le_refl _) (.cells #[.slice qa qs.length qc, .slice fa fs.length fc] 27)).alloc (by simp) (.cells #[.int .i64 rid, .slice va vs.length vc] 30))
  have B0 : Hid (((w.alloc (.cells #[.slice qa qs.length qc, .slice fa fs.length fc] 27)).alloc (.cells #[.int .i64 rid, .slice va vs.length vc] 30)).heap[w.heap.size]? = some (.cells #[.slice qa qs.length qc, .slice fa fs.length fc] 27 (0, 0))) := Lib.hid (by rw [Below.heap_alloc _ _ _ (by simp)]; exact heap_alloc_new w _)
  have B1 : Hid (((w.alloc (.cells #[.slice qa qs.length qc, .slice fa fs.length fc] 27)).alloc (.cells #[.int .i64 rid, .slice va vs.length vc] 30)).heap[(w.heap.size + 1)]? = some (.cells #[.int .i64 rid, .slice va vs.length vc] 30 (0, 0))) := Lib.hid (by
    have := heap_alloc_new (w.alloc (.cells #[.slice qa qs.length qc, .slice fa fs.length fc] 27)) (.cells #[.int .i64 rid, .slice va vs.length vc] 30)
    simpa only [World.size_alloc] using this)
  have H1 := Lib.hid h1; have H2 := Lib.hid h2; have H3 := Lib.hid h3
  clear h1 h2 h3 hs hz
  have HW : Hid (((w.alloc (.cells #[.slice qa qs.length qc, .slice fa fs.length fc] 27)).alloc (.cells #[.int .i64 rid, .slice va vs.length vc] 30)).heap.size = w.heap.size + 1 + 1) := Lib.hid (by simp)
  go_enter Tryd.func28, Tryd.ntmps28
  go_wp2_with fail
  generalize ((w.alloc (.cells #[.slice qa qs.length qc, .slice fa fs.length fc] 27)).alloc (.cells #[.int .i64 rid, .slice va vs.length vc] 30)) = W at *
  have hal : Below W.heap.size W (W.alloc (.cells #[.int .i64 0, .int .i64 1, .int .i64 2] 3)) := (Below.refl _ _).alloc (Nat.le_refl _) _
  have oi : Ints (W.alloc (.cells #[.int .i64 0, .int .i64 1, .int .i64 2] 3)) (.slice (some ⟨w.heap.size + 1 + 1, 0, none⟩) 3 3) [0, 1, 2] := by
    rw [← HW.out]
    exact ownsN_ints (ownsN_lit W W.heap.size (Nat.le_refl _) #[.int .i64 0, .int .i64 1, .int .i64 2] 3 [0, 1, 2] rfl rfl (by decide))
  have d2 := Lib.hid (d.out.trans (hal.mono d.out.size))
  refine (specProbeSet (.slice qa qs.length qc) (.slice fa fs.length fc) (.slice va vs.length vc) _ qs fs rid vs [0, 1, 2] _ (slR_below tQuery_law H1.out d2.out) (slR_below tSpanS_law H2.out d2.out) (ints_below H3.out d2.out) oi HS.out HZ.out hv (by decide)).mono ?_
  rintro e w4 ⟨u, rfl, ou, c4⟩
  have ou2 := Lib.hid (ownsN_up ou d2.out.size)
  have d4 := Lib.hid (d2.out.trans (c4.mono d2.out.size))
  clear ou c4 oi hal
  go_wp2
  go_ret
  exact ⟨u, rfl, ou2.out, d4.out⟩
end Go.Proofs.YtidhmgboknffkaaDoor
namespace Go.Proofs.YtidhmgboknffkaaDoor
open Go.RowKit
set_option linter.unusedVariables false
set_option linter.unusedSimpArgs false
theorem probe_bound (fs : List (List SpanD)) (vs : List Int) : ∀ (os set : List Int) (work : Int), work ≤ (probeL fs vs os set work).2 ∧ (probeL fs vs os set work).2 ≤ work + (os.length : Int) * (1 + (set.length : Int))
  | [], set, work => by simp [probeL]
  | f :: os, set, work => by
    unfold probeL
    split
    · have : 0 ≤ ((f :: os).length : Int) * (1 + (set.length : Int)) := Int.mul_nonneg (by omega) (by omega)
      exact ⟨Int.le_refl _, by simp only; omega⟩
    · next hne =>
      dsimp only
      obtain ⟨h1, h2⟩ := probe_bound fs vs os (meetL set (findL (fs.getD f.toNat []) (vs.getD f.toNat 0))) (work + 1 + ((min set.length (findL (fs.getD f.toNat []) (vs.getD f.toNat 0)).length : Nat) : Int))
      have h3 := meetL_len set (findL (fs.getD f.toNat []) (vs.getD f.toNat 0))
      have h4 : (os.length : Int) * (1 + ((meetL set (findL (fs.getD f.toNat []) (vs.getD f.toNat 0))).length : Int)) ≤ (os.length : Int) * (1 + (set.length : Int)) := Int.mul_le_mul_of_nonneg_left (by omega) (by omega)
      have h5 : (((f :: os).length : Nat) : Int) * (1 + (set.length : Int)) = (os.length : Int) * (1 + (set.length : Int)) + (1 + (set.length : Int)) := by
        rw [List.length_cons, Int.natCast_add, Int.natCast_one, Int.add_mul, Int.one_mul]
      refine ⟨by omega, ?_⟩
      have h6 : ((min set.length (findL (fs.getD f.toNat []) (vs.getD f.toNat 0)).length : Nat) : Int) ≤ (set.length : Int) := by omega
      omega
theorem workB_bound {qs : List QD} {fs : List (List SpanD)} {os : List Int} {r : RowD} (ho : os.length = 3) (hq : qs.length ≤ 1048576) : 0 ≤ workB qs fs os r ∧ workB qs fs os r ≤ 4194304 := by
  unfold workB
  split
  · obtain ⟨h1, h2⟩ := probe_bound fs r.2 os (allL qs) 0
    have h3 : (allL qs).length = qs.length := by simp [allL]
    rw [ho, h3] at h2
    exact ⟨h1, by omega⟩
  · omega
def sumW (qs : List QD) (fs : List (List SpanD)) (os : List Int) (rs : List RowD) (k : Nat) : Int := ((rs.take k).map (workB qs fs os)).sum
theorem sumW_step {qs : List QD} {fs : List (List SpanD)} {os : List Int} {rs : List RowD} {k : Nat} (hk : k < rs.length) : sumW qs fs os rs (k + 1) = sumW qs fs os rs k + workB qs fs os (rs.getD k (0, [])) := by
  unfold sumW
  have e : rs.getD k (0, []) = rs[k] := by simp [List.getD, hk]
  rw [e, List.take_succ_eq_append_getElem hk, List.map_append, List.sum_append]
  simp
theorem workL_no {qs : List QD} {fs : List (List SpanD)} {os : List Int} {rs : List RowD} (h : (isIndexB qs fs && orderB os) = false) : workL qs fs rs os = 0 := by unfold workL; rw [h]; rfl
theorem workL_yes {qs : List QD} {fs : List (List SpanD)} {os : List Int} {rs : List RowD} (h : (isIndexB qs fs && orderB os) = true) : workL qs fs rs os = sumW qs fs os rs rs.length := by unfold workL sumW; rw [h, List.take_length]; rfl
theorem workB_no {qs : List QD} {fs : List (List SpanD)} {os : List Int} {r : RowD} (h : rowB r = false) : workB qs fs os r = 0 := by unfold workB; rw [h]; rfl
theorem workB_yes {qs : List QD} {fs : List (List SpanD)} {os : List Int} {r : RowD} (h : rowB r = true) : workB qs fs os r = (probeL fs r.2 os (allL qs) 0).2 := by unfold workB; rw [h]; rfl
theorem retI {a b : Int} (h : a = b) : Ending.returned (.int .i64 a) = .returned (.int .i64 b) := by rw [h]
set_option maxHeartbeats 16000000 in
set_option maxRecDepth 100000 in
theorem specWorkOf (qv fv rv ov : Value) (qs : List QD) (fs : List (List SpanD)) (rs : List RowD) (os : List Int) (w : World) (h1 : SlR tQuery w qv qs) (h2 : SlR tSpanS w fv fs) (h3 : SlR tRow w rv rs) (h4 : Ints w ov os) (hs : zL tQuery qs ≤ 1048576) (hz : zL tSpanS fs ≤ 1048576) (hr : zL tRow rs ≤ 1048576) (ho : os.length ≤ 1048576) :
    Calls Tryd.prog 25 #[.agg #[qv, fv], rv, ov] w fun e w' => e = .returned (.int .i64 (workL qs fs rs os)) ∧ Below w.heap.size w w' := by
  have hlen := zL_len hs
  have hrl := zL_len hr
  have HS := Lib.hid hs; have HZ := Lib.hid hz; have HZR := Lib.hid hr
  obtain ⟨qa, qc, rfl⟩ := slR_len h1
  obtain ⟨fa, fc, rfl⟩ := slR_len h2
  obtain ⟨ra, rc, rfl⟩ := slR_len h3
  obtain ⟨oa, oc, rfl⟩ := ints_len h4
  have d0 := Lib.hid ((Below.refl w.heap.size w).alloc (Nat.le_refl _) (.cells #[.slice qa qs.length qc, .slice fa fs.length fc] 27))
  have B00 : Hid ((w.alloc (.cells #[.slice qa qs.length qc, .slice fa fs.length fc] 27)).heap[w.heap.size]? = some (.cells #[.slice qa qs.length qc, .slice fa fs.length fc] 27 (0, 0))) := Lib.hid (heap_alloc_new w _)
  have H1 := Lib.hid h1; have H2 := Lib.hid h2; have H3 := Lib.hid h3; have H4 := Lib.hid h4
  have HX := Lib.hid (fun w g1 g2 => specIsIndex (.slice qa qs.length qc) (.slice fa fs.length fc) qs fs w g1 g2 HS.out HZ.out)
  have HO := Lib.hid (fun w g => specL6Order (.slice oa os.length oc) os w g ho)
  clear h1 h2 h3 h4 hs hz hr ho
  cases hx : isIndexB qs fs with
  | false =>
    have HE := Lib.hid (workL_no (rs := rs) (os := os) (show (isIndexB qs fs && orderB os) = false by rw [hx]; rfl))
    rw [hx] at HX
    clear hx HO
    go_enter Tryd.func25, Tryd.ntmps25
    go_wp2
    generalize w.alloc (.cells #[.slice qa qs.length qc, .slice fa fs.length fc] 27) = W at *
    go_loopw [7, 8] (fun n i wr => wr = W ∧ i = .int .i64 0 ∧ n = .int .i64 0) (fun _ _ _ => 0)
    case atStart => exact ⟨rfl, rfl, rfl⟩
    case round =>
      obtain ⟨rfl, rfl, rfl⟩ := hrel
      by_cases hlt : 0 < rs.length
      · have i2 : (0 : Int) < (rs.length : Int) := by omega
        have x0 := (cell_of_row wr _ 0 _ _ _ B00.out).trans (show _ = some (Value.slice qa qs.length qc) from rfl)
        have x1 := (cell_of_row wr _ 1 _ _ _ B00.out).trans (show _ = some (Value.slice fa fs.length fc) from rfl)
        go_wp2_with fail
        clear x0 x1
        refine (HX.out wr (slR_below tQuery_law H1.out d0.out) (slR_below tSpanS_law H2.out d0.out)).mono ?_
        rintro e w1 ⟨rfl, c1⟩
        have D1 := Lib.hid (d0.out.trans (c1.mono d0.out.size))
        clear c1
        go_wp2
        go_ret
        exact ⟨retI HE.out.symm, D1.out⟩
      · have i2 : ¬ (0 : Int) < (rs.length : Int) := by omega
        go_wp2
        go_ret
        exact ⟨retI HE.out.symm, d0.out⟩
  | true =>
    cases hor : orderB os with
    | false =>
      have HE := Lib.hid (workL_no (rs := rs) (show (isIndexB qs fs && orderB os) = false by rw [hx, hor]; rfl))
      rw [hx] at HX
      rw [hor] at HO
      clear hx hor
      go_enter Tryd.func25, Tryd.ntmps25
      go_wp2
      generalize w.alloc (.cells #[.slice qa qs.length qc, .slice fa fs.length fc] 27) = W at *
      go_loopw [7, 8] (fun n i wr => wr = W ∧ i = .int .i64 0 ∧ n = .int .i64 0) (fun _ _ _ => 0)
      case atStart => exact ⟨rfl, rfl, rfl⟩
      case round =>
        obtain ⟨rfl, rfl, rfl⟩ := hrel
        by_cases hlt : 0 < rs.length
        · have i2 : (0 : Int) < (rs.length : Int) := by omega
          have x0 := (cell_of_row wr _ 0 _ _ _ B00.out).trans (show _ = some (Value.slice qa qs.length qc) from rfl)
          have x1 := (cell_of_row wr _ 1 _ _ _ B00.out).trans (show _ = some (Value.slice fa fs.length fc) from rfl)
          go_wp2_with fail
          clear x0 x1
          refine (HX.out wr (slR_below tQuery_law H1.out d0.out) (slR_below tSpanS_law H2.out d0.out)).mono ?_
          rintro e w1 ⟨rfl, c1⟩
          have D1 := Lib.hid (d0.out.trans (c1.mono d0.out.size))
          clear c1
          go_wp2_with fail
          refine (HO.out w1 (ints_below H4.out D1.out)).mono ?_
          rintro e w2 ⟨rfl, c2⟩
          have D2 := Lib.hid (D1.out.trans (c2.mono D1.out.size))
          clear c2
          go_wp2
          go_ret
          exact ⟨retI HE.out.symm, D2.out⟩
        · have i2 : ¬ (0 : Int) < (rs.length : Int) := by omega
          go_wp2
          go_ret
          exact ⟨retI HE.out.symm, d0.out⟩
    | true =>
      have HE := Lib.hid (workL_yes (rs := rs) (show (isIndexB qs fs && orderB os) = true by rw [hx, hor]; rfl))
      have HF3 := Lib.hid (idx_len hx)
      have HO3 := Lib.hid (order_iff hor)
      rw [hx] at HX
      rw [hor] at HO
      clear hx hor
      go_enter Tryd.func25, Tryd.ntmps25
      go_wp2
      generalize w.alloc (.cells #[.slice qa qs.length qc, .slice fa fs.length fc] 27) = W at *
      go_loopw [7, 8] (fun n i wr => ∃ (k : Nat), k ≤ rs.length ∧ i = .int .i64 k ∧ n = .int .i64 (sumW qs fs os rs k) ∧ 0 ≤ sumW qs fs os rs k ∧ sumW qs fs os rs k ≤ 4194304 * (k : Int) ∧ wr.heap[w.heap.size]? = some (.cells #[.slice qa qs.length qc, .slice fa fs.length fc] 27 (0, 0)) ∧ Below w.heap.size w wr) (fun _ i _ => rs.length - (intOf i).toNat)
      case atStart => exact ⟨0, Nat.zero_le _, rfl, by simp [sumW], by simp [sumW], by simp [sumW], B00.out, d0.out⟩
      case round =>
        obtain ⟨k, hk, rfl, rfl, hw0, hw1, hr0, hbel⟩ := hrel
        by_cases hlt : k < rs.length
        · have i1 : (0 : Int) ≤ (k : Int) := by omega
          have i2 : (k : Int) < (rs.length : Int) := by omega
          have hst := sumW_step (qs := qs) (fs := fs) (os := os) hlt
          have hwb := workB_bound (fs := fs) (r := rs.getD k (0, [])) HO3.out.1 hlen
          obtain ⟨m', hm'⟩ : ∃ m', sumW qs fs os rs (k + 1) = m' := ⟨_, rfl⟩
          rw [hm'] at hst
          have HM1 := Lib.hid hm'
          have HST := Lib.hid hst
          clear hm'
          obtain ⟨b, off, cap', cs, hv, hbl, hcs, hR⟩ := slR_at H3.out hlt
          simp only [Value.slice.injEq] at hv
          obtain ⟨rfl, _, rfl⟩ := hv
          have hzx := zL_at HZR.out hlt
          have HNO := Lib.hid (fun h => workB_no (qs := qs) (fs := fs) (os := os) (r := rs.getD k (0, [])) h)
          have HYES := Lib.hid (fun h => workB_yes (qs := qs) (fs := fs) (os := os) (r := rs.getD k (0, [])) h)
          change tRow.R w cs (rs.getD k (0, [])) at hR
          change tRow.sz (rs.getD k (0, [])) ≤ 1048576 at hzx
          generalize sumW qs fs os rs k = m at *
          generalize workB qs fs os (rs.getD k (0, [])) = wk at *
          generalize rs.getD k (0, []) = r at *
          obtain ⟨rid, vs⟩ := r
          obtain ⟨vv, hR'⟩ := tRow_R hR
          obtain ⟨rfl, hV⟩ := hR'
          rw [tRow_sz, zL_ints] at hzx
          have RC0 : Hid (w.cell? ⟨b, off + k * 2, none⟩ = some (.int .i64 rid)) := Lib.hid (hcs 0 (by decide))
          obtain ⟨va, vc, rfl⟩ := slR_len hV
          have RC1 : Hid (w.cell? ⟨b, off + k * 2 + 1, none⟩ = some (.slice va vs.length vc)) := Lib.hid (hcs 1 (by decide))
          have HV := Lib.hid (slR_ints hV)
          have HBL := Lib.hid hbl
          have B0 := Lib.hid hr0
          have d := Lib.hid hbel
          have HR := Lib.hid (fun w g => specIsRow rid (.slice va vs.length vc) vs w g hzx)
          clear hcs hR hV hbl hr0 hbel hst
          have p_B0_0 := (cell_of_row wr _ 0 _ _ _ B0.out).trans (show _ = some (Value.slice qa qs.length qc) from rfl)
          have p_B0_1 := (cell_of_row wr _ 1 _ _ _ B0.out).trans (show _ = some (Value.slice fa fs.length fc) from rfl)
          go_wp2_with fail
          clear p_B0_0 p_B0_1
          refine (HX.out wr (slR_below tQuery_law H1.out d.out) (slR_below tSpanS_law H2.out d.out)).mono ?_
          rintro e w1 ⟨rfl, c1⟩
          replace B0 := Lib.hid ((c1.block w.heap.size (Array.getElem?_eq_some_iff.1 B0.out).1).trans B0.out)
          replace d := Lib.hid (d.out.trans (c1.mono d.out.size))
          have Z_w1 := Lib.hid (show wr.heap.size ≤ w1.heap.size from c1.size)
          clear c1
          go_wp2_with fail
          refine (HO.out w1 (ints_below H4.out d.out)).mono ?_
          rintro e w2 ⟨rfl, c2⟩
          replace B0 := Lib.hid ((c2.block w.heap.size (Array.getElem?_eq_some_iff.1 B0.out).1).trans B0.out)
          replace d := Lib.hid (d.out.trans (c2.mono d.out.size))
          have Z_w2 := Lib.hid (show w1.heap.size ≤ w2.heap.size from c2.size)
          clear c2
          cases hrb : rowB (rid, vs) with
          | false =>
            have HW := Lib.hid (HNO.out hrb)
            rw [hrb] at HR
            clear hrb HNO HYES
            have p_r0 := (d.out.cell (p := ⟨b, off + k * 2, none⟩) HBL.out).trans RC0.out
            have p_r1 := (d.out.cell (p := ⟨b, off + k * 2 + 1, none⟩) HBL.out).trans RC1.out
            go_wp2_with fail
            clear p_r0 p_r1
            refine (HR.out w2 (ints_below HV.out d.out)).mono ?_
            rintro e w3 ⟨rfl, c3⟩
            replace B0 := Lib.hid ((c3.block w.heap.size (Array.getElem?_eq_some_iff.1 B0.out).1).trans B0.out)
            replace d := Lib.hid (d.out.trans (c3.mono d.out.size))
            have Z_w3 := Lib.hid (show w2.heap.size ≤ w3.heap.size from c3.size)
            clear c3
            have hm : m = m' := by have := HST.out; have := HW.out; omega
            have HM := Lib.hid hm
            clear hm
            go_wp2
            go_roundw
            case rel => exact ⟨k + 1, by omega, by go_num, by rw [HM1.out, HM.out], by rw [HM1.out]; have := HM.out; omega, by rw [HM1.out]; have := HM.out; omega, B0.out, d.out⟩
            case measure => simp [intOf]; omega
          | true =>
            have HW := Lib.hid (HYES.out hrb)
            have HV3 : Hid (vs.length = 3) := Lib.hid (row_len hrb)
            rw [hrb] at HR
            clear hrb HNO HYES
            have p_r0 := (d.out.cell (p := ⟨b, off + k * 2, none⟩) HBL.out).trans RC0.out
            have p_r1 := (d.out.cell (p := ⟨b, off + k * 2 + 1, none⟩) HBL.out).trans RC1.out
            go_wp2_with fail
            clear p_r0 p_r1
            refine (HR.out w2 (ints_below HV.out d.out)).mono ?_
            rintro e w3 ⟨rfl, c3⟩
            replace B0 := Lib.hid ((c3.block w.heap.size (Array.getElem?_eq_some_iff.1 B0.out).1).trans B0.out)
            replace d := Lib.hid (d.out.trans (c3.mono d.out.size))
            have Z_w3 := Lib.hid (show w2.heap.size ≤ w3.heap.size from c3.size)
            clear c3
            go_wp2
            have p_B0_0 := (cell_of_row w3 _ 0 _ _ _ B0.out).trans (show _ = some (Value.slice qa qs.length qc) from rfl)
            have p_B0_1 := (cell_of_row w3 _ 1 _ _ _ B0.out).trans (show _ = some (Value.slice fa fs.length fc) from rfl)
            have p_r0 := (d.out.cell (p := ⟨b, off + k * 2, none⟩) HBL.out).trans RC0.out
            have p_r1 := (d.out.cell (p := ⟨b, off + k * 2 + 1, none⟩) HBL.out).trans RC1.out
            refine wp_region_held_drew (S := fun w' => w'.cell? ⟨w.heap.size, 0, none⟩ = some (Value.slice qa qs.length qc) ∧ w'.cell? ⟨w.heap.size, 1, none⟩ = some (Value.slice fa fs.length fc) ∧ w'.cell? ⟨b, off + k * 2, none⟩ = some (Value.int .i64 rid) ∧ w'.cell? ⟨b, off + k * 2 + 1, none⟩ = some (Value.slice va vs.length vc)) (by kernel_rfl) ⟨p_B0_0, p_B0_1, p_r0, p_r1⟩ (fun hHeld => ?_)
            clear p_B0_0 p_B0_1 p_r0 p_r1
            have cdr : Below w3.heap.size w3 w3.drew := below_drew (Below.refl _ _)
            replace B0 := Lib.hid ((cdr.block w.heap.size (Array.getElem?_eq_some_iff.1 B0.out).1).trans B0.out)
            replace d := Lib.hid (d.out.trans (cdr.mono d.out.size))
            clear cdr
            refine take_runs (i := 0) (v := ?_) (by simp only [List.getElem?_toArray, List.getElem?_cons_succ, List.getElem?_cons_zero]; rfl) (by kernel_rfl) (by kernel_rfl) (by kernel_rfl) rfl (by exact fun _ _ _ h => h) (by rfl) ?_ (by assumption) ?_
            rotate_left
            · intro w hSw; (try dsimp only at hSw); go_simp; try (with_reducible rfl)
            try simp only [Act.put, List.setIfInBounds_toArray, List.set_cons_zero, List.set_cons_succ]
            refine take_runs (i := 1) (v := ?_) (by simp only [List.getElem?_toArray, List.getElem?_cons_succ, List.getElem?_cons_zero]; rfl) (by kernel_rfl) (by kernel_rfl) (by kernel_rfl) rfl (by exact fun _ _ _ h => h) (by rfl) ?_ (by assumption) ?_
            rotate_left
            · intro w hSw; (try dsimp only at hSw); go_simp; try (with_reducible rfl)
            try simp only [Act.put, List.setIfInBounds_toArray, List.set_cons_zero, List.set_cons_succ]
            refine take_runs (i := 2) (v := ?_) (by simp only [List.getElem?_toArray, List.getElem?_cons_succ, List.getElem?_cons_zero]; rfl) (by kernel_rfl) (by kernel_rfl) (by kernel_rfl) rfl (by exact fun _ _ _ h => h) (by rfl) ?_ (by assumption) ?_
            rotate_left
            · intro w hSw; (try dsimp only at hSw); go_simp; try (with_reducible rfl)
            try simp only [Act.put, List.setIfInBounds_toArray, List.set_cons_zero, List.set_cons_succ]
            refine take_runs (i := 3) (v := ?_) (by simp only [List.getElem?_toArray, List.getElem?_cons_succ, List.getElem?_cons_zero]; rfl) (by kernel_rfl) (by kernel_rfl) (by kernel_rfl) rfl (by exact fun _ _ _ h => h) (by rfl) ?_ (by assumption) ?_
            rotate_left
            · intro w hSw; (try dsimp only at hSw); go_simp; try (with_reducible rfl)
            try simp only [Act.put, List.setIfInBounds_toArray, List.set_cons_zero, List.set_cons_succ]
            refine take_runs (i := 4) (v := ?_) (by simp only [List.getElem?_toArray, List.getElem?_cons_succ, List.getElem?_cons_zero]; rfl) (by kernel_rfl) (by kernel_rfl) (by kernel_rfl) rfl (by exact fun _ _ _ h => h) (by rfl) ?_ (by assumption) ?_
            rotate_left
            · intro w hSw; (try dsimp only at hSw); go_simp; try (with_reducible rfl)
            try simp only [Act.put, List.setIfInBounds_toArray, List.set_cons_zero, List.set_cons_succ]
            refine take_runs (i := 5) (v := ?_) (by simp only [List.getElem?_toArray, List.getElem?_cons_succ, List.getElem?_cons_zero]; rfl) (by kernel_rfl) (by kernel_rfl) (by kernel_rfl) rfl (by exact fun _ _ _ h => h) (by rfl) ?_ (by assumption) ?_
            rotate_left
            · intro w hSw; (try dsimp only at hSw); go_simp; try (with_reducible rfl)
            try simp only [Act.put, List.setIfInBounds_toArray, List.set_cons_zero, List.set_cons_succ]
            refine wpAnyH_ready (rs := [6]) (by kernel_rfl) (by simp) ?_
            refine (AllReadyH.cons (o := _) (by simp only [List.getElem?_toArray, List.getElem?_cons_succ, List.getElem?_cons_zero]; rfl) (fun K hK => ?_) AllReadyH.nil)
            go_simp
            refine (specL6Probe (.slice qa qs.length qc) (.slice fa fs.length fc) (.slice va vs.length vc) (.slice oa os.length oc) qs fs rid vs os (w3.drew) (slR_below tQuery_law H1.out d.out) (slR_below tSpanS_law H2.out d.out) (ints_below HV.out d.out) (ints_below H4.out d.out) HS.out HZ.out HF3.out HV3.out HO3.out.1 HO3.out.2).mono ?_
            rintro e w5 ⟨pu, rfl, ou, c5⟩
            replace B0 := Lib.hid ((c5.block w.heap.size (Array.getElem?_eq_some_iff.1 B0.out).1).trans B0.out)
            replace d := Lib.hid (d.out.trans (c5.mono d.out.size))
            have Z_w5 := Lib.hid (show w3.heap.size ≤ w5.heap.size from c5.size)
            clear ou c5
            have p_B0_0 := (cell_of_row w5 _ 0 _ _ _ B0.out).trans (show _ = some (Value.slice qa qs.length qc) from rfl)
            have p_B0_1 := (cell_of_row w5 _ 1 _ _ _ B0.out).trans (show _ = some (Value.slice fa fs.length fc) from rfl)
            have p_r0 := (d.out.cell (p := ⟨b, off + k * 2, none⟩) HBL.out).trans RC0.out
            have p_r1 := (d.out.cell (p := ⟨b, off + k * 2 + 1, none⟩) HBL.out).trans RC1.out
            refine hK.out _ _ ⟨p_B0_0, p_B0_1, p_r0, p_r1⟩ (fun hHeld => ?_)
            clear p_B0_0 p_B0_1 p_r0 p_r1
            clear hK K
            try simp only [Act.put, List.setIfInBounds_toArray, List.set_cons_zero, List.set_cons_succ]
            refine take_runs (i := 7) (v := ?_) (by simp only [List.getElem?_toArray, List.getElem?_cons_succ, List.getElem?_cons_zero]; rfl) (by kernel_rfl) (by kernel_rfl) (by kernel_rfl) rfl (by exact fun _ _ _ h => h) (by rfl) ?_ (by assumption) ?_
            rotate_left
            · intro w hSw; (try dsimp only at hSw); go_simp; try (with_reducible rfl)
            try simp only [Act.put, List.setIfInBounds_toArray, List.set_cons_zero, List.set_cons_succ]
            refine take_runs (i := 8) (v := ?_) (by simp only [List.getElem?_toArray, List.getElem?_cons_succ, List.getElem?_cons_zero]; rfl) (by kernel_rfl) (by kernel_rfl) (by kernel_rfl) rfl (by exact fun _ _ _ h => h) (by rfl) ?_ (by assumption) ?_
            rotate_left
            · intro w hSw; (try dsimp only at hSw); go_simp; try (with_reducible rfl)
            try simp only [Act.put, List.setIfInBounds_toArray, List.set_cons_zero, List.set_cons_succ]
            refine take_runs (i := 9) (v := ?_) (by simp only [List.getElem?_toArray, List.getElem?_cons_succ, List.getElem?_cons_zero]; rfl) (by kernel_rfl) (by kernel_rfl) (by kernel_rfl) rfl (by exact fun _ _ _ h => h) (by rfl) ?_ (by assumption) ?_
            rotate_left
            · intro w hSw; (try dsimp only at hSw); go_simp; try (with_reducible rfl)
            try simp only [Act.put, List.setIfInBounds_toArray, List.set_cons_zero, List.set_cons_succ]
            refine take_runs (i := 10) (v := ?_) (by simp only [List.getElem?_toArray, List.getElem?_cons_succ, List.getElem?_cons_zero]; rfl) (by kernel_rfl) (by kernel_rfl) (by kernel_rfl) rfl (by exact fun _ _ _ h => h) (by rfl) ?_ (by assumption) ?_
            rotate_left
            · intro w hSw; (try dsimp only at hSw); go_simp; try (with_reducible rfl)
            try simp only [Act.put, List.setIfInBounds_toArray, List.set_cons_zero, List.set_cons_succ]
            refine take_runs (i := 11) (v := ?_) (by simp only [List.getElem?_toArray, List.getElem?_cons_succ, List.getElem?_cons_zero]; rfl) (by kernel_rfl) (by kernel_rfl) (by kernel_rfl) rfl (by exact fun _ _ _ h => h) (by rfl) ?_ (by assumption) ?_
            rotate_left
            · intro w hSw; (try dsimp only at hSw); go_simp; try (with_reducible rfl)
            try simp only [Act.put, List.setIfInBounds_toArray, List.set_cons_zero, List.set_cons_succ]
            refine wpAnyH_done (by kernel_rfl) ?_ _
            clear hHeld
            generalize (probeL fs vs os (allL qs) 0).2 = pw at *
            have hm : m + pw = m' := by have := HST.out; have h9 : wk = pw := HW.out; omega
            have HM := Lib.hid hm
            have hm3 : pw ≤ 4194304 := by have h9 : wk = pw := HW.out; omega
            have hm1 : m + pw ≤ 9223372036854775807 := by omega
            have hm2 : 0 ≤ pw := by have h9 : wk = pw := HW.out; omega
            clear hm
            go_wp2
            go_roundw
            case rel => exact ⟨k + 1, by omega, by go_num, by rw [HM1.out, HM.out], by rw [HM1.out]; have := HM.out; omega, by rw [HM1.out]; have := HM.out; omega, B0.out, d.out⟩
            case measure => simp [intOf]; omega
        · obtain rfl : k = rs.length := by omega
          go_wp2
          go_ret
          exact ⟨retI HE.out.symm, hbel⟩
end Go.Proofs.YtidhmgboknffkaaDoor
namespace Go.Proofs.YtidhmgboknffkaaDoor
open Go.RowKit
set_option linter.unusedVariables false
set_option linter.unusedSimpArgs false
end Go.Proofs.YtidhmgboknffkaaDoor
namespace Go.Proofs.YtidhmgboknffkaaDoor
open Go.RowKit
set_option linter.unusedVariables false
set_option linter.unusedSimpArgs false
end Go.Proofs.YtidhmgboknffkaaDoor
namespace Go.Proofs.YtidhmgboknffkaaDoor
open Go.RowKit
set_option linter.unusedVariables false
set_option linter.unusedSimpArgs false
theorem fitMatchSet (x0 : List QD) (x1 : List (List SpanD)) (rid : Int) (vs : List Int) : ∀ (v0 v1 v2 : Value) (w : World), SlR tQuery w v0 x0 → SlR tSpanS w v1 x1 → SlR tInt w v2 vs → zL tQuery x0 + zL tSpanS x1 + zL tInt vs ≤ 1048576 →
    Calls Tryd.prog 28 #[.agg #[v0, v1], .agg #[.int .i64 rid, v2]] w (fun e w' => ∃ (g0 : Value) (G0 : Nat → Prop), e = .returned g0 ∧ SlO 3 tInt w' G0 g0 (probeB x0 x1 (rid, vs) [0, 1, 2]).1 ∧ (∀ b, G0 b → w.heap.size ≤ b) ∧ Below w.heap.size w w') := by
  intro v0 v1 v2 w h1 h2 h3 hz
  rw [zL_ints] at hz
  refine (specMatchSet v0 v1 v2 x0 x1 rid vs w h1 h2 (slR_ints h3) (by omega) (by omega) (by omega)).mono ?_
  rintro e w' ⟨u, he, ho, hb⟩
  exact ⟨u, since w, he, fresh_ints ho, fun b hb => hb, hb⟩
theorem fitProbeSet (x0 : List QD) (x1 : List (List SpanD)) (rid : Int) (vs os : List Int) : ∀ (v0 v1 v2 v3 : Value) (w : World), SlR tQuery w v0 x0 → SlR tSpanS w v1 x1 → SlR tInt w v2 vs → SlR tInt w v3 os → zL tQuery x0 + zL tSpanS x1 + zL tInt vs ≤ 1048576 → os.length ≤ 1048576 →
    Calls Tryd.prog 11 #[.agg #[v0, v1], .agg #[.int .i64 rid, v2], v3] w (fun e w' => ∃ (g0 : Value) (G0 : Nat → Prop), e = .returned (.tuple #[g0, .int .i64 (probeB x0 x1 (rid, vs) os).2]) ∧ SlO 3 tInt w' G0 g0 (probeB x0 x1 (rid, vs) os).1 ∧ (∀ b, G0 b → w.heap.size ≤ b) ∧ Below w.heap.size w w') := by
  intro v0 v1 v2 v3 w h1 h2 h3 h4 hz ho
  rw [zL_ints] at hz
  refine (specProbeSet v0 v1 v2 v3 x0 x1 rid vs os w h1 h2 (slR_ints h3) (slR_ints h4) (by omega) (by omega) (by omega) ho).mono ?_
  rintro e w' ⟨u, he, ho, hb⟩
  exact ⟨u, since w, he, fresh_ints ho, fun b hb => hb, hb⟩
theorem fitWorkOf (x0 : List QD) (x1 : List (List SpanD)) (rs : List RowD) (os : List Int) : ∀ (v0 v1 v2 v3 : Value) (w : World), SlR tQuery w v0 x0 → SlR tSpanS w v1 x1 → SlR tRow w v2 rs → SlR tInt w v3 os → zL tQuery x0 + zL tSpanS x1 + zL tRow rs ≤ 1048576 → os.length ≤ 1048576 →
    Calls Tryd.prog 25 #[.agg #[v0, v1], v2, v3] w (fun e w' => e = .returned (.int .i64 (workL x0 x1 rs os)) ∧ Below w.heap.size w w') :=
  fun v0 v1 v2 v3 w h1 h2 h3 h4 hz ho => specWorkOf v0 v1 v2 v3 x0 x1 rs os w h1 h2 h3 (slR_ints h4) (by omega) (by omega) (by omega) ho
end Go.Proofs.YtidhmgboknffkaaDoor
namespace Go.Proofs.YtidhmgboknffkaaDoor
open Go.RowKit
set_option linter.unusedVariables false
set_option linter.unusedSimpArgs false
theorem probe_size (qs : List QD) (fs : List (List SpanD)) (rid : Int) (vs os : List Int) : zL tInt (probeB qs fs (rid, vs) os).1 ≤ 1048576 := by
  rw [zL_ints]
  cases h : (isIndexB qs fs && (rowB (rid, vs) && orderB os)) with
  | false => rw [probeB_no h]; decide
  | true =>
    rw [Bool.and_eq_true, Bool.and_eq_true] at h
    rw [← (probe_both h.1 h.2.1 h.2.2).1]
    have := memL_le (probeM (pick3 (setM fs vs 0) (setM fs vs 1) (setM fs vs 2)) [os.getD 0 0, os.getD 1 0, os.getD 2 0] (maskL (allL qs)) 0).1
    omega
theorem resMatchSet {W : World} (ht : OrdT W) (x0 : List QD) (x1 : List (List SpanD)) (rid : Int) (vs : List Int) : ∀ (v0 v1 v2 : Value) (w : World), Below W.heap.size W w → SlR tQuery w v0 x0 → SlR tSpanS w v1 x1 → SlR tInt w v2 vs → zL tQuery x0 + zL tSpanS x1 + zL tInt vs ≤ 1048576 →
    Calls Tryd.prog 15 #[.agg #[v0, v1], .agg #[.int .i64 rid, v2]] w (fun e w' => ∃ (g0 : Value) (G0 : Nat → Prop), e = .returned g0 ∧ SlO 3 tInt w' G0 g0 (probeB x0 x1 (rid, vs) [0, 1, 2]).1 ∧ (∀ b, G0 b → w.heap.size ≤ b) ∧ Below w.heap.size w w') := by
  intro v0 v1 v2 w hB h1 h2 h3 hz
  rw [zL_ints] at hz
  refine (implMatchSet v0 v1 v2 x0 x1 rid vs w h1 h2 (slR_ints h3) (by omega) (by omega) (by omega) (ht.on hB)).mono ?_
  rintro e w' ⟨u, he, ho, hb⟩
  exact ⟨u, since w, he, fresh_ints ho, fun b hb => hb, hb⟩
theorem resProbeSet {W : World} (ht : OrdT W) (x0 : List QD) (x1 : List (List SpanD)) (rid : Int) (vs os : List Int) : ∀ (v0 v1 v2 v3 : Value) (w : World), Below W.heap.size W w → SlR tQuery w v0 x0 → SlR tSpanS w v1 x1 → SlR tInt w v2 vs → SlR tInt w v3 os → zL tQuery x0 + zL tSpanS x1 + zL tInt vs ≤ 1048576 → os.length ≤ 1048576 →
    Calls Tryd.prog 10 #[.agg #[v0, v1], .agg #[.int .i64 rid, v2], v3] w (fun e w' => ∃ (g0 : Value) (G0 : Nat → Prop), e = .returned (.tuple #[g0, .int .i64 (probeB x0 x1 (rid, vs) os).2]) ∧ SlO 3 tInt w' G0 g0 (probeB x0 x1 (rid, vs) os).1 ∧ (∀ b, G0 b → w.heap.size ≤ b) ∧ Below w.heap.size w w') := by
  intro v0 v1 v2 v3 w hB h1 h2 h3 h4 hz ho
  rw [zL_ints] at hz
  refine (implProbeSet v0 v1 v2 v3 x0 x1 rid vs os w h1 h2 (slR_ints h3) (slR_ints h4) (by omega) (by omega) (by omega) ho (ht.on hB)).mono ?_
  rintro e w' ⟨u, he, ho, hb⟩
  exact ⟨u, since w, he, fresh_ints ho, fun b hb => hb, hb⟩
theorem resWorkOf {W : World} (ht : OrdT W) (x0 : List QD) (x1 : List (List SpanD)) (rs : List RowD) (os : List Int) : ∀ (v0 v1 v2 v3 : Value) (w : World), Below W.heap.size W w → SlR tQuery w v0 x0 → SlR tSpanS w v1 x1 → SlR tRow w v2 rs → SlR tInt w v3 os → zL tQuery x0 + zL tSpanS x1 + zL tRow rs ≤ 1048576 → os.length ≤ 1048576 →
    Calls Tryd.prog 24 #[.agg #[v0, v1], v2, v3] w (fun e w' => e = .returned (.int .i64 (workL x0 x1 rs os)) ∧ Below w.heap.size w w') :=
  fun v0 v1 v2 v3 w hB h1 h2 h3 h4 hz ho => implWorkOf v0 v1 v2 v3 x0 x1 rs os w h1 h2 h3 (slR_ints h4) (by omega) (by omega) (by omega) ho (ht.on hB)
end Go.Proofs.YtidhmgboknffkaaDoor
namespace Go.Proofs.YtidhmgboknffkaaDoor
open Go.RowKit
set_option linter.unusedVariables false
set_option linter.unusedSimpArgs false
theorem gOrd : Tryd.prog.globalNamed "loop.example/g01986/impl.probeOrders" = some 0 := by kernel_rfl
theorem tOrd : (Tryd.prog.globals[0]?).map (·.type) = some 119 := by kernel_rfl
theorem cOrd6 : Tryd.prog.cellsOf 119 = 18 := by kernel_rfl
theorem cOrd : Tryd.prog.cellsOf 100 = 3 := by kernel_rfl
theorem cOrdI : Tryd.prog.cellsOf 3 = 1 := by kernel_rfl
def ordD : DataW Unit := .agg (ordersL.map fun o => Lib.tabData .i64 o)
theorem cells_of_orders {w : World} {enc : TypeId × Value → Unit} {base : Nat} {sp : Nat → Bool} {held : Bool} {fuel : Nat} {cs : List Value} {p : List MemPlace}
    (h : DataW.trod enc Tryd.prog w base sp held fuel 119 cs = some (ordD, p)) : ∀ i, i < 18 → cs[i]? = some (.int .i64 (ordC.getD i 0)) := by
  cases fuel with
  | zero => simp [DataW.trod] at h
  | succ fuel =>
    simp only [DataW.trod, Tryd.underlying119, cOrd, cOrd6] at h
    split at h
    · rename_i hl
      obtain ⟨xs, hm, hx⟩ := Option.map_eq_some_iff.1 h
      have hxs : xs.map (·.1) = ordersL.map fun o => (Lib.tabData .i64 o : DataW Unit) := by
        have := congrArg Prod.fst hx
        simpa [ordD] using this
      have one : ∀ k, k < 6 → ((cs.drop (k * 3)).take 3) = (ordersL.getD k []).map fun z => Value.int .i64 z := by
        intro k hk
        obtain ⟨b, hb, hf⟩ := Lib.mapM_at hm k k (by simp [hk])
        have h2 : (xs.map (·.1))[k]? = some b.1 := by simp [hb]
        rw [hxs] at h2
        have hk' : k < ordersL.length := by show k < 6; exact hk
        rw [List.getElem?_map, List.getElem?_eq_getElem hk'] at h2
        simp only [Option.map_some, Option.some.injEq] at h2
        obtain ⟨b1, b2⟩ := b
        simp only at h2
        have e : ordersL.getD k [] = ordersL[k] := by simp [List.getD, hk']
        rw [e]
        exact Lib.cells_of_tab Tryd.underlying100 Tryd.underlying3 cOrdI cOrd (by rw [h2]; exact hf)
      intro i hi
      have h3 := one (i / 3) (by omega)
      have h4 := congrArg (·[i % 3]?) h3
      have h5 : i % 3 < 3 := Nat.mod_lt _ (by omega)
      simp only [List.getElem?_take, List.getElem?_drop, if_pos h5] at h4
      rw [show i / 3 * 3 + i % 3 = i by omega] at h4
      rw [h4]
      rcases (show i = 0 ∨ i = 1 ∨ i = 2 ∨ i = 3 ∨ i = 4 ∨ i = 5 ∨ i = 6 ∨ i = 7 ∨ i = 8 ∨ i = 9 ∨ i = 10 ∨ i = 11 ∨ i = 12 ∨ i = 13 ∨ i = 14 ∨ i = 15 ∨ i = 16 ∨ i = 17 by omega) with rfl | rfl | rfl | rfl | rfl | rfl | rfl | rfl | rfl | rfl | rfl | rfl | rfl | rfl | rfl | rfl | rfl | rfl <;> rfl
    · cases h
theorem ordT_of_head {W : World} {rest : List (String × DataW Unit)} (h : laidMet Tryd.prog (("loop.example/g01986/impl.probeOrders", ordD) :: rest) W) : OrdT W := by
  obtain ⟨ps, ⟨g', t', cs, fuel, p, q, hg', ht', hvar, hd, _, _⟩, _⟩ := h
  obtain rfl := Option.some.inj (gOrd.symm.trans hg')
  obtain rfl := Option.some.inj (tOrd.symm.trans ht')
  intro i hi
  have h1 := cells_of_orders hd i hi
  have h2 := World.var?_cell gOrd hvar i
  rw [h2]
  simpa using h1
theorem var_below {P : Program} {W W' : World} {n : String} {g : Nat} {cs : Array Value} (hg : P.globalNamed n = some g) (h : W.var? P n = some cs) (hb : Below W.heap.size W W') : W'.var? P n = some cs := by
  simp only [World.var?, hg, Option.bind_some] at h ⊢
  cases hc : W.heap[g]? with
  | none => rw [hc] at h; simp at h
  | some o => rw [hb.block g (Array.getElem?_eq_some_iff.1 hc).1]; exact h
end Go.Proofs.YtidhmgboknffkaaDoor
