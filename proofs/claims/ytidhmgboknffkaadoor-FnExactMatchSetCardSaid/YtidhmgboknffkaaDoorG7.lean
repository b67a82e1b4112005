/-
  Texts of the proof, merged: CopyP, FindSpanP, ProbeP, MaskMem, Rec, RecLim, RecEq, RowIsP, StabSpec, StabsSpec, IdxSpec2.
-/
import Derived.Test.YtidhmgboknffkaaDoorG6
import Derived.Lib.MinMax
import Derived.IntWalk
import Derived.Laws.CopyOwn
import Derived.Laws.StructEq
namespace Go.Proofs.YtidhmgboknffkaaDoor
open Go.RowKit
set_option linter.unusedVariables false
set_option linter.unusedSimpArgs false
set_option maxHeartbeats 2000000 in
set_option maxRecDepth 100000 in
theorem copyInts_any (v : Value) (xs : List Int) (w : World) (h : Ints w v xs) (hn : xs.length ≤ 1048576) :
    Calls Tryd.prog 100 #[v] w (FreshInts w xs) := by
  have H := Lib.hid h
  have HN := Lib.hid hn
  obtain ⟨a, cap, rfl⟩ := ints_len h
  clear h hn
  go_enter Tryd.func100, Tryd.ntmps100
  go_wp2_with (at_builtin; refine wpl_app_ints rfl _ (.tmp 3) rfl w.heap.size _ _ [] xs rfl rfl (ownsN_nil _ _) H.out (Nat.le_refl _) (by have := HN.out; simp; omega) ?_)
  intro u w4 oB bB
  obtain ⟨pa, pc, rfl⟩ := ints_len (ownsN_ints oB)
  go_wp2
  go_ret
  exact ⟨_, rfl, oB, bB⟩
end Go.Proofs.YtidhmgboknffkaaDoor
namespace Go.Proofs.YtidhmgboknffkaaDoor
open Go.RowKit
set_option linter.unusedVariables false
set_option linter.unusedSimpArgs false
set_option maxHeartbeats 4000000 in
set_option maxRecDepth 100000 in
theorem interval_of (f t : Int) (a : Option Addr) (m c : Nat) (w : World) : Calls Tryd.prog 98 #[.agg #[.int .i64 f, .int .i64 t, .slice a m c]] w fun e w' => e = .returned (.agg #[.int .i64 f, .int .i64 t, .slice a m c]) ∧ Below w.heap.size w w' := by
  have hb1 : Below w.heap.size w (w.alloc (.cells #[.int .i64 f, .int .i64 t, .slice a m c] 83)) := (Below.refl _ w).alloc (Nat.le_refl _) _
  go_enter Tryd.func98, Tryd.ntmps98
  go_wp2
  refine bodyPost_ret (v := .agg #[.int .i64 f, .int .i64 t, .slice a m c]) ?_ rfl ?_
  · simp [results, Tryd.f98, go_sem]
  · refine ⟨rfl, ?_⟩
    first
    | exact ((((((Below.refl _ w).alloc (Nat.le_refl _) _).alloc (by simp) _).setCell (by simp) _).setCell (by simp) _).setCell (by simp) _)
    | exact ((Below.refl _ w).alloc (Nat.le_refl _) _).alloc (by simp) _
set_option maxHeartbeats 4000000 in
set_option maxRecDepth 100000 in
theorem containsS_is (a b : Int) (p : Option Addr) (m c : Nat) (v : Int) (w : World) : Calls Tryd.prog 99 #[.agg #[.int .i64 a, .int .i64 b, .slice p m c], .int .i64 v] w fun e w' => e = .returned (.bool (decide (a ≤ v ∧ v ≤ b))) ∧ Below w.heap.size w w' := by
  have hb : Below w.heap.size w (w.alloc (.cells #[.int .i64 a, .int .i64 b, .slice p m c] 147)) := (Below.refl _ w).alloc (Nat.le_refl _) _
  obtain ⟨r, hr⟩ : ∃ r, decide (a ≤ v ∧ v ≤ b) = r := ⟨_, rfl⟩
  rw [hr]
  by_cases h1 : a ≤ v
  · by_cases h2 : v ≤ b
    · have HT : Hid (r = true) := Lib.hid (by rw [← hr]; exact decide_eq_true ⟨h1, h2⟩)
      clear hr
      go_enter Tryd.func99, Tryd.ntmps99
      go_wp2
      go_ret
      exact ⟨ret_b HT.out.symm, hb⟩
    · have HT : Hid (r = false) := Lib.hid (by rw [← hr]; exact decide_eq_false (fun g => h2 g.2))
      clear hr
      go_enter Tryd.func99, Tryd.ntmps99
      go_wp2
      go_ret
      exact ⟨ret_b HT.out.symm, hb⟩
  · have HT : Hid (r = false) := Lib.hid (by rw [← hr]; exact decide_eq_false (fun g => h1 g.1))
    clear hr
    go_enter Tryd.func99, Tryd.ntmps99
    go_wp2
    go_ret
    exact ⟨ret_b HT.out.symm, hb⟩
set_option maxHeartbeats 8000000 in
set_option maxRecDepth 100000 in
theorem implFindSpan (va : Value) (rs : List SpanD) (v : Int) (w : World) (h : SpansR w va rs) (hs : zpL rs ≤ 1048576) :
    Calls Tryd.prog 51 #[va, .int .i64 v] w (FreshInts w (findL rs v)) := by
  have H := Lib.hid h
  have HS := Lib.hid hs
  have hlen := zpL_len hs
  obtain ⟨a, cap, rfl⟩ := spansR_len h
  clear h hs
  go_enter Tryd.func51, Tryd.ntmps51
  go_wp2
  go_loopw [10] (fun i wr => ∃ k : Nat, k ≤ rs.length ∧ i = .int .i64 k ∧ Hid (∀ j, j < k → hitB v (rs.getD j p0D) = false) ∧ Below w.heap.size w wr) (fun i _ => rs.length - (intOf i).toNat)
  case atStart => exact ⟨0, Nat.zero_le _, rfl, Lib.hid (fun j hj => by omega), Below.refl _ _⟩
  case round =>
    obtain ⟨k, hk, rfl, hall, hbel⟩ := hrel
    by_cases hlt : k < rs.length
    · obtain ⟨b, off, cap', vv, hv, hbl, hc1, hc2, hc3, hI⟩ := spansR_at (spansR_below H.out hbel) hlt
      simp only [Value.slice.injEq] at hv
      obtain ⟨rfl, _, rfl⟩ := hv
      obtain ⟨ua, uc, rfl⟩ := ints_len hI
      have HXL := Lib.hid (zpL_span HS.out hlt)
      have i1 : (0 : Int) ≤ (k : Int) := by omega
      have i2 : (k : Int) < (rs.length : Int) := by omega
      have HHIT := Lib.hid (fun e => find_at (v := v) hlt hall.out e)
      have HALL : Hid (hitB v (rs.getD k p0D) = false → ∀ j, j < k + 1 → hitB v (rs.getD j p0D) = false) := Lib.hid (fun he j hj => by
        by_cases e : j = k
        · exact e ▸ he
        · exact hall.out j (by omega))
      clear hall
      generalize rs.getD k p0D = r at *
      obtain ⟨sf, st, xs⟩ := r
      simp only at hc1 hc2 hc3 hI HXL HHIT
      have hal : Below wr.heap.size wr (wr.alloc (.cells #[.int .i64 sf, .int .i64 st, .slice ua xs.length uc] 83)) := (Below.refl _ _).alloc (Nat.le_refl _) _
      have HII := Lib.hid (ints_below hI hal)
      have HBW := Lib.hid (hbel.trans (hal.mono hbel.size))
      have HB : Hid (hitB v (sf, st, xs) = decide (sf ≤ v ∧ v ≤ st)) := Lib.hid rfl
      clear hI hbel hal
      go_wp2_with fail
      generalize wr.alloc (.cells #[.int .i64 sf, .int .i64 st, .slice ua xs.length uc] 83) = W at *
      refine (interval_of sf st ua xs.length uc _).mono ?_
      rintro e w2 ⟨rfl, b2⟩
      have hal : Below w2.heap.size w2 (w2.alloc (.cells #[.int .i64 sf, .int .i64 st, .slice ua xs.length uc] 147)) := (Below.refl _ _).alloc (Nat.le_refl _) _
      have g0 := heap_alloc_new w2 (.cells #[.int .i64 sf, .int .i64 st, .slice ua xs.length uc] 147)
      have HZL : Hid (w2.heap.size < (w2.alloc (.cells #[.int .i64 sf, .int .i64 st, .slice ua xs.length uc] 147)).heap.size) := Lib.hid (by simp)
      have HI2 := Lib.hid (ints_below (ints_below HII.out b2) hal)
      have HB2 := Lib.hid ((HBW.out.trans (b2.mono HBW.out.size)).trans (hal.mono (HBW.out.trans (b2.mono HBW.out.size)).size))
      clear hc1 hc2 hc3 HII HBW b2 hal
      go_wp2_with fail
      generalize w2.alloc (.cells #[.int .i64 sf, .int .i64 st, .slice ua xs.length uc] 147) = W2 at *
      refine (containsS_is sf st ua xs.length uc v _).mono ?_
      rintro e w3 ⟨rfl, b3⟩
      have k3 := (b3.block _ HZL.out).trans g0
      have p2 := (cell_of_row w3 _ 2 _ _ _ k3).trans (show _ = some (Value.slice ua xs.length uc) from rfl)
      have I3 := ints_below HI2.out b3
      have B3 := HB2.out.trans (b3.mono HB2.out.size)
      rw [← HB.out]
      clear k3 g0 b3 HI2 HB2
      cases hh : hitB v (sf, st, xs) with
      | true =>
        have HF := Lib.hid (HHIT.out hh)
        clear HHIT HALL hh
        go_wp2_with fail
        refine (copyInts_any (.slice ua xs.length uc) xs w3 I3 HXL.out).mono ?_
        rintro e w4 ⟨u, rfl, oB, bB⟩
        obtain ⟨pa, pc, rfl⟩ := ints_len (ownsN_ints oB)
        have oB2 := ownsN_up oB B3.size
        have B4 := B3.trans (bB.mono B3.size)
        clear oB bB B3 I3 p2
        go_wp2
        go_ret
        rw [HF.out]
        exact ⟨_, rfl, oB2, B4⟩
      | false =>
        have HA := Lib.hid (HALL.out hh)
        clear HHIT HALL hh
        go_wp2
        go_roundw
        case rel => exact ⟨k + 1, by omega, by go_num, HA, B3⟩
        case measure => simp [intOf]; omega
    · obtain rfl : k = rs.length := by omega
      have HF := Lib.hid (find_none hall.out)
      clear hall
      go_wp2
      go_ret
      rw [HF.out]
      exact ⟨_, rfl, ownsN_nil _ _, hbel⟩
theorem findL_len {rs : List SpanD} {v : Int} (h : zpL rs ≤ 1048576) : (findL rs v).length ≤ 1048576 := by
  unfold findL
  cases hf : rs.find? (hitB v) with
  | none => simp [p0D]
  | some r =>
    have hm := List.mem_of_find?_eq_some hf
    obtain ⟨j, hj, rfl⟩ := List.getElem_of_mem hm
    have := zpL_span h hj
    have e : rs.getD j p0D = rs[j] := by simp [List.getD, hj]
    rw [e] at this
    simpa using this
end Go.Proofs.YtidhmgboknffkaaDoor
namespace Go.Proofs.YtidhmgboknffkaaDoor
open Go.RowKit
set_option linter.unusedVariables false
set_option linter.unusedSimpArgs false
theorem idxS0 (s0 s1 s2 : Value) (w : World) : Sem.run Tryd.prog (Instr.index 94 (.agg #[s0, s1, s2]) (.int .i64 0)) w = .ok s0 w := by
  have u := Tryd.underlying94
  have z := Tryd.sizeOf77
  have g := Tryd.isAgg77
  unfold Instr.index
  go_simp
theorem idxS1 (s0 s1 s2 : Value) (w : World) : Sem.run Tryd.prog (Instr.index 94 (.agg #[s0, s1, s2]) (.int .i64 1)) w = .ok s1 w := by
  have u := Tryd.underlying94
  have z := Tryd.sizeOf77
  have g := Tryd.isAgg77
  unfold Instr.index
  go_simp
theorem idxS2 (s0 s1 s2 : Value) (w : World) : Sem.run Tryd.prog (Instr.index 94 (.agg #[s0, s1, s2]) (.int .i64 2)) w = .ok s2 w := by
  have u := Tryd.underlying94
  have z := Tryd.sizeOf77
  have g := Tryd.isAgg77
  unfold Instr.index
  go_simp
theorem idxP0 (a b c : Int) (w : World) : Sem.run Tryd.prog (Instr.index 100 (.agg #[.int .i64 a, .int .i64 b, .int .i64 c]) (.int .i64 0)) w = .ok (.int .i64 a) w := by
  have u := Tryd.underlying100
  have z := Tryd.sizeOf3
  have g := Tryd.isAgg3
  unfold Instr.index
  go_simp
theorem idxP1 (a b c : Int) (w : World) : Sem.run Tryd.prog (Instr.index 100 (.agg #[.int .i64 a, .int .i64 b, .int .i64 c]) (.int .i64 1)) w = .ok (.int .i64 b) w := by
  have u := Tryd.underlying100
  have z := Tryd.sizeOf3
  have g := Tryd.isAgg3
  unfold Instr.index
  go_simp
theorem idxP2 (a b c : Int) (w : World) : Sem.run Tryd.prog (Instr.index 100 (.agg #[.int .i64 a, .int .i64 b, .int .i64 c]) (.int .i64 2)) w = .ok (.int .i64 c) w := by
  have u := Tryd.underlying100
  have z := Tryd.sizeOf3
  have g := Tryd.isAgg3
  unfold Instr.index
  go_simp
theorem findL_len3 {rs : List SpanD} {v : Int} (h : zL tSpan rs ≤ 1048576) : (findL rs v).length ≤ 1048576 := findL_len (by rw [← zL_spans]; exact h)
set_option maxHeartbeats 16000000 in
set_option maxRecDepth 100000 in
theorem implSetsOf (m : Nat) (s0 s1 s2 : Value) (fs : List (List SpanD)) (rid : Int) (vv : Value) (vs : List Int) (w : World) (hc : CI w fs s0 s1 s2) (h : Ints w vv vs) (hz : zL tSpanS fs ≤ 1048576) (hf : fs.length = 3) (hv : vs.length = 3) :
    Calls Tryd.prog 62 #[ciV m s0 s1 s2, .agg #[.int .i64 rid, vv]] w fun e w' => e = .returned (.agg #[.int .u32 ((setM fs vs 0 : Nat) : Int), .int .u32 ((setM fs vs 1 : Nat) : Int), .int .u32 ((setM fs vs 2 : Nat) : Int)]) ∧ Below w.heap.size w w' := by
  obtain ⟨vb, vo, vc, rfl, hvb, hcell⟩ := ints_cell h (by omega)
  have HI := Lib.hid hc
  have z0 : zL tSpan (fs.getD 0 []) ≤ 1048576 := zL_at hz (by omega)
  have z1 : zL tSpan (fs.getD 1 []) ≤ 1048576 := zL_at hz (by omega)
  have z2 : zL tSpan (fs.getD 2 []) ≤ 1048576 := zL_at hz (by omega)
  have HVB := Lib.hid hvb
  have V0 := Lib.hid (hcell 0 (by omega)); have V1 := Lib.hid (hcell 1 (by omega)); have V2 := Lib.hid (hcell 2 (by omega))
  rw [hv] at *
  have F0 := Lib.hid (fun w g => implFindSpan s0 (fs.getD 0 []) (vs.getD 0 0) w g (by rw [← zL_spans]; exact z0))
  have F1 := Lib.hid (fun w g => implFindSpan s1 (fs.getD 1 []) (vs.getD 1 0) w g (by rw [← zL_spans]; exact z1))
  have F2 := Lib.hid (fun w g => implFindSpan s2 (fs.getD 2 []) (vs.getD 2 0) w g (by rw [← zL_spans]; exact z2))
  have M0 := Lib.hid (fun u w g => implMaskOf u (findL (fs.getD 0 []) (vs.getD 0 0)) w g (by have := findL_len3 (v := vs.getD 0 0) z0; omega))
  have M1 := Lib.hid (fun u w g => implMaskOf u (findL (fs.getD 1 []) (vs.getD 1 0)) w g (by have := findL_len3 (v := vs.getD 1 0) z1; omega))
  have M2 := Lib.hid (fun u w g => implMaskOf u (findL (fs.getD 2 []) (vs.getD 2 0)) w g (by have := findL_len3 (v := vs.getD 2 0) z2; omega))
  change Hid (∀ u w, Ints w u _ → Calls Tryd.prog _ #[u] w fun e w' => e = .returned (.tuple #[.int .u32 ((setM fs vs 0 : Nat) : Int), .bool _]) ∧ _) at M0
  change Hid (∀ u w, Ints w u _ → Calls Tryd.prog _ #[u] w fun e w' => e = .returned (.tuple #[.int .u32 ((setM fs vs 1 : Nat) : Int), .bool _]) ∧ _) at M1
  change Hid (∀ u w, Ints w u _ → Calls Tryd.prog _ #[u] w fun e w' => e = .returned (.tuple #[.int .u32 ((setM fs vs 2 : Nat) : Int), .bool _]) ∧ _) at M2
  clear hc h hz hf hv hcell hvb z0 z1 z2
  generalize setM fs vs 0 = m0 at *
  generalize setM fs vs 1 = m1 at *
  generalize setM fs vs 2 = m2 at *
  generalize vs.getD 0 0 = x0 at *
  generalize vs.getD 1 0 = x1 at *
  generalize vs.getD 2 0 = x2 at *
  have j0 := idxS0 s0 s1 s2
  have j1 := idxS1 s0 s1 s2
  have j2 := idxS2 s0 s1 s2
  go_enter Tryd.func62, Tryd.ntmps62
  go_wp2
  have d := Lib.hid (((((Below.refl w.heap.size w).alloc (Nat.le_refl _) (.cells #[.int .u32 (m : Int), s0, s1, s2] 96)).alloc (by simp) (.cells #[.int .i64 rid, .slice (some ⟨vb, vo, none⟩) 3 vc] 30)).alloc (by simp <;> omega) (.cells #[.int .u32 0, .int .u32 0, .int .u32 0] 106)).alloc (by simp <;> omega) (.cells #[.int .u32 0, .int .u32 0, .int .u32 0] 106))
  have B1 : Hid (((((w.alloc (.cells #[.int .u32 (m : Int), s0, s1, s2] 96)).alloc (.cells #[.int .i64 rid, .slice (some ⟨vb, vo, none⟩) 3 vc] 30)).alloc (.cells #[.int .u32 0, .int .u32 0, .int .u32 0] 106)).alloc (.cells #[.int .u32 0, .int .u32 0, .int .u32 0] 106)).heap[(w.heap.size + 1)]? = some (.cells #[.int .i64 rid, .slice (some ⟨vb, vo, none⟩) 3 vc] 30 (0, 0))) := Lib.hid (by
    rw [Below.heap_alloc _ _ _ (by simp <;> omega), Below.heap_alloc _ _ _ (by simp)]
    have := heap_alloc_new (w.alloc (.cells #[.int .u32 (m : Int), s0, s1, s2] 96)) (.cells #[.int .i64 rid, .slice (some ⟨vb, vo, none⟩) 3 vc] 30)
    simpa only [World.size_alloc] using this)
  have B2 : Hid (((((w.alloc (.cells #[.int .u32 (m : Int), s0, s1, s2] 96)).alloc (.cells #[.int .i64 rid, .slice (some ⟨vb, vo, none⟩) 3 vc] 30)).alloc (.cells #[.int .u32 0, .int .u32 0, .int .u32 0] 106)).alloc (.cells #[.int .u32 0, .int .u32 0, .int .u32 0] 106)).heap[(w.heap.size + 1 + 1)]? = some (.cells #[.int .u32 0, .int .u32 0, .int .u32 0] 106 (0, 0))) := Lib.hid (by
    rw [Below.heap_alloc _ _ _ (by simp)]
    have := heap_alloc_new ((w.alloc (.cells #[.int .u32 (m : Int), s0, s1, s2] 96)).alloc (.cells #[.int .i64 rid, .slice (some ⟨vb, vo, none⟩) 3 vc] 30)) (.cells #[.int .u32 0, .int .u32 0, .int .u32 0] 106)
    simpa only [World.size_alloc] using this)
  have B3 : Hid (((((w.alloc (.cells #[.int .u32 (m : Int), s0, s1, s2] 96)).alloc (.cells #[.int .i64 rid, .slice (some ⟨vb, vo, none⟩) 3 vc] 30)).alloc (.cells #[.int .u32 0, .int .u32 0, .int .u32 0] 106)).alloc (.cells #[.int .u32 0, .int .u32 0, .int .u32 0] 106)).heap[(w.heap.size + 1 + 1 + 1)]? = some (.cells #[.int .u32 0, .int .u32 0, .int .u32 0] 106 (0, 0))) := Lib.hid (by
    have := heap_alloc_new (((w.alloc (.cells #[.int .u32 (m : Int), s0, s1, s2] 96)).alloc (.cells #[.int .i64 rid, .slice (some ⟨vb, vo, none⟩) 3 vc] 30)).alloc (.cells #[.int .u32 0, .int .u32 0, .int .u32 0] 106)) (.cells #[.int .u32 0, .int .u32 0, .int .u32 0] 106)
    simpa only [World.size_alloc] using this)
  generalize ((((w.alloc (.cells #[.int .u32 (m : Int), s0, s1, s2] 96)).alloc (.cells #[.int .i64 rid, .slice (some ⟨vb, vo, none⟩) 3 vc] 30)).alloc (.cells #[.int .u32 0, .int .u32 0, .int .u32 0] 106)).alloc (.cells #[.int .u32 0, .int .u32 0, .int .u32 0] 106)) = W at *
  refine wp_loop_rounds 4 ?_
  rw [rounds_succ]
  have i0 : (0 : Int) ≤ 0 := by decide
  have q0 := (d.out.cell (p := ⟨vb, vo, none⟩) HVB.out).trans V0.out
  have q1 := (cell_of_row W _ 1 _ _ _ B1.out).trans (show _ = some (Value.slice (some ⟨vb, vo, none⟩) 3 vc) from rfl)
  go_wp2_with fail
  clear q0 q1 i0
  refine (F0.out W (slR_spans (ci_below HI.out d.out).1)).mono ?_
  rintro e wa0 ⟨u0, rfl, ou, c4⟩
  replace B1 := Lib.hid ((c4.block (w.heap.size + 1) (Array.getElem?_eq_some_iff.1 B1.out).1).trans B1.out)
  replace B2 := Lib.hid ((c4.block (w.heap.size + 1 + 1) (Array.getElem?_eq_some_iff.1 B2.out).1).trans B2.out)
  replace B3 := Lib.hid ((c4.block (w.heap.size + 1 + 1 + 1) (Array.getElem?_eq_some_iff.1 B3.out).1).trans B3.out)
  replace d := Lib.hid (d.out.trans (c4.mono d.out.size))
  have Z_wa0 := Lib.hid (show W.heap.size ≤ wa0.heap.size from c4.size)
  clear c4
  go_wp2_with fail
  refine (M0.out u0 wa0 (ownsN_ints ou)).mono ?_
  rintro e wb0 ⟨rfl, c5⟩
  replace B1 := Lib.hid ((c5.block (w.heap.size + 1) (Array.getElem?_eq_some_iff.1 B1.out).1).trans B1.out)
  replace B2 := Lib.hid ((c5.block (w.heap.size + 1 + 1) (Array.getElem?_eq_some_iff.1 B2.out).1).trans B2.out)
  replace B3 := Lib.hid ((c5.block (w.heap.size + 1 + 1 + 1) (Array.getElem?_eq_some_iff.1 B3.out).1).trans B3.out)
  replace d := Lib.hid (d.out.trans (c5.mono d.out.size))
  have Z_wb0 := Lib.hid (show wa0.heap.size ≤ wb0.heap.size from c5.size)
  clear c5 ou
  have f0 := frozen_of_row wb0 _ 0 _ _ B3.out
  have r0 := (cell_of_row wb0 _ 0 _ _ _ B3.out).trans (show _ = some (Value.int .u32 0) from rfl)
  go_wp2
  clear f0 r0
  have yd := d.out.size
  have tt : Turn (fun b => b = w.heap.size + 1 + 1 + 1) wb0 (wb0.setCell ⟨w.heap.size + 1 + 1 + 1, 0, none⟩ (.int .u32 (m0 : Int))) := turn_set (G := fun b => b = w.heap.size + 1 + 1 + 1) (g := w.heap.size + 1 + 1 + 1) (j := 0) (u := .int .u32 (m0 : Int)) rfl
  have r := heap_setCell_same wb0 (w.heap.size + 1 + 1 + 1) 0 _ _ (.int .u32 (m0 : Int)) B3.out
  have hb1 := (Array.getElem?_eq_some_iff.1 B1.out).1; have hb2 := (Array.getElem?_eq_some_iff.1 B2.out).1
  replace B3 : Hid ((wb0.setCell ⟨w.heap.size + 1 + 1 + 1, 0, none⟩ (.int .u32 (m0 : Int))).heap[(w.heap.size + 1 + 1 + 1)]? = some (.cells #[.int .u32 (m0 : Int), .int .u32 0, .int .u32 0] 106 (0, 0))) := Lib.hid (by simpa using r)
  replace B1 := Lib.hid ((tt.block (w.heap.size + 1) hb1 (fun h => by omega)).trans B1.out)
  replace B2 := Lib.hid ((tt.block (w.heap.size + 1 + 1) hb2 (fun h => by omega)).trans B2.out)
  replace d := Lib.hid (below_turn d.out tt (fun b h => by omega) d.out.size)
  clear tt r yd hb1 hb2
  generalize (wb0.setCell ⟨w.heap.size + 1 + 1 + 1, 0, none⟩ (.int .u32 (m0 : Int))) = W2 at *
  rw [rounds_succ]
  have i0 : (0 : Int) ≤ 1 := by decide
  have q0 := (d.out.cell (p := ⟨vb, vo + 1, none⟩) HVB.out).trans V1.out
  have q1 := (cell_of_row W2 _ 1 _ _ _ B1.out).trans (show _ = some (Value.slice (some ⟨vb, vo, none⟩) 3 vc) from rfl)
  go_wp2_with fail
  clear q0 q1 i0
  refine (F1.out W2 (slR_spans (ci_below HI.out d.out).2.1)).mono ?_
  rintro e wa1 ⟨u1, rfl, ou, c4⟩
  replace B1 := Lib.hid ((c4.block (w.heap.size + 1) (Array.getElem?_eq_some_iff.1 B1.out).1).trans B1.out)
  replace B2 := Lib.hid ((c4.block (w.heap.size + 1 + 1) (Array.getElem?_eq_some_iff.1 B2.out).1).trans B2.out)
  replace B3 := Lib.hid ((c4.block (w.heap.size + 1 + 1 + 1) (Array.getElem?_eq_some_iff.1 B3.out).1).trans B3.out)
  replace d := Lib.hid (d.out.trans (c4.mono d.out.size))
  have Z_wa1 := Lib.hid (show W2.heap.size ≤ wa1.heap.size from c4.size)
  clear c4
  go_wp2_with fail
  refine (M1.out u1 wa1 (ownsN_ints ou)).mono ?_
  rintro e wb1 ⟨rfl, c5⟩
  replace B1 := Lib.hid ((c5.block (w.heap.size + 1) (Array.getElem?_eq_some_iff.1 B1.out).1).trans B1.out)
  replace B2 := Lib.hid ((c5.block (w.heap.size + 1 + 1) (Array.getElem?_eq_some_iff.1 B2.out).1).trans B2.out)
  replace B3 := Lib.hid ((c5.block (w.heap.size + 1 + 1 + 1) (Array.getElem?_eq_some_iff.1 B3.out).1).trans B3.out)
  replace d := Lib.hid (d.out.trans (c5.mono d.out.size))
  have Z_wb1 := Lib.hid (show wa1.heap.size ≤ wb1.heap.size from c5.size)
  clear c5 ou
  have f0 := frozen_of_row wb1 _ 1 _ _ B3.out
  have r0 := (cell_of_row wb1 _ 1 _ _ _ B3.out).trans (show _ = some (Value.int .u32 0) from rfl)
  go_wp2
  clear f0 r0
  have yd := d.out.size
  have tt : Turn (fun b => b = w.heap.size + 1 + 1 + 1) wb1 (wb1.setCell ⟨w.heap.size + 1 + 1 + 1, 1, none⟩ (.int .u32 (m1 : Int))) := turn_set (G := fun b => b = w.heap.size + 1 + 1 + 1) (g := w.heap.size + 1 + 1 + 1) (j := 1) (u := .int .u32 (m1 : Int)) rfl
  have r := heap_setCell_same wb1 (w.heap.size + 1 + 1 + 1) 1 _ _ (.int .u32 (m1 : Int)) B3.out
  have hb1 := (Array.getElem?_eq_some_iff.1 B1.out).1; have hb2 := (Array.getElem?_eq_some_iff.1 B2.out).1
  replace B3 : Hid ((wb1.setCell ⟨w.heap.size + 1 + 1 + 1, 1, none⟩ (.int .u32 (m1 : Int))).heap[(w.heap.size + 1 + 1 + 1)]? = some (.cells #[.int .u32 (m0 : Int), .int .u32 (m1 : Int), .int .u32 0] 106 (0, 0))) := Lib.hid (by simpa using r)
  replace B1 := Lib.hid ((tt.block (w.heap.size + 1) hb1 (fun h => by omega)).trans B1.out)
  replace B2 := Lib.hid ((tt.block (w.heap.size + 1 + 1) hb2 (fun h => by omega)).trans B2.out)
  replace d := Lib.hid (below_turn d.out tt (fun b h => by omega) d.out.size)
  clear tt r yd hb1 hb2
  generalize (wb1.setCell ⟨w.heap.size + 1 + 1 + 1, 1, none⟩ (.int .u32 (m1 : Int))) = W3 at *
  rw [rounds_succ]
  have i0 : (0 : Int) ≤ 2 := by decide
  have q0 := (d.out.cell (p := ⟨vb, vo + 2, none⟩) HVB.out).trans V2.out
  have q1 := (cell_of_row W3 _ 1 _ _ _ B1.out).trans (show _ = some (Value.slice (some ⟨vb, vo, none⟩) 3 vc) from rfl)
  go_wp2_with fail
  clear q0 q1 i0
  refine (F2.out W3 (slR_spans (ci_below HI.out d.out).2.2)).mono ?_
  rintro e wa2 ⟨u2, rfl, ou, c4⟩
  replace B1 := Lib.hid ((c4.block (w.heap.size + 1) (Array.getElem?_eq_some_iff.1 B1.out).1).trans B1.out)
  replace B2 := Lib.hid ((c4.block (w.heap.size + 1 + 1) (Array.getElem?_eq_some_iff.1 B2.out).1).trans B2.out)
  replace B3 := Lib.hid ((c4.block (w.heap.size + 1 + 1 + 1) (Array.getElem?_eq_some_iff.1 B3.out).1).trans B3.out)
  replace d := Lib.hid (d.out.trans (c4.mono d.out.size))
  have Z_wa2 := Lib.hid (show W3.heap.size ≤ wa2.heap.size from c4.size)
  clear c4
  go_wp2_with fail
  refine (M2.out u2 wa2 (ownsN_ints ou)).mono ?_
  rintro e wb2 ⟨rfl, c5⟩
  replace B1 := Lib.hid ((c5.block (w.heap.size + 1) (Array.getElem?_eq_some_iff.1 B1.out).1).trans B1.out)
  replace B2 := Lib.hid ((c5.block (w.heap.size + 1 + 1) (Array.getElem?_eq_some_iff.1 B2.out).1).trans B2.out)
  replace B3 := Lib.hid ((c5.block (w.heap.size + 1 + 1 + 1) (Array.getElem?_eq_some_iff.1 B3.out).1).trans B3.out)
  replace d := Lib.hid (d.out.trans (c5.mono d.out.size))
  have Z_wb2 := Lib.hid (show wa2.heap.size ≤ wb2.heap.size from c5.size)
  clear c5 ou
  have f0 := frozen_of_row wb2 _ 2 _ _ B3.out
  have r0 := (cell_of_row wb2 _ 2 _ _ _ B3.out).trans (show _ = some (Value.int .u32 0) from rfl)
  go_wp2
  clear f0 r0
  have yd := d.out.size
  have tt : Turn (fun b => b = w.heap.size + 1 + 1 + 1) wb2 (wb2.setCell ⟨w.heap.size + 1 + 1 + 1, 2, none⟩ (.int .u32 (m2 : Int))) := turn_set (G := fun b => b = w.heap.size + 1 + 1 + 1) (g := w.heap.size + 1 + 1 + 1) (j := 2) (u := .int .u32 (m2 : Int)) rfl
  have r := heap_setCell_same wb2 (w.heap.size + 1 + 1 + 1) 2 _ _ (.int .u32 (m2 : Int)) B3.out
  have hb1 := (Array.getElem?_eq_some_iff.1 B1.out).1; have hb2 := (Array.getElem?_eq_some_iff.1 B2.out).1
  replace B3 : Hid ((wb2.setCell ⟨w.heap.size + 1 + 1 + 1, 2, none⟩ (.int .u32 (m2 : Int))).heap[(w.heap.size + 1 + 1 + 1)]? = some (.cells #[.int .u32 (m0 : Int), .int .u32 (m1 : Int), .int .u32 (m2 : Int)] 106 (0, 0))) := Lib.hid (by simpa using r)
  replace B1 := Lib.hid ((tt.block (w.heap.size + 1) hb1 (fun h => by omega)).trans B1.out)
  replace B2 := Lib.hid ((tt.block (w.heap.size + 1 + 1) hb2 (fun h => by omega)).trans B2.out)
  replace d := Lib.hid (below_turn d.out tt (fun b h => by omega) d.out.size)
  clear tt r yd hb1 hb2
  generalize (wb2.setCell ⟨w.heap.size + 1 + 1 + 1, 2, none⟩ (.int .u32 (m2 : Int))) = W4 at *
  rw [rounds_succ]
  have p_B3_0 := (cell_of_row W4 _ 0 _ _ _ B3.out).trans (show _ = some (Value.int .u32 (m0 : Int)) from rfl)
  have p_B3_1 := (cell_of_row W4 _ 1 _ _ _ B3.out).trans (show _ = some (Value.int .u32 (m1 : Int)) from rfl)
  have p_B3_2 := (cell_of_row W4 _ 2 _ _ _ B3.out).trans (show _ = some (Value.int .u32 (m2 : Int)) from rfl)
  have p_B2_0 := (cell_of_row W4 _ 0 _ _ _ B2.out).trans (show _ = some (Value.int .u32 0) from rfl)
  have p_B2_1 := (cell_of_row W4 _ 1 _ _ _ B2.out).trans (show _ = some (Value.int .u32 0) from rfl)
  have p_B2_2 := (cell_of_row W4 _ 2 _ _ _ B2.out).trans (show _ = some (Value.int .u32 0) from rfl)
  have f_B2_0 := frozen_of_row W4 _ 0 _ _ B2.out
  have f_B2_1 := frozen_of_row W4 _ 1 _ _ B2.out
  have f_B2_2 := frozen_of_row W4 _ 2 _ _ B2.out
  go_wp2
  have D := Lib.hid (((d.out.setCell (p := ⟨w.heap.size + 1 + 1, 0, none⟩) (by simp <;> omega) (.int .u32 (m0 : Int))).setCell (p := ⟨w.heap.size + 1 + 1, 1, none⟩) (by simp <;> omega) (.int .u32 (m1 : Int))).setCell (p := ⟨w.heap.size + 1 + 1, 2, none⟩) (by simp <;> omega) (.int .u32 (m2 : Int)))
  have r := heap_setCell_same _ (w.heap.size + 1 + 1) 2 _ _ (.int .u32 (m2 : Int)) (heap_setCell_same _ (w.heap.size + 1 + 1) 1 _ _ (.int .u32 (m1 : Int)) (heap_setCell_same W4 (w.heap.size + 1 + 1) 0 _ _ (.int .u32 (m0 : Int)) B2.out))
  simp at r
  have e0 := (cell_of_row _ (w.heap.size + 1 + 1) 0 _ _ _ r).trans (show _ = some (Value.int .u32 (m0 : Int)) from rfl)
  have e1 := (cell_of_row _ (w.heap.size + 1 + 1) 1 _ _ _ r).trans (show _ = some (Value.int .u32 (m1 : Int)) from rfl)
  have e2 := (cell_of_row _ (w.heap.size + 1 + 1) 2 _ _ _ r).trans (show _ = some (Value.int .u32 (m2 : Int)) from rfl)
  clear r
  refine bodyPost_ret (v := .agg #[.int .u32 (m0 : Int), .int .u32 (m1 : Int), .int .u32 (m2 : Int)]) ?_ rfl ⟨rfl, D.out⟩
  simp [results, Tryd.f62, go_sem, e0, e1, e2]
theorem pick_lt {a b c : Nat} (ha : a < 16777216) (hb : b < 16777216) (hc : c < 16777216) (f : Int) : pick3 a b c f < 16777216 := by
  unfold pick3
  split
  · exact ha
  · split
    · exact hb
    · exact hc
theorem pair_wi {R : Nat × Int} {m : Nat} {n : Int} (h : R = (m, n)) : Ending.returned (.tuple #[.int .u32 (m : Int), .int .i64 n]) = .returned (.tuple #[.int .u32 ((R.1 : Nat) : Int), .int .i64 R.2]) := by rw [h]
/-- What is left of three fields after k of them. -/
def dropF (x0 x1 x2 : Int) (k : Nat) : List Int := [x0, x1, x2].drop k
theorem probeM_stop {s : Int → Nat} {os : List Int} {work : Int} : probeM s os 0 work = (0, work) := by
  cases os with
  | nil => rfl
  | cons f os => unfold probeM; rfl
theorem probeM_go {s : Int → Nat} {f : Int} {os : List Int} {m : Nat} {work : Int} (h : ¬ m = 0) : probeM s (f :: os) m work = probeM s os (m &&& s f) (work + 1 + ((min (cntM m) (cntM (s f)) : Nat) : Int)) := by
  rw [probeM, if_neg h]
set_option maxHeartbeats 16000000 in
set_option maxRecDepth 100000 in
theorem implProbe (m : Nat) (s0 s1 s2 : Value) (a b c : Nat) (x0 x1 x2 : Int) (w : World) (hm : m < 16777216) (ha : a < 16777216) (hb : b < 16777216) (hc : c < 16777216) (h0 : 0 ≤ x0 ∧ x0 ≤ 2) (h1 : 0 ≤ x1 ∧ x1 ≤ 2) (h2 : 0 ≤ x2 ∧ x2 ≤ 2) :
    Calls Tryd.prog 61 #[ciV m s0 s1 s2, .agg #[.int .u32 (a : Int), .int .u32 (b : Int), .int .u32 (c : Int)], .agg #[.int .i64 x0, .int .i64 x1, .int .i64 x2]] w fun e w' =>
      e = .returned (.tuple #[.int .u32 (((probeM (pick3 a b c) [x0, x1, x2] m 0).1 : Nat) : Int), .int .i64 (probeM (pick3 a b c) [x0, x1, x2] m 0).2]) ∧ Below w.heap.size w w' := by
  obtain ⟨R, hR⟩ : ∃ R, R = probeM (pick3 a b c) [x0, x1, x2] m 0 := ⟨_, rfl⟩
  rw [← hR]
  have HR := Lib.hid hR
  have HL : Hid (∀ f, pick3 a b c f < 16777216) := Lib.hid (pick_lt ha hb hc)
  have HM := Lib.hid hm
  have d := Lib.hid ((((Below.refl w.heap.size w).alloc (Nat.le_refl _) (.cells #[.int .u32 (m : Int), s0, s1, s2] 96)).alloc (by simp) (.cells #[.int .u32 (a : Int), .int .u32 (b : Int), .int .u32 (c : Int)] 106)).alloc (by simp <;> omega) (.cells #[.int .i64 x0, .int .i64 x1, .int .i64 x2] 100))
  have B0 : Hid ((((w.alloc (.cells #[.int .u32 (m : Int), s0, s1, s2] 96)).alloc (.cells #[.int .u32 (a : Int), .int .u32 (b : Int), .int .u32 (c : Int)] 106)).alloc (.cells #[.int .i64 x0, .int .i64 x1, .int .i64 x2] 100)).heap[w.heap.size]? = some (.cells #[.int .u32 (m : Int), s0, s1, s2] 96 (0, 0))) := Lib.hid (by
    rw [Below.heap_alloc _ _ _ (by simp <;> omega), Below.heap_alloc _ _ _ (by simp)]
    exact heap_alloc_new w _)
  have B1 : Hid ((((w.alloc (.cells #[.int .u32 (m : Int), s0, s1, s2] 96)).alloc (.cells #[.int .u32 (a : Int), .int .u32 (b : Int), .int .u32 (c : Int)] 106)).alloc (.cells #[.int .i64 x0, .int .i64 x1, .int .i64 x2] 100)).heap[(w.heap.size + 1)]? = some (.cells #[.int .u32 (a : Int), .int .u32 (b : Int), .int .u32 (c : Int)] 106 (0, 0))) := Lib.hid (by
    rw [Below.heap_alloc _ _ _ (by simp)]
    have := heap_alloc_new (w.alloc (.cells #[.int .u32 (m : Int), s0, s1, s2] 96)) (.cells #[.int .u32 (a : Int), .int .u32 (b : Int), .int .u32 (c : Int)] 106)
    simpa only [World.size_alloc] using this)
  have B2 : Hid ((((w.alloc (.cells #[.int .u32 (m : Int), s0, s1, s2] 96)).alloc (.cells #[.int .u32 (a : Int), .int .u32 (b : Int), .int .u32 (c : Int)] 106)).alloc (.cells #[.int .i64 x0, .int .i64 x1, .int .i64 x2] 100)).heap[(w.heap.size + 1 + 1)]? = some (.cells #[.int .i64 x0, .int .i64 x1, .int .i64 x2] 100 (0, 0))) := Lib.hid (by
    have := heap_alloc_new ((w.alloc (.cells #[.int .u32 (m : Int), s0, s1, s2] 96)).alloc (.cells #[.int .u32 (a : Int), .int .u32 (b : Int), .int .u32 (c : Int)] 106)) (.cells #[.int .i64 x0, .int .i64 x1, .int .i64 x2] 100)
    simpa only [World.size_alloc] using this)
  have HX : Hid (∀ k, k < 3 → ∃ f : Nat, f < 3 ∧ dropF x0 x1 x2 k = (f : Int) :: dropF x0 x1 x2 (k + 1) ∧ (∀ w, Sem.run Tryd.prog (Instr.index 100 (.agg #[.int .i64 x0, .int .i64 x1, .int .i64 x2]) (.int .i64 (k : Int))) w = .ok (.int .i64 (f : Int)) w) ∧ ∀ W : World, W.heap[(w.heap.size + 1)]? = some (.cells #[.int .u32 (a : Int), .int .u32 (b : Int), .int .u32 (c : Int)] 106 (0, 0)) → W.cell? ⟨w.heap.size + 1, f, none⟩ = some (.int .u32 ((pick3 a b c (f : Int) : Nat) : Int))) := Lib.hid (by
    have pk : ∀ f : Nat, f < 3 → ∀ W : World, W.heap[(w.heap.size + 1)]? = some (.cells #[.int .u32 (a : Int), .int .u32 (b : Int), .int .u32 (c : Int)] 106 (0, 0)) → W.cell? ⟨w.heap.size + 1, f, none⟩ = some (.int .u32 ((pick3 a b c (f : Int) : Nat) : Int)) := by
      intro f hf W hW
      rw [cell_of_row W _ f _ _ _ hW]
      rcases (show f = 0 ∨ f = 1 ∨ f = 2 by omega) with rfl | rfl | rfl <;> rfl
    intro k hk
    rcases (show k = 0 ∨ k = 1 ∨ k = 2 by omega) with rfl | rfl | rfl
    · exact ⟨x0.toNat, by omega, by show [x0, x1, x2] = _ :: [x1, x2]; rw [Int.toNat_of_nonneg h0.1], fun w => by rw [Int.toNat_of_nonneg h0.1]; exact idxP0 x0 x1 x2 w, fun W hW => pk _ (by omega) W hW⟩
    · exact ⟨x1.toNat, by omega, by show [x1, x2] = _ :: [x2]; rw [Int.toNat_of_nonneg h1.1], fun w => by rw [Int.toNat_of_nonneg h1.1]; exact idxP1 x0 x1 x2 w, fun W hW => pk _ (by omega) W hW⟩
    · exact ⟨x2.toNat, by omega, by show [x2] = _ :: []; rw [Int.toNat_of_nonneg h2.1], fun w => by rw [Int.toNat_of_nonneg h2.1]; exact idxP2 x0 x1 x2 w, fun W hW => pk _ (by omega) W hW⟩)
  clear hm ha hb hc h0 h1 h2 hR
  go_enter Tryd.func61, Tryd.ntmps61
  go_wp2_with fail
  generalize (((w.alloc (.cells #[.int .u32 (m : Int), s0, s1, s2] 96)).alloc (.cells #[.int .u32 (a : Int), .int .u32 (b : Int), .int .u32 (c : Int)] 106)).alloc (.cells #[.int .i64 x0, .int .i64 x1, .int .i64 x2] 100)) = W at *
  have p0 := (cell_of_row W _ 0 _ _ _ B0.out).trans (show _ = some (Value.int .u32 (m : Int)) from rfl)
  have p1 := (cell_of_row W _ 0 _ _ _ B2.out).trans (show _ = some (Value.int .i64 x0) from rfl)
  have p2 := (cell_of_row W _ 1 _ _ _ B2.out).trans (show _ = some (Value.int .i64 x1) from rfl)
  have p3 := (cell_of_row W _ 2 _ _ _ B2.out).trans (show _ = some (Value.int .i64 x2) from rfl)
  go_wp2
  clear p0 p1 p2 p3 B0 B2
  go_loopw [8, 9, 15] (fun r n i wr => ∃ (k m' : Nat) (work : Int), k ≤ 3 ∧ i = .int .i64 k ∧ r = .int .u32 (m' : Int) ∧ n = .int .i64 work ∧ Hid (m' < 16777216) ∧ Hid (0 ≤ work ∧ work ≤ 25 * k) ∧ Hid (probeM (pick3 a b c) (dropF x0 x1 x2 k) m' work = R) ∧ Hid (wr.heap[(w.heap.size + 1)]? = some (.cells #[.int .u32 (a : Int), .int .u32 (b : Int), .int .u32 (c : Int)] 106 (0, 0))) ∧ Hid (Below w.heap.size w wr)) (fun _ _ i _ => 3 - (intOf i).toNat)
  case atStart => exact ⟨0, m, 0, by omega, rfl, rfl, rfl, HM, Lib.hid ⟨by omega, by omega⟩, Lib.hid HR.out.symm, B1, d⟩
  case round =>
    clear B1 d HM
    obtain ⟨k, m', work, hk, rfl, rfl, rfl, HM, HW, HP, B1, d⟩ := hrel
    by_cases hlt : k < 3
    · obtain ⟨f, hf, hdr, hI, hcl⟩ := HX.out k hlt
      have i1 : (0 : Int) ≤ (k : Int) := by omega
      have i2 : (k : Int) < 3 := by omega
      by_cases hz : m' = 0
      · have hz2 : ((m' : Int) == 0) = true := by rw [hz]; rfl
        have HE : Hid (R = (m', work)) := Lib.hid (by have := HP.out; rw [hz] at this ⊢; rw [← this]; exact probeM_stop)
        clear hz HP hdr hcl
        go_wp2
        go_ret2
        exact ⟨pair_wi HE.out, d.out⟩
      · have hz2 : ((m' : Int) == 0) = false := by rw [beq_eq_false_iff_ne]; omega
        have HN : Hid (probeM (pick3 a b c) (dropF x0 x1 x2 (k + 1)) (m' &&& pick3 a b c (f : Int)) (work + 1 + ((min (cntM m') (cntM (pick3 a b c (f : Int))) : Nat) : Int)) = R) := Lib.hid (by have := HP.out; rw [hdr, probeM_go hz] at this; exact this)
        have HC := Lib.hid hcl
        have HQ := Lib.hid (HL.out (f : Int))
        have HC1 := Lib.hid (fun w => maskCount m' HM.out w)
        have HC2 := Lib.hid (fun w => maskCount (pick3 a b c (f : Int)) HQ.out w)
        have j1 : (0 : Int) ≤ (f : Int) := by omega
        have j2 : (f : Int) < 3 := by omega
        have HA : Hid (bits .and .u32 (m' : Int) ((pick3 a b c (f : Int) : Nat) : Int) = ((m' &&& pick3 a b c (f : Int) : Nat) : Int)) := Lib.hid (and_u32 _ _ (by have := HM.out; omega) (by have := HQ.out; omega))
        have HLT : Hid (m' &&& pick3 a b c (f : Int) < 16777216) := Lib.hid (Nat.lt_of_le_of_lt Nat.and_le_left HM.out)
        have l1 := cntM_le m'
        have l2 := cntM_le (pick3 a b c (f : Int))
        clear hz HP hdr hcl
        generalize pick3 a b c (f : Int) = t at *
        generalize m' &&& t = m2 at *
        generalize cntM m' = n1 at *
        generalize cntM t = n2 at *
        have hw1 := HW.out.1
        have hw2 : work ≤ 50 := by have := HW.out.2; omega
        have hmn : min (n1 : Int) (n2 : Int) = ((min n1 n2 : Nat) : Int) := by omega
        have hmm : min n1 n2 ≤ 24 := by omega
        have HMN := Lib.hid hmn
        clear hmn
        go_wp2
        have p_el := HC.out wr B1.out
        refine wp_region_held_drew (S := fun w' => w'.cell? ⟨w.heap.size + 1, f, none⟩ = some (Value.int .u32 (t : Int))) (by kernel_rfl) p_el (fun hHeld => ?_)
        clear p_el
        have cdr : Below wr.heap.size wr wr.drew := below_drew (Below.refl _ _)
        replace B1 := Lib.hid ((cdr.block (w.heap.size + 1) (Array.getElem?_eq_some_iff.1 B1.out).1).trans B1.out)
        replace d := Lib.hid (d.out.trans (cdr.mono d.out.size))
        clear cdr
        refine take_runs (i := 0) (v := ?_) (by simp only [List.getElem?_toArray, List.getElem?_cons_succ, List.getElem?_cons_zero]; rfl) (by kernel_rfl) (by kernel_rfl) (by kernel_rfl) rfl (by exact fun _ _ _ h => h) (by rfl) ?_ (by assumption) ?_
        rotate_left
        · intro w hSw; (try dsimp only at hSw); go_simp; try (with_reducible rfl)
        try simp only [Act.put, List.setIfInBounds_toArray, List.set_cons_zero, List.set_cons_succ]
        refine take_runs (i := 1) (v := ?_) (by simp only [List.getElem?_toArray, List.getElem?_cons_succ, List.getElem?_cons_zero]; rfl) (by kernel_rfl) (by kernel_rfl) (by kernel_rfl) rfl (by exact fun _ _ _ h => h) (by rfl) ?_ (by assumption) ?_
        rotate_left
        · intro w hSw; (try dsimp only at hSw); go_simp; try (with_reducible rfl)
        try simp only [Act.put, List.setIfInBounds_toArray, List.set_cons_zero, List.set_cons_succ]
        refine take_runs (i := 3) (v := ?_) (by simp only [List.getElem?_toArray, List.getElem?_cons_succ, List.getElem?_cons_zero]; rfl) (by kernel_rfl) (by kernel_rfl) (by kernel_rfl) rfl (by exact fun _ _ _ h => h) (by rfl) ?_ (by assumption) ?_
        rotate_left
        · intro w hSw; (try dsimp only at hSw); go_simp; try (with_reducible rfl)
        try simp only [Act.put, List.setIfInBounds_toArray, List.set_cons_zero, List.set_cons_succ]
        refine take_runs (i := 4) (v := ?_) (by simp only [List.getElem?_toArray, List.getElem?_cons_succ, List.getElem?_cons_zero]; rfl) (by kernel_rfl) (by kernel_rfl) (by kernel_rfl) rfl (by exact fun _ _ _ h => h) (by rfl) ?_ (by assumption) ?_
        rotate_left
        · intro w hSw; (try dsimp only at hSw); go_simp; try (with_reducible rfl)
        try simp only [Act.put, List.setIfInBounds_toArray, List.set_cons_zero, List.set_cons_succ]
        refine take_runs (i := 5) (v := ?_) (by simp only [List.getElem?_toArray, List.getElem?_cons_succ, List.getElem?_cons_zero]; rfl) (by kernel_rfl) (by kernel_rfl) (by kernel_rfl) rfl (by exact fun _ _ _ h => h) (by rfl) ?_ (by assumption) ?_
        rotate_left
        · intro w hSw; (try dsimp only at hSw); go_simp; try (with_reducible rfl)
        try simp only [Act.put, List.setIfInBounds_toArray, List.set_cons_zero, List.set_cons_succ]
        refine wpAnyH_ready (rs := [2]) (by kernel_rfl) (by simp) ?_
        refine (AllReadyH.cons (o := _) (by simp only [List.getElem?_toArray, List.getElem?_cons_succ, List.getElem?_cons_zero]; rfl) (fun K hK => ?_) AllReadyH.nil)
        go_simp
        refine (HC1.out _).mono ?_
        rintro e wc1 ⟨rfl, c1⟩
        replace B1 := Lib.hid ((c1.block (w.heap.size + 1) (Array.getElem?_eq_some_iff.1 B1.out).1).trans B1.out)
        replace d := Lib.hid (d.out.trans (c1.mono d.out.size))
        have Z_wc1 := Lib.hid (show wr.heap.size ≤ wc1.heap.size from c1.size)
        clear c1
        have p_el := HC.out wc1 B1.out
        refine hK.out _ _ p_el (fun hHeld => ?_)
        clear p_el
        clear hK K
        try simp only [Act.put, List.setIfInBounds_toArray, List.set_cons_zero, List.set_cons_succ]
        refine wpAnyH_ready (rs := [6]) (by kernel_rfl) (by simp) ?_
        refine (AllReadyH.cons (o := _) (by simp only [List.getElem?_toArray, List.getElem?_cons_succ, List.getElem?_cons_zero]; rfl) (fun K hK => ?_) AllReadyH.nil)
        go_simp
        refine (HC2.out _).mono ?_
        rintro e wc2 ⟨rfl, c2⟩
        replace B1 := Lib.hid ((c2.block (w.heap.size + 1) (Array.getElem?_eq_some_iff.1 B1.out).1).trans B1.out)
        replace d := Lib.hid (d.out.trans (c2.mono d.out.size))
        have Z_wc2 := Lib.hid (show wc1.heap.size ≤ wc2.heap.size from c2.size)
        clear c2
        have p_el := HC.out wc2 B1.out
        refine hK.out _ _ p_el (fun hHeld => ?_)
        clear p_el
        clear hK K
        try simp only [Act.put, List.setIfInBounds_toArray, List.set_cons_zero, List.set_cons_succ]
        refine take_runs (i := 7) (v := ?_) (by simp only [List.getElem?_toArray, List.getElem?_cons_succ, List.getElem?_cons_zero]; rfl) (by kernel_rfl) (by kernel_rfl) (by kernel_rfl) rfl (by exact fun _ _ _ h => h) (by rfl) ?_ (by assumption) ?_
        rotate_left
        · intro w hSw; (try dsimp only at hSw); go_simp; try (with_reducible rfl)
        try simp only [Act.put, List.setIfInBounds_toArray, List.set_cons_zero, List.set_cons_succ]
        refine take_runs (i := 8) (v := ?_) (by simp only [List.getElem?_toArray, List.getElem?_cons_succ, List.getElem?_cons_zero]; rfl) (by kernel_rfl) (by kernel_rfl) (by kernel_rfl) rfl (by exact fun _ _ _ h => h) (by rfl) ?_ (by assumption) ?_
        rotate_left
        · intro w hSw; (try dsimp only at hSw); go_simp; try (with_reducible rfl)
        try simp only [Act.put, List.setIfInBounds_toArray, List.set_cons_zero, List.set_cons_succ]
        refine take_runs (i := 9) (v := ?_) (by simp only [List.getElem?_toArray, List.getElem?_cons_succ, List.getElem?_cons_zero]; rfl) (by kernel_rfl) (by kernel_rfl) (by kernel_rfl) rfl (by exact fun _ _ _ h => h) (by rfl) ?_ (by assumption) ?_
        rotate_left
        · intro w hSw; (try dsimp only at hSw); go_simp; try (with_reducible rfl)
        try simp only [Act.put, List.setIfInBounds_toArray, List.set_cons_zero, List.set_cons_succ]
        refine take_runs (i := 10) (v := ?_) (by simp only [List.getElem?_toArray, List.getElem?_cons_succ, List.getElem?_cons_zero]; rfl) (by kernel_rfl) (by kernel_rfl) (by kernel_rfl) rfl (by exact fun _ _ _ h => h) (by rfl) ?_ (by assumption) ?_
        rotate_left
        · intro w hSw; (try dsimp only at hSw); go_simp; try (with_reducible rfl)
        try simp only [Act.put, List.setIfInBounds_toArray, List.set_cons_zero, List.set_cons_succ]
        refine wpAnyH_done (by kernel_rfl) ?_ _
        clear hHeld
        clear HC1 HC2
        have p_el := HC.out wc2 B1.out
        have HWV : Hid (IntKind.i64.wrap (work + IntKind.i64.wrap (1 + min (n1 : Int) (n2 : Int))) = work + 1 + ((min n1 n2 : Nat) : Int)) := Lib.hid (by rw [IntWalk.i64_in (1 + min (n1 : Int) (n2 : Int)) (by omega), IntWalk.i64_in _ (by omega)]; omega)
        go_wp2
        clear p_el
        go_roundw
        case rel => exact ⟨k + 1, m2, work + 1 + ((min n1 n2 : Nat) : Int), by omega, by go_num, by rw [HA.out], congrArg (Value.int .i64) HWV.out, HLT, Lib.hid ⟨by omega, by have := HW.out.2; omega⟩, HN, B1, d⟩
        case measure => simp [intOf]; omega
    · obtain rfl : k = 3 := by omega
      have HE : Hid (R = (m', work)) := Lib.hid HP.out.symm
      clear HP
      go_wp2
      go_ret2
      exact ⟨pair_wi HE.out, d.out⟩
end Go.Proofs.YtidhmgboknffkaaDoor
namespace Go.Proofs.YtidhmgboknffkaaDoor
open Go.RowKit
set_option linter.unusedVariables false
theorem bit_div (m k : Nat) : bits .and .u32 ((m : Int) / 2 ^ k) 1 = (((m / 2 ^ k % 2 : Nat)) : Int) ∨ 4294967296 ≤ m := by
  by_cases h : m < 4294967296
  · left
    have hd : (m : Int) / 2 ^ k = ((m / 2 ^ k : Nat) : Int) := by norm_cast
    have hl : m / 2 ^ k < 4294967296 := Nat.lt_of_le_of_lt (Nat.div_le_self _ _) h
    rw [hd, show (1 : Int) = ((1 : Nat) : Int) from rfl, and_u32 _ _ hl (by omega), Nat.and_one_is_mod]
  · right; omega
theorem bit_true {m k : Nat} (hm : m < 16777216) (h : m.testBit k = true) : (bits .and .u32 ((m : Int) / 2 ^ k) 1 == 1) = true := by
  rcases bit_div m k with e | e
  · rw [e]
    rw [Nat.testBit_eq_decide_div_mod_eq] at h
    have := of_decide_eq_true h
    rw [this]; rfl
  · omega
theorem bit_false {m k : Nat} (hm : m < 16777216) (h : m.testBit k = false) : (bits .and .u32 ((m : Int) / 2 ^ k) 1 == 1) = false := by
  rcases bit_div m k with e | e
  · rw [e]
    rw [Nat.testBit_eq_decide_div_mod_eq] at h
    have h1 := of_decide_eq_false h
    have : m / 2 ^ k % 2 = 0 := by omega
    rw [this]; rfl
  · omega
set_option maxHeartbeats 2000000 in
set_option maxRecDepth 100000 in
theorem implMembers (m : Nat) (w : World) (hm : m < 16777216) :
    Calls Tryd.prog 63 #[.int .u32 (m : Nat)] w (Fresh w (memL m)) := by
  obtain ⟨i0, hi, hz0, hz1, hz2⟩ := info_parts Tryd.infoI64
  have HI := Lib.hid hi; have HZ0 := Lib.hid hz0; have HZ1 := Lib.hid hz1; have HZ2 := Lib.hid hz2
  have HM := Lib.hid hm
  clear hi hz0 hz1 hz2 hm
  go_enter Tryd.func63, Tryd.ntmps63
  go_wp2_with fail
  refine (maskCount m HM.out _).mono ?_
  rintro e w1 ⟨rfl, b1⟩
  have hB1 := b1.size
  have hn : cntM m ≤ 24 := memL_le m
  generalize cntM m = n at *
  go_wp2_with (at_make; refine wpList_make_own _ rfl (.const (.int .i64 0)) (.tmp 6) 28 rfl w.heap.size 3 i0 (.int .i64 0) 1 Tryd.underlying28 HI.out HZ0.out HZ1.out _ _ _ n rfl rfl rfl (by rw [HZ2.out]; omega) (by unfold maxLen; omega) hB1 ?_)
  intro w2 hown0 hg0
  have hown1 : OwnsN w2 w.heap.size (.slice (some ⟨w1.heap.size, 0, none⟩) 0 n) (memTo m 0) := hown0
  have hbel1 := b1.trans ((Below.refl w1.heap.size w1).grown hg0 (Nat.le_refl _) (fun k hk => by cases hk) |>.mono hB1)
  clear hown0 hg0 b1
  go_wp2
  go_loopw [3, 8] (fun v i wr => ∃ k : Nat, k ≤ 24 ∧ i = .int .i64 k ∧ OwnsN wr w.heap.size v (memTo m k) ∧ Below w.heap.size w wr) (fun _ i _ => 24 - (intOf i).toNat)
  case atStart => exact ⟨0, Nat.zero_le _, rfl, hown1, hbel1⟩
  case round =>
    obtain ⟨k, hk, rfl, hown, hbel⟩ := hrel
    clear hown1 hbel1
    by_cases hlt : k < 24
    · have HL := Lib.hid (memTo_len m k)
      have hB2 := hbel.size
      have hd : (m : Int) / 2 ^ k = ((m / 2 ^ k : Nat) : Int) := by norm_cast
      clear hd
      cases hb : m.testBit k with
      | true =>
        have HT := Lib.hid (memTo_yes hb)
        have hq := bit_true HM.out hb
        clear hb
        go_wp2_with (at_builtin; refine append_ints rfl (.tmp 16) (.tmp 18) rfl w.heap.size _ _ rfl hown hB2 _ [(k : Int)] 1 _ rfl (by first | rfl | (simp; done)) rfl (by have := HL.out; simp; omega) ?_)
        intro v' w4 hown3 hb3
        rw [← HT.out] at hown3
        have hb4 := hbel.trans hb3
        clear hown hbel hb3
        go_wp2
        go_roundw
        case rel => exact ⟨k + 1, by omega, by go_num, hown3, hb4⟩
        case measure => simp [intOf]; omega
      | false =>
        have HT := Lib.hid (memTo_no hb)
        have hq := bit_false HM.out hb
        clear hb
        rw [← HT.out] at hown
        go_wp2
        go_roundw
        case rel => exact ⟨k + 1, by omega, by go_num, hown, hbel⟩
        case measure => simp [intOf]; omega
    · obtain rfl : k = 24 := by omega
      go_wp2
      go_ret
      exact ⟨_, rfl, hown, hbel⟩
end Go.Proofs.YtidhmgboknffkaaDoor
namespace Go.Proofs.YtidhmgboknffkaaDoor
open Go.RowKit
set_option linter.unusedVariables false
set_option linter.unusedSimpArgs false
/-- The record of a row. -/
def recV (id : Int) (xs : List Int) : Value := .agg #[.int .i64 id, .int .i64 xs.length, .int .i64 (xs.getD 0 0), .int .i64 (xs.getD 1 0), .int .i64 (xs.getD 2 0)]
theorem info_size {P : Program} {e : TypeId} {z : Option Value} {n b : Nat} (h : (P.info? e).map (fun i => (i.zero, i.size, i.bytes)) = some (z, n, b)) : (P.info? e).map (·.size) = some n := by
  cases hq : P.info? e with
  | none => rw [hq] at h; simp at h
  | some i => rw [hq] at h; simp at h; simp [h.2.1]
theorem copy_src {w : World} {a : Option Addr} {cap g : Nat} {xs : List Int} (h : Ints w (.slice a xs.length cap) xs) : 0 < ((xs.take 3).map (Value.int .i64)).length → (some ⟨g, 2, none⟩ : Option Addr) = some ⟨g, 2, none⟩ ∧ ∃ ad, a = some ad ∧ ∀ j v, ((xs.take 3).map (Value.int .i64))[j]? = some v → w.cell? (ad.add j) = some v := by
  intro h0
  refine ⟨rfl, ?_⟩
  rcases h with ⟨rfl, _⟩ | ⟨b, off, cap', e, _, _, hc⟩
  · simp at h0
  · simp only [Value.slice.injEq] at e
    obtain ⟨rfl, _, _⟩ := e
    refine ⟨_, rfl, fun j v hj => ?_⟩
    rw [Go.WideShapes.add_plain]
    rw [List.getElem?_map, List.getElem?_take] at hj
    by_cases hlt : j < 3
    · rw [if_pos hlt] at hj
      by_cases hl : j < xs.length
      · rw [hc j hl]
        rw [List.getElem?_eq_getElem hl] at hj
        simpa [List.getD, hl] using hj
      · rw [List.getElem?_eq_none (by omega)] at hj
        simp at hj
    · rw [if_neg hlt] at hj
      simp at hj
theorem splice_rec (a b : Value) (xs : List Int) : splice [a, b, .int .i64 0, .int .i64 0, .int .i64 0] 2 ((xs.take 3).map (Value.int .i64)) = [a, b, .int .i64 (xs.getD 0 0), .int .i64 (xs.getD 1 0), .int .i64 (xs.getD 2 0)] := by
  match xs with
  | [] => rfl
  | [x] => rfl
  | [x, y] => rfl
  | x :: y :: z :: r => rfl
set_option maxHeartbeats 4000000 in
set_option maxRecDepth 100000 in
theorem recordOf_any (id : Int) (vv : Value) (xs : List Int) (w : World) (h : Ints w vv xs) (hn : xs.length ≤ 1048576) :
    Calls Tryd.prog 110 #[.agg #[.int .i64 id, vv]] w fun e w' => e = .returned (recV id xs) ∧ Below w.heap.size w w' := by
  have H := Lib.hid h
  have HN := Lib.hid hn
  obtain ⟨va, vcap, rfl⟩ := ints_len h
  clear h hn
  go_enter Tryd.func110, Tryd.ntmps110
  go_wp2
  have hh : Below w.heap.size w (((w.alloc (.cells #[.int .i64 id, .slice va xs.length vcap] 30)).alloc (.cells #[.int .i64 0, .int .i64 0, .int .i64 0, .int .i64 0, .int .i64 0] 161)).alloc (.cells #[.int .i64 id, .int .i64 xs.length, .int .i64 0, .int .i64 0, .int .i64 0] 161)) := (((Below.refl _ w).alloc (Nat.le_refl _) _).alloc (by simp) _).alloc (by simp; omega) _
  have g2 : (((w.alloc (.cells #[.int .i64 id, .slice va xs.length vcap] 30)).alloc (.cells #[.int .i64 0, .int .i64 0, .int .i64 0, .int .i64 0, .int .i64 0] 161)).alloc (.cells #[.int .i64 id, .int .i64 xs.length, .int .i64 0, .int .i64 0, .int .i64 0] 161)).heap[w.heap.size + 2]? = some (.cells #[.int .i64 id, .int .i64 xs.length, .int .i64 0, .int .i64 0, .int .i64 0] 161 (0, 0)) := by
    have := heap_alloc_new ((w.alloc (.cells #[.int .i64 id, .slice va xs.length vcap] 30)).alloc (.cells #[.int .i64 0, .int .i64 0, .int .i64 0, .int .i64 0, .int .i64 0] 161)) (.cells #[.int .i64 id, .int .i64 xs.length, .int .i64 0, .int .i64 0, .int .i64 0] 161)
    simpa only [World.size_alloc] using this
  have g1 : (((w.alloc (.cells #[.int .i64 id, .slice va xs.length vcap] 30)).alloc (.cells #[.int .i64 0, .int .i64 0, .int .i64 0, .int .i64 0, .int .i64 0] 161)).alloc (.cells #[.int .i64 id, .int .i64 xs.length, .int .i64 0, .int .i64 0, .int .i64 0] 161)).heap[w.heap.size + 1]? = some (.cells #[.int .i64 0, .int .i64 0, .int .i64 0, .int .i64 0, .int .i64 0] 161 (0, 0)) := by
    rw [Below.heap_alloc _ _ _ (by simp)]
    have := heap_alloc_new (w.alloc (.cells #[.int .i64 id, .slice va xs.length vcap] 30)) (.cells #[.int .i64 0, .int .i64 0, .int .i64 0, .int .i64 0, .int .i64 0] 161)
    simpa only [World.size_alloc] using this
  have g0 : (((w.alloc (.cells #[.int .i64 id, .slice va xs.length vcap] 30)).alloc (.cells #[.int .i64 0, .int .i64 0, .int .i64 0, .int .i64 0, .int .i64 0] 161)).alloc (.cells #[.int .i64 id, .int .i64 xs.length, .int .i64 0, .int .i64 0, .int .i64 0] 161)).heap[w.heap.size]? = some (.cells #[.int .i64 id, .slice va xs.length vcap] 30 (0, 0)) := by
    rw [Below.heap_alloc _ _ _ (by simp; omega), Below.heap_alloc _ _ _ (by simp)]
    exact heap_alloc_new w _
  have hs : (((w.alloc (.cells #[.int .i64 id, .slice va xs.length vcap] 30)).alloc (.cells #[.int .i64 0, .int .i64 0, .int .i64 0, .int .i64 0, .int .i64 0] 161)).alloc (.cells #[.int .i64 id, .int .i64 xs.length, .int .i64 0, .int .i64 0, .int .i64 0] 161)).heap.size = w.heap.size + 3 := by simp [World.size_alloc]
  generalize (((w.alloc (.cells #[.int .i64 id, .slice va xs.length vcap] 30)).alloc (.cells #[.int .i64 0, .int .i64 0, .int .i64 0, .int .i64 0, .int .i64 0] 161)).alloc (.cells #[.int .i64 id, .int .i64 xs.length, .int .i64 0, .int .i64 0, .int .i64 0] 161)) = W at *
  have b0 := cell_of_row W _ 1 _ _ _ g0
  simp at b0
  have I2 := ints_below H.out hh
  refine wp_region_held_drew (S := fun w' => w'.cell? ⟨w.heap.size, 1, none⟩ = some (.slice va xs.length vcap)) (by kernel_rfl) b0 (fun hHeld => ?_)
  refine take_runs (i := 0) (v := ?_) (by simp only [List.getElem?_toArray, List.getElem?_cons_succ, List.getElem?_cons_zero]; rfl) (by kernel_rfl) (by kernel_rfl) (by kernel_rfl) rfl (by exact fun _ _ _ h => h) (by rfl) ?_ (by assumption) ?_
  rotate_left
  · intro w hSw; (try dsimp only at hSw); go_simp; try (with_reducible rfl)
  try simp only [Act.put, List.setIfInBounds_toArray, List.set_cons_zero, List.set_cons_succ]
  refine take_runs (i := 1) (v := ?_) (by simp only [List.getElem?_toArray, List.getElem?_cons_succ, List.getElem?_cons_zero]; rfl) (by kernel_rfl) (by kernel_rfl) (by kernel_rfl) rfl (by exact fun _ _ _ h => h) (by rfl) ?_ (by assumption) ?_
  rotate_left
  · intro w hSw; (try dsimp only at hSw); go_simp; try (with_reducible rfl)
  try simp only [Act.put, List.setIfInBounds_toArray, List.set_cons_zero, List.set_cons_succ]
  refine take_runs (i := 2) (v := ?_) (by simp only [List.getElem?_toArray, List.getElem?_cons_succ, List.getElem?_cons_zero]; rfl) (by kernel_rfl) (by kernel_rfl) (by kernel_rfl) rfl (by exact fun _ _ _ h => h) (by rfl) ?_ (by assumption) ?_
  rotate_left
  · intro w hSw; (try dsimp only at hSw); go_simp; try (with_reducible rfl)
  try simp only [Act.put, List.setIfInBounds_toArray, List.set_cons_zero, List.set_cons_succ]
  refine take_runs (i := 3) (v := ?_) (by simp only [List.getElem?_toArray, List.getElem?_cons_succ, List.getElem?_cons_zero]; rfl) (by kernel_rfl) (by kernel_rfl) (by kernel_rfl) rfl (by exact fun _ _ _ h => h) (by rfl) ?_ (by assumption) ?_
  rotate_left
  · intro w hSw; (try dsimp only at hSw); go_simp; try (with_reducible rfl)
  try simp only [Act.put, List.setIfInBounds_toArray, List.set_cons_zero, List.set_cons_succ]
  refine wpAnyH_ready (rs := [4]) (by kernel_rfl) (by simp) ?_
  refine AllReadyH.cons (o := _) (by simp only [List.getElem?_toArray, List.getElem?_cons_succ, List.getElem?_cons_zero]; rfl) (fun K hK => ?_) AllReadyH.nil
  refine step_copy_splice rfl (.tmp 11) (.tmp 13) 28 28 rfl 3 Tryd.underlying28 (info_size Tryd.infoI64) _ _ _ _ _ _ rfl rfl (w.heap.size + 2) 2 [.int .i64 id, .int .i64 xs.length, .int .i64 0, .int .i64 0, .int .i64 0] _ g2 ((xs.take 3).map (Value.int .i64)) (by simp [Nat.min_comm]) (copy_src I2) (by simp; omega) (fun u hu => by obtain ⟨y, _, rfl⟩ := List.mem_map.1 hu; rfl) (w.heap.size + 2) W (below_drew (Below.refl _ W)) (Nat.le_refl _) ?_
  intro W2 G2 bA
  rw [splice_rec] at G2
  have k0 := (bA.block w.heap.size (by omega)).trans g0
  have b1 := cell_of_row W2 _ 1 _ _ _ k0
  simp at b1
  refine hK.out _ _ b1 (fun hHeld2 => ?_)
  clear hK K hHeld
  try simp only [Act.put, List.setIfInBounds_toArray, List.set_cons_zero, List.set_cons_succ]
  refine wpAnyH_done (by kernel_rfl) ?_ _
  have k1 := (bA.block (w.heap.size + 1) (by omega)).trans g1
  have k2 := G2.out
  have hbb := hh.trans (bA.mono (by omega))
  clear G2 bA g0 g1 g2 I2 hHeld2 b0 b1 k0 hh hs
  obtain ⟨n, hn2⟩ : ∃ n : Nat, n = xs.length := ⟨_, rfl⟩
  have c0 := cell_of_row W2 _ 0 _ _ _ k2
  have d0 := cell_of_row W2 _ 0 _ _ _ k1
  have f0 := frozen_of_row W2 _ 0 _ _ k1
  have c1 := cell_of_row W2 _ 1 _ _ _ k2
  have d1 := cell_of_row W2 _ 1 _ _ _ k1
  have f1 := frozen_of_row W2 _ 1 _ _ k1
  have c2 := cell_of_row W2 _ 2 _ _ _ k2
  have d2 := cell_of_row W2 _ 2 _ _ _ k1
  have f2 := frozen_of_row W2 _ 2 _ _ k1
  have c3 := cell_of_row W2 _ 3 _ _ _ k2
  have d3 := cell_of_row W2 _ 3 _ _ _ k1
  have f3 := frozen_of_row W2 _ 3 _ _ k1
  have c4 := cell_of_row W2 _ 4 _ _ _ k2
  have d4 := cell_of_row W2 _ 4 _ _ _ k1
  have f4 := frozen_of_row W2 _ 4 _ _ k1
  simp at c0 c1 c2 c3 c4 d0 d1 d2 d3 d4
  clear k2 hn2
  generalize hx0 : xs[0]?.getD 0 = x0 at c2
  generalize hx1 : xs[1]?.getD 0 = x1 at c3
  generalize hx2 : xs[2]?.getD 0 = x2 at c4
  have HX := Lib.hid (And.intro hx0 (And.intro hx1 hx2))
  clear hx0 hx1 hx2
  go_wp2
  have r0 := heap_setCell_same W2 (w.heap.size + 1) 0 _ _ (.int .i64 id) k1
  have r1 := heap_setCell_same _ (w.heap.size + 1) 1 _ _ (.int .i64 xs.length) r0
  have r2 := heap_setCell_same _ (w.heap.size + 1) 2 _ _ (.int .i64 x0) r1
  have r3 := heap_setCell_same _ (w.heap.size + 1) 3 _ _ (.int .i64 x1) r2
  have r4 := heap_setCell_same _ (w.heap.size + 1) 4 _ _ (.int .i64 x2) r3
  have B4 := (((((hbb.setCell (p := ⟨w.heap.size + 1, 0, none⟩) (by simp) (.int .i64 id)).setCell (p := ⟨w.heap.size + 1, 1, none⟩) (by simp) (.int .i64 xs.length)).setCell (p := ⟨w.heap.size + 1, 2, none⟩) (by simp) (.int .i64 x0)).setCell (p := ⟨w.heap.size + 1, 3, none⟩) (by simp) (.int .i64 x1)).setCell (p := ⟨w.heap.size + 1, 4, none⟩) (by simp) (.int .i64 x2))
  clear r0 r1 r2 r3 k1
  have e0 := cell_of_row _ _ 0 _ _ _ r4
  have e1 := cell_of_row _ _ 1 _ _ _ r4
  have e2 := cell_of_row _ _ 2 _ _ _ r4
  have e3 := cell_of_row _ _ 3 _ _ _ r4
  have e4 := cell_of_row _ _ 4 _ _ _ r4
  simp at e0 e1 e2 e3 e4
  clear r4
  refine bodyPost_ret (v := .agg #[.int .i64 id, .int .i64 xs.length, .int .i64 x0, .int .i64 x1, .int .i64 x2]) ?_ rfl ?_
  · simp [results, Tryd.f110, go_sem, e0, e1, e2, e3, e4]
  · obtain ⟨rfl, rfl, rfl⟩ := HX.out
    exact ⟨by simp [recV], B4⟩
end Go.Proofs.YtidhmgboknffkaaDoor
namespace Go.Proofs.YtidhmgboknffkaaDoor
open Go.RowKit
set_option linter.unusedVariables false
set_option linter.unusedSimpArgs false
/-- A value moved into the range. -/
def limI (x : Int) : Int := min (max x 0) 99
theorem idx0 (a b c : Int) (w : World) : Sem.run Tryd.prog (Instr.index 159 (.agg #[.int .i64 a, .int .i64 b, .int .i64 c]) (.int .i64 0)) w = .ok (.int .i64 a) w := by
  have u := Tryd.underlying159
  have z := Tryd.sizeOf3
  have g := Tryd.isAgg3
  unfold Instr.index
  go_simp
theorem idx1 (a b c : Int) (w : World) : Sem.run Tryd.prog (Instr.index 159 (.agg #[.int .i64 a, .int .i64 b, .int .i64 c]) (.int .i64 1)) w = .ok (.int .i64 b) w := by
  have u := Tryd.underlying159
  have z := Tryd.sizeOf3
  have g := Tryd.isAgg3
  unfold Instr.index
  go_simp
theorem idx2 (a b c : Int) (w : World) : Sem.run Tryd.prog (Instr.index 159 (.agg #[.int .i64 a, .int .i64 b, .int .i64 c]) (.int .i64 2)) w = .ok (.int .i64 c) w := by
  have u := Tryd.underlying159
  have z := Tryd.sizeOf3
  have g := Tryd.isAgg3
  unfold Instr.index
  go_simp
set_option maxHeartbeats 4000000 in
set_option maxRecDepth 100000 in
theorem limited_any (a b c : Int) (w : World) :
    Calls Tryd.prog 145 #[.agg #[.int .i64 a, .int .i64 b, .int .i64 c]] w fun e w' => e = .returned (.agg #[.int .i64 (limI a), .int .i64 (limI b), .int .i64 (limI c)]) ∧ Below w.heap.size w w' := by
  have i0 := idx0 a b c
  have i1 := idx1 a b c
  have i2 := idx2 a b c
  go_enter Tryd.func145, Tryd.ntmps145
  go_wp2
  refine wp_loop_rounds 4 ?_
  rw [rounds_succ]
  go_wp2
  rw [rounds_succ]
  go_wp2
  rw [rounds_succ]
  go_wp2
  rw [rounds_succ]
  go_wp2
  refine bodyPost_ret (v := .agg #[.int .i64 (limI a), .int .i64 (limI b), .int .i64 (limI c)]) ?_ rfl ?_
  · simp [results, Tryd.f145, go_sem, limI]
  refine ⟨rfl, ?_⟩
  exact ((Below.refl _ w).alloc (Nat.le_refl _) _).alloc (by simp) _
end Go.Proofs.YtidhmgboknffkaaDoor
namespace Go.Proofs.YtidhmgboknffkaaDoor
open Go.RowKit
set_option linter.unusedVariables false
set_option linter.unusedSimpArgs false
theorem eqIn_arr (d : Nat) (a b c x y z : Int) (w : World) : (Op.equalIn (d + 2) 159 (.agg #[.int .i64 a, .int .i64 b, .int .i64 c]) (.agg #[.int .i64 x, .int .i64 y, .int .i64 z])).run Tryd.prog w = .ok (a == x && b == y && c == z) w := by
  have u := Tryd.underlying159
  have u3 := Tryd.underlying3
  have z3 := Tryd.sizeOf3
  have g := Tryd.isAgg3
  rw [Op.equalIn]
  simp only [Sem.run_bind, run_underlying u, Result.andThen_ok, z3]
  simp only [Std.Legacy.Range.forIn_eq_forIn_range', Std.Legacy.Range.size]
  simp [List.range', g, z3, go_sem, run_equalIn_int (P := Tryd.prog) _ d _ _ _ _ _ u3]
  by_cases h1 : a = x <;> by_cases h2 : b = y <;> by_cases h3 : c = z <;> simp [h1, h2, h3]
theorem eql_arr (a b c x y z : Int) (w : World) : Sem.run Tryd.prog (binOp .eql 159 (.agg #[.int .i64 a, .int .i64 b, .int .i64 c]) (.agg #[.int .i64 x, .int .i64 y, .int .i64 z])) w = .ok (.bool (a == x && b == y && c == z)) w := by
  rw [run_eql_struct, show (10000 : Nat) = 9998 + 2 from rfl, eqIn_arr]
  rfl
theorem guard_arr (o1 o2 : Operand) (xs ys : Array Value) (w : World) : Sem.run Tryd.prog (eqGuard .eql 159 o1 o2 (.agg xs) (.agg ys)) w = .ok () w := run_eqGuard_agg w _ _ _ _ _ _ (by kernel_rfl)
end Go.Proofs.YtidhmgboknffkaaDoor
namespace Go.Proofs.YtidhmgboknffkaaDoor
open Go.RowKit
set_option linter.unusedVariables false
set_option linter.unusedSimpArgs false
theorem isRowId_yes (id : Int) (w : World) (h1 : 0 ≤ id) (h2 : id ≤ 999) : Calls Tryd.prog 144 #[.int .i64 id] w fun e w' => e = .returned (.bool true) ∧ w' = w := by
  go_enter Tryd.func144, Tryd.ntmps144
  go_wp2
  go_ret
  exact ⟨rfl, rfl⟩
theorem isRowId_no (id : Int) (w : World) (h : ¬ (0 ≤ id ∧ id ≤ 999)) : Calls Tryd.prog 144 #[.int .i64 id] w fun e w' => e = .returned (.bool false) ∧ w' = w := by
  by_cases h1 : 0 ≤ id
  · have h2 : ¬ id ≤ 999 := fun g => h ⟨h1, g⟩
    clear h
    go_enter Tryd.func144, Tryd.ntmps144
    go_wp2
    go_ret
    exact ⟨rfl, rfl⟩
  · clear h
    go_enter Tryd.func144, Tryd.ntmps144
    go_wp2
    go_ret
    exact ⟨rfl, rfl⟩
/-- Is a record valid? -/
def recB (id n a b c : Int) : Bool := decide (0 ≤ id ∧ id ≤ 999) && (decide (n = 3) && (a == limI a && b == limI b && c == limI c))
theorem lim_in (x : Int) : (x == limI x) = decide (0 ≤ x ∧ x ≤ 99) := by
  unfold limI
  by_cases h : 0 ≤ x ∧ x ≤ 99
  · rw [decide_eq_true h, beq_iff_eq]; omega
  · rw [decide_eq_false h, beq_eq_false_iff_ne]; omega
theorem recB_row (id : Int) (xs : List Int) : recB id xs.length (xs.getD 0 0) (xs.getD 1 0) (xs.getD 2 0) = rowB (id, xs) := by
  unfold recB rowB
  simp only [lim_in]
  match xs with
  | [] => simp
  | [x] => simp
  | [x, y] => simp
  | [x, y, z] => simp [List.all, Bool.and_assoc]
  | x :: y :: z :: u :: r =>
    have : ¬ ((r.length : Int) + 1 + 1 + 1 + 1 = 3) := by omega
    simp [this]
theorem below_from {W w8 w9 : World} (h : w8 = W.drew) (b : Below w8.heap.size w8 w9) : Below W.heap.size W w9 := by subst h; exact ⟨b.os, b.tape, b.output, b.size, b.block⟩
set_option maxHeartbeats 8000000 in
set_option maxRecDepth 100000 in
theorem isValid_id (id n a b c : Int) (w : World) (h : ¬ (0 ≤ id ∧ id ≤ 999)) :
    Calls Tryd.prog 111 #[.agg #[.int .i64 id, .int .i64 n, .int .i64 a, .int .i64 b, .int .i64 c]] w fun e w' => e = .returned (.bool (false)) ∧ Below w.heap.size w w' := by
  have HI := Lib.hid (fun w => isRowId_no id w h)
  clear h
  go_enter Tryd.func111, Tryd.ntmps111
  go_wp2
  have hh : Below w.heap.size w (w.alloc (.cells #[.int .i64 id, .int .i64 n, .int .i64 a, .int .i64 b, .int .i64 c] 161)) := (Below.refl _ w).alloc (Nat.le_refl _) _
  have g0 := heap_alloc_new w (.cells #[.int .i64 id, .int .i64 n, .int .i64 a, .int .i64 b, .int .i64 c] 161)
  have hlt : w.heap.size < (w.alloc (.cells #[.int .i64 id, .int .i64 n, .int .i64 a, .int .i64 b, .int .i64 c] 161)).heap.size := by simp
  generalize w.alloc (.cells #[.int .i64 id, .int .i64 n, .int .i64 a, .int .i64 b, .int .i64 c] 161) = W at *
  have q0 := cell_of_row W _ 0 _ _ _ g0
  have q1 := cell_of_row W _ 1 _ _ _ g0
  have q2 := cell_of_row W _ 2 _ _ _ g0
  have q3 := cell_of_row W _ 3 _ _ _ g0
  have q4 := cell_of_row W _ 4 _ _ _ g0
  simp at q0 q1 q2 q3 q4
  refine wp_region_held_drew (S := fun w' => w'.cell? ⟨w.heap.size, 0, none⟩ = some (.int .i64 id) ∧ w'.cell? ⟨w.heap.size, 1, none⟩ = some (.int .i64 n) ∧ w'.cell? ⟨w.heap.size, 2, none⟩ = some (.int .i64 a) ∧ w'.cell? ⟨w.heap.size, 3, none⟩ = some (.int .i64 b) ∧ w'.cell? ⟨w.heap.size, 4, none⟩ = some (.int .i64 c)) (by kernel_rfl) ⟨q0, q1, q2, q3, q4⟩ (fun hHeld => ?_)
  refine take_runs (i := 0) (v := ?_) (by simp only [List.getElem?_toArray, List.getElem?_cons_succ, List.getElem?_cons_zero]; rfl) (by kernel_rfl) (by kernel_rfl) (by kernel_rfl) rfl (by exact fun _ _ _ h => h) (by rfl) ?_ (by assumption) ?_
  rotate_left
  · intro w hSw; (try dsimp only at hSw); go_simp; try (with_reducible rfl)
  try simp only [Act.put, List.setIfInBounds_toArray, List.set_cons_zero, List.set_cons_succ]
  refine take_runs (i := 1) (v := ?_) (by simp only [List.getElem?_toArray, List.getElem?_cons_succ, List.getElem?_cons_zero]; rfl) (by kernel_rfl) (by kernel_rfl) (by kernel_rfl) rfl (by exact fun _ _ _ h => h) (by rfl) ?_ (by assumption) ?_
  rotate_left
  · intro w hSw; (try dsimp only at hSw); go_simp; try (with_reducible rfl)
  try simp only [Act.put, List.setIfInBounds_toArray, List.set_cons_zero, List.set_cons_succ]
  refine wpAnyH_ready (rs := [2]) (by kernel_rfl) (by simp) ?_
  refine AllReadyH.cons (o := _) (by simp only [List.getElem?_toArray, List.getElem?_cons_succ, List.getElem?_cons_zero]; rfl) (fun K hK => ?_) AllReadyH.nil
  go_simp
  refine (HI.out _).mono ?_
  rintro e w8 ⟨rfl, rfl⟩
  refine hK.out _ _ ⟨q0, q1, q2, q3, q4⟩ (fun hHeld => ?_)
  clear hK K
  try simp only [Act.put, List.setIfInBounds_toArray, List.set_cons_zero, List.set_cons_succ]
  refine take_runs (i := 3) (v := ?_) (by simp only [List.getElem?_toArray, List.getElem?_cons_succ, List.getElem?_cons_zero]; rfl) (by kernel_rfl) (by kernel_rfl) (by kernel_rfl) rfl (by exact fun _ _ _ h => h) (by rfl) ?_ (by assumption) ?_
  rotate_left
  · intro w hSw; (try dsimp only at hSw); go_simp; try (with_reducible rfl)
  try simp only [Act.put, List.setIfInBounds_toArray, List.set_cons_zero, List.set_cons_succ]
  refine take_over (i := 4) (by simp only [List.getElem?_toArray, List.getElem?_cons_succ, List.getElem?_cons_zero]; rfl) (by kernel_rfl) (by kernel_rfl) (by kernel_rfl) rfl (by exact fun _ _ _ h => h) (by rfl) (by assumption) ?_
  try simp only [Act.put, List.setIfInBounds_toArray, List.set_cons_zero, List.set_cons_succ]
  refine take_over (i := 5) (by simp only [List.getElem?_toArray, List.getElem?_cons_succ, List.getElem?_cons_zero]; rfl) (by kernel_rfl) (by kernel_rfl) (by kernel_rfl) rfl (by exact fun _ _ _ h => h) (by rfl) (by assumption) ?_
  try simp only [Act.put, List.setIfInBounds_toArray, List.set_cons_zero, List.set_cons_succ]
  refine take_over (i := 6) (by simp only [List.getElem?_toArray, List.getElem?_cons_succ, List.getElem?_cons_zero]; rfl) (by kernel_rfl) (by kernel_rfl) (by kernel_rfl) rfl (by exact fun _ _ _ h => h) (by rfl) (by assumption) ?_
  try simp only [Act.put, List.setIfInBounds_toArray, List.set_cons_zero, List.set_cons_succ]
  refine take_runs (i := 7) (v := ?_) (by simp only [List.getElem?_toArray, List.getElem?_cons_succ, List.getElem?_cons_zero]; rfl) (by kernel_rfl) (by kernel_rfl) (by kernel_rfl) rfl (by exact fun _ _ _ h => h) (by rfl) ?_ (by assumption) ?_
  rotate_left
  · intro w hSw; (try dsimp only at hSw); go_simp; try (with_reducible rfl)
  try simp only [Act.put, List.setIfInBounds_toArray, List.set_cons_zero, List.set_cons_succ]
  refine take_runs (i := 8) (v := ?_) (by simp only [List.getElem?_toArray, List.getElem?_cons_succ, List.getElem?_cons_zero]; rfl) (by kernel_rfl) (by kernel_rfl) (by kernel_rfl) rfl (by exact fun _ _ _ h => h) (by rfl) ?_ (by assumption) ?_
  rotate_left
  · intro w hSw; (try dsimp only at hSw); go_simp; try (with_reducible rfl)
  try simp only [Act.put, List.setIfInBounds_toArray, List.set_cons_zero, List.set_cons_succ]
  refine take_over (i := 9) (by simp only [List.getElem?_toArray, List.getElem?_cons_succ, List.getElem?_cons_zero]; rfl) (by kernel_rfl) (by kernel_rfl) (by kernel_rfl) rfl (by exact fun _ _ _ h => h) (by rfl) (by assumption) ?_
  try simp only [Act.put, List.setIfInBounds_toArray, List.set_cons_zero, List.set_cons_succ]
  refine take_over (i := 10) (by simp only [List.getElem?_toArray, List.getElem?_cons_succ, List.getElem?_cons_zero]; rfl) (by kernel_rfl) (by kernel_rfl) (by kernel_rfl) rfl (by exact fun _ _ _ h => h) (by rfl) (by assumption) ?_
  try simp only [Act.put, List.setIfInBounds_toArray, List.set_cons_zero, List.set_cons_succ]
  refine take_over (i := 11) (by simp only [List.getElem?_toArray, List.getElem?_cons_succ, List.getElem?_cons_zero]; rfl) (by kernel_rfl) (by kernel_rfl) (by kernel_rfl) rfl (by exact fun _ _ _ h => h) (by rfl) (by assumption) ?_
  try simp only [Act.put, List.setIfInBounds_toArray, List.set_cons_zero, List.set_cons_succ]
  refine take_over (i := 12) (by simp only [List.getElem?_toArray, List.getElem?_cons_succ, List.getElem?_cons_zero]; rfl) (by kernel_rfl) (by kernel_rfl) (by kernel_rfl) rfl (by exact fun _ _ _ h => h) (by rfl) (by assumption) ?_
  try simp only [Act.put, List.setIfInBounds_toArray, List.set_cons_zero, List.set_cons_succ]
  refine take_over (i := 13) (by simp only [List.getElem?_toArray, List.getElem?_cons_succ, List.getElem?_cons_zero]; rfl) (by kernel_rfl) (by kernel_rfl) (by kernel_rfl) rfl (by exact fun _ _ _ h => h) (by rfl) (by assumption) ?_
  try simp only [Act.put, List.setIfInBounds_toArray, List.set_cons_zero, List.set_cons_succ]
  refine take_over (i := 14) (by simp only [List.getElem?_toArray, List.getElem?_cons_succ, List.getElem?_cons_zero]; rfl) (by kernel_rfl) (by kernel_rfl) (by kernel_rfl) rfl (by exact fun _ _ _ h => h) (by rfl) (by assumption) ?_
  try simp only [Act.put, List.setIfInBounds_toArray, List.set_cons_zero, List.set_cons_succ]
  refine take_runs (i := 15) (v := ?_) (by simp only [List.getElem?_toArray, List.getElem?_cons_succ, List.getElem?_cons_zero]; rfl) (by kernel_rfl) (by kernel_rfl) (by kernel_rfl) rfl (by exact fun _ _ _ h => h) (by rfl) ?_ (by assumption) ?_
  rotate_left
  · intro w hSw; (try dsimp only at hSw); go_simp; try (with_reducible rfl)
  try simp only [Act.put, List.setIfInBounds_toArray, List.set_cons_zero, List.set_cons_succ]
  refine take_runs (i := 16) (v := ?_) (by simp only [List.getElem?_toArray, List.getElem?_cons_succ, List.getElem?_cons_zero]; rfl) (by kernel_rfl) (by kernel_rfl) (by kernel_rfl) rfl (by exact fun _ _ _ h => h) (by rfl) ?_ (by assumption) ?_
  rotate_left
  · intro w hSw; (try dsimp only at hSw); go_simp; try (with_reducible rfl)
  try simp only [Act.put, List.setIfInBounds_toArray, List.set_cons_zero, List.set_cons_succ]
  refine wpAnyH_done (by kernel_rfl) ?_ _
  have b11 : Below w.heap.size w W.drew := below_drew hh
  clear hHeld
  go_wp2
  go_ret
  exact ⟨rfl, b11⟩
set_option maxHeartbeats 8000000 in
set_option maxRecDepth 100000 in
theorem isValid_count (id n a b c : Int) (w : World) (h1 : 0 ≤ id) (h2 : id ≤ 999) (h3 : ¬ n = 3) :
    Calls Tryd.prog 111 #[.agg #[.int .i64 id, .int .i64 n, .int .i64 a, .int .i64 b, .int .i64 c]] w fun e w' => e = .returned (.bool (false)) ∧ Below w.heap.size w w' := by
  have HI := Lib.hid (fun w => isRowId_yes id w h1 h2)
  clear h1 h2
  have hd : (n == 3) = false := by simpa using h3
  clear h3
  go_enter Tryd.func111, Tryd.ntmps111
  go_wp2
  have hh : Below w.heap.size w (w.alloc (.cells #[.int .i64 id, .int .i64 n, .int .i64 a, .int .i64 b, .int .i64 c] 161)) := (Below.refl _ w).alloc (Nat.le_refl _) _
  have g0 := heap_alloc_new w (.cells #[.int .i64 id, .int .i64 n, .int .i64 a, .int .i64 b, .int .i64 c] 161)
  have hlt : w.heap.size < (w.alloc (.cells #[.int .i64 id, .int .i64 n, .int .i64 a, .int .i64 b, .int .i64 c] 161)).heap.size := by simp
  generalize w.alloc (.cells #[.int .i64 id, .int .i64 n, .int .i64 a, .int .i64 b, .int .i64 c] 161) = W at *
  have q0 := cell_of_row W _ 0 _ _ _ g0
  have q1 := cell_of_row W _ 1 _ _ _ g0
  have q2 := cell_of_row W _ 2 _ _ _ g0
  have q3 := cell_of_row W _ 3 _ _ _ g0
  have q4 := cell_of_row W _ 4 _ _ _ g0
  simp at q0 q1 q2 q3 q4
  refine wp_region_held_drew (S := fun w' => w'.cell? ⟨w.heap.size, 0, none⟩ = some (.int .i64 id) ∧ w'.cell? ⟨w.heap.size, 1, none⟩ = some (.int .i64 n) ∧ w'.cell? ⟨w.heap.size, 2, none⟩ = some (.int .i64 a) ∧ w'.cell? ⟨w.heap.size, 3, none⟩ = some (.int .i64 b) ∧ w'.cell? ⟨w.heap.size, 4, none⟩ = some (.int .i64 c)) (by kernel_rfl) ⟨q0, q1, q2, q3, q4⟩ (fun hHeld => ?_)
  refine take_runs (i := 0) (v := ?_) (by simp only [List.getElem?_toArray, List.getElem?_cons_succ, List.getElem?_cons_zero]; rfl) (by kernel_rfl) (by kernel_rfl) (by kernel_rfl) rfl (by exact fun _ _ _ h => h) (by rfl) ?_ (by assumption) ?_
  rotate_left
  · intro w hSw; (try dsimp only at hSw); go_simp; try (with_reducible rfl)
  try simp only [Act.put, List.setIfInBounds_toArray, List.set_cons_zero, List.set_cons_succ]
  refine take_runs (i := 1) (v := ?_) (by simp only [List.getElem?_toArray, List.getElem?_cons_succ, List.getElem?_cons_zero]; rfl) (by kernel_rfl) (by kernel_rfl) (by kernel_rfl) rfl (by exact fun _ _ _ h => h) (by rfl) ?_ (by assumption) ?_
  rotate_left
  · intro w hSw; (try dsimp only at hSw); go_simp; try (with_reducible rfl)
  try simp only [Act.put, List.setIfInBounds_toArray, List.set_cons_zero, List.set_cons_succ]
  refine wpAnyH_ready (rs := [2]) (by kernel_rfl) (by simp) ?_
  refine AllReadyH.cons (o := _) (by simp only [List.getElem?_toArray, List.getElem?_cons_succ, List.getElem?_cons_zero]; rfl) (fun K hK => ?_) AllReadyH.nil
  go_simp
  refine (HI.out _).mono ?_
  rintro e w8 ⟨rfl, rfl⟩
  refine hK.out _ _ ⟨q0, q1, q2, q3, q4⟩ (fun hHeld => ?_)
  clear hK K
  try simp only [Act.put, List.setIfInBounds_toArray, List.set_cons_zero, List.set_cons_succ]
  refine take_runs (i := 3) (v := ?_) (by simp only [List.getElem?_toArray, List.getElem?_cons_succ, List.getElem?_cons_zero]; rfl) (by kernel_rfl) (by kernel_rfl) (by kernel_rfl) rfl (by exact fun _ _ _ h => h) (by rfl) ?_ (by assumption) ?_
  rotate_left
  · intro w hSw; (try dsimp only at hSw); go_simp; try (with_reducible rfl)
  try simp only [Act.put, List.setIfInBounds_toArray, List.set_cons_zero, List.set_cons_succ]
  refine take_runs (i := 4) (v := ?_) (by simp only [List.getElem?_toArray, List.getElem?_cons_succ, List.getElem?_cons_zero]; rfl) (by kernel_rfl) (by kernel_rfl) (by kernel_rfl) rfl (by exact fun _ _ _ h => h) (by rfl) ?_ (by assumption) ?_
  rotate_left
  · intro w hSw; (try dsimp only at hSw); go_simp; try (with_reducible rfl)
  try simp only [Act.put, List.setIfInBounds_toArray, List.set_cons_zero, List.set_cons_succ]
  refine take_runs (i := 5) (v := ?_) (by simp only [List.getElem?_toArray, List.getElem?_cons_succ, List.getElem?_cons_zero]; rfl) (by kernel_rfl) (by kernel_rfl) (by kernel_rfl) rfl (by exact fun _ _ _ h => h) (by rfl) ?_ (by assumption) ?_
  rotate_left
  · intro w hSw; (try dsimp only at hSw); go_simp; try (with_reducible rfl)
  try simp only [Act.put, List.setIfInBounds_toArray, List.set_cons_zero, List.set_cons_succ]
  refine take_runs (i := 6) (v := ?_) (by simp only [List.getElem?_toArray, List.getElem?_cons_succ, List.getElem?_cons_zero]; rfl) (by kernel_rfl) (by kernel_rfl) (by kernel_rfl) rfl (by exact fun _ _ _ h => h) (by rfl) ?_ (by assumption) ?_
  rotate_left
  · intro w hSw; (try dsimp only at hSw); go_simp; try (with_reducible rfl)
  try simp only [Act.put, List.setIfInBounds_toArray, List.set_cons_zero, List.set_cons_succ]
  refine take_runs (i := 7) (v := ?_) (by simp only [List.getElem?_toArray, List.getElem?_cons_succ, List.getElem?_cons_zero]; rfl) (by kernel_rfl) (by kernel_rfl) (by kernel_rfl) rfl (by exact fun _ _ _ h => h) (by rfl) ?_ (by assumption) ?_
  rotate_left
  · intro w hSw; (try dsimp only at hSw); go_simp; try (with_reducible rfl)
  try simp only [Act.put, List.setIfInBounds_toArray, List.set_cons_zero, List.set_cons_succ]
  refine take_runs (i := 8) (v := ?_) (by simp only [List.getElem?_toArray, List.getElem?_cons_succ, List.getElem?_cons_zero]; rfl) (by kernel_rfl) (by kernel_rfl) (by kernel_rfl) rfl (by exact fun _ _ _ h => h) (by rfl) ?_ (by assumption) ?_
  rotate_left
  · intro w hSw; (try dsimp only at hSw); go_simp; try (with_reducible rfl)
  try simp only [Act.put, List.setIfInBounds_toArray, List.set_cons_zero, List.set_cons_succ]
  refine take_over (i := 9) (by simp only [List.getElem?_toArray, List.getElem?_cons_succ, List.getElem?_cons_zero]; rfl) (by kernel_rfl) (by kernel_rfl) (by kernel_rfl) rfl (by exact fun _ _ _ h => h) (by rfl) (by assumption) ?_
  try simp only [Act.put, List.setIfInBounds_toArray, List.set_cons_zero, List.set_cons_succ]
  refine take_over (i := 10) (by simp only [List.getElem?_toArray, List.getElem?_cons_succ, List.getElem?_cons_zero]; rfl) (by kernel_rfl) (by kernel_rfl) (by kernel_rfl) rfl (by exact fun _ _ _ h => h) (by rfl) (by assumption) ?_
  try simp only [Act.put, List.setIfInBounds_toArray, List.set_cons_zero, List.set_cons_succ]
  refine take_over (i := 11) (by simp only [List.getElem?_toArray, List.getElem?_cons_succ, List.getElem?_cons_zero]; rfl) (by kernel_rfl) (by kernel_rfl) (by kernel_rfl) rfl (by exact fun _ _ _ h => h) (by rfl) (by assumption) ?_
  try simp only [Act.put, List.setIfInBounds_toArray, List.set_cons_zero, List.set_cons_succ]
  refine take_over (i := 12) (by simp only [List.getElem?_toArray, List.getElem?_cons_succ, List.getElem?_cons_zero]; rfl) (by kernel_rfl) (by kernel_rfl) (by kernel_rfl) rfl (by exact fun _ _ _ h => h) (by rfl) (by assumption) ?_
  try simp only [Act.put, List.setIfInBounds_toArray, List.set_cons_zero, List.set_cons_succ]
  refine take_over (i := 13) (by simp only [List.getElem?_toArray, List.getElem?_cons_succ, List.getElem?_cons_zero]; rfl) (by kernel_rfl) (by kernel_rfl) (by kernel_rfl) rfl (by exact fun _ _ _ h => h) (by rfl) (by assumption) ?_
  try simp only [Act.put, List.setIfInBounds_toArray, List.set_cons_zero, List.set_cons_succ]
  refine take_over (i := 14) (by simp only [List.getElem?_toArray, List.getElem?_cons_succ, List.getElem?_cons_zero]; rfl) (by kernel_rfl) (by kernel_rfl) (by kernel_rfl) rfl (by exact fun _ _ _ h => h) (by rfl) (by assumption) ?_
  try simp only [Act.put, List.setIfInBounds_toArray, List.set_cons_zero, List.set_cons_succ]
  refine take_runs (i := 15) (v := ?_) (by simp only [List.getElem?_toArray, List.getElem?_cons_succ, List.getElem?_cons_zero]; rfl) (by kernel_rfl) (by kernel_rfl) (by kernel_rfl) rfl (by exact fun _ _ _ h => h) (by rfl) ?_ (by assumption) ?_
  rotate_left
  · intro w hSw; (try dsimp only at hSw); go_simp; try (with_reducible rfl)
  try simp only [Act.put, List.setIfInBounds_toArray, List.set_cons_zero, List.set_cons_succ]
  refine take_runs (i := 16) (v := ?_) (by simp only [List.getElem?_toArray, List.getElem?_cons_succ, List.getElem?_cons_zero]; rfl) (by kernel_rfl) (by kernel_rfl) (by kernel_rfl) rfl (by exact fun _ _ _ h => h) (by rfl) ?_ (by assumption) ?_
  rotate_left
  · intro w hSw; (try dsimp only at hSw); go_simp; try (with_reducible rfl)
  try simp only [Act.put, List.setIfInBounds_toArray, List.set_cons_zero, List.set_cons_succ]
  refine wpAnyH_done (by kernel_rfl) ?_ _
  have b11 : Below w.heap.size w W.drew := below_drew hh
  clear hHeld
  go_wp2
  go_ret
  exact ⟨rfl, b11⟩
set_option maxHeartbeats 8000000 in
set_option maxRecDepth 100000 in
theorem isValid_all (id n a b c : Int) (w : World) (h1 : 0 ≤ id) (h2 : id ≤ 999) (h3 : n = 3) :
    Calls Tryd.prog 111 #[.agg #[.int .i64 id, .int .i64 n, .int .i64 a, .int .i64 b, .int .i64 c]] w fun e w' => e = .returned (.bool (a == limI a && b == limI b && c == limI c)) ∧ Below w.heap.size w w' := by
  have HI := Lib.hid (fun w => isRowId_yes id w h1 h2)
  clear h1 h2
  have hd : (n == 3) = true := by simpa using h3
  clear h3
  have HL := Lib.hid (fun w => limited_any a b c w)
  have he := fun w => eql_arr a b c (limI a) (limI b) (limI c) w
  have hgd := fun (o1 o2 : Operand) (xs ys : Array Value) (w : World) => guard_arr o1 o2 xs ys w
  generalize hr : (a == limI a && b == limI b && c == limI c) = r at he ⊢
  clear hr
  go_enter Tryd.func111, Tryd.ntmps111
  go_wp2
  have hh : Below w.heap.size w (w.alloc (.cells #[.int .i64 id, .int .i64 n, .int .i64 a, .int .i64 b, .int .i64 c] 161)) := (Below.refl _ w).alloc (Nat.le_refl _) _
  have g0 := heap_alloc_new w (.cells #[.int .i64 id, .int .i64 n, .int .i64 a, .int .i64 b, .int .i64 c] 161)
  have hlt : w.heap.size < (w.alloc (.cells #[.int .i64 id, .int .i64 n, .int .i64 a, .int .i64 b, .int .i64 c] 161)).heap.size := by simp
  generalize w.alloc (.cells #[.int .i64 id, .int .i64 n, .int .i64 a, .int .i64 b, .int .i64 c] 161) = W at *
  have q0 := cell_of_row W _ 0 _ _ _ g0
  have q1 := cell_of_row W _ 1 _ _ _ g0
  have q2 := cell_of_row W _ 2 _ _ _ g0
  have q3 := cell_of_row W _ 3 _ _ _ g0
  have q4 := cell_of_row W _ 4 _ _ _ g0
  simp at q0 q1 q2 q3 q4
  refine wp_region_held_drew (S := fun w' => w'.cell? ⟨w.heap.size, 0, none⟩ = some (.int .i64 id) ∧ w'.cell? ⟨w.heap.size, 1, none⟩ = some (.int .i64 n) ∧ w'.cell? ⟨w.heap.size, 2, none⟩ = some (.int .i64 a) ∧ w'.cell? ⟨w.heap.size, 3, none⟩ = some (.int .i64 b) ∧ w'.cell? ⟨w.heap.size, 4, none⟩ = some (.int .i64 c)) (by kernel_rfl) ⟨q0, q1, q2, q3, q4⟩ (fun hHeld => ?_)
  refine take_runs (i := 0) (v := ?_) (by simp only [List.getElem?_toArray, List.getElem?_cons_succ, List.getElem?_cons_zero]; rfl) (by kernel_rfl) (by kernel_rfl) (by kernel_rfl) rfl (by exact fun _ _ _ h => h) (by rfl) ?_ (by assumption) ?_
  rotate_left
  · intro w hSw; (try dsimp only at hSw); go_simp; try (with_reducible rfl)
  try simp only [Act.put, List.setIfInBounds_toArray, List.set_cons_zero, List.set_cons_succ]
  refine take_runs (i := 1) (v := ?_) (by simp only [List.getElem?_toArray, List.getElem?_cons_succ, List.getElem?_cons_zero]; rfl) (by kernel_rfl) (by kernel_rfl) (by kernel_rfl) rfl (by exact fun _ _ _ h => h) (by rfl) ?_ (by assumption) ?_
  rotate_left
  · intro w hSw; (try dsimp only at hSw); go_simp; try (with_reducible rfl)
  try simp only [Act.put, List.setIfInBounds_toArray, List.set_cons_zero, List.set_cons_succ]
  refine wpAnyH_ready (rs := [2]) (by kernel_rfl) (by simp) ?_
  refine AllReadyH.cons (o := _) (by simp only [List.getElem?_toArray, List.getElem?_cons_succ, List.getElem?_cons_zero]; rfl) (fun K hK => ?_) AllReadyH.nil
  go_simp
  refine (HI.out _).mono ?_
  rintro e w8 ⟨rfl, rfl⟩
  refine hK.out _ _ ⟨q0, q1, q2, q3, q4⟩ (fun hHeld => ?_)
  clear hK K
  try simp only [Act.put, List.setIfInBounds_toArray, List.set_cons_zero, List.set_cons_succ]
  refine take_runs (i := 3) (v := ?_) (by simp only [List.getElem?_toArray, List.getElem?_cons_succ, List.getElem?_cons_zero]; rfl) (by kernel_rfl) (by kernel_rfl) (by kernel_rfl) rfl (by exact fun _ _ _ h => h) (by rfl) ?_ (by assumption) ?_
  rotate_left
  · intro w hSw; (try dsimp only at hSw); go_simp; try (with_reducible rfl)
  try simp only [Act.put, List.setIfInBounds_toArray, List.set_cons_zero, List.set_cons_succ]
  refine take_runs (i := 4) (v := ?_) (by simp only [List.getElem?_toArray, List.getElem?_cons_succ, List.getElem?_cons_zero]; rfl) (by kernel_rfl) (by kernel_rfl) (by kernel_rfl) rfl (by exact fun _ _ _ h => h) (by rfl) ?_ (by assumption) ?_
  rotate_left
  · intro w hSw; (try dsimp only at hSw); go_simp; try (with_reducible rfl)
  try simp only [Act.put, List.setIfInBounds_toArray, List.set_cons_zero, List.set_cons_succ]
  refine take_runs (i := 5) (v := ?_) (by simp only [List.getElem?_toArray, List.getElem?_cons_succ, List.getElem?_cons_zero]; rfl) (by kernel_rfl) (by kernel_rfl) (by kernel_rfl) rfl (by exact fun _ _ _ h => h) (by rfl) ?_ (by assumption) ?_
  rotate_left
  · intro w hSw; (try dsimp only at hSw); go_simp; try (with_reducible rfl)
  try simp only [Act.put, List.setIfInBounds_toArray, List.set_cons_zero, List.set_cons_succ]
  refine take_runs (i := 6) (v := ?_) (by simp only [List.getElem?_toArray, List.getElem?_cons_succ, List.getElem?_cons_zero]; rfl) (by kernel_rfl) (by kernel_rfl) (by kernel_rfl) rfl (by exact fun _ _ _ h => h) (by rfl) ?_ (by assumption) ?_
  rotate_left
  · intro w hSw; (try dsimp only at hSw); go_simp; try (with_reducible rfl)
  try simp only [Act.put, List.setIfInBounds_toArray, List.set_cons_zero, List.set_cons_succ]
  refine take_runs (i := 7) (v := ?_) (by simp only [List.getElem?_toArray, List.getElem?_cons_succ, List.getElem?_cons_zero]; rfl) (by kernel_rfl) (by kernel_rfl) (by kernel_rfl) rfl (by exact fun _ _ _ h => h) (by rfl) ?_ (by assumption) ?_
  rotate_left
  · intro w hSw; (try dsimp only at hSw); go_simp; try (with_reducible rfl)
  try simp only [Act.put, List.setIfInBounds_toArray, List.set_cons_zero, List.set_cons_succ]
  refine take_runs (i := 8) (v := ?_) (by simp only [List.getElem?_toArray, List.getElem?_cons_succ, List.getElem?_cons_zero]; rfl) (by kernel_rfl) (by kernel_rfl) (by kernel_rfl) rfl (by exact fun _ _ _ h => h) (by rfl) ?_ (by assumption) ?_
  rotate_left
  · intro w hSw; (try dsimp only at hSw); go_simp; try (with_reducible rfl)
  try simp only [Act.put, List.setIfInBounds_toArray, List.set_cons_zero, List.set_cons_succ]
  refine take_runs (i := 9) (v := ?_) (by simp only [List.getElem?_toArray, List.getElem?_cons_succ, List.getElem?_cons_zero]; rfl) (by kernel_rfl) (by kernel_rfl) (by kernel_rfl) rfl (by exact fun _ _ _ h => h) (by rfl) ?_ (by assumption) ?_
  rotate_left
  · intro w hSw; (try dsimp only at hSw); go_simp; try (with_reducible rfl)
  try simp only [Act.put, List.setIfInBounds_toArray, List.set_cons_zero, List.set_cons_succ]
  refine take_runs (i := 10) (v := ?_) (by simp only [List.getElem?_toArray, List.getElem?_cons_succ, List.getElem?_cons_zero]; rfl) (by kernel_rfl) (by kernel_rfl) (by kernel_rfl) rfl (by exact fun _ _ _ h => h) (by rfl) ?_ (by assumption) ?_
  rotate_left
  · intro w hSw; (try dsimp only at hSw); go_simp; try (with_reducible rfl)
  try simp only [Act.put, List.setIfInBounds_toArray, List.set_cons_zero, List.set_cons_succ]
  refine take_runs (i := 11) (v := ?_) (by simp only [List.getElem?_toArray, List.getElem?_cons_succ, List.getElem?_cons_zero]; rfl) (by kernel_rfl) (by kernel_rfl) (by kernel_rfl) rfl (by exact fun _ _ _ h => h) (by rfl) ?_ (by assumption) ?_
  rotate_left
  · intro w hSw; (try dsimp only at hSw); go_simp; try (with_reducible rfl)
  try simp only [Act.put, List.setIfInBounds_toArray, List.set_cons_zero, List.set_cons_succ]
  refine take_runs (i := 12) (v := ?_) (by simp only [List.getElem?_toArray, List.getElem?_cons_succ, List.getElem?_cons_zero]; rfl) (by kernel_rfl) (by kernel_rfl) (by kernel_rfl) rfl (by exact fun _ _ _ h => h) (by rfl) ?_ (by assumption) ?_
  rotate_left
  · intro w hSw; (try dsimp only at hSw); go_simp; try (with_reducible rfl)
  try simp only [Act.put, List.setIfInBounds_toArray, List.set_cons_zero, List.set_cons_succ]
  refine wpAnyH_ready (rs := [13]) (by kernel_rfl) (by simp) ?_
  refine AllReadyH.cons (o := _) (by simp only [List.getElem?_toArray, List.getElem?_cons_succ, List.getElem?_cons_zero]; rfl) (fun K hK => ?_) AllReadyH.nil
  go_simp
  refine (HL.out _).mono ?_
  rintro e w9 ⟨rfl, b9⟩
  have b10 : Below W.heap.size W w9 := below_from rfl b9
  have g2 := (b10.block w.heap.size hlt).trans g0
  have r0 := cell_of_row w9 _ 0 _ _ _ g2
  have r1 := cell_of_row w9 _ 1 _ _ _ g2
  have r2 := cell_of_row w9 _ 2 _ _ _ g2
  have r3 := cell_of_row w9 _ 3 _ _ _ g2
  have r4 := cell_of_row w9 _ 4 _ _ _ g2
  simp at r0 r1 r2 r3 r4
  refine hK.out _ _ ⟨r0, r1, r2, r3, r4⟩ (fun hHeld => ?_)
  clear hK K
  try simp only [Act.put, List.setIfInBounds_toArray, List.set_cons_zero, List.set_cons_succ]
  refine take_runs (i := 14) (v := ?_) (by simp only [List.getElem?_toArray, List.getElem?_cons_succ, List.getElem?_cons_zero]; rfl) (by kernel_rfl) (by kernel_rfl) (by kernel_rfl) rfl (by exact fun _ _ _ h => h) (by rfl) ?_ (by assumption) ?_
  rotate_left
  · intro w hSw; (try dsimp only at hSw); go_simp; try (with_reducible rfl)
  try simp only [Act.put, List.setIfInBounds_toArray, List.set_cons_zero, List.set_cons_succ]
  refine take_runs (i := 15) (v := ?_) (by simp only [List.getElem?_toArray, List.getElem?_cons_succ, List.getElem?_cons_zero]; rfl) (by kernel_rfl) (by kernel_rfl) (by kernel_rfl) rfl (by exact fun _ _ _ h => h) (by rfl) ?_ (by assumption) ?_
  rotate_left
  · intro w hSw; (try dsimp only at hSw); go_simp; try (with_reducible rfl)
  try simp only [Act.put, List.setIfInBounds_toArray, List.set_cons_zero, List.set_cons_succ]
  refine take_runs (i := 16) (v := ?_) (by simp only [List.getElem?_toArray, List.getElem?_cons_succ, List.getElem?_cons_zero]; rfl) (by kernel_rfl) (by kernel_rfl) (by kernel_rfl) rfl (by exact fun _ _ _ h => h) (by rfl) ?_ (by assumption) ?_
  rotate_left
  · intro w hSw; (try dsimp only at hSw); go_simp; try (with_reducible rfl)
  try simp only [Act.put, List.setIfInBounds_toArray, List.set_cons_zero, List.set_cons_succ]
  refine wpAnyH_done (by kernel_rfl) ?_ _
  have b11 := hh.trans (b10.mono hh.size)
  clear hHeld b9 b10
  go_wp2
  go_ret
  exact ⟨rfl, b11⟩
theorem isValid_any (id n a b c : Int) (w : World) :
    Calls Tryd.prog 111 #[.agg #[.int .i64 id, .int .i64 n, .int .i64 a, .int .i64 b, .int .i64 c]] w fun e w' => e = .returned (.bool (recB id n a b c)) ∧ Below w.heap.size w w' := by
  by_cases h : 0 ≤ id ∧ id ≤ 999
  · by_cases h3 : n = 3
    · have e : recB id n a b c = (a == limI a && b == limI b && c == limI c) := by unfold recB; rw [decide_eq_true h, decide_eq_true h3]; simp
      rw [e]
      exact isValid_all id n a b c w h.1 h.2 h3
    · have e : recB id n a b c = false := by unfold recB; rw [decide_eq_false h3]; simp
      rw [e]
      exact isValid_count id n a b c w h.1 h.2 h3
  · have e : recB id n a b c = false := by unfold recB; rw [decide_eq_false h]; simp
    rw [e]
    exact isValid_id id n a b c w h
set_option maxHeartbeats 4000000 in
set_option maxRecDepth 100000 in
theorem implIsRow (id : Int) (vv : Value) (xs : List Int) (w : World) (h : Ints w vv xs) (hn : xs.length ≤ 1048576) :
    Calls Tryd.prog 60 #[.agg #[.int .i64 id, vv]] w fun e w' => e = .returned (.bool (rowB (id, xs))) ∧ Below w.heap.size w w' := by
  have HR := Lib.hid (fun w h => recordOf_any id vv xs w h hn)
  have HV := Lib.hid (fun w => isValid_any id xs.length (xs.getD 0 0) (xs.getD 1 0) (xs.getD 2 0) w)
  rw [recB_row] at HV
  have H := Lib.hid h
  unfold recV at HR
  clear h hn
  generalize xs.getD 0 0 = x0 at *
  generalize xs.getD 1 0 = x1 at *
  generalize xs.getD 2 0 = x2 at *
  generalize rowB (id, xs) = r at *
  go_enter Tryd.func60, Tryd.ntmps60
  go_wp2_with fail
  have hb : Below w.heap.size w (w.alloc (.cells #[.int .i64 id, vv] 30)) := (Below.refl _ w).alloc (Nat.le_refl _) _
  refine (HR.out _ (ints_below H.out hb)).mono ?_
  rintro e w1 ⟨rfl, b1⟩
  have b2 := hb.trans (b1.mono hb.size)
  clear hb b1
  go_wp2_with fail
  refine (HV.out _).mono ?_
  rintro e w2 ⟨rfl, b3⟩
  have b4 := b2.trans (b3.mono b2.size)
  clear b2 b3
  go_wp2
  go_ret
  exact ⟨rfl, b4⟩
end Go.Proofs.YtidhmgboknffkaaDoor
namespace Go.Proofs.YtidhmgboknffkaaDoor
open Go.RowKit
set_option linter.unusedVariables false
set_option linter.unusedSimpArgs false
theorem in_is (x lo hi : Int) (w : World) : Calls Tryd.prog 69 #[.int .i64 x, .int .i64 lo, .int .i64 hi] w fun e w' => e = .returned (.bool (decide (lo ≤ x ∧ x ≤ hi))) ∧ w' = w := by
  by_cases h : lo ≤ x ∧ x ≤ hi
  · rw [decide_eq_true h]; exact in_yes x lo hi w h.1 h.2
  · rw [decide_eq_false h]; exact in_no x lo hi w h
theorem stabS_no {a : List QD} {f v : Int} (h : (areQB a && (okF f && okV v)) = false) : stabL a f v = [] := by unfold stabL; rw [h]; rfl
theorem stabS_yes {a : List QD} {f v : Int} (h : (areQB a && (okF f && okV v)) = true) : stabL a f v = (a.filter (admQ f v)).map (·.1) := by unfold stabL; rw [h]; rfl
theorem admF_yes {a : List QD} {f v : Int} {k : Nat} (hk : k < a.length) (h : admQ f v (a.getD k q0D) = true) : ((a.take k).filter (admQ f v)).map (·.1) ++ [(a.getD k q0D).1] = ((a.take (k + 1)).filter (admQ f v)).map (·.1) := by
  have e : a.getD k q0D = a[k] := by simp [List.getD, hk]
  rw [e] at h ⊢
  rw [List.take_succ_eq_append_getElem hk, List.filter_append, List.map_append]
  simp [List.filter_cons, h]
theorem admF_no {a : List QD} {f v : Int} {k : Nat} (hk : k < a.length) (h : admQ f v (a.getD k q0D) = false) : ((a.take k).filter (admQ f v)).map (·.1) = ((a.take (k + 1)).filter (admQ f v)).map (·.1) := by
  have e : a.getD k q0D = a[k] := by simp [List.getD, hk]
  rw [e] at h
  rw [List.take_succ_eq_append_getElem hk, List.filter_append, List.map_append]
  simp [List.filter_cons, h]
theorem admF_len (a : List QD) (f v : Int) (k : Nat) : (((a.take k).filter (admQ f v)).map (·.1)).length ≤ a.length := by
  rw [List.length_map]
  have := List.length_filter_le (admQ f v) (a.take k)
  rw [List.length_take] at this
  omega
set_option maxHeartbeats 8000000 in
set_option maxRecDepth 100000 in
theorem specStabSet (va : Value) (a : List QD) (f v : Int) (w : World) (h : QueriesR w va a) (hs : szQL a ≤ 1048576) :
    Calls Tryd.prog 53 #[va, .int .i64 f, .int .i64 v] w (FreshInts w (stabL a f v)) := by
  have H := Lib.hid h
  have HS := Lib.hid hs
  have hn := szQL_len hs
  obtain ⟨ao, cap, rfl⟩ := queriesR_len h
  have HA := Lib.hid (fun w h => specAreQueries (.slice ao a.length cap) a w h hs)
  have HF : Hid (∀ w, Calls Tryd.prog 69 #[.int .i64 f, .int .i64 0, .int .i64 2] w fun e w' => e = .returned (.bool (okF f)) ∧ w' = w) := Lib.hid (fun w => in_is f 0 2 w)
  have HV : Hid (∀ w, Calls Tryd.prog 69 #[.int .i64 v, .int .i64 0, .int .i64 99] w fun e w' => e = .returned (.bool (okV v)) ∧ w' = w) := Lib.hid (fun w => in_is v 0 99 w)
  clear h hs
  cases ha : areQB a with
  | false =>
    have HE : Hid (stabL a f v = []) := Lib.hid (stabS_no (by rw [ha]; rfl))
    rw [ha] at HA
    clear ha HF HV
    rw [HE.out]
    clear HE
    go_enter Tryd.func53, Tryd.ntmps53
    go_wp2
    have hown := ownsN_lit w w.heap.size (Nat.le_refl _) #[] 0 [] rfl rfl (by decide)
    have hbel := (Below.refl w.heap.size w).alloc (Nat.le_refl _) (.cells #[] 3)
    generalize w.alloc (.cells #[] 3) = w0 at hown hbel ⊢
    go_loopw [7, 8] (fun v i wr => wr = w0 ∧ i = .int .i64 0 ∧ v = .slice (some ⟨w.heap.size, 0, none⟩) 0 0) (fun _ _ _ => 0)
    case atStart => exact ⟨rfl, rfl, rfl⟩
    case round =>
      obtain ⟨rfl, rfl, rfl⟩ := hrel
      by_cases hl : 0 < a.length
      · have i2 : (0 : Int) < (a.length : Int) := by omega
        go_wp2_with fail
        refine (HA.out _ (queriesR_below H.out hbel)).mono ?_
        rintro e w1 ⟨rfl, hb1⟩
        have hown1 := ownsN_below hown hb1
        have hbel1 := hbel.trans (hb1.mono hbel.size)
        clear hown hbel hb1
        go_wp2
        go_ret
        exact ⟨_, rfl, hown1, hbel1⟩
      · have hl2 : ¬ ((0 : Int) < (a.length : Int)) := by omega
        go_wp2
        go_ret
        exact ⟨_, rfl, hown, hbel⟩
  | true =>
    rw [ha] at HA
    cases hf : okF f with
    | false =>
      have HE : Hid (stabL a f v = []) := Lib.hid (stabS_no (by rw [ha, hf]; rfl))
      rw [hf] at HF
      clear ha hf HV
      rw [HE.out]
      clear HE
      go_enter Tryd.func53, Tryd.ntmps53
      go_wp2
      have hown := ownsN_lit w w.heap.size (Nat.le_refl _) #[] 0 [] rfl rfl (by decide)
      have hbel := (Below.refl w.heap.size w).alloc (Nat.le_refl _) (.cells #[] 3)
      generalize w.alloc (.cells #[] 3) = w0 at hown hbel ⊢
      go_loopw [7, 8] (fun v i wr => wr = w0 ∧ i = .int .i64 0 ∧ v = .slice (some ⟨w.heap.size, 0, none⟩) 0 0) (fun _ _ _ => 0)
      case atStart => exact ⟨rfl, rfl, rfl⟩
      case round =>
        obtain ⟨rfl, rfl, rfl⟩ := hrel
        by_cases hl : 0 < a.length
        · have i2 : (0 : Int) < (a.length : Int) := by omega
          go_wp2_with fail
          refine (HA.out _ (queriesR_below H.out hbel)).mono ?_
          rintro e w1 ⟨rfl, hb1⟩
          have hown1 := ownsN_below hown hb1
          have hbel1 := hbel.trans (hb1.mono hbel.size)
          clear hown hbel hb1
          go_wp2_with fail
          refine (HF.out _).mono ?_
          rintro e w2 ⟨rfl, rfl⟩
          go_wp2
          go_ret
          exact ⟨_, rfl, hown1, hbel1⟩
        · have hl2 : ¬ ((0 : Int) < (a.length : Int)) := by omega
          go_wp2
          go_ret
          exact ⟨_, rfl, hown, hbel⟩
    | true =>
      rw [hf] at HF
      cases hv : okV v with
      | false =>
        have HE : Hid (stabL a f v = []) := Lib.hid (stabS_no (by rw [ha, hf, hv]; rfl))
        rw [hv] at HV
        clear ha hf hv
        rw [HE.out]
        clear HE
        go_enter Tryd.func53, Tryd.ntmps53
        go_wp2
        have hown := ownsN_lit w w.heap.size (Nat.le_refl _) #[] 0 [] rfl rfl (by decide)
        have hbel := (Below.refl w.heap.size w).alloc (Nat.le_refl _) (.cells #[] 3)
        generalize w.alloc (.cells #[] 3) = w0 at hown hbel ⊢
        go_loopw [7, 8] (fun v i wr => wr = w0 ∧ i = .int .i64 0 ∧ v = .slice (some ⟨w.heap.size, 0, none⟩) 0 0) (fun _ _ _ => 0)
        case atStart => exact ⟨rfl, rfl, rfl⟩
        case round =>
          obtain ⟨rfl, rfl, rfl⟩ := hrel
          by_cases hl : 0 < a.length
          · have i2 : (0 : Int) < (a.length : Int) := by omega
            go_wp2_with fail
            refine (HA.out _ (queriesR_below H.out hbel)).mono ?_
            rintro e w1 ⟨rfl, hb1⟩
            have hown1 := ownsN_below hown hb1
            have hbel1 := hbel.trans (hb1.mono hbel.size)
            clear hown hbel hb1
            go_wp2_with fail
            refine (HF.out _).mono ?_
            rintro e w2 ⟨rfl, rfl⟩
            go_wp2_with fail
            refine (HV.out _).mono ?_
            rintro e w2 ⟨rfl, rfl⟩
            go_wp2
            go_ret
            exact ⟨_, rfl, hown1, hbel1⟩
          · have hl2 : ¬ ((0 : Int) < (a.length : Int)) := by omega
            go_wp2
            go_ret
            exact ⟨_, rfl, hown, hbel⟩
      | true =>
        have HE := Lib.hid (stabS_yes (a := a) (f := f) (v := v) (by rw [ha, hf, hv]; rfl))
        rw [hv] at HV
        rw [HE.out]
        clear ha hf hv HE
        go_enter Tryd.func53, Tryd.ntmps53
        go_wp2
        go_loopw [7, 8] (fun o i wr => ∃ k : Nat, k ≤ a.length ∧ i = .int .i64 k ∧ OwnsN wr w.heap.size o (((a.take k).filter (admQ f v)).map (·.1)) ∧ Below w.heap.size w wr) (fun _ i _ => a.length - (intOf i).toNat)
        case atStart => exact ⟨0, Nat.zero_le _, rfl, ownsN_lit w _ (Nat.le_refl _) #[] 0 [] rfl rfl (by decide), (Below.refl _ _).alloc (Nat.le_refl _) _⟩
        case round =>
          obtain ⟨k, hk, rfl, hown, hbel⟩ := hrel
          by_cases hlt : k < a.length
          · have i1 : (0 : Int) ≤ (k : Int) := by omega
            have i2 : (k : Int) < (a.length : Int) := by omega
            have HL := Lib.hid (admF_len a f v k)
            have HYES := Lib.hid (fun h => admF_yes (f := f) (v := v) hlt h)
            have HNO := Lib.hid (fun h => admF_no (f := f) (v := v) hlt h)
            have HCL := Lib.hid (szQL_at HS.out hlt).1
            go_wp2_with fail
            refine (HA.out _ (queriesR_below H.out hbel)).mono ?_
            rintro e w1 ⟨rfl, hb1⟩
            have hown1 := ownsN_below hown hb1
            have hbel1 := hbel.trans (hb1.mono hbel.size)
            clear hown hbel hb1
            go_wp2_with fail
            refine (HF.out _).mono ?_
            rintro e w2 ⟨rfl, rfl⟩
            go_wp2_with fail
            refine (HV.out _).mono ?_
            rintro e w2 ⟨rfl, rfl⟩
            have hB1 := hbel1.size
            obtain ⟨b, off, cap', cv, ov, hv, hbl, hc1, hc2, hc3, hc4, hC, hO⟩ := queriesR_at (queriesR_below H.out hbel1) hlt
            simp only [Value.slice.injEq] at hv
            obtain ⟨rfl, _, rfl⟩ := hv
            generalize a.getD k q0D = q at *
            obtain ⟨qid, qtn, qc, qo⟩ := q
            simp only at hc1 hc2 hc3 hc4 hC hO HCL HYES
            have HAQ : Hid (admQ f v (qid, qtn, qc, qo) = admB qc f v) := Lib.hid rfl
            obtain ⟨ca, ccap, rfl⟩ := condsR_len hC
            obtain ⟨oa, ocap, rfl⟩ := ints_len hO
            have HCC := Lib.hid hC
            clear hC hO
            generalize ((a.take k).filter (admQ f v)).map (·.1) = ac at *
            go_wp2_with fail
            refine (specAdmits qid qtn f v (.slice ca qc.length ccap) (.slice oa qo.length ocap) qc _ HCC.out HCL.out).mono ?_
            rintro e w3 ⟨rfl, hb3⟩
            rw [← HAQ.out]
            have hown3 := ownsN_below hown1 hb3
            have hbel3 := hbel1.trans (hb3.mono hbel1.size)
            have hB3 := hbel3.size
            have p1 := (hb3.cell (p := ⟨b, off + k * 4, none⟩) hbl).trans hc1
            clear hown1 hbel1 hb3 hc1 hc2 hc3 hc4
            cases hmb : admQ f v (qid, qtn, qc, qo) with
            | true =>
              have HY := Lib.hid (HYES.out hmb)
              clear hmb HYES HNO
              go_wp2_with (at_builtin; refine append_ints rfl (.tmp 35) (.tmp 41) rfl w.heap.size _ _ rfl hown3 hB3 _ [qid] 1 _ rfl (by first | rfl | (simp; done)) rfl (by have := HL.out; simp; omega) ?_)
              intro v' w4 hown4 hb4
              rw [HY.out] at hown4
              have hb5 := hbel3.trans hb4
              clear hown3 hbel3 hb4 p1
              go_wp2
              go_roundw
              case rel => exact ⟨k + 1, by omega, by go_num, hown4, hb5⟩
              case measure => simp [intOf]; omega
            | false =>
              have HY := Lib.hid (HNO.out hmb)
              clear hmb HYES HNO
              rw [HY.out] at hown3
              go_wp2
              go_roundw
              case rel => exact ⟨k + 1, by omega, by go_num, hown3, hbel3⟩
              case measure => simp [intOf]; omega
          · obtain rfl : k = a.length := by omega
            rw [List.take_length] at hown
            go_wp2
            go_ret
            exact ⟨_, rfl, hown, hbel⟩
end Go.Proofs.YtidhmgboknffkaaDoor
namespace Go.Proofs.YtidhmgboknffkaaDoor
open Go.RowKit
set_option linter.unusedVariables false
set_option linter.unusedSimpArgs false
set_option maxHeartbeats 8000000 in
set_option maxRecDepth 100000 in
theorem specStabIndex (va : Value) (a : List QD) (f : Int) (w : World) (h : QueriesR w va a) (hs : szQL a ≤ 1048576) :
    Calls Tryd.prog 44 #[va, .int .i64 f] w (FreshSpans w (spansL a f)) := by
  have H := Lib.hid h
  obtain ⟨ao, cap, rfl⟩ := queriesR_len h
  have HA := Lib.hid (fun w h => specAreQueries (.slice ao a.length cap) a w h hs)
  have HF : Hid (∀ w, Calls Tryd.prog 69 #[.int .i64 f, .int .i64 0, .int .i64 2] w fun e w' => e = .returned (.bool (okF f)) ∧ w' = w) := Lib.hid (fun w => in_is f 0 2 w)
  have HST : Hid (∀ (k : Nat) (w : World), QueriesR w (.slice ao a.length cap) a → Calls Tryd.prog 53 #[.slice ao a.length cap, .int .i64 f, .int .i64 (k : Int)] w (FreshInts w (stabL a f k))) := Lib.hid (fun k w h => specStabSet _ a f k w h hs)
  have HLN : Hid (∀ k : Nat, (stabL a f k).length ≤ 24) := Lib.hid (fun k => stabL_len a f k)
  have HFL : Hid (∀ v : Int, (stabL a f v).length ≤ 24) := Lib.hid (fun v => stabL_len a f v)
  clear h hs
  cases ha : areQB a with
  | false =>
    have HE : Hid (spansL a f = []) := Lib.hid (spansL_no (by rw [ha, Bool.false_and]))
    rw [ha] at HA
    rw [HE.out]
    clear HF HE ha HLN HST
    have oe := ownsP_empty w
    have be := (Below.refl w.heap.size w).alloc (Nat.le_refl _) (.cells #[] 83)
    go_enter Tryd.func44, Tryd.ntmps44
    go_wp2_with fail
    generalize w.alloc (.cells #[] 83) = W0 at *
    refine (HA.out _ (queriesR_below H.out be)).mono ?_
    rintro e w1 ⟨rfl, b1⟩
    have b2 := be.trans (b1.mono be.size)
    have o2 := ownsP_below oe b1
    clear b1 oe be
    go_wp2
    go_ret
    exact ⟨_, rfl, o2, b2⟩
  | true =>
    rw [ha] at HA
    cases hf : okF f with
    | false =>
      have HE : Hid (spansL a f = []) := Lib.hid (spansL_no (by rw [ha, hf, Bool.and_false]))
      rw [hf] at HF
      rw [HE.out]
      clear HE ha hf HLN HST
      have oe := ownsP_empty w
      have be := (Below.refl w.heap.size w).alloc (Nat.le_refl _) (.cells #[] 83)
      go_enter Tryd.func44, Tryd.ntmps44
      go_wp2_with fail
      generalize w.alloc (.cells #[] 83) = W0 at *
      refine (HA.out _ (queriesR_below H.out be)).mono ?_
      rintro e w1 ⟨rfl, b1⟩
      have b2 := be.trans (b1.mono be.size)
      have o2 := ownsP_below oe b1
      clear b1 oe be
      go_wp2_with fail
      refine (HF.out _).mono ?_
      rintro e w2 ⟨rfl, rfl⟩
      go_wp2
      go_ret
      exact ⟨_, rfl, o2, b2⟩
    | true =>
      have HE : Hid (spansL a f = spansTo (stabL a f) 100) := Lib.hid (spansL_yes (by rw [ha, hf, Bool.and_self]))
      rw [hf] at HF
      rw [HE.out]
      obtain ⟨F, hF⟩ : ∃ F : Int → List Int, stabL a f = F := ⟨_, rfl⟩
      rw [hF] at HFL HLN HST ⊢
      obtain ⟨R, hR⟩ : ∃ R, spansTo F 100 = R := ⟨_, rfl⟩
      rw [hR]
      have HR := Lib.hid hR
      clear HE ha hf hF hR
      have oe := ownsP_empty w
      have be := (Below.refl w.heap.size w).alloc (Nat.le_refl _) (.cells #[] 83)
      go_enter Tryd.func44, Tryd.ntmps44
      go_wp2_with fail
      generalize w.alloc (.cells #[] 83) = W0 at *
      refine (HA.out _ (queriesR_below H.out be)).mono ?_
      rintro e w1 ⟨rfl, b1⟩
      have b2 := be.trans (b1.mono be.size)
      have o2 := ownsP_below oe b1
      clear b1 oe be
      go_wp2_with fail
      refine (HF.out _).mono ?_
      rintro e w2 ⟨rfl, rfl⟩
      go_wp2
      go_loopw [5, 6] (fun o i wr => ∃ k : Nat, k ≤ 100 ∧ i = .int .i64 k ∧ OwnsP wr w.heap.size o (spansTo F k) ∧ Below w.heap.size w wr) (fun _ i _ => 100 - (intOf i).toNat)
      case atStart => exact ⟨0, Nat.zero_le _, rfl, o2, b2⟩
      case round =>
        obtain ⟨k, hk, rfl, hown, hbel⟩ := hrel
        by_cases hlt : k < 100
        · have i1 : (0 : Int) ≤ (k : Int) := by omega
          have i2 : (k : Int) ≤ 99 := by omega
          have i4 : (k : Int) < 100 := by omega
          have HAL : Hid ((spansTo F k).length ≤ 100) := Lib.hid (by have := spansTo_len F k; omega)
          have HSL : Hid ((F (k : Int)).length ≤ 24) := Lib.hid (HLN.out k)
          have HST1 : Hid (0 < (spansTo F k).length → ((spansTo F k).getD ((spansTo F k).length - 1) p0D).2.2 = F (k : Int) → (spansTo F k).set ((spansTo F k).length - 1) (((spansTo F k).getD ((spansTo F k).length - 1) p0D).1, (k : Int), ((spansTo F k).getD ((spansTo F k).length - 1) p0D).2.2) = spansTo F (k + 1)) := Lib.hid (fun h0 h => stepP_set h0 h)
          have HST2 : Hid (¬ (0 < (spansTo F k).length ∧ ((spansTo F k).getD ((spansTo F k).length - 1) p0D).2.2 = F (k : Int)) → spansTo F k ++ [((k : Int), (k : Int), F (k : Int))] = spansTo F (k + 1)) := Lib.hid (fun h => stepP_app h)
          have HSTL : Hid (∀ j, j < (spansTo F k).length → ((spansTo F k).getD j p0D).2.2.length ≤ 24) := Lib.hid (fun j hj => (spansTo_sets (F := F) (M := 24) (fun v => HFL.out v) k _ (getD_mem hj)))
          generalize spansTo F k = acc at *
          obtain ⟨oa, ocap, rfl⟩ := ownsP_len hown
          have HOW := Lib.hid hown
          have HBL := Lib.hid hbel
          clear hown hbel
          go_wp2_with fail
          refine (HST.out k _ (queriesR_below H.out HBL.out)).mono ?_
          rintro e v1 ⟨su, rfl, os, b1⟩
          generalize F (k : Int) = s at *
          obtain ⟨sa, sc, rfl⟩ := ints_len (ownsN_ints os)
          have HOS := Lib.hid os
          have HB1 := Lib.hid b1
          clear os b1
          by_cases hp : 0 < acc.length
          · have hp2 : (0 : Int) < (acc.length : Int) := by omega
            obtain ⟨g, cap2, hv, hBg, hgw, hfz, vv, hc2, hc1, hI⟩ := ownsP_shape HOW.out hp
            simp only [Value.slice.injEq, true_and] at hv
            obtain ⟨rfl, rfl⟩ := hv
            obtain ⟨va2, vcap2, rfl⟩ := ints_len hI
            have d2 := (HB1.out.cell (p := ⟨g, (acc.length - 1) * 3 + 2, none⟩) hgw).trans hc2
            have d1 := (HB1.out.cell (p := ⟨g, (acc.length - 1) * 3 + 1, none⟩) hgw).trans hc1
            have HI1 := Lib.hid (ints_below hI HB1.out)
            have hxl := HSTL.out _ (show acc.length - 1 < acc.length by omega)
            obtain ⟨m, hm⟩ : ∃ m, acc.length = m + 1 := ⟨acc.length - 1, by omega⟩
            have HM := Lib.hid hm
            rw [show acc.length - 1 = m by omega] at d1 d2 HI1 hxl HST1 HST2
            have HW1 := Lib.hid (fun (u : World) (h : OwnsP u w.heap.size (.slice (some ⟨g, 0, none⟩) acc.length ocap) acc) => ownsP_to h (k := m) (by have := HM.out; omega) (k : Int))
            have HOW1 := Lib.hid (ownsP_below HOW.out HB1.out)
            rw [hm] at HOW HOW1 HW1
            have hm9 : m ≤ 99 := by have := HAL.out; omega
            have HMR := Lib.hid hp
            clear hc1 hc2 hI hfz HSTL hp hp2
            have hp2 : (0 : Int) < (m : Int) + 1 := by omega
            have hp3 : (m : Int) < (m : Int) + 1 := by omega
            have hp4 : (0 : Int) ≤ (m : Int) := by omega
            clear hm
            obtain ⟨r, hr⟩ : ∃ r, acc.getD m p0D = r := ⟨_, rfl⟩
            rw [hr] at d1 d2 HI1 hxl HST1 HST2 HW1
            clear hr
            obtain ⟨rf, rt, xs⟩ := r
            simp only at d1 d2 HI1 hxl HST1 HST2 HW1
            rw [HM.out]
            go_wp2_with fail
            refine (specInts (.slice va2 xs.length vcap2) (.slice sa s.length sc) xs s _ HI1.out (ownsN_ints HOS.out) (by omega) (by have := HSL.out; omega)).mono ?_
            rintro e v2 ⟨rfl, b2⟩
            have e1 := (b2.cell (p := ⟨g, m * 3 + 1, none⟩) (Nat.lt_of_lt_of_le hgw HB1.out.size)).trans d1
            have HO2 := Lib.hid (ownsP_below HOW1.out b2)
            have HC2 := Lib.hid ((HBL.out.trans (HB1.out.mono HBL.out.size)).trans (b2.mono (HBL.out.trans (HB1.out.mono HBL.out.size)).size))
            have HS2 := Lib.hid (ownsN_below HOS.out b2)
            clear d1 d2 HI1 HOW1
            cases hd : decide (xs = s) with
            | true =>
              have HX := Lib.hid (HST1.out (by have := HM.out; omega) (of_decide_eq_true hd))
              clear hd HST1 HST2
              have fz : v2.frozen? ⟨g, m * 3 + 1, none⟩ = false := by
                obtain ⟨cs2, vs2, q1, _⟩ := HO2.out
                rw [HM.out] at q1
                exact World.ownsRow.frozenAt q1 _
              have FO := Lib.hid (HW1.out v2 HO2.out)
              rw [HX.out] at FO
              have B4 := HC2.out.setCell (p := ⟨g, m * 3 + 1, none⟩) hBg (.int .i64 (k : Int))
              clear b2 HW1
              go_wp2
              go_roundw
              case rel => exact ⟨k + 1, by omega, by go_num, FO.out, B4⟩
              case measure => simp [intOf]; omega
            | false =>
              have HX := Lib.hid (HST2.out (fun g => of_decide_eq_false hd g.2))
              clear hd HST2 e1
              have HBW := Lib.hid (HB1.out.trans (b2.mono HB1.out.size))
              clear b2
              clear HST1 HW1 hp2 hp3 hp4
              obtain ⟨cs, vs, q1, q2, q3⟩ := HOW.out
              have HL1 := Lib.hid (fun (j : Nat) (hj : j < acc.length) (q : Nat) (e : (vs j).ownBlock = some q) => ((q2 j hj).2.2.2.1.lt q e).2)
              have HL2 := Lib.hid (fun (q : Nat) e => (q1.lt q e).2)
              have hbb := HBW.out
              have H1 := Lib.hid (ownsRow_below q1 hbb)
              have H2 := Lib.hid (fun (j : Nat) (hj : j < acc.length) => (⟨(q2 j hj).1, (q2 j hj).2.1, (q2 j hj).2.2.1, ownsN_below (q2 j hj).2.2.2.1 hbb, (q2 j hj).2.2.2.2⟩ : _ ∧ _ ∧ _ ∧ _ ∧ _))
              have H3 := Lib.hid q3
              have hal : Below v2.heap.size v2 (v2.alloc (.cells #[.int .i64 (k : Int), .int .i64 (k : Int), .slice sa s.length sc] 83)) := (Below.refl _ _).alloc (Nat.le_refl _) _
              have HAL2 := Lib.hid hal
              have HCA := Lib.hid (HC2.out.trans (hal.mono HC2.out.size))
              have oX : SpansC (v2.alloc (.cells #[.int .i64 (k : Int), .int .i64 (k : Int), .slice sa s.length sc] 83)) w.heap.size _ acc.length cs := spansC_kept H1.out hal
              rw [HM.out] at oX
              clear hal q1 q2 q3 hbb
              go_wp2_with (at_builtin; refine append_spans rfl (.tmp 47) (.tmp 52) rfl w.heap.size _ _ _ rfl oX HCA.out.size ⟨v2.heap.size, 0, none⟩ 1 1 [.int .i64 (k : Int), .int .i64 (k : Int), .slice sa s.length sc] rfl rfl (fun j u hj => by rw [Go.WideShapes.add_plain, Nat.zero_add, cell_lit]; simpa using hj) (by intro u hu; simp at hu; rcases hu with rfl | rfl | rfl <;> rfl) (by have := HAL.out; omega) ?_)
              intro x3 W3 oX3 gX3 _ hat3
              have oX4 : SpansC W3 w.heap.size x3 (acc.length + 1) (cs ++ [.int .i64 (k : Int), .int .i64 (k : Int), .slice sa s.length sc]) := by
                rw [HM.out]; exact oX3
              skip
              have FO := append_ownsP (r := ((k : Int), (k : Int), s)) H1.out H2.out H3.out HL1.out HL2.out HBL.out.size HS2.out HAL2.out gX3 oX4 (by simpa [World.size_alloc] using hat3)
              have FB := HCA.out.grown gX3 HCA.out.size (fun q e => (H1.out.lt q e).1)
              rw [HX.out] at FO
              clear oX oX3 oX4 gX3 hat3
              go_wp2
              go_roundw
              case rel => exact ⟨k + 1, by omega, by go_num, FO, FB⟩
              case measure => simp [intOf]; omega
          · have hz : acc.length = 0 := by omega
            have HX := Lib.hid (HST2.out (fun g => hp g.1))
            have HO2 := Lib.hid (ownsP_below HOW.out HB1.out)
            have HC2 := Lib.hid (HBL.out.trans (HB1.out.mono HBL.out.size))
            have HS2 := HOS
            have HBW := HB1
            clear HST2 hp HSTL
            rw [hz]
            clear HST1
            obtain ⟨cs, vs, q1, q2, q3⟩ := HOW.out
            have HL1 := Lib.hid (fun (j : Nat) (hj : j < acc.length) (q : Nat) (e : (vs j).ownBlock = some q) => ((q2 j hj).2.2.2.1.lt q e).2)
            have HL2 := Lib.hid (fun (q : Nat) e => (q1.lt q e).2)
            have hbb := HBW.out
            have H1 := Lib.hid (ownsRow_below q1 hbb)
            have H2 := Lib.hid (fun (j : Nat) (hj : j < acc.length) => (⟨(q2 j hj).1, (q2 j hj).2.1, (q2 j hj).2.2.1, ownsN_below (q2 j hj).2.2.2.1 hbb, (q2 j hj).2.2.2.2⟩ : _ ∧ _ ∧ _ ∧ _ ∧ _))
            have H3 := Lib.hid q3
            have hal : Below v1.heap.size v1 (v1.alloc (.cells #[.int .i64 (k : Int), .int .i64 (k : Int), .slice sa s.length sc] 83)) := (Below.refl _ _).alloc (Nat.le_refl _) _
            have HAL2 := Lib.hid hal
            have HCA := Lib.hid (HC2.out.trans (hal.mono HC2.out.size))
            have oX : SpansC (v1.alloc (.cells #[.int .i64 (k : Int), .int .i64 (k : Int), .slice sa s.length sc] 83)) w.heap.size _ acc.length cs := spansC_kept H1.out hal
            rw [hz] at oX
            clear hal q1 q2 q3 hbb
            go_wp2_with (at_builtin; refine append_spans rfl (.tmp 47) (.tmp 52) rfl w.heap.size _ _ _ rfl oX HCA.out.size ⟨v1.heap.size, 0, none⟩ 1 1 [.int .i64 (k : Int), .int .i64 (k : Int), .slice sa s.length sc] rfl rfl (fun j u hj => by rw [Go.WideShapes.add_plain, Nat.zero_add, cell_lit]; simpa using hj) (by intro u hu; simp at hu; rcases hu with rfl | rfl | rfl <;> rfl) (by have := HAL.out; omega) ?_)
            intro x3 W3 oX3 gX3 _ hat3
            have oX4 : SpansC W3 w.heap.size x3 (acc.length + 1) (cs ++ [.int .i64 (k : Int), .int .i64 (k : Int), .slice sa s.length sc]) := by
              rw [hz]; exact oX3
            rw [show (Value.slice oa 0 ocap).ownBlock = (Value.slice oa acc.length ocap).ownBlock by rw [hz]] at gX3 hat3
            have FO := append_ownsP (r := ((k : Int), (k : Int), s)) H1.out H2.out H3.out HL1.out HL2.out HBL.out.size HS2.out HAL2.out gX3 oX4 (by simpa [World.size_alloc] using hat3)
            have FB := HCA.out.grown gX3 HCA.out.size (fun q e => (H1.out.lt q e).1)
            rw [HX.out] at FO
            clear oX oX3 oX4 gX3 hat3
            go_wp2
            go_roundw
            case rel => exact ⟨k + 1, by omega, by go_num, FO, FB⟩
            case measure => simp [intOf]; omega
        · obtain rfl : k = 100 := by omega
          rw [HR.out] at hown
          have i2 : ¬ ((100 : Nat) : Int) ≤ 99 := by omega
          have i3 : ¬ ((100 : Nat) : Int) < 100 := by omega
          obtain ⟨oa, ocap, rfl⟩ := ownsP_len hown
          go_wp2
          go_ret
          exact ⟨_, rfl, hown, hbel⟩
end Go.Proofs.YtidhmgboknffkaaDoor
namespace Go.Proofs.YtidhmgboknffkaaDoor
open Go.RowKit
set_option linter.unusedVariables false
set_option linter.unusedSimpArgs false
/-- As far as k the fields are the spans. -/
def FldTo (qs : List QD) (fs : List (List SpanD)) (k : Nat) : Prop := ∀ j, j < k → fs.getD j [] = spansL qs (j : Int)
theorem isIdx_no {qs : List QD} {fs : List (List SpanD)} (h : areQB qs = false) : isIndexB qs fs = false := by unfold isIndexB; rw [h]; rfl
theorem isIdx_len {qs : List QD} {fs : List (List SpanD)} (h : ¬ fs.length = 3) : isIndexB qs fs = false := by
  unfold isIndexB
  rw [decide_eq_false (fun e => h (by rw [e, fldTo_len])), Bool.and_false]
theorem isIdx_at {qs : List QD} {fs : List (List SpanD)} {k : Nat} (hk : k < 3) (h : ¬ fs.getD k [] = spansL qs (k : Int)) : isIndexB qs fs = false := by
  unfold isIndexB
  rw [decide_eq_false (fun e => h (by rw [e, fldTo_at qs hk])), Bool.and_false]
theorem isIdx_yes {qs : List QD} {fs : List (List SpanD)} (hq : areQB qs = true) (hl : fs.length = 3) (h : FldTo qs fs 3) : isIndexB qs fs = true := by
  unfold isIndexB
  rw [hq, Bool.true_and, decide_eq_true_eq]
  apply List.ext_getElem
  · rw [hl, fldTo_len]
  · intro i h1 h2
    have := h i (by omega)
    rw [← fldTo_at qs (k := 3) (by omega)] at this
    simpa [List.getD, h1, h2] using this
set_option maxHeartbeats 16000000 in
set_option maxRecDepth 100000 in
theorem specIsIndex (qv fv : Value) (qs : List QD) (fs : List (List SpanD)) (w : World) (h1 : SlR tQuery w qv qs) (h2 : SlR tSpanS w fv fs) (hs : zL tQuery qs ≤ 1048576) (hz : zL tSpanS fs ≤ 1048576) :
    Calls Tryd.prog 14 #[.agg #[qv, fv]] w fun e w' => e = .returned (.bool (isIndexB qs fs)) ∧ Below w.heap.size w w' := by
  have HSQ : Hid (szQL qs ≤ 1048576) := Lib.hid (by rw [← zL_queries]; exact hs)
  have HZF := Lib.hid hz
  have hlen := zL_len hs
  have hlen2 := zL_len hz
  obtain ⟨qa, qc, rfl⟩ := slR_len h1
  obtain ⟨fa, fc, rfl⟩ := slR_len h2
  have d0 := Lib.hid ((Below.refl w.heap.size w).alloc (Nat.le_refl _) (.cells #[.slice qa qs.length qc, .slice fa fs.length fc] 27))
  have B0 : Hid ((w.alloc (.cells #[.slice qa qs.length qc, .slice fa fs.length fc] 27)).heap[w.heap.size]? = some (.cells #[.slice qa qs.length qc, .slice fa fs.length fc] 27 (0, 0))) := Lib.hid (heap_alloc_new w _)
  have Y0 : Hid (w.heap.size < (w.alloc (.cells #[.slice qa qs.length qc, .slice fa fs.length fc] 27)).heap.size) := Lib.hid (by simp [World.size_alloc])
  have H1 := Lib.hid h1
  have H2 := Lib.hid h2
  have HA := Lib.hid (fun w h => specAreQueries (.slice qa qs.length qc) qs w h HSQ.out)
  clear h1 h2 hs hz
  cases hq : areQB qs with
  | false =>
    have HE := Lib.hid (isIdx_no (fs := fs) hq)
    rw [hq] at HA
    rw [HE.out]
    clear hq HE
    go_enter Tryd.func14, Tryd.ntmps14
    go_wp2_with fail
    generalize w.alloc (.cells #[.slice qa qs.length qc, .slice fa fs.length fc] 27) = W at *
    refine (HA.out W (slR_queries (slR_below tQuery_law H1.out d0.out))).mono ?_
    rintro e w1 ⟨rfl, b1⟩
    have D := Lib.hid (d0.out.trans (b1.mono d0.out.size))
    clear b1
    go_wp2
    go_ret
    exact ⟨rfl, D.out⟩
  | true =>
    have HQ := Lib.hid hq
    rw [hq] at HA
    clear hq
    by_cases hl : fs.length = 3
    · have HL := Lib.hid hl
      have hne : ((fs.length : Int) != 3) = false := by rw [hl]; rfl
      clear hl
      go_enter Tryd.func14, Tryd.ntmps14
      go_wp2_with fail
      generalize w.alloc (.cells #[.slice qa qs.length qc, .slice fa fs.length fc] 27) = W at *
      refine (HA.out W (slR_queries (slR_below tQuery_law H1.out d0.out))).mono ?_
      rintro e w1 ⟨rfl, b1⟩
      have k0 := (b1.block w.heap.size Y0.out).trans B0.out
      have d1 := d0.out.trans (b1.mono d0.out.size)
      have y1 := Nat.lt_of_lt_of_le Y0.out b1.size
      have c1 := (cell_of_row w1 _ 1 _ _ _ k0).trans (show _ = some (Value.slice fa fs.length fc) from rfl)
      clear b1 d0 B0 Y0
      go_wp2
      clear c1 hne
      go_loopw [3] (fun i wr => ∃ k : Nat, k ≤ 3 ∧ i = .int .i64 k ∧ Hid (FldTo qs fs k) ∧ wr.heap[w.heap.size]? = some (.cells #[.slice qa qs.length qc, .slice fa fs.length fc] 27 (0, 0)) ∧ Below w.heap.size w wr ∧ w.heap.size < wr.heap.size) (fun i _ => 3 - (intOf i).toNat)
      case atStart => exact ⟨0, by omega, rfl, Lib.hid (fun j hj => by omega), k0, d1, y1⟩
      case round =>
        obtain ⟨k, hk, rfl, hf, hr, hbel, hsz⟩ := hrel
        by_cases hlt : k < 3
        · have i1 : (0 : Int) ≤ (k : Int) := by omega
          have i2 : (k : Int) < 3 := by omega
          have i3 : (k : Int) < (fs.length : Int) := by have := HL.out; omega
          have hkf : k < fs.length := by have := HL.out; omega
          obtain ⟨b, off, cap', cs, hv, hbl, hcs, hR⟩ := slR_at H2.out hkf
          simp only [Value.slice.injEq] at hv
          obtain ⟨rfl, _, rfl⟩ := hv
          obtain ⟨u, rfl, hU⟩ := hR
          have p0 : w.cell? ⟨b, off + k, none⟩ = some u := by have := hcs 0 Nat.one_pos; rw [show tSpanS.n = 1 from rfl, Nat.mul_one, Nat.add_zero] at this; exact this
          have hzx := zL_at HZF.out hkf
          have HU := Lib.hid hU
          have HZU : Hid (zpL (fs.getD k []) ≤ 1048576) := Lib.hid (by rw [← zL_spans]; exact hzx)
          have HUL : Hid (∃ a cap, u = .slice a (fs.getD k []).length cap) := Lib.hid (slR_len hU)
          have HNO := Lib.hid (fun h => isIdx_at (qs := qs) (fs := fs) hlt h)
          have HST : Hid (fs.getD k [] = spansL qs (k : Int) → FldTo qs fs (k + 1)) := Lib.hid (fun h j hj => by
            by_cases e : j = k
            · rw [e]; exact h
            · exact hf.out j (by omega))
          have P0 := Lib.hid p0
          have HBL := Lib.hid hbl
          have B0 := Lib.hid hr
          have d := Lib.hid hbel
          have ZS : Hid (zpL (spansL qs (k : Int)) ≤ 1048576) := Lib.hid (by have := spansL_size qs (k : Int); omega)
          clear hcs p0 hU hzx hf hr hbel k0 d1 y1 hbl
          change Hid (SlR tSpan w u (fs.getD k [])) at HU
          generalize fs.getD k [] = rs at *
          obtain ⟨ua, uc, rfl⟩ := HUL.out
          clear HUL
          by_cases he : rs = spansL qs (k : Int)
          · have HS := Lib.hid (HST.out he)
            have HDE : Hid (decide (rs = spansL qs (k : Int)) = true) := Lib.hid (decide_eq_true he)
            clear he HST HNO
            go_wp2
            have p_B0_0 := (cell_of_row wr _ 0 _ _ _ B0.out).trans (show _ = some (Value.slice qa qs.length qc) from rfl)
            have p_B0_1 := (cell_of_row wr _ 1 _ _ _ B0.out).trans (show _ = some (Value.slice (some ⟨b, off, none⟩) fs.length fc) from rfl)
            have p_el := (d.out.cell (p := ⟨b, off + k, none⟩) HBL.out).trans P0.out
            refine wp_region_held_drew (S := fun w' => w'.cell? ⟨w.heap.size, 0, none⟩ = some (Value.slice qa qs.length qc) ∧ w'.cell? ⟨w.heap.size, 1, none⟩ = some (Value.slice (some ⟨b, off, none⟩) fs.length fc) ∧ w'.cell? ⟨b, off + k, none⟩ = some (Value.slice ua rs.length uc)) (by kernel_rfl) ⟨p_B0_0, p_B0_1, p_el⟩ (fun hHeld => ?_)
            clear p_B0_0 p_B0_1 p_el
            have cdr : Below wr.heap.size wr wr.drew := below_drew (Below.refl _ _)
            replace B0 := Lib.hid ((cdr.block w.heap.size (Array.getElem?_eq_some_iff.1 B0.out).1).trans B0.out)
            replace d := Lib.hid (d.out.trans (cdr.mono d.out.size))
            clear cdr
            refine take_runs (i := 0) (v := ?_) (by simp only [List.getElem?_toArray, List.getElem?_cons_succ, List.getElem?_cons_zero]; rfl) (by kernel_rfl) (by kernel_rfl) (by kernel_rfl) rfl (by exact fun _ _ _ h => h) (by rfl) ?_ (by assumption) ?_
            rotate_left
            · intro w hSw; (try dsimp only at hSw); go_simp; try (with_reducible rfl)
            try simp only [Act.put, List.setIfInBounds_toArray, List.set_cons_zero, List.set_cons_succ]
            refine take_runs (i := 1) (v := ?_) (by simp only [List.getElem?_toArray, List.getElem?_cons_succ, List.getElem?_cons_zero]; rfl) (by kernel_rfl) (by kernel_rfl) (by kernel_rfl) rfl (by exact fun _ _ _ h => h) (by rfl) ?_ (by assumption) ?_
            rotate_left
            · intro w hSw; (try dsimp only at hSw); go_simp; try (with_reducible rfl)
            try simp only [Act.put, List.setIfInBounds_toArray, List.set_cons_zero, List.set_cons_succ]
            refine take_runs (i := 2) (v := ?_) (by simp only [List.getElem?_toArray, List.getElem?_cons_succ, List.getElem?_cons_zero]; rfl) (by kernel_rfl) (by kernel_rfl) (by kernel_rfl) rfl (by exact fun _ _ _ h => h) (by rfl) ?_ (by assumption) ?_
            rotate_left
            · intro w hSw; (try dsimp only at hSw); go_simp; try (with_reducible rfl)
            try simp only [Act.put, List.setIfInBounds_toArray, List.set_cons_zero, List.set_cons_succ]
            refine take_runs (i := 3) (v := ?_) (by simp only [List.getElem?_toArray, List.getElem?_cons_succ, List.getElem?_cons_zero]; rfl) (by kernel_rfl) (by kernel_rfl) (by kernel_rfl) rfl (by exact fun _ _ _ h => h) (by rfl) ?_ (by assumption) ?_
            rotate_left
            · intro w hSw; (try dsimp only at hSw); go_simp; try (with_reducible rfl)
            try simp only [Act.put, List.setIfInBounds_toArray, List.set_cons_zero, List.set_cons_succ]
            refine take_runs (i := 4) (v := ?_) (by simp only [List.getElem?_toArray, List.getElem?_cons_succ, List.getElem?_cons_zero]; rfl) (by kernel_rfl) (by kernel_rfl) (by kernel_rfl) rfl (by exact fun _ _ _ h => h) (by rfl) ?_ (by assumption) ?_
            rotate_left
            · intro w hSw; (try dsimp only at hSw); go_simp; try (with_reducible rfl)
            try simp only [Act.put, List.setIfInBounds_toArray, List.set_cons_zero, List.set_cons_succ]
            refine take_runs (i := 5) (v := ?_) (by simp only [List.getElem?_toArray, List.getElem?_cons_succ, List.getElem?_cons_zero]; rfl) (by kernel_rfl) (by kernel_rfl) (by kernel_rfl) rfl (by exact fun _ _ _ h => h) (by rfl) ?_ (by assumption) ?_
            rotate_left
            · intro w hSw; (try dsimp only at hSw); go_simp; try (with_reducible rfl)
            try simp only [Act.put, List.setIfInBounds_toArray, List.set_cons_zero, List.set_cons_succ]
            refine take_runs (i := 6) (v := ?_) (by simp only [List.getElem?_toArray, List.getElem?_cons_succ, List.getElem?_cons_zero]; rfl) (by kernel_rfl) (by kernel_rfl) (by kernel_rfl) rfl (by exact fun _ _ _ h => h) (by rfl) ?_ (by assumption) ?_
            rotate_left
            · intro w hSw; (try dsimp only at hSw); go_simp; try (with_reducible rfl)
            try simp only [Act.put, List.setIfInBounds_toArray, List.set_cons_zero, List.set_cons_succ]
            refine take_runs (i := 7) (v := ?_) (by simp only [List.getElem?_toArray, List.getElem?_cons_succ, List.getElem?_cons_zero]; rfl) (by kernel_rfl) (by kernel_rfl) (by kernel_rfl) rfl (by exact fun _ _ _ h => h) (by rfl) ?_ (by assumption) ?_
            rotate_left
            · intro w hSw; (try dsimp only at hSw); go_simp; try (with_reducible rfl)
            try simp only [Act.put, List.setIfInBounds_toArray, List.set_cons_zero, List.set_cons_succ]
            refine wpAnyH_ready (rs := [8]) (by kernel_rfl) (by simp) ?_
            refine (AllReadyH.cons (o := _) (by simp only [List.getElem?_toArray, List.getElem?_cons_succ, List.getElem?_cons_zero]; rfl) (fun K hK => ?_) AllReadyH.nil)
            go_simp
            refine (specStabIndex (.slice qa qs.length qc) qs (k : Int) (wr.drew) (slR_queries (slR_below tQuery_law H1.out d.out)) HSQ.out).mono ?_
            rintro e w5 ⟨su, rfl, os, c5⟩
            replace B0 := Lib.hid ((c5.block w.heap.size (Array.getElem?_eq_some_iff.1 B0.out).1).trans B0.out)
            replace d := Lib.hid (d.out.trans (c5.mono d.out.size))
            have Z_w5 := Lib.hid (show wr.heap.size ≤ w5.heap.size from c5.size)
            clear c5
            have S5 := Lib.hid (ownsP_spans os)
            have SB5 := Lib.hid (Below.refl w5.heap.size w5)
            clear os
            have p_B0_0 := (cell_of_row w5 _ 0 _ _ _ B0.out).trans (show _ = some (Value.slice qa qs.length qc) from rfl)
            have p_B0_1 := (cell_of_row w5 _ 1 _ _ _ B0.out).trans (show _ = some (Value.slice (some ⟨b, off, none⟩) fs.length fc) from rfl)
            have p_el := (d.out.cell (p := ⟨b, off + k, none⟩) HBL.out).trans P0.out
            refine hK.out _ _ ⟨p_B0_0, p_B0_1, p_el⟩ (fun hHeld => ?_)
            clear p_B0_0 p_B0_1 p_el
            clear hK K
            try simp only [Act.put, List.setIfInBounds_toArray, List.set_cons_zero, List.set_cons_succ]
            refine wpAnyH_ready (rs := [9]) (by kernel_rfl) (by simp) ?_
            refine (AllReadyH.cons (o := _) (by simp only [List.getElem?_toArray, List.getElem?_cons_succ, List.getElem?_cons_zero]; rfl) (fun K hK => ?_) AllReadyH.nil)
            go_simp
            refine (specEqSpans (.slice ua rs.length uc) su rs (spansL qs (k : Int)) w5 (slR_spans (slR_below tSpan_law HU.out d.out)) S5.out HZU.out ZS.out).mono ?_
            rintro e w6 ⟨rfl, c6⟩
            replace B0 := Lib.hid ((c6.block w.heap.size (Array.getElem?_eq_some_iff.1 B0.out).1).trans B0.out)
            replace d := Lib.hid (d.out.trans (c6.mono d.out.size))
            have Z_w6 := Lib.hid (show w5.heap.size ≤ w6.heap.size from c6.size)
            clear c6 S5 SB5
            rw [HDE.out]
            have p_B0_0 := (cell_of_row w6 _ 0 _ _ _ B0.out).trans (show _ = some (Value.slice qa qs.length qc) from rfl)
            have p_B0_1 := (cell_of_row w6 _ 1 _ _ _ B0.out).trans (show _ = some (Value.slice (some ⟨b, off, none⟩) fs.length fc) from rfl)
            have p_el := (d.out.cell (p := ⟨b, off + k, none⟩) HBL.out).trans P0.out
            refine hK.out _ _ ⟨p_B0_0, p_B0_1, p_el⟩ (fun hHeld => ?_)
            clear p_B0_0 p_B0_1 p_el
            clear hK K
            try simp only [Act.put, List.setIfInBounds_toArray, List.set_cons_zero, List.set_cons_succ]
            refine take_runs (i := 10) (v := ?_) (by simp only [List.getElem?_toArray, List.getElem?_cons_succ, List.getElem?_cons_zero]; rfl) (by kernel_rfl) (by kernel_rfl) (by kernel_rfl) rfl (by exact fun _ _ _ h => h) (by rfl) ?_ (by assumption) ?_
            rotate_left
            · intro w hSw; (try dsimp only at hSw); go_simp; try (with_reducible rfl)
            try simp only [Act.put, List.setIfInBounds_toArray, List.set_cons_zero, List.set_cons_succ]
            refine wpAnyH_done (by kernel_rfl) ?_ _
            clear hHeld
            go_wp2
            go_roundw
            case rel => exact ⟨k + 1, by omega, by go_num, HS, B0.out, d.out, Nat.lt_of_lt_of_le hsz (Nat.le_trans Z_w5.out Z_w6.out)⟩
            case measure => simp [intOf]; omega
          · have HF := Lib.hid (HNO.out he)
            have HDE : Hid (decide (rs = spansL qs (k : Int)) = false) := Lib.hid (decide_eq_false he)
            clear he HST HNO
            go_wp2
            have p_B0_0 := (cell_of_row wr _ 0 _ _ _ B0.out).trans (show _ = some (Value.slice qa qs.length qc) from rfl)
            have p_B0_1 := (cell_of_row wr _ 1 _ _ _ B0.out).trans (show _ = some (Value.slice (some ⟨b, off, none⟩) fs.length fc) from rfl)
            have p_el := (d.out.cell (p := ⟨b, off + k, none⟩) HBL.out).trans P0.out
            refine wp_region_held_drew (S := fun w' => w'.cell? ⟨w.heap.size, 0, none⟩ = some (Value.slice qa qs.length qc) ∧ w'.cell? ⟨w.heap.size, 1, none⟩ = some (Value.slice (some ⟨b, off, none⟩) fs.length fc) ∧ w'.cell? ⟨b, off + k, none⟩ = some (Value.slice ua rs.length uc)) (by kernel_rfl) ⟨p_B0_0, p_B0_1, p_el⟩ (fun hHeld => ?_)
            clear p_B0_0 p_B0_1 p_el
            have cdr : Below wr.heap.size wr wr.drew := below_drew (Below.refl _ _)
            replace B0 := Lib.hid ((cdr.block w.heap.size (Array.getElem?_eq_some_iff.1 B0.out).1).trans B0.out)
            replace d := Lib.hid (d.out.trans (cdr.mono d.out.size))
            clear cdr
            refine take_runs (i := 0) (v := ?_) (by simp only [List.getElem?_toArray, List.getElem?_cons_succ, List.getElem?_cons_zero]; rfl) (by kernel_rfl) (by kernel_rfl) (by kernel_rfl) rfl (by exact fun _ _ _ h => h) (by rfl) ?_ (by assumption) ?_
            rotate_left
            · intro w hSw; (try dsimp only at hSw); go_simp; try (with_reducible rfl)
            try simp only [Act.put, List.setIfInBounds_toArray, List.set_cons_zero, List.set_cons_succ]
            refine take_runs (i := 1) (v := ?_) (by simp only [List.getElem?_toArray, List.getElem?_cons_succ, List.getElem?_cons_zero]; rfl) (by kernel_rfl) (by kernel_rfl) (by kernel_rfl) rfl (by exact fun _ _ _ h => h) (by rfl) ?_ (by assumption) ?_
            rotate_left
            · intro w hSw; (try dsimp only at hSw); go_simp; try (with_reducible rfl)
            try simp only [Act.put, List.setIfInBounds_toArray, List.set_cons_zero, List.set_cons_succ]
            refine take_runs (i := 2) (v := ?_) (by simp only [List.getElem?_toArray, List.getElem?_cons_succ, List.getElem?_cons_zero]; rfl) (by kernel_rfl) (by kernel_rfl) (by kernel_rfl) rfl (by exact fun _ _ _ h => h) (by rfl) ?_ (by assumption) ?_
            rotate_left
            · intro w hSw; (try dsimp only at hSw); go_simp; try (with_reducible rfl)
            try simp only [Act.put, List.setIfInBounds_toArray, List.set_cons_zero, List.set_cons_succ]
            refine take_runs (i := 3) (v := ?_) (by simp only [List.getElem?_toArray, List.getElem?_cons_succ, List.getElem?_cons_zero]; rfl) (by kernel_rfl) (by kernel_rfl) (by kernel_rfl) rfl (by exact fun _ _ _ h => h) (by rfl) ?_ (by assumption) ?_
            rotate_left
            · intro w hSw; (try dsimp only at hSw); go_simp; try (with_reducible rfl)
            try simp only [Act.put, List.setIfInBounds_toArray, List.set_cons_zero, List.set_cons_succ]
            refine take_runs (i := 4) (v := ?_) (by simp only [List.getElem?_toArray, List.getElem?_cons_succ, List.getElem?_cons_zero]; rfl) (by kernel_rfl) (by kernel_rfl) (by kernel_rfl) rfl (by exact fun _ _ _ h => h) (by rfl) ?_ (by assumption) ?_
            rotate_left
            · intro w hSw; (try dsimp only at hSw); go_simp; try (with_reducible rfl)
            try simp only [Act.put, List.setIfInBounds_toArray, List.set_cons_zero, List.set_cons_succ]
            refine take_runs (i := 5) (v := ?_) (by simp only [List.getElem?_toArray, List.getElem?_cons_succ, List.getElem?_cons_zero]; rfl) (by kernel_rfl) (by kernel_rfl) (by kernel_rfl) rfl (by exact fun _ _ _ h => h) (by rfl) ?_ (by assumption) ?_
            rotate_left
            · intro w hSw; (try dsimp only at hSw); go_simp; try (with_reducible rfl)
            try simp only [Act.put, List.setIfInBounds_toArray, List.set_cons_zero, List.set_cons_succ]
            refine take_runs (i := 6) (v := ?_) (by simp only [List.getElem?_toArray, List.getElem?_cons_succ, List.getElem?_cons_zero]; rfl) (by kernel_rfl) (by kernel_rfl) (by kernel_rfl) rfl (by exact fun _ _ _ h => h) (by rfl) ?_ (by assumption) ?_
            rotate_left
            · intro w hSw; (try dsimp only at hSw); go_simp; try (with_reducible rfl)
            try simp only [Act.put, List.setIfInBounds_toArray, List.set_cons_zero, List.set_cons_succ]
            refine take_runs (i := 7) (v := ?_) (by simp only [List.getElem?_toArray, List.getElem?_cons_succ, List.getElem?_cons_zero]; rfl) (by kernel_rfl) (by kernel_rfl) (by kernel_rfl) rfl (by exact fun _ _ _ h => h) (by rfl) ?_ (by assumption) ?_
            rotate_left
            · intro w hSw; (try dsimp only at hSw); go_simp; try (with_reducible rfl)
            try simp only [Act.put, List.setIfInBounds_toArray, List.set_cons_zero, List.set_cons_succ]
            refine wpAnyH_ready (rs := [8]) (by kernel_rfl) (by simp) ?_
            refine (AllReadyH.cons (o := _) (by simp only [List.getElem?_toArray, List.getElem?_cons_succ, List.getElem?_cons_zero]; rfl) (fun K hK => ?_) AllReadyH.nil)
            go_simp
            refine (specStabIndex (.slice qa qs.length qc) qs (k : Int) (wr.drew) (slR_queries (slR_below tQuery_law H1.out d.out)) HSQ.out).mono ?_
            rintro e w5 ⟨su, rfl, os, c5⟩
            replace B0 := Lib.hid ((c5.block w.heap.size (Array.getElem?_eq_some_iff.1 B0.out).1).trans B0.out)
            replace d := Lib.hid (d.out.trans (c5.mono d.out.size))
            have Z_w5 := Lib.hid (show wr.heap.size ≤ w5.heap.size from c5.size)
            clear c5
            have S5 := Lib.hid (ownsP_spans os)
            have SB5 := Lib.hid (Below.refl w5.heap.size w5)
            clear os
            have p_B0_0 := (cell_of_row w5 _ 0 _ _ _ B0.out).trans (show _ = some (Value.slice qa qs.length qc) from rfl)
            have p_B0_1 := (cell_of_row w5 _ 1 _ _ _ B0.out).trans (show _ = some (Value.slice (some ⟨b, off, none⟩) fs.length fc) from rfl)
            have p_el := (d.out.cell (p := ⟨b, off + k, none⟩) HBL.out).trans P0.out
            refine hK.out _ _ ⟨p_B0_0, p_B0_1, p_el⟩ (fun hHeld => ?_)
            clear p_B0_0 p_B0_1 p_el
            clear hK K
            try simp only [Act.put, List.setIfInBounds_toArray, List.set_cons_zero, List.set_cons_succ]
            refine wpAnyH_ready (rs := [9]) (by kernel_rfl) (by simp) ?_
            refine (AllReadyH.cons (o := _) (by simp only [List.getElem?_toArray, List.getElem?_cons_succ, List.getElem?_cons_zero]; rfl) (fun K hK => ?_) AllReadyH.nil)
            go_simp
            refine (specEqSpans (.slice ua rs.length uc) su rs (spansL qs (k : Int)) w5 (slR_spans (slR_below tSpan_law HU.out d.out)) S5.out HZU.out ZS.out).mono ?_
            rintro e w6 ⟨rfl, c6⟩
            replace B0 := Lib.hid ((c6.block w.heap.size (Array.getElem?_eq_some_iff.1 B0.out).1).trans B0.out)
            replace d := Lib.hid (d.out.trans (c6.mono d.out.size))
            have Z_w6 := Lib.hid (show w5.heap.size ≤ w6.heap.size from c6.size)
            clear c6 S5 SB5
            rw [HDE.out]
            have p_B0_0 := (cell_of_row w6 _ 0 _ _ _ B0.out).trans (show _ = some (Value.slice qa qs.length qc) from rfl)
            have p_B0_1 := (cell_of_row w6 _ 1 _ _ _ B0.out).trans (show _ = some (Value.slice (some ⟨b, off, none⟩) fs.length fc) from rfl)
            have p_el := (d.out.cell (p := ⟨b, off + k, none⟩) HBL.out).trans P0.out
            refine hK.out _ _ ⟨p_B0_0, p_B0_1, p_el⟩ (fun hHeld => ?_)
            clear p_B0_0 p_B0_1 p_el
            clear hK K
            try simp only [Act.put, List.setIfInBounds_toArray, List.set_cons_zero, List.set_cons_succ]
            refine take_runs (i := 10) (v := ?_) (by simp only [List.getElem?_toArray, List.getElem?_cons_succ, List.getElem?_cons_zero]; rfl) (by kernel_rfl) (by kernel_rfl) (by kernel_rfl) rfl (by exact fun _ _ _ h => h) (by rfl) ?_ (by assumption) ?_
            rotate_left
            · intro w hSw; (try dsimp only at hSw); go_simp; try (with_reducible rfl)
            try simp only [Act.put, List.setIfInBounds_toArray, List.set_cons_zero, List.set_cons_succ]
            refine wpAnyH_done (by kernel_rfl) ?_ _
            clear hHeld
            go_wp2
            go_ret
            exact ⟨ret_b HF.out.symm, d.out⟩
        · obtain rfl : k = 3 := by omega
          have HY := Lib.hid (isIdx_yes HQ.out HL.out hf.out)
          clear hf
          go_wp2
          go_ret
          exact ⟨ret_b HY.out.symm, hbel⟩
    · have HE := Lib.hid (isIdx_len (qs := qs) hl)
      have hne : ((fs.length : Int) != 3) = true := by rw [bne_iff_ne]; omega
      rw [HE.out]
      clear hl HE
      go_enter Tryd.func14, Tryd.ntmps14
      go_wp2_with fail
      generalize w.alloc (.cells #[.slice qa qs.length qc, .slice fa fs.length fc] 27) = W at *
      refine (HA.out W (slR_queries (slR_below tQuery_law H1.out d0.out))).mono ?_
      rintro e w1 ⟨rfl, b1⟩
      have k0 := (b1.block w.heap.size Y0.out).trans B0.out
      have D := Lib.hid (d0.out.trans (b1.mono d0.out.size))
      have c1 := (cell_of_row w1 _ 1 _ _ _ k0).trans (show _ = some (Value.slice fa fs.length fc) from rfl)
      clear b1 k0
      go_wp2
      go_ret
      exact ⟨rfl, D.out⟩
end Go.Proofs.YtidhmgboknffkaaDoor
