/-
  Texts of the proof, merged: IdxSpec3, IdxSpec4, IdxSpec5, IdxSpec6, IdxSpec7, IdxSpec8, IdxFit, OrdLaid, LawBestOrder, OpenInts, OpnT, OCond, OCondS, OQuery, OQueryS, OSpan, OSpanS, OSpanSS, OIndex, ORow, ORowS.
-/
import Derived.Test.YtidhmgboknffkaaGreatDoorG8
import Derived.Lib.MinMax
import Derived.Lib.LaidTab
import Derived.LaidMore
import Derived.ProofKit
import Derived.OpenShut
import Derived.Carry
import Derived.Lib.SmallJoins
import Derived.Deep.Slices
namespace Go.Proofs.YtidhmgboknffkaaGreatDoor
open Go.RowKit
set_option linter.unusedVariables false
set_option linter.unusedSimpArgs false
def FreshPW (w : World) (p : List Int × Int) (e : Ending) (w' : World) : Prop := ∃ v, e = .returned (.tuple #[v, .int .i64 p.2]) ∧ OwnsN w' w.heap.size v p.1 ∧ Below w.heap.size w w'
theorem probe_end {fs : List (List SpanD)} {vs os : List Int} {k : Nat} {set : List Int} {work : Int} (h : os.length ≤ k ∨ set.length = 0) : probeL fs vs (os.drop k) set work = (set, work) := by
  rcases h with h | h
  · rw [List.drop_eq_nil_of_le h]; rfl
  · cases os.drop k with
    | nil => rfl
    | cons f os => unfold probeL; rw [if_pos h]
theorem probe_step {fs : List (List SpanD)} {vs os : List Int} {k : Nat} {set : List Int} {work : Int} (hk : k < os.length) (h : 0 < set.length) :
    probeL fs vs (os.drop k) set work = probeL fs vs (os.drop (k + 1)) (meetL set (findL (fs.getD (os.getD k 0).toNat []) (vs.getD (os.getD k 0).toNat 0))) (work + 1 + ((min set.length (findL (fs.getD (os.getD k 0).toNat []) (vs.getD (os.getD k 0).toNat 0)).length : Nat) : Int)) := by
  have e : os.getD k 0 = os[k] := by simp [List.getD, hk]
  rw [e, List.drop_eq_getElem_cons hk]
  conv => lhs; unfold probeL
  rw [if_neg (by omega)]
theorem meetL_len (a b : List Int) : (meetL a b).length ≤ a.length := by
  unfold meetL
  split
  · exact List.length_filter_le _ _
  · simp
theorem findL_small {rs : List SpanD} {v : Int} (h : zpL rs ≤ 1048576) : (findL rs v).length ≤ 1048576 := by
  unfold findL
  cases e : rs.find? (hitB v) with
  | none => simp [p0D]
  | some r =>
    have hm := List.mem_of_find?_eq_some e
    obtain ⟨i, hi, rfl⟩ := List.getElem_of_mem hm
    have := zpL_span h hi
    simpa [List.getD, hi] using this
set_option maxHeartbeats 16000000 in
set_option maxRecDepth 100000 in
theorem specL6Probe (qv fv vv ov : Value) (qs : List QD) (fs : List (List SpanD)) (rid : Int) (vs os : List Int) (w : World) (h1 : SlR tQuery w qv qs) (h2 : SlR tSpanS w fv fs) (h3 : Ints w vv vs) (h4 : Ints w ov os) (hs : zL tQuery qs ≤ 1048576) (hz : zL tSpanS fs ≤ 1048576) (hl3 : fs.length = 3) (hv3 : vs.length = 3) (ho3 : os.length = 3) (hos : ∀ i, i < os.length → 0 ≤ os.getD i 0 ∧ os.getD i 0 ≤ 2) :
    Calls Tryz.prog 42 #[.agg #[qv, fv], .agg #[.int .i64 rid, vv], ov] w (FreshPW w (probeL fs vs os (allL qs) 0)) := by
  have hlen := zL_len hs
  have HZF := Lib.hid hz
  obtain ⟨qa, qc, rfl⟩ := slR_len h1
  obtain ⟨fa, fc, rfl⟩ := slR_len h2
  obtain ⟨va, vc, rfl⟩ := ints_len h3
  obtain ⟨oa, oc, rfl⟩ := ints_len h4
  have d0 := Lib.hid (((Below.refl w.heap.size w).alloc (Nat.le_refl _) (.cells #[.slice qa qs.length qc, .slice fa fs.length fc] 34)).alloc (by simp) (.cells #[.int .i64 rid, .slice va vs.length vc] 56))
  have B0 : Hid (((w.alloc (.cells #[.slice qa qs.length qc, .slice fa fs.length fc] 34)).alloc (.cells #[.int .i64 rid, .slice va vs.length vc] 56)).heap[w.heap.size]? = some (.cells #[.slice qa qs.length qc, .slice fa fs.length fc] 34 (0, 0))) := Lib.hid (by rw [Below.heap_alloc _ _ _ (by simp)]; exact heap_alloc_new w _)
  have B1 : Hid (((w.alloc (.cells #[.slice qa qs.length qc, .slice fa fs.length fc] 34)).alloc (.cells #[.int .i64 rid, .slice va vs.length vc] 56)).heap[(w.heap.size + 1)]? = some (.cells #[.int .i64 rid, .slice va vs.length vc] 56 (0, 0))) := Lib.hid (by
    have := heap_alloc_new (w.alloc (.cells #[.slice qa qs.length qc, .slice fa fs.length fc] 34)) (.cells #[.int .i64 rid, .slice va vs.length vc] 56)
    simpa only [World.size_alloc] using this)
  have Y0 : Hid (w.heap.size + 1 < ((w.alloc (.cells #[.slice qa qs.length qc, .slice fa fs.length fc] 34)).alloc (.cells #[.int .i64 rid, .slice va vs.length vc] 56)).heap.size) := Lib.hid (by simp)
  have H1 := Lib.hid h1; have H2 := Lib.hid h2; have H3 := Lib.hid h3; have H4 := Lib.hid h4
  have HL3 := Lib.hid hl3; have HV3 := Lib.hid hv3; have HO3 := Lib.hid ho3; have HOS := Lib.hid hos
  have hol : os.length ≤ 3 := by omega
  clear h1 h2 h3 h4 hs hz hl3 hv3 ho3 hos
  go_enter Tryz.func42, Tryz.ntmps42
  go_wp2_with fail
  generalize ((w.alloc (.cells #[.slice qa qs.length qc, .slice fa fs.length fc] 34)).alloc (.cells #[.int .i64 rid, .slice va vs.length vc] 56)) = W at *
  refine (specL6All (.slice qa qs.length qc) qs W (slR_queries (slR_below tQuery_law H1.out d0.out)) hlen).mono ?_
  rintro e w1 ⟨u, rfl, ou, b1⟩
  have k0 := (b1.block w.heap.size (Nat.lt_trans (Nat.lt_succ_self _) Y0.out)).trans B0.out
  have k1 := (b1.block (w.heap.size + 1) Y0.out).trans B1.out
  have d1 := d0.out.trans (b1.mono d0.out.size)
  have y1 := Nat.lt_of_lt_of_le Y0.out b1.size
  have ou1 := ownsN_up ou (show w.heap.size ≤ W.heap.size from d0.out.size)
  have HAL : Hid ((allL qs).length ≤ 1048576) := Lib.hid (by unfold allL; rw [List.length_map]; exact hlen)
  clear ou b1 d0 B0 B1 Y0
  go_wp2
  go_loopw [8, 9, 10] (fun o n i wr => ∃ (k : Nat) (set : List Int) (work : Int), k ≤ os.length ∧ i = .int .i64 k ∧ n = .int .i64 work ∧ OwnsN wr w.heap.size o set ∧ set.length ≤ 1048576 ∧ 0 ≤ work ∧ work ≤ 2097152 * (k : Int) ∧ Hid (probeL fs vs (os.drop k) set work = probeL fs vs os (allL qs) 0) ∧
    wr.heap[w.heap.size]? = some (.cells #[.slice qa qs.length qc, .slice fa fs.length fc] 34 (0, 0)) ∧ wr.heap[(w.heap.size + 1)]? = some (.cells #[.int .i64 rid, .slice va vs.length vc] 56 (0, 0)) ∧ Below w.heap.size w wr ∧ w.heap.size + 1 < wr.heap.size) (fun _ _ i _ => os.length - (intOf i).toNat)
  case atStart => exact ⟨0, allL qs, 0, Nat.zero_le _, rfl, rfl, ou1, HAL.out, by omega, by omega, Lib.hid (by rw [List.drop_zero]), k0, k1, d1, y1⟩
  case round =>
    obtain ⟨k, set, work, hk, rfl, rfl, hset, hsl, hw0, hw1, hP, hr0, hr1, hbel, hsz⟩ := hrel
    obtain ⟨sa, sc, rfl⟩ := ints_len (ownsN_ints hset)
    by_cases hgo : k < os.length ∧ 0 < set.length
    · obtain ⟨hlt, hpos⟩ := hgo
      have i1 : (0 : Int) ≤ (k : Int) := by omega
      have i2 : (k : Int) < (os.length : Int) := by omega
      have i3 : (0 : Int) < (set.length : Int) := by omega
      obtain ⟨g0, g1⟩ := HOS.out k hlt
      have HPS := Lib.hid (probe_step (fs := fs) (vs := vs) (work := work) hlt hpos)
      obtain ⟨ob, oo, ocap, hv, hobl, hoc⟩ := ints_cell H4.out (by omega)
      simp only [Value.slice.injEq] at hv
      obtain ⟨rfl, _, rfl⟩ := hv
      have OC := Lib.hid (hoc k hlt)
      have OBL := Lib.hid hobl
      clear hoc hobl
      generalize os.getD k 0 = f at *
      have hfn : f.toNat < fs.length := by have := HL3.out; omega
      have hvn : f.toNat < vs.length := by have := HV3.out; omega
      have j1 : f < (fs.length : Int) := by omega
      have j2 : f < (vs.length : Int) := by omega
      obtain ⟨fb, fo, fcap, cs, hv, hfbl, hcs, hR⟩ := slR_at H2.out hfn
      simp only [Value.slice.injEq] at hv
      obtain ⟨rfl, _, rfl⟩ := hv
      obtain ⟨u, rfl, hU⟩ := hR
      have FC : Hid (w.cell? ⟨fb, fo + f.toNat, none⟩ = some u) := Lib.hid (by have := hcs 0 Nat.one_pos; rw [show tSpanS.n = 1 from rfl, Nat.mul_one, Nat.add_zero] at this; exact this)
      have FBL := Lib.hid hfbl
      have hzx := zL_at HZF.out hfn
      have HZU : Hid (zpL (fs.getD f.toNat []) ≤ 1048576) := Lib.hid (by rw [← zL_spans]; exact hzx)
      have HUL : Hid (∃ a cap, u = .slice a (fs.getD f.toNat []).length cap) := Lib.hid (slR_len hU)
      have HU : Hid (SlR tSpan w u (fs.getD f.toNat [])) := Lib.hid hU
      obtain ⟨vb, vo, vcap, hv, hvbl, hvc⟩ := ints_cell H3.out (by omega)
      simp only [Value.slice.injEq] at hv
      obtain ⟨rfl, _, rfl⟩ := hv
      have VC := Lib.hid (hvc f.toNat hvn)
      have VBL := Lib.hid hvbl
      clear hvc hvbl hcs hU hzx hfbl hfn hvn
      generalize fs.getD f.toNat [] = rs at *
      generalize vs.getD f.toNat 0 = y at *
      obtain ⟨ra, rc, rfl⟩ := HUL.out
      clear HUL
      have HFS : Hid ((findL rs y).length ≤ 1048576) := Lib.hid (findL_small HZU.out)
      have B0 := Lib.hid hr0
      have B1 := Lib.hid hr1
      have d := Lib.hid hbel
      have HSET := Lib.hid hset
      have HY := Lib.hid hsz
      clear hr0 hr1 hbel hset k0 k1 d1 y1 ou1 hsz
      go_wp2
      have HYW : Hid (w.heap.size ≤ wr.heap.size) := Lib.hid d.out.size
      have p_B0_0 := (cell_of_row wr _ 0 _ _ _ B0.out).trans (show _ = some (Value.slice qa qs.length qc) from rfl)
      have p_B0_1 := (cell_of_row wr _ 1 _ _ _ B0.out).trans (show _ = some (Value.slice (some ⟨fb, fo, none⟩) fs.length fc) from rfl)
      have p_B1_0 := (cell_of_row wr _ 0 _ _ _ B1.out).trans (show _ = some (Value.int .i64 rid) from rfl)
      have p_B1_1 := (cell_of_row wr _ 1 _ _ _ B1.out).trans (show _ = some (Value.slice (some ⟨vb, vo, none⟩) vs.length vc) from rfl)
      have p_oc := (d.out.cell (p := ⟨ob, oo + k, none⟩) OBL.out).trans OC.out
      have p_fc := (d.out.cell (p := ⟨fb, fo + f.toNat, none⟩) FBL.out).trans FC.out
      have p_vc := (d.out.cell (p := ⟨vb, vo + f.toNat, none⟩) VBL.out).trans VC.out
      refine wp_region_held_drew (S := fun w' => w'.cell? ⟨w.heap.size, 0, none⟩ = some (Value.slice qa qs.length qc) ∧ w'.cell? ⟨w.heap.size, 1, none⟩ = some (Value.slice (some ⟨fb, fo, none⟩) fs.length fc) ∧ w'.cell? ⟨(w.heap.size + 1), 0, none⟩ = some (Value.int .i64 rid) ∧ w'.cell? ⟨(w.heap.size + 1), 1, none⟩ = some (Value.slice (some ⟨vb, vo, none⟩) vs.length vc) ∧ w'.cell? ⟨ob, oo + k, none⟩ = some (Value.int .i64 f) ∧ w'.cell? ⟨fb, fo + f.toNat, none⟩ = some (Value.slice ra rs.length rc) ∧ w'.cell? ⟨vb, vo + f.toNat, none⟩ = some (Value.int .i64 y)) (by kernel_rfl) ⟨p_B0_0, p_B0_1, p_B1_0, p_B1_1, p_oc, p_fc, p_vc⟩ (fun hHeld => ?_)
      clear p_B0_0 p_B0_1 p_B1_0 p_B1_1 p_oc p_fc p_vc
      have cdr : Below wr.heap.size wr wr.drew := below_drew (Below.refl _ _)
      replace B0 := Lib.hid ((cdr.block w.heap.size (Array.getElem?_eq_some_iff.1 B0.out).1).trans B0.out)
      replace B1 := Lib.hid ((cdr.block (w.heap.size + 1) (Array.getElem?_eq_some_iff.1 B1.out).1).trans B1.out)
      replace d := Lib.hid (d.out.trans (cdr.mono d.out.size))
      clear cdr
      refine take_runs (i := 0) (v := ?_) (by simp only [List.getElem?_toArray, List.getElem?_cons_succ, List.getElem?_cons_zero]; rfl) (by kernel_rfl) (by kernel_rfl) (by kernel_rfl) rfl (by exact fun _ _ _ h => h) (by rfl) ?_ (by assumption) ?_
      rotate_left
      · intro w hSw; (try dsimp only at hSw); go_simp; try (with_reducible rfl)
      try simp only [Act.put, List.setIfInBounds_toArray, List.set_cons_zero, List.set_cons_succ]
      refine take_runs (i := 1) (v := ?_) (by simp only [List.getElem?_toArray, List.getElem?_cons_succ, List.getElem?_cons_zero]; rfl) (by kernel_rfl) (by kernel_rfl) (by kernel_rfl) rfl (by exact fun _ _ _ h => h) (by rfl) ?_ (by assumption) ?_
      rotate_left
      · intro w hSw; (try dsimp only at hSw); go_simp; try (with_reducible rfl)
      try simp only [Act.put, List.setIfInBounds_toArray, List.set_cons_zero, List.set_cons_succ]
      refine take_runs (i := 2) (v := ?_) (by simp only [List.getElem?_toArray, List.getElem?_cons_succ, List.getElem?_cons_zero]; rfl) (by kernel_rfl) (by kernel_rfl) (by kernel_rfl) rfl (by exact fun _ _ _ h => h) (by rfl) ?_ (by assumption) ?_
      rotate_left
      · intro w hSw; (try dsimp only at hSw); go_simp; try (with_reducible rfl)
      try simp only [Act.put, List.setIfInBounds_toArray, List.set_cons_zero, List.set_cons_succ]
      refine take_runs (i := 3) (v := ?_) (by simp only [List.getElem?_toArray, List.getElem?_cons_succ, List.getElem?_cons_zero]; rfl) (by kernel_rfl) (by kernel_rfl) (by kernel_rfl) rfl (by exact fun _ _ _ h => h) (by rfl) ?_ (by assumption) ?_
      rotate_left
      · intro w hSw; (try dsimp only at hSw); go_simp; try (with_reducible rfl)
      try simp only [Act.put, List.setIfInBounds_toArray, List.set_cons_zero, List.set_cons_succ]
      refine take_runs (i := 4) (v := ?_) (by simp only [List.getElem?_toArray, List.getElem?_cons_succ, List.getElem?_cons_zero]; rfl) (by kernel_rfl) (by kernel_rfl) (by kernel_rfl) rfl (by exact fun _ _ _ h => h) (by rfl) ?_ (by assumption) ?_
      rotate_left
      · intro w hSw; (try dsimp only at hSw); go_simp; try (with_reducible rfl)
      try simp only [Act.put, List.setIfInBounds_toArray, List.set_cons_zero, List.set_cons_succ]
      refine take_runs (i := 5) (v := ?_) (by simp only [List.getElem?_toArray, List.getElem?_cons_succ, List.getElem?_cons_zero]; rfl) (by kernel_rfl) (by kernel_rfl) (by kernel_rfl) rfl (by exact fun _ _ _ h => h) (by rfl) ?_ (by assumption) ?_
      rotate_left
      · intro w hSw; (try dsimp only at hSw); go_simp; try (with_reducible rfl)
      try simp only [Act.put, List.setIfInBounds_toArray, List.set_cons_zero, List.set_cons_succ]
      refine take_runs (i := 6) (v := ?_) (by simp only [List.getElem?_toArray, List.getElem?_cons_succ, List.getElem?_cons_zero]; rfl) (by kernel_rfl) (by kernel_rfl) (by kernel_rfl) rfl (by exact fun _ _ _ h => h) (by rfl) ?_ (by assumption) ?_
      rotate_left
      · intro w hSw; (try dsimp only at hSw); go_simp; try (with_reducible rfl)
      try simp only [Act.put, List.setIfInBounds_toArray, List.set_cons_zero, List.set_cons_succ]
      refine take_runs (i := 7) (v := ?_) (by simp only [List.getElem?_toArray, List.getElem?_cons_succ, List.getElem?_cons_zero]; rfl) (by kernel_rfl) (by kernel_rfl) (by kernel_rfl) rfl (by exact fun _ _ _ h => h) (by rfl) ?_ (by assumption) ?_
      rotate_left
      · intro w hSw; (try dsimp only at hSw); go_simp; try (with_reducible rfl)
      try simp only [Act.put, List.setIfInBounds_toArray, List.set_cons_zero, List.set_cons_succ]
      refine take_runs (i := 8) (v := ?_) (by simp only [List.getElem?_toArray, List.getElem?_cons_succ, List.getElem?_cons_zero]; rfl) (by kernel_rfl) (by kernel_rfl) (by kernel_rfl) rfl (by exact fun _ _ _ h => h) (by rfl) ?_ (by assumption) ?_
      rotate_left
      · intro w hSw; (try dsimp only at hSw); go_simp; try (with_reducible rfl)
      try simp only [Act.put, List.setIfInBounds_toArray, List.set_cons_zero, List.set_cons_succ]
      refine take_runs (i := 9) (v := ?_) (by simp only [List.getElem?_toArray, List.getElem?_cons_succ, List.getElem?_cons_zero]; rfl) (by kernel_rfl) (by kernel_rfl) (by kernel_rfl) rfl (by exact fun _ _ _ h => h) (by rfl) ?_ (by assumption) ?_
      rotate_left
      · intro w hSw; (try dsimp only at hSw); go_simp; try (with_reducible rfl)
      try simp only [Act.put, List.setIfInBounds_toArray, List.set_cons_zero, List.set_cons_succ]
      refine take_runs (i := 10) (v := ?_) (by simp only [List.getElem?_toArray, List.getElem?_cons_succ, List.getElem?_cons_zero]; rfl) (by kernel_rfl) (by kernel_rfl) (by kernel_rfl) rfl (by exact fun _ _ _ h => h) (by rfl) ?_ (by assumption) ?_
      rotate_left
      · intro w hSw; (try dsimp only at hSw); go_simp; try (with_reducible rfl)
      try simp only [Act.put, List.setIfInBounds_toArray, List.set_cons_zero, List.set_cons_succ]
      refine take_runs (i := 11) (v := ?_) (by simp only [List.getElem?_toArray, List.getElem?_cons_succ, List.getElem?_cons_zero]; rfl) (by kernel_rfl) (by kernel_rfl) (by kernel_rfl) rfl (by exact fun _ _ _ h => h) (by rfl) ?_ (by assumption) ?_
      rotate_left
      · intro w hSw; (try dsimp only at hSw); go_simp; try (with_reducible rfl)
      try simp only [Act.put, List.setIfInBounds_toArray, List.set_cons_zero, List.set_cons_succ]
      refine take_runs (i := 12) (v := ?_) (by simp only [List.getElem?_toArray, List.getElem?_cons_succ, List.getElem?_cons_zero]; rfl) (by kernel_rfl) (by kernel_rfl) (by kernel_rfl) rfl (by exact fun _ _ _ h => h) (by rfl) ?_ (by assumption) ?_
      rotate_left
      · intro w hSw; (try dsimp only at hSw); go_simp; try (with_reducible rfl)
      try simp only [Act.put, List.setIfInBounds_toArray, List.set_cons_zero, List.set_cons_succ]
      refine take_runs (i := 13) (v := ?_) (by simp only [List.getElem?_toArray, List.getElem?_cons_succ, List.getElem?_cons_zero]; rfl) (by kernel_rfl) (by kernel_rfl) (by kernel_rfl) rfl (by exact fun _ _ _ h => h) (by rfl) ?_ (by assumption) ?_
      rotate_left
      · intro w hSw; (try dsimp only at hSw); go_simp; try (with_reducible rfl)
      try simp only [Act.put, List.setIfInBounds_toArray, List.set_cons_zero, List.set_cons_succ]
      refine take_runs (i := 14) (v := ?_) (by simp only [List.getElem?_toArray, List.getElem?_cons_succ, List.getElem?_cons_zero]; rfl) (by kernel_rfl) (by kernel_rfl) (by kernel_rfl) rfl (by exact fun _ _ _ h => h) (by rfl) ?_ (by assumption) ?_
      rotate_left
      · intro w hSw; (try dsimp only at hSw); go_simp; try (with_reducible rfl)
      try simp only [Act.put, List.setIfInBounds_toArray, List.set_cons_zero, List.set_cons_succ]
      refine take_runs (i := 15) (v := ?_) (by simp only [List.getElem?_toArray, List.getElem?_cons_succ, List.getElem?_cons_zero]; rfl) (by kernel_rfl) (by kernel_rfl) (by kernel_rfl) rfl (by exact fun _ _ _ h => h) (by rfl) ?_ (by assumption) ?_
      rotate_left
      · intro w hSw; (try dsimp only at hSw); go_simp; try (with_reducible rfl)
      try simp only [Act.put, List.setIfInBounds_toArray, List.set_cons_zero, List.set_cons_succ]
      refine wpAnyH_ready (rs := [16]) (by kernel_rfl) (by simp) ?_
      refine (AllReadyH.cons (o := _) (by simp only [List.getElem?_toArray, List.getElem?_cons_succ, List.getElem?_cons_zero]; rfl) (fun K hK => ?_) AllReadyH.nil)
      go_simp
      refine (specFindSpan (.slice ra rs.length rc) rs y (wr.drew) (slR_spans (slR_below tSpan_law HU.out d.out)) (fun j hj => zpL_span HZU.out hj) (by have h9 := HZU.out; rw [← zL_spans] at h9; exact zL_len h9)).mono ?_
      rintro e w5 ⟨su, rfl, os5, c5⟩
      replace B0 := Lib.hid ((c5.block w.heap.size (Array.getElem?_eq_some_iff.1 B0.out).1).trans B0.out)
      replace B1 := Lib.hid ((c5.block (w.heap.size + 1) (Array.getElem?_eq_some_iff.1 B1.out).1).trans B1.out)
      replace d := Lib.hid (d.out.trans (c5.mono d.out.size))
      have Z_w5 := Lib.hid (show wr.heap.size ≤ w5.heap.size from c5.size)
      have HS5 := Lib.hid (ownsN_below HSET.out ⟨c5.os, c5.tape, c5.output, c5.size, c5.block⟩)
      clear c5 HSET
      obtain ⟨ta, tc, rfl⟩ := ints_len (ownsN_ints os5)
      have SU := Lib.hid (ownsN_ints os5)
      clear os5
      have p_B0_0 := (cell_of_row w5 _ 0 _ _ _ B0.out).trans (show _ = some (Value.slice qa qs.length qc) from rfl)
      have p_B0_1 := (cell_of_row w5 _ 1 _ _ _ B0.out).trans (show _ = some (Value.slice (some ⟨fb, fo, none⟩) fs.length fc) from rfl)
      have p_B1_0 := (cell_of_row w5 _ 0 _ _ _ B1.out).trans (show _ = some (Value.int .i64 rid) from rfl)
      have p_B1_1 := (cell_of_row w5 _ 1 _ _ _ B1.out).trans (show _ = some (Value.slice (some ⟨vb, vo, none⟩) vs.length vc) from rfl)
      have p_oc := (d.out.cell (p := ⟨ob, oo + k, none⟩) OBL.out).trans OC.out
      have p_fc := (d.out.cell (p := ⟨fb, fo + f.toNat, none⟩) FBL.out).trans FC.out
      have p_vc := (d.out.cell (p := ⟨vb, vo + f.toNat, none⟩) VBL.out).trans VC.out
      refine hK.out _ _ ⟨p_B0_0, p_B0_1, p_B1_0, p_B1_1, p_oc, p_fc, p_vc⟩ (fun hHeld => ?_)
      clear p_B0_0 p_B0_1 p_B1_0 p_B1_1 p_oc p_fc p_vc
      clear hK K
      try simp only [Act.put, List.setIfInBounds_toArray, List.set_cons_zero, List.set_cons_succ]
      refine take_runs (i := 17) (v := ?_) (by simp only [List.getElem?_toArray, List.getElem?_cons_succ, List.getElem?_cons_zero]; rfl) (by kernel_rfl) (by kernel_rfl) (by kernel_rfl) rfl (by exact fun _ _ _ h => h) (by rfl) ?_ (by assumption) ?_
      rotate_left
      · intro w hSw; (try dsimp only at hSw); go_simp; try (with_reducible rfl)
      try simp only [Act.put, List.setIfInBounds_toArray, List.set_cons_zero, List.set_cons_succ]
      refine wpAnyH_done (by kernel_rfl) ?_ _
      clear hHeld
      generalize findL rs y = ss at *
      have hsl2 := HFS.out
      have hwb : work + 1 + (set.length : Int) ≤ 9223372036854775807 := by omega
      have hwc : work + 1 + (ss.length : Int) ≤ 9223372036854775807 := by omega
      go_wp2_with fail
      refine (specMeet (.slice sa set.length sc) (.slice ta ss.length tc) set ss w5 (ownsN_ints HS5.out) SU.out hsl HFS.out).mono ?_
      rintro e w6 ⟨mv, rfl, om, c6⟩
      replace B0 := Lib.hid ((c6.block w.heap.size (Array.getElem?_eq_some_iff.1 B0.out).1).trans B0.out)
      replace B1 := Lib.hid ((c6.block (w.heap.size + 1) (Array.getElem?_eq_some_iff.1 B1.out).1).trans B1.out)
      replace d := Lib.hid (d.out.trans (c6.mono d.out.size))
      have Z_w6 := Lib.hid (show w5.heap.size ≤ w6.heap.size from c6.size)
      clear c6
      have hml := meetL_len set ss
      have OM := Lib.hid (ownsN_up om (show w.heap.size ≤ w5.heap.size by have := Z_w5.out; have := HY.out; have := HYW.out; omega))
      have HN : Hid (probeL fs vs (os.drop (k + 1)) (meetL set ss) (work + 1 + ((min set.length ss.length : Nat) : Int)) = probeL fs vs os (allL qs) 0) := Lib.hid (by rw [← hP.out, HPS.out])
      clear om hP HPS HS5 SU
      go_wp2
      go_roundw
      case rel => exact ⟨k + 1, meetL set ss, work + 1 + ((min set.length ss.length : Nat) : Int), by omega, by go_num, congrArg (Value.int .i64) (by omega), OM.out, by omega, by omega, by omega, HN.out, B0.out, B1.out, d.out, Nat.lt_of_lt_of_le HY.out (Nat.le_trans Z_w5.out Z_w6.out)⟩
      case measure => simp [intOf]; omega
    · have HEND := Lib.hid (probe_end (fs := fs) (vs := vs) (work := work) (show os.length ≤ k ∨ set.length = 0 by omega))
      have HR : Hid (probeL fs vs os (allL qs) 0 = (set, work)) := Lib.hid (by rw [← hP.out]; exact HEND.out)
      clear hP HEND
      by_cases hlt : k < os.length
      · have i1 : (k : Int) < (os.length : Int) := by omega
        have hz0 : set = [] := List.eq_nil_of_length_eq_zero (by omega)
        subst hz0
        clear hgo
        go_wp2
        go_ret2
        exact ⟨.slice sa 0 sc, by first | (rw [HR.out]; done) | (rw [HR.out]; rfl), by rw [HR.out]; exact hset, hbel⟩
      · have i1 : ¬ (k : Int) < (os.length : Int) := by omega
        clear hgo
        go_wp2
        go_ret2
        exact ⟨.slice sa set.length sc, by first | (rw [HR.out]; done) | (rw [HR.out]; rfl), by rw [HR.out]; exact hset, hbel⟩
end Go.Proofs.YtidhmgboknffkaaGreatDoor
namespace Go.Proofs.YtidhmgboknffkaaGreatDoor
open Go.RowKit
set_option linter.unusedVariables false
set_option linter.unusedSimpArgs false
theorem idx_len {qs : List QD} {fs : List (List SpanD)} (h : isIndexB qs fs = true) : fs.length = 3 := by rw [(idx_iff h).2, fldTo_len]
end Go.Proofs.YtidhmgboknffkaaGreatDoor
namespace Go.Proofs.YtidhmgboknffkaaGreatDoor
open Go.RowKit
set_option linter.unusedVariables false
set_option linter.unusedSimpArgs false
end Go.Proofs.YtidhmgboknffkaaGreatDoor
namespace Go.Proofs.YtidhmgboknffkaaGreatDoor
open Go.RowKit
set_option linter.unusedVariables false
set_option linter.unusedSimpArgs false
theorem probe_bound (fs : List (List SpanD)) (vs : List Int) : ∀ (os set : List Int) (work : Int), work ≤ (probeL fs vs os set work).2 ∧ (probeL fs vs os set work).2 ≤ work + (os.length : Int) * (1 + (set.length : Int))
  | [], set, work => by simp [probeL]
  | f :: os, set, work => by
    unfold probeL
    split
    · have : 0 ≤ ((f :: os).length : Int) * (1 + (set.length : Int)) := Int.mul_nonneg (by omega) (by omega)
      exact ⟨Int.le_refl _, by simp only; omega⟩
    · next hne =>
      dsimp only
      obtain ⟨h1, h2⟩ := probe_bound fs vs os (meetL set (findL (fs.getD f.toNat []) (vs.getD f.toNat 0))) (work + 1 + ((min set.length (findL (fs.getD f.toNat []) (vs.getD f.toNat 0)).length : Nat) : Int))
      have h3 := meetL_len set (findL (fs.getD f.toNat []) (vs.getD f.toNat 0))
      have h4 : (os.length : Int) * (1 + ((meetL set (findL (fs.getD f.toNat []) (vs.getD f.toNat 0))).length : Int)) ≤ (os.length : Int) * (1 + (set.length : Int)) := Int.mul_le_mul_of_nonneg_left (by omega) (by omega)
      have h5 : (((f :: os).length : Nat) : Int) * (1 + (set.length : Int)) = (os.length : Int) * (1 + (set.length : Int)) + (1 + (set.length : Int)) := by
        rw [List.length_cons, Int.natCast_add, Int.natCast_one, Int.add_mul, Int.one_mul]
      refine ⟨by omega, ?_⟩
      have h6 : ((min set.length (findL (fs.getD f.toNat []) (vs.getD f.toNat 0)).length : Nat) : Int) ≤ (set.length : Int) := by omega
      omega
theorem workB_bound {qs : List QD} {fs : List (List SpanD)} {os : List Int} {r : RowD} (ho : os.length = 3) (hq : qs.length ≤ 1048576) : 0 ≤ workB qs fs os r ∧ workB qs fs os r ≤ 4194304 := by
  unfold workB
  split
  · obtain ⟨h1, h2⟩ := probe_bound fs r.2 os (allL qs) 0
    have h3 : (allL qs).length = qs.length := by simp [allL]
    rw [ho, h3] at h2
    exact ⟨h1, by omega⟩
  · omega
def sumW (qs : List QD) (fs : List (List SpanD)) (os : List Int) (rs : List RowD) (k : Nat) : Int := ((rs.take k).map (workB qs fs os)).sum
theorem sumW_step {qs : List QD} {fs : List (List SpanD)} {os : List Int} {rs : List RowD} {k : Nat} (hk : k < rs.length) : sumW qs fs os rs (k + 1) = sumW qs fs os rs k + workB qs fs os (rs.getD k (0, [])) := by
  unfold sumW
  have e : rs.getD k (0, []) = rs[k] := by simp [List.getD, hk]
  rw [e, List.take_succ_eq_append_getElem hk, List.map_append, List.sum_append]
  simp
theorem workL_no {qs : List QD} {fs : List (List SpanD)} {os : List Int} {rs : List RowD} (h : (isIndexB qs fs && orderB os) = false) : workL qs fs rs os = 0 := by unfold workL; rw [h]; rfl
theorem workL_yes {qs : List QD} {fs : List (List SpanD)} {os : List Int} {rs : List RowD} (h : (isIndexB qs fs && orderB os) = true) : workL qs fs rs os = sumW qs fs os rs rs.length := by unfold workL sumW; rw [h, List.take_length]; rfl
theorem workB_no {qs : List QD} {fs : List (List SpanD)} {os : List Int} {r : RowD} (h : rowB r = false) : workB qs fs os r = 0 := by unfold workB; rw [h]; rfl
theorem workB_yes {qs : List QD} {fs : List (List SpanD)} {os : List Int} {r : RowD} (h : rowB r = true) : workB qs fs os r = (probeL fs r.2 os (allL qs) 0).2 := by unfold workB; rw [h]; rfl
theorem retI {a b : Int} (h : a = b) : Ending.returned (.int .i64 a) = .returned (.int .i64 b) := by rw [h]
set_option maxHeartbeats 16000000 in
set_option maxRecDepth 100000 in
theorem specWorkOf (qv fv rv ov : Value) (qs : List QD) (fs : List (List SpanD)) (rs : List RowD) (os : List Int) (w : World) (h1 : SlR tQuery w qv qs) (h2 : SlR tSpanS w fv fs) (h3 : SlR tRow w rv rs) (h4 : Ints w ov os) (hs : zL tQuery qs ≤ 1048576) (hz : zL tSpanS fs ≤ 1048576) (hr : zL tRow rs ≤ 1048576) (ho : os.length ≤ 1048576) :
    Calls Tryz.prog 22 #[.agg #[qv, fv], rv, ov] w fun e w' => e = .returned (.int .i64 (workL qs fs rs os)) ∧ Below w.heap.size w w' := by
  have hlen := zL_len hs
  have hrl := zL_len hr
  have HS := Lib.hid hs; have HZ := Lib.hid hz; have HZR := Lib.hid hr
  obtain ⟨qa, qc, rfl⟩ := slR_len h1
  obtain ⟨fa, fc, rfl⟩ := slR_len h2
  obtain ⟨ra, rc, rfl⟩ := slR_len h3
  obtain ⟨oa, oc, rfl⟩ := ints_len h4
  have d0 := Lib.hid ((Below.refl w.heap.size w).alloc (Nat.le_refl _) (.cells #[.slice qa qs.length qc, .slice fa fs.length fc] 34))
  have B00 : Hid ((w.alloc (.cells #[.slice qa qs.length qc, .slice fa fs.length fc] 34)).heap[w.heap.size]? = some (.cells #[.slice qa qs.length qc, .slice fa fs.length fc] 34 (0, 0))) := Lib.hid (heap_alloc_new w _)
  have H1 := Lib.hid h1; have H2 := Lib.hid h2; have H3 := Lib.hid h3; have H4 := Lib.hid h4
  have HX := Lib.hid (fun w g1 g2 => specIsIndex (.slice qa qs.length qc) (.slice fa fs.length fc) qs fs w g1 g2 HS.out HZ.out)
  have HO := Lib.hid (fun w g => specL6Order (.slice oa os.length oc) os w g ho)
  clear h1 h2 h3 h4 hs hz hr ho
  cases hx : isIndexB qs fs with
  | false =>
    have HE := Lib.hid (workL_no (rs := rs) (os := os) (show (isIndexB qs fs && orderB os) = false by rw [hx]; rfl))
    rw [hx] at HX
    clear hx HO
    go_enter Tryz.func22, Tryz.ntmps22
    go_wp2
    generalize w.alloc (.cells #[.slice qa qs.length qc, .slice fa fs.length fc] 34) = W at *
    go_loopw [7, 8] (fun n i wr => wr = W ∧ i = .int .i64 0 ∧ n = .int .i64 0) (fun _ _ _ => 0)
    case atStart => exact ⟨rfl, rfl, rfl⟩
    case round =>
      obtain ⟨rfl, rfl, rfl⟩ := hrel
      by_cases hlt : 0 < rs.length
      · have i2 : (0 : Int) < (rs.length : Int) := by omega
        have x0 := (cell_of_row wr _ 0 _ _ _ B00.out).trans (show _ = some (Value.slice qa qs.length qc) from rfl)
        have x1 := (cell_of_row wr _ 1 _ _ _ B00.out).trans (show _ = some (Value.slice fa fs.length fc) from rfl)
        go_wp2_with fail
        clear x0 x1
        refine (HX.out wr (slR_below tQuery_law H1.out d0.out) (slR_below tSpanS_law H2.out d0.out)).mono ?_
        rintro e w1 ⟨rfl, c1⟩
        have D1 := Lib.hid (d0.out.trans (c1.mono d0.out.size))
        clear c1
        go_wp2
        go_ret
        exact ⟨retI HE.out.symm, D1.out⟩
      · have i2 : ¬ (0 : Int) < (rs.length : Int) := by omega
        go_wp2
        go_ret
        exact ⟨retI HE.out.symm, d0.out⟩
  | true =>
    cases hor : orderB os with
    | false =>
      have HE := Lib.hid (workL_no (rs := rs) (show (isIndexB qs fs && orderB os) = false by rw [hx, hor]; rfl))
      rw [hx] at HX
      rw [hor] at HO
      clear hx hor
      go_enter Tryz.func22, Tryz.ntmps22
      go_wp2
      generalize w.alloc (.cells #[.slice qa qs.length qc, .slice fa fs.length fc] 34) = W at *
      go_loopw [7, 8] (fun n i wr => wr = W ∧ i = .int .i64 0 ∧ n = .int .i64 0) (fun _ _ _ => 0)
      case atStart => exact ⟨rfl, rfl, rfl⟩
      case round =>
        obtain ⟨rfl, rfl, rfl⟩ := hrel
        by_cases hlt : 0 < rs.length
        · have i2 : (0 : Int) < (rs.length : Int) := by omega
          have x0 := (cell_of_row wr _ 0 _ _ _ B00.out).trans (show _ = some (Value.slice qa qs.length qc) from rfl)
          have x1 := (cell_of_row wr _ 1 _ _ _ B00.out).trans (show _ = some (Value.slice fa fs.length fc) from rfl)
          go_wp2_with fail
          clear x0 x1
          refine (HX.out wr (slR_below tQuery_law H1.out d0.out) (slR_below tSpanS_law H2.out d0.out)).mono ?_
          rintro e w1 ⟨rfl, c1⟩
          have D1 := Lib.hid (d0.out.trans (c1.mono d0.out.size))
          clear c1
          go_wp2_with fail
          refine (HO.out w1 (ints_below H4.out D1.out)).mono ?_
          rintro e w2 ⟨rfl, c2⟩
          have D2 := Lib.hid (D1.out.trans (c2.mono D1.out.size))
          clear c2
          go_wp2
          go_ret
          exact ⟨retI HE.out.symm, D2.out⟩
        · have i2 : ¬ (0 : Int) < (rs.length : Int) := by omega
          go_wp2
          go_ret
          exact ⟨retI HE.out.symm, d0.out⟩
    | true =>
      have HE := Lib.hid (workL_yes (rs := rs) (show (isIndexB qs fs && orderB os) = true by rw [hx, hor]; rfl))
      have HF3 := Lib.hid (idx_len hx)
      have HO3 := Lib.hid (order_iff hor)
      rw [hx] at HX
      rw [hor] at HO
      clear hx hor
      go_enter Tryz.func22, Tryz.ntmps22
      go_wp2
      generalize w.alloc (.cells #[.slice qa qs.length qc, .slice fa fs.length fc] 34) = W at *
      go_loopw [7, 8] (fun n i wr => ∃ (k : Nat), k ≤ rs.length ∧ i = .int .i64 k ∧ n = .int .i64 (sumW qs fs os rs k) ∧ 0 ≤ sumW qs fs os rs k ∧ sumW qs fs os rs k ≤ 4194304 * (k : Int) ∧ wr.heap[w.heap.size]? = some (.cells #[.slice qa qs.length qc, .slice fa fs.length fc] 34 (0, 0)) ∧ Below w.heap.size w wr) (fun _ i _ => rs.length - (intOf i).toNat)
      case atStart => exact ⟨0, Nat.zero_le _, rfl, by simp [sumW], by simp [sumW], by simp [sumW], B00.out, d0.out⟩
      case round =>
        obtain ⟨k, hk, rfl, rfl, hw0, hw1, hr0, hbel⟩ := hrel
        by_cases hlt : k < rs.length
        · have i1 : (0 : Int) ≤ (k : Int) := by omega
          have i2 : (k : Int) < (rs.length : Int) := by omega
          have hst := sumW_step (qs := qs) (fs := fs) (os := os) hlt
          have hwb := workB_bound (fs := fs) (r := rs.getD k (0, [])) HO3.out.1 hlen
          obtain ⟨m', hm'⟩ : ∃ m', sumW qs fs os rs (k + 1) = m' := ⟨_, rfl⟩
          rw [hm'] at hst
          have HM1 := Lib.hid hm'
          have HST := Lib.hid hst
          clear hm'
          obtain ⟨b, off, cap', cs, hv, hbl, hcs, hR⟩ := slR_at H3.out hlt
          simp only [Value.slice.injEq] at hv
          obtain ⟨rfl, _, rfl⟩ := hv
          have hzx := zL_at HZR.out hlt
          have HNO := Lib.hid (fun h => workB_no (qs := qs) (fs := fs) (os := os) (r := rs.getD k (0, [])) h)
          have HYES := Lib.hid (fun h => workB_yes (qs := qs) (fs := fs) (os := os) (r := rs.getD k (0, [])) h)
          change tRow.R w cs (rs.getD k (0, [])) at hR
          change tRow.sz (rs.getD k (0, [])) ≤ 1048576 at hzx
          generalize sumW qs fs os rs k = m at *
          generalize workB qs fs os (rs.getD k (0, [])) = wk at *
          generalize rs.getD k (0, []) = r at *
          obtain ⟨rid, vs⟩ := r
          obtain ⟨vv, hR'⟩ := tRow_R hR
          obtain ⟨rfl, hV⟩ := hR'
          rw [tRow_sz, zL_ints] at hzx
          have RC0 : Hid (w.cell? ⟨b, off + k * 2, none⟩ = some (.int .i64 rid)) := Lib.hid (hcs 0 (by decide))
          obtain ⟨va, vc, rfl⟩ := slR_len hV
          have RC1 : Hid (w.cell? ⟨b, off + k * 2 + 1, none⟩ = some (.slice va vs.length vc)) := Lib.hid (hcs 1 (by decide))
          have HV := Lib.hid (slR_ints hV)
          have HBL := Lib.hid hbl
          have B0 := Lib.hid hr0
          have d := Lib.hid hbel
          have HR := Lib.hid (fun w g => specIsRow rid (.slice va vs.length vc) vs w g hzx)
          clear hcs hR hV hbl hr0 hbel hst
          have p_B0_0 := (cell_of_row wr _ 0 _ _ _ B0.out).trans (show _ = some (Value.slice qa qs.length qc) from rfl)
          have p_B0_1 := (cell_of_row wr _ 1 _ _ _ B0.out).trans (show _ = some (Value.slice fa fs.length fc) from rfl)
          go_wp2_with fail
          clear p_B0_0 p_B0_1
          refine (HX.out wr (slR_below tQuery_law H1.out d.out) (slR_below tSpanS_law H2.out d.out)).mono ?_
          rintro e w1 ⟨rfl, c1⟩
          replace B0 := Lib.hid ((c1.block w.heap.size (Array.getElem?_eq_some_iff.1 B0.out).1).trans B0.out)
          replace d := Lib.hid (d.out.trans (c1.mono d.out.size))
          have Z_w1 := Lib.hid (show wr.heap.size ≤ w1.heap.size from c1.size)
          clear c1
          go_wp2_with fail
          refine (HO.out w1 (ints_below H4.out d.out)).mono ?_
          rintro e w2 ⟨rfl, c2⟩
          replace B0 := Lib.hid ((c2.block w.heap.size (Array.getElem?_eq_some_iff.1 B0.out).1).trans B0.out)
          replace d := Lib.hid (d.out.trans (c2.mono d.out.size))
          have Z_w2 := Lib.hid (show w1.heap.size ≤ w2.heap.size from c2.size)
          clear c2
          cases hrb : rowB (rid, vs) with
          | false =>
            have HW := Lib.hid (HNO.out hrb)
            rw [hrb] at HR
            clear hrb HNO HYES
            have p_r0 := (d.out.cell (p := ⟨b, off + k * 2, none⟩) HBL.out).trans RC0.out
            have p_r1 := (d.out.cell (p := ⟨b, off + k * 2 + 1, none⟩) HBL.out).trans RC1.out
            go_wp2_with fail
            clear p_r0 p_r1
            refine (HR.out w2 (ints_below HV.out d.out)).mono ?_
            rintro e w3 ⟨rfl, c3⟩
            replace B0 := Lib.hid ((c3.block w.heap.size (Array.getElem?_eq_some_iff.1 B0.out).1).trans B0.out)
            replace d := Lib.hid (d.out.trans (c3.mono d.out.size))
            have Z_w3 := Lib.hid (show w2.heap.size ≤ w3.heap.size from c3.size)
            clear c3
            have hm : m = m' := by have := HST.out; have := HW.out; omega
            have HM := Lib.hid hm
            clear hm
            go_wp2
            go_roundw
            case rel => exact ⟨k + 1, by omega, by go_num, by rw [HM1.out, HM.out], by rw [HM1.out]; have := HM.out; omega, by rw [HM1.out]; have := HM.out; omega, B0.out, d.out⟩
            case measure => simp [intOf]; omega
          | true =>
            have HW := Lib.hid (HYES.out hrb)
            have HV3 : Hid (vs.length = 3) := Lib.hid (row_len hrb)
            rw [hrb] at HR
            clear hrb HNO HYES
            have p_r0 := (d.out.cell (p := ⟨b, off + k * 2, none⟩) HBL.out).trans RC0.out
            have p_r1 := (d.out.cell (p := ⟨b, off + k * 2 + 1, none⟩) HBL.out).trans RC1.out
            go_wp2_with fail
            clear p_r0 p_r1
            refine (HR.out w2 (ints_below HV.out d.out)).mono ?_
            rintro e w3 ⟨rfl, c3⟩
            replace B0 := Lib.hid ((c3.block w.heap.size (Array.getElem?_eq_some_iff.1 B0.out).1).trans B0.out)
            replace d := Lib.hid (d.out.trans (c3.mono d.out.size))
            have Z_w3 := Lib.hid (show w2.heap.size ≤ w3.heap.size from c3.size)
            clear c3
            go_wp2
            have p_B0_0 := (cell_of_row w3 _ 0 _ _ _ B0.out).trans (show _ = some (Value.slice qa qs.length qc) from rfl)
            have p_B0_1 := (cell_of_row w3 _ 1 _ _ _ B0.out).trans (show _ = some (Value.slice fa fs.length fc) from rfl)
            have p_r0 := (d.out.cell (p := ⟨b, off + k * 2, none⟩) HBL.out).trans RC0.out
            have p_r1 := (d.out.cell (p := ⟨b, off + k * 2 + 1, none⟩) HBL.out).trans RC1.out
            refine wp_region_held_drew (S := fun w' => w'.cell? ⟨w.heap.size, 0, none⟩ = some (Value.slice qa qs.length qc) ∧ w'.cell? ⟨w.heap.size, 1, none⟩ = some (Value.slice fa fs.length fc) ∧ w'.cell? ⟨b, off + k * 2, none⟩ = some (Value.int .i64 rid) ∧ w'.cell? ⟨b, off + k * 2 + 1, none⟩ = some (Value.slice va vs.length vc)) (by kernel_rfl) ⟨p_B0_0, p_B0_1, p_r0, p_r1⟩ (fun hHeld => ?_)
            clear p_B0_0 p_B0_1 p_r0 p_r1
            have cdr : Below w3.heap.size w3 w3.drew := below_drew (Below.refl _ _)
            replace B0 := Lib.hid ((cdr.block w.heap.size (Array.getElem?_eq_some_iff.1 B0.out).1).trans B0.out)
            replace d := Lib.hid (d.out.trans (cdr.mono d.out.size))
            clear cdr
            refine take_runs (i := 0) (v := ?_) (by simp only [List.getElem?_toArray, List.getElem?_cons_succ, List.getElem?_cons_zero]; rfl) (by kernel_rfl) (by kernel_rfl) (by kernel_rfl) rfl (by exact fun _ _ _ h => h) (by rfl) ?_ (by assumption) ?_
            rotate_left
            · intro w hSw; (try dsimp only at hSw); go_simp; try (with_reducible rfl)
            try simp only [Act.put, List.setIfInBounds_toArray, List.set_cons_zero, List.set_cons_succ]
            refine take_runs (i := 1) (v := ?_) (by simp only [List.getElem?_toArray, List.getElem?_cons_succ, List.getElem?_cons_zero]; rfl) (by kernel_rfl) (by kernel_rfl) (by kernel_rfl) rfl (by exact fun _ _ _ h => h) (by rfl) ?_ (by assumption) ?_
            rotate_left
            · intro w hSw; (try dsimp only at hSw); go_simp; try (with_reducible rfl)
            try simp only [Act.put, List.setIfInBounds_toArray, List.set_cons_zero, List.set_cons_succ]
            refine take_runs (i := 2) (v := ?_) (by simp only [List.getElem?_toArray, List.getElem?_cons_succ, List.getElem?_cons_zero]; rfl) (by kernel_rfl) (by kernel_rfl) (by kernel_rfl) rfl (by exact fun _ _ _ h => h) (by rfl) ?_ (by assumption) ?_
            rotate_left
            · intro w hSw; (try dsimp only at hSw); go_simp; try (with_reducible rfl)
            try simp only [Act.put, List.setIfInBounds_toArray, List.set_cons_zero, List.set_cons_succ]
            refine take_runs (i := 3) (v := ?_) (by simp only [List.getElem?_toArray, List.getElem?_cons_succ, List.getElem?_cons_zero]; rfl) (by kernel_rfl) (by kernel_rfl) (by kernel_rfl) rfl (by exact fun _ _ _ h => h) (by rfl) ?_ (by assumption) ?_
            rotate_left
            · intro w hSw; (try dsimp only at hSw); go_simp; try (with_reducible rfl)
            try simp only [Act.put, List.setIfInBounds_toArray, List.set_cons_zero, List.set_cons_succ]
            refine take_runs (i := 4) (v := ?_) (by simp only [List.getElem?_toArray, List.getElem?_cons_succ, List.getElem?_cons_zero]; rfl) (by kernel_rfl) (by kernel_rfl) (by kernel_rfl) rfl (by exact fun _ _ _ h => h) (by rfl) ?_ (by assumption) ?_
            rotate_left
            · intro w hSw; (try dsimp only at hSw); go_simp; try (with_reducible rfl)
            try simp only [Act.put, List.setIfInBounds_toArray, List.set_cons_zero, List.set_cons_succ]
            refine take_runs (i := 5) (v := ?_) (by simp only [List.getElem?_toArray, List.getElem?_cons_succ, List.getElem?_cons_zero]; rfl) (by kernel_rfl) (by kernel_rfl) (by kernel_rfl) rfl (by exact fun _ _ _ h => h) (by rfl) ?_ (by assumption) ?_
            rotate_left
            · intro w hSw; (try dsimp only at hSw); go_simp; try (with_reducible rfl)
            try simp only [Act.put, List.setIfInBounds_toArray, List.set_cons_zero, List.set_cons_succ]
            refine wpAnyH_ready (rs := [6]) (by kernel_rfl) (by simp) ?_
            refine (AllReadyH.cons (o := _) (by simp only [List.getElem?_toArray, List.getElem?_cons_succ, List.getElem?_cons_zero]; rfl) (fun K hK => ?_) AllReadyH.nil)
            go_simp
            refine (specL6Probe (.slice qa qs.length qc) (.slice fa fs.length fc) (.slice va vs.length vc) (.slice oa os.length oc) qs fs rid vs os (w3.drew) (slR_below tQuery_law H1.out d.out) (slR_below tSpanS_law H2.out d.out) (ints_below HV.out d.out) (ints_below H4.out d.out) HS.out HZ.out HF3.out HV3.out HO3.out.1 HO3.out.2).mono ?_
            rintro e w5 ⟨pu, rfl, ou, c5⟩
            replace B0 := Lib.hid ((c5.block w.heap.size (Array.getElem?_eq_some_iff.1 B0.out).1).trans B0.out)
            replace d := Lib.hid (d.out.trans (c5.mono d.out.size))
            have Z_w5 := Lib.hid (show w3.heap.size ≤ w5.heap.size from c5.size)
            clear ou c5
            have p_B0_0 := (cell_of_row w5 _ 0 _ _ _ B0.out).trans (show _ = some (Value.slice qa qs.length qc) from rfl)
            have p_B0_1 := (cell_of_row w5 _ 1 _ _ _ B0.out).trans (show _ = some (Value.slice fa fs.length fc) from rfl)
            have p_r0 := (d.out.cell (p := ⟨b, off + k * 2, none⟩) HBL.out).trans RC0.out
            have p_r1 := (d.out.cell (p := ⟨b, off + k * 2 + 1, none⟩) HBL.out).trans RC1.out
            refine hK.out _ _ ⟨p_B0_0, p_B0_1, p_r0, p_r1⟩ (fun hHeld => ?_)
            clear p_B0_0 p_B0_1 p_r0 p_r1
            clear hK K
            try simp only [Act.put, List.setIfInBounds_toArray, List.set_cons_zero, List.set_cons_succ]
            refine take_runs (i := 7) (v := ?_) (by simp only [List.getElem?_toArray, List.getElem?_cons_succ, List.getElem?_cons_zero]; rfl) (by kernel_rfl) (by kernel_rfl) (by kernel_rfl) rfl (by exact fun _ _ _ h => h) (by rfl) ?_ (by assumption) ?_
            rotate_left
            · intro w hSw; (try dsimp only at hSw); go_simp; try (with_reducible rfl)
            try simp only [Act.put, List.setIfInBounds_toArray, List.set_cons_zero, List.set_cons_succ]
            refine take_runs (i := 8) (v := ?_) (by simp only [List.getElem?_toArray, List.getElem?_cons_succ, List.getElem?_cons_zero]; rfl) (by kernel_rfl) (by kernel_rfl) (by kernel_rfl) rfl (by exact fun _ _ _ h => h) (by rfl) ?_ (by assumption) ?_
            rotate_left
            · intro w hSw; (try dsimp only at hSw); go_simp; try (with_reducible rfl)
            try simp only [Act.put, List.setIfInBounds_toArray, List.set_cons_zero, List.set_cons_succ]
            refine take_runs (i := 9) (v := ?_) (by simp only [List.getElem?_toArray, List.getElem?_cons_succ, List.getElem?_cons_zero]; rfl) (by kernel_rfl) (by kernel_rfl) (by kernel_rfl) rfl (by exact fun _ _ _ h => h) (by rfl) ?_ (by assumption) ?_
            rotate_left
            · intro w hSw; (try dsimp only at hSw); go_simp; try (with_reducible rfl)
            try simp only [Act.put, List.setIfInBounds_toArray, List.set_cons_zero, List.set_cons_succ]
            refine take_runs (i := 10) (v := ?_) (by simp only [List.getElem?_toArray, List.getElem?_cons_succ, List.getElem?_cons_zero]; rfl) (by kernel_rfl) (by kernel_rfl) (by kernel_rfl) rfl (by exact fun _ _ _ h => h) (by rfl) ?_ (by assumption) ?_
            rotate_left
            · intro w hSw; (try dsimp only at hSw); go_simp; try (with_reducible rfl)
            try simp only [Act.put, List.setIfInBounds_toArray, List.set_cons_zero, List.set_cons_succ]
            refine take_runs (i := 11) (v := ?_) (by simp only [List.getElem?_toArray, List.getElem?_cons_succ, List.getElem?_cons_zero]; rfl) (by kernel_rfl) (by kernel_rfl) (by kernel_rfl) rfl (by exact fun _ _ _ h => h) (by rfl) ?_ (by assumption) ?_
            rotate_left
            · intro w hSw; (try dsimp only at hSw); go_simp; try (with_reducible rfl)
            try simp only [Act.put, List.setIfInBounds_toArray, List.set_cons_zero, List.set_cons_succ]
            refine wpAnyH_done (by kernel_rfl) ?_ _
            clear hHeld
            generalize (probeL fs vs os (allL qs) 0).2 = pw at *
            have hm : m + pw = m' := by have := HST.out; have h9 : wk = pw := HW.out; omega
            have HM := Lib.hid hm
            have hm3 : pw ≤ 4194304 := by have h9 : wk = pw := HW.out; omega
            have hm1 : m + pw ≤ 9223372036854775807 := by omega
            have hm2 : 0 ≤ pw := by have h9 : wk = pw := HW.out; omega
            clear hm
            go_wp2
            go_roundw
            case rel => exact ⟨k + 1, by omega, by go_num, by rw [HM1.out, HM.out], by rw [HM1.out]; have := HM.out; omega, by rw [HM1.out]; have := HM.out; omega, B0.out, d.out⟩
            case measure => simp [intOf]; omega
        · obtain rfl : k = rs.length := by omega
          go_wp2
          go_ret
          exact ⟨retI HE.out.symm, hbel⟩
end Go.Proofs.YtidhmgboknffkaaGreatDoor
namespace Go.Proofs.YtidhmgboknffkaaGreatDoor
open Go.RowKit
set_option linter.unusedVariables false
set_option linter.unusedSimpArgs false
/-- Six lists of three numbers each, in blocks one behind the other, and the slice that holds them. -/
theorem orders_own (W0 W : World) (B : Nat) (hr : W.heap[B + 1 + 1 + 1 + 1 + 1 + 1]? = some (.cells #[.slice (some ⟨B, 0, none⟩) 3 3, .slice (some ⟨B + 1, 0, none⟩) 3 3, .slice (some ⟨B + 1 + 1, 0, none⟩) 3 3, .slice (some ⟨B + 1 + 1 + 1, 0, none⟩) 3 3, .slice (some ⟨B + 1 + 1 + 1 + 1, 0, none⟩) 3 3, .slice (some ⟨B + 1 + 1 + 1 + 1 + 1, 0, none⟩) 3 3] 29 (0, 0)))
    (h0 : W.heap[B]? = some (.cells #[.int .i64 0, .int .i64 1, .int .i64 2] 3 (0, 0)))
    (h1 : W.heap[B + 1]? = some (.cells #[.int .i64 0, .int .i64 2, .int .i64 1] 3 (0, 0)))
    (h2 : W.heap[B + 1 + 1]? = some (.cells #[.int .i64 1, .int .i64 0, .int .i64 2] 3 (0, 0)))
    (h3 : W.heap[B + 1 + 1 + 1]? = some (.cells #[.int .i64 1, .int .i64 2, .int .i64 0] 3 (0, 0)))
    (h4 : W.heap[B + 1 + 1 + 1 + 1]? = some (.cells #[.int .i64 2, .int .i64 0, .int .i64 1] 3 (0, 0)))
    (h5 : W.heap[B + 1 + 1 + 1 + 1 + 1]? = some (.cells #[.int .i64 2, .int .i64 1, .int .i64 0] 3 (0, 0)))
    (hB : W0.heap.size ≤ B) : SlO 29 tIntS W (since W0) (.slice (some ⟨B + 1 + 1 + 1 + 1 + 1 + 1, 0, none⟩) 6 6) ordersL := by
  refine ⟨[.slice (some ⟨B, 0, none⟩) 3 3, .slice (some ⟨B + 1, 0, none⟩) 3 3, .slice (some ⟨B + 1 + 1, 0, none⟩) 3 3, .slice (some ⟨B + 1 + 1 + 1, 0, none⟩) 3 3, .slice (some ⟨B + 1 + 1 + 1 + 1, 0, none⟩) 3 3, .slice (some ⟨B + 1 + 1 + 1 + 1 + 1, 0, none⟩) 3 3], fun j => [.slice (some ⟨B + j, 0, none⟩) 3 3], fun j b => b = B + j, ⟨rfl, Or.inr ⟨_, 6, _, rfl, Nat.zero_le _, hr, Nat.le_refl _, by unfold maxLen; omega, rfl, rfl⟩⟩, fun b hb => ?_, fun j hj => ?_, fun i j _ _ hij b hb hc => by omega⟩
  · simp [Value.ownBlock] at hb; show W0.heap.size ≤ b; omega
  · have hj6 : j < 6 := hj
    have hO : ∀ (k : Nat) (l : List Int) (c : Array Value), c = ⟨l.map (Value.int .i64)⟩ → l.length = 3 → W.heap[k]? = some (.cells c 3 (0, 0)) → OwnsN W k (.slice (some ⟨k, 0, none⟩) 3 3) l := by
      intro k l c hc hl h
      subst hc
      refine ⟨?_, Or.inr ⟨k, 3, _, ?_, Nat.le_refl _, h, ?_, by unfold maxLen; omega, ?_, ?_⟩⟩ <;> first | rfl | (simp [hl]; done) | (simp [hl]; exact List.take_of_length_le (by simp [hl]))
    refine ⟨fun i hi => ?_, ⟨_, rfl, own_slO (B := B + j) ?_ (fun b hb => by simp [Value.ownBlock] at hb; exact hb.symm)⟩, fun b hb => ⟨by show W0.heap.size ≤ b; omega, by simp [Value.ownBlock]; omega⟩⟩
    · have hi0 : i < 1 := hi
      obtain rfl : i = 0 := by omega
      have e : j * tIntS.n + 0 = j := by show j * 1 + 0 = _; omega
      rw [e]
      match j, hj6 with
      | 0, _ => rfl
      | 1, _ => rfl
      | 2, _ => rfl
      | 3, _ => rfl
      | 4, _ => rfl
      | 5, _ => rfl
    · match j, hj6 with
      | 0, _ => exact hO _ (ordersL.getD 0 []) _ (by rfl) (by rfl) h0
      | 1, _ => exact hO _ (ordersL.getD 1 []) _ (by rfl) (by rfl) h1
      | 2, _ => exact hO _ (ordersL.getD 2 []) _ (by rfl) (by rfl) h2
      | 3, _ => exact hO _ (ordersL.getD 3 []) _ (by rfl) (by rfl) h3
      | 4, _ => exact hO _ (ordersL.getD 4 []) _ (by rfl) (by rfl) h4
      | 5, _ => exact hO _ (ordersL.getD 5 []) _ (by rfl) (by rfl) h5
set_option maxHeartbeats 4000000 in
set_option maxRecDepth 100000 in
theorem specL6Orders (w : World) : Calls Tryz.prog 20 #[] w fun e w' => ∃ v, e = .returned v ∧ SlO 29 tIntS w' (since w) v ordersL ∧ Below w.heap.size w w' := by
  go_enter Tryz.func20, Tryz.ntmps20
  go_wp2
  go_ret
  refine ⟨_, rfl, ?_, ?_⟩
  · refine orders_own w (((((((w.alloc (.cells #[.int .i64 0, .int .i64 1, .int .i64 2] 3)).alloc (.cells #[.int .i64 0, .int .i64 2, .int .i64 1] 3)).alloc (.cells #[.int .i64 1, .int .i64 0, .int .i64 2] 3)).alloc (.cells #[.int .i64 1, .int .i64 2, .int .i64 0] 3)).alloc (.cells #[.int .i64 2, .int .i64 0, .int .i64 1] 3)).alloc (.cells #[.int .i64 2, .int .i64 1, .int .i64 0] 3)).alloc (.cells #[.slice (some ⟨w.heap.size, 0, none⟩) 3 3, .slice (some ⟨w.heap.size + 1, 0, none⟩) 3 3, .slice (some ⟨w.heap.size + 1 + 1, 0, none⟩) 3 3, .slice (some ⟨w.heap.size + 1 + 1 + 1, 0, none⟩) 3 3, .slice (some ⟨w.heap.size + 1 + 1 + 1 + 1, 0, none⟩) 3 3, .slice (some ⟨w.heap.size + 1 + 1 + 1 + 1 + 1, 0, none⟩) 3 3] 29)) w.heap.size ?_ ?_ ?_ ?_ ?_ ?_ ?_ (Nat.le_refl _)
    · have hs : ((((((w.alloc (.cells #[.int .i64 0, .int .i64 1, .int .i64 2] 3)).alloc (.cells #[.int .i64 0, .int .i64 2, .int .i64 1] 3)).alloc (.cells #[.int .i64 1, .int .i64 0, .int .i64 2] 3)).alloc (.cells #[.int .i64 1, .int .i64 2, .int .i64 0] 3)).alloc (.cells #[.int .i64 2, .int .i64 0, .int .i64 1] 3)).alloc (.cells #[.int .i64 2, .int .i64 1, .int .i64 0] 3)).heap.size = w.heap.size + 1 + 1 + 1 + 1 + 1 + 1 := by simp
      rw [← hs]; exact heap_alloc_new _ _
    · rw [Below.heap_alloc _ _ _ (by simp <;> omega)]
      rw [Below.heap_alloc _ _ _ (by simp <;> omega)]
      rw [Below.heap_alloc _ _ _ (by simp <;> omega)]
      rw [Below.heap_alloc _ _ _ (by simp <;> omega)]
      rw [Below.heap_alloc _ _ _ (by simp <;> omega)]
      rw [Below.heap_alloc _ _ _ (by simp <;> omega)]
      exact heap_alloc_new w _
    · have e : ((w.alloc (.cells #[.int .i64 0, .int .i64 1, .int .i64 2] 3))).heap.size = w.heap.size + 1 := by simp
      have g := heap_alloc_new (w.alloc (.cells #[.int .i64 0, .int .i64 1, .int .i64 2] 3)) (.cells #[.int .i64 0, .int .i64 2, .int .i64 1] 3)
      rw [e] at g
      rw [Below.heap_alloc _ _ _ (by simp <;> omega)]
      rw [Below.heap_alloc _ _ _ (by simp <;> omega)]
      rw [Below.heap_alloc _ _ _ (by simp <;> omega)]
      rw [Below.heap_alloc _ _ _ (by simp <;> omega)]
      rw [Below.heap_alloc _ _ _ (by simp <;> omega)]
      exact g
    · have e : (((w.alloc (.cells #[.int .i64 0, .int .i64 1, .int .i64 2] 3)).alloc (.cells #[.int .i64 0, .int .i64 2, .int .i64 1] 3))).heap.size = w.heap.size + 1 + 1 := by simp
      have g := heap_alloc_new ((w.alloc (.cells #[.int .i64 0, .int .i64 1, .int .i64 2] 3)).alloc (.cells #[.int .i64 0, .int .i64 2, .int .i64 1] 3)) (.cells #[.int .i64 1, .int .i64 0, .int .i64 2] 3)
      rw [e] at g
      rw [Below.heap_alloc _ _ _ (by simp <;> omega)]
      rw [Below.heap_alloc _ _ _ (by simp <;> omega)]
      rw [Below.heap_alloc _ _ _ (by simp <;> omega)]
      rw [Below.heap_alloc _ _ _ (by simp <;> omega)]
      exact g
    · have e : ((((w.alloc (.cells #[.int .i64 0, .int .i64 1, .int .i64 2] 3)).alloc (.cells #[.int .i64 0, .int .i64 2, .int .i64 1] 3)).alloc (.cells #[.int .i64 1, .int .i64 0, .int .i64 2] 3))).heap.size = w.heap.size + 1 + 1 + 1 := by simp
      have g := heap_alloc_new (((w.alloc (.cells #[.int .i64 0, .int .i64 1, .int .i64 2] 3)).alloc (.cells #[.int .i64 0, .int .i64 2, .int .i64 1] 3)).alloc (.cells #[.int .i64 1, .int .i64 0, .int .i64 2] 3)) (.cells #[.int .i64 1, .int .i64 2, .int .i64 0] 3)
      rw [e] at g
      rw [Below.heap_alloc _ _ _ (by simp <;> omega)]
      rw [Below.heap_alloc _ _ _ (by simp <;> omega)]
      rw [Below.heap_alloc _ _ _ (by simp <;> omega)]
      exact g
    · have e : (((((w.alloc (.cells #[.int .i64 0, .int .i64 1, .int .i64 2] 3)).alloc (.cells #[.int .i64 0, .int .i64 2, .int .i64 1] 3)).alloc (.cells #[.int .i64 1, .int .i64 0, .int .i64 2] 3)).alloc (.cells #[.int .i64 1, .int .i64 2, .int .i64 0] 3))).heap.size = w.heap.size + 1 + 1 + 1 + 1 := by simp
      have g := heap_alloc_new ((((w.alloc (.cells #[.int .i64 0, .int .i64 1, .int .i64 2] 3)).alloc (.cells #[.int .i64 0, .int .i64 2, .int .i64 1] 3)).alloc (.cells #[.int .i64 1, .int .i64 0, .int .i64 2] 3)).alloc (.cells #[.int .i64 1, .int .i64 2, .int .i64 0] 3)) (.cells #[.int .i64 2, .int .i64 0, .int .i64 1] 3)
      rw [e] at g
      rw [Below.heap_alloc _ _ _ (by simp <;> omega)]
      rw [Below.heap_alloc _ _ _ (by simp <;> omega)]
      exact g
    · have e : ((((((w.alloc (.cells #[.int .i64 0, .int .i64 1, .int .i64 2] 3)).alloc (.cells #[.int .i64 0, .int .i64 2, .int .i64 1] 3)).alloc (.cells #[.int .i64 1, .int .i64 0, .int .i64 2] 3)).alloc (.cells #[.int .i64 1, .int .i64 2, .int .i64 0] 3)).alloc (.cells #[.int .i64 2, .int .i64 0, .int .i64 1] 3))).heap.size = w.heap.size + 1 + 1 + 1 + 1 + 1 := by simp
      have g := heap_alloc_new (((((w.alloc (.cells #[.int .i64 0, .int .i64 1, .int .i64 2] 3)).alloc (.cells #[.int .i64 0, .int .i64 2, .int .i64 1] 3)).alloc (.cells #[.int .i64 1, .int .i64 0, .int .i64 2] 3)).alloc (.cells #[.int .i64 1, .int .i64 2, .int .i64 0] 3)).alloc (.cells #[.int .i64 2, .int .i64 0, .int .i64 1] 3)) (.cells #[.int .i64 2, .int .i64 1, .int .i64 0] 3)
      rw [e] at g
      rw [Below.heap_alloc _ _ _ (by simp <;> omega)]
      exact g
  · exact ((((((((Below.refl _ w).alloc (by simp <;> omega) _).alloc (by simp <;> omega) _).alloc (by simp <;> omega) _).alloc (by simp <;> omega) _).alloc (by simp <;> omega) _).alloc (by simp <;> omega) _).alloc (by simp <;> omega) _)
theorem best_step {f : List Int → Int} {l : List (List Int)} {k : Nat} {best : List Int} {least : Int} (hk : k < l.length) :
    bestTo f (l.drop k) best least = if best.length = 0 ∨ f (l.getD k []) < least then bestTo f (l.drop (k + 1)) (l.getD k []) (f (l.getD k [])) else bestTo f (l.drop (k + 1)) best least := by
  have e : l.getD k [] = l[k] := by simp [List.getD, hk]
  rw [e, List.drop_eq_getElem_cons hk]
  rfl
theorem bestL_no {qs : List QD} {fs : List (List SpanD)} {rs : List RowD} (h : isIndexB qs fs = false) : bestL qs fs rs = [] := by unfold bestL; rw [h]; rfl
theorem bestL_yes {qs : List QD} {fs : List (List SpanD)} {rs : List RowD} (h : isIndexB qs fs = true) : bestL qs fs rs = bestTo (workL qs fs rs) ordersL [] 0 := by unfold bestL; rw [h]; rfl
end Go.Proofs.YtidhmgboknffkaaGreatDoor
namespace Go.Proofs.YtidhmgboknffkaaGreatDoor
open Go.RowKit
set_option linter.unusedVariables false
set_option linter.unusedSimpArgs false
theorem orders_form {w : World} {F : Nat → Prop} {v : Value} (h : SlO 29 tIntS w F v ordersL) : ∃ g cap, v = .slice (some ⟨g, 0, none⟩) 6 cap ∧ g < w.heap.size ∧ ∀ k, k < 6 → ∃ u, w.cell? ⟨g, k, none⟩ = some u ∧ SlO 3 tInt w F u (ordersL.getD k []) := by
  obtain ⟨L, us, Fs, h1, hF, h2, _⟩ := h
  have h1' := h1
  rcases h1.2 with ⟨rfl, hn⟩ | ⟨g, cap, cur, rfl, hb, hg, hn, hm, hcs, htake⟩
  · exact absurd hn (by decide)
  · refine ⟨g, cap, rfl, (Array.getElem?_eq_some_iff.1 hg).1, fun k hk => ?_⟩
    obtain ⟨g1, g2, g3⟩ := h2 k hk
    obtain ⟨u, e, hu⟩ := g2
    refine ⟨u, ?_, slO_mono hu (fun b hb => (g3 b hb).1)⟩
    have hlt : k < ordersL.length * tIntS.n := by show k < 6 * 1; omega
    have := World.ownsRow.cellAt h1' k hlt
    rw [this]
    have g4 := g1 0 (by decide)
    have e2 : k * tIntS.n + 0 = k := by show k * 1 + 0 = _; omega
    rw [e2, e] at g4
    exact g4
set_option maxHeartbeats 16000000 in
set_option maxRecDepth 100000 in
theorem specBestOrder (qv fv rv : Value) (qs : List QD) (fs : List (List SpanD)) (rs : List RowD) (w : World) (h1 : SlR tQuery w qv qs) (h2 : SlR tSpanS w fv fs) (h3 : SlR tRow w rv rs) (hs : zL tQuery qs ≤ 1048576) (hz : zL tSpanS fs ≤ 1048576) (hr : zL tRow rs ≤ 1048576) :
    Calls Tryz.prog 6 #[.agg #[qv, fv], rv] w fun e w' => ∃ v, e = .returned v ∧ SlO 3 tInt w' (since w) v (bestL qs fs rs) ∧ Below w.heap.size w w' := by
  have HS := Lib.hid hs; have HZ := Lib.hid hz; have HZR := Lib.hid hr
  obtain ⟨qa, qc, rfl⟩ := slR_len h1
  obtain ⟨fa, fc, rfl⟩ := slR_len h2
  obtain ⟨ra, rc, rfl⟩ := slR_len h3
  have d0 := Lib.hid ((Below.refl w.heap.size w).alloc (Nat.le_refl _) (.cells #[.slice qa qs.length qc, .slice fa fs.length fc] 34))
  have B0 := Lib.hid (heap_alloc_new w (.cells #[.slice qa qs.length qc, .slice fa fs.length fc] 34))
  have H1 := Lib.hid (slR_below tQuery_law h1 d0.out); have H2 := Lib.hid (slR_below tSpanS_law h2 d0.out); have H3 := Lib.hid (slR_below tRow_law h3 d0.out)
  have HX := Lib.hid (fun w g1 g2 => specIsIndex (.slice qa qs.length qc) (.slice fa fs.length fc) qs fs w g1 g2 HS.out HZ.out)
  have HW := Lib.hid (fun ov os w g1 g2 g3 g4 go => specWorkOf (.slice qa qs.length qc) (.slice fa fs.length fc) (.slice ra rs.length rc) ov qs fs rs os w g1 g2 g3 g4 HS.out HZ.out HZR.out go)
  have hsz : Hid ((w.alloc (.cells #[.slice qa qs.length qc, .slice fa fs.length fc] 34)).heap.size = w.heap.size + 1) := Lib.hid (by simp)
  go_enter Tryz.func6, Tryz.ntmps6
  go_wp2_with fail
  clear h1 h2 h3 hs hz hr
  generalize w.alloc (.cells #[.slice qa qs.length qc, .slice fa fs.length fc] 34) = W at *
  have OB0 := Lib.hid (slO_empty (T := tInt) W 3 (since w) (show w.heap.size ≤ W.heap.size from d0.out.size))
  have dE := Lib.hid ((Below.refl W.heap.size W).alloc (Nat.le_refl _) (.cells #[] 3))
  have hE : Hid ((W.alloc (.cells #[] 3)).heap.size = W.heap.size + 1) := Lib.hid (by simp)
  refine (specL6Orders _).mono ?_
  rintro e w1 ⟨lv, rfl, ol, c1⟩
  have D1 := Lib.hid (dE.out.trans (c1.mono dE.out.size))
  have hw1 : Hid (w.heap.size + 2 ≤ w1.heap.size) := Lib.hid (by have := c1.size; have := hE.out; have := hsz.out; omega)
  replace B0 := Lib.hid ((D1.out.block w.heap.size (Array.getElem?_eq_some_iff.1 B0.out).1).trans B0.out)
  have OB := Lib.hid (slO_fresh tInt_law OB0.out c1)
  have OL := Lib.hid (slO_mono ol (F' := since w) (fun b hb => by have h9 : (W.alloc (.cells #[] 3)).heap.size ≤ b := hb; have := hE.out; have := hsz.out; show w.heap.size ≤ b; omega))
  replace H1 := Lib.hid (slR_below tQuery_law H1.out D1.out)
  replace H2 := Lib.hid (slR_below tSpanS_law H2.out D1.out)
  replace H3 := Lib.hid (slR_below tRow_law H3.out D1.out)
  have DW := Lib.hid (d0.out.trans (D1.out.mono d0.out.size))
  obtain ⟨g, lc, rfl, hg, hu⟩ := orders_form OL.out
  have HG := Lib.hid hg; have HU := Lib.hid hu
  replace OB := Lib.hid (show SlO 3 tInt w1 (since w) (.slice (some ⟨w.heap.size + 1, 0, none⟩) 0 0) [] by rw [← hsz.out]; exact OB.out)
  clear OL ol c1 hg hu OB0 D1 dE hE d0 hsz
  go_wp2
  cases hx : isIndexB qs fs with
  | false =>
    have HE := Lib.hid (bestL_no (rs := rs) hx)
    rw [hx] at HX
    clear hx HW
    go_loopw [5, 6, 8] (fun bt lt it wr => wr = w1 ∧ it = .int .i64 0 ∧ lt = .int .i64 0 ∧ bt = .slice (some ⟨w.heap.size + 1, 0, none⟩) 0 0) (fun _ _ _ _ => 0)
    case atStart => exact ⟨rfl, rfl, rfl, rfl⟩
    case round =>
      obtain ⟨rfl, rfl, rfl, rfl⟩ := hrel
      have x0 := (cell_of_row wr _ 0 _ _ _ B0.out).trans (show _ = some (Value.slice qa qs.length qc) from rfl)
      have x1 := (cell_of_row wr _ 1 _ _ _ B0.out).trans (show _ = some (Value.slice fa fs.length fc) from rfl)
      go_wp2_with fail
      clear x0 x1
      refine (HX.out wr H1.out H2.out).mono ?_
      rintro e w2 ⟨rfl, c2⟩
      have D2 := Lib.hid (DW.out.trans (c2.mono DW.out.size))
      replace OB := Lib.hid (slO_fresh tInt_law OB.out c2)
      clear c2
      go_wp2
      go_ret
      exact ⟨_, rfl, by rw [HE.out]; exact OB.out, D2.out⟩
  | true =>
    have HE := Lib.hid (bestL_yes (rs := rs) hx)
    rw [hx] at HX
    clear hx
    go_loopw [5, 6, 8] (fun bt lt it wr => ∃ (k : Nat) (bs : List Int) (le : Int), k ≤ 6 ∧ it = .int .i64 k ∧ lt = .int .i64 le ∧ SlO 3 tInt wr (since w) bt bs ∧ bestTo (workL qs fs rs) (ordersL.drop k) bs le = bestL qs fs rs ∧ wr.heap[w.heap.size]? = some (.cells #[.slice qa qs.length qc, .slice fa fs.length fc] 34 (0, 0)) ∧ Below w1.heap.size w1 wr) (fun _ _ it _ => 6 - (intOf it).toNat)
    case atStart => exact ⟨0, [], 0, Nat.zero_le _, rfl, rfl, OB.out, HE.out.symm, B0.out, Below.refl _ _⟩
    case round =>
      clear OB B0
      obtain ⟨k, bs, le, hk, rfl, rfl, hob, hbt, hr0, hbel⟩ := hrel
      by_cases hlt : k < 6
      · have i1 : (0 : Int) ≤ (k : Int) := by omega
        have i2 : (k : Int) < 6 := by omega
        obtain ⟨u, hc, hu⟩ := HU.out k hlt
        obtain ⟨ba, bc, rfl⟩ := slO_len hob
        have hst := best_step (f := workL qs fs rs) (l := ordersL) (k := k) (best := bs) (least := le) hlt
        rw [hbt] at hst
        have HST := Lib.hid hst
        have OB := Lib.hid hob
        have B0 := Lib.hid hr0
        have d := Lib.hid hbel
        have RC := Lib.hid hc
        have hol : (ordersL.getD k []).length = 3 := by match k, hlt with | 0, _ => rfl | 1, _ => rfl | 2, _ => rfl | 3, _ => rfl | 4, _ => rfl | 5, _ => rfl
        have HOL := Lib.hid hol
        have hlo : (ordersL.getD k []).length ≤ 1048576 := by omega
        replace hu := slO_fresh tInt_law hu hbel
        have OU := Lib.hid hu
        clear hst hob hbt hr0 hbel hc hol hu
        generalize ordersL.getD k [] = od at *
        obtain ⟨ua, uc, rfl⟩ := slO_len OU.out
        have p_B0_0 := (cell_of_row wr _ 0 _ _ _ B0.out).trans (show _ = some (Value.slice qa qs.length qc) from rfl)
        have p_B0_1 := (cell_of_row wr _ 1 _ _ _ B0.out).trans (show _ = some (Value.slice fa fs.length fc) from rfl)
        go_wp2_with fail
        clear p_B0_0 p_B0_1
        refine (HX.out wr (slR_below tQuery_law H1.out d.out) (slR_below tSpanS_law H2.out d.out)).mono ?_
        rintro e w2 ⟨rfl, c2⟩
        replace B0 := Lib.hid ((c2.block w.heap.size (Array.getElem?_eq_some_iff.1 B0.out).1).trans B0.out)
        replace OB := Lib.hid (slO_fresh tInt_law OB.out c2)
        replace OU := Lib.hid (slO_fresh tInt_law OU.out c2)
        replace d := Lib.hid (d.out.trans (c2.mono d.out.size))
        have Z_w2 := Lib.hid (show wr.heap.size ≤ w2.heap.size from c2.size)
        clear c2
        go_wp2
        have p_B0_0 := (cell_of_row w2 _ 0 _ _ _ B0.out).trans (show _ = some (Value.slice qa qs.length qc) from rfl)
        have p_B0_1 := (cell_of_row w2 _ 1 _ _ _ B0.out).trans (show _ = some (Value.slice fa fs.length fc) from rfl)
        have p_r0 := (d.out.cell (p := ⟨g, k, none⟩) HG.out).trans RC.out
        refine wp_region_held_drew (S := fun w' => w'.cell? ⟨w.heap.size, 0, none⟩ = some (Value.slice qa qs.length qc) ∧ w'.cell? ⟨w.heap.size, 1, none⟩ = some (Value.slice fa fs.length fc) ∧ w'.cell? ⟨g, k, none⟩ = some (Value.slice ua od.length uc)) (by kernel_rfl) ⟨p_B0_0, p_B0_1, p_r0⟩ (fun hHeld => ?_)
        clear p_B0_0 p_B0_1 p_r0
        have cdr : Below w2.heap.size w2 w2.drew := below_drew (Below.refl _ _)
        replace B0 := Lib.hid ((cdr.block w.heap.size (Array.getElem?_eq_some_iff.1 B0.out).1).trans B0.out)
        replace OB := Lib.hid (slO_fresh tInt_law OB.out cdr)
        replace OU := Lib.hid (slO_fresh tInt_law OU.out cdr)
        replace d := Lib.hid (d.out.trans (cdr.mono d.out.size))
        clear cdr
        refine take_runs (i := 0) (v := ?_) (by simp only [List.getElem?_toArray, List.getElem?_cons_succ, List.getElem?_cons_zero]; rfl) (by kernel_rfl) (by kernel_rfl) (by kernel_rfl) rfl (by exact fun _ _ _ h => h) (by rfl) ?_ (by assumption) ?_
        rotate_left
        · intro w hSw; (try dsimp only at hSw); go_simp; try (with_reducible rfl)
        try simp only [Act.put, List.setIfInBounds_toArray, List.set_cons_zero, List.set_cons_succ]
        refine take_runs (i := 1) (v := ?_) (by simp only [List.getElem?_toArray, List.getElem?_cons_succ, List.getElem?_cons_zero]; rfl) (by kernel_rfl) (by kernel_rfl) (by kernel_rfl) rfl (by exact fun _ _ _ h => h) (by rfl) ?_ (by assumption) ?_
        rotate_left
        · intro w hSw; (try dsimp only at hSw); go_simp; try (with_reducible rfl)
        try simp only [Act.put, List.setIfInBounds_toArray, List.set_cons_zero, List.set_cons_succ]
        refine take_runs (i := 2) (v := ?_) (by simp only [List.getElem?_toArray, List.getElem?_cons_succ, List.getElem?_cons_zero]; rfl) (by kernel_rfl) (by kernel_rfl) (by kernel_rfl) rfl (by exact fun _ _ _ h => h) (by rfl) ?_ (by assumption) ?_
        rotate_left
        · intro w hSw; (try dsimp only at hSw); go_simp; try (with_reducible rfl)
        try simp only [Act.put, List.setIfInBounds_toArray, List.set_cons_zero, List.set_cons_succ]
        refine take_runs (i := 3) (v := ?_) (by simp only [List.getElem?_toArray, List.getElem?_cons_succ, List.getElem?_cons_zero]; rfl) (by kernel_rfl) (by kernel_rfl) (by kernel_rfl) rfl (by exact fun _ _ _ h => h) (by rfl) ?_ (by assumption) ?_
        rotate_left
        · intro w hSw; (try dsimp only at hSw); go_simp; try (with_reducible rfl)
        try simp only [Act.put, List.setIfInBounds_toArray, List.set_cons_zero, List.set_cons_succ]
        refine take_runs (i := 4) (v := ?_) (by simp only [List.getElem?_toArray, List.getElem?_cons_succ, List.getElem?_cons_zero]; rfl) (by kernel_rfl) (by kernel_rfl) (by kernel_rfl) rfl (by exact fun _ _ _ h => h) (by rfl) ?_ (by assumption) ?_
        rotate_left
        · intro w hSw; (try dsimp only at hSw); go_simp; try (with_reducible rfl)
        try simp only [Act.put, List.setIfInBounds_toArray, List.set_cons_zero, List.set_cons_succ]
        refine take_runs (i := 5) (v := ?_) (by simp only [List.getElem?_toArray, List.getElem?_cons_succ, List.getElem?_cons_zero]; rfl) (by kernel_rfl) (by kernel_rfl) (by kernel_rfl) rfl (by exact fun _ _ _ h => h) (by rfl) ?_ (by assumption) ?_
        rotate_left
        · intro w hSw; (try dsimp only at hSw); go_simp; try (with_reducible rfl)
        try simp only [Act.put, List.setIfInBounds_toArray, List.set_cons_zero, List.set_cons_succ]
        refine wpAnyH_ready (rs := [6]) (by kernel_rfl) (by simp) ?_
        refine (AllReadyH.cons (o := _) (by simp only [List.getElem?_toArray, List.getElem?_cons_succ, List.getElem?_cons_zero]; rfl) (fun K hK => ?_) AllReadyH.nil)
        go_simp
        refine (HW.out (.slice ua od.length uc) od (w2.drew) (slR_below tQuery_law H1.out d.out) (slR_below tSpanS_law H2.out d.out) (slR_below tRow_law H3.out d.out) (slR_ints (slO_reads tInt_law OU.out)) hlo).mono ?_
        rintro e w3 ⟨rfl, c3⟩
        replace B0 := Lib.hid ((c3.block w.heap.size (Array.getElem?_eq_some_iff.1 B0.out).1).trans B0.out)
        replace OB := Lib.hid (slO_fresh tInt_law OB.out c3)
        replace OU := Lib.hid (slO_fresh tInt_law OU.out c3)
        replace d := Lib.hid (d.out.trans (c3.mono d.out.size))
        have Z_w3 := Lib.hid (show w2.heap.size ≤ w3.heap.size from c3.size)
        clear c3
        have p_B0_0 := (cell_of_row w3 _ 0 _ _ _ B0.out).trans (show _ = some (Value.slice qa qs.length qc) from rfl)
        have p_B0_1 := (cell_of_row w3 _ 1 _ _ _ B0.out).trans (show _ = some (Value.slice fa fs.length fc) from rfl)
        have p_r0 := (d.out.cell (p := ⟨g, k, none⟩) HG.out).trans RC.out
        refine hK.out _ _ ⟨p_B0_0, p_B0_1, p_r0⟩ (fun hHeld => ?_)
        clear p_B0_0 p_B0_1 p_r0
        clear hK K
        try simp only [Act.put, List.setIfInBounds_toArray, List.set_cons_zero, List.set_cons_succ]
        refine take_runs (i := 7) (v := ?_) (by simp only [List.getElem?_toArray, List.getElem?_cons_succ, List.getElem?_cons_zero]; rfl) (by kernel_rfl) (by kernel_rfl) (by kernel_rfl) rfl (by exact fun _ _ _ h => h) (by rfl) ?_ (by assumption) ?_
        rotate_left
        · intro w hSw; (try dsimp only at hSw); go_simp; try (with_reducible rfl)
        try simp only [Act.put, List.setIfInBounds_toArray, List.set_cons_zero, List.set_cons_succ]
        refine wpAnyH_done (by kernel_rfl) ?_ _
        clear hHeld
        generalize workL qs fs rs od = n at *
        by_cases cb : bs.length = 0
        · have i3 : (bs.length : Int) = 0 := by omega
          have p_r0 := (d.out.cell (p := ⟨g, k, none⟩) HG.out).trans RC.out
          go_wp2
          go_roundw
          case rel => exact ⟨k + 1, od, n, by omega, by go_num, rfl, OU.out, (HST.out.trans (if_pos (Or.inl cb))).symm, B0.out, d.out⟩
          case measure => simp [intOf]; omega
        · have i3 : ¬ (bs.length : Int) = 0 := by omega
          by_cases cl : n < le
          · have p_r0 := (d.out.cell (p := ⟨g, k, none⟩) HG.out).trans RC.out
            go_wp2
            go_roundw
            case rel => exact ⟨k + 1, od, n, by omega, by go_num, rfl, OU.out, (HST.out.trans (if_pos (Or.inr cl))).symm, B0.out, d.out⟩
            case measure => simp [intOf]; omega
          · go_wp2
            go_roundw
            case rel => exact ⟨k + 1, bs, le, by omega, by go_num, rfl, OB.out, (HST.out.trans (if_neg (fun h => h.elim cb cl))).symm, B0.out, d.out⟩
            case measure => simp [intOf]; omega
      · obtain rfl : k = 6 := by omega
        have hb : bs = bestL qs fs rs := hbt
        obtain ⟨ba, bc, rfl⟩ := slO_len hob
        go_wp2
        go_ret
        exact ⟨_, rfl, by rw [← hb]; exact hob, DW.out.trans (hbel.mono DW.out.size)⟩
end Go.Proofs.YtidhmgboknffkaaGreatDoor
namespace Go.Proofs.YtidhmgboknffkaaGreatDoor
open Go.RowKit
set_option linter.unusedVariables false
set_option linter.unusedSimpArgs false
theorem fitBestOrder (x0 : List QD) (x1 : List (List SpanD)) (rs : List RowD) : ∀ (v0 v1 v2 : Value) (w : World), SlR tQuery w v0 x0 → SlR tSpanS w v1 x1 → SlR tRow w v2 rs → zL tQuery x0 + zL tSpanS x1 + zL tRow rs ≤ 1048576 →
    Calls Tryz.prog 6 #[.agg #[v0, v1], v2] w (fun e w' => ∃ (g0 : Value) (G0 : Nat → Prop), e = .returned g0 ∧ SlO 3 tInt w' G0 g0 (bestL x0 x1 rs) ∧ (∀ b, G0 b → w.heap.size ≤ b) ∧ Below w.heap.size w w') := by
  intro v0 v1 v2 w h1 h2 h3 hz
  refine (specBestOrder v0 v1 v2 x0 x1 rs w h1 h2 h3 (by omega) (by omega) (by omega)).mono ?_
  rintro e w' ⟨u, he, ho, hb⟩
  exact ⟨u, since w, he, ho, fun b hb => hb, hb⟩
end Go.Proofs.YtidhmgboknffkaaGreatDoor
namespace Go.Proofs.YtidhmgboknffkaaGreatDoor
open Go.RowKit
set_option linter.unusedVariables false
set_option linter.unusedSimpArgs false
theorem gOrd : Tryz.prog.globalNamed "loop.example/g01986/impl.probeOrders" = some 0 := by kernel_rfl
theorem tOrd : (Tryz.prog.globals[0]?).map (·.type) = some 70 := by kernel_rfl
theorem cOrd6 : Tryz.prog.cellsOf 70 = 18 := by kernel_rfl
theorem cOrd : Tryz.prog.cellsOf 69 = 3 := by kernel_rfl
theorem cOrdI : Tryz.prog.cellsOf 3 = 1 := by kernel_rfl
def ordD : DataW Unit := .agg (ordersL.map fun o => Lib.tabData .i64 o)
theorem cells_of_orders {w : World} {enc : TypeId × Value → Unit} {base : Nat} {sp : Nat → Bool} {held : Bool} {fuel : Nat} {cs : List Value} {p : List MemPlace}
    (h : DataW.trod enc Tryz.prog w base sp held fuel 70 cs = some (ordD, p)) : ∀ i, i < 18 → cs[i]? = some (.int .i64 (ordC.getD i 0)) := by
  cases fuel with
  | zero => simp [DataW.trod] at h
  | succ fuel =>
    simp only [DataW.trod, Tryz.underlying70, cOrd, cOrd6] at h
    split at h
    · rename_i hl
      obtain ⟨xs, hm, hx⟩ := Option.map_eq_some_iff.1 h
      have hxs : xs.map (·.1) = ordersL.map fun o => (Lib.tabData .i64 o : DataW Unit) := by
        have := congrArg Prod.fst hx
        simpa [ordD] using this
      have one : ∀ k, k < 6 → ((cs.drop (k * 3)).take 3) = (ordersL.getD k []).map fun z => Value.int .i64 z := by
        intro k hk
        obtain ⟨b, hb, hf⟩ := Lib.mapM_at hm k k (by simp [hk])
        have h2 : (xs.map (·.1))[k]? = some b.1 := by simp [hb]
        rw [hxs] at h2
        have hk' : k < ordersL.length := by show k < 6; exact hk
        rw [List.getElem?_map, List.getElem?_eq_getElem hk'] at h2
        simp only [Option.map_some, Option.some.injEq] at h2
        obtain ⟨b1, b2⟩ := b
        simp only at h2
        have e : ordersL.getD k [] = ordersL[k] := by simp [List.getD, hk']
        rw [e]
        exact Lib.cells_of_tab Tryz.underlying69 Tryz.underlying3 cOrdI cOrd (by rw [h2]; exact hf)
      intro i hi
      have h3 := one (i / 3) (by omega)
      have h4 := congrArg (·[i % 3]?) h3
      have h5 : i % 3 < 3 := Nat.mod_lt _ (by omega)
      simp only [List.getElem?_take, List.getElem?_drop, if_pos h5] at h4
      rw [show i / 3 * 3 + i % 3 = i by omega] at h4
      rw [h4]
      rcases (show i = 0 ∨ i = 1 ∨ i = 2 ∨ i = 3 ∨ i = 4 ∨ i = 5 ∨ i = 6 ∨ i = 7 ∨ i = 8 ∨ i = 9 ∨ i = 10 ∨ i = 11 ∨ i = 12 ∨ i = 13 ∨ i = 14 ∨ i = 15 ∨ i = 16 ∨ i = 17 by omega) with rfl | rfl | rfl | rfl | rfl | rfl | rfl | rfl | rfl | rfl | rfl | rfl | rfl | rfl | rfl | rfl | rfl | rfl <;> rfl
    · cases h
theorem ordT_of_head {W : World} {rest : List (String × DataW Unit)} (h : laidMet Tryz.prog (("loop.example/g01986/impl.probeOrders", ordD) :: rest) W) : OrdT W := by
  obtain ⟨ps, ⟨g', t', cs, fuel, p, q, hg', ht', hvar, hd, _, _⟩, _⟩ := h
  obtain rfl := Option.some.inj (gOrd.symm.trans hg')
  obtain rfl := Option.some.inj (tOrd.symm.trans ht')
  intro i hi
  have h1 := cells_of_orders hd i hi
  have h2 := World.var?_cell gOrd hvar i
  rw [h2]
  simpa using h1
theorem var_below {P : Program} {W W' : World} {n : String} {g : Nat} {cs : Array Value} (hg : P.globalNamed n = some g) (h : W.var? P n = some cs) (hb : Below W.heap.size W W') : W'.var? P n = some cs := by
  simp only [World.var?, hg, Option.bind_some] at h ⊢
  cases hc : W.heap[g]? with
  | none => rw [hc] at h; simp at h
  | some o => rw [hb.block g (Array.getElem?_eq_some_iff.1 hc).1]; exact h
end Go.Proofs.YtidhmgboknffkaaGreatDoor
namespace Go.Proofs.YtidhmgboknffkaaGreatDoor
open Go.RowKit
set_option linter.unusedVariables false
set_option linter.unusedSimpArgs false
set_option maxHeartbeats 32000000 in
set_option maxRecDepth 100000 in
theorem law_fnExactBestOrder (v0_0 v0_1 : Value) (x0_0 : List (Int × Int × List (Int × Int × Int) × List Int)) (x0_1 : List (List (Int × Int × List Int))) (v1_0 : Value) (x1_0 : List (Int × List Int)) (r0 : List Int) (w : World) (h0_0 : SlR tQuery w v0_0 x0_0) (h0_1 : SlR tSpanS w v0_1 x0_1) (h1_0 : SlR tRow w v1_0 x1_0) (o0_0 : tQueryS.ok x0_0) (o0_1 : tSpanSS.ok x0_1) (o1_0 : tRowS.ok x1_0) (z0 : zL tInt r0 ≤ 1048576)
    (hspec : ∀ (v0_0 v0_1 v1_0 : Value) (w : World), SlR tQuery w v0_0 x0_0 → SlR tSpanS w v0_1 x0_1 → SlR tRow w v1_0 x1_0 → zL tQuery x0_0 + zL tSpanS x0_1 + zL tRow x1_0 ≤ 1048576 → Calls Tryz.prog 6 #[.agg #[v0_0, v0_1], v1_0] w (fun e w' => ∃ (g0 : Value) (G0 : Nat → Prop), e = .returned (g0) ∧ SlO 3 tInt w' G0 g0 r0 ∧ (∀ b, G0 b → w.heap.size ≤ b) ∧ Below w.heap.size w w'))
    (himpl : ∀ (v0_0 v0_1 v1_0 : Value) (u : World), Below w.heap.size w u → SlR tQuery u v0_0 x0_0 → SlR tSpanS u v0_1 x0_1 → SlR tRow u v1_0 x1_0 → zL tQuery x0_0 + zL tSpanS x0_1 + zL tRow x1_0 ≤ 1048576 → Calls Tryz.prog 9 #[.agg #[v0_0, v0_1], v1_0] u (fun e w' => ∃ (g0 : Value) (G0 : Nat → Prop), e = .returned (g0) ∧ SlO 69 tInt w' G0 g0 r0 ∧ (∀ b, G0 b → u.heap.size ≤ b) ∧ Below u.heap.size u w')) :
    Calls Tryz.prog 3 #[.agg #[v0_0, v0_1], v1_0] w fun e w' => e = .returned (.bool true) ∧ Below w.heap.size w w' := by
  obtain ⟨c0_0, k0_0, rfl⟩ := slR_len h0_0
  obtain ⟨c0_1, k0_1, rfl⟩ := slR_len h0_1
  obtain ⟨c1_0, k1_0, rfl⟩ := slR_len h1_0
  have HB0 : Hid (Below w.heap.size w (w.alloc (.cells #[.slice c0_0 x0_0.length k0_0, .slice c0_1 x0_1.length k0_1] 25))) := Lib.hid ((Below.refl _ w).alloc (Nat.le_refl _) _)
  have B0 : Hid ((w.alloc (.cells #[.slice c0_0 x0_0.length k0_0, .slice c0_1 x0_1.length k0_1] 25)).heap[w.heap.size]? = some (.cells #[.slice c0_0 x0_0.length k0_0, .slice c0_1 x0_1.length k0_1] 25 (0, 0))) := Lib.hid (by have := heap_alloc_new w (.cells #[.slice c0_0 x0_0.length k0_0, .slice c0_1 x0_1.length k0_1] 25); simpa only [World.size_alloc] using this)
  have A0_0 : Hid (SlR tQuery (w.alloc (.cells #[.slice c0_0 x0_0.length k0_0, .slice c0_1 x0_1.length k0_1] 25)) (.slice c0_0 x0_0.length k0_0) x0_0) := Lib.hid (slR_below tQuery_law h0_0 HB0.out)
  have A0_1 : Hid (SlR tSpanS (w.alloc (.cells #[.slice c0_0 x0_0.length k0_0, .slice c0_1 x0_1.length k0_1] 25)) (.slice c0_1 x0_1.length k0_1) x0_1) := Lib.hid (slR_below tSpanS_law h0_1 HB0.out)
  have A1_0 : Hid (SlR tRow (w.alloc (.cells #[.slice c0_0 x0_0.length k0_0, .slice c0_1 x0_1.length k0_1] 25)) (.slice c1_0 x1_0.length k1_0) x1_0) := Lib.hid (slR_below tRow_law h1_0 HB0.out)
  have O0_0 := Lib.hid o0_0
  have O0_1 := Lib.hid o0_1
  have O1_0 := Lib.hid o1_0
  clear h0_0 o0_0 h0_1 o0_1 h1_0 o1_0
  have HSP := Lib.hid hspec
  have HIM := Lib.hid himpl
  clear hspec himpl
  have Z0 := Lib.hid z0
  clear z0
  by_cases c0 : ((zL tQuery x0_0 + zL tSpanS x0_1 : Nat) : Int) ≤ (1048576 : Int)
  ·
    by_cases c1 : ((zL tRow x1_0 : Nat) : Int) ≤ (1048576 : Int) - ((zL tQuery x0_0 + zL tSpanS x0_1 : Nat) : Int)
    ·
      have HZ0 : Hid (((zL tQuery x0_0 + zL tSpanS x0_1 : Nat) : Int) ≤ (1048576 : Int)) := Lib.hid c0
      have HK0 : Hid ((1048576 : Int) ≤ 1048576) := Lib.hid (by omega)
      have hn0 : ¬ (1048576 : Int) - ((zL tQuery x0_0 + zL tSpanS x0_1 : Nat) : Int) < 0 := by omega
      have HZ1 : Hid (((zL tRow x1_0 : Nat) : Int) ≤ (1048576 : Int) - ((zL tQuery x0_0 + zL tSpanS x0_1 : Nat) : Int)) := Lib.hid c1
      have HK1 : Hid ((1048576 : Int) - ((zL tQuery x0_0 + zL tSpanS x0_1 : Nat) : Int) ≤ 1048576) := Lib.hid (by omega)
      have hn1 : ¬ (1048576 : Int) - ((zL tQuery x0_0 + zL tSpanS x0_1 : Nat) : Int) - ((zL tRow x1_0 : Nat) : Int) < 0 := by omega
      have HT : Hid (zL tQuery x0_0 + zL tSpanS x0_1 + zL tRow x1_0 ≤ 1048576) := Lib.hid (by omega)
      have S0_0 : Hid (zL tQuery x0_0 ≤ 1048576) := Lib.hid (by omega)
      have S0_1 : Hid (zL tSpanS x0_1 ≤ 1048576) := Lib.hid (by omega)
      have S1_0 : Hid (zL tRow x1_0 ≤ 1048576) := Lib.hid (by omega)
      have N0_0 := ndL_le tQuery_law (by decide) x0_0
      have N0_1 := ndL_le tSpanS_law (by decide) x0_1
      have N1_0 := ndL_le tRow_law (by decide) x1_0
      have M0 : Hid (0 ≤ (1 : Int) ∧ (1 : Int) ≤ 134217728) := Lib.hid (by have := HT.out; omega)
      have M1 : Hid (0 ≤ (1 + (ndL tQuery x0_0 : Int) + (ndL tSpanS x0_1 : Int) : Int) ∧ (1 + (ndL tQuery x0_0 : Int) + (ndL tSpanS x0_1 : Int) : Int) ≤ 134217728) := Lib.hid (by have := HT.out; omega)
      have hk : ¬ (1 + (ndL tQuery x0_0 : Int) + (ndL tSpanS x0_1 : Int) + (ndL tRow x1_0 : Int) : Int) < 0 := by omega
      clear N0_0 N0_1 N1_0
      have NR0 := ndL_le tInt_law (by decide) r0
      have MR0 : Hid (0 ≤ (1 : Int) ∧ (1 : Int) ≤ 134217728) := Lib.hid (by have := Z0.out; omega)
      have hh0 : ¬ (1 + (ndL tInt r0 : Int) : Int) < 0 := by have := Z0.out; omega
      have hq : ((1 + (ndL tInt r0 : Int) : Int) != 1 + (ndL tInt r0 : Int)) = false := by simp
      clear NR0
      clear c0 c1
      go_enter Tryz.func3, Tryz.ntmps3
      go_wp2_with fail
      have Y_W : Hid (w.heap.size + 1 ≤ (w.alloc (.cells #[.slice c0_0 x0_0.length k0_0, .slice c0_1 x0_1.length k0_1] 25)).heap.size) := Lib.hid (by simp [World.size_alloc])
      generalize (w.alloc (.cells #[.slice c0_0 x0_0.length k0_0, .slice c0_1 x0_1.length k0_1] 25)) = W at *
      have d := Lib.hid (Below.refl W.heap.size W)
      refine (szIndex_Y (.slice c0_0 x0_0.length k0_0) (.slice c0_1 x0_1.length k0_1) x0_0 x0_1 ((1048576 : Int)) W (slR_below tQuery_law A0_0.out d.out) (slR_below tSpanS_law A0_1.out d.out) HZ0.out HK0.out).mono ?_
      rintro e v1 ⟨rfl, c1⟩
      replace B0 := Lib.hid ((c1.block w.heap.size (Array.getElem?_eq_some_iff.1 B0.out).1).trans B0.out)
      replace d := Lib.hid (d.out.trans (c1.mono d.out.size))
      have Z_v1 := Lib.hid (show W.heap.size ≤ v1.heap.size from c1.size)
      clear c1
      go_wp2_with fail
      refine (szRowS_Y (.slice c1_0 x1_0.length k1_0) x1_0 ((1048576 : Int) - ((zL tQuery x0_0 + zL tSpanS x0_1 : Nat) : Int)) v1 (slR_below tRow_law A1_0.out d.out) HZ1.out HK1.out).mono ?_
      rintro e v2 ⟨rfl, c2⟩
      replace B0 := Lib.hid ((c2.block w.heap.size (Array.getElem?_eq_some_iff.1 B0.out).1).trans B0.out)
      replace d := Lib.hid (d.out.trans (c2.mono d.out.size))
      have Z_v2 := Lib.hid (show v1.heap.size ≤ v2.heap.size from c2.size)
      clear c2
      have p_B0_0 := (cell_of_row v2 _ 0 _ _ _ B0.out).trans (show _ = some (Value.slice c0_0 x0_0.length k0_0) from rfl)
      have p_B0_1 := (cell_of_row v2 _ 1 _ _ _ B0.out).trans (show _ = some (Value.slice c0_1 x0_1.length k0_1) from rfl)
      go_wp2_with fail
      clear p_B0_0 p_B0_1
      refine (toIndex_T (.slice c0_0 x0_0.length k0_0) (.slice c0_1 x0_1.length k0_1) x0_0 x0_1 v2 (slR_below tQuery_law A0_0.out d.out) (slR_below tSpanS_law A0_1.out d.out) S0_0.out S0_1.out).mono ?_
      rintro e v3 ⟨cs, rfl, ow, c3⟩
      replace B0 := Lib.hid ((c3.block w.heap.size (Array.getElem?_eq_some_iff.1 B0.out).1).trans B0.out)
      replace d := Lib.hid (d.out.trans (c3.mono d.out.size))
      have Z_v3 := Lib.hid (show v2.heap.size ≤ v3.heap.size from c3.size)
      clear c3
      replace ow := tIndex_law.lt ow
      obtain ⟨y3_0, y3_1, K3_0, K3_1, rfl, p3_0, p3_1, w3_0, w3_1, d3_0_1⟩ := tIndex_O ow
      obtain ⟨ya3_0, yc3_0, rfl⟩ := slO_len p3_0
      have P3_0 := Lib.hid p3_0
      have Q3_0 := Lib.hid (fun b h => (show v2.heap.size ≤ b ∧ b < v3.heap.size from w3_0 b h))
      obtain ⟨ya3_1, yc3_1, rfl⟩ := slO_len p3_1
      have P3_1 := Lib.hid p3_1
      have Q3_1 := Lib.hid (fun b h => (show v2.heap.size ≤ b ∧ b < v3.heap.size from w3_1 b h))
      have D3_0_1 := Lib.hid d3_0_1
      clear d3_0_1
      clear p3_0 w3_0 p3_1 w3_1 ow
      go_wp2_with fail
      refine (toRowS_S (.slice c1_0 x1_0.length k1_0) x1_0 v3 (slR_below tRow_law A1_0.out d.out) S1_0.out).mono ?_
      rintro e v4 ⟨y, rfl, o, c4⟩
      replace B0 := Lib.hid ((c4.block w.heap.size (Array.getElem?_eq_some_iff.1 B0.out).1).trans B0.out)
      replace P3_0 := Lib.hid (slO_fresh tQuery_law P3_0.out c4)
      replace P3_1 := Lib.hid (slO_fresh tSpanS_law P3_1.out c4)
      replace d := Lib.hid (d.out.trans (c4.mono d.out.size))
      have Z_v4 := Lib.hid (show v3.heap.size ≤ v4.heap.size from c4.size)
      clear c4
      obtain ⟨ya4, yc4, rfl⟩ := slO_len o
      have P4 := Lib.hid (slO_lt tRow_law o)
      have Q4 := Lib.hid (fun b (h : since v3 b ∧ b < v4.heap.size) => (show v3.heap.size ≤ b ∧ b < v4.heap.size from h))
      clear o
      go_wp2_with fail
      refine (HSP.out (.slice ya3_0 x0_0.length yc3_0) (.slice ya3_1 x0_1.length yc3_1) (.slice ya4 x1_0.length yc4) v4 (slO_reads tQuery_law P3_0.out) (slO_reads tSpanS_law P3_1.out) (slO_reads tRow_law P4.out) HT.out ).mono ?_
      rintro e v5 ⟨g0, G0, rfl, o0, q0, c5⟩
      replace B0 := Lib.hid ((c5.block w.heap.size (Array.getElem?_eq_some_iff.1 B0.out).1).trans B0.out)
      replace P3_0 := Lib.hid (slO_fresh tQuery_law P3_0.out c5)
      replace P3_1 := Lib.hid (slO_fresh tSpanS_law P3_1.out c5)
      replace P4 := Lib.hid (slO_fresh tRow_law P4.out c5)
      replace d := Lib.hid (d.out.trans (c5.mono d.out.size))
      have Z_v5 := Lib.hid (show v4.heap.size ≤ v5.heap.size from c5.size)
      clear c5
      obtain ⟨ya5, yc5, rfl⟩ := slO_len o0
      have P5 := Lib.hid (slO_lt tInt_law o0)
      have Q5 := Lib.hid (fun b (h : _ ∧ b < v5.heap.size) => (show v4.heap.size ≤ b ∧ b < v5.heap.size from ⟨q0 b h.1, h.2⟩))
      clear o0 q0
      have p_B0_0 := (cell_of_row v5 _ 0 _ _ _ B0.out).trans (show _ = some (Value.slice c0_0 x0_0.length k0_0) from rfl)
      have p_B0_1 := (cell_of_row v5 _ 1 _ _ _ B0.out).trans (show _ = some (Value.slice c0_1 x0_1.length k0_1) from rfl)
      go_wp2_with fail
      clear p_B0_0 p_B0_1
      refine (toIndex_T (.slice c0_0 x0_0.length k0_0) (.slice c0_1 x0_1.length k0_1) x0_0 x0_1 v5 (slR_below tQuery_law A0_0.out d.out) (slR_below tSpanS_law A0_1.out d.out) S0_0.out S0_1.out).mono ?_
      rintro e v6 ⟨cs, rfl, ow, c6⟩
      replace B0 := Lib.hid ((c6.block w.heap.size (Array.getElem?_eq_some_iff.1 B0.out).1).trans B0.out)
      replace P3_0 := Lib.hid (slO_fresh tQuery_law P3_0.out c6)
      replace P3_1 := Lib.hid (slO_fresh tSpanS_law P3_1.out c6)
      replace P4 := Lib.hid (slO_fresh tRow_law P4.out c6)
      replace P5 := Lib.hid (slO_fresh tInt_law P5.out c6)
      replace d := Lib.hid (d.out.trans (c6.mono d.out.size))
      have Z_v6 := Lib.hid (show v5.heap.size ≤ v6.heap.size from c6.size)
      clear c6
      replace ow := tIndex_law.lt ow
      obtain ⟨y6_0, y6_1, K6_0, K6_1, rfl, p6_0, p6_1, w6_0, w6_1, d6_0_1⟩ := tIndex_O ow
      obtain ⟨ya6_0, yc6_0, rfl⟩ := slO_len p6_0
      have P6_0 := Lib.hid p6_0
      have Q6_0 := Lib.hid (fun b h => (show v5.heap.size ≤ b ∧ b < v6.heap.size from w6_0 b h))
      obtain ⟨ya6_1, yc6_1, rfl⟩ := slO_len p6_1
      have P6_1 := Lib.hid p6_1
      have Q6_1 := Lib.hid (fun b h => (show v5.heap.size ≤ b ∧ b < v6.heap.size from w6_1 b h))
      have D6_0_1 := Lib.hid d6_0_1
      clear d6_0_1
      clear p6_0 w6_0 p6_1 w6_1 ow
      have hal : Below v6.heap.size v6 (v6.alloc (.cells #[.slice ya6_0 x0_0.length yc6_0, .slice ya6_1 x0_1.length yc6_1] 34)) := (Below.refl _ _).alloc (Nat.le_refl _) _
      have X1 := Lib.hid (heap_alloc_new v6 (.cells #[.slice ya6_0 x0_0.length yc6_0, .slice ya6_1 x0_1.length yc6_1] 34))
      have Y_X1 := Lib.hid (show v6.heap.size < (v6.alloc (.cells #[.slice ya6_0 x0_0.length yc6_0, .slice ya6_1 x0_1.length yc6_1] 34)).heap.size by simp [World.size_alloc])
      replace B0 := Lib.hid ((hal.block w.heap.size (Array.getElem?_eq_some_iff.1 B0.out).1).trans B0.out)
      replace P3_0 := Lib.hid (slO_fresh tQuery_law P3_0.out hal)
      replace P3_1 := Lib.hid (slO_fresh tSpanS_law P3_1.out hal)
      replace P4 := Lib.hid (slO_fresh tRow_law P4.out hal)
      replace P5 := Lib.hid (slO_fresh tInt_law P5.out hal)
      replace P6_0 := Lib.hid (slO_fresh tQuery_law P6_0.out hal)
      replace P6_1 := Lib.hid (slO_fresh tSpanS_law P6_1.out hal)
      replace d := Lib.hid (d.out.trans (hal.mono d.out.size))
      clear hal
      go_wp2_with fail
      generalize (v6.alloc (.cells #[.slice ya6_0 x0_0.length yc6_0, .slice ya6_1 x0_1.length yc6_1] 34)) = u7 at *
      refine (toRowS_S (.slice c1_0 x1_0.length k1_0) x1_0 u7 (slR_below tRow_law A1_0.out d.out) S1_0.out).mono ?_
      rintro e v8 ⟨y, rfl, o, c8⟩
      replace B0 := Lib.hid ((c8.block w.heap.size (Array.getElem?_eq_some_iff.1 B0.out).1).trans B0.out)
      replace X1 := Lib.hid ((c8.block v6.heap.size (Array.getElem?_eq_some_iff.1 X1.out).1).trans X1.out)
      replace P3_0 := Lib.hid (slO_fresh tQuery_law P3_0.out c8)
      replace P3_1 := Lib.hid (slO_fresh tSpanS_law P3_1.out c8)
      replace P4 := Lib.hid (slO_fresh tRow_law P4.out c8)
      replace P5 := Lib.hid (slO_fresh tInt_law P5.out c8)
      replace P6_0 := Lib.hid (slO_fresh tQuery_law P6_0.out c8)
      replace P6_1 := Lib.hid (slO_fresh tSpanS_law P6_1.out c8)
      replace d := Lib.hid (d.out.trans (c8.mono d.out.size))
      have Z_v8 := Lib.hid (show u7.heap.size ≤ v8.heap.size from c8.size)
      clear c8
      obtain ⟨ya8, yc8, rfl⟩ := slO_len o
      have P8 := Lib.hid (slO_lt tRow_law o)
      have Q8 := Lib.hid (fun b (h : since u7 b ∧ b < v8.heap.size) => (show u7.heap.size ≤ b ∧ b < v8.heap.size from h))
      clear o
      have p_X1_0 := (cell_of_row v8 _ 0 _ _ _ X1.out).trans (show _ = some (Value.slice ya6_0 x0_0.length yc6_0) from rfl)
      have p_X1_1 := (cell_of_row v8 _ 1 _ _ _ X1.out).trans (show _ = some (Value.slice ya6_1 x0_1.length yc6_1) from rfl)
      go_wp2_with fail
      clear p_X1_0 p_X1_1
      refine (HIM.out (.slice ya6_0 x0_0.length yc6_0) (.slice ya6_1 x0_1.length yc6_1) (.slice ya8 x1_0.length yc8) v8 (HB0.out.trans (d.out.mono HB0.out.size)) (slO_reads tQuery_law P6_0.out) (slO_reads tSpanS_law P6_1.out) (slO_reads tRow_law P8.out) HT.out ).mono ?_
      rintro e v9 ⟨g0, G0, rfl, o0, q0, c9⟩
      replace B0 := Lib.hid ((c9.block w.heap.size (Array.getElem?_eq_some_iff.1 B0.out).1).trans B0.out)
      replace X1 := Lib.hid ((c9.block v6.heap.size (Array.getElem?_eq_some_iff.1 X1.out).1).trans X1.out)
      replace P3_0 := Lib.hid (slO_fresh tQuery_law P3_0.out c9)
      replace P3_1 := Lib.hid (slO_fresh tSpanS_law P3_1.out c9)
      replace P4 := Lib.hid (slO_fresh tRow_law P4.out c9)
      replace P5 := Lib.hid (slO_fresh tInt_law P5.out c9)
      replace P6_0 := Lib.hid (slO_fresh tQuery_law P6_0.out c9)
      replace P6_1 := Lib.hid (slO_fresh tSpanS_law P6_1.out c9)
      replace P8 := Lib.hid (slO_fresh tRow_law P8.out c9)
      replace d := Lib.hid (d.out.trans (c9.mono d.out.size))
      have Z_v9 := Lib.hid (show v8.heap.size ≤ v9.heap.size from c9.size)
      clear c9
      obtain ⟨ya9, yc9, rfl⟩ := slO_len o0
      have P9 := Lib.hid (slO_lt tInt_law o0)
      have Q9 := Lib.hid (fun b (h : _ ∧ b < v9.heap.size) => (show v8.heap.size ≤ b ∧ b < v9.heap.size from ⟨q0 b h.1, h.2⟩))
      clear o0 q0
      go_wp2_with fail
      refine (eqIntS_S (.slice ya9 r0.length yc9) (.slice ya5 r0.length yc5) r0 v9 (slO_reads tInt_law P9.out) (slO_reads tInt_law P5.out) Z0.out).mono ?_
      rintro e v10 ⟨rfl, c10⟩
      replace B0 := Lib.hid ((c10.block w.heap.size (Array.getElem?_eq_some_iff.1 B0.out).1).trans B0.out)
      replace X1 := Lib.hid ((c10.block v6.heap.size (Array.getElem?_eq_some_iff.1 X1.out).1).trans X1.out)
      replace P3_0 := Lib.hid (slO_fresh tQuery_law P3_0.out c10)
      replace P3_1 := Lib.hid (slO_fresh tSpanS_law P3_1.out c10)
      replace P4 := Lib.hid (slO_fresh tRow_law P4.out c10)
      replace P5 := Lib.hid (slO_fresh tInt_law P5.out c10)
      replace P6_0 := Lib.hid (slO_fresh tQuery_law P6_0.out c10)
      replace P6_1 := Lib.hid (slO_fresh tSpanS_law P6_1.out c10)
      replace P8 := Lib.hid (slO_fresh tRow_law P8.out c10)
      replace P9 := Lib.hid (slO_fresh tInt_law P9.out c10)
      replace d := Lib.hid (d.out.trans (c10.mono d.out.size))
      have Z_v10 := Lib.hid (show v9.heap.size ≤ v10.heap.size from c10.size)
      clear c10
      go_wp2
      have p_B0_0 := (cell_of_row v10 _ 0 _ _ _ B0.out).trans (show _ = some (Value.slice c0_0 x0_0.length k0_0) from rfl)
      have p_B0_1 := (cell_of_row v10 _ 1 _ _ _ B0.out).trans (show _ = some (Value.slice c0_1 x0_1.length k0_1) from rfl)
      have p_X1_0 := (cell_of_row v10 _ 0 _ _ _ X1.out).trans (show _ = some (Value.slice ya6_0 x0_0.length yc6_0) from rfl)
      have p_X1_1 := (cell_of_row v10 _ 1 _ _ _ X1.out).trans (show _ = some (Value.slice ya6_1 x0_1.length yc6_1) from rfl)
      refine wp_region_held_drew (S := fun w' => w'.cell? ⟨w.heap.size, 0, none⟩ = some (Value.slice c0_0 x0_0.length k0_0) ∧ w'.cell? ⟨w.heap.size, 1, none⟩ = some (Value.slice c0_1 x0_1.length k0_1) ∧ w'.cell? ⟨v6.heap.size, 0, none⟩ = some (Value.slice ya6_0 x0_0.length yc6_0) ∧ w'.cell? ⟨v6.heap.size, 1, none⟩ = some (Value.slice ya6_1 x0_1.length yc6_1)) (by kernel_rfl) ⟨p_B0_0, p_B0_1, p_X1_0, p_X1_1⟩ (fun hHeld => ?_)
      clear p_B0_0 p_B0_1 p_X1_0 p_X1_1
      have cd11 : Below v10.heap.size v10 v10.drew := below_drew (Below.refl _ _)
      replace B0 := Lib.hid ((cd11.block w.heap.size (Array.getElem?_eq_some_iff.1 B0.out).1).trans B0.out)
      replace X1 := Lib.hid ((cd11.block v6.heap.size (Array.getElem?_eq_some_iff.1 X1.out).1).trans X1.out)
      replace P3_0 := Lib.hid (slO_fresh tQuery_law P3_0.out cd11)
      replace P3_1 := Lib.hid (slO_fresh tSpanS_law P3_1.out cd11)
      replace P4 := Lib.hid (slO_fresh tRow_law P4.out cd11)
      replace P5 := Lib.hid (slO_fresh tInt_law P5.out cd11)
      replace P6_0 := Lib.hid (slO_fresh tQuery_law P6_0.out cd11)
      replace P6_1 := Lib.hid (slO_fresh tSpanS_law P6_1.out cd11)
      replace P8 := Lib.hid (slO_fresh tRow_law P8.out cd11)
      replace P9 := Lib.hid (slO_fresh tInt_law P9.out cd11)
      replace d := Lib.hid (d.out.trans (cd11.mono d.out.size))
      clear cd11
      refine take_runs (i := 0) (v := ?_) (by simp only [List.getElem?_toArray, List.getElem?_cons_succ, List.getElem?_cons_zero]; rfl) (by kernel_rfl) (by kernel_rfl) (by kernel_rfl) rfl (by exact fun _ _ _ h => h) (by rfl) ?_ (by assumption) ?_
      rotate_left
      · intro w hSw; (try dsimp only at hSw); go_simp; try (with_reducible rfl)
      try simp only [Act.put, List.setIfInBounds_toArray, List.set_cons_zero, List.set_cons_succ]
      refine take_runs (i := 1) (v := ?_) (by simp only [List.getElem?_toArray, List.getElem?_cons_succ, List.getElem?_cons_zero]; rfl) (by kernel_rfl) (by kernel_rfl) (by kernel_rfl) rfl (by exact fun _ _ _ h => h) (by rfl) ?_ (by assumption) ?_
      rotate_left
      · intro w hSw; (try dsimp only at hSw); go_simp; try (with_reducible rfl)
      try simp only [Act.put, List.setIfInBounds_toArray, List.set_cons_zero, List.set_cons_succ]
      refine wpAnyH_ready (rs := [2]) (by kernel_rfl) (by simp) ?_
      refine AllReadyH.cons (o := _) (by simp only [List.getElem?_toArray, List.getElem?_cons_succ, List.getElem?_cons_zero]; rfl) (fun K hK => ?_) AllReadyH.nil
      go_simp
      refine (toIndex_T (.slice c0_0 x0_0.length k0_0) (.slice c0_1 x0_1.length k0_1) x0_0 x0_1 (v10.drew) (slR_below tQuery_law A0_0.out d.out) (slR_below tSpanS_law A0_1.out d.out) S0_0.out S0_1.out).mono ?_
      rintro e v12 ⟨cs, rfl, ow, c12⟩
      replace B0 := Lib.hid ((c12.block w.heap.size (Array.getElem?_eq_some_iff.1 B0.out).1).trans B0.out)
      replace X1 := Lib.hid ((c12.block v6.heap.size (Array.getElem?_eq_some_iff.1 X1.out).1).trans X1.out)
      replace P3_0 := Lib.hid (slO_fresh tQuery_law P3_0.out c12)
      replace P3_1 := Lib.hid (slO_fresh tSpanS_law P3_1.out c12)
      replace P4 := Lib.hid (slO_fresh tRow_law P4.out c12)
      replace P5 := Lib.hid (slO_fresh tInt_law P5.out c12)
      replace P6_0 := Lib.hid (slO_fresh tQuery_law P6_0.out c12)
      replace P6_1 := Lib.hid (slO_fresh tSpanS_law P6_1.out c12)
      replace P8 := Lib.hid (slO_fresh tRow_law P8.out c12)
      replace P9 := Lib.hid (slO_fresh tInt_law P9.out c12)
      replace d := Lib.hid (d.out.trans (c12.mono d.out.size))
      have Z_v12 := Lib.hid (show v10.heap.size ≤ v12.heap.size from c12.size)
      clear c12
      replace ow := tIndex_law.lt ow
      obtain ⟨y12_0, y12_1, K12_0, K12_1, rfl, p12_0, p12_1, w12_0, w12_1, d12_0_1⟩ := tIndex_O ow
      obtain ⟨ya12_0, yc12_0, rfl⟩ := slO_len p12_0
      have P12_0 := Lib.hid p12_0
      have Q12_0 := Lib.hid (fun b h => (show (v10.drew).heap.size ≤ b ∧ b < v12.heap.size from w12_0 b h))
      obtain ⟨ya12_1, yc12_1, rfl⟩ := slO_len p12_1
      have P12_1 := Lib.hid p12_1
      have Q12_1 := Lib.hid (fun b h => (show (v10.drew).heap.size ≤ b ∧ b < v12.heap.size from w12_1 b h))
      have D12_0_1 := Lib.hid d12_0_1
      clear d12_0_1
      clear p12_0 w12_0 p12_1 w12_1 ow
      have p_B0_0 := (cell_of_row v12 _ 0 _ _ _ B0.out).trans (show _ = some (Value.slice c0_0 x0_0.length k0_0) from rfl)
      have p_B0_1 := (cell_of_row v12 _ 1 _ _ _ B0.out).trans (show _ = some (Value.slice c0_1 x0_1.length k0_1) from rfl)
      have p_X1_0 := (cell_of_row v12 _ 0 _ _ _ X1.out).trans (show _ = some (Value.slice ya6_0 x0_0.length yc6_0) from rfl)
      have p_X1_1 := (cell_of_row v12 _ 1 _ _ _ X1.out).trans (show _ = some (Value.slice ya6_1 x0_1.length yc6_1) from rfl)
      refine hK.out _ _ ⟨p_B0_0, p_B0_1, p_X1_0, p_X1_1⟩ (fun hHeld => ?_)
      clear p_B0_0 p_B0_1 p_X1_0 p_X1_1
      clear hK K
      try simp only [Act.put, List.setIfInBounds_toArray, List.set_cons_zero, List.set_cons_succ]
      refine wpAnyH_ready (rs := [3]) (by kernel_rfl) (by simp) ?_
      refine AllReadyH.cons (o := _) (by simp only [List.getElem?_toArray, List.getElem?_cons_succ, List.getElem?_cons_zero]; rfl) (fun K hK => ?_) AllReadyH.nil
      go_simp
      refine (eqIndex_T (.slice ya6_0 x0_0.length yc6_0) (.slice ya6_1 x0_1.length yc6_1) x0_0 x0_1 (.slice ya12_0 x0_0.length yc12_0) (.slice ya12_1 x0_1.length yc12_1) v12 (slO_reads tQuery_law P6_0.out) (slO_reads tSpanS_law P6_1.out) (slO_reads tQuery_law P12_0.out) (slO_reads tSpanS_law P12_1.out) S0_0.out S0_1.out).mono ?_
      rintro e v13 ⟨rfl, c13⟩
      replace B0 := Lib.hid ((c13.block w.heap.size (Array.getElem?_eq_some_iff.1 B0.out).1).trans B0.out)
      replace X1 := Lib.hid ((c13.block v6.heap.size (Array.getElem?_eq_some_iff.1 X1.out).1).trans X1.out)
      replace P3_0 := Lib.hid (slO_fresh tQuery_law P3_0.out c13)
      replace P3_1 := Lib.hid (slO_fresh tSpanS_law P3_1.out c13)
      replace P4 := Lib.hid (slO_fresh tRow_law P4.out c13)
      replace P5 := Lib.hid (slO_fresh tInt_law P5.out c13)
      replace P6_0 := Lib.hid (slO_fresh tQuery_law P6_0.out c13)
      replace P6_1 := Lib.hid (slO_fresh tSpanS_law P6_1.out c13)
      replace P8 := Lib.hid (slO_fresh tRow_law P8.out c13)
      replace P9 := Lib.hid (slO_fresh tInt_law P9.out c13)
      replace P12_0 := Lib.hid (slO_fresh tQuery_law P12_0.out c13)
      replace P12_1 := Lib.hid (slO_fresh tSpanS_law P12_1.out c13)
      replace d := Lib.hid (d.out.trans (c13.mono d.out.size))
      have Z_v13 := Lib.hid (show v12.heap.size ≤ v13.heap.size from c13.size)
      clear c13
      clear P12_0 P12_1
      have p_B0_0 := (cell_of_row v13 _ 0 _ _ _ B0.out).trans (show _ = some (Value.slice c0_0 x0_0.length k0_0) from rfl)
      have p_B0_1 := (cell_of_row v13 _ 1 _ _ _ B0.out).trans (show _ = some (Value.slice c0_1 x0_1.length k0_1) from rfl)
      have p_X1_0 := (cell_of_row v13 _ 0 _ _ _ X1.out).trans (show _ = some (Value.slice ya6_0 x0_0.length yc6_0) from rfl)
      have p_X1_1 := (cell_of_row v13 _ 1 _ _ _ X1.out).trans (show _ = some (Value.slice ya6_1 x0_1.length yc6_1) from rfl)
      refine hK.out _ _ ⟨p_B0_0, p_B0_1, p_X1_0, p_X1_1⟩ (fun hHeld => ?_)
      clear p_B0_0 p_B0_1 p_X1_0 p_X1_1
      clear hK K
      try simp only [Act.put, List.setIfInBounds_toArray, List.set_cons_zero, List.set_cons_succ]
      refine take_runs (i := 4) (v := ?_) (by simp only [List.getElem?_toArray, List.getElem?_cons_succ, List.getElem?_cons_zero]; rfl) (by kernel_rfl) (by kernel_rfl) (by kernel_rfl) rfl (by exact fun _ _ _ h => h) (by rfl) ?_ (by assumption) ?_
      rotate_left
      · intro w hSw; (try dsimp only at hSw); go_simp; try (with_reducible rfl)
      try simp only [Act.put, List.setIfInBounds_toArray, List.set_cons_zero, List.set_cons_succ]
      refine wpAnyH_done (by kernel_rfl) ?_ _
      clear hHeld
      go_wp2_with fail
      refine (toRowS_S (.slice c1_0 x1_0.length k1_0) x1_0 v13 (slR_below tRow_law A1_0.out d.out) S1_0.out).mono ?_
      rintro e v14 ⟨y, rfl, o, c14⟩
      replace B0 := Lib.hid ((c14.block w.heap.size (Array.getElem?_eq_some_iff.1 B0.out).1).trans B0.out)
      replace X1 := Lib.hid ((c14.block v6.heap.size (Array.getElem?_eq_some_iff.1 X1.out).1).trans X1.out)
      replace P3_0 := Lib.hid (slO_fresh tQuery_law P3_0.out c14)
      replace P3_1 := Lib.hid (slO_fresh tSpanS_law P3_1.out c14)
      replace P4 := Lib.hid (slO_fresh tRow_law P4.out c14)
      replace P5 := Lib.hid (slO_fresh tInt_law P5.out c14)
      replace P6_0 := Lib.hid (slO_fresh tQuery_law P6_0.out c14)
      replace P6_1 := Lib.hid (slO_fresh tSpanS_law P6_1.out c14)
      replace P8 := Lib.hid (slO_fresh tRow_law P8.out c14)
      replace P9 := Lib.hid (slO_fresh tInt_law P9.out c14)
      replace d := Lib.hid (d.out.trans (c14.mono d.out.size))
      have Z_v14 := Lib.hid (show v13.heap.size ≤ v14.heap.size from c14.size)
      clear c14
      obtain ⟨ya14, yc14, rfl⟩ := slO_len o
      have P14 := Lib.hid (slO_lt tRow_law o)
      have Q14 := Lib.hid (fun b (h : since v13 b ∧ b < v14.heap.size) => (show v13.heap.size ≤ b ∧ b < v14.heap.size from h))
      clear o
      go_wp2_with fail
      refine (eqRowS_S (.slice ya8 x1_0.length yc8) (.slice ya14 x1_0.length yc14) x1_0 v14 (slO_reads tRow_law P8.out) (slO_reads tRow_law P14.out) S1_0.out).mono ?_
      rintro e v15 ⟨rfl, c15⟩
      replace B0 := Lib.hid ((c15.block w.heap.size (Array.getElem?_eq_some_iff.1 B0.out).1).trans B0.out)
      replace X1 := Lib.hid ((c15.block v6.heap.size (Array.getElem?_eq_some_iff.1 X1.out).1).trans X1.out)
      replace P3_0 := Lib.hid (slO_fresh tQuery_law P3_0.out c15)
      replace P3_1 := Lib.hid (slO_fresh tSpanS_law P3_1.out c15)
      replace P4 := Lib.hid (slO_fresh tRow_law P4.out c15)
      replace P5 := Lib.hid (slO_fresh tInt_law P5.out c15)
      replace P6_0 := Lib.hid (slO_fresh tQuery_law P6_0.out c15)
      replace P6_1 := Lib.hid (slO_fresh tSpanS_law P6_1.out c15)
      replace P8 := Lib.hid (slO_fresh tRow_law P8.out c15)
      replace P9 := Lib.hid (slO_fresh tInt_law P9.out c15)
      replace P14 := Lib.hid (slO_fresh tRow_law P14.out c15)
      replace d := Lib.hid (d.out.trans (c15.mono d.out.size))
      have Z_v15 := Lib.hid (show v14.heap.size ≤ v15.heap.size from c15.size)
      clear c15
      clear P14
      have p_X1_0 := (cell_of_row v15 _ 0 _ _ _ X1.out).trans (show _ = some (Value.slice ya6_0 x0_0.length yc6_0) from rfl)
      have p_X1_1 := (cell_of_row v15 _ 1 _ _ _ X1.out).trans (show _ = some (Value.slice ya6_1 x0_1.length yc6_1) from rfl)
      go_wp2_with fail
      clear p_X1_0 p_X1_1
      refine (markIndex_T (.slice ya6_0 x0_0.length yc6_0) (.slice ya6_1 x0_1.length yc6_1) x0_0 x0_1 (fun b => v5.heap.size ≤ b ∧ b < v6.heap.size) _ _ (1) v15 P6_0.out P6_1.out Q6_0.out Q6_1.out D6_0_1.out S0_0.out S0_1.out M0.out.1 (by have := M0.out.2; omega)).mono ?_
      rintro e v16 ⟨rfl, ⟨m0, m1⟩, c16⟩
      have y0 := Y_W.out
      have y1 := Z_v1.out
      have y2 := Z_v2.out
      have y3 := Z_v3.out
      have y4 := Z_v4.out
      have y5 := Z_v5.out
      have y6 := Z_v6.out
      have y7 := Y_X1.out
      have y8 := Z_v8.out
      have y9 := Z_v9.out
      have y10 := Z_v10.out
      have y11 := Z_v12.out
      have y12 := Z_v13.out
      have y13 := Z_v14.out
      have y14 := Z_v15.out
      have yd : W.heap.size ≤ v15.heap.size := d.out.size
      replace B0 := Lib.hid ((c16.block w.heap.size (Array.getElem?_eq_some_iff.1 B0.out).1 (fun h => by have r2 := h; omega)).trans B0.out)
      replace X1 := Lib.hid ((c16.block v6.heap.size (Array.getElem?_eq_some_iff.1 X1.out).1 (fun h => by have r2 := h; omega)).trans X1.out)
      replace P3_0 := Lib.hid (slO_turn tQuery_law P3_0.out c16 (fun b h1 h2 => by have r1 := Q3_0.out b h1; have r2 := h2; omega))
      replace P3_1 := Lib.hid (slO_turn tSpanS_law P3_1.out c16 (fun b h1 h2 => by have r1 := Q3_1.out b h1; have r2 := h2; omega))
      replace P4 := Lib.hid (slO_turn tRow_law P4.out c16 (fun b h1 h2 => by have r1 := Q4.out b h1; have r2 := h2; omega))
      replace P5 := Lib.hid (slO_turn tInt_law P5.out c16 (fun b h1 h2 => by have r1 := Q5.out b h1; have r2 := h2; omega))
      replace P8 := Lib.hid (slO_turn tRow_law P8.out c16 (fun b h1 h2 => by have r1 := Q8.out b h1; have r2 := h2; omega))
      replace P9 := Lib.hid (slO_turn tInt_law P9.out c16 (fun b h1 h2 => by have r1 := Q9.out b h1; have r2 := h2; omega))
      replace d := Lib.hid (below_turn d.out c16 (fun b h => by have r2 := h; omega) (by omega))
      clear yd y0 y1 y2 y3 y4 y5 y6 y7 y8 y9 y10 y11 y12 y13 y14
      have Z_v16 := Lib.hid (show v15.heap.size ≤ v16.heap.size from c16.size)
      clear P6_0 P6_1
      clear m0 m1 c16
      go_wp2_with fail
      refine (markRowS_S (.slice ya8 x1_0.length yc8) x1_0 _ (1 + (ndL tQuery x0_0 : Int) + (ndL tSpanS x0_1 : Int)) v16 P8.out S1_0.out M1.out.1 (by have := M1.out.2; omega)).mono ?_
      rintro e v17 ⟨rfl, m0, c17⟩
      have y0 := Y_W.out
      have y1 := Z_v1.out
      have y2 := Z_v2.out
      have y3 := Z_v3.out
      have y4 := Z_v4.out
      have y5 := Z_v5.out
      have y6 := Z_v6.out
      have y7 := Y_X1.out
      have y8 := Z_v8.out
      have y9 := Z_v9.out
      have y10 := Z_v10.out
      have y11 := Z_v12.out
      have y12 := Z_v13.out
      have y13 := Z_v14.out
      have y14 := Z_v15.out
      have y15 := Z_v16.out
      have yd : W.heap.size ≤ v16.heap.size := d.out.size
      replace B0 := Lib.hid ((c17.block w.heap.size (Array.getElem?_eq_some_iff.1 B0.out).1 (fun h => by have r2 := Q8.out w.heap.size h; omega)).trans B0.out)
      replace X1 := Lib.hid ((c17.block v6.heap.size (Array.getElem?_eq_some_iff.1 X1.out).1 (fun h => by have r2 := Q8.out v6.heap.size h; omega)).trans X1.out)
      replace P3_0 := Lib.hid (slO_turn tQuery_law P3_0.out c17 (fun b h1 h2 => by have r1 := Q3_0.out b h1; have r2 := Q8.out b h2; omega))
      replace P3_1 := Lib.hid (slO_turn tSpanS_law P3_1.out c17 (fun b h1 h2 => by have r1 := Q3_1.out b h1; have r2 := Q8.out b h2; omega))
      replace P4 := Lib.hid (slO_turn tRow_law P4.out c17 (fun b h1 h2 => by have r1 := Q4.out b h1; have r2 := Q8.out b h2; omega))
      replace P5 := Lib.hid (slO_turn tInt_law P5.out c17 (fun b h1 h2 => by have r1 := Q5.out b h1; have r2 := Q8.out b h2; omega))
      replace P9 := Lib.hid (slO_turn tInt_law P9.out c17 (fun b h1 h2 => by have r1 := Q9.out b h1; have r2 := Q8.out b h2; omega))
      replace d := Lib.hid (below_turn d.out c17 (fun b h => by have r2 := Q8.out b h; omega) (by omega))
      clear yd y0 y1 y2 y3 y4 y5 y6 y7 y8 y9 y10 y11 y12 y13 y14 y15
      have Z_v17 := Lib.hid (show v16.heap.size ≤ v17.heap.size from c17.size)
      clear P8
      clear m0 c17
      go_wp2_with fail
      refine (eqIntS_S (.slice ya9 r0.length yc9) (.slice ya5 r0.length yc5) r0 v17 (slO_reads tInt_law P9.out) (slO_reads tInt_law P5.out) Z0.out).mono ?_
      rintro e v18 ⟨rfl, c18⟩
      replace B0 := Lib.hid ((c18.block w.heap.size (Array.getElem?_eq_some_iff.1 B0.out).1).trans B0.out)
      replace X1 := Lib.hid ((c18.block v6.heap.size (Array.getElem?_eq_some_iff.1 X1.out).1).trans X1.out)
      replace P3_0 := Lib.hid (slO_fresh tQuery_law P3_0.out c18)
      replace P3_1 := Lib.hid (slO_fresh tSpanS_law P3_1.out c18)
      replace P4 := Lib.hid (slO_fresh tRow_law P4.out c18)
      replace P5 := Lib.hid (slO_fresh tInt_law P5.out c18)
      replace P9 := Lib.hid (slO_fresh tInt_law P9.out c18)
      replace d := Lib.hid (d.out.trans (c18.mono d.out.size))
      have Z_v18 := Lib.hid (show v17.heap.size ≤ v18.heap.size from c18.size)
      clear c18
      go_wp2_with fail
      refine (markOrdS_X (.slice ya9 r0.length yc9) r0 _ (1) v18 P9.out Z0.out MR0.out.1 (by have := MR0.out.2; omega)).mono ?_
      rintro e v19 ⟨rfl, m0, c19⟩
      have y0 := Y_W.out
      have y1 := Z_v1.out
      have y2 := Z_v2.out
      have y3 := Z_v3.out
      have y4 := Z_v4.out
      have y5 := Z_v5.out
      have y6 := Z_v6.out
      have y7 := Y_X1.out
      have y8 := Z_v8.out
      have y9 := Z_v9.out
      have y10 := Z_v10.out
      have y11 := Z_v12.out
      have y12 := Z_v13.out
      have y13 := Z_v14.out
      have y14 := Z_v15.out
      have y15 := Z_v16.out
      have y16 := Z_v17.out
      have y17 := Z_v18.out
      have yd : W.heap.size ≤ v18.heap.size := d.out.size
      replace B0 := Lib.hid ((c19.block w.heap.size (Array.getElem?_eq_some_iff.1 B0.out).1 (fun h => by have r2 := Q9.out w.heap.size h; omega)).trans B0.out)
      replace X1 := Lib.hid ((c19.block v6.heap.size (Array.getElem?_eq_some_iff.1 X1.out).1 (fun h => by have r2 := Q9.out v6.heap.size h; omega)).trans X1.out)
      replace P3_0 := Lib.hid (slO_turn tQuery_law P3_0.out c19 (fun b h1 h2 => by have r1 := Q3_0.out b h1; have r2 := Q9.out b h2; omega))
      replace P3_1 := Lib.hid (slO_turn tSpanS_law P3_1.out c19 (fun b h1 h2 => by have r1 := Q3_1.out b h1; have r2 := Q9.out b h2; omega))
      replace P4 := Lib.hid (slO_turn tRow_law P4.out c19 (fun b h1 h2 => by have r1 := Q4.out b h1; have r2 := Q9.out b h2; omega))
      replace P5 := Lib.hid (slO_turn tInt_law P5.out c19 (fun b h1 h2 => by have r1 := Q5.out b h1; have r2 := Q9.out b h2; omega))
      replace d := Lib.hid (below_turn d.out c19 (fun b h => by have r2 := Q9.out b h; omega) (by omega))
      clear yd y0 y1 y2 y3 y4 y5 y6 y7 y8 y9 y10 y11 y12 y13 y14 y15 y16 y17
      have Z_v19 := Lib.hid (show v18.heap.size ≤ v19.heap.size from c19.size)
      replace P9 := Lib.hid m0
      clear m0 c19
      go_wp2_with fail
      refine (heldIntS_S (.slice ya9 r0.length yc9) r0 (1) v19 (slO_reads tInt_law P9.out) Z0.out MR0.out.1 (by have := MR0.out.2; omega)).mono ?_
      rintro e v20 ⟨rfl, rfl⟩
      have p_B0_0 := (cell_of_row v19 _ 0 _ _ _ B0.out).trans (show _ = some (Value.slice c0_0 x0_0.length k0_0) from rfl)
      have p_B0_1 := (cell_of_row v19 _ 1 _ _ _ B0.out).trans (show _ = some (Value.slice c0_1 x0_1.length k0_1) from rfl)
      go_wp2_with fail
      clear p_B0_0 p_B0_1
      refine (toIndex_T (.slice c0_0 x0_0.length k0_0) (.slice c0_1 x0_1.length k0_1) x0_0 x0_1 v19 (slR_below tQuery_law A0_0.out d.out) (slR_below tSpanS_law A0_1.out d.out) S0_0.out S0_1.out).mono ?_
      rintro e v21 ⟨cs, rfl, ow, c21⟩
      replace B0 := Lib.hid ((c21.block w.heap.size (Array.getElem?_eq_some_iff.1 B0.out).1).trans B0.out)
      replace X1 := Lib.hid ((c21.block v6.heap.size (Array.getElem?_eq_some_iff.1 X1.out).1).trans X1.out)
      replace P3_0 := Lib.hid (slO_fresh tQuery_law P3_0.out c21)
      replace P3_1 := Lib.hid (slO_fresh tSpanS_law P3_1.out c21)
      replace P4 := Lib.hid (slO_fresh tRow_law P4.out c21)
      replace P5 := Lib.hid (slO_fresh tInt_law P5.out c21)
      replace P9 := Lib.hid (slO_fresh tInt_law P9.out c21)
      replace d := Lib.hid (d.out.trans (c21.mono d.out.size))
      have Z_v21 := Lib.hid (show v19.heap.size ≤ v21.heap.size from c21.size)
      clear c21
      replace ow := tIndex_law.lt ow
      obtain ⟨y21_0, y21_1, K21_0, K21_1, rfl, p21_0, p21_1, w21_0, w21_1, d21_0_1⟩ := tIndex_O ow
      obtain ⟨ya21_0, yc21_0, rfl⟩ := slO_len p21_0
      have P21_0 := Lib.hid p21_0
      have Q21_0 := Lib.hid (fun b h => (show v19.heap.size ≤ b ∧ b < v21.heap.size from w21_0 b h))
      obtain ⟨ya21_1, yc21_1, rfl⟩ := slO_len p21_1
      have P21_1 := Lib.hid p21_1
      have Q21_1 := Lib.hid (fun b h => (show v19.heap.size ≤ b ∧ b < v21.heap.size from w21_1 b h))
      have D21_0_1 := Lib.hid d21_0_1
      clear d21_0_1
      clear p21_0 w21_0 p21_1 w21_1 ow
      go_wp2_with fail
      refine (toRowS_S (.slice c1_0 x1_0.length k1_0) x1_0 v21 (slR_below tRow_law A1_0.out d.out) S1_0.out).mono ?_
      rintro e v22 ⟨y, rfl, o, c22⟩
      replace B0 := Lib.hid ((c22.block w.heap.size (Array.getElem?_eq_some_iff.1 B0.out).1).trans B0.out)
      replace X1 := Lib.hid ((c22.block v6.heap.size (Array.getElem?_eq_some_iff.1 X1.out).1).trans X1.out)
      replace P3_0 := Lib.hid (slO_fresh tQuery_law P3_0.out c22)
      replace P3_1 := Lib.hid (slO_fresh tSpanS_law P3_1.out c22)
      replace P4 := Lib.hid (slO_fresh tRow_law P4.out c22)
      replace P5 := Lib.hid (slO_fresh tInt_law P5.out c22)
      replace P9 := Lib.hid (slO_fresh tInt_law P9.out c22)
      replace P21_0 := Lib.hid (slO_fresh tQuery_law P21_0.out c22)
      replace P21_1 := Lib.hid (slO_fresh tSpanS_law P21_1.out c22)
      replace d := Lib.hid (d.out.trans (c22.mono d.out.size))
      have Z_v22 := Lib.hid (show v21.heap.size ≤ v22.heap.size from c22.size)
      clear c22
      obtain ⟨ya22, yc22, rfl⟩ := slO_len o
      have P22 := Lib.hid (slO_lt tRow_law o)
      have Q22 := Lib.hid (fun b (h : since v21 b ∧ b < v22.heap.size) => (show v21.heap.size ≤ b ∧ b < v22.heap.size from h))
      clear o
      go_wp2_with fail
      refine (HIM.out (.slice ya21_0 x0_0.length yc21_0) (.slice ya21_1 x0_1.length yc21_1) (.slice ya22 x1_0.length yc22) v22 (HB0.out.trans (d.out.mono HB0.out.size)) (slO_reads tQuery_law P21_0.out) (slO_reads tSpanS_law P21_1.out) (slO_reads tRow_law P22.out) HT.out ).mono ?_
      rintro e v23 ⟨g0, G0, rfl, o0, q0, c23⟩
      replace B0 := Lib.hid ((c23.block w.heap.size (Array.getElem?_eq_some_iff.1 B0.out).1).trans B0.out)
      replace X1 := Lib.hid ((c23.block v6.heap.size (Array.getElem?_eq_some_iff.1 X1.out).1).trans X1.out)
      replace P3_0 := Lib.hid (slO_fresh tQuery_law P3_0.out c23)
      replace P3_1 := Lib.hid (slO_fresh tSpanS_law P3_1.out c23)
      replace P4 := Lib.hid (slO_fresh tRow_law P4.out c23)
      replace P5 := Lib.hid (slO_fresh tInt_law P5.out c23)
      replace P9 := Lib.hid (slO_fresh tInt_law P9.out c23)
      replace P21_0 := Lib.hid (slO_fresh tQuery_law P21_0.out c23)
      replace P21_1 := Lib.hid (slO_fresh tSpanS_law P21_1.out c23)
      replace P22 := Lib.hid (slO_fresh tRow_law P22.out c23)
      replace d := Lib.hid (d.out.trans (c23.mono d.out.size))
      have Z_v23 := Lib.hid (show v22.heap.size ≤ v23.heap.size from c23.size)
      clear c23
      obtain ⟨ya23, yc23, rfl⟩ := slO_len o0
      have P23 := Lib.hid (slO_lt tInt_law o0)
      have Q23 := Lib.hid (fun b (h : _ ∧ b < v23.heap.size) => (show v22.heap.size ≤ b ∧ b < v23.heap.size from ⟨q0 b h.1, h.2⟩))
      clear o0 q0
      go_wp2_with fail
      refine (eqIntS_S (.slice ya23 r0.length yc23) (.slice ya5 r0.length yc5) r0 v23 (slO_reads tInt_law P23.out) (slO_reads tInt_law P5.out) Z0.out).mono ?_
      rintro e v24 ⟨rfl, c24⟩
      replace B0 := Lib.hid ((c24.block w.heap.size (Array.getElem?_eq_some_iff.1 B0.out).1).trans B0.out)
      replace X1 := Lib.hid ((c24.block v6.heap.size (Array.getElem?_eq_some_iff.1 X1.out).1).trans X1.out)
      replace P3_0 := Lib.hid (slO_fresh tQuery_law P3_0.out c24)
      replace P3_1 := Lib.hid (slO_fresh tSpanS_law P3_1.out c24)
      replace P4 := Lib.hid (slO_fresh tRow_law P4.out c24)
      replace P5 := Lib.hid (slO_fresh tInt_law P5.out c24)
      replace P9 := Lib.hid (slO_fresh tInt_law P9.out c24)
      replace P21_0 := Lib.hid (slO_fresh tQuery_law P21_0.out c24)
      replace P21_1 := Lib.hid (slO_fresh tSpanS_law P21_1.out c24)
      replace P22 := Lib.hid (slO_fresh tRow_law P22.out c24)
      replace P23 := Lib.hid (slO_fresh tInt_law P23.out c24)
      replace d := Lib.hid (d.out.trans (c24.mono d.out.size))
      have Z_v24 := Lib.hid (show v23.heap.size ≤ v24.heap.size from c24.size)
      clear c24
      go_wp2_with fail
      refine (heldIntS_S (.slice ya9 r0.length yc9) r0 (1) v24 (slO_reads tInt_law P9.out) Z0.out MR0.out.1 (by have := MR0.out.2; omega)).mono ?_
      rintro e v25 ⟨rfl, rfl⟩
      go_wp2
      go_ret
      exact ⟨rfl, HB0.out.trans (d.out.mono HB0.out.size)⟩
    ·
      have HZ0 : Hid (((zL tQuery x0_0 + zL tSpanS x0_1 : Nat) : Int) ≤ (1048576 : Int)) := Lib.hid c0
      have HK0 : Hid ((1048576 : Int) ≤ 1048576) := Lib.hid (by omega)
      have hn0 : ¬ (1048576 : Int) - ((zL tQuery x0_0 + zL tSpanS x0_1 : Nat) : Int) < 0 := by omega
      have HZ1 : Hid ((1048576 : Int) - ((zL tQuery x0_0 + zL tSpanS x0_1 : Nat) : Int) < ((zL tRow x1_0 : Nat) : Int)) := Lib.hid (by omega)
      have HP1 : Hid (0 ≤ (1048576 : Int) - ((zL tQuery x0_0 + zL tSpanS x0_1 : Nat) : Int)) := Lib.hid (by omega)
      have HK1 : Hid ((1048576 : Int) - ((zL tQuery x0_0 + zL tSpanS x0_1 : Nat) : Int) ≤ 1048576) := Lib.hid (by omega)
      clear c1
      go_enter Tryz.func3, Tryz.ntmps3
      go_wp2_with fail
      have Y_W : Hid (w.heap.size + 1 ≤ (w.alloc (.cells #[.slice c0_0 x0_0.length k0_0, .slice c0_1 x0_1.length k0_1] 25)).heap.size) := Lib.hid (by simp [World.size_alloc])
      generalize (w.alloc (.cells #[.slice c0_0 x0_0.length k0_0, .slice c0_1 x0_1.length k0_1] 25)) = W at *
      have d := Lib.hid (Below.refl W.heap.size W)
      refine (szIndex_Y (.slice c0_0 x0_0.length k0_0) (.slice c0_1 x0_1.length k0_1) x0_0 x0_1 ((1048576 : Int)) W (slR_below tQuery_law A0_0.out d.out) (slR_below tSpanS_law A0_1.out d.out) HZ0.out HK0.out).mono ?_
      rintro e v1 ⟨rfl, c1⟩
      replace B0 := Lib.hid ((c1.block w.heap.size (Array.getElem?_eq_some_iff.1 B0.out).1).trans B0.out)
      replace d := Lib.hid (d.out.trans (c1.mono d.out.size))
      have Z_v1 := Lib.hid (show W.heap.size ≤ v1.heap.size from c1.size)
      clear c1
      go_wp2_with fail
      refine (szRowS_N (.slice c1_0 x1_0.length k1_0) x1_0 ((1048576 : Int) - ((zL tQuery x0_0 + zL tSpanS x0_1 : Nat) : Int)) v1 (slR_below tRow_law A1_0.out d.out) HZ1.out HK1.out HP1.out O1_0.out).mono ?_
      rintro e v2 ⟨rfl, c2⟩
      replace B0 := Lib.hid ((c2.block w.heap.size (Array.getElem?_eq_some_iff.1 B0.out).1).trans B0.out)
      replace d := Lib.hid (d.out.trans (c2.mono d.out.size))
      have Z_v2 := Lib.hid (show v1.heap.size ≤ v2.heap.size from c2.size)
      clear c2
      go_wp2
      go_ret
      exact ⟨rfl, HB0.out.trans (d.out.mono HB0.out.size)⟩
  ·
    have HZ0 : Hid ((1048576 : Int) < ((zL tQuery x0_0 + zL tSpanS x0_1 : Nat) : Int)) := Lib.hid (by omega)
    have HP0 : Hid (0 ≤ (1048576 : Int)) := Lib.hid (by omega)
    have HK0 : Hid ((1048576 : Int) ≤ 1048576) := Lib.hid (by omega)
    clear c0
    go_enter Tryz.func3, Tryz.ntmps3
    go_wp2_with fail
    have Y_W : Hid (w.heap.size + 1 ≤ (w.alloc (.cells #[.slice c0_0 x0_0.length k0_0, .slice c0_1 x0_1.length k0_1] 25)).heap.size) := Lib.hid (by simp [World.size_alloc])
    generalize (w.alloc (.cells #[.slice c0_0 x0_0.length k0_0, .slice c0_1 x0_1.length k0_1] 25)) = W at *
    have d := Lib.hid (Below.refl W.heap.size W)
    refine (szIndex_N (.slice c0_0 x0_0.length k0_0) (.slice c0_1 x0_1.length k0_1) x0_0 x0_1 ((1048576 : Int)) W (slR_below tQuery_law A0_0.out d.out) (slR_below tSpanS_law A0_1.out d.out) HZ0.out HK0.out HP0.out O0_0.out O0_1.out).mono ?_
    rintro e v1 ⟨rfl, c1⟩
    replace B0 := Lib.hid ((c1.block w.heap.size (Array.getElem?_eq_some_iff.1 B0.out).1).trans B0.out)
    replace d := Lib.hid (d.out.trans (c1.mono d.out.size))
    have Z_v1 := Lib.hid (show W.heap.size ≤ v1.heap.size from c1.size)
    clear c1
    go_wp2
    go_ret
    exact ⟨rfl, HB0.out.trans (d.out.mono HB0.out.size)⟩
end Go.Proofs.YtidhmgboknffkaaGreatDoor
namespace Go.Proofs.YtidhmgboknffkaaGreatDoor
open Go.ChangeShapes Go.WideShapes Go.ChangeAt Go.WideMaps Go.WideElems Go.RowKit
set_option linter.unusedVariables false
theorem laidOutP : laidOutB Tryz.prog = true := by kernel_rfl
end Go.Proofs.YtidhmgboknffkaaGreatDoor
namespace Go.Proofs.YtidhmgboknffkaaGreatDoor
open Go.ChangeShapes Go.WideShapes Go.ChangeAt Go.WideMaps Go.WideElems Go.RowKit
set_option linter.unusedVariables false
/-- Cells that the statement reads as a value of the type t are a datum of the kind T. -/
def Opn {α : Type} (T : Ty α) (t : TypeId) : Prop := ∀ {H : Type} {enc : TypeId × Value → H} {W : World} {held : Bool} {fuel : Nat} {cs : List Value} {x : DataW H × List MemPlace}, DataW.trod enc Tryz.prog W 0 (fun _ => true) held fuel t cs = some x → ∃ d, T.R W cs d ∧ T.ok d
theorem opn_int : Opn tInt 3 := by
  intro H enc W held fuel cs x h
  obtain ⟨a, e, _, _⟩ := DataW.trod_int Tryz.underlying3 h
  exact ⟨a, e, trivial⟩
theorem opn_cast {α : Type} {T : Ty α} {t : TypeId} (O : Opn T t) {H : Type} {enc : TypeId × Value → H} {W : World} {held : Bool} {fuel : Nat} {cs : List Value} {o k : Nat} {x : Option (DataW H × List MemPlace)} (hx : x.isSome) (h : DataW.trod enc Tryz.prog W 0 (fun _ => true) held fuel t ((cs.drop o).take k) = x) :
    ∃ d, T.R W ((cs.drop o).take k) d ∧ T.ok d := by
  cases x with
  | none => cases hx
  | some y => exact O h
set_option maxRecDepth 100000 in
theorem opn_slice {α : Type} {T : Ty α} (A : T.Law) {e t : TypeId} (e' : TypeId) (O : Opn T e) (hu : Tryz.prog.underlying t = some (.slice e)) (hC : Tryz.prog.cellsOf e = T.n) : Opn (tSl e' T) t := by
  intro H enc W held fuel cs x hf
  rcases Go.Deep.open_slice hu hf with ⟨rfl, _⟩ | ⟨a', len', cap', m, n, D, Pl, rfl, _, hl, hm, hmm, _, hx⟩
  · exact ⟨[], ⟨_, rfl, Or.inl ⟨rfl, none, 0, rfl⟩⟩, by simp, fun j hj => by simp at hj⟩
  · rw [if_pos rfl] at hmm
    subst hmm
    unfold maxLen at hm
    rw [hC] at hx
    have hpos := A.pos
    haveI : Inhabited α := ⟨T.d⟩
    obtain ⟨f, hf'⟩ := Go.Deep.choose_lt (α := α × List Value) (n := len') (p := fun i q => (∀ j, j < T.n → W.cell? ((a'.add (i * T.n)).add j) = q.2[j]?) ∧ T.R W q.2 q.1 ∧ T.ok q.1) (fun i hi => by
      obtain ⟨cs', h1, h2⟩ := hx i (by omega)
      obtain ⟨_, hlen, hc⟩ := World.cells?_some h1
      obtain ⟨d, hd, ho⟩ := O h2
      exact ⟨(d, cs'), hc, hd, ho⟩)
    have hat : ∀ j, j < len' → ((List.range len').map fun i => (f i).1).getD j T.d = (f j).1 := fun j hj => by simp [List.getD, hj]
    have hlen : ((List.range len').map fun i => (f i).1).length = len' := by simp
    refine ⟨(List.range len').map fun i => (f i).1, ⟨_, rfl, ?_⟩, by rw [hlen]; omega, fun j hj => by rw [hlen] at hj; rw [hat j hj]; exact (hf' j hj).2.2⟩
    by_cases h0 : len' = 0
    · subst h0
      exact Or.inl ⟨rfl, some a', _, rfl⟩
    · have h1 := (hf' 0 (by omega)).1 0 hpos
      have hcl : 0 < (f 0).2.length := by rw [A.len (hf' 0 (by omega)).2.1]; exact hpos
      rw [List.getElem?_eq_getElem hcl] at h1
      obtain ⟨b, off, spot⟩ := a'
      have hspot : spot = none := by simpa [Addr.add] using World.cell?_spot h1
      subst hspot
      refine Or.inr ⟨b, off, _, fun i => (f i).2, by rw [hlen], by rw [hlen]; exact hl, ?_, ?_⟩
      · have := World.block_lt_of_cell? W _ h1
        simpa [Addr.add] using this
      · intro j hj
        rw [hlen] at hj
        obtain ⟨g1, g2, _⟩ := hf' j hj
        rw [hat j hj]
        refine ⟨fun i hi => ?_, g2⟩
        have := g1 i hi
        rw [Go.WideShapes.add_plain, Go.WideShapes.add_plain] at this
        exact this
theorem opn_ints (e' : TypeId) : Opn (tSl e' tInt) 29 := opn_slice tInt_law e' opn_int Tryz.underlying29 (by kernel_rfl)
set_option maxRecDepth 100000 in
/-- A slice as an argument. -/
theorem slA_open {α : Type} {T : Ty α} {e e' t : TypeId} (O : Opn (tSl e' T) t) (hu : Tryz.prog.underlying t = some (.slice e)) {H : Type} {enc : TypeId × Value → H} {W : World} {r : Reach} {b0 : Nat} {v : Value} {d : DataW H} {p : List MemPlace}
    (hval : Value.okWide Tryz.prog W r b0 t v) (h : DataW.Trod enc Tryz.prog W 0 (fun _ => true) true t v d p) : ∃ xs, SlR T W v xs ∧ (tSl e' T).ok xs := by
  obtain ⟨a, len, cap, rfl⟩ := okWide_slice hu hval
  obtain ⟨fuel, hf⟩ := h
  obtain ⟨xs, ⟨v, e, h⟩, ho⟩ := O hf
  simp [Value.cells] at e
  subst e
  exact ⟨xs, h, ho⟩
set_option maxRecDepth 100000 in
/-- A struct as an argument. -/
theorem stA_open {α : Type} {T : Ty α} {t : TypeId} {fs : Array Field} (O : Opn T t) (hu : Tryz.prog.underlying t = some (.struct fs)) {H : Type} {enc : TypeId × Value → H} {W : World} {r : Reach} {b0 : Nat} {v : Value} {d : DataW H} {p : List MemPlace}
    (hval : Value.okWide Tryz.prog W r b0 t v) (h : DataW.Trod enc Tryz.prog W 0 (fun _ => true) true t v d p) : ∃ cs x, v = .agg cs.toArray ∧ T.R W cs x ∧ T.ok x := by
  obtain ⟨⟨cs⟩, rfl, hsz⟩ := okWide_struct hu hval
  obtain ⟨fuel, hf⟩ := h
  obtain ⟨x, h, ho⟩ := O hf
  exact ⟨cs, x, rfl, h, ho⟩
end Go.Proofs.YtidhmgboknffkaaGreatDoor
namespace Go.Proofs.YtidhmgboknffkaaGreatDoor
open Go.ChangeShapes Go.WideShapes Go.ChangeAt Go.WideMaps Go.WideElems Go.RowKit
set_option linter.unusedVariables false
set_option maxRecDepth 100000 in
theorem opn_Cond : Opn tCond 135 := by
  intro H enc W held fuel cs x h
  obtain ⟨xs, n, _, _, hl, hlen, hf⟩ := DataW.trod_struct Tryz.underlying135 h
  have hl2 : cs.length = 3 := hl.trans (by kernel_rfl)
  have hn : xs.length = 3 := hlen
  have f0 : DataW.trod enc Tryz.prog W 0 (fun _ => true) held n 3 ((cs.drop 0).take (Tryz.prog.cellsOf 3)) = xs[0]? := hf 0 _ rfl
  rw [show Tryz.prog.cellsOf 3 = 1 from by kernel_rfl] at f0
  obtain ⟨d0, r0, o0⟩ := opn_cast (opn_int) (by rw [List.getElem?_eq_getElem (by omega)]; rfl) f0
  have f1 : DataW.trod enc Tryz.prog W 0 (fun _ => true) held n 3 ((cs.drop 1).take (Tryz.prog.cellsOf 3)) = xs[1]? := hf 1 _ rfl
  rw [show Tryz.prog.cellsOf 3 = 1 from by kernel_rfl] at f1
  obtain ⟨d1, r1, o1⟩ := opn_cast (opn_int) (by rw [List.getElem?_eq_getElem (by omega)]; rfl) f1
  have f2 : DataW.trod enc Tryz.prog W 0 (fun _ => true) held n 3 ((cs.drop 2).take (Tryz.prog.cellsOf 3)) = xs[2]? := hf 2 _ rfl
  rw [show Tryz.prog.cellsOf 3 = 1 from by kernel_rfl] at f2
  obtain ⟨d2, r2, o2⟩ := opn_cast (opn_int) (by rw [List.getElem?_eq_getElem (by omega)]; rfl) f2
  exact ⟨(d0, d1, d2), ⟨(cs.drop 0).take 1, cs.drop 1, (List.take_append_drop 1 cs).symm, r0, ⟨(cs.drop 1).take 1, cs.drop 2, (List.take_append_drop 1 (cs.drop 1)).symm.trans (by simp), r1, (by have e := List.take_of_length_le (l := cs.drop 2) (i := 1) (by rw [List.length_drop]; omega); rw [e] at r2; exact r2)⟩⟩, ⟨o0, ⟨o1, o2⟩⟩⟩
end Go.Proofs.YtidhmgboknffkaaGreatDoor
namespace Go.Proofs.YtidhmgboknffkaaGreatDoor
open Go.ChangeShapes Go.WideShapes Go.ChangeAt Go.WideMaps Go.WideElems Go.RowKit
set_option linter.unusedVariables false
theorem opn_CondS : Opn tCondS 78 := opn_slice tCond_law _ opn_Cond Tryz.underlying78 (by kernel_rfl)
end Go.Proofs.YtidhmgboknffkaaGreatDoor
namespace Go.Proofs.YtidhmgboknffkaaGreatDoor
open Go.ChangeShapes Go.WideShapes Go.ChangeAt Go.WideMaps Go.WideElems Go.RowKit
set_option linter.unusedVariables false
set_option maxRecDepth 100000 in
theorem opn_Query : Opn tQuery 80 := by
  intro H enc W held fuel cs x h
  obtain ⟨xs, n, _, _, hl, hlen, hf⟩ := DataW.trod_struct Tryz.underlying80 h
  have hl2 : cs.length = 4 := hl.trans (by kernel_rfl)
  have hn : xs.length = 4 := hlen
  have f0 : DataW.trod enc Tryz.prog W 0 (fun _ => true) held n 3 ((cs.drop 0).take (Tryz.prog.cellsOf 3)) = xs[0]? := hf 0 _ rfl
  rw [show Tryz.prog.cellsOf 3 = 1 from by kernel_rfl] at f0
  obtain ⟨d0, r0, o0⟩ := opn_cast (opn_int) (by rw [List.getElem?_eq_getElem (by omega)]; rfl) f0
  have f1 : DataW.trod enc Tryz.prog W 0 (fun _ => true) held n 3 ((cs.drop 1).take (Tryz.prog.cellsOf 3)) = xs[1]? := hf 1 _ rfl
  rw [show Tryz.prog.cellsOf 3 = 1 from by kernel_rfl] at f1
  obtain ⟨d1, r1, o1⟩ := opn_cast (opn_int) (by rw [List.getElem?_eq_getElem (by omega)]; rfl) f1
  have f2 : DataW.trod enc Tryz.prog W 0 (fun _ => true) held n 78 ((cs.drop 2).take (Tryz.prog.cellsOf 78)) = xs[2]? := hf 2 _ rfl
  rw [show Tryz.prog.cellsOf 78 = 1 from by kernel_rfl] at f2
  obtain ⟨d2, r2, o2⟩ := opn_cast (opn_CondS) (by rw [List.getElem?_eq_getElem (by omega)]; rfl) f2
  have f3 : DataW.trod enc Tryz.prog W 0 (fun _ => true) held n 29 ((cs.drop 3).take (Tryz.prog.cellsOf 29)) = xs[3]? := hf 3 _ rfl
  rw [show Tryz.prog.cellsOf 29 = 1 from by kernel_rfl] at f3
  obtain ⟨d3, r3, o3⟩ := opn_cast (opn_ints 3) (by rw [List.getElem?_eq_getElem (by omega)]; rfl) f3
  exact ⟨(d0, d1, d2, d3), ⟨(cs.drop 0).take 1, cs.drop 1, (List.take_append_drop 1 cs).symm, r0, ⟨(cs.drop 1).take 1, cs.drop 2, (List.take_append_drop 1 (cs.drop 1)).symm.trans (by simp), r1, ⟨(cs.drop 2).take 1, cs.drop 3, (List.take_append_drop 1 (cs.drop 2)).symm.trans (by simp), r2, (by have e := List.take_of_length_le (l := cs.drop 3) (i := 1) (by rw [List.length_drop]; omega); rw [e] at r3; exact r3)⟩⟩⟩, ⟨o0, ⟨o1, ⟨o2, o3⟩⟩⟩⟩
end Go.Proofs.YtidhmgboknffkaaGreatDoor
namespace Go.Proofs.YtidhmgboknffkaaGreatDoor
open Go.ChangeShapes Go.WideShapes Go.ChangeAt Go.WideMaps Go.WideElems Go.RowKit
set_option linter.unusedVariables false
theorem opn_QueryS : Opn tQueryS 22 := opn_slice tQuery_law _ opn_Query Tryz.underlying22 (by kernel_rfl)
end Go.Proofs.YtidhmgboknffkaaGreatDoor
namespace Go.Proofs.YtidhmgboknffkaaGreatDoor
open Go.ChangeShapes Go.WideShapes Go.ChangeAt Go.WideMaps Go.WideElems Go.RowKit
set_option linter.unusedVariables false
set_option maxRecDepth 100000 in
theorem opn_Span : Opn tSpan 107 := by
  intro H enc W held fuel cs x h
  obtain ⟨xs, n, _, _, hl, hlen, hf⟩ := DataW.trod_struct Tryz.underlying107 h
  have hl2 : cs.length = 3 := hl.trans (by kernel_rfl)
  have hn : xs.length = 3 := hlen
  have f0 : DataW.trod enc Tryz.prog W 0 (fun _ => true) held n 3 ((cs.drop 0).take (Tryz.prog.cellsOf 3)) = xs[0]? := hf 0 _ rfl
  rw [show Tryz.prog.cellsOf 3 = 1 from by kernel_rfl] at f0
  obtain ⟨d0, r0, o0⟩ := opn_cast (opn_int) (by rw [List.getElem?_eq_getElem (by omega)]; rfl) f0
  have f1 : DataW.trod enc Tryz.prog W 0 (fun _ => true) held n 3 ((cs.drop 1).take (Tryz.prog.cellsOf 3)) = xs[1]? := hf 1 _ rfl
  rw [show Tryz.prog.cellsOf 3 = 1 from by kernel_rfl] at f1
  obtain ⟨d1, r1, o1⟩ := opn_cast (opn_int) (by rw [List.getElem?_eq_getElem (by omega)]; rfl) f1
  have f2 : DataW.trod enc Tryz.prog W 0 (fun _ => true) held n 29 ((cs.drop 2).take (Tryz.prog.cellsOf 29)) = xs[2]? := hf 2 _ rfl
  rw [show Tryz.prog.cellsOf 29 = 1 from by kernel_rfl] at f2
  obtain ⟨d2, r2, o2⟩ := opn_cast (opn_ints 3) (by rw [List.getElem?_eq_getElem (by omega)]; rfl) f2
  exact ⟨(d0, d1, d2), ⟨(cs.drop 0).take 1, cs.drop 1, (List.take_append_drop 1 cs).symm, r0, ⟨(cs.drop 1).take 1, cs.drop 2, (List.take_append_drop 1 (cs.drop 1)).symm.trans (by simp), r1, (by have e := List.take_of_length_le (l := cs.drop 2) (i := 1) (by rw [List.length_drop]; omega); rw [e] at r2; exact r2)⟩⟩, ⟨o0, ⟨o1, o2⟩⟩⟩
end Go.Proofs.YtidhmgboknffkaaGreatDoor
namespace Go.Proofs.YtidhmgboknffkaaGreatDoor
open Go.ChangeShapes Go.WideShapes Go.ChangeAt Go.WideMaps Go.WideElems Go.RowKit
set_option linter.unusedVariables false
theorem opn_SpanS : Opn tSpanS 82 := opn_slice tSpan_law _ opn_Span Tryz.underlying82 (by kernel_rfl)
end Go.Proofs.YtidhmgboknffkaaGreatDoor
namespace Go.Proofs.YtidhmgboknffkaaGreatDoor
open Go.ChangeShapes Go.WideShapes Go.ChangeAt Go.WideMaps Go.WideElems Go.RowKit
set_option linter.unusedVariables false
theorem opn_SpanSS : Opn tSpanSS 23 := opn_slice tSpanS_law _ opn_SpanS Tryz.underlying23 (by kernel_rfl)
end Go.Proofs.YtidhmgboknffkaaGreatDoor
namespace Go.Proofs.YtidhmgboknffkaaGreatDoor
open Go.ChangeShapes Go.WideShapes Go.ChangeAt Go.WideMaps Go.WideElems Go.RowKit
set_option linter.unusedVariables false
theorem recT_Index : Tryz.prog.readableRec 25 = true := by kernel_rfl
theorem rowT_Index : 25 < Tryz.prog.types.size := of_decide_eq_true (by kernel_rfl)
set_option maxRecDepth 100000 in
theorem opn_Index : Opn tIndex 25 := by
  intro H enc W held fuel cs x h
  obtain ⟨xs, n, _, _, hl, hlen, hf⟩ := DataW.trod_struct Tryz.underlying25 h
  have hl2 : cs.length = 2 := hl.trans (by kernel_rfl)
  have hn : xs.length = 2 := hlen
  have f0 : DataW.trod enc Tryz.prog W 0 (fun _ => true) held n 22 ((cs.drop 0).take (Tryz.prog.cellsOf 22)) = xs[0]? := hf 0 _ rfl
  rw [show Tryz.prog.cellsOf 22 = 1 from by kernel_rfl] at f0
  obtain ⟨d0, r0, o0⟩ := opn_cast (opn_QueryS) (by rw [List.getElem?_eq_getElem (by omega)]; rfl) f0
  have f1 : DataW.trod enc Tryz.prog W 0 (fun _ => true) held n 23 ((cs.drop 1).take (Tryz.prog.cellsOf 23)) = xs[1]? := hf 1 _ rfl
  rw [show Tryz.prog.cellsOf 23 = 1 from by kernel_rfl] at f1
  obtain ⟨d1, r1, o1⟩ := opn_cast (opn_SpanSS) (by rw [List.getElem?_eq_getElem (by omega)]; rfl) f1
  exact ⟨(d0, d1), ⟨(cs.drop 0).take 1, cs.drop 1, (List.take_append_drop 1 cs).symm, r0, (by have e := List.take_of_length_le (l := cs.drop 1) (i := 1) (by rw [List.length_drop]; omega); rw [e] at r1; exact r1)⟩, ⟨o0, o1⟩⟩
set_option maxRecDepth 100000 in
theorem shut_Index {H : Type} {enc : TypeId × Value → H} {W W' : World} {v : Value} {d : DataW H} {ps : List MemPlace} (h : DataW.Trod enc Tryz.prog W 0 (fun _ => true) true 25 v d ps) (hb : Below W.heap.size W W') (hlt : ∀ x ∈ ps, x.block < W.heap.size) :
    DataW.Trod enc Tryz.prog W' 0 (fun b => decide (b < W.heap.size)) true 25 v d ps := Below.trod laidOutP recT_Index rowT_Index h hb hlt
end Go.Proofs.YtidhmgboknffkaaGreatDoor
namespace Go.Proofs.YtidhmgboknffkaaGreatDoor
open Go.ChangeShapes Go.WideShapes Go.ChangeAt Go.WideMaps Go.WideElems Go.RowKit
set_option linter.unusedVariables false
set_option maxRecDepth 100000 in
theorem opn_Row : Opn tRow 49 := by
  intro H enc W held fuel cs x h
  obtain ⟨xs, n, _, _, hl, hlen, hf⟩ := DataW.trod_struct Tryz.underlying49 h
  have hl2 : cs.length = 2 := hl.trans (by kernel_rfl)
  have hn : xs.length = 2 := hlen
  have f0 : DataW.trod enc Tryz.prog W 0 (fun _ => true) held n 3 ((cs.drop 0).take (Tryz.prog.cellsOf 3)) = xs[0]? := hf 0 _ rfl
  rw [show Tryz.prog.cellsOf 3 = 1 from by kernel_rfl] at f0
  obtain ⟨d0, r0, o0⟩ := opn_cast (opn_int) (by rw [List.getElem?_eq_getElem (by omega)]; rfl) f0
  have f1 : DataW.trod enc Tryz.prog W 0 (fun _ => true) held n 29 ((cs.drop 1).take (Tryz.prog.cellsOf 29)) = xs[1]? := hf 1 _ rfl
  rw [show Tryz.prog.cellsOf 29 = 1 from by kernel_rfl] at f1
  obtain ⟨d1, r1, o1⟩ := opn_cast (opn_ints 3) (by rw [List.getElem?_eq_getElem (by omega)]; rfl) f1
  exact ⟨(d0, d1), ⟨(cs.drop 0).take 1, cs.drop 1, (List.take_append_drop 1 cs).symm, r0, (by have e := List.take_of_length_le (l := cs.drop 1) (i := 1) (by rw [List.length_drop]; omega); rw [e] at r1; exact r1)⟩, ⟨o0, o1⟩⟩
end Go.Proofs.YtidhmgboknffkaaGreatDoor
namespace Go.Proofs.YtidhmgboknffkaaGreatDoor
open Go.ChangeShapes Go.WideShapes Go.ChangeAt Go.WideMaps Go.WideElems Go.RowKit
set_option linter.unusedVariables false
theorem recT_RowS : Tryz.prog.readableRec 26 = true := by kernel_rfl
theorem rowT_RowS : 26 < Tryz.prog.types.size := of_decide_eq_true (by kernel_rfl)
theorem opn_RowS : Opn tRowS 26 := opn_slice tRow_law _ opn_Row Tryz.underlying26 (by kernel_rfl)
set_option maxRecDepth 100000 in
theorem shut_RowS {H : Type} {enc : TypeId × Value → H} {W W' : World} {v : Value} {d : DataW H} {ps : List MemPlace} (h : DataW.Trod enc Tryz.prog W 0 (fun _ => true) true 26 v d ps) (hb : Below W.heap.size W W') (hlt : ∀ x ∈ ps, x.block < W.heap.size) :
    DataW.Trod enc Tryz.prog W' 0 (fun b => decide (b < W.heap.size)) true 26 v d ps := Below.trod laidOutP recT_RowS rowT_RowS h hb hlt
end Go.Proofs.YtidhmgboknffkaaGreatDoor
