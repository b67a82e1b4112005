/-
  Texts of the proof, merged: IdxSpec6, IdxSpec7, IdxSpec8, IdxFit, IdxRes, OrdLaid, LawWorkOf, OpenInts, OpnT, OCond, OCondS, OQuery, OQueryS, OSpan, OSpanS, OSpanSS, OIndex, ORow, ORowS.
-/
import Derived.Test.YtidhmgboknffkaaDoorG8
import Derived.Lib.LaidTab
import Derived.LaidMore
import Derived.ProofKit
import Derived.OpenShut
import Derived.Carry
import Derived.Lib.SmallJoins
import Derived.Deep.Slices
namespace Go.Proofs.YtidhmgboknffkaaDoor
open Go.RowKit
set_option linter.unusedVariables false
set_option linter.unusedSimpArgs false
theorem probe_bound (fs : List (List SpanD)) (vs : List Int) : ∀ (os set : List Int) (work : Int), work ≤ (probeL fs vs os set work).2 ∧ (probeL fs vs os set work).2 ≤ work + (os.length : Int) * (1 + (set.length : Int))
  | [], set, work => by simp [probeL]
  | f :: os, set, work => by
    unfold probeL
    split
    · have : 0 ≤ ((f :: os).length : Int) * (1 + (set.length : Int)) := Int.mul_nonneg (by omega) (by omega)
      exact ⟨Int.le_refl _, by simp only; omega⟩
    · next hne =>
      dsimp only
      obtain ⟨h1, h2⟩ := probe_bound fs vs os (meetL set (findL (fs.getD f.toNat []) (vs.getD f.toNat 0))) (work + 1 + ((min set.length (findL (fs.getD f.toNat []) (vs.getD f.toNat 0)).length : Nat) : Int))
      have h3 := meetL_len set (findL (fs.getD f.toNat []) (vs.getD f.toNat 0))
      have h4 : (os.length : Int) * (1 + ((meetL set (findL (fs.getD f.toNat []) (vs.getD f.toNat 0))).length : Int)) ≤ (os.length : Int) * (1 + (set.length : Int)) := Int.mul_le_mul_of_nonneg_left (by omega) (by omega)
      have h5 : (((f :: os).length : Nat) : Int) * (1 + (set.length : Int)) = (os.length : Int) * (1 + (set.length : Int)) + (1 + (set.length : Int)) := by
        rw [List.length_cons, Int.natCast_add, Int.natCast_one, Int.add_mul, Int.one_mul]
      refine ⟨by omega, ?_⟩
      have h6 : ((min set.length (findL (fs.getD f.toNat []) (vs.getD f.toNat 0)).length : Nat) : Int) ≤ (set.length : Int) := by omega
      omega
theorem workB_bound {qs : List QD} {fs : List (List SpanD)} {os : List Int} {r : RowD} (ho : os.length = 3) (hq : qs.length ≤ 1048576) : 0 ≤ workB qs fs os r ∧ workB qs fs os r ≤ 4194304 := by
  unfold workB
  split
  · obtain ⟨h1, h2⟩ := probe_bound fs r.2 os (allL qs) 0
    have h3 : (allL qs).length = qs.length := by simp [allL]
    rw [ho, h3] at h2
    exact ⟨h1, by omega⟩
  · omega
def sumW (qs : List QD) (fs : List (List SpanD)) (os : List Int) (rs : List RowD) (k : Nat) : Int := ((rs.take k).map (workB qs fs os)).sum
theorem sumW_step {qs : List QD} {fs : List (List SpanD)} {os : List Int} {rs : List RowD} {k : Nat} (hk : k < rs.length) : sumW qs fs os rs (k + 1) = sumW qs fs os rs k + workB qs fs os (rs.getD k (0, [])) := by
  unfold sumW
  have e : rs.getD k (0, []) = rs[k] := by simp [List.getD, hk]
  rw [e, List.take_succ_eq_append_getElem hk, List.map_append, List.sum_append]
  simp
theorem workL_no {qs : List QD} {fs : List (List SpanD)} {os : List Int} {rs : List RowD} (h : (isIndexB qs fs && orderB os) = false) : workL qs fs rs os = 0 := by unfold workL; rw [h]; rfl
theorem workL_yes {qs : List QD} {fs : List (List SpanD)} {os : List Int} {rs : List RowD} (h : (isIndexB qs fs && orderB os) = true) : workL qs fs rs os = sumW qs fs os rs rs.length := by unfold workL sumW; rw [h, List.take_length]; rfl
theorem workB_no {qs : List QD} {fs : List (List SpanD)} {os : List Int} {r : RowD} (h : rowB r = false) : workB qs fs os r = 0 := by unfold workB; rw [h]; rfl
theorem workB_yes {qs : List QD} {fs : List (List SpanD)} {os : List Int} {r : RowD} (h : rowB r = true) : workB qs fs os r = (probeL fs r.2 os (allL qs) 0).2 := by unfold workB; rw [h]; rfl
theorem retI {a b : Int} (h : a = b) : Ending.returned (.int .i64 a) = .returned (.int .i64 b) := by rw [h]
set_option maxHeartbeats 16000000 in
set_option maxRecDepth 100000 in
theorem specWorkOf (qv fv rv ov : Value) (qs : List QD) (fs : List (List SpanD)) (rs : List RowD) (os : List Int) (w : World) (h1 : SlR tQuery w qv qs) (h2 : SlR tSpanS w fv fs) (h3 : SlR tRow w rv rs) (h4 : Ints w ov os) (hs : zL tQuery qs ≤ 1048576) (hz : zL tSpanS fs ≤ 1048576) (hr : zL tRow rs ≤ 1048576) (ho : os.length ≤ 1048576) :
    Calls Tryd.prog 25 #[.agg #[qv, fv], rv, ov] w fun e w' => e = .returned (.int .i64 (workL qs fs rs os)) ∧ Below w.heap.size w w' := by
  have hlen := zL_len hs
  have hrl := zL_len hr
  have HS := Lib.hid hs; have HZ := Lib.hid hz; have HZR := Lib.hid hr
  obtain ⟨qa, qc, rfl⟩ := slR_len h1
  obtain ⟨fa, fc, rfl⟩ := slR_len h2
  obtain ⟨ra, rc, rfl⟩ := slR_len h3
  obtain ⟨oa, oc, rfl⟩ := ints_len h4
  have d0 := Lib.hid ((Below.refl w.heap.size w).alloc (Nat.le_refl _) (.cells #[.slice qa qs.length qc, .slice fa fs.length fc] 27))
  have B00 : Hid ((w.alloc (.cells #[.slice qa qs.length qc, .slice fa fs.length fc] 27)).heap[w.heap.size]? = some (.cells #[.slice qa qs.length qc, .slice fa fs.length fc] 27 (0, 0))) := Lib.hid (heap_alloc_new w _)
  have H1 := Lib.hid h1; have H2 := Lib.hid h2; have H3 := Lib.hid h3; have H4 := Lib.hid h4
  have HX := Lib.hid (fun w g1 g2 => specIsIndex (.slice qa qs.length qc) (.slice fa fs.length fc) qs fs w g1 g2 HS.out HZ.out)
  have HO := Lib.hid (fun w g => specL6Order (.slice oa os.length oc) os w g ho)
  clear h1 h2 h3 h4 hs hz hr ho
  cases hx : isIndexB qs fs with
  | false =>
    have HE := Lib.hid (workL_no (rs := rs) (os := os) (show (isIndexB qs fs && orderB os) = false by rw [hx]; rfl))
    rw [hx] at HX
    clear hx HO
    go_enter Tryd.func25, Tryd.ntmps25
    go_wp2
    generalize w.alloc (.cells #[.slice qa qs.length qc, .slice fa fs.length fc] 27) = W at *
    go_loopw [7, 8] (fun n i wr => wr = W ∧ i = .int .i64 0 ∧ n = .int .i64 0) (fun _ _ _ => 0)
    case atStart => exact ⟨rfl, rfl, rfl⟩
    case round =>
      obtain ⟨rfl, rfl, rfl⟩ := hrel
      by_cases hlt : 0 < rs.length
      · have i2 : (0 : Int) < (rs.length : Int) := by omega
        have x0 := (cell_of_row wr _ 0 _ _ _ B00.out).trans (show _ = some (Value.slice qa qs.length qc) from rfl)
        have x1 := (cell_of_row wr _ 1 _ _ _ B00.out).trans (show _ = some (Value.slice fa fs.length fc) from rfl)
        go_wp2_with fail
        clear x0 x1
        refine (HX.out wr (slR_below tQuery_law H1.out d0.out) (slR_below tSpanS_law H2.out d0.out)).mono ?_
        rintro e w1 ⟨rfl, c1⟩
        have D1 := Lib.hid (d0.out.trans (c1.mono d0.out.size))
        clear c1
        go_wp2
        go_ret
        exact ⟨retI HE.out.symm, D1.out⟩
      · have i2 : ¬ (0 : Int) < (rs.length : Int) := by omega
        go_wp2
        go_ret
        exact ⟨retI HE.out.symm, d0.out⟩
  | true =>
    cases hor : orderB os with
    | false =>
      have HE := Lib.hid (workL_no (rs := rs) (show (isIndexB qs fs && orderB os) = false by rw [hx, hor]; rfl))
      rw [hx] at HX
      rw [hor] at HO
      clear hx hor
      go_enter Tryd.func25, Tryd.ntmps25
      go_wp2
      generalize w.alloc (.cells #[.slice qa qs.length qc, .slice fa fs.length fc] 27) = W at *
      go_loopw [7, 8] (fun n i wr => wr = W ∧ i = .int .i64 0 ∧ n = .int .i64 0) (fun _ _ _ => 0)
      case atStart => exact ⟨rfl, rfl, rfl⟩
      case round =>
        obtain ⟨rfl, rfl, rfl⟩ := hrel
        by_cases hlt : 0 < rs.length
        · have i2 : (0 : Int) < (rs.length : Int) := by omega
          have x0 := (cell_of_row wr _ 0 _ _ _ B00.out).trans (show _ = some (Value.slice qa qs.length qc) from rfl)
          have x1 := (cell_of_row wr _ 1 _ _ _ B00.out).trans (show _ = some (Value.slice fa fs.length fc) from rfl)
          go_wp2_with fail
          clear x0 x1
          refine (HX.out wr (slR_below tQuery_law H1.out d0.out) (slR_below tSpanS_law H2.out d0.out)).mono ?_
          rintro e w1 ⟨rfl, c1⟩
          have D1 := Lib.hid (d0.out.trans (c1.mono d0.out.size))
          clear c1
          go_wp2_with fail
          refine (HO.out w1 (ints_below H4.out D1.out)).mono ?_
          rintro e w2 ⟨rfl, c2⟩
          have D2 := Lib.hid (D1.out.trans (c2.mono D1.out.size))
          clear c2
          go_wp2
          go_ret
          exact ⟨retI HE.out.symm, D2.out⟩
        · have i2 : ¬ (0 : Int) < (rs.length : Int) := by omega
          go_wp2
          go_ret
          exact ⟨retI HE.out.symm, d0.out⟩
    | true =>
      have HE := Lib.hid (workL_yes (rs := rs) (show (isIndexB qs fs && orderB os) = true by rw [hx, hor]; rfl))
      have HF3 := Lib.hid (idx_len hx)
      have HO3 := Lib.hid (order_iff hor)
      rw [hx] at HX
      rw [hor] at HO
      clear hx hor
      go_enter Tryd.func25, Tryd.ntmps25
      go_wp2
      generalize w.alloc (.cells #[.slice qa qs.length qc, .slice fa fs.length fc] 27) = W at *
      go_loopw [7, 8] (fun n i wr => ∃ (k : Nat), k ≤ rs.length ∧ i = .int .i64 k ∧ n = .int .i64 (sumW qs fs os rs k) ∧ 0 ≤ sumW qs fs os rs k ∧ sumW qs fs os rs k ≤ 4194304 * (k : Int) ∧ wr.heap[w.heap.size]? = some (.cells #[.slice qa qs.length qc, .slice fa fs.length fc] 27 (0, 0)) ∧ Below w.heap.size w wr) (fun _ i _ => rs.length - (intOf i).toNat)
      case atStart => exact ⟨0, Nat.zero_le _, rfl, by simp [sumW], by simp [sumW], by simp [sumW], B00.out, d0.out⟩
      case round =>
        obtain ⟨k, hk, rfl, rfl, hw0, hw1, hr0, hbel⟩ := hrel
        by_cases hlt : k < rs.length
        · have i1 : (0 : Int) ≤ (k : Int) := by omega
          have i2 : (k : Int) < (rs.length : Int) := by omega
          have hst := sumW_step (qs := qs) (fs := fs) (os := os) hlt
          have hwb := workB_bound (fs := fs) (r := rs.getD k (0, [])) HO3.out.1 hlen
          obtain ⟨m', hm'⟩ : ∃ m', sumW qs fs os rs (k + 1) = m' := ⟨_, rfl⟩
          rw [hm'] at hst
          have HM1 := Lib.hid hm'
          have HST := Lib.hid hst
          clear hm'
          obtain ⟨b, off, cap', cs, hv, hbl, hcs, hR⟩ := slR_at H3.out hlt
          simp only [Value.slice.injEq] at hv
          obtain ⟨rfl, _, rfl⟩ := hv
          have hzx := zL_at HZR.out hlt
          have HNO := Lib.hid (fun h => workB_no (qs := qs) (fs := fs) (os := os) (r := rs.getD k (0, [])) h)
          have HYES := Lib.hid (fun h => workB_yes (qs := qs) (fs := fs) (os := os) (r := rs.getD k (0, [])) h)
          change tRow.R w cs (rs.getD k (0, [])) at hR
          change tRow.sz (rs.getD k (0, [])) ≤ 1048576 at hzx
          generalize sumW qs fs os rs k = m at *
          generalize workB qs fs os (rs.getD k (0, [])) = wk at *
          generalize rs.getD k (0, []) = r at *
          obtain ⟨rid, vs⟩ := r
          obtain ⟨vv, hR'⟩ := tRow_R hR
          obtain ⟨rfl, hV⟩ := hR'
          rw [tRow_sz, zL_ints] at hzx
          have RC0 : Hid (w.cell? ⟨b, off + k * 2, none⟩ = some (.int .i64 rid)) := Lib.hid (hcs 0 (by decide))
          obtain ⟨va, vc, rfl⟩ := slR_len hV
          have RC1 : Hid (w.cell? ⟨b, off + k * 2 + 1, none⟩ = some (.slice va vs.length vc)) := Lib.hid (hcs 1 (by decide))
          have HV := Lib.hid (slR_ints hV)
          have HBL := Lib.hid hbl
          have B0 := Lib.hid hr0
          have d := Lib.hid hbel
          have HR := Lib.hid (fun w g => specIsRow rid (.slice va vs.length vc) vs w g hzx)
          clear hcs hR hV hbl hr0 hbel hst
          have p_B0_0 := (cell_of_row wr _ 0 _ _ _ B0.out).trans (show _ = some (Value.slice qa qs.length qc) from rfl)
          have p_B0_1 := (cell_of_row wr _ 1 _ _ _ B0.out).trans (show _ = some (Value.slice fa fs.length fc) from rfl)
          go_wp2_with fail
          clear p_B0_0 p_B0_1
          refine (HX.out wr (slR_below tQuery_law H1.out d.out) (slR_below tSpanS_law H2.out d.out)).mono ?_
          rintro e w1 ⟨rfl, c1⟩
          replace B0 := Lib.hid ((c1.block w.heap.size (Array.getElem?_eq_some_iff.1 B0.out).1).trans B0.out)
          replace d := Lib.hid (d.out.trans (c1.mono d.out.size))
          have Z_w1 := Lib.hid (show wr.heap.size ≤ w1.heap.size from c1.size)
          clear c1
          go_wp2_with fail
          refine (HO.out w1 (ints_below H4.out d.out)).mono ?_
          rintro e w2 ⟨rfl, c2⟩
          replace B0 := Lib.hid ((c2.block w.heap.size (Array.getElem?_eq_some_iff.1 B0.out).1).trans B0.out)
          replace d := Lib.hid (d.out.trans (c2.mono d.out.size))
          have Z_w2 := Lib.hid (show w1.heap.size ≤ w2.heap.size from c2.size)
          clear c2
          cases hrb : rowB (rid, vs) with
          | false =>
            have HW := Lib.hid (HNO.out hrb)
            rw [hrb] at HR
            clear hrb HNO HYES
            have p_r0 := (d.out.cell (p := ⟨b, off + k * 2, none⟩) HBL.out).trans RC0.out
            have p_r1 := (d.out.cell (p := ⟨b, off + k * 2 + 1, none⟩) HBL.out).trans RC1.out
            go_wp2_with fail
            clear p_r0 p_r1
            refine (HR.out w2 (ints_below HV.out d.out)).mono ?_
            rintro e w3 ⟨rfl, c3⟩
            replace B0 := Lib.hid ((c3.block w.heap.size (Array.getElem?_eq_some_iff.1 B0.out).1).trans B0.out)
            replace d := Lib.hid (d.out.trans (c3.mono d.out.size))
            have Z_w3 := Lib.hid (show w2.heap.size ≤ w3.heap.size from c3.size)
            clear c3
            have hm : m = m' := by have := HST.out; have := HW.out; omega
            have HM := Lib.hid hm
            clear hm
            go_wp2
            go_roundw
            case rel => exact ⟨k + 1, by omega, by go_num, by rw [HM1.out, HM.out], by rw [HM1.out]; have := HM.out; omega, by rw [HM1.out]; have := HM.out; omega, B0.out, d.out⟩
            case measure => simp [intOf]; omega
          | true =>
            have HW := Lib.hid (HYES.out hrb)
            have HV3 : Hid (vs.length = 3) := Lib.hid (row_len hrb)
            rw [hrb] at HR
            clear hrb HNO HYES
            have p_r0 := (d.out.cell (p := ⟨b, off + k * 2, none⟩) HBL.out).trans RC0.out
            have p_r1 := (d.out.cell (p := ⟨b, off + k * 2 + 1, none⟩) HBL.out).trans RC1.out
            go_wp2_with fail
            clear p_r0 p_r1
            refine (HR.out w2 (ints_below HV.out d.out)).mono ?_
            rintro e w3 ⟨rfl, c3⟩
            replace B0 := Lib.hid ((c3.block w.heap.size (Array.getElem?_eq_some_iff.1 B0.out).1).trans B0.out)
            replace d := Lib.hid (d.out.trans (c3.mono d.out.size))
            have Z_w3 := Lib.hid (show w2.heap.size ≤ w3.heap.size from c3.size)
            clear c3
            go_wp2
            have p_B0_0 := (cell_of_row w3 _ 0 _ _ _ B0.out).trans (show _ = some (Value.slice qa qs.length qc) from rfl)
            have p_B0_1 := (cell_of_row w3 _ 1 _ _ _ B0.out).trans (show _ = some (Value.slice fa fs.length fc) from rfl)
            have p_r0 := (d.out.cell (p := ⟨b, off + k * 2, none⟩) HBL.out).trans RC0.out
            have p_r1 := (d.out.cell (p := ⟨b, off + k * 2 + 1, none⟩) HBL.out).trans RC1.out
            refine wp_region_held_drew (S := fun w' => w'.cell? ⟨w.heap.size, 0, none⟩ = some (Value.slice qa qs.length qc) ∧ w'.cell? ⟨w.heap.size, 1, none⟩ = some (Value.slice fa fs.length fc) ∧ w'.cell? ⟨b, off + k * 2, none⟩ = some (Value.int .i64 rid) ∧ w'.cell? ⟨b, off + k * 2 + 1, none⟩ = some (Value.slice va vs.length vc)) (by kernel_rfl) ⟨p_B0_0, p_B0_1, p_r0, p_r1⟩ (fun hHeld => ?_)
            clear p_B0_0 p_B0_1 p_r0 p_r1
            have cdr : Below w3.heap.size w3 w3.drew := below_drew (Below.refl _ _)
            replace B0 := Lib.hid ((cdr.block w.heap.size (Array.getElem?_eq_some_iff.1 B0.out).1).trans B0.out)
            replace d := Lib.hid (d.out.trans (cdr.mono d.out.size))
            clear cdr
            refine take_runs (i := 0) (v := ?_) (by simp only [List.getElem?_toArray, List.getElem?_cons_succ, List.getElem?_cons_zero]; rfl) (by kernel_rfl) (by kernel_rfl) (by kernel_rfl) rfl (by exact fun _ _ _ h => h) (by rfl) ?_ (by assumption) ?_
            rotate_left
            · intro w hSw; (try dsimp only at hSw); go_simp; try (with_reducible rfl)
            try simp only [Act.put, List.setIfInBounds_toArray, List.set_cons_zero, List.set_cons_succ]
            refine take_runs (i := 1) (v := ?_) (by simp only [List.getElem?_toArray, List.getElem?_cons_succ, List.getElem?_cons_zero]; rfl) (by kernel_rfl) (by kernel_rfl) (by kernel_rfl) rfl (by exact fun _ _ _ h => h) (by rfl) ?_ (by assumption) ?_
            rotate_left
            · intro w hSw; (try dsimp only at hSw); go_simp; try (with_reducible rfl)
            try simp only [Act.put, List.setIfInBounds_toArray, List.set_cons_zero, List.set_cons_succ]
            refine take_runs (i := 2) (v := ?_) (by simp only [List.getElem?_toArray, List.getElem?_cons_succ, List.getElem?_cons_zero]; rfl) (by kernel_rfl) (by kernel_rfl) (by kernel_rfl) rfl (by exact fun _ _ _ h => h) (by rfl) ?_ (by assumption) ?_
            rotate_left
            · intro w hSw; (try dsimp only at hSw); go_simp; try (with_reducible rfl)
            try simp only [Act.put, List.setIfInBounds_toArray, List.set_cons_zero, List.set_cons_succ]
            refine take_runs (i := 3) (v := ?_) (by simp only [List.getElem?_toArray, List.getElem?_cons_succ, List.getElem?_cons_zero]; rfl) (by kernel_rfl) (by kernel_rfl) (by kernel_rfl) rfl (by exact fun _ _ _ h => h) (by rfl) ?_ (by assumption) ?_
            rotate_left
            · intro w hSw; (try dsimp only at hSw); go_simp; try (with_reducible rfl)
            try simp only [Act.put, List.setIfInBounds_toArray, List.set_cons_zero, List.set_cons_succ]
            refine take_runs (i := 4) (v := ?_) (by simp only [List.getElem?_toArray, List.getElem?_cons_succ, List.getElem?_cons_zero]; rfl) (by kernel_rfl) (by kernel_rfl) (by kernel_rfl) rfl (by exact fun _ _ _ h => h) (by rfl) ?_ (by assumption) ?_
            rotate_left
            · intro w hSw; (try dsimp only at hSw); go_simp; try (with_reducible rfl)
            try simp only [Act.put, List.setIfInBounds_toArray, List.set_cons_zero, List.set_cons_succ]
            refine take_runs (i := 5) (v := ?_) (by simp only [List.getElem?_toArray, List.getElem?_cons_succ, List.getElem?_cons_zero]; rfl) (by kernel_rfl) (by kernel_rfl) (by kernel_rfl) rfl (by exact fun _ _ _ h => h) (by rfl) ?_ (by assumption) ?_
            rotate_left
            · intro w hSw; (try dsimp only at hSw); go_simp; try (with_reducible rfl)
            try simp only [Act.put, List.setIfInBounds_toArray, List.set_cons_zero, List.set_cons_succ]
            refine wpAnyH_ready (rs := [6]) (by kernel_rfl) (by simp) ?_
            refine (AllReadyH.cons (o := _) (by simp only [List.getElem?_toArray, List.getElem?_cons_succ, List.getElem?_cons_zero]; rfl) (fun K hK => ?_) AllReadyH.nil)
            go_simp
            refine (specL6Probe (.slice qa qs.length qc) (.slice fa fs.length fc) (.slice va vs.length vc) (.slice oa os.length oc) qs fs rid vs os (w3.drew) (slR_below tQuery_law H1.out d.out) (slR_below tSpanS_law H2.out d.out) (ints_below HV.out d.out) (ints_below H4.out d.out) HS.out HZ.out HF3.out HV3.out HO3.out.1 HO3.out.2).mono ?_
            rintro e w5 ⟨pu, rfl, ou, c5⟩
            replace B0 := Lib.hid ((c5.block w.heap.size (Array.getElem?_eq_some_iff.1 B0.out).1).trans B0.out)
            replace d := Lib.hid (d.out.trans (c5.mono d.out.size))
            have Z_w5 := Lib.hid (show w3.heap.size ≤ w5.heap.size from c5.size)
            clear ou c5
            have p_B0_0 := (cell_of_row w5 _ 0 _ _ _ B0.out).trans (show _ = some (Value.slice qa qs.length qc) from rfl)
            have p_B0_1 := (cell_of_row w5 _ 1 _ _ _ B0.out).trans (show _ = some (Value.slice fa fs.length fc) from rfl)
            have p_r0 := (d.out.cell (p := ⟨b, off + k * 2, none⟩) HBL.out).trans RC0.out
            have p_r1 := (d.out.cell (p := ⟨b, off + k * 2 + 1, none⟩) HBL.out).trans RC1.out
            refine hK.out _ _ ⟨p_B0_0, p_B0_1, p_r0, p_r1⟩ (fun hHeld => ?_)
            clear p_B0_0 p_B0_1 p_r0 p_r1
            clear hK K
            try simp only [Act.put, List.setIfInBounds_toArray, List.set_cons_zero, List.set_cons_succ]
            refine take_runs (i := 7) (v := ?_) (by simp only [List.getElem?_toArray, List.getElem?_cons_succ, List.getElem?_cons_zero]; rfl) (by kernel_rfl) (by kernel_rfl) (by kernel_rfl) rfl (by exact fun _ _ _ h => h) (by rfl) ?_ (by assumption) ?_
            rotate_left
            · intro w hSw; (try dsimp only at hSw); go_simp; try (with_reducible rfl)
            try simp only [Act.put, List.setIfInBounds_toArray, List.set_cons_zero, List.set_cons_succ]
            refine take_runs (i := 8) (v := ?_) (by simp only [List.getElem?_toArray, List.getElem?_cons_succ, List.getElem?_cons_zero]; rfl) (by kernel_rfl) (by kernel_rfl) (by kernel_rfl) rfl (by exact fun _ _ _ h => h) (by rfl) ?_ (by assumption) ?_
            rotate_left
            · intro w hSw; (try dsimp only at hSw); go_simp; try (with_reducible rfl)
            try simp only [Act.put, List.setIfInBounds_toArray, List.set_cons_zero, List.set_cons_succ]
            refine take_runs (i := 9) (v := ?_) (by simp only [List.getElem?_toArray, List.getElem?_cons_succ, List.getElem?_cons_zero]; rfl) (by kernel_rfl) (by kernel_rfl) (by kernel_rfl) rfl (by exact fun _ _ _ h => h) (by rfl) ?_ (by assumption) ?_
            rotate_left
            · intro w hSw; (try dsimp only at hSw); go_simp; try (with_reducible rfl)
            try simp only [Act.put, List.setIfInBounds_toArray, List.set_cons_zero, List.set_cons_succ]
            refine take_runs (i := 10) (v := ?_) (by simp only [List.getElem?_toArray, List.getElem?_cons_succ, List.getElem?_cons_zero]; rfl) (by kernel_rfl) (by kernel_rfl) (by kernel_rfl) rfl (by exact fun _ _ _ h => h) (by rfl) ?_ (by assumption) ?_
            rotate_left
            · intro w hSw; (try dsimp only at hSw); go_simp; try (with_reducible rfl)
            try simp only [Act.put, List.setIfInBounds_toArray, List.set_cons_zero, List.set_cons_succ]
            refine take_runs (i := 11) (v := ?_) (by simp only [List.getElem?_toArray, List.getElem?_cons_succ, List.getElem?_cons_zero]; rfl) (by kernel_rfl) (by kernel_rfl) (by kernel_rfl) rfl (by exact fun _ _ _ h => h) (by rfl) ?_ (by assumption) ?_
            rotate_left
            · intro w hSw; (try dsimp only at hSw); go_simp; try (with_reducible rfl)
            try simp only [Act.put, List.setIfInBounds_toArray, List.set_cons_zero, List.set_cons_succ]
            refine wpAnyH_done (by kernel_rfl) ?_ _
            clear hHeld
            generalize (probeL fs vs os (allL qs) 0).2 = pw at *
            have hm : m + pw = m' := by have := HST.out; have h9 : wk = pw := HW.out; omega
            have HM := Lib.hid hm
            have hm3 : pw ≤ 4194304 := by have h9 : wk = pw := HW.out; omega
            have hm1 : m + pw ≤ 9223372036854775807 := by omega
            have hm2 : 0 ≤ pw := by have h9 : wk = pw := HW.out; omega
            clear hm
            go_wp2
            go_roundw
            case rel => exact ⟨k + 1, by omega, by go_num, by rw [HM1.out, HM.out], by rw [HM1.out]; have := HM.out; omega, by rw [HM1.out]; have := HM.out; omega, B0.out, d.out⟩
            case measure => simp [intOf]; omega
        · obtain rfl : k = rs.length := by omega
          go_wp2
          go_ret
          exact ⟨retI HE.out.symm, hbel⟩
end Go.Proofs.YtidhmgboknffkaaDoor
namespace Go.Proofs.YtidhmgboknffkaaDoor
open Go.RowKit
set_option linter.unusedVariables false
set_option linter.unusedSimpArgs false
end Go.Proofs.YtidhmgboknffkaaDoor
namespace Go.Proofs.YtidhmgboknffkaaDoor
open Go.RowKit
set_option linter.unusedVariables false
set_option linter.unusedSimpArgs false
end Go.Proofs.YtidhmgboknffkaaDoor
namespace Go.Proofs.YtidhmgboknffkaaDoor
open Go.RowKit
set_option linter.unusedVariables false
set_option linter.unusedSimpArgs false
theorem fitWorkOf (x0 : List QD) (x1 : List (List SpanD)) (rs : List RowD) (os : List Int) : ∀ (v0 v1 v2 v3 : Value) (w : World), SlR tQuery w v0 x0 → SlR tSpanS w v1 x1 → SlR tRow w v2 rs → SlR tInt w v3 os → zL tQuery x0 + zL tSpanS x1 + zL tRow rs ≤ 1048576 → os.length ≤ 1048576 →
    Calls Tryd.prog 25 #[.agg #[v0, v1], v2, v3] w (fun e w' => e = .returned (.int .i64 (workL x0 x1 rs os)) ∧ Below w.heap.size w w') :=
  fun v0 v1 v2 v3 w h1 h2 h3 h4 hz ho => specWorkOf v0 v1 v2 v3 x0 x1 rs os w h1 h2 h3 (slR_ints h4) (by omega) (by omega) (by omega) ho
end Go.Proofs.YtidhmgboknffkaaDoor
namespace Go.Proofs.YtidhmgboknffkaaDoor
open Go.RowKit
set_option linter.unusedVariables false
set_option linter.unusedSimpArgs false
theorem resWorkOf {W : World} (ht : OrdT W) (x0 : List QD) (x1 : List (List SpanD)) (rs : List RowD) (os : List Int) : ∀ (v0 v1 v2 v3 : Value) (w : World), Below W.heap.size W w → SlR tQuery w v0 x0 → SlR tSpanS w v1 x1 → SlR tRow w v2 rs → SlR tInt w v3 os → zL tQuery x0 + zL tSpanS x1 + zL tRow rs ≤ 1048576 → os.length ≤ 1048576 →
    Calls Tryd.prog 24 #[.agg #[v0, v1], v2, v3] w (fun e w' => e = .returned (.int .i64 (workL x0 x1 rs os)) ∧ Below w.heap.size w w') :=
  fun v0 v1 v2 v3 w hB h1 h2 h3 h4 hz ho => implWorkOf v0 v1 v2 v3 x0 x1 rs os w h1 h2 h3 (slR_ints h4) (by omega) (by omega) (by omega) ho (ht.on hB)
end Go.Proofs.YtidhmgboknffkaaDoor
namespace Go.Proofs.YtidhmgboknffkaaDoor
open Go.RowKit
set_option linter.unusedVariables false
set_option linter.unusedSimpArgs false
theorem gOrd : Tryd.prog.globalNamed "loop.example/g01986/impl.probeOrders" = some 0 := by kernel_rfl
theorem tOrd : (Tryd.prog.globals[0]?).map (·.type) = some 119 := by kernel_rfl
theorem cOrd6 : Tryd.prog.cellsOf 119 = 18 := by kernel_rfl
theorem cOrd : Tryd.prog.cellsOf 100 = 3 := by kernel_rfl
theorem cOrdI : Tryd.prog.cellsOf 3 = 1 := by kernel_rfl
def ordD : DataW Unit := .agg (ordersL.map fun o => Lib.tabData .i64 o)
theorem cells_of_orders {w : World} {enc : TypeId × Value → Unit} {base : Nat} {sp : Nat → Bool} {held : Bool} {fuel : Nat} {cs : List Value} {p : List MemPlace}
    (h : DataW.trod enc Tryd.prog w base sp held fuel 119 cs = some (ordD, p)) : ∀ i, i < 18 → cs[i]? = some (.int .i64 (ordC.getD i 0)) := by
  cases fuel with
  | zero => simp [DataW.trod] at h
  | succ fuel =>
    simp only [DataW.trod, Tryd.underlying119, cOrd, cOrd6] at h
    split at h
    · rename_i hl
      obtain ⟨xs, hm, hx⟩ := Option.map_eq_some_iff.1 h
      have hxs : xs.map (·.1) = ordersL.map fun o => (Lib.tabData .i64 o : DataW Unit) := by
        have := congrArg Prod.fst hx
        simpa [ordD] using this
      have one : ∀ k, k < 6 → ((cs.drop (k * 3)).take 3) = (ordersL.getD k []).map fun z => Value.int .i64 z := by
        intro k hk
        obtain ⟨b, hb, hf⟩ := Lib.mapM_at hm k k (by simp [hk])
        have h2 : (xs.map (·.1))[k]? = some b.1 := by simp [hb]
        rw [hxs] at h2
        have hk' : k < ordersL.length := by show k < 6; exact hk
        rw [List.getElem?_map, List.getElem?_eq_getElem hk'] at h2
        simp only [Option.map_some, Option.some.injEq] at h2
        obtain ⟨b1, b2⟩ := b
        simp only at h2
        have e : ordersL.getD k [] = ordersL[k] := by simp [List.getD, hk']
        rw [e]
        exact Lib.cells_of_tab Tryd.underlying100 Tryd.underlying3 cOrdI cOrd (by rw [h2]; exact hf)
      intro i hi
      have h3 := one (i / 3) (by omega)
      have h4 := congrArg (·[i % 3]?) h3
      have h5 : i % 3 < 3 := Nat.mod_lt _ (by omega)
      simp only [List.getElem?_take, List.getElem?_drop, if_pos h5] at h4
      rw [show i / 3 * 3 + i % 3 = i by omega] at h4
      rw [h4]
      rcases (show i = 0 ∨ i = 1 ∨ i = 2 ∨ i = 3 ∨ i = 4 ∨ i = 5 ∨ i = 6 ∨ i = 7 ∨ i = 8 ∨ i = 9 ∨ i = 10 ∨ i = 11 ∨ i = 12 ∨ i = 13 ∨ i = 14 ∨ i = 15 ∨ i = 16 ∨ i = 17 by omega) with rfl | rfl | rfl | rfl | rfl | rfl | rfl | rfl | rfl | rfl | rfl | rfl | rfl | rfl | rfl | rfl | rfl | rfl <;> rfl
    · cases h
theorem ordT_of_head {W : World} {rest : List (String × DataW Unit)} (h : laidMet Tryd.prog (("loop.example/g01986/impl.probeOrders", ordD) :: rest) W) : OrdT W := by
  obtain ⟨ps, ⟨g', t', cs, fuel, p, q, hg', ht', hvar, hd, _, _⟩, _⟩ := h
  obtain rfl := Option.some.inj (gOrd.symm.trans hg')
  obtain rfl := Option.some.inj (tOrd.symm.trans ht')
  intro i hi
  have h1 := cells_of_orders hd i hi
  have h2 := World.var?_cell gOrd hvar i
  rw [h2]
  simpa using h1
theorem var_below {P : Program} {W W' : World} {n : String} {g : Nat} {cs : Array Value} (hg : P.globalNamed n = some g) (h : W.var? P n = some cs) (hb : Below W.heap.size W W') : W'.var? P n = some cs := by
  simp only [World.var?, hg, Option.bind_some] at h ⊢
  cases hc : W.heap[g]? with
  | none => rw [hc] at h; simp at h
  | some o => rw [hb.block g (Array.getElem?_eq_some_iff.1 hc).1]; exact h
end Go.Proofs.YtidhmgboknffkaaDoor
namespace Go.Proofs.YtidhmgboknffkaaDoor
open Go.RowKit
set_option linter.unusedVariables false
set_option linter.unusedSimpArgs false
set_option maxHeartbeats 32000000 in
set_option maxRecDepth 100000 in
theorem law_fnExactWorkOf (v0_0 v0_1 : Value) (x0_0 : List (Int × Int × List (Int × Int × Int) × List Int)) (x0_1 : List (List (Int × Int × List Int))) (v1_0 : Value) (x1_0 : List (Int × List Int)) (v2_0 : Value) (x2_0 : List Int) (r0 : Int) (w : World) (h0_0 : SlR tQuery w v0_0 x0_0) (h0_1 : SlR tSpanS w v0_1 x0_1) (h1_0 : SlR tRow w v1_0 x1_0) (h2_0 : SlR tInt w v2_0 x2_0) (o0_0 : tQueryS.ok x0_0) (o0_1 : tSpanSS.ok x0_1) (o1_0 : tRowS.ok x1_0) (o2_0 : tIntS.ok x2_0) 
    (hspec : ∀ (v0_0 v0_1 v1_0 v2_0 : Value) (w : World), SlR tQuery w v0_0 x0_0 → SlR tSpanS w v0_1 x0_1 → SlR tRow w v1_0 x1_0 → SlR tInt w v2_0 x2_0 → zL tQuery x0_0 + zL tSpanS x0_1 + zL tRow x1_0 ≤ 1048576 → x2_0.length ≤ 1048576 → Calls Tryd.prog 25 #[.agg #[v0_0, v0_1], v1_0, v2_0] w (fun e w' => e = .returned (.int .i64 r0) ∧ Below w.heap.size w w'))
    (himpl : ∀ (v0_0 v0_1 v1_0 v2_0 : Value) (u : World), Below w.heap.size w u → SlR tQuery u v0_0 x0_0 → SlR tSpanS u v0_1 x0_1 → SlR tRow u v1_0 x1_0 → SlR tInt u v2_0 x2_0 → zL tQuery x0_0 + zL tSpanS x0_1 + zL tRow x1_0 ≤ 1048576 → x2_0.length ≤ 1048576 → Calls Tryd.prog 24 #[.agg #[v0_0, v0_1], v1_0, v2_0] u (fun e w' => e = .returned (.int .i64 r0) ∧ Below u.heap.size u w')) :
    Calls Tryd.prog 6 #[.agg #[v0_0, v0_1], v1_0, v2_0] w fun e w' => e = .returned (.bool true) ∧ Below w.heap.size w w' := by
  obtain ⟨c0_0, k0_0, rfl⟩ := slR_len h0_0
  obtain ⟨c0_1, k0_1, rfl⟩ := slR_len h0_1
  obtain ⟨c1_0, k1_0, rfl⟩ := slR_len h1_0
  obtain ⟨c2_0, k2_0, rfl⟩ := slR_len h2_0
  have HB0 : Hid (Below w.heap.size w (w.alloc (.cells #[.slice c0_0 x0_0.length k0_0, .slice c0_1 x0_1.length k0_1] 56))) := Lib.hid ((Below.refl _ w).alloc (Nat.le_refl _) _)
  have B0 : Hid ((w.alloc (.cells #[.slice c0_0 x0_0.length k0_0, .slice c0_1 x0_1.length k0_1] 56)).heap[w.heap.size]? = some (.cells #[.slice c0_0 x0_0.length k0_0, .slice c0_1 x0_1.length k0_1] 56 (0, 0))) := Lib.hid (by have := heap_alloc_new w (.cells #[.slice c0_0 x0_0.length k0_0, .slice c0_1 x0_1.length k0_1] 56); simpa only [World.size_alloc] using this)
  have A0_0 : Hid (SlR tQuery (w.alloc (.cells #[.slice c0_0 x0_0.length k0_0, .slice c0_1 x0_1.length k0_1] 56)) (.slice c0_0 x0_0.length k0_0) x0_0) := Lib.hid (slR_below tQuery_law h0_0 HB0.out)
  have A0_1 : Hid (SlR tSpanS (w.alloc (.cells #[.slice c0_0 x0_0.length k0_0, .slice c0_1 x0_1.length k0_1] 56)) (.slice c0_1 x0_1.length k0_1) x0_1) := Lib.hid (slR_below tSpanS_law h0_1 HB0.out)
  have A1_0 : Hid (SlR tRow (w.alloc (.cells #[.slice c0_0 x0_0.length k0_0, .slice c0_1 x0_1.length k0_1] 56)) (.slice c1_0 x1_0.length k1_0) x1_0) := Lib.hid (slR_below tRow_law h1_0 HB0.out)
  have A2_0 : Hid (SlR tInt (w.alloc (.cells #[.slice c0_0 x0_0.length k0_0, .slice c0_1 x0_1.length k0_1] 56)) (.slice c2_0 x2_0.length k2_0) x2_0) := Lib.hid (slR_below tInt_law h2_0 HB0.out)
  have O0_0 := Lib.hid o0_0
  have O0_1 := Lib.hid o0_1
  have O1_0 := Lib.hid o1_0
  have O2_0 := Lib.hid o2_0
  clear h0_0 o0_0 h0_1 o0_1 h1_0 o1_0 h2_0 o2_0
  have HSP := Lib.hid hspec
  have HIM := Lib.hid himpl
  clear hspec himpl
  by_cases c0 : x2_0.length ≤ 1048576
  ·
    by_cases c1 : ((zL tQuery x0_0 + zL tSpanS x0_1 : Nat) : Int) ≤ (1048576 : Int)
    ·
      by_cases c2 : ((zL tRow x1_0 : Nat) : Int) ≤ (1048576 : Int) - ((zL tQuery x0_0 + zL tSpanS x0_1 : Nat) : Int)
      ·
        have HZ0 : Hid (((zL tQuery x0_0 + zL tSpanS x0_1 : Nat) : Int) ≤ (1048576 : Int)) := Lib.hid c1
        have HK0 : Hid ((1048576 : Int) ≤ 1048576) := Lib.hid (by omega)
        have hn0 : ¬ (1048576 : Int) - ((zL tQuery x0_0 + zL tSpanS x0_1 : Nat) : Int) < 0 := by omega
        have HZ1 : Hid (((zL tRow x1_0 : Nat) : Int) ≤ (1048576 : Int) - ((zL tQuery x0_0 + zL tSpanS x0_1 : Nat) : Int)) := Lib.hid c2
        have HK1 : Hid ((1048576 : Int) - ((zL tQuery x0_0 + zL tSpanS x0_1 : Nat) : Int) ≤ 1048576) := Lib.hid (by omega)
        have hn1 : ¬ (1048576 : Int) - ((zL tQuery x0_0 + zL tSpanS x0_1 : Nat) : Int) - ((zL tRow x1_0 : Nat) : Int) < 0 := by omega
        have hl2 : ¬ (1048576 : Int) < (x2_0.length : Int) := by omega
        have HL2 := Lib.hid c0
        have HT : Hid (zL tQuery x0_0 + zL tSpanS x0_1 + zL tRow x1_0 ≤ 1048576) := Lib.hid (by omega)
        have S0_0 : Hid (zL tQuery x0_0 ≤ 1048576) := Lib.hid (by omega)
        have S0_1 : Hid (zL tSpanS x0_1 ≤ 1048576) := Lib.hid (by omega)
        have S1_0 : Hid (zL tRow x1_0 ≤ 1048576) := Lib.hid (by omega)
        have S2_0 : Hid (zL tInt x2_0 ≤ 1048576) := Lib.hid (by rw [zL_ints]; exact HL2.out)
        have N0_0 := ndL_le tQuery_law (by decide) x0_0
        have N0_1 := ndL_le tSpanS_law (by decide) x0_1
        have N1_0 := ndL_le tRow_law (by decide) x1_0
        have N2_0 := ndL_le tInt_law (by decide) x2_0
        clear N0_0 N0_1 N1_0 N2_0
        have e0 : (r0 != r0) = false := by simp
        clear c0 c1 c2
        go_enter Tryd.func6, Tryd.ntmps6
        go_wp2_with fail
        have Y_W : Hid (w.heap.size + 1 ≤ (w.alloc (.cells #[.slice c0_0 x0_0.length k0_0, .slice c0_1 x0_1.length k0_1] 56)).heap.size) := Lib.hid (by simp [World.size_alloc])
        generalize (w.alloc (.cells #[.slice c0_0 x0_0.length k0_0, .slice c0_1 x0_1.length k0_1] 56)) = W at *
        have d := Lib.hid (Below.refl W.heap.size W)
        refine (szIndex_Y (.slice c0_0 x0_0.length k0_0) (.slice c0_1 x0_1.length k0_1) x0_0 x0_1 ((1048576 : Int)) W (slR_below tQuery_law A0_0.out d.out) (slR_below tSpanS_law A0_1.out d.out) HZ0.out HK0.out).mono ?_
        rintro e v1 ⟨rfl, c1⟩
        replace B0 := Lib.hid ((c1.block w.heap.size (Array.getElem?_eq_some_iff.1 B0.out).1).trans B0.out)
        replace d := Lib.hid (d.out.trans (c1.mono d.out.size))
        have Z_v1 := Lib.hid (show W.heap.size ≤ v1.heap.size from c1.size)
        clear c1
        go_wp2_with fail
        refine (szRowS_Y (.slice c1_0 x1_0.length k1_0) x1_0 ((1048576 : Int) - ((zL tQuery x0_0 + zL tSpanS x0_1 : Nat) : Int)) v1 (slR_below tRow_law A1_0.out d.out) HZ1.out HK1.out).mono ?_
        rintro e v2 ⟨rfl, c2⟩
        replace B0 := Lib.hid ((c2.block w.heap.size (Array.getElem?_eq_some_iff.1 B0.out).1).trans B0.out)
        replace d := Lib.hid (d.out.trans (c2.mono d.out.size))
        have Z_v2 := Lib.hid (show v1.heap.size ≤ v2.heap.size from c2.size)
        clear c2
        have p_B0_0 := (cell_of_row v2 _ 0 _ _ _ B0.out).trans (show _ = some (Value.slice c0_0 x0_0.length k0_0) from rfl)
        have p_B0_1 := (cell_of_row v2 _ 1 _ _ _ B0.out).trans (show _ = some (Value.slice c0_1 x0_1.length k0_1) from rfl)
        go_wp2_with fail
        clear p_B0_0 p_B0_1
        refine (toIndex_T (.slice c0_0 x0_0.length k0_0) (.slice c0_1 x0_1.length k0_1) x0_0 x0_1 v2 (slR_below tQuery_law A0_0.out d.out) (slR_below tSpanS_law A0_1.out d.out) S0_0.out S0_1.out).mono ?_
        rintro e v3 ⟨cs, rfl, ow, c3⟩
        replace B0 := Lib.hid ((c3.block w.heap.size (Array.getElem?_eq_some_iff.1 B0.out).1).trans B0.out)
        replace d := Lib.hid (d.out.trans (c3.mono d.out.size))
        have Z_v3 := Lib.hid (show v2.heap.size ≤ v3.heap.size from c3.size)
        clear c3
        replace ow := tIndex_law.lt ow
        obtain ⟨y3_0, y3_1, K3_0, K3_1, rfl, p3_0, p3_1, w3_0, w3_1, d3_0_1⟩ := tIndex_O ow
        obtain ⟨ya3_0, yc3_0, rfl⟩ := slO_len p3_0
        have P3_0 := Lib.hid p3_0
        have Q3_0 := Lib.hid (fun b h => (show v2.heap.size ≤ b ∧ b < v3.heap.size from w3_0 b h))
        obtain ⟨ya3_1, yc3_1, rfl⟩ := slO_len p3_1
        have P3_1 := Lib.hid p3_1
        have Q3_1 := Lib.hid (fun b h => (show v2.heap.size ≤ b ∧ b < v3.heap.size from w3_1 b h))
        have D3_0_1 := Lib.hid d3_0_1
        clear d3_0_1
        clear p3_0 w3_0 p3_1 w3_1 ow
        go_wp2_with fail
        refine (toRowS_S (.slice c1_0 x1_0.length k1_0) x1_0 v3 (slR_below tRow_law A1_0.out d.out) S1_0.out).mono ?_
        rintro e v4 ⟨y, rfl, o, c4⟩
        replace B0 := Lib.hid ((c4.block w.heap.size (Array.getElem?_eq_some_iff.1 B0.out).1).trans B0.out)
        replace P3_0 := Lib.hid (slO_fresh tQuery_law P3_0.out c4)
        replace P3_1 := Lib.hid (slO_fresh tSpanS_law P3_1.out c4)
        replace d := Lib.hid (d.out.trans (c4.mono d.out.size))
        have Z_v4 := Lib.hid (show v3.heap.size ≤ v4.heap.size from c4.size)
        clear c4
        obtain ⟨ya4, yc4, rfl⟩ := slO_len o
        have P4 := Lib.hid (slO_lt tRow_law o)
        have Q4 := Lib.hid (fun b (h : since v3 b ∧ b < v4.heap.size) => (show v3.heap.size ≤ b ∧ b < v4.heap.size from h))
        clear o
        go_wp2_with fail
        refine (toIntS_S (.slice c2_0 x2_0.length k2_0) x2_0 v4 (slR_below tInt_law A2_0.out d.out) S2_0.out).mono ?_
        rintro e v5 ⟨y, rfl, o, c5⟩
        replace B0 := Lib.hid ((c5.block w.heap.size (Array.getElem?_eq_some_iff.1 B0.out).1).trans B0.out)
        replace P3_0 := Lib.hid (slO_fresh tQuery_law P3_0.out c5)
        replace P3_1 := Lib.hid (slO_fresh tSpanS_law P3_1.out c5)
        replace P4 := Lib.hid (slO_fresh tRow_law P4.out c5)
        replace d := Lib.hid (d.out.trans (c5.mono d.out.size))
        have Z_v5 := Lib.hid (show v4.heap.size ≤ v5.heap.size from c5.size)
        clear c5
        obtain ⟨ya5, yc5, rfl⟩ := slO_len o
        have P5 := Lib.hid (slO_lt tInt_law o)
        have Q5 := Lib.hid (fun b (h : since v4 b ∧ b < v5.heap.size) => (show v4.heap.size ≤ b ∧ b < v5.heap.size from h))
        clear o
        go_wp2_with fail
        refine (HSP.out (.slice ya3_0 x0_0.length yc3_0) (.slice ya3_1 x0_1.length yc3_1) (.slice ya4 x1_0.length yc4) (.slice ya5 x2_0.length yc5) v5 (slO_reads tQuery_law P3_0.out) (slO_reads tSpanS_law P3_1.out) (slO_reads tRow_law P4.out) (slO_reads tInt_law P5.out) HT.out HL2.out).mono ?_
        rintro e v6 ⟨rfl, c6⟩
        replace B0 := Lib.hid ((c6.block w.heap.size (Array.getElem?_eq_some_iff.1 B0.out).1).trans B0.out)
        replace P3_0 := Lib.hid (slO_fresh tQuery_law P3_0.out c6)
        replace P3_1 := Lib.hid (slO_fresh tSpanS_law P3_1.out c6)
        replace P4 := Lib.hid (slO_fresh tRow_law P4.out c6)
        replace P5 := Lib.hid (slO_fresh tInt_law P5.out c6)
        replace d := Lib.hid (d.out.trans (c6.mono d.out.size))
        have Z_v6 := Lib.hid (show v5.heap.size ≤ v6.heap.size from c6.size)
        clear c6
        have p_B0_0 := (cell_of_row v6 _ 0 _ _ _ B0.out).trans (show _ = some (Value.slice c0_0 x0_0.length k0_0) from rfl)
        have p_B0_1 := (cell_of_row v6 _ 1 _ _ _ B0.out).trans (show _ = some (Value.slice c0_1 x0_1.length k0_1) from rfl)
        go_wp2_with fail
        clear p_B0_0 p_B0_1
        refine (toIndex_T (.slice c0_0 x0_0.length k0_0) (.slice c0_1 x0_1.length k0_1) x0_0 x0_1 v6 (slR_below tQuery_law A0_0.out d.out) (slR_below tSpanS_law A0_1.out d.out) S0_0.out S0_1.out).mono ?_
        rintro e v7 ⟨cs, rfl, ow, c7⟩
        replace B0 := Lib.hid ((c7.block w.heap.size (Array.getElem?_eq_some_iff.1 B0.out).1).trans B0.out)
        replace P3_0 := Lib.hid (slO_fresh tQuery_law P3_0.out c7)
        replace P3_1 := Lib.hid (slO_fresh tSpanS_law P3_1.out c7)
        replace P4 := Lib.hid (slO_fresh tRow_law P4.out c7)
        replace P5 := Lib.hid (slO_fresh tInt_law P5.out c7)
        replace d := Lib.hid (d.out.trans (c7.mono d.out.size))
        have Z_v7 := Lib.hid (show v6.heap.size ≤ v7.heap.size from c7.size)
        clear c7
        replace ow := tIndex_law.lt ow
        obtain ⟨y7_0, y7_1, K7_0, K7_1, rfl, p7_0, p7_1, w7_0, w7_1, d7_0_1⟩ := tIndex_O ow
        obtain ⟨ya7_0, yc7_0, rfl⟩ := slO_len p7_0
        have P7_0 := Lib.hid p7_0
        have Q7_0 := Lib.hid (fun b h => (show v6.heap.size ≤ b ∧ b < v7.heap.size from w7_0 b h))
        obtain ⟨ya7_1, yc7_1, rfl⟩ := slO_len p7_1
        have P7_1 := Lib.hid p7_1
        have Q7_1 := Lib.hid (fun b h => (show v6.heap.size ≤ b ∧ b < v7.heap.size from w7_1 b h))
        have D7_0_1 := Lib.hid d7_0_1
        clear d7_0_1
        clear p7_0 w7_0 p7_1 w7_1 ow
        have hal : Below v7.heap.size v7 (v7.alloc (.cells #[.slice ya7_0 x0_0.length yc7_0, .slice ya7_1 x0_1.length yc7_1] 27)) := (Below.refl _ _).alloc (Nat.le_refl _) _
        have X1 := Lib.hid (heap_alloc_new v7 (.cells #[.slice ya7_0 x0_0.length yc7_0, .slice ya7_1 x0_1.length yc7_1] 27))
        have Y_X1 := Lib.hid (show v7.heap.size < (v7.alloc (.cells #[.slice ya7_0 x0_0.length yc7_0, .slice ya7_1 x0_1.length yc7_1] 27)).heap.size by simp [World.size_alloc])
        replace B0 := Lib.hid ((hal.block w.heap.size (Array.getElem?_eq_some_iff.1 B0.out).1).trans B0.out)
        replace P3_0 := Lib.hid (slO_fresh tQuery_law P3_0.out hal)
        replace P3_1 := Lib.hid (slO_fresh tSpanS_law P3_1.out hal)
        replace P4 := Lib.hid (slO_fresh tRow_law P4.out hal)
        replace P5 := Lib.hid (slO_fresh tInt_law P5.out hal)
        replace P7_0 := Lib.hid (slO_fresh tQuery_law P7_0.out hal)
        replace P7_1 := Lib.hid (slO_fresh tSpanS_law P7_1.out hal)
        replace d := Lib.hid (d.out.trans (hal.mono d.out.size))
        clear hal
        go_wp2_with fail
        generalize (v7.alloc (.cells #[.slice ya7_0 x0_0.length yc7_0, .slice ya7_1 x0_1.length yc7_1] 27)) = u8 at *
        refine (toRowS_S (.slice c1_0 x1_0.length k1_0) x1_0 u8 (slR_below tRow_law A1_0.out d.out) S1_0.out).mono ?_
        rintro e v9 ⟨y, rfl, o, c9⟩
        replace B0 := Lib.hid ((c9.block w.heap.size (Array.getElem?_eq_some_iff.1 B0.out).1).trans B0.out)
        replace X1 := Lib.hid ((c9.block v7.heap.size (Array.getElem?_eq_some_iff.1 X1.out).1).trans X1.out)
        replace P3_0 := Lib.hid (slO_fresh tQuery_law P3_0.out c9)
        replace P3_1 := Lib.hid (slO_fresh tSpanS_law P3_1.out c9)
        replace P4 := Lib.hid (slO_fresh tRow_law P4.out c9)
        replace P5 := Lib.hid (slO_fresh tInt_law P5.out c9)
        replace P7_0 := Lib.hid (slO_fresh tQuery_law P7_0.out c9)
        replace P7_1 := Lib.hid (slO_fresh tSpanS_law P7_1.out c9)
        replace d := Lib.hid (d.out.trans (c9.mono d.out.size))
        have Z_v9 := Lib.hid (show u8.heap.size ≤ v9.heap.size from c9.size)
        clear c9
        obtain ⟨ya9, yc9, rfl⟩ := slO_len o
        have P9 := Lib.hid (slO_lt tRow_law o)
        have Q9 := Lib.hid (fun b (h : since u8 b ∧ b < v9.heap.size) => (show u8.heap.size ≤ b ∧ b < v9.heap.size from h))
        clear o
        go_wp2_with fail
        refine (toIntS_S (.slice c2_0 x2_0.length k2_0) x2_0 v9 (slR_below tInt_law A2_0.out d.out) S2_0.out).mono ?_
        rintro e v10 ⟨y, rfl, o, c10⟩
        replace B0 := Lib.hid ((c10.block w.heap.size (Array.getElem?_eq_some_iff.1 B0.out).1).trans B0.out)
        replace X1 := Lib.hid ((c10.block v7.heap.size (Array.getElem?_eq_some_iff.1 X1.out).1).trans X1.out)
        replace P3_0 := Lib.hid (slO_fresh tQuery_law P3_0.out c10)
        replace P3_1 := Lib.hid (slO_fresh tSpanS_law P3_1.out c10)
        replace P4 := Lib.hid (slO_fresh tRow_law P4.out c10)
        replace P5 := Lib.hid (slO_fresh tInt_law P5.out c10)
        replace P7_0 := Lib.hid (slO_fresh tQuery_law P7_0.out c10)
        replace P7_1 := Lib.hid (slO_fresh tSpanS_law P7_1.out c10)
        replace P9 := Lib.hid (slO_fresh tRow_law P9.out c10)
        replace d := Lib.hid (d.out.trans (c10.mono d.out.size))
        have Z_v10 := Lib.hid (show v9.heap.size ≤ v10.heap.size from c10.size)
        clear c10
        obtain ⟨ya10, yc10, rfl⟩ := slO_len o
        have P10 := Lib.hid (slO_lt tInt_law o)
        have Q10 := Lib.hid (fun b (h : since v9 b ∧ b < v10.heap.size) => (show v9.heap.size ≤ b ∧ b < v10.heap.size from h))
        clear o
        have p_X1_0 := (cell_of_row v10 _ 0 _ _ _ X1.out).trans (show _ = some (Value.slice ya7_0 x0_0.length yc7_0) from rfl)
        have p_X1_1 := (cell_of_row v10 _ 1 _ _ _ X1.out).trans (show _ = some (Value.slice ya7_1 x0_1.length yc7_1) from rfl)
        go_wp2_with fail
        clear p_X1_0 p_X1_1
        refine (HIM.out (.slice ya7_0 x0_0.length yc7_0) (.slice ya7_1 x0_1.length yc7_1) (.slice ya9 x1_0.length yc9) (.slice ya10 x2_0.length yc10) v10 (HB0.out.trans (d.out.mono HB0.out.size)) (slO_reads tQuery_law P7_0.out) (slO_reads tSpanS_law P7_1.out) (slO_reads tRow_law P9.out) (slO_reads tInt_law P10.out) HT.out HL2.out).mono ?_
        rintro e v11 ⟨rfl, c11⟩
        replace B0 := Lib.hid ((c11.block w.heap.size (Array.getElem?_eq_some_iff.1 B0.out).1).trans B0.out)
        replace X1 := Lib.hid ((c11.block v7.heap.size (Array.getElem?_eq_some_iff.1 X1.out).1).trans X1.out)
        replace P3_0 := Lib.hid (slO_fresh tQuery_law P3_0.out c11)
        replace P3_1 := Lib.hid (slO_fresh tSpanS_law P3_1.out c11)
        replace P4 := Lib.hid (slO_fresh tRow_law P4.out c11)
        replace P5 := Lib.hid (slO_fresh tInt_law P5.out c11)
        replace P7_0 := Lib.hid (slO_fresh tQuery_law P7_0.out c11)
        replace P7_1 := Lib.hid (slO_fresh tSpanS_law P7_1.out c11)
        replace P9 := Lib.hid (slO_fresh tRow_law P9.out c11)
        replace P10 := Lib.hid (slO_fresh tInt_law P10.out c11)
        replace d := Lib.hid (d.out.trans (c11.mono d.out.size))
        have Z_v11 := Lib.hid (show v10.heap.size ≤ v11.heap.size from c11.size)
        clear c11
        go_wp2
        have p_B0_0 := (cell_of_row v11 _ 0 _ _ _ B0.out).trans (show _ = some (Value.slice c0_0 x0_0.length k0_0) from rfl)
        have p_B0_1 := (cell_of_row v11 _ 1 _ _ _ B0.out).trans (show _ = some (Value.slice c0_1 x0_1.length k0_1) from rfl)
        have p_X1_0 := (cell_of_row v11 _ 0 _ _ _ X1.out).trans (show _ = some (Value.slice ya7_0 x0_0.length yc7_0) from rfl)
        have p_X1_1 := (cell_of_row v11 _ 1 _ _ _ X1.out).trans (show _ = some (Value.slice ya7_1 x0_1.length yc7_1) from rfl)
        refine wp_region_held_drew (S := fun w' => w'.cell? ⟨w.heap.size, 0, none⟩ = some (Value.slice c0_0 x0_0.length k0_0) ∧ w'.cell? ⟨w.heap.size, 1, none⟩ = some (Value.slice c0_1 x0_1.length k0_1) ∧ w'.cell? ⟨v7.heap.size, 0, none⟩ = some (Value.slice ya7_0 x0_0.length yc7_0) ∧ w'.cell? ⟨v7.heap.size, 1, none⟩ = some (Value.slice ya7_1 x0_1.length yc7_1)) (by kernel_rfl) ⟨p_B0_0, p_B0_1, p_X1_0, p_X1_1⟩ (fun hHeld => ?_)
        clear p_B0_0 p_B0_1 p_X1_0 p_X1_1
        have cd12 : Below v11.heap.size v11 v11.drew := below_drew (Below.refl _ _)
        replace B0 := Lib.hid ((cd12.block w.heap.size (Array.getElem?_eq_some_iff.1 B0.out).1).trans B0.out)
        replace X1 := Lib.hid ((cd12.block v7.heap.size (Array.getElem?_eq_some_iff.1 X1.out).1).trans X1.out)
        replace P3_0 := Lib.hid (slO_fresh tQuery_law P3_0.out cd12)
        replace P3_1 := Lib.hid (slO_fresh tSpanS_law P3_1.out cd12)
        replace P4 := Lib.hid (slO_fresh tRow_law P4.out cd12)
        replace P5 := Lib.hid (slO_fresh tInt_law P5.out cd12)
        replace P7_0 := Lib.hid (slO_fresh tQuery_law P7_0.out cd12)
        replace P7_1 := Lib.hid (slO_fresh tSpanS_law P7_1.out cd12)
        replace P9 := Lib.hid (slO_fresh tRow_law P9.out cd12)
        replace P10 := Lib.hid (slO_fresh tInt_law P10.out cd12)
        replace d := Lib.hid (d.out.trans (cd12.mono d.out.size))
        clear cd12
        refine take_runs (i := 0) (v := ?_) (by simp only [List.getElem?_toArray, List.getElem?_cons_succ, List.getElem?_cons_zero]; rfl) (by kernel_rfl) (by kernel_rfl) (by kernel_rfl) rfl (by exact fun _ _ _ h => h) (by rfl) ?_ (by assumption) ?_
        rotate_left
        · intro w hSw; (try dsimp only at hSw); go_simp; try (with_reducible rfl)
        try simp only [Act.put, List.setIfInBounds_toArray, List.set_cons_zero, List.set_cons_succ]
        refine take_runs (i := 1) (v := ?_) (by simp only [List.getElem?_toArray, List.getElem?_cons_succ, List.getElem?_cons_zero]; rfl) (by kernel_rfl) (by kernel_rfl) (by kernel_rfl) rfl (by exact fun _ _ _ h => h) (by rfl) ?_ (by assumption) ?_
        rotate_left
        · intro w hSw; (try dsimp only at hSw); go_simp; try (with_reducible rfl)
        try simp only [Act.put, List.setIfInBounds_toArray, List.set_cons_zero, List.set_cons_succ]
        refine wpAnyH_ready (rs := [2]) (by kernel_rfl) (by simp) ?_
        refine AllReadyH.cons (o := _) (by simp only [List.getElem?_toArray, List.getElem?_cons_succ, List.getElem?_cons_zero]; rfl) (fun K hK => ?_) AllReadyH.nil
        go_simp
        refine (toIndex_T (.slice c0_0 x0_0.length k0_0) (.slice c0_1 x0_1.length k0_1) x0_0 x0_1 (v11.drew) (slR_below tQuery_law A0_0.out d.out) (slR_below tSpanS_law A0_1.out d.out) S0_0.out S0_1.out).mono ?_
        rintro e v13 ⟨cs, rfl, ow, c13⟩
        replace B0 := Lib.hid ((c13.block w.heap.size (Array.getElem?_eq_some_iff.1 B0.out).1).trans B0.out)
        replace X1 := Lib.hid ((c13.block v7.heap.size (Array.getElem?_eq_some_iff.1 X1.out).1).trans X1.out)
        replace P3_0 := Lib.hid (slO_fresh tQuery_law P3_0.out c13)
        replace P3_1 := Lib.hid (slO_fresh tSpanS_law P3_1.out c13)
        replace P4 := Lib.hid (slO_fresh tRow_law P4.out c13)
        replace P5 := Lib.hid (slO_fresh tInt_law P5.out c13)
        replace P7_0 := Lib.hid (slO_fresh tQuery_law P7_0.out c13)
        replace P7_1 := Lib.hid (slO_fresh tSpanS_law P7_1.out c13)
        replace P9 := Lib.hid (slO_fresh tRow_law P9.out c13)
        replace P10 := Lib.hid (slO_fresh tInt_law P10.out c13)
        replace d := Lib.hid (d.out.trans (c13.mono d.out.size))
        have Z_v13 := Lib.hid (show v11.heap.size ≤ v13.heap.size from c13.size)
        clear c13
        replace ow := tIndex_law.lt ow
        obtain ⟨y13_0, y13_1, K13_0, K13_1, rfl, p13_0, p13_1, w13_0, w13_1, d13_0_1⟩ := tIndex_O ow
        obtain ⟨ya13_0, yc13_0, rfl⟩ := slO_len p13_0
        have P13_0 := Lib.hid p13_0
        have Q13_0 := Lib.hid (fun b h => (show (v11.drew).heap.size ≤ b ∧ b < v13.heap.size from w13_0 b h))
        obtain ⟨ya13_1, yc13_1, rfl⟩ := slO_len p13_1
        have P13_1 := Lib.hid p13_1
        have Q13_1 := Lib.hid (fun b h => (show (v11.drew).heap.size ≤ b ∧ b < v13.heap.size from w13_1 b h))
        have D13_0_1 := Lib.hid d13_0_1
        clear d13_0_1
        clear p13_0 w13_0 p13_1 w13_1 ow
        have p_B0_0 := (cell_of_row v13 _ 0 _ _ _ B0.out).trans (show _ = some (Value.slice c0_0 x0_0.length k0_0) from rfl)
        have p_B0_1 := (cell_of_row v13 _ 1 _ _ _ B0.out).trans (show _ = some (Value.slice c0_1 x0_1.length k0_1) from rfl)
        have p_X1_0 := (cell_of_row v13 _ 0 _ _ _ X1.out).trans (show _ = some (Value.slice ya7_0 x0_0.length yc7_0) from rfl)
        have p_X1_1 := (cell_of_row v13 _ 1 _ _ _ X1.out).trans (show _ = some (Value.slice ya7_1 x0_1.length yc7_1) from rfl)
        refine hK.out _ _ ⟨p_B0_0, p_B0_1, p_X1_0, p_X1_1⟩ (fun hHeld => ?_)
        clear p_B0_0 p_B0_1 p_X1_0 p_X1_1
        clear hK K
        try simp only [Act.put, List.setIfInBounds_toArray, List.set_cons_zero, List.set_cons_succ]
        refine wpAnyH_ready (rs := [3]) (by kernel_rfl) (by simp) ?_
        refine AllReadyH.cons (o := _) (by simp only [List.getElem?_toArray, List.getElem?_cons_succ, List.getElem?_cons_zero]; rfl) (fun K hK => ?_) AllReadyH.nil
        go_simp
        refine (eqIndex_T (.slice ya7_0 x0_0.length yc7_0) (.slice ya7_1 x0_1.length yc7_1) x0_0 x0_1 (.slice ya13_0 x0_0.length yc13_0) (.slice ya13_1 x0_1.length yc13_1) v13 (slO_reads tQuery_law P7_0.out) (slO_reads tSpanS_law P7_1.out) (slO_reads tQuery_law P13_0.out) (slO_reads tSpanS_law P13_1.out) S0_0.out S0_1.out).mono ?_
        rintro e v14 ⟨rfl, c14⟩
        replace B0 := Lib.hid ((c14.block w.heap.size (Array.getElem?_eq_some_iff.1 B0.out).1).trans B0.out)
        replace X1 := Lib.hid ((c14.block v7.heap.size (Array.getElem?_eq_some_iff.1 X1.out).1).trans X1.out)
        replace P3_0 := Lib.hid (slO_fresh tQuery_law P3_0.out c14)
        replace P3_1 := Lib.hid (slO_fresh tSpanS_law P3_1.out c14)
        replace P4 := Lib.hid (slO_fresh tRow_law P4.out c14)
        replace P5 := Lib.hid (slO_fresh tInt_law P5.out c14)
        replace P7_0 := Lib.hid (slO_fresh tQuery_law P7_0.out c14)
        replace P7_1 := Lib.hid (slO_fresh tSpanS_law P7_1.out c14)
        replace P9 := Lib.hid (slO_fresh tRow_law P9.out c14)
        replace P10 := Lib.hid (slO_fresh tInt_law P10.out c14)
        replace P13_0 := Lib.hid (slO_fresh tQuery_law P13_0.out c14)
        replace P13_1 := Lib.hid (slO_fresh tSpanS_law P13_1.out c14)
        replace d := Lib.hid (d.out.trans (c14.mono d.out.size))
        have Z_v14 := Lib.hid (show v13.heap.size ≤ v14.heap.size from c14.size)
        clear c14
        clear P13_0 P13_1
        have p_B0_0 := (cell_of_row v14 _ 0 _ _ _ B0.out).trans (show _ = some (Value.slice c0_0 x0_0.length k0_0) from rfl)
        have p_B0_1 := (cell_of_row v14 _ 1 _ _ _ B0.out).trans (show _ = some (Value.slice c0_1 x0_1.length k0_1) from rfl)
        have p_X1_0 := (cell_of_row v14 _ 0 _ _ _ X1.out).trans (show _ = some (Value.slice ya7_0 x0_0.length yc7_0) from rfl)
        have p_X1_1 := (cell_of_row v14 _ 1 _ _ _ X1.out).trans (show _ = some (Value.slice ya7_1 x0_1.length yc7_1) from rfl)
        refine hK.out _ _ ⟨p_B0_0, p_B0_1, p_X1_0, p_X1_1⟩ (fun hHeld => ?_)
        clear p_B0_0 p_B0_1 p_X1_0 p_X1_1
        clear hK K
        try simp only [Act.put, List.setIfInBounds_toArray, List.set_cons_zero, List.set_cons_succ]
        refine take_runs (i := 4) (v := ?_) (by simp only [List.getElem?_toArray, List.getElem?_cons_succ, List.getElem?_cons_zero]; rfl) (by kernel_rfl) (by kernel_rfl) (by kernel_rfl) rfl (by exact fun _ _ _ h => h) (by rfl) ?_ (by assumption) ?_
        rotate_left
        · intro w hSw; (try dsimp only at hSw); go_simp; try (with_reducible rfl)
        try simp only [Act.put, List.setIfInBounds_toArray, List.set_cons_zero, List.set_cons_succ]
        refine wpAnyH_done (by kernel_rfl) ?_ _
        clear hHeld
        go_wp2_with fail
        refine (toRowS_S (.slice c1_0 x1_0.length k1_0) x1_0 v14 (slR_below tRow_law A1_0.out d.out) S1_0.out).mono ?_
        rintro e v15 ⟨y, rfl, o, c15⟩
        replace B0 := Lib.hid ((c15.block w.heap.size (Array.getElem?_eq_some_iff.1 B0.out).1).trans B0.out)
        replace X1 := Lib.hid ((c15.block v7.heap.size (Array.getElem?_eq_some_iff.1 X1.out).1).trans X1.out)
        replace P3_0 := Lib.hid (slO_fresh tQuery_law P3_0.out c15)
        replace P3_1 := Lib.hid (slO_fresh tSpanS_law P3_1.out c15)
        replace P4 := Lib.hid (slO_fresh tRow_law P4.out c15)
        replace P5 := Lib.hid (slO_fresh tInt_law P5.out c15)
        replace P7_0 := Lib.hid (slO_fresh tQuery_law P7_0.out c15)
        replace P7_1 := Lib.hid (slO_fresh tSpanS_law P7_1.out c15)
        replace P9 := Lib.hid (slO_fresh tRow_law P9.out c15)
        replace P10 := Lib.hid (slO_fresh tInt_law P10.out c15)
        replace d := Lib.hid (d.out.trans (c15.mono d.out.size))
        have Z_v15 := Lib.hid (show v14.heap.size ≤ v15.heap.size from c15.size)
        clear c15
        obtain ⟨ya15, yc15, rfl⟩ := slO_len o
        have P15 := Lib.hid (slO_lt tRow_law o)
        have Q15 := Lib.hid (fun b (h : since v14 b ∧ b < v15.heap.size) => (show v14.heap.size ≤ b ∧ b < v15.heap.size from h))
        clear o
        go_wp2_with fail
        refine (eqRowS_S (.slice ya9 x1_0.length yc9) (.slice ya15 x1_0.length yc15) x1_0 v15 (slO_reads tRow_law P9.out) (slO_reads tRow_law P15.out) S1_0.out).mono ?_
        rintro e v16 ⟨rfl, c16⟩
        replace B0 := Lib.hid ((c16.block w.heap.size (Array.getElem?_eq_some_iff.1 B0.out).1).trans B0.out)
        replace X1 := Lib.hid ((c16.block v7.heap.size (Array.getElem?_eq_some_iff.1 X1.out).1).trans X1.out)
        replace P3_0 := Lib.hid (slO_fresh tQuery_law P3_0.out c16)
        replace P3_1 := Lib.hid (slO_fresh tSpanS_law P3_1.out c16)
        replace P4 := Lib.hid (slO_fresh tRow_law P4.out c16)
        replace P5 := Lib.hid (slO_fresh tInt_law P5.out c16)
        replace P7_0 := Lib.hid (slO_fresh tQuery_law P7_0.out c16)
        replace P7_1 := Lib.hid (slO_fresh tSpanS_law P7_1.out c16)
        replace P9 := Lib.hid (slO_fresh tRow_law P9.out c16)
        replace P10 := Lib.hid (slO_fresh tInt_law P10.out c16)
        replace P15 := Lib.hid (slO_fresh tRow_law P15.out c16)
        replace d := Lib.hid (d.out.trans (c16.mono d.out.size))
        have Z_v16 := Lib.hid (show v15.heap.size ≤ v16.heap.size from c16.size)
        clear c16
        clear P15
        go_wp2_with fail
        refine (toIntS_S (.slice c2_0 x2_0.length k2_0) x2_0 v16 (slR_below tInt_law A2_0.out d.out) S2_0.out).mono ?_
        rintro e v17 ⟨y, rfl, o, c17⟩
        replace B0 := Lib.hid ((c17.block w.heap.size (Array.getElem?_eq_some_iff.1 B0.out).1).trans B0.out)
        replace X1 := Lib.hid ((c17.block v7.heap.size (Array.getElem?_eq_some_iff.1 X1.out).1).trans X1.out)
        replace P3_0 := Lib.hid (slO_fresh tQuery_law P3_0.out c17)
        replace P3_1 := Lib.hid (slO_fresh tSpanS_law P3_1.out c17)
        replace P4 := Lib.hid (slO_fresh tRow_law P4.out c17)
        replace P5 := Lib.hid (slO_fresh tInt_law P5.out c17)
        replace P7_0 := Lib.hid (slO_fresh tQuery_law P7_0.out c17)
        replace P7_1 := Lib.hid (slO_fresh tSpanS_law P7_1.out c17)
        replace P9 := Lib.hid (slO_fresh tRow_law P9.out c17)
        replace P10 := Lib.hid (slO_fresh tInt_law P10.out c17)
        replace d := Lib.hid (d.out.trans (c17.mono d.out.size))
        have Z_v17 := Lib.hid (show v16.heap.size ≤ v17.heap.size from c17.size)
        clear c17
        obtain ⟨ya17, yc17, rfl⟩ := slO_len o
        have P17 := Lib.hid (slO_lt tInt_law o)
        have Q17 := Lib.hid (fun b (h : since v16 b ∧ b < v17.heap.size) => (show v16.heap.size ≤ b ∧ b < v17.heap.size from h))
        clear o
        go_wp2_with fail
        refine (eqIntS_S (.slice ya10 x2_0.length yc10) (.slice ya17 x2_0.length yc17) x2_0 v17 (slO_reads tInt_law P10.out) (slO_reads tInt_law P17.out) S2_0.out).mono ?_
        rintro e v18 ⟨rfl, c18⟩
        replace B0 := Lib.hid ((c18.block w.heap.size (Array.getElem?_eq_some_iff.1 B0.out).1).trans B0.out)
        replace X1 := Lib.hid ((c18.block v7.heap.size (Array.getElem?_eq_some_iff.1 X1.out).1).trans X1.out)
        replace P3_0 := Lib.hid (slO_fresh tQuery_law P3_0.out c18)
        replace P3_1 := Lib.hid (slO_fresh tSpanS_law P3_1.out c18)
        replace P4 := Lib.hid (slO_fresh tRow_law P4.out c18)
        replace P5 := Lib.hid (slO_fresh tInt_law P5.out c18)
        replace P7_0 := Lib.hid (slO_fresh tQuery_law P7_0.out c18)
        replace P7_1 := Lib.hid (slO_fresh tSpanS_law P7_1.out c18)
        replace P9 := Lib.hid (slO_fresh tRow_law P9.out c18)
        replace P10 := Lib.hid (slO_fresh tInt_law P10.out c18)
        replace P17 := Lib.hid (slO_fresh tInt_law P17.out c18)
        replace d := Lib.hid (d.out.trans (c18.mono d.out.size))
        have Z_v18 := Lib.hid (show v17.heap.size ≤ v18.heap.size from c18.size)
        clear c18
        clear P17
        go_wp2
        go_ret
        exact ⟨rfl, HB0.out.trans (d.out.mono HB0.out.size)⟩
      ·
        have HZ0 : Hid (((zL tQuery x0_0 + zL tSpanS x0_1 : Nat) : Int) ≤ (1048576 : Int)) := Lib.hid c1
        have HK0 : Hid ((1048576 : Int) ≤ 1048576) := Lib.hid (by omega)
        have hn0 : ¬ (1048576 : Int) - ((zL tQuery x0_0 + zL tSpanS x0_1 : Nat) : Int) < 0 := by omega
        have hl2 : ¬ (1048576 : Int) < (x2_0.length : Int) := by omega
        have HL2 := Lib.hid c0
        have HZ1 : Hid ((1048576 : Int) - ((zL tQuery x0_0 + zL tSpanS x0_1 : Nat) : Int) < ((zL tRow x1_0 : Nat) : Int)) := Lib.hid (by omega)
        have HP1 : Hid (0 ≤ (1048576 : Int) - ((zL tQuery x0_0 + zL tSpanS x0_1 : Nat) : Int)) := Lib.hid (by omega)
        have HK1 : Hid ((1048576 : Int) - ((zL tQuery x0_0 + zL tSpanS x0_1 : Nat) : Int) ≤ 1048576) := Lib.hid (by omega)
        clear c2
        go_enter Tryd.func6, Tryd.ntmps6
        go_wp2_with fail
        have Y_W : Hid (w.heap.size + 1 ≤ (w.alloc (.cells #[.slice c0_0 x0_0.length k0_0, .slice c0_1 x0_1.length k0_1] 56)).heap.size) := Lib.hid (by simp [World.size_alloc])
        generalize (w.alloc (.cells #[.slice c0_0 x0_0.length k0_0, .slice c0_1 x0_1.length k0_1] 56)) = W at *
        have d := Lib.hid (Below.refl W.heap.size W)
        refine (szIndex_Y (.slice c0_0 x0_0.length k0_0) (.slice c0_1 x0_1.length k0_1) x0_0 x0_1 ((1048576 : Int)) W (slR_below tQuery_law A0_0.out d.out) (slR_below tSpanS_law A0_1.out d.out) HZ0.out HK0.out).mono ?_
        rintro e v1 ⟨rfl, c1⟩
        replace B0 := Lib.hid ((c1.block w.heap.size (Array.getElem?_eq_some_iff.1 B0.out).1).trans B0.out)
        replace d := Lib.hid (d.out.trans (c1.mono d.out.size))
        have Z_v1 := Lib.hid (show W.heap.size ≤ v1.heap.size from c1.size)
        clear c1
        go_wp2_with fail
        refine (szRowS_N (.slice c1_0 x1_0.length k1_0) x1_0 ((1048576 : Int) - ((zL tQuery x0_0 + zL tSpanS x0_1 : Nat) : Int)) v1 (slR_below tRow_law A1_0.out d.out) HZ1.out HK1.out HP1.out O1_0.out).mono ?_
        rintro e v2 ⟨rfl, c2⟩
        replace B0 := Lib.hid ((c2.block w.heap.size (Array.getElem?_eq_some_iff.1 B0.out).1).trans B0.out)
        replace d := Lib.hid (d.out.trans (c2.mono d.out.size))
        have Z_v2 := Lib.hid (show v1.heap.size ≤ v2.heap.size from c2.size)
        clear c2
        go_wp2
        go_ret
        exact ⟨rfl, HB0.out.trans (d.out.mono HB0.out.size)⟩
    ·
      have hl2 : ¬ (1048576 : Int) < (x2_0.length : Int) := by omega
      have HL2 := Lib.hid c0
      have HZ0 : Hid ((1048576 : Int) < ((zL tQuery x0_0 + zL tSpanS x0_1 : Nat) : Int)) := Lib.hid (by omega)
      have HP0 : Hid (0 ≤ (1048576 : Int)) := Lib.hid (by omega)
      have HK0 : Hid ((1048576 : Int) ≤ 1048576) := Lib.hid (by omega)
      clear c1
      go_enter Tryd.func6, Tryd.ntmps6
      go_wp2_with fail
      have Y_W : Hid (w.heap.size + 1 ≤ (w.alloc (.cells #[.slice c0_0 x0_0.length k0_0, .slice c0_1 x0_1.length k0_1] 56)).heap.size) := Lib.hid (by simp [World.size_alloc])
      generalize (w.alloc (.cells #[.slice c0_0 x0_0.length k0_0, .slice c0_1 x0_1.length k0_1] 56)) = W at *
      have d := Lib.hid (Below.refl W.heap.size W)
      refine (szIndex_N (.slice c0_0 x0_0.length k0_0) (.slice c0_1 x0_1.length k0_1) x0_0 x0_1 ((1048576 : Int)) W (slR_below tQuery_law A0_0.out d.out) (slR_below tSpanS_law A0_1.out d.out) HZ0.out HK0.out HP0.out O0_0.out O0_1.out).mono ?_
      rintro e v1 ⟨rfl, c1⟩
      replace B0 := Lib.hid ((c1.block w.heap.size (Array.getElem?_eq_some_iff.1 B0.out).1).trans B0.out)
      replace d := Lib.hid (d.out.trans (c1.mono d.out.size))
      have Z_v1 := Lib.hid (show W.heap.size ≤ v1.heap.size from c1.size)
      clear c1
      go_wp2
      go_ret
      exact ⟨rfl, HB0.out.trans (d.out.mono HB0.out.size)⟩
  ·
    have hl2 : (1048576 : Int) < (x2_0.length : Int) := by omega
    have hm2 : (x2_0.length : Int) ≤ 9223372036854775807 := O2_0.out.1
    clear c0
    go_enter Tryd.func6, Tryd.ntmps6
    go_wp2
    go_ret
    exact ⟨rfl, HB0.out⟩
end Go.Proofs.YtidhmgboknffkaaDoor
namespace Go.Proofs.YtidhmgboknffkaaDoor
open Go.ChangeShapes Go.WideShapes Go.ChangeAt Go.WideMaps Go.WideElems Go.RowKit
set_option linter.unusedVariables false
theorem laidOutP : laidOutB Tryd.prog = true := by kernel_rfl
theorem recInts : Tryd.prog.readableRec 28 = true := by kernel_rfl
theorem rowInts : 28 < Tryd.prog.types.size := of_decide_eq_true (by kernel_rfl)
set_option maxRecDepth 100000 in
theorem ints_shut {H : Type} {enc : TypeId × Value → H} {W W' : World} {v : Value} {d : DataW H} {ps : List MemPlace} (h : DataW.Trod enc Tryd.prog W 0 (fun _ => true) true 28 v d ps) (hb : Below W.heap.size W W') (hlt : ∀ x ∈ ps, x.block < W.heap.size) :
    DataW.Trod enc Tryd.prog W' 0 (fun b => decide (b < W.heap.size)) true 28 v d ps := Below.trod laidOutP recInts rowInts h hb hlt
end Go.Proofs.YtidhmgboknffkaaDoor
namespace Go.Proofs.YtidhmgboknffkaaDoor
open Go.ChangeShapes Go.WideShapes Go.ChangeAt Go.WideMaps Go.WideElems Go.RowKit
set_option linter.unusedVariables false
/-- Cells that the statement reads as a value of the type t are a datum of the kind T. -/
def Opn {α : Type} (T : Ty α) (t : TypeId) : Prop := ∀ {H : Type} {enc : TypeId × Value → H} {W : World} {held : Bool} {fuel : Nat} {cs : List Value} {x : DataW H × List MemPlace}, DataW.trod enc Tryd.prog W 0 (fun _ => true) held fuel t cs = some x → ∃ d, T.R W cs d ∧ T.ok d
theorem opn_int : Opn tInt 3 := by
  intro H enc W held fuel cs x h
  obtain ⟨a, e, _, _⟩ := DataW.trod_int Tryd.underlying3 h
  exact ⟨a, e, trivial⟩
theorem opn_cast {α : Type} {T : Ty α} {t : TypeId} (O : Opn T t) {H : Type} {enc : TypeId × Value → H} {W : World} {held : Bool} {fuel : Nat} {cs : List Value} {o k : Nat} {x : Option (DataW H × List MemPlace)} (hx : x.isSome) (h : DataW.trod enc Tryd.prog W 0 (fun _ => true) held fuel t ((cs.drop o).take k) = x) :
    ∃ d, T.R W ((cs.drop o).take k) d ∧ T.ok d := by
  cases x with
  | none => cases hx
  | some y => exact O h
set_option maxRecDepth 100000 in
theorem opn_slice {α : Type} {T : Ty α} (A : T.Law) {e t : TypeId} (e' : TypeId) (O : Opn T e) (hu : Tryd.prog.underlying t = some (.slice e)) (hC : Tryd.prog.cellsOf e = T.n) : Opn (tSl e' T) t := by
  intro H enc W held fuel cs x hf
  rcases Go.Deep.open_slice hu hf with ⟨rfl, _⟩ | ⟨a', len', cap', m, n, D, Pl, rfl, _, hl, hm, hmm, _, hx⟩
  · exact ⟨[], ⟨_, rfl, Or.inl ⟨rfl, none, 0, rfl⟩⟩, by simp, fun j hj => by simp at hj⟩
  · rw [if_pos rfl] at hmm
    subst hmm
    unfold maxLen at hm
    rw [hC] at hx
    have hpos := A.pos
    haveI : Inhabited α := ⟨T.d⟩
    obtain ⟨f, hf'⟩ := Go.Deep.choose_lt (α := α × List Value) (n := len') (p := fun i q => (∀ j, j < T.n → W.cell? ((a'.add (i * T.n)).add j) = q.2[j]?) ∧ T.R W q.2 q.1 ∧ T.ok q.1) (fun i hi => by
      obtain ⟨cs', h1, h2⟩ := hx i (by omega)
      obtain ⟨_, hlen, hc⟩ := World.cells?_some h1
      obtain ⟨d, hd, ho⟩ := O h2
      exact ⟨(d, cs'), hc, hd, ho⟩)
    have hat : ∀ j, j < len' → ((List.range len').map fun i => (f i).1).getD j T.d = (f j).1 := fun j hj => by simp [List.getD, hj]
    have hlen : ((List.range len').map fun i => (f i).1).length = len' := by simp
    refine ⟨(List.range len').map fun i => (f i).1, ⟨_, rfl, ?_⟩, by rw [hlen]; omega, fun j hj => by rw [hlen] at hj; rw [hat j hj]; exact (hf' j hj).2.2⟩
    by_cases h0 : len' = 0
    · subst h0
      exact Or.inl ⟨rfl, some a', _, rfl⟩
    · have h1 := (hf' 0 (by omega)).1 0 hpos
      have hcl : 0 < (f 0).2.length := by rw [A.len (hf' 0 (by omega)).2.1]; exact hpos
      rw [List.getElem?_eq_getElem hcl] at h1
      obtain ⟨b, off, spot⟩ := a'
      have hspot : spot = none := by simpa [Addr.add] using World.cell?_spot h1
      subst hspot
      refine Or.inr ⟨b, off, _, fun i => (f i).2, by rw [hlen], by rw [hlen]; exact hl, ?_, ?_⟩
      · have := World.block_lt_of_cell? W _ h1
        simpa [Addr.add] using this
      · intro j hj
        rw [hlen] at hj
        obtain ⟨g1, g2, _⟩ := hf' j hj
        rw [hat j hj]
        refine ⟨fun i hi => ?_, g2⟩
        have := g1 i hi
        rw [Go.WideShapes.add_plain, Go.WideShapes.add_plain] at this
        exact this
theorem opn_ints (e' : TypeId) : Opn (tSl e' tInt) 28 := opn_slice tInt_law e' opn_int Tryd.underlying28 (by kernel_rfl)
set_option maxRecDepth 100000 in
/-- A slice as an argument. -/
theorem slA_open {α : Type} {T : Ty α} {e e' t : TypeId} (O : Opn (tSl e' T) t) (hu : Tryd.prog.underlying t = some (.slice e)) {H : Type} {enc : TypeId × Value → H} {W : World} {r : Reach} {b0 : Nat} {v : Value} {d : DataW H} {p : List MemPlace}
    (hval : Value.okWide Tryd.prog W r b0 t v) (h : DataW.Trod enc Tryd.prog W 0 (fun _ => true) true t v d p) : ∃ xs, SlR T W v xs ∧ (tSl e' T).ok xs := by
  obtain ⟨a, len, cap, rfl⟩ := okWide_slice hu hval
  obtain ⟨fuel, hf⟩ := h
  obtain ⟨xs, ⟨v, e, h⟩, ho⟩ := O hf
  simp [Value.cells] at e
  subst e
  exact ⟨xs, h, ho⟩
set_option maxRecDepth 100000 in
/-- A struct as an argument. -/
theorem stA_open {α : Type} {T : Ty α} {t : TypeId} {fs : Array Field} (O : Opn T t) (hu : Tryd.prog.underlying t = some (.struct fs)) {H : Type} {enc : TypeId × Value → H} {W : World} {r : Reach} {b0 : Nat} {v : Value} {d : DataW H} {p : List MemPlace}
    (hval : Value.okWide Tryd.prog W r b0 t v) (h : DataW.Trod enc Tryd.prog W 0 (fun _ => true) true t v d p) : ∃ cs x, v = .agg cs.toArray ∧ T.R W cs x ∧ T.ok x := by
  obtain ⟨⟨cs⟩, rfl, hsz⟩ := okWide_struct hu hval
  obtain ⟨fuel, hf⟩ := h
  obtain ⟨x, h, ho⟩ := O hf
  exact ⟨cs, x, rfl, h, ho⟩
end Go.Proofs.YtidhmgboknffkaaDoor
namespace Go.Proofs.YtidhmgboknffkaaDoor
open Go.ChangeShapes Go.WideShapes Go.ChangeAt Go.WideMaps Go.WideElems Go.RowKit
set_option linter.unusedVariables false
set_option maxRecDepth 100000 in
theorem opn_Cond : Opn tCond 215 := by
  intro H enc W held fuel cs x h
  obtain ⟨xs, n, _, _, hl, hlen, hf⟩ := DataW.trod_struct Tryd.underlying215 h
  have hl2 : cs.length = 3 := hl.trans (by kernel_rfl)
  have hn : xs.length = 3 := hlen
  have f0 : DataW.trod enc Tryd.prog W 0 (fun _ => true) held n 3 ((cs.drop 0).take (Tryd.prog.cellsOf 3)) = xs[0]? := hf 0 _ rfl
  rw [show Tryd.prog.cellsOf 3 = 1 from by kernel_rfl] at f0
  obtain ⟨d0, r0, o0⟩ := opn_cast (opn_int) (by rw [List.getElem?_eq_getElem (by omega)]; rfl) f0
  have f1 : DataW.trod enc Tryd.prog W 0 (fun _ => true) held n 3 ((cs.drop 1).take (Tryd.prog.cellsOf 3)) = xs[1]? := hf 1 _ rfl
  rw [show Tryd.prog.cellsOf 3 = 1 from by kernel_rfl] at f1
  obtain ⟨d1, r1, o1⟩ := opn_cast (opn_int) (by rw [List.getElem?_eq_getElem (by omega)]; rfl) f1
  have f2 : DataW.trod enc Tryd.prog W 0 (fun _ => true) held n 3 ((cs.drop 2).take (Tryd.prog.cellsOf 3)) = xs[2]? := hf 2 _ rfl
  rw [show Tryd.prog.cellsOf 3 = 1 from by kernel_rfl] at f2
  obtain ⟨d2, r2, o2⟩ := opn_cast (opn_int) (by rw [List.getElem?_eq_getElem (by omega)]; rfl) f2
  exact ⟨(d0, d1, d2), ⟨(cs.drop 0).take 1, cs.drop 1, (List.take_append_drop 1 cs).symm, r0, ⟨(cs.drop 1).take 1, cs.drop 2, (List.take_append_drop 1 (cs.drop 1)).symm.trans (by simp), r1, (by have e := List.take_of_length_le (l := cs.drop 2) (i := 1) (by rw [List.length_drop]; omega); rw [e] at r2; exact r2)⟩⟩, ⟨o0, ⟨o1, o2⟩⟩⟩
end Go.Proofs.YtidhmgboknffkaaDoor
namespace Go.Proofs.YtidhmgboknffkaaDoor
open Go.ChangeShapes Go.WideShapes Go.ChangeAt Go.WideMaps Go.WideElems Go.RowKit
set_option linter.unusedVariables false
theorem opn_CondS : Opn tCondS 172 := opn_slice tCond_law _ opn_Cond Tryd.underlying172 (by kernel_rfl)
end Go.Proofs.YtidhmgboknffkaaDoor
namespace Go.Proofs.YtidhmgboknffkaaDoor
open Go.ChangeShapes Go.WideShapes Go.ChangeAt Go.WideMaps Go.WideElems Go.RowKit
set_option linter.unusedVariables false
set_option maxRecDepth 100000 in
theorem opn_Query : Opn tQuery 174 := by
  intro H enc W held fuel cs x h
  obtain ⟨xs, n, _, _, hl, hlen, hf⟩ := DataW.trod_struct Tryd.underlying174 h
  have hl2 : cs.length = 4 := hl.trans (by kernel_rfl)
  have hn : xs.length = 4 := hlen
  have f0 : DataW.trod enc Tryd.prog W 0 (fun _ => true) held n 3 ((cs.drop 0).take (Tryd.prog.cellsOf 3)) = xs[0]? := hf 0 _ rfl
  rw [show Tryd.prog.cellsOf 3 = 1 from by kernel_rfl] at f0
  obtain ⟨d0, r0, o0⟩ := opn_cast (opn_int) (by rw [List.getElem?_eq_getElem (by omega)]; rfl) f0
  have f1 : DataW.trod enc Tryd.prog W 0 (fun _ => true) held n 3 ((cs.drop 1).take (Tryd.prog.cellsOf 3)) = xs[1]? := hf 1 _ rfl
  rw [show Tryd.prog.cellsOf 3 = 1 from by kernel_rfl] at f1
  obtain ⟨d1, r1, o1⟩ := opn_cast (opn_int) (by rw [List.getElem?_eq_getElem (by omega)]; rfl) f1
  have f2 : DataW.trod enc Tryd.prog W 0 (fun _ => true) held n 172 ((cs.drop 2).take (Tryd.prog.cellsOf 172)) = xs[2]? := hf 2 _ rfl
  rw [show Tryd.prog.cellsOf 172 = 1 from by kernel_rfl] at f2
  obtain ⟨d2, r2, o2⟩ := opn_cast (opn_CondS) (by rw [List.getElem?_eq_getElem (by omega)]; rfl) f2
  have f3 : DataW.trod enc Tryd.prog W 0 (fun _ => true) held n 28 ((cs.drop 3).take (Tryd.prog.cellsOf 28)) = xs[3]? := hf 3 _ rfl
  rw [show Tryd.prog.cellsOf 28 = 1 from by kernel_rfl] at f3
  obtain ⟨d3, r3, o3⟩ := opn_cast (opn_ints 3) (by rw [List.getElem?_eq_getElem (by omega)]; rfl) f3
  exact ⟨(d0, d1, d2, d3), ⟨(cs.drop 0).take 1, cs.drop 1, (List.take_append_drop 1 cs).symm, r0, ⟨(cs.drop 1).take 1, cs.drop 2, (List.take_append_drop 1 (cs.drop 1)).symm.trans (by simp), r1, ⟨(cs.drop 2).take 1, cs.drop 3, (List.take_append_drop 1 (cs.drop 2)).symm.trans (by simp), r2, (by have e := List.take_of_length_le (l := cs.drop 3) (i := 1) (by rw [List.length_drop]; omega); rw [e] at r3; exact r3)⟩⟩⟩, ⟨o0, ⟨o1, ⟨o2, o3⟩⟩⟩⟩
end Go.Proofs.YtidhmgboknffkaaDoor
namespace Go.Proofs.YtidhmgboknffkaaDoor
open Go.ChangeShapes Go.WideShapes Go.ChangeAt Go.WideMaps Go.WideElems Go.RowKit
set_option linter.unusedVariables false
theorem opn_QueryS : Opn tQueryS 53 := opn_slice tQuery_law _ opn_Query Tryd.underlying53 (by kernel_rfl)
end Go.Proofs.YtidhmgboknffkaaDoor
namespace Go.Proofs.YtidhmgboknffkaaDoor
open Go.ChangeShapes Go.WideShapes Go.ChangeAt Go.WideMaps Go.WideElems Go.RowKit
set_option linter.unusedVariables false
set_option maxRecDepth 100000 in
theorem opn_Span : Opn tSpan 205 := by
  intro H enc W held fuel cs x h
  obtain ⟨xs, n, _, _, hl, hlen, hf⟩ := DataW.trod_struct Tryd.underlying205 h
  have hl2 : cs.length = 3 := hl.trans (by kernel_rfl)
  have hn : xs.length = 3 := hlen
  have f0 : DataW.trod enc Tryd.prog W 0 (fun _ => true) held n 3 ((cs.drop 0).take (Tryd.prog.cellsOf 3)) = xs[0]? := hf 0 _ rfl
  rw [show Tryd.prog.cellsOf 3 = 1 from by kernel_rfl] at f0
  obtain ⟨d0, r0, o0⟩ := opn_cast (opn_int) (by rw [List.getElem?_eq_getElem (by omega)]; rfl) f0
  have f1 : DataW.trod enc Tryd.prog W 0 (fun _ => true) held n 3 ((cs.drop 1).take (Tryd.prog.cellsOf 3)) = xs[1]? := hf 1 _ rfl
  rw [show Tryd.prog.cellsOf 3 = 1 from by kernel_rfl] at f1
  obtain ⟨d1, r1, o1⟩ := opn_cast (opn_int) (by rw [List.getElem?_eq_getElem (by omega)]; rfl) f1
  have f2 : DataW.trod enc Tryd.prog W 0 (fun _ => true) held n 28 ((cs.drop 2).take (Tryd.prog.cellsOf 28)) = xs[2]? := hf 2 _ rfl
  rw [show Tryd.prog.cellsOf 28 = 1 from by kernel_rfl] at f2
  obtain ⟨d2, r2, o2⟩ := opn_cast (opn_ints 3) (by rw [List.getElem?_eq_getElem (by omega)]; rfl) f2
  exact ⟨(d0, d1, d2), ⟨(cs.drop 0).take 1, cs.drop 1, (List.take_append_drop 1 cs).symm, r0, ⟨(cs.drop 1).take 1, cs.drop 2, (List.take_append_drop 1 (cs.drop 1)).symm.trans (by simp), r1, (by have e := List.take_of_length_le (l := cs.drop 2) (i := 1) (by rw [List.length_drop]; omega); rw [e] at r2; exact r2)⟩⟩, ⟨o0, ⟨o1, o2⟩⟩⟩
end Go.Proofs.YtidhmgboknffkaaDoor
namespace Go.Proofs.YtidhmgboknffkaaDoor
open Go.ChangeShapes Go.WideShapes Go.ChangeAt Go.WideMaps Go.WideElems Go.RowKit
set_option linter.unusedVariables false
theorem opn_SpanS : Opn tSpanS 176 := opn_slice tSpan_law _ opn_Span Tryd.underlying176 (by kernel_rfl)
end Go.Proofs.YtidhmgboknffkaaDoor
namespace Go.Proofs.YtidhmgboknffkaaDoor
open Go.ChangeShapes Go.WideShapes Go.ChangeAt Go.WideMaps Go.WideElems Go.RowKit
set_option linter.unusedVariables false
theorem opn_SpanSS : Opn tSpanSS 54 := opn_slice tSpanS_law _ opn_SpanS Tryd.underlying54 (by kernel_rfl)
end Go.Proofs.YtidhmgboknffkaaDoor
namespace Go.Proofs.YtidhmgboknffkaaDoor
open Go.ChangeShapes Go.WideShapes Go.ChangeAt Go.WideMaps Go.WideElems Go.RowKit
set_option linter.unusedVariables false
theorem recT_Index : Tryd.prog.readableRec 56 = true := by kernel_rfl
theorem rowT_Index : 56 < Tryd.prog.types.size := of_decide_eq_true (by kernel_rfl)
set_option maxRecDepth 100000 in
theorem opn_Index : Opn tIndex 56 := by
  intro H enc W held fuel cs x h
  obtain ⟨xs, n, _, _, hl, hlen, hf⟩ := DataW.trod_struct Tryd.underlying56 h
  have hl2 : cs.length = 2 := hl.trans (by kernel_rfl)
  have hn : xs.length = 2 := hlen
  have f0 : DataW.trod enc Tryd.prog W 0 (fun _ => true) held n 53 ((cs.drop 0).take (Tryd.prog.cellsOf 53)) = xs[0]? := hf 0 _ rfl
  rw [show Tryd.prog.cellsOf 53 = 1 from by kernel_rfl] at f0
  obtain ⟨d0, r0, o0⟩ := opn_cast (opn_QueryS) (by rw [List.getElem?_eq_getElem (by omega)]; rfl) f0
  have f1 : DataW.trod enc Tryd.prog W 0 (fun _ => true) held n 54 ((cs.drop 1).take (Tryd.prog.cellsOf 54)) = xs[1]? := hf 1 _ rfl
  rw [show Tryd.prog.cellsOf 54 = 1 from by kernel_rfl] at f1
  obtain ⟨d1, r1, o1⟩ := opn_cast (opn_SpanSS) (by rw [List.getElem?_eq_getElem (by omega)]; rfl) f1
  exact ⟨(d0, d1), ⟨(cs.drop 0).take 1, cs.drop 1, (List.take_append_drop 1 cs).symm, r0, (by have e := List.take_of_length_le (l := cs.drop 1) (i := 1) (by rw [List.length_drop]; omega); rw [e] at r1; exact r1)⟩, ⟨o0, o1⟩⟩
set_option maxRecDepth 100000 in
theorem shut_Index {H : Type} {enc : TypeId × Value → H} {W W' : World} {v : Value} {d : DataW H} {ps : List MemPlace} (h : DataW.Trod enc Tryd.prog W 0 (fun _ => true) true 56 v d ps) (hb : Below W.heap.size W W') (hlt : ∀ x ∈ ps, x.block < W.heap.size) :
    DataW.Trod enc Tryd.prog W' 0 (fun b => decide (b < W.heap.size)) true 56 v d ps := Below.trod laidOutP recT_Index rowT_Index h hb hlt
end Go.Proofs.YtidhmgboknffkaaDoor
namespace Go.Proofs.YtidhmgboknffkaaDoor
open Go.ChangeShapes Go.WideShapes Go.ChangeAt Go.WideMaps Go.WideElems Go.RowKit
set_option linter.unusedVariables false
set_option maxRecDepth 100000 in
theorem opn_Row : Opn tRow 57 := by
  intro H enc W held fuel cs x h
  obtain ⟨xs, n, _, _, hl, hlen, hf⟩ := DataW.trod_struct Tryd.underlying57 h
  have hl2 : cs.length = 2 := hl.trans (by kernel_rfl)
  have hn : xs.length = 2 := hlen
  have f0 : DataW.trod enc Tryd.prog W 0 (fun _ => true) held n 3 ((cs.drop 0).take (Tryd.prog.cellsOf 3)) = xs[0]? := hf 0 _ rfl
  rw [show Tryd.prog.cellsOf 3 = 1 from by kernel_rfl] at f0
  obtain ⟨d0, r0, o0⟩ := opn_cast (opn_int) (by rw [List.getElem?_eq_getElem (by omega)]; rfl) f0
  have f1 : DataW.trod enc Tryd.prog W 0 (fun _ => true) held n 28 ((cs.drop 1).take (Tryd.prog.cellsOf 28)) = xs[1]? := hf 1 _ rfl
  rw [show Tryd.prog.cellsOf 28 = 1 from by kernel_rfl] at f1
  obtain ⟨d1, r1, o1⟩ := opn_cast (opn_ints 3) (by rw [List.getElem?_eq_getElem (by omega)]; rfl) f1
  exact ⟨(d0, d1), ⟨(cs.drop 0).take 1, cs.drop 1, (List.take_append_drop 1 cs).symm, r0, (by have e := List.take_of_length_le (l := cs.drop 1) (i := 1) (by rw [List.length_drop]; omega); rw [e] at r1; exact r1)⟩, ⟨o0, o1⟩⟩
end Go.Proofs.YtidhmgboknffkaaDoor
namespace Go.Proofs.YtidhmgboknffkaaDoor
open Go.ChangeShapes Go.WideShapes Go.ChangeAt Go.WideMaps Go.WideElems Go.RowKit
set_option linter.unusedVariables false
theorem recT_RowS : Tryd.prog.readableRec 70 = true := by kernel_rfl
theorem rowT_RowS : 70 < Tryd.prog.types.size := of_decide_eq_true (by kernel_rfl)
theorem opn_RowS : Opn tRowS 70 := opn_slice tRow_law _ opn_Row Tryd.underlying70 (by kernel_rfl)
set_option maxRecDepth 100000 in
theorem shut_RowS {H : Type} {enc : TypeId × Value → H} {W W' : World} {v : Value} {d : DataW H} {ps : List MemPlace} (h : DataW.Trod enc Tryd.prog W 0 (fun _ => true) true 70 v d ps) (hb : Below W.heap.size W W') (hlt : ∀ x ∈ ps, x.block < W.heap.size) :
    DataW.Trod enc Tryd.prog W' 0 (fun b => decide (b < W.heap.size)) true 70 v d ps := Below.trod laidOutP recT_RowS rowT_RowS h hb hlt
end Go.Proofs.YtidhmgboknffkaaDoor
