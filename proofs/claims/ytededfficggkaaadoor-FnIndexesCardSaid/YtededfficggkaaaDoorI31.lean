/-
 Texts of the proof, merged: ProbeSetP, MatchSetP, WorkOfP, IdxRes.
-/
import Derived.Test.YtededfficggkaaaDoorI6
import Derived.Test.YtededfficggkaaaDoorI15
import Derived.Test.YtededfficggkaaaDoorI28
import Derived.Test.YtededfficggkaaaDoorI29
import Derived.Test.YtededfficggkaaaDoorI30
namespace Go.Proofs.YtededfficggkaaaDoor
open Go.RowKit
set_option linter.unusedVariables false
set_option linter.unusedSimpArgs false
theorem list3 {os : List Int} (h : os.length = 3) : os = [os.getD 0 0, os.getD 1 0, os.getD 2 0] := by
 match os, h with
 | [a, b, c], _ => rfl
theorem order_range {os : List Int} (h : orderB os = true) (k : Nat) (hk : k < 3) : 0 ≤ os.getD k 0 ∧ os.getD k 0 ≤ 2 := by
 have hl := order_len h
 have e : os.getD k 0 = os[k] := by simp [List.getD, show k < os.length by omega]
 have hm := (order_mem h (os.getD k 0)).1 (by rw [e]; exact List.getElem_mem _)
 omega
theorem probe_both {qs : List QD} {fs : List (List SpanD)} {rid : Int} {vs os : List Int} (hx : isIndexB qs fs = true) (hr : rowB (rid, vs) = true) (ho : orderB os = true) :
  memL (probeM (pick3 (setM fs vs 0) (setM fs vs 1) (setM fs vs 2)) [os.getD 0 0, os.getD 1 0, os.getD 2 0] (maskL (allL qs)) 0).1 = (probeB qs fs (rid, vs) os).1 ∧
  (probeM (pick3 (setM fs vs 0) (setM fs vs 1) (setM fs vs 2)) [os.getD 0 0, os.getD 1 0, os.getD 2 0] (maskL (allL qs)) 0).2 = (probeB qs fs (rid, vs) os).2 := by
 rw [← list3 (order_len ho), probeB_yes (by rw [hx, hr, ho]; rfl)]
 have h := probe_key (r := (rid, vs)) hx hr ho 0
 rw [h.1]
 exact ⟨memL_set h.2, rfl⟩
set_option maxHeartbeats 16000000 in
set_option maxRecDepth 100000 in
theorem implProbeSet (qv fv vv ov : Value) (qs : List QD) (fs : List (List SpanD)) (rid : Int) (vs os : List Int) (w : World) (h1 : SlR tQuery w qv qs) (h2 : SlR tSpanS w fv fs) (h3 : Ints w vv vs) (h4 : Ints w ov os) (hs : zL tQuery qs ≤ 1048576) (hz : zL tSpanS fs ≤ 1048576) (hv : vs.length ≤ 1048576) (ho : os.length ≤ 1048576) (ht : OrdT w) :
  Calls Tryd.prog 35 #[.agg #[qv, fv], .agg #[.int .i64 rid, vv], ov] w (FreshPW w (probeB qs fs (rid, vs) os)) := by
 obtain ⟨qa, qc, rfl⟩ := slR_len h1
 obtain ⟨fa, fc, rfl⟩ := slR_len h2
 obtain ⟨va, vc, rfl⟩ := ints_len h3
 obtain ⟨oa, oc, rfl⟩ := ints_len h4
 have d := Lib.hid (((Below.refl w.heap.size w).alloc (Nat.le_refl _) (.cells #[.slice qa qs.length qc, .slice fa fs.length fc] 49)).alloc (by simp) (.cells #[.int .i64 rid, .slice va vs.length vc] 51))
 have B1 : Hid (((w.alloc (.cells #[.slice qa qs.length qc, .slice fa fs.length fc] 49)).alloc (.cells #[.int .i64 rid, .slice va vs.length vc] 51)).heap[(w.heap.size + 1)]? = some (.cells #[.int .i64 rid, .slice va vs.length vc] 51 (0, 0))) := Lib.hid (by
  have := heap_alloc_new (w.alloc (.cells #[.slice qa qs.length qc, .slice fa fs.length fc] 49)) (.cells #[.int .i64 rid, .slice va vs.length vc] 51)
  simpa only [World.size_alloc] using this)
 have B0 : Hid (((w.alloc (.cells #[.slice qa qs.length qc, .slice fa fs.length fc] 49)).alloc (.cells #[.int .i64 rid, .slice va vs.length vc] 51)).heap[w.heap.size]? = some (.cells #[.slice qa qs.length qc, .slice fa fs.length fc] 49 (0, 0))) := Lib.hid (by rw [Below.heap_alloc _ _ _ (by simp)]; exact heap_alloc_new w _)
 have H1 := Lib.hid h1; have H2 := Lib.hid h2; have H3 := Lib.hid h3; have H4 := Lib.hid h4; have HT := Lib.hid ht
 have HZ := Lib.hid hz
 have HR := Lib.hid (fun w g => implIsRow rid (.slice va vs.length vc) vs w g hv)
 have HO := Lib.hid (fun w g t => implOrderOf (.slice oa os.length oc) os w g ho t)
 cases hx : isIndexB qs fs with
 | false =>
  have HX := Lib.hid (fun w g1 g2 => implCheck_no (.slice qa qs.length qc) (.slice fa fs.length fc) qs fs w g1 g2 hs hz hx)
  have HE : Hid (probeB qs fs (rid, vs) os = ([], 0)) := Lib.hid (probeB_no (by rw [hx]; rfl))
  clear h1 h2 h3 h4 hs hz hv ho hx ht
  go_enter Tryd.func35, Tryd.ntmps35
  go_wp2_with fail
  generalize ((w.alloc (.cells #[.slice qa qs.length qc, .slice fa fs.length fc] 49)).alloc (.cells #[.int .i64 rid, .slice va vs.length vc] 51)) = W at *
  refine (HX.out W (slR_below tQuery_law H1.out d.out) (slR_below tSpanS_law H2.out d.out)).mono ?_
  rintro e w1 ⟨rfl, c1⟩
  replace B0 := Lib.hid ((c1.block w.heap.size (Array.getElem?_eq_some_iff.1 B0.out).1).trans B0.out)
  replace d := Lib.hid (d.out.trans (c1.mono d.out.size))
  clear c1
  go_wp2_with fail
  have hal : Below w1.heap.size w1 (w1.alloc (.cells #[.int .u32 0, .slice none 0 0, .slice none 0 0, .slice none 0 0] 109)) := (Below.refl _ _).alloc (Nat.le_refl _) _
  have B2 : Hid ((w1.alloc (.cells #[.int .u32 0, .slice none 0 0, .slice none 0 0, .slice none 0 0] 109)).heap[w1.heap.size]? = some (.cells #[.int .u32 0, .slice none 0 0, .slice none 0 0, .slice none 0 0] 109 (0, 0))) := Lib.hid (heap_alloc_new _ _)
  replace B0 := Lib.hid ((hal.block w.heap.size (Array.getElem?_eq_some_iff.1 B0.out).1).trans B0.out)
  replace d := Lib.hid (d.out.trans (hal.mono d.out.size))
  clear hal
  generalize (w1.alloc (.cells #[.int .u32 0, .slice none 0 0, .slice none 0 0, .slice none 0 0] 109)) = W2 at *
  refine (HO.out W2 (ints_below H4.out d.out) (HT.out.on d.out)).mono ?_
  rintro e w3 ⟨hor, c2⟩
  replace B0 := Lib.hid ((c2.block w.heap.size (Array.getElem?_eq_some_iff.1 B0.out).1).trans B0.out)
  replace B2 := Lib.hid ((c2.block w1.heap.size (Array.getElem?_eq_some_iff.1 B2.out).1).trans B2.out)
  replace d := Lib.hid (d.out.trans (c2.mono d.out.size))
  clear c2
  rcases hor with ⟨ho, rfl⟩ | ⟨ho, rfl⟩
  ·
   clear ho B2 B0 B1
   generalize os.getD 0 0 = x0 at *
   generalize os.getD 1 0 = x1 at *
   generalize os.getD 2 0 = x2 at *
   have D := Lib.hid (d.out.alloc d.out.size (.cells #[.int .i64 x0, .int .i64 x1, .int .i64 x2] 113))
   go_wp2
   go_ret2
   exact ⟨.slice none 0 0, by first | (rw [HE.out]; done) | (rw [HE.out]; rfl), by rw [HE.out]; exact ownsN_nil _ _, D.out⟩
  ·
   clear ho B2 B0 B1
   have D := Lib.hid (d.out.alloc d.out.size (.cells #[.int .i64 0, .int .i64 0, .int .i64 0] 113))
   go_wp2
   go_ret2
   exact ⟨.slice none 0 0, by first | (rw [HE.out]; done) | (rw [HE.out]; rfl), by rw [HE.out]; exact ownsN_nil _ _, D.out⟩
 | true =>
  have HX := Lib.hid (fun w g1 g2 => implCheck_yes (.slice qa qs.length qc) (.slice fa fs.length fc) qs fs w g1 g2 hs hz hx)
  have HI := Lib.hid hx
  have HQ := Lib.hid (idx_iff hx).1
  have HF3 : Hid (fs.length = 3) := Lib.hid (by rw [(idx_iff hx).2, fldTo_len])
  clear h1 h2 h3 h4 hs hz hv ho hx ht
  go_enter Tryd.func35, Tryd.ntmps35
  go_wp2_with fail
  generalize ((w.alloc (.cells #[.slice qa qs.length qc, .slice fa fs.length fc] 49)).alloc (.cells #[.int .i64 rid, .slice va vs.length vc] 51)) = W at *
  refine (HX.out W (slR_below tQuery_law H1.out d.out) (slR_below tSpanS_law H2.out d.out)).mono ?_
  rintro e w1 ⟨s0, s1, s2, rfl, hci, c1⟩
  replace B0 := Lib.hid ((c1.block w.heap.size (Array.getElem?_eq_some_iff.1 B0.out).1).trans B0.out)
  replace B1 := Lib.hid ((c1.block (w.heap.size + 1) (Array.getElem?_eq_some_iff.1 B1.out).1).trans B1.out)
  replace d := Lib.hid (d.out.trans (c1.mono d.out.size))
  clear c1
  obtain ⟨ta0, cp0, rfl⟩ := slR_len hci.1
  obtain ⟨ta1, cp1, rfl⟩ := slR_len hci.2.1
  obtain ⟨ta2, cp2, rfl⟩ := slR_len hci.2.2
  generalize (fs.getD 0 []).length = ln0 at *
  generalize (fs.getD 1 []).length = ln1 at *
  generalize (fs.getD 2 []).length = ln2 at *
  have HCI := Lib.hid hci
  clear hci
  have hmx := maskL_lt (allL qs)
  generalize hm : maskL (allL qs) = m at *
  have HM := Lib.hid hm
  have HMX := Lib.hid hmx
  clear hm hmx
  clear B0
  go_wp2_with fail
  have hal : Below w1.heap.size w1 (w1.alloc (.cells #[.int .u32 (m : Int), .slice ta0 ln0 cp0, .slice ta1 ln1 cp1, .slice ta2 ln2 cp2] 109)) := (Below.refl _ _).alloc (Nat.le_refl _) _
  have B2 : Hid ((w1.alloc (.cells #[.int .u32 (m : Int), .slice ta0 ln0 cp0, .slice ta1 ln1 cp1, .slice ta2 ln2 cp2] 109)).heap[w1.heap.size]? = some (.cells #[.int .u32 (m : Int), .slice ta0 ln0 cp0, .slice ta1 ln1 cp1, .slice ta2 ln2 cp2] 109 (0, 0))) := Lib.hid (heap_alloc_new _ _)
  replace B1 := Lib.hid ((hal.block (w.heap.size + 1) (Array.getElem?_eq_some_iff.1 B1.out).1).trans B1.out)
  replace HCI := Lib.hid (ci_below HCI.out hal)
  replace d := Lib.hid (d.out.trans (hal.mono d.out.size))
  clear hal
  generalize (w1.alloc (.cells #[.int .u32 (m : Int), .slice ta0 ln0 cp0, .slice ta1 ln1 cp1, .slice ta2 ln2 cp2] 109)) = W2 at *
  refine (HO.out W2 (ints_below H4.out d.out) (HT.out.on d.out)).mono ?_
  rintro e w3 ⟨hor, c2⟩
  replace B1 := Lib.hid ((c2.block (w.heap.size + 1) (Array.getElem?_eq_some_iff.1 B1.out).1).trans B1.out)
  replace B2 := Lib.hid ((c2.block w1.heap.size (Array.getElem?_eq_some_iff.1 B2.out).1).trans B2.out)
  replace HCI := Lib.hid (ci_below HCI.out c2)
  replace d := Lib.hid (d.out.trans (c2.mono d.out.size))
  clear c2
  rcases hor with ⟨ho, rfl⟩ | ⟨ho, rfl⟩
  ·
   have x0 := order_range ho 0 (by omega); have x1 := order_range ho 1 (by omega); have x2 := order_range ho 2 (by omega)
   have HX0 := Lib.hid x0; have HX1 := Lib.hid x1; have HX2 := Lib.hid x2
   clear x0 x1 x2
   cases hr : rowB (rid, vs) with
   | false =>
    have HE : Hid (probeB qs fs (rid, vs) os = ([], 0)) := Lib.hid (probeB_no (by rw [hr]; simp))
    rw [hr] at HR
    clear hr ho
    generalize os.getD 0 0 = y0 at *
    generalize os.getD 1 0 = y1 at *
    generalize os.getD 2 0 = y2 at *
    have hal : Below w3.heap.size w3 (w3.alloc (.cells #[.int .i64 y0, .int .i64 y1, .int .i64 y2] 113)) := (Below.refl _ _).alloc (Nat.le_refl _) _
    have k1 := (hal.block (w.heap.size + 1) (Array.getElem?_eq_some_iff.1 B1.out).1).trans B1.out
    have p0 := (cell_of_row (w3.alloc (.cells #[.int .i64 y0, .int .i64 y1, .int .i64 y2] 113)) _ 0 _ _ _ k1).trans (show _ = some (Value.int .i64 rid) from rfl)
    have p1 := (cell_of_row (w3.alloc (.cells #[.int .i64 y0, .int .i64 y1, .int .i64 y2] 113)) _ 1 _ _ _ k1).trans (show _ = some (Value.slice va vs.length vc) from rfl)
    clear hal k1
    go_wp2_with fail
    clear p0 p1
    have hal : Below w3.heap.size w3 (w3.alloc (.cells #[.int .i64 y0, .int .i64 y1, .int .i64 y2] 113)) := (Below.refl _ _).alloc (Nat.le_refl _) _
    have B3 : Hid ((w3.alloc (.cells #[.int .i64 y0, .int .i64 y1, .int .i64 y2] 113)).heap[w3.heap.size]? = some (.cells #[.int .i64 y0, .int .i64 y1, .int .i64 y2] 113 (0, 0))) := Lib.hid (heap_alloc_new _ _)
    replace B1 := Lib.hid ((hal.block (w.heap.size + 1) (Array.getElem?_eq_some_iff.1 B1.out).1).trans B1.out)
    replace B2 := Lib.hid ((hal.block w1.heap.size (Array.getElem?_eq_some_iff.1 B2.out).1).trans B2.out)
    replace HCI := Lib.hid (ci_below HCI.out hal)
    replace d := Lib.hid (d.out.trans (hal.mono d.out.size))
    clear hal
    generalize (w3.alloc (.cells #[.int .i64 y0, .int .i64 y1, .int .i64 y2] 113)) = W4 at *
    refine (HR.out W4 (ints_below H3.out d.out)).mono ?_
    rintro e w5 ⟨rfl, c3⟩
    replace B1 := Lib.hid ((c3.block (w.heap.size + 1) (Array.getElem?_eq_some_iff.1 B1.out).1).trans B1.out)
    replace B2 := Lib.hid ((c3.block w1.heap.size (Array.getElem?_eq_some_iff.1 B2.out).1).trans B2.out)
    replace B3 := Lib.hid ((c3.block w3.heap.size (Array.getElem?_eq_some_iff.1 B3.out).1).trans B3.out)
    replace HCI := Lib.hid (ci_below HCI.out c3)
    replace d := Lib.hid (d.out.trans (c3.mono d.out.size))
    clear c3
    go_wp2
    go_ret2
    exact ⟨.slice none 0 0, by first | (rw [HE.out]; done) | (rw [HE.out]; rfl), by rw [HE.out]; exact ownsN_nil _ _, d.out⟩
   | true =>
    have HV3 : Hid (vs.length = 3) := Lib.hid (row_len hr)
    rw [hr] at HR
    have HP := Lib.hid (probe_both HI.out hr ho)
    rw [HM.out] at HP
    clear hr ho
    generalize os.getD 0 0 = y0 at *
    generalize os.getD 1 0 = y1 at *
    generalize os.getD 2 0 = y2 at *
    have hal : Below w3.heap.size w3 (w3.alloc (.cells #[.int .i64 y0, .int .i64 y1, .int .i64 y2] 113)) := (Below.refl _ _).alloc (Nat.le_refl _) _
    have k1 := (hal.block (w.heap.size + 1) (Array.getElem?_eq_some_iff.1 B1.out).1).trans B1.out
    have p0 := (cell_of_row (w3.alloc (.cells #[.int .i64 y0, .int .i64 y1, .int .i64 y2] 113)) _ 0 _ _ _ k1).trans (show _ = some (Value.int .i64 rid) from rfl)
    have p1 := (cell_of_row (w3.alloc (.cells #[.int .i64 y0, .int .i64 y1, .int .i64 y2] 113)) _ 1 _ _ _ k1).trans (show _ = some (Value.slice va vs.length vc) from rfl)
    clear hal k1
    go_wp2_with fail
    clear p0 p1
    have hal : Below w3.heap.size w3 (w3.alloc (.cells #[.int .i64 y0, .int .i64 y1, .int .i64 y2] 113)) := (Below.refl _ _).alloc (Nat.le_refl _) _
    have B3 : Hid ((w3.alloc (.cells #[.int .i64 y0, .int .i64 y1, .int .i64 y2] 113)).heap[w3.heap.size]? = some (.cells #[.int .i64 y0, .int .i64 y1, .int .i64 y2] 113 (0, 0))) := Lib.hid (heap_alloc_new _ _)
    replace B1 := Lib.hid ((hal.block (w.heap.size + 1) (Array.getElem?_eq_some_iff.1 B1.out).1).trans B1.out)
    replace B2 := Lib.hid ((hal.block w1.heap.size (Array.getElem?_eq_some_iff.1 B2.out).1).trans B2.out)
    replace HCI := Lib.hid (ci_below HCI.out hal)
    replace d := Lib.hid (d.out.trans (hal.mono d.out.size))
    clear hal
    generalize (w3.alloc (.cells #[.int .i64 y0, .int .i64 y1, .int .i64 y2] 113)) = W4 at *
    refine (HR.out W4 (ints_below H3.out d.out)).mono ?_
    rintro e w5 ⟨rfl, c3⟩
    replace B1 := Lib.hid ((c3.block (w.heap.size + 1) (Array.getElem?_eq_some_iff.1 B1.out).1).trans B1.out)
    replace B2 := Lib.hid ((c3.block w1.heap.size (Array.getElem?_eq_some_iff.1 B2.out).1).trans B2.out)
    replace B3 := Lib.hid ((c3.block w3.heap.size (Array.getElem?_eq_some_iff.1 B3.out).1).trans B3.out)
    replace HCI := Lib.hid (ci_below HCI.out c3)
    replace d := Lib.hid (d.out.trans (c3.mono d.out.size))
    clear c3
    clear HR
    skip
    go_wp2
    have p_B1_0 := (cell_of_row w5 _ 0 _ _ _ B1.out).trans (show _ = some (Value.int .i64 rid) from rfl)
    have p_B1_1 := (cell_of_row w5 _ 1 _ _ _ B1.out).trans (show _ = some (Value.slice va vs.length vc) from rfl)
    have p_B2_0 := (cell_of_row w5 _ 0 _ _ _ B2.out).trans (show _ = some (Value.int .u32 (m : Int)) from rfl)
    have p_B2_1 := (cell_of_row w5 _ 1 _ _ _ B2.out).trans (show _ = some (Value.slice ta0 ln0 cp0) from rfl)
    have p_B2_2 := (cell_of_row w5 _ 2 _ _ _ B2.out).trans (show _ = some (Value.slice ta1 ln1 cp1) from rfl)
    have p_B2_3 := (cell_of_row w5 _ 3 _ _ _ B2.out).trans (show _ = some (Value.slice ta2 ln2 cp2) from rfl)
    have p_B3_0 := (cell_of_row w5 _ 0 _ _ _ B3.out).trans (show _ = some (Value.int .i64 y0) from rfl)
    have p_B3_1 := (cell_of_row w5 _ 1 _ _ _ B3.out).trans (show _ = some (Value.int .i64 y1) from rfl)
    have p_B3_2 := (cell_of_row w5 _ 2 _ _ _ B3.out).trans (show _ = some (Value.int .i64 y2) from rfl)
    refine wp_region_held_drew (S := fun w' => w'.cell? ⟨(w.heap.size + 1), 0, none⟩ = some (Value.int .i64 rid) ∧ w'.cell? ⟨(w.heap.size + 1), 1, none⟩ = some (Value.slice va vs.length vc) ∧ w'.cell? ⟨w1.heap.size, 0, none⟩ = some (Value.int .u32 (m : Int)) ∧ w'.cell? ⟨w1.heap.size, 1, none⟩ = some (Value.slice ta0 ln0 cp0) ∧ w'.cell? ⟨w1.heap.size, 2, none⟩ = some (Value.slice ta1 ln1 cp1) ∧ w'.cell? ⟨w1.heap.size, 3, none⟩ = some (Value.slice ta2 ln2 cp2) ∧ w'.cell? ⟨w3.heap.size, 0, none⟩ = some (Value.int .i64 y0) ∧ w'.cell? ⟨w3.heap.size, 1, none⟩ = some (Value.int .i64 y1) ∧ w'.cell? ⟨w3.heap.size, 2, none⟩ = some (Value.int .i64 y2)) (by kernel_rfl) ⟨p_B1_0, p_B1_1, p_B2_0, p_B2_1, p_B2_2, p_B2_3, p_B3_0, p_B3_1, p_B3_2⟩ (fun hHeld => ?_)
    clear p_B1_0 p_B1_1 p_B2_0 p_B2_1 p_B2_2 p_B2_3 p_B3_0 p_B3_1 p_B3_2
    have cdr : Below w5.heap.size w5 w5.drew := below_drew (Below.refl _ _)
    replace B1 := Lib.hid ((cdr.block (w.heap.size + 1) (Array.getElem?_eq_some_iff.1 B1.out).1).trans B1.out)
    replace B2 := Lib.hid ((cdr.block w1.heap.size (Array.getElem?_eq_some_iff.1 B2.out).1).trans B2.out)
    replace B3 := Lib.hid ((cdr.block w3.heap.size (Array.getElem?_eq_some_iff.1 B3.out).1).trans B3.out)
    replace HCI := Lib.hid (ci_below HCI.out cdr)
    replace d := Lib.hid (d.out.trans (cdr.mono d.out.size))
    clear cdr
    refine tR (i := 0) (v := ?_) ?_ ?_; rotate_left
    ·
     intro w hSw; (try dsimp only at hSw); go_simp; try (with_reducible rfl)
    try simp only [Act.put, lA, lB, lC]
    refine tR (i := 1) (v := ?_) ?_ ?_; rotate_left
    ·
     intro w hSw; (try dsimp only at hSw); go_simp; try (with_reducible rfl)
    try simp only [Act.put, lA, lB, lC]
    refine tR (i := 2) (v := ?_) ?_ ?_; rotate_left
    ·
     intro w hSw; (try dsimp only at hSw); go_simp; try (with_reducible rfl)
    try simp only [Act.put, lA, lB, lC]
    refine tR (i := 4) (v := ?_) ?_ ?_; rotate_left
    ·
     intro w hSw; (try dsimp only at hSw); go_simp; try (with_reducible rfl)
    try simp only [Act.put, lA, lB, lC]
    refine wpAnyH_ready (rs := [3]) (by kernel_rfl) (by simp) ?_
    refine (AllReadyH.cons (o := _) (by simp only [hA, hB, hC]; rfl) (fun K hK => ?_) AllReadyH.nil)
    go_simp
    refine (implSetsOf m (.slice ta0 ln0 cp0) (.slice ta1 ln1 cp1) (.slice ta2 ln2 cp2) fs rid (.slice va vs.length vc) vs (w5.drew) (HCI.out) (ints_below H3.out d.out) HZ.out HF3.out HV3.out).mono ?_
    rintro e w6 ⟨rfl, c6⟩
    replace B1 := Lib.hid ((c6.block (w.heap.size + 1) (Array.getElem?_eq_some_iff.1 B1.out).1).trans B1.out)
    replace B2 := Lib.hid ((c6.block w1.heap.size (Array.getElem?_eq_some_iff.1 B2.out).1).trans B2.out)
    replace B3 := Lib.hid ((c6.block w3.heap.size (Array.getElem?_eq_some_iff.1 B3.out).1).trans B3.out)
    replace HCI := Lib.hid (ci_below HCI.out c6)
    replace d := Lib.hid (d.out.trans (c6.mono d.out.size))
    clear c6
    have HM0 := Lib.hid (setM_lt fs vs 0); have HM1 := Lib.hid (setM_lt fs vs 1); have HM2 := Lib.hid (setM_lt fs vs 2)
    generalize setM fs vs 0 = a0 at *
    generalize setM fs vs 1 = a1 at *
    generalize setM fs vs 2 = a2 at *
    have p_B1_0 := (cell_of_row w6 _ 0 _ _ _ B1.out).trans (show _ = some (Value.int .i64 rid) from rfl)
    have p_B1_1 := (cell_of_row w6 _ 1 _ _ _ B1.out).trans (show _ = some (Value.slice va vs.length vc) from rfl)
    have p_B2_0 := (cell_of_row w6 _ 0 _ _ _ B2.out).trans (show _ = some (Value.int .u32 (m : Int)) from rfl)
    have p_B2_1 := (cell_of_row w6 _ 1 _ _ _ B2.out).trans (show _ = some (Value.slice ta0 ln0 cp0) from rfl)
    have p_B2_2 := (cell_of_row w6 _ 2 _ _ _ B2.out).trans (show _ = some (Value.slice ta1 ln1 cp1) from rfl)
    have p_B2_3 := (cell_of_row w6 _ 3 _ _ _ B2.out).trans (show _ = some (Value.slice ta2 ln2 cp2) from rfl)
    have p_B3_0 := (cell_of_row w6 _ 0 _ _ _ B3.out).trans (show _ = some (Value.int .i64 y0) from rfl)
    have p_B3_1 := (cell_of_row w6 _ 1 _ _ _ B3.out).trans (show _ = some (Value.int .i64 y1) from rfl)
    have p_B3_2 := (cell_of_row w6 _ 2 _ _ _ B3.out).trans (show _ = some (Value.int .i64 y2) from rfl)
    refine hK.out _ _ ⟨p_B1_0, p_B1_1, p_B2_0, p_B2_1, p_B2_2, p_B2_3, p_B3_0, p_B3_1, p_B3_2⟩ (fun hHeld => ?_)
    clear p_B1_0 p_B1_1 p_B2_0 p_B2_1 p_B2_2 p_B2_3 p_B3_0 p_B3_1 p_B3_2
    clear hK K
    try simp only [Act.put, lA, lB, lC]
    refine wpAnyH_ready (rs := [5]) (by kernel_rfl) (by simp) ?_
    refine (AllReadyH.cons (o := _) (by simp only [hA, hB, hC]; rfl) (fun K hK => ?_) AllReadyH.nil)
    go_simp
    refine (implProbe m (.slice ta0 ln0 cp0) (.slice ta1 ln1 cp1) (.slice ta2 ln2 cp2) a0 a1 a2 y0 y1 y2 w6 HMX.out HM0.out HM1.out HM2.out HX0.out HX1.out HX2.out).mono ?_
    rintro e w7 ⟨rfl, c7⟩
    replace B1 := Lib.hid ((c7.block (w.heap.size + 1) (Array.getElem?_eq_some_iff.1 B1.out).1).trans B1.out)
    replace B2 := Lib.hid ((c7.block w1.heap.size (Array.getElem?_eq_some_iff.1 B2.out).1).trans B2.out)
    replace B3 := Lib.hid ((c7.block w3.heap.size (Array.getElem?_eq_some_iff.1 B3.out).1).trans B3.out)
    replace HCI := Lib.hid (ci_below HCI.out c7)
    replace d := Lib.hid (d.out.trans (c7.mono d.out.size))
    clear c7
    have HPR := Lib.hid (probeM_range (pick3 a0 a1 a2) [y0, y1, y2] m 0 HMX.out)
    generalize probeM (pick3 a0 a1 a2) [y0, y1, y2] m 0 = R at *
    have p_B1_0 := (cell_of_row w7 _ 0 _ _ _ B1.out).trans (show _ = some (Value.int .i64 rid) from rfl)
    have p_B1_1 := (cell_of_row w7 _ 1 _ _ _ B1.out).trans (show _ = some (Value.slice va vs.length vc) from rfl)
    have p_B2_0 := (cell_of_row w7 _ 0 _ _ _ B2.out).trans (show _ = some (Value.int .u32 (m : Int)) from rfl)
    have p_B2_1 := (cell_of_row w7 _ 1 _ _ _ B2.out).trans (show _ = some (Value.slice ta0 ln0 cp0) from rfl)
    have p_B2_2 := (cell_of_row w7 _ 2 _ _ _ B2.out).trans (show _ = some (Value.slice ta1 ln1 cp1) from rfl)
    have p_B2_3 := (cell_of_row w7 _ 3 _ _ _ B2.out).trans (show _ = some (Value.slice ta2 ln2 cp2) from rfl)
    have p_B3_0 := (cell_of_row w7 _ 0 _ _ _ B3.out).trans (show _ = some (Value.int .i64 y0) from rfl)
    have p_B3_1 := (cell_of_row w7 _ 1 _ _ _ B3.out).trans (show _ = some (Value.int .i64 y1) from rfl)
    have p_B3_2 := (cell_of_row w7 _ 2 _ _ _ B3.out).trans (show _ = some (Value.int .i64 y2) from rfl)
    refine hK.out _ _ ⟨p_B1_0, p_B1_1, p_B2_0, p_B2_1, p_B2_2, p_B2_3, p_B3_0, p_B3_1, p_B3_2⟩ (fun hHeld => ?_)
    clear p_B1_0 p_B1_1 p_B2_0 p_B2_1 p_B2_2 p_B2_3 p_B3_0 p_B3_1 p_B3_2
    clear hK K
    try simp only [Act.put, lA, lB, lC]
    refine tR (i := 6) (v := ?_) ?_ ?_; rotate_left
    ·
     intro w hSw; (try dsimp only at hSw); go_simp; try (with_reducible rfl)
    try simp only [Act.put, lA, lB, lC]
    refine tR (i := 7) (v := ?_) ?_ ?_; rotate_left
    ·
     intro w hSw; (try dsimp only at hSw); go_simp; try (with_reducible rfl)
    try simp only [Act.put, lA, lB, lC]
    refine tR (i := 8) (v := ?_) ?_ ?_; rotate_left
    ·
     intro w hSw; (try dsimp only at hSw); go_simp; try (with_reducible rfl)
    try simp only [Act.put, lA, lB, lC]
    refine tR (i := 9) (v := ?_) ?_ ?_; rotate_left
    ·
     intro w hSw; (try dsimp only at hSw); go_simp; try (with_reducible rfl)
    try simp only [Act.put, lA, lB, lC]
    refine tR (i := 10) (v := ?_) ?_ ?_; rotate_left
    ·
     intro w hSw; (try dsimp only at hSw); go_simp; try (with_reducible rfl)
    try simp only [Act.put, lA, lB, lC]
    refine wpAnyH_done (by kernel_rfl) ?_ _
    clear hHeld
    go_wp2_with fail
    refine (implMembers R.1 w7 HPR.out.1).mono ?_
    rintro e w8 ⟨u, rfl, ou, c8⟩
    have ou2 := ownsN_up ou d.out.size
    have d8 := d.out.trans (c8.mono d.out.size)
    rw [HP.out.1] at ou2
    have HP2 := Lib.hid HP.out.2
    clear ou c8 HP
    go_wp2
    go_ret2
    exact ⟨u, by first | (rw [← HP2.out]; done) | (rw [← HP2.out]; rfl), ou2, d8⟩
  ·
   have HE : Hid (probeB qs fs (rid, vs) os = ([], 0)) := Lib.hid (probeB_no (by rw [ho, Bool.and_false, Bool.and_false]))
   clear ho B1 B2
   have D := Lib.hid (d.out.alloc d.out.size (.cells #[.int .i64 0, .int .i64 0, .int .i64 0] 113))
   go_wp2
   go_ret2
   exact ⟨.slice none 0 0, by first | (rw [HE.out]; done) | (rw [HE.out]; rfl), by rw [HE.out]; exact ownsN_nil _ _, D.out⟩
set_option maxHeartbeats 16000000 in
set_option maxRecDepth 100000 in
theorem implMatchSet (qv fv vv : Value) (qs : List QD) (fs : List (List SpanD)) (rid : Int) (vs : List Int) (w : World) (h1 : SlR tQuery w qv qs) (h2 : SlR tSpanS w fv fs) (h3 : Ints w vv vs) (hs : zL tQuery qs ≤ 1048576) (hz : zL tSpanS fs ≤ 1048576) (hv : vs.length ≤ 1048576) (ht : OrdT w) :
  Calls Tryd.prog 39 #[.agg #[qv, fv], .agg #[.int .i64 rid, vv]] w (FreshInts w (probeB qs fs (rid, vs) [0, 1, 2]).1) := by
 have hlen := zL_len hs
 have HS := Lib.hid hs
 have HZ := Lib.hid hz
 have hvl : vs.length ≤ 1048576 := hv
 obtain ⟨qa, qc, rfl⟩ := slR_len h1
 obtain ⟨fa, fc, rfl⟩ := slR_len h2
 obtain ⟨va, vc, rfl⟩ := ints_len h3
 have d := Lib.hid (((Below.refl w.heap.size w).alloc (Nat.le_refl _) (.cells #[.slice qa qs.length qc, .slice fa fs.length fc] 49)).alloc (by simp) (.cells #[.int .i64 rid, .slice va vs.length vc] 51))
 have B0 : Hid (((w.alloc (.cells #[.slice qa qs.length qc, .slice fa fs.length fc] 49)).alloc (.cells #[.int .i64 rid, .slice va vs.length vc] 51)).heap[w.heap.size]? = some (.cells #[.slice qa qs.length qc, .slice fa fs.length fc] 49 (0, 0))) := Lib.hid (by rw [Below.heap_alloc _ _ _ (by simp)]; exact heap_alloc_new w _)
 have B1 : Hid (((w.alloc (.cells #[.slice qa qs.length qc, .slice fa fs.length fc] 49)).alloc (.cells #[.int .i64 rid, .slice va vs.length vc] 51)).heap[(w.heap.size + 1)]? = some (.cells #[.int .i64 rid, .slice va vs.length vc] 51 (0, 0))) := Lib.hid (by
  have := heap_alloc_new (w.alloc (.cells #[.slice qa qs.length qc, .slice fa fs.length fc] 49)) (.cells #[.int .i64 rid, .slice va vs.length vc] 51)
  simpa only [World.size_alloc] using this)
 have HT := Lib.hid ht
 have H1 := Lib.hid h1; have H2 := Lib.hid h2; have H3 := Lib.hid h3
 clear h1 h2 h3 hs hz
 have HW : Hid (((w.alloc (.cells #[.slice qa qs.length qc, .slice fa fs.length fc] 49)).alloc (.cells #[.int .i64 rid, .slice va vs.length vc] 51)).heap.size = w.heap.size + 1 + 1) := Lib.hid (by simp)
 go_enter Tryd.func39, Tryd.ntmps39
 go_wp2_with fail
 generalize ((w.alloc (.cells #[.slice qa qs.length qc, .slice fa fs.length fc] 49)).alloc (.cells #[.int .i64 rid, .slice va vs.length vc] 51)) = W at *
 have hal : Below W.heap.size W (W.alloc (.cells #[.int .i64 0, .int .i64 1, .int .i64 2] 3)) := (Below.refl _ _).alloc (Nat.le_refl _) _
 have oi : Ints (W.alloc (.cells #[.int .i64 0, .int .i64 1, .int .i64 2] 3)) (.slice (some ⟨w.heap.size + 1 + 1, 0, none⟩) 3 3) [0, 1, 2] := by
  rw [← HW.out]
  exact ownsN_ints (ownsN_lit W W.heap.size (Nat.le_refl _) #[.int .i64 0, .int .i64 1, .int .i64 2] 3 [0, 1, 2] rfl rfl (by decide))
 have d2 := Lib.hid (d.out.trans (hal.mono d.out.size))
 refine (implProbeSet (.slice qa qs.length qc) (.slice fa fs.length fc) (.slice va vs.length vc) _ qs fs rid vs [0, 1, 2] _ (slR_below tQuery_law H1.out d2.out) (slR_below tSpanS_law H2.out d2.out) (ints_below H3.out d2.out) oi HS.out HZ.out hv (by decide) (HT.out.on d2.out)).mono ?_
 rintro e w4 ⟨u, rfl, ou, c4⟩
 have ou2 := Lib.hid (ownsN_up ou d2.out.size)
 have d4 := Lib.hid (d2.out.trans (c4.mono d2.out.size))
 clear ou c4 oi hal
 go_wp2
 go_ret
 exact ⟨u, rfl, ou2.out, d4.out⟩
theorem work_keys {qs : List QD} {fs : List (List SpanD)} {rs : List RowD} {os : List Int} (hx : isIndexB qs fs = true) (ho : orderB os = true) :
  ((keysTo fs rs rs.length).map (gK (maskL (allL qs)) [os.getD 0 0, os.getD 1 0, os.getD 2 0])).sum = workL qs fs rs os := by
 rw [← list3 (order_len ho), mworkL_yes hx ho]
 unfold keysTo
 rw [List.take_length, List.map_map]
 congr 1
 apply List.map_congr_left
 intro r _
 exact gK_at (setM_lt ..) (setM_lt ..) (setM_lt ..)
set_option maxHeartbeats 16000000 in
set_option maxRecDepth 100000 in
theorem implWorkOf (qv fv rv ov : Value) (qs : List QD) (fs : List (List SpanD)) (rs : List RowD) (os : List Int) (w : World) (h1 : SlR tQuery w qv qs) (h2 : SlR tSpanS w fv fs) (h3 : SlR tRow w rv rs) (h4 : Ints w ov os) (hs : zL tQuery qs ≤ 1048576) (hz : zL tSpanS fs ≤ 1048576) (hv : zL tRow rs ≤ 1048576) (ho : os.length ≤ 1048576) (ht : OrdT w) :
  Calls Tryd.prog 47 #[.agg #[qv, fv], rv, ov] w fun e w' => e = .returned (.int .i64 (workL qs fs rs os)) ∧ Below w.heap.size w w' := by
 obtain ⟨qa, qc, rfl⟩ := slR_len h1
 obtain ⟨fa, fc, rfl⟩ := slR_len h2
 obtain ⟨ra, rc, rfl⟩ := slR_len h3
 obtain ⟨oa, oc, rfl⟩ := ints_len h4
 have HV : Hid (szL rs ≤ 1048576) := Lib.hid (by rw [← zL_rows]; exact hv)
 have hlr := zL_len hv
 have HLR := Lib.hid hlr
 have d := Lib.hid ((Below.refl w.heap.size w).alloc (Nat.le_refl _) (.cells #[.slice qa qs.length qc, .slice fa fs.length fc] 49))
 have B0 : Hid ((w.alloc (.cells #[.slice qa qs.length qc, .slice fa fs.length fc] 49)).heap[w.heap.size]? = some (.cells #[.slice qa qs.length qc, .slice fa fs.length fc] 49 (0, 0))) := Lib.hid (heap_alloc_new w _)
 have H1 := Lib.hid h1; have H2 := Lib.hid h2; have H3 := Lib.hid h3; have H4 := Lib.hid h4; have HT := Lib.hid ht
 have HZ := Lib.hid hz
 have HO := Lib.hid (fun w g t => implOrderOf (.slice oa os.length oc) os w g ho t)
 cases hx : isIndexB qs fs with
 | false =>
  have HX := Lib.hid (fun w g1 g2 => implCheck_no (.slice qa qs.length qc) (.slice fa fs.length fc) qs fs w g1 g2 hs hz hx)
  have HE : Hid (workL qs fs rs os = 0) := Lib.hid (mworkL_no (by rw [hx]; rfl))
  clear h1 h2 h3 h4 hs hz hv ho hx ht hlr
  go_enter Tryd.func47, Tryd.ntmps47
  go_wp2_with fail
  generalize (w.alloc (.cells #[.slice qa qs.length qc, .slice fa fs.length fc] 49)) = W at *
  refine (HX.out W (slR_below tQuery_law H1.out d.out) (slR_below tSpanS_law H2.out d.out)).mono ?_
  rintro e w1 ⟨rfl, c1⟩
  replace B0 := Lib.hid ((c1.block w.heap.size (Array.getElem?_eq_some_iff.1 B0.out).1).trans B0.out)
  replace d := Lib.hid (d.out.trans (c1.mono d.out.size))
  clear c1
  go_wp2_with fail
  have hal : Below w1.heap.size w1 (w1.alloc (.cells #[.int .u32 0, .slice none 0 0, .slice none 0 0, .slice none 0 0] 109)) := (Below.refl _ _).alloc (Nat.le_refl _) _
  have B2 : Hid ((w1.alloc (.cells #[.int .u32 0, .slice none 0 0, .slice none 0 0, .slice none 0 0] 109)).heap[w1.heap.size]? = some (.cells #[.int .u32 0, .slice none 0 0, .slice none 0 0, .slice none 0 0] 109 (0, 0))) := Lib.hid (heap_alloc_new _ _)
  replace B0 := Lib.hid ((hal.block w.heap.size (Array.getElem?_eq_some_iff.1 B0.out).1).trans B0.out)
  replace d := Lib.hid (d.out.trans (hal.mono d.out.size))
  clear hal
  generalize (w1.alloc (.cells #[.int .u32 0, .slice none 0 0, .slice none 0 0, .slice none 0 0] 109)) = W2 at *
  refine (HO.out W2 (ints_below H4.out d.out) (HT.out.on d.out)).mono ?_
  rintro e w3 ⟨hor, c2⟩
  replace B0 := Lib.hid ((c2.block w.heap.size (Array.getElem?_eq_some_iff.1 B0.out).1).trans B0.out)
  replace B2 := Lib.hid ((c2.block w1.heap.size (Array.getElem?_eq_some_iff.1 B2.out).1).trans B2.out)
  replace d := Lib.hid (d.out.trans (c2.mono d.out.size))
  clear c2
  rcases hor with ⟨ho, rfl⟩ | ⟨ho, rfl⟩
  ·
   clear ho B2 B0
   generalize os.getD 0 0 = x0 at *
   generalize os.getD 1 0 = x1 at *
   generalize os.getD 2 0 = x2 at *
   have D := Lib.hid (d.out.alloc d.out.size (.cells #[.int .i64 x0, .int .i64 x1, .int .i64 x2] 113))
   go_wp2
   go_ret
   exact ⟨ty_ret HE.out.symm, D.out⟩
  ·
   clear ho B2 B0
   have D := Lib.hid (d.out.alloc d.out.size (.cells #[.int .i64 0, .int .i64 0, .int .i64 0] 113))
   go_wp2
   go_ret
   exact ⟨ty_ret HE.out.symm, D.out⟩
 | true =>
  have HX := Lib.hid (fun w g1 g2 => implCheck_yes (.slice qa qs.length qc) (.slice fa fs.length fc) qs fs w g1 g2 hs hz hx)
  have HI := Lib.hid hx
  have HQ := Lib.hid (idx_iff hx).1
  have HF3 : Hid (fs.length = 3) := Lib.hid (by rw [(idx_iff hx).2, fldTo_len])
  clear h1 h2 h3 h4 hs hz hv ho hx ht hlr
  go_enter Tryd.func47, Tryd.ntmps47
  go_wp2_with fail
  generalize (w.alloc (.cells #[.slice qa qs.length qc, .slice fa fs.length fc] 49)) = W at *
  refine (HX.out W (slR_below tQuery_law H1.out d.out) (slR_below tSpanS_law H2.out d.out)).mono ?_
  rintro e w1 ⟨s0, s1, s2, rfl, hci, c1⟩
  replace B0 := Lib.hid ((c1.block w.heap.size (Array.getElem?_eq_some_iff.1 B0.out).1).trans B0.out)
  replace d := Lib.hid (d.out.trans (c1.mono d.out.size))
  clear c1
  obtain ⟨ta0, cp0, rfl⟩ := slR_len hci.1
  obtain ⟨ta1, cp1, rfl⟩ := slR_len hci.2.1
  obtain ⟨ta2, cp2, rfl⟩ := slR_len hci.2.2
  generalize (fs.getD 0 []).length = ln0 at *
  generalize (fs.getD 1 []).length = ln1 at *
  generalize (fs.getD 2 []).length = ln2 at *
  have HCI := Lib.hid hci
  clear hci
  have hmx := maskL_lt (allL qs)
  generalize hm : maskL (allL qs) = m at *
  have HM := Lib.hid hm
  have HMX := Lib.hid hmx
  clear hm hmx
  clear B0
  go_wp2_with fail
  have hal : Below w1.heap.size w1 (w1.alloc (.cells #[.int .u32 (m : Int), .slice ta0 ln0 cp0, .slice ta1 ln1 cp1, .slice ta2 ln2 cp2] 109)) := (Below.refl _ _).alloc (Nat.le_refl _) _
  have B2 : Hid ((w1.alloc (.cells #[.int .u32 (m : Int), .slice ta0 ln0 cp0, .slice ta1 ln1 cp1, .slice ta2 ln2 cp2] 109)).heap[w1.heap.size]? = some (.cells #[.int .u32 (m : Int), .slice ta0 ln0 cp0, .slice ta1 ln1 cp1, .slice ta2 ln2 cp2] 109 (0, 0))) := Lib.hid (heap_alloc_new _ _)
  replace HCI := Lib.hid (ci_below HCI.out hal)
  replace d := Lib.hid (d.out.trans (hal.mono d.out.size))
  clear hal
  generalize (w1.alloc (.cells #[.int .u32 (m : Int), .slice ta0 ln0 cp0, .slice ta1 ln1 cp1, .slice ta2 ln2 cp2] 109)) = W2 at *
  refine (HO.out W2 (ints_below H4.out d.out) (HT.out.on d.out)).mono ?_
  rintro e w3 ⟨hor, c2⟩
  replace B2 := Lib.hid ((c2.block w1.heap.size (Array.getElem?_eq_some_iff.1 B2.out).1).trans B2.out)
  replace HCI := Lib.hid (ci_below HCI.out c2)
  replace d := Lib.hid (d.out.trans (c2.mono d.out.size))
  clear c2
  rcases hor with ⟨ho, rfl⟩ | ⟨ho, rfl⟩
  ·
   have x0 := order_range ho 0 (by omega); have x1 := order_range ho 1 (by omega); have x2 := order_range ho 2 (by omega)
   have HX0 := Lib.hid x0; have HX1 := Lib.hid x1; have HX2 := Lib.hid x2
   clear x0 x1 x2
   have HE := Lib.hid (work_keys (rs := rs) HI.out ho)
   rw [HM.out] at HE
   clear ho
   generalize os.getD 0 0 = y0 at *
   generalize os.getD 1 0 = y1 at *
   generalize os.getD 2 0 = y2 at *
   go_wp2
   have hal : Below w3.heap.size w3 (w3.alloc (.cells #[.int .i64 y0, .int .i64 y1, .int .i64 y2] 113)) := (Below.refl _ _).alloc (Nat.le_refl _) _
   have B3 : Hid ((w3.alloc (.cells #[.int .i64 y0, .int .i64 y1, .int .i64 y2] 113)).heap[w3.heap.size]? = some (.cells #[.int .i64 y0, .int .i64 y1, .int .i64 y2] 113 (0, 0))) := Lib.hid (heap_alloc_new _ _)
   replace B2 := Lib.hid ((hal.block w1.heap.size (Array.getElem?_eq_some_iff.1 B2.out).1).trans B2.out)
   replace HCI := Lib.hid (ci_below HCI.out hal)
   replace d := Lib.hid (d.out.trans (hal.mono d.out.size))
   clear hal
   generalize (w3.alloc (.cells #[.int .i64 y0, .int .i64 y1, .int .i64 y2] 113)) = W4 at *
   have p_B2_0 := (cell_of_row W4 _ 0 _ _ _ B2.out).trans (show _ = some (Value.int .u32 (m : Int)) from rfl)
   have p_B2_1 := (cell_of_row W4 _ 1 _ _ _ B2.out).trans (show _ = some (Value.slice ta0 ln0 cp0) from rfl)
   have p_B2_2 := (cell_of_row W4 _ 2 _ _ _ B2.out).trans (show _ = some (Value.slice ta1 ln1 cp1) from rfl)
   have p_B2_3 := (cell_of_row W4 _ 3 _ _ _ B2.out).trans (show _ = some (Value.slice ta2 ln2 cp2) from rfl)
   have p_B3_0 := (cell_of_row W4 _ 0 _ _ _ B3.out).trans (show _ = some (Value.int .i64 y0) from rfl)
   have p_B3_1 := (cell_of_row W4 _ 1 _ _ _ B3.out).trans (show _ = some (Value.int .i64 y1) from rfl)
   have p_B3_2 := (cell_of_row W4 _ 2 _ _ _ B3.out).trans (show _ = some (Value.int .i64 y2) from rfl)
   refine wp_region_held_drew (S := fun w' => w'.cell? ⟨w1.heap.size, 0, none⟩ = some (Value.int .u32 (m : Int)) ∧ w'.cell? ⟨w1.heap.size, 1, none⟩ = some (Value.slice ta0 ln0 cp0) ∧ w'.cell? ⟨w1.heap.size, 2, none⟩ = some (Value.slice ta1 ln1 cp1) ∧ w'.cell? ⟨w1.heap.size, 3, none⟩ = some (Value.slice ta2 ln2 cp2) ∧ w'.cell? ⟨w3.heap.size, 0, none⟩ = some (Value.int .i64 y0) ∧ w'.cell? ⟨w3.heap.size, 1, none⟩ = some (Value.int .i64 y1) ∧ w'.cell? ⟨w3.heap.size, 2, none⟩ = some (Value.int .i64 y2)) (by kernel_rfl) ⟨p_B2_0, p_B2_1, p_B2_2, p_B2_3, p_B3_0, p_B3_1, p_B3_2⟩ (fun hHeld => ?_)
   clear p_B2_0 p_B2_1 p_B2_2 p_B2_3 p_B3_0 p_B3_1 p_B3_2
   have cdr : Below W4.heap.size W4 W4.drew := below_drew (Below.refl _ _)
   replace B2 := Lib.hid ((cdr.block w1.heap.size (Array.getElem?_eq_some_iff.1 B2.out).1).trans B2.out)
   replace B3 := Lib.hid ((cdr.block w3.heap.size (Array.getElem?_eq_some_iff.1 B3.out).1).trans B3.out)
   replace HCI := Lib.hid (ci_below HCI.out cdr)
   replace d := Lib.hid (d.out.trans (cdr.mono d.out.size))
   clear cdr
   refine tR (i := 0) (v := ?_) ?_ ?_; rotate_left
   ·
    intro w hSw; (try dsimp only at hSw); go_simp; try (with_reducible rfl)
   try simp only [Act.put, lA, lB, lC]
   refine tR (i := 1) (v := ?_) ?_ ?_; rotate_left
   ·
    intro w hSw; (try dsimp only at hSw); go_simp; try (with_reducible rfl)
   try simp only [Act.put, lA, lB, lC]
   refine tR (i := 2) (v := ?_) ?_ ?_; rotate_left
   ·
    intro w hSw; (try dsimp only at hSw); go_simp; try (with_reducible rfl)
   try simp only [Act.put, lA, lB, lC]
   refine tR (i := 4) (v := ?_) ?_ ?_; rotate_left
   ·
    intro w hSw; (try dsimp only at hSw); go_simp; try (with_reducible rfl)
   try simp only [Act.put, lA, lB, lC]
   refine wpAnyH_ready (rs := [3]) (by kernel_rfl) (by simp) ?_
   refine (AllReadyH.cons (o := _) (by simp only [hA, hB, hC]; rfl) (fun K hK => ?_) AllReadyH.nil)
   go_simp
   refine (implCountSets m (.slice ta0 ln0 cp0) (.slice ta1 ln1 cp1) (.slice ta2 ln2 cp2) fs (.slice ra rs.length rc) rs (W4.drew) HCI.out (slR_rows (slR_below tRow_law H3.out d.out)) HZ.out HF3.out HV.out).mono ?_
   rintro e w6 ⟨rfl, hD, c6⟩
   obtain ⟨D, hown, hcd⟩ := hD
   have HOW := Lib.hid hown; have HCD := Lib.hid hcd
   clear hown hcd
   replace B2 := Lib.hid ((c6.block w1.heap.size (Array.getElem?_eq_some_iff.1 B2.out).1).trans B2.out)
   replace B3 := Lib.hid ((c6.block w3.heap.size (Array.getElem?_eq_some_iff.1 B3.out).1).trans B3.out)
   replace HCI := Lib.hid (ci_below HCI.out c6)
   replace d := Lib.hid (d.out.trans (c6.mono d.out.size))
   clear c6
   have p_B2_0 := (cell_of_row w6 _ 0 _ _ _ B2.out).trans (show _ = some (Value.int .u32 (m : Int)) from rfl)
   have p_B2_1 := (cell_of_row w6 _ 1 _ _ _ B2.out).trans (show _ = some (Value.slice ta0 ln0 cp0) from rfl)
   have p_B2_2 := (cell_of_row w6 _ 2 _ _ _ B2.out).trans (show _ = some (Value.slice ta1 ln1 cp1) from rfl)
   have p_B2_3 := (cell_of_row w6 _ 3 _ _ _ B2.out).trans (show _ = some (Value.slice ta2 ln2 cp2) from rfl)
   have p_B3_0 := (cell_of_row w6 _ 0 _ _ _ B3.out).trans (show _ = some (Value.int .i64 y0) from rfl)
   have p_B3_1 := (cell_of_row w6 _ 1 _ _ _ B3.out).trans (show _ = some (Value.int .i64 y1) from rfl)
   have p_B3_2 := (cell_of_row w6 _ 2 _ _ _ B3.out).trans (show _ = some (Value.int .i64 y2) from rfl)
   refine hK.out _ _ ⟨p_B2_0, p_B2_1, p_B2_2, p_B2_3, p_B3_0, p_B3_1, p_B3_2⟩ (fun hHeld => ?_)
   clear p_B2_0 p_B2_1 p_B2_2 p_B2_3 p_B3_0 p_B3_1 p_B3_2
   clear hK K
   try simp only [Act.put, lA, lB, lC]
   refine wpAnyH_ready (rs := [5]) (by kernel_rfl) (by simp) ?_
   refine (AllReadyH.cons (o := _) (by simp only [hA, hB, hC]; rfl) (fun K hK => ?_) AllReadyH.nil)
   go_simp
   refine (implWorkOfMap m (.slice ta0 ln0 cp0) (.slice ta1 ln1 cp1) (.slice ta2 ln2 cp2) _ rs.length D (keysTo fs rs rs.length) y0 y1 y2 w6 HOW.out HCD.out (Nat.le_trans (keysTo_len fs rs rs.length) HLR.out) (fun k hk => keys_are hk) HMX.out HX0.out HX1.out HX2.out).mono ?_
   rintro e w7 ⟨rfl, c7⟩
   replace B2 := Lib.hid ((c7.block w1.heap.size (Array.getElem?_eq_some_iff.1 B2.out).1).trans B2.out)
   replace B3 := Lib.hid ((c7.block w3.heap.size (Array.getElem?_eq_some_iff.1 B3.out).1).trans B3.out)
   replace HCI := Lib.hid (ci_below HCI.out c7)
   replace d := Lib.hid (d.out.trans (c7.mono d.out.size))
   clear c7 HOW HCD
   rw [HE.out]
   have p_B2_0 := (cell_of_row w7 _ 0 _ _ _ B2.out).trans (show _ = some (Value.int .u32 (m : Int)) from rfl)
   have p_B2_1 := (cell_of_row w7 _ 1 _ _ _ B2.out).trans (show _ = some (Value.slice ta0 ln0 cp0) from rfl)
   have p_B2_2 := (cell_of_row w7 _ 2 _ _ _ B2.out).trans (show _ = some (Value.slice ta1 ln1 cp1) from rfl)
   have p_B2_3 := (cell_of_row w7 _ 3 _ _ _ B2.out).trans (show _ = some (Value.slice ta2 ln2 cp2) from rfl)
   have p_B3_0 := (cell_of_row w7 _ 0 _ _ _ B3.out).trans (show _ = some (Value.int .i64 y0) from rfl)
   have p_B3_1 := (cell_of_row w7 _ 1 _ _ _ B3.out).trans (show _ = some (Value.int .i64 y1) from rfl)
   have p_B3_2 := (cell_of_row w7 _ 2 _ _ _ B3.out).trans (show _ = some (Value.int .i64 y2) from rfl)
   refine hK.out _ _ ⟨p_B2_0, p_B2_1, p_B2_2, p_B2_3, p_B3_0, p_B3_1, p_B3_2⟩ (fun hHeld => ?_)
   clear p_B2_0 p_B2_1 p_B2_2 p_B2_3 p_B3_0 p_B3_1 p_B3_2
   clear hK K
   try simp only [Act.put, lA, lB, lC]
   refine tR (i := 6) (v := ?_) ?_ ?_; rotate_left
   ·
    intro w hSw; (try dsimp only at hSw); go_simp; try (with_reducible rfl)
   try simp only [Act.put, lA, lB, lC]
   refine wpAnyH_done (by kernel_rfl) ?_ _
   clear hHeld
   go_wp2
   go_ret
   exact ⟨rfl, d.out⟩
  ·
   have HE : Hid (workL qs fs rs os = 0) := Lib.hid (mworkL_no (by rw [ho, Bool.and_false]))
   clear ho B2
   have D := Lib.hid (d.out.alloc d.out.size (.cells #[.int .i64 0, .int .i64 0, .int .i64 0] 113))
   go_wp2
   go_ret
   exact ⟨ty_ret HE.out.symm, D.out⟩
theorem probe_size (qs : List QD) (fs : List (List SpanD)) (rid : Int) (vs os : List Int) : zL tInt (probeB qs fs (rid, vs) os).1 ≤ 1048576 := by
 rw [zL_ints]
 cases h : (isIndexB qs fs && (rowB (rid, vs) && orderB os)) with
 | false => rw [probeB_no h]; decide
 | true =>
  rw [Bool.and_eq_true, Bool.and_eq_true] at h
  rw [← (probe_both h.1 h.2.1 h.2.2).1]
  have := memL_le (probeM (pick3 (setM fs vs 0) (setM fs vs 1) (setM fs vs 2)) [os.getD 0 0, os.getD 1 0, os.getD 2 0] (maskL (allL qs)) 0).1
  omega
theorem resMatchSet {W : World} (ht : OrdT W) (x0 : List QD) (x1 : List (List SpanD)) (rid : Int) (vs : List Int) : ∀ (v0 v1 v2 : Value) (w : World), Below W.heap.size W w → SlR tQuery w v0 x0 → SlR tSpanS w v1 x1 → SlR tInt w v2 vs → zL tQuery x0 + zL tSpanS x1 + zL tInt vs ≤ 1048576 →
  Calls Tryd.prog 39 #[.agg #[v0, v1], .agg #[.int .i64 rid, v2]] w (fun e w' => ∃ (g0 : Value) (G0 : Nat → Prop), e = .returned g0 ∧ SlO 3 tInt w' G0 g0 (probeB x0 x1 (rid, vs) [0, 1, 2]).1 ∧ (∀ b, G0 b → w.heap.size ≤ b) ∧ Below w.heap.size w w') := by
 intro v0 v1 v2 w hB h1 h2 h3 hz
 rw [zL_ints] at hz
 refine (implMatchSet v0 v1 v2 x0 x1 rid vs w h1 h2 (slR_ints h3) (by omega) (by omega) (by omega) (ht.on hB)).mono ?_
 rintro e w' ⟨u, he, ho, hb⟩
 exact ⟨u, since w, he, fresh_ints ho, fun b hb => hb, hb⟩
theorem resProbeSet {W : World} (ht : OrdT W) (x0 : List QD) (x1 : List (List SpanD)) (rid : Int) (vs os : List Int) : ∀ (v0 v1 v2 v3 : Value) (w : World), Below W.heap.size W w → SlR tQuery w v0 x0 → SlR tSpanS w v1 x1 → SlR tInt w v2 vs → SlR tInt w v3 os → zL tQuery x0 + zL tSpanS x1 + zL tInt vs ≤ 1048576 → os.length ≤ 1048576 →
  Calls Tryd.prog 35 #[.agg #[v0, v1], .agg #[.int .i64 rid, v2], v3] w (fun e w' => ∃ (g0 : Value) (G0 : Nat → Prop), e = .returned (.tuple #[g0, .int .i64 (probeB x0 x1 (rid, vs) os).2]) ∧ SlO 3 tInt w' G0 g0 (probeB x0 x1 (rid, vs) os).1 ∧ (∀ b, G0 b → w.heap.size ≤ b) ∧ Below w.heap.size w w') := by
 intro v0 v1 v2 v3 w hB h1 h2 h3 h4 hz ho
 rw [zL_ints] at hz
 refine (implProbeSet v0 v1 v2 v3 x0 x1 rid vs os w h1 h2 (slR_ints h3) (slR_ints h4) (by omega) (by omega) (by omega) ho (ht.on hB)).mono ?_
 rintro e w' ⟨u, he, ho, hb⟩
 exact ⟨u, since w, he, fresh_ints ho, fun b hb => hb, hb⟩
theorem resWorkOf {W : World} (ht : OrdT W) (x0 : List QD) (x1 : List (List SpanD)) (rs : List RowD) (os : List Int) : ∀ (v0 v1 v2 v3 : Value) (w : World), Below W.heap.size W w → SlR tQuery w v0 x0 → SlR tSpanS w v1 x1 → SlR tRow w v2 rs → SlR tInt w v3 os → zL tQuery x0 + zL tSpanS x1 + zL tRow rs ≤ 1048576 → os.length ≤ 1048576 →
  Calls Tryd.prog 47 #[.agg #[v0, v1], v2, v3] w (fun e w' => e = .returned (.int .i64 (workL x0 x1 rs os)) ∧ Below w.heap.size w w') :=
 fun v0 v1 v2 v3 w hB h1 h2 h3 h4 hz ho => implWorkOf v0 v1 v2 v3 x0 x1 rs os w h1 h2 h3 (slR_ints h4) (by omega) (by omega) (by omega) ho (ht.on hB)
end Go.Proofs.YtededfficggkaaaDoor
