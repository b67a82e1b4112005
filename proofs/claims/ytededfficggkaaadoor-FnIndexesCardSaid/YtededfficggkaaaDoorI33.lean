/-
 Texts of the proof, merged: WorkKeys, BestP.
-/
import Derived.Test.YtededfficggkaaaDoorI28
import Derived.Test.YtededfficggkaaaDoorI32
namespace Go.Proofs.YtededfficggkaaaDoor
open Go.RowKit
set_option linter.unusedVariables false
set_option linter.unusedSimpArgs false
theorem listK3 {os : List Int} (h : os.length = 3) : os = [os.getD 0 0, os.getD 1 0, os.getD 2 0] := by
 match os, h with
 | [a, b, c], _ => rfl
theorem keys_work {qs : List QD} {fs : List (List SpanD)} {rs : List RowD} {os : List Int} (hx : isIndexB qs fs = true) (ho : orderB os = true) :
  ((keysTo fs rs rs.length).map (gK (maskL (allL qs)) [os.getD 0 0, os.getD 1 0, os.getD 2 0])).sum = workL qs fs rs os := by
 rw [← listK3 (order_len ho), mworkL_yes hx ho]
 unfold keysTo
 rw [List.take_length, List.map_map]
 congr 1
 apply List.map_congr_left
 intro r _
 exact gK_at (setM_lt ..) (setM_lt ..) (setM_lt ..)
theorem turn_grownBy {w w' : World} {b : Nat} (t : Turn (fun x => x = b) w w') : w.grownBy w' (some b) := ⟨t.os, t.tape, t.output, t.size, fun i hi hne => t.block i hi (fun e => hne (by rw [e]))⟩
/-- The best order so far, field by field. -/
def bK (f : List Int → Int) (k j : Nat) : Int := ((bestK f k).1).getD j 0
theorem bK_list (f : List Int → Int) {k : Nat} (h : k ≤ 6) : (bestK f k).1 = [bK f k 0, bK f k 1, bK f k 2] := by
 have := (bestK_mem f k h).1
 unfold bK
 simp only [ordersL, List.mem_cons, List.not_mem_nil, or_false] at this
 rcases this with e | e | e | e | e | e <;> rw [e] <;> rfl
theorem bK_less (f : List Int → Int) {k : Nat} (hk : k < 6) (h : f [oN k 0, oN k 1, oN k 2] < (bestK f k).2) : (bestK f (k + 1)).2 = f [oN k 0, oN k 1, oN k 2] ∧ bK f (k + 1) 0 = oN k 0 ∧ bK f (k + 1) 1 = oN k 1 ∧ bK f (k + 1) 2 = oN k 2 := by
 rw [← oN_list hk] at h ⊢
 unfold bK
 rw [show bestK f (k + 1) = (ordersL.getD k [], f (ordersL.getD k [])) from by rw [bestK, if_pos h]]
 exact ⟨rfl, rfl, rfl, rfl⟩
theorem bK_stay (f : List Int → Int) {k : Nat} (hk : k < 6) (h : ¬ f [oN k 0, oN k 1, oN k 2] < (bestK f k).2) : bestK f (k + 1) = bestK f k := by
 rw [← oN_list hk] at h
 rw [bestK, if_neg h]
theorem oN_range {k : Nat} (h : k < 6) (j : Nat) (hj : j < 3) : 0 ≤ oN k j ∧ oN k j ≤ 2 := by
 rcases (show k = 0 ∨ k = 1 ∨ k = 2 ∨ k = 3 ∨ k = 4 ∨ k = 5 by omega) with rfl | rfl | rfl | rfl | rfl | rfl <;> rcases (show j = 0 ∨ j = 1 ∨ j = 2 by omega) with rfl | rfl | rfl <;> decide
theorem keys_sum {qs : List QD} {fs : List (List SpanD)} {rs : List RowD} (hx : isIndexB qs fs = true) {x0 x1 x2 : Int} (ho : orderB [x0, x1, x2] = true) :
  ((keysTo fs rs rs.length).map (gK (maskL (allL qs)) [x0, x1, x2])).sum = workL qs fs rs [x0, x1, x2] := keys_work (os := [x0, x1, x2]) hx ho
theorem best_size (qs : List QD) (fs : List (List SpanD)) (rs : List RowD) : zL tInt (bestL qs fs rs) ≤ 1048576 := by
 rw [zL_ints]
 cases hx : isIndexB qs fs with
 | false => rw [mbestL_no hx]; decide
 | true => rw [mbestL_yes hx, bK_list _ (Nat.le_refl 6)]; show 3 ≤ 1048576; omega
set_option maxHeartbeats 32000000 in
set_option maxRecDepth 100000 in
theorem implBestOrder (qv fv rv : Value) (qs : List QD) (fs : List (List SpanD)) (rs : List RowD) (w : World) (h1 : SlR tQuery w qv qs) (h2 : SlR tSpanS w fv fs) (h3 : SlR tRow w rv rs) (hs : zL tQuery qs ≤ 1048576) (hz : zL tSpanS fs ≤ 1048576) (hv : zL tRow rs ≤ 1048576) (ht : OrdT w) :
  Calls Tryd.prog 44 #[.agg #[qv, fv], rv] w fun e w' => ∃ (g0 : Value) (G0 : Nat → Prop), e = .returned g0 ∧ SlO 113 tInt w' G0 g0 (bestL qs fs rs) ∧ (∀ b, G0 b → w.heap.size ≤ b) ∧ Below w.heap.size w w' := by
 obtain ⟨qa, qc, rfl⟩ := slR_len h1
 obtain ⟨fa, fc, rfl⟩ := slR_len h2
 obtain ⟨ra, rc, rfl⟩ := slR_len h3
 have HV : Hid (szL rs ≤ 1048576) := Lib.hid (by rw [← zL_rows]; exact hv)
 have HLR := Lib.hid (zL_len hv)
 have d := Lib.hid ((Below.refl w.heap.size w).alloc (Nat.le_refl _) (.cells #[.slice qa qs.length qc, .slice fa fs.length fc] 49))
 have B0 : Hid ((w.alloc (.cells #[.slice qa qs.length qc, .slice fa fs.length fc] 49)).heap[w.heap.size]? = some (.cells #[.slice qa qs.length qc, .slice fa fs.length fc] 49 (0, 0))) := Lib.hid (heap_alloc_new w _)
 have H1 := Lib.hid h1; have H2 := Lib.hid h2; have H3 := Lib.hid h3; have HT := Lib.hid ht
 have HZ := Lib.hid hz
 cases hx : isIndexB qs fs with
 | false =>
  have HX := Lib.hid (fun w g1 g2 => implCheck_no (.slice qa qs.length qc) (.slice fa fs.length fc) qs fs w g1 g2 hs hz hx)
  have HE : Hid (bestL qs fs rs = []) := Lib.hid (mbestL_no hx)
  clear h1 h2 h3 hs hz hv hx ht
  go_enter Tryd.func44, Tryd.ntmps44
  go_wp2_with fail
  generalize (w.alloc (.cells #[.slice qa qs.length qc, .slice fa fs.length fc] 49)) = W at *
  refine (HX.out W (slR_below tQuery_law H1.out d.out) (slR_below tSpanS_law H2.out d.out)).mono ?_
  rintro e w1 ⟨rfl, c1⟩
  replace B0 := Lib.hid ((c1.block w.heap.size (Array.getElem?_eq_some_iff.1 B0.out).1).trans B0.out)
  replace d := Lib.hid (d.out.trans (c1.mono d.out.size))
  clear c1
  have D := Lib.hid (d.out.alloc d.out.size (.cells #[.int .u32 0, .slice none 0 0, .slice none 0 0, .slice none 0 0] 109))
  go_wp2
  go_ret
  exact ⟨_, fun _ => False, rfl, by rw [HE.out]; exact slO_nil _ _ _ _, fun b h => h.elim, D.out⟩
 | true =>
  have HX := Lib.hid (fun w g1 g2 => implCheck_yes (.slice qa qs.length qc) (.slice fa fs.length fc) qs fs w g1 g2 hs hz hx)
  have HI := Lib.hid hx
  have HE : Hid (bestL qs fs rs = (bestK (workL qs fs rs) 6).1) := Lib.hid (mbestL_yes hx)
  have HF3 : Hid (fs.length = 3) := Lib.hid (by rw [(idx_iff hx).2, fldTo_len])
  clear h1 h2 h3 hs hz hv hx ht
  go_enter Tryd.func44, Tryd.ntmps44
  go_wp2_with fail
  generalize (w.alloc (.cells #[.slice qa qs.length qc, .slice fa fs.length fc] 49)) = W at *
  refine (HX.out W (slR_below tQuery_law H1.out d.out) (slR_below tSpanS_law H2.out d.out)).mono ?_
  rintro e w1 ⟨s0, s1, s2, rfl, hci, c1⟩
  have HSZ1 : Hid (w.heap.size ≤ w1.heap.size) := Lib.hid (Nat.le_trans d.out.size c1.size)
  replace B0 := Lib.hid ((c1.block w.heap.size (Array.getElem?_eq_some_iff.1 B0.out).1).trans B0.out)
  replace d := Lib.hid (d.out.trans (c1.mono d.out.size))
  clear c1
  obtain ⟨ta0, cp0, rfl⟩ := slR_len hci.1
  obtain ⟨ta1, cp1, rfl⟩ := slR_len hci.2.1
  obtain ⟨ta2, cp2, rfl⟩ := slR_len hci.2.2
  generalize (fs.getD 0 []).length = ln0 at *
  generalize (fs.getD 1 []).length = ln1 at *
  generalize (fs.getD 2 []).length = ln2 at *
  have HCI := Lib.hid hci
  clear hci
  have hmx := maskL_lt (allL qs)
  generalize hm : maskL (allL qs) = m at *
  have HM := Lib.hid hm
  have HMX := Lib.hid hmx
  clear hm hmx
  clear B0
  go_wp2_with fail
  have hal : Below w1.heap.size w1 (w1.alloc (.cells #[.int .u32 (m : Int), .slice ta0 ln0 cp0, .slice ta1 ln1 cp1, .slice ta2 ln2 cp2] 109)) := (Below.refl _ _).alloc (Nat.le_refl _) _
  have B2 : Hid ((w1.alloc (.cells #[.int .u32 (m : Int), .slice ta0 ln0 cp0, .slice ta1 ln1 cp1, .slice ta2 ln2 cp2] 109)).heap[w1.heap.size]? = some (.cells #[.int .u32 (m : Int), .slice ta0 ln0 cp0, .slice ta1 ln1 cp1, .slice ta2 ln2 cp2] 109 (0, 0))) := Lib.hid (heap_alloc_new _ _)
  replace HCI := Lib.hid (ci_below HCI.out hal)
  replace d := Lib.hid (d.out.trans (hal.mono d.out.size))
  clear hal
  generalize (w1.alloc (.cells #[.int .u32 (m : Int), .slice ta0 ln0 cp0, .slice ta1 ln1 cp1, .slice ta2 ln2 cp2] 109)) = W2 at *
  have HB2S : Hid (w1.heap.size < W2.heap.size) := Lib.hid (Array.getElem?_eq_some_iff.1 B2.out).1
  have HBN : Hid (w.heap.size ≤ w1.heap.size) := Lib.hid (HSZ1.out)
  refine (implCountSets m (.slice ta0 ln0 cp0) (.slice ta1 ln1 cp1) (.slice ta2 ln2 cp2) fs (.slice ra rs.length rc) rs W2 HCI.out (slR_rows (slR_below tRow_law H3.out d.out)) HZ.out HF3.out HV.out).mono ?_
  rintro e w3 ⟨rfl, hD, c3⟩
  obtain ⟨D, hown, hcd⟩ := hD
  have HOW := Lib.hid hown; have HCD := Lib.hid hcd
  clear hown hcd
  replace B2 := Lib.hid ((c3.block w1.heap.size (Array.getElem?_eq_some_iff.1 B2.out).1).trans B2.out)
  replace HCI := Lib.hid (ci_below HCI.out c3)
  replace d := Lib.hid (d.out.trans (c3.mono d.out.size))
  clear c3
  have HYM := Lib.hid HOW.out.lt
  have HW12 : Hid (w1.heap.size < W2.heap.size + 1) := Lib.hid (by have := (Array.getElem?_eq_some_iff.1 B2.out).1; have := HYM.out; have : w1.heap.size < W2.heap.size := HB2S.out; omega)
  generalize hbm : W2.heap.size + 1 = bm at *
  clear hbm
  have T3 := HT.out.on d.out
  have t0 : w3.cell? ⟨0, 0, none⟩ = some (.int .i64 0) := T3 0 (by omega)
  have t1 : w3.cell? ⟨0, 1, none⟩ = some (.int .i64 1) := T3 1 (by omega)
  have t2 : w3.cell? ⟨0, 2, none⟩ = some (.int .i64 2) := T3 2 (by omega)
  have hal : Below w3.heap.size w3 (w3.alloc (.cells #[.int .i64 0, .int .i64 1, .int .i64 2] 113)) := (Below.refl _ _).alloc (Nat.le_refl _) _
  have k2 := (hal.block w1.heap.size (Array.getElem?_eq_some_iff.1 B2.out).1).trans B2.out
  have p0 := (cell_of_row (w3.alloc (.cells #[.int .i64 0, .int .i64 1, .int .i64 2] 113)) _ 0 _ _ _ k2).trans (show _ = some (Value.int .u32 (m : Int)) from rfl)
  have p1 := (cell_of_row (w3.alloc (.cells #[.int .i64 0, .int .i64 1, .int .i64 2] 113)) _ 1 _ _ _ k2).trans (show _ = some (Value.slice ta0 ln0 cp0) from rfl)
  have p2 := (cell_of_row (w3.alloc (.cells #[.int .i64 0, .int .i64 1, .int .i64 2] 113)) _ 2 _ _ _ k2).trans (show _ = some (Value.slice ta1 ln1 cp1) from rfl)
  have p3 := (cell_of_row (w3.alloc (.cells #[.int .i64 0, .int .i64 1, .int .i64 2] 113)) _ 3 _ _ _ k2).trans (show _ = some (Value.slice ta2 ln2 cp2) from rfl)
  clear hal k2 T3
  go_wp2_with fail
  clear p0 p1 p2 p3 t0 t1 t2
  replace HOW := Lib.hid (HOW.out.alloc (.cells #[.int .i64 0, .int .i64 1, .int .i64 2] 113))
  have hal : Below w3.heap.size w3 (w3.alloc (.cells #[.int .i64 0, .int .i64 1, .int .i64 2] 113)) := (Below.refl _ _).alloc (Nat.le_refl _) _
  have B3 : Hid ((w3.alloc (.cells #[.int .i64 0, .int .i64 1, .int .i64 2] 113)).heap[w3.heap.size]? = some (.cells #[.int .i64 0, .int .i64 1, .int .i64 2] 113 (0, 0))) := Lib.hid (heap_alloc_new _ _)
  replace B2 := Lib.hid ((hal.block w1.heap.size (Array.getElem?_eq_some_iff.1 B2.out).1).trans B2.out)
  replace HCI := Lib.hid (ci_below HCI.out hal)
  replace d := Lib.hid (d.out.trans (hal.mono d.out.size))
  clear hal
  generalize (w3.alloc (.cells #[.int .i64 0, .int .i64 1, .int .i64 2] 113)) = W4 at *
  have Y3 : Hid (w3.heap.size < W4.heap.size) := Lib.hid (Array.getElem?_eq_some_iff.1 B3.out).1
  refine (implWorkOfMap m (.slice ta0 ln0 cp0) (.slice ta1 ln1 cp1) (.slice ta2 ln2 cp2) _ rs.length D (keysTo fs rs rs.length) 0 1 2 W4 HOW.out HCD.out (Nat.le_trans (keysTo_len fs rs rs.length) HLR.out) (fun k hk => keys_are hk) HMX.out ⟨by omega, by omega⟩ ⟨by omega, by omega⟩ ⟨by omega, by omega⟩).mono ?_
  rintro e w5 ⟨rfl, c5⟩
  replace HOW := Lib.hid (HOW.out.kept (below_grown c5 none) (by simp))
  have Y5 : Hid (w3.heap.size < w5.heap.size) := Lib.hid (Nat.lt_of_lt_of_le Y3.out c5.size)
  replace B2 := Lib.hid ((c5.block w1.heap.size (Array.getElem?_eq_some_iff.1 B2.out).1).trans B2.out)
  replace B3 := Lib.hid ((c5.block w3.heap.size (Array.getElem?_eq_some_iff.1 B3.out).1).trans B3.out)
  replace HCI := Lib.hid (ci_below HCI.out c5)
  replace d := Lib.hid (d.out.trans (c5.mono d.out.size))
  clear c5 Y3
  have HK0 : Hid (((keysTo fs rs rs.length).map (gK m [0, 1, 2])).sum = workL qs fs rs [0, 1, 2]) := Lib.hid (by have := keys_sum (rs := rs) HI.out (x0 := 0) (x1 := 1) (x2 := 2) (by decide); rw [HM.out] at this; exact this)
  rw [HK0.out]
  have HKS : Hid (∀ k, k < 6 → ((keysTo fs rs rs.length).map (gK m [oN k 0, oN k 1, oN k 2])).sum = workL qs fs rs [oN k 0, oN k 1, oN k 2]) := Lib.hid (fun k hk => by have := keys_sum (rs := rs) HI.out (oN_in hk); rw [HM.out] at this; exact this)
  have BF0 : Hid ((bestK (workL qs fs rs) 0).2 = workL qs fs rs [0, 1, 2] ∧ bK (workL qs fs rs) 0 0 = 0 ∧ bK (workL qs fs rs) 0 1 = 1 ∧ bK (workL qs fs rs) 0 2 = 2) := Lib.hid ⟨rfl, rfl, rfl, rfl⟩
  generalize workL qs fs rs = f at *
  have T5 := HT.out.on d.out
  have t0 : w5.cell? ⟨0, 0, none⟩ = some (.int .i64 0) := T5 0 (by omega)
  have t1 : w5.cell? ⟨0, 1, none⟩ = some (.int .i64 1) := T5 1 (by omega)
  have t2 : w5.cell? ⟨0, 2, none⟩ = some (.int .i64 2) := T5 2 (by omega)
  have t3 : w5.cell? ⟨0, 3, none⟩ = some (.int .i64 0) := T5 3 (by omega)
  have t4 : w5.cell? ⟨0, 4, none⟩ = some (.int .i64 2) := T5 4 (by omega)
  have t5 : w5.cell? ⟨0, 5, none⟩ = some (.int .i64 1) := T5 5 (by omega)
  have t6 : w5.cell? ⟨0, 6, none⟩ = some (.int .i64 1) := T5 6 (by omega)
  have t7 : w5.cell? ⟨0, 7, none⟩ = some (.int .i64 0) := T5 7 (by omega)
  have t8 : w5.cell? ⟨0, 8, none⟩ = some (.int .i64 2) := T5 8 (by omega)
  have t9 : w5.cell? ⟨0, 9, none⟩ = some (.int .i64 1) := T5 9 (by omega)
  have t10 : w5.cell? ⟨0, 10, none⟩ = some (.int .i64 2) := T5 10 (by omega)
  have t11 : w5.cell? ⟨0, 11, none⟩ = some (.int .i64 0) := T5 11 (by omega)
  have t12 : w5.cell? ⟨0, 12, none⟩ = some (.int .i64 2) := T5 12 (by omega)
  have t13 : w5.cell? ⟨0, 13, none⟩ = some (.int .i64 0) := T5 13 (by omega)
  have t14 : w5.cell? ⟨0, 14, none⟩ = some (.int .i64 1) := T5 14 (by omega)
  have t15 : w5.cell? ⟨0, 15, none⟩ = some (.int .i64 2) := T5 15 (by omega)
  have t16 : w5.cell? ⟨0, 16, none⟩ = some (.int .i64 1) := T5 16 (by omega)
  have t17 : w5.cell? ⟨0, 17, none⟩ = some (.int .i64 0) := T5 17 (by omega)
  clear T5
  go_wp2
  clear t0 t1 t2 t3 t4 t5 t6 t7 t8 t9 t10 t11 t12 t13 t14 t15 t16 t17
  generalize hbb : w3.heap.size = bb at *
  have HBB := Lib.hid hbb
  have HMB : Hid (bm < bb) := Lib.hid HYM.out
  have HNB : Hid (w1.heap.size < bb) := Lib.hid (by have := HMB.out; have := HW12.out; omega)
  have HWB : Hid (w.heap.size ≤ bb) := Lib.hid (by have := HNB.out; have := HBN.out; omega)
  clear hbb
  go_loopw [9, 30] (fun s i wr => ∃ k : Nat, k ≤ 6 ∧ i = .int .i64 k ∧ s = .int .i64 (bestK f k).2 ∧ Hid (wr.heap[w1.heap.size]? = some (.cells #[.int .u32 (m : Int), .slice ta0 ln0 cp0, .slice ta1 ln1 cp1, .slice ta2 ln2 cp2] 109 (0, 0))) ∧ Hid (wr.heap[bb]? = some (.cells #[.int .i64 (bK f k 0), .int .i64 (bK f k 1), .int .i64 (bK f k 2)] 113 (0, 0))) ∧ Hid (wr.ownsMap Tryd.prog 119 (plainElem (H := Unit) Tryd.prog 3) bm rs.length D) ∧ Hid (Below w.heap.size w wr)) (fun _ i _ => 6 - (intOf i).toNat)
  case atStart => exact ⟨0, Nat.zero_le _, rfl, by rw [BF0.out.1], B2, by rw [BF0.out.2.1, BF0.out.2.2.1, BF0.out.2.2.2]; exact B3, HOW, d⟩
  case round =>
   clear B2 B3 HOW d BF0 HK0
   obtain ⟨k, hk, rfl, rfl, B2, B3, HOW, d⟩ := hrel
   by_cases hlt : k < 6
   ·
    have hI := idxO hlt
    have i1 : (0 : Int) ≤ (k : Int) := by omega
    have i2 : (k : Int) < 6 := by omega
    have HX0 := Lib.hid (oN_range hlt 0 (by omega)); have HX1 := Lib.hid (oN_range hlt 1 (by omega)); have HX2 := Lib.hid (oN_range hlt 2 (by omega))
    have HSUM := Lib.hid (HKS.out k hlt)
    have HLESS := Lib.hid (bK_less f hlt)
    have HSTAY := Lib.hid (bK_stay f hlt)
    generalize oN k 0 = y0 at *
    generalize oN k 1 = y1 at *
    generalize oN k 2 = y2 at *
    have hal : Below wr.heap.size wr (wr.alloc (.cells #[.int .i64 y0, .int .i64 y1, .int .i64 y2] 113)) := (Below.refl _ _).alloc (Nat.le_refl _) _
    have k2 := (hal.block w1.heap.size (Array.getElem?_eq_some_iff.1 B2.out).1).trans B2.out
    have p0 := (cell_of_row (wr.alloc (.cells #[.int .i64 y0, .int .i64 y1, .int .i64 y2] 113)) _ 0 _ _ _ k2).trans (show _ = some (Value.int .u32 (m : Int)) from rfl)
    have p1 := (cell_of_row (wr.alloc (.cells #[.int .i64 y0, .int .i64 y1, .int .i64 y2] 113)) _ 1 _ _ _ k2).trans (show _ = some (Value.slice ta0 ln0 cp0) from rfl)
    have p2 := (cell_of_row (wr.alloc (.cells #[.int .i64 y0, .int .i64 y1, .int .i64 y2] 113)) _ 2 _ _ _ k2).trans (show _ = some (Value.slice ta1 ln1 cp1) from rfl)
    have p3 := (cell_of_row (wr.alloc (.cells #[.int .i64 y0, .int .i64 y1, .int .i64 y2] 113)) _ 3 _ _ _ k2).trans (show _ = some (Value.slice ta2 ln2 cp2) from rfl)
    clear hal k2
    go_wp2_with fail
    clear p0 p1 p2 p3 hI
    replace HOW := Lib.hid (HOW.out.alloc (.cells #[.int .i64 y0, .int .i64 y1, .int .i64 y2] 113))
    have hal : Below wr.heap.size wr (wr.alloc (.cells #[.int .i64 y0, .int .i64 y1, .int .i64 y2] 113)) := (Below.refl _ _).alloc (Nat.le_refl _) _
    have B4 : Hid ((wr.alloc (.cells #[.int .i64 y0, .int .i64 y1, .int .i64 y2] 113)).heap[wr.heap.size]? = some (.cells #[.int .i64 y0, .int .i64 y1, .int .i64 y2] 113 (0, 0))) := Lib.hid (heap_alloc_new _ _)
    replace B2 := Lib.hid ((hal.block w1.heap.size (Array.getElem?_eq_some_iff.1 B2.out).1).trans B2.out)
    replace B3 := Lib.hid ((hal.block bb (Array.getElem?_eq_some_iff.1 B3.out).1).trans B3.out)
    replace d := Lib.hid (d.out.trans (hal.mono d.out.size))
    clear hal
    generalize (wr.alloc (.cells #[.int .i64 y0, .int .i64 y1, .int .i64 y2] 113)) = W6 at *
    refine (implWorkOfMap m (.slice ta0 ln0 cp0) (.slice ta1 ln1 cp1) (.slice ta2 ln2 cp2) _ rs.length D (keysTo fs rs rs.length) y0 y1 y2 W6 HOW.out HCD.out (Nat.le_trans (keysTo_len fs rs rs.length) HLR.out) (fun k hk => keys_are hk) HMX.out HX0.out HX1.out HX2.out).mono ?_
    rintro e w7 ⟨rfl, c7⟩
    replace HOW := Lib.hid (HOW.out.kept (below_grown c7 none) (by simp))
    replace B2 := Lib.hid ((c7.block w1.heap.size (Array.getElem?_eq_some_iff.1 B2.out).1).trans B2.out)
    replace B3 := Lib.hid ((c7.block bb (Array.getElem?_eq_some_iff.1 B3.out).1).trans B3.out)
    replace B4 := Lib.hid ((c7.block wr.heap.size (Array.getElem?_eq_some_iff.1 B4.out).1).trans B4.out)
    replace d := Lib.hid (d.out.trans (c7.mono d.out.size))
    clear c7
    rw [HSUM.out]
    by_cases hlw : f [y0, y1, y2] < (bestK f k).2
    ·
     have HN := Lib.hid (HLESS.out hlw)
     clear HLESS HSTAY HSUM HX0 HX1 HX2
     have yb := HBB.out
     have c0 := (cell_of_row w7 _ 0 _ _ _ B4.out).trans (show _ = some (Value.int .i64 y0) from rfl)
     have c1 := (cell_of_row w7 _ 1 _ _ _ B4.out).trans (show _ = some (Value.int .i64 y1) from rfl)
     have c2 := (cell_of_row w7 _ 2 _ _ _ B4.out).trans (show _ = some (Value.int .i64 y2) from rfl)
     have z0 := (cell_of_row w7 _ 0 _ _ _ B3.out).trans (show _ = some (Value.int .i64 (bK f k 0)) from rfl)
     have g0 := frozen_of_row w7 _ 0 _ _ B3.out
     have z1 := (cell_of_row w7 _ 1 _ _ _ B3.out).trans (show _ = some (Value.int .i64 (bK f k 1)) from rfl)
     have g1 := frozen_of_row w7 _ 1 _ _ B3.out
     have z2 := (cell_of_row w7 _ 2 _ _ _ B3.out).trans (show _ = some (Value.int .i64 (bK f k 2)) from rfl)
     have g2 := frozen_of_row w7 _ 2 _ _ B3.out
     have tt : Turn (fun b => b = bb) w7 (((w7.setCell ⟨bb, 0, none⟩ (.int .i64 y0)).setCell ⟨bb, 1, none⟩ (.int .i64 y1)).setCell ⟨bb, 2, none⟩ (.int .i64 y2)) := ((((Turn.refl (fun b => b = bb) _).trans (turn_set (G := fun b => b = bb) (g := bb) (j := 0) (u := .int .i64 y0) rfl)).trans (turn_set (G := fun b => b = bb) (g := bb) (j := 1) (u := .int .i64 y1) rfl)).trans (turn_set (G := fun b => b = bb) (g := bb) (j := 2) (u := .int .i64 y2) rfl))
     have r := (heap_setCell_same _ bb 2 _ _ (.int .i64 y2) (heap_setCell_same _ bb 1 _ _ (.int .i64 y1) (heap_setCell_same w7 bb 0 _ _ (.int .i64 y0) B3.out)))
     simp at r
     have K3 : Hid ((((w7.setCell ⟨bb, 0, none⟩ (.int .i64 y0)).setCell ⟨bb, 1, none⟩ (.int .i64 y1)).setCell ⟨bb, 2, none⟩ (.int .i64 y2)).heap[bb]? = some (.cells #[.int .i64 y0, .int .i64 y1, .int .i64 y2] 113 (0, 0))) := Lib.hid r
     have yw := HWB.out; have ym := HMB.out; have yn := HNB.out
     have K2 := Lib.hid ((tt.block w1.heap.size (Array.getElem?_eq_some_iff.1 B2.out).1 (fun h => by omega)).trans B2.out)
     have KM := Lib.hid (HOW.out.kept (turn_grownBy tt) (by simp; omega))
     have KD := Lib.hid (below_turn d.out tt (fun b h => by omega) d.out.size)
     clear tt r yb yw ym yn B2 B3 B4 HOW d
     go_wp2
     go_roundw
     case rel => exact ⟨k + 1, by omega, by go_num, by rw [HN.out.1], K2, by rw [HN.out.2.1, HN.out.2.2.1, HN.out.2.2.2]; exact K3, KM, KD⟩
     case measure => simp [intOf]; omega
    ·
     have HN := Lib.hid (HSTAY.out (by first | exact hlw | omega))
     clear HLESS HSTAY HSUM HX0 HX1 HX2 B4
     go_wp2
     go_roundw
     case rel => exact ⟨k + 1, by omega, by go_num, by rw [HN.out], B2, by unfold bK at B3 ⊢; rw [HN.out]; exact B3, HOW, d⟩
     case measure => simp [intOf]; omega
   ·
    obtain rfl : k = 6 := by omega
    have HL := Lib.hid (bK_list f (Nat.le_refl 6))
    have yw := HWB.out
    go_wp2
    go_ret
    exact ⟨_, fun b => b = bb, rfl, by rw [HE.out, HL.out]; exact slX_block B3.out, fun b h => by omega, d.out⟩
end Go.Proofs.YtededfficggkaaaDoor
