/-
 Texts of the proof, merged: IdxSpec8, Cpl6Query, Mpl6Queries, BuildSpec.
-/
import Derived.Test.YtededfficggkaaaDoorI4
import Derived.Test.YtededfficggkaaaDoorI10
import Derived.Test.YtededfficggkaaaDoorI11
import Derived.Test.YtededfficggkaaaDoorI12
import Derived.Test.YtededfficggkaaaDoorI13
import Derived.Test.YtededfficggkaaaDoorI15
namespace Go.Proofs.YtededfficggkaaaDoor
open Go.RowKit
set_option linter.unusedVariables false
set_option linter.unusedSimpArgs false
theorem orders_form {w : World} {F : Nat → Prop} {v : Value} (h : SlO 24 tIntS w F v ordersL) : ∃ g cap, v = .slice (some ⟨g, 0, none⟩) 6 cap ∧ g < w.heap.size ∧ ∀ k, k < 6 → ∃ u, w.cell? ⟨g, k, none⟩ = some u ∧ SlO 3 tInt w F u (ordersL.getD k []) := by
 obtain ⟨L, us, Fs, h1, hF, h2, _⟩ := h
 have h1' := h1
 rcases h1.2 with ⟨rfl, hn⟩ | ⟨g, cap, cur, rfl, hb, hg, hn, hm, hcs, htake⟩
 ·
  exact absurd hn (by decide)
 ·
  refine ⟨g, cap, rfl, (Array.getElem?_eq_some_iff.1 hg).1, fun k hk => ?_⟩
  obtain ⟨g1, g2, g3⟩ := h2 k hk
  obtain ⟨u, e, hu⟩ := g2
  refine ⟨u, ?_, slO_mono hu (fun b hb => (g3 b hb).1)⟩
  have hlt : k < ordersL.length * tIntS.n := by show k < 6 * 1; omega
  have := World.ownsRow.cellAt h1' k hlt
  rw [this]
  have g4 := g1 0 (by decide)
  have e2 : k * tIntS.n + 0 = k := by show k * 1 + 0 = _; omega
  rw [e2, e] at g4
  exact g4
set_option maxHeartbeats 16000000 in
set_option maxRecDepth 100000 in
theorem specBestOrder (qv fv rv : Value) (qs : List QD) (fs : List (List SpanD)) (rs : List RowD) (w : World) (h1 : SlR tQuery w qv qs) (h2 : SlR tSpanS w fv fs) (h3 : SlR tRow w rv rs) (hs : zL tQuery qs ≤ 1048576) (hz : zL tSpanS fs ≤ 1048576) (hr : zL tRow rs ≤ 1048576) :
  Calls Tryd.prog 45 #[.agg #[qv, fv], rv] w fun e w' => ∃ v, e = .returned v ∧ SlO 3 tInt w' (since w) v (bestL qs fs rs) ∧ Below w.heap.size w w' := by
 have HS := Lib.hid hs; have HZ := Lib.hid hz; have HZR := Lib.hid hr
 obtain ⟨qa, qc, rfl⟩ := slR_len h1
 obtain ⟨fa, fc, rfl⟩ := slR_len h2
 obtain ⟨ra, rc, rfl⟩ := slR_len h3
 have d0 := Lib.hid ((Below.refl w.heap.size w).alloc (Nat.le_refl _) (.cells #[.slice qa qs.length qc, .slice fa fs.length fc] 49))
 have B0 := Lib.hid (heap_alloc_new w (.cells #[.slice qa qs.length qc, .slice fa fs.length fc] 49))
 have H1 := Lib.hid (slR_below tQuery_law h1 d0.out); have H2 := Lib.hid (slR_below tSpanS_law h2 d0.out); have H3 := Lib.hid (slR_below tRow_law h3 d0.out)
 have HX := Lib.hid (fun w g1 g2 => specIsIndex (.slice qa qs.length qc) (.slice fa fs.length fc) qs fs w g1 g2 HS.out HZ.out)
 have HW := Lib.hid (fun ov os w g1 g2 g3 g4 go => specWorkOf (.slice qa qs.length qc) (.slice fa fs.length fc) (.slice ra rs.length rc) ov qs fs rs os w g1 g2 g3 g4 HS.out HZ.out HZR.out go)
 have hsz : Hid ((w.alloc (.cells #[.slice qa qs.length qc, .slice fa fs.length fc] 49)).heap.size = w.heap.size + 1) := Lib.hid (by simp)
 go_enter Tryd.func45, Tryd.ntmps45
 go_wp2_with fail
 clear h1 h2 h3 hs hz hr
 generalize w.alloc (.cells #[.slice qa qs.length qc, .slice fa fs.length fc] 49) = W at *
 have OB0 := Lib.hid (slO_empty (T := tInt) W 3 (since w) (show w.heap.size ≤ W.heap.size from d0.out.size))
 have dE := Lib.hid ((Below.refl W.heap.size W).alloc (Nat.le_refl _) (.cells #[] 3))
 have hE : Hid ((W.alloc (.cells #[] 3)).heap.size = W.heap.size + 1) := Lib.hid (by simp)
 refine (specL6Orders _).mono ?_
 rintro e w1 ⟨lv, rfl, ol, c1⟩
 have D1 := Lib.hid (dE.out.trans (c1.mono dE.out.size))
 have hw1 : Hid (w.heap.size + 2 ≤ w1.heap.size) := Lib.hid (by have := c1.size; have := hE.out; have := hsz.out; omega)
 replace B0 := Lib.hid ((D1.out.block w.heap.size (Array.getElem?_eq_some_iff.1 B0.out).1).trans B0.out)
 have OB := Lib.hid (slO_fresh tInt_law OB0.out c1)
 have OL := Lib.hid (slO_mono ol (F' := since w) (fun b hb => by have h9 : (W.alloc (.cells #[] 3)).heap.size ≤ b := hb; have := hE.out; have := hsz.out; show w.heap.size ≤ b; omega))
 replace H1 := Lib.hid (slR_below tQuery_law H1.out D1.out)
 replace H2 := Lib.hid (slR_below tSpanS_law H2.out D1.out)
 replace H3 := Lib.hid (slR_below tRow_law H3.out D1.out)
 have DW := Lib.hid (d0.out.trans (D1.out.mono d0.out.size))
 obtain ⟨g, lc, rfl, hg, hu⟩ := orders_form OL.out
 have HG := Lib.hid hg; have HU := Lib.hid hu
 replace OB := Lib.hid (show SlO 3 tInt w1 (since w) (.slice (some ⟨w.heap.size + 1, 0, none⟩) 0 0) [] by rw [← hsz.out]; exact OB.out)
 clear OL ol c1 hg hu OB0 D1 dE hE d0 hsz
 go_wp2
 cases hx : isIndexB qs fs with
 | false =>
  have HE := Lib.hid (bestL_no (rs := rs) hx)
  rw [hx] at HX
  clear hx HW
  go_loopw [5, 6, 8] (fun bt lt it wr => wr = w1 ∧ it = .int .i64 0 ∧ lt = .int .i64 0 ∧ bt = .slice (some ⟨w.heap.size + 1, 0, none⟩) 0 0) (fun _ _ _ _ => 0)
  case atStart => exact ⟨rfl, rfl, rfl, rfl⟩
  case round =>
   obtain ⟨rfl, rfl, rfl, rfl⟩ := hrel
   have x0 := (cell_of_row wr _ 0 _ _ _ B0.out).trans (show _ = some (Value.slice qa qs.length qc) from rfl)
   have x1 := (cell_of_row wr _ 1 _ _ _ B0.out).trans (show _ = some (Value.slice fa fs.length fc) from rfl)
   go_wp2_with fail
   clear x0 x1
   refine (HX.out wr H1.out H2.out).mono ?_
   rintro e w2 ⟨rfl, c2⟩
   have D2 := Lib.hid (DW.out.trans (c2.mono DW.out.size))
   replace OB := Lib.hid (slO_fresh tInt_law OB.out c2)
   clear c2
   go_wp2
   go_ret
   exact ⟨_, rfl, by rw [HE.out]; exact OB.out, D2.out⟩
 | true =>
  have HE := Lib.hid (bestL_yes (rs := rs) hx)
  rw [hx] at HX
  clear hx
  go_loopw [5, 6, 8] (fun bt lt it wr => ∃ (k : Nat) (bs : List Int) (le : Int), k ≤ 6 ∧ it = .int .i64 k ∧ lt = .int .i64 le ∧ SlO 3 tInt wr (since w) bt bs ∧ bestTo (workL qs fs rs) (ordersL.drop k) bs le = bestL qs fs rs ∧ wr.heap[w.heap.size]? = some (.cells #[.slice qa qs.length qc, .slice fa fs.length fc] 49 (0, 0)) ∧ Below w1.heap.size w1 wr) (fun _ _ it _ => 6 - (intOf it).toNat)
  case atStart => exact ⟨0, [], 0, Nat.zero_le _, rfl, rfl, OB.out, HE.out.symm, B0.out, Below.refl _ _⟩
  case round =>
   clear OB B0
   obtain ⟨k, bs, le, hk, rfl, rfl, hob, hbt, hr0, hbel⟩ := hrel
   by_cases hlt : k < 6
   ·
    have i1 : (0 : Int) ≤ (k : Int) := by omega
    have i2 : (k : Int) < 6 := by omega
    obtain ⟨u, hc, hu⟩ := HU.out k hlt
    obtain ⟨ba, bc, rfl⟩ := slO_len hob
    have hst := best_step (f := workL qs fs rs) (l := ordersL) (k := k) (best := bs) (least := le) hlt
    rw [hbt] at hst
    have HST := Lib.hid hst
    have OB := Lib.hid hob
    have B0 := Lib.hid hr0
    have d := Lib.hid hbel
    have RC := Lib.hid hc
    have hol : (ordersL.getD k []).length = 3 := by match k, hlt with | 0, _ => rfl | 1, _ => rfl | 2, _ => rfl | 3, _ => rfl | 4, _ => rfl | 5, _ => rfl
    have HOL := Lib.hid hol
    have hlo : (ordersL.getD k []).length ≤ 1048576 := by omega
    replace hu := slO_fresh tInt_law hu hbel
    have OU := Lib.hid hu
    clear hst hob hbt hr0 hbel hc hol hu
    generalize ordersL.getD k [] = od at *
    obtain ⟨ua, uc, rfl⟩ := slO_len OU.out
    have p_B0_0 := (cell_of_row wr _ 0 _ _ _ B0.out).trans (show _ = some (Value.slice qa qs.length qc) from rfl)
    have p_B0_1 := (cell_of_row wr _ 1 _ _ _ B0.out).trans (show _ = some (Value.slice fa fs.length fc) from rfl)
    go_wp2_with fail
    clear p_B0_0 p_B0_1
    refine (HX.out wr (slR_below tQuery_law H1.out d.out) (slR_below tSpanS_law H2.out d.out)).mono ?_
    rintro e w2 ⟨rfl, c2⟩
    replace B0 := Lib.hid ((c2.block w.heap.size (Array.getElem?_eq_some_iff.1 B0.out).1).trans B0.out)
    replace OB := Lib.hid (slO_fresh tInt_law OB.out c2)
    replace OU := Lib.hid (slO_fresh tInt_law OU.out c2)
    replace d := Lib.hid (d.out.trans (c2.mono d.out.size))
    have Z_w2 := Lib.hid (show wr.heap.size ≤ w2.heap.size from c2.size)
    clear c2
    go_wp2
    have p_B0_0 := (cell_of_row w2 _ 0 _ _ _ B0.out).trans (show _ = some (Value.slice qa qs.length qc) from rfl)
    have p_B0_1 := (cell_of_row w2 _ 1 _ _ _ B0.out).trans (show _ = some (Value.slice fa fs.length fc) from rfl)
    have p_r0 := (d.out.cell (p := ⟨g, k, none⟩) HG.out).trans RC.out
    refine wp_region_held_drew (S := fun w' => w'.cell? ⟨w.heap.size, 0, none⟩ = some (Value.slice qa qs.length qc) ∧ w'.cell? ⟨w.heap.size, 1, none⟩ = some (Value.slice fa fs.length fc) ∧ w'.cell? ⟨g, k, none⟩ = some (Value.slice ua od.length uc)) (by kernel_rfl) ⟨p_B0_0, p_B0_1, p_r0⟩ (fun hHeld => ?_)
    clear p_B0_0 p_B0_1 p_r0
    have cdr : Below w2.heap.size w2 w2.drew := below_drew (Below.refl _ _)
    replace B0 := Lib.hid ((cdr.block w.heap.size (Array.getElem?_eq_some_iff.1 B0.out).1).trans B0.out)
    replace OB := Lib.hid (slO_fresh tInt_law OB.out cdr)
    replace OU := Lib.hid (slO_fresh tInt_law OU.out cdr)
    replace d := Lib.hid (d.out.trans (cdr.mono d.out.size))
    clear cdr
    refine tR (i := 0) (v := ?_) ?_ ?_; rotate_left
    ·
     intro w hSw; (try dsimp only at hSw); go_simp; try (with_reducible rfl)
    try simp only [Act.put, lA, lB, lC]
    refine tR (i := 1) (v := ?_) ?_ ?_; rotate_left
    ·
     intro w hSw; (try dsimp only at hSw); go_simp; try (with_reducible rfl)
    try simp only [Act.put, lA, lB, lC]
    refine tR (i := 2) (v := ?_) ?_ ?_; rotate_left
    ·
     intro w hSw; (try dsimp only at hSw); go_simp; try (with_reducible rfl)
    try simp only [Act.put, lA, lB, lC]
    refine tR (i := 3) (v := ?_) ?_ ?_; rotate_left
    ·
     intro w hSw; (try dsimp only at hSw); go_simp; try (with_reducible rfl)
    try simp only [Act.put, lA, lB, lC]
    refine tR (i := 4) (v := ?_) ?_ ?_; rotate_left
    ·
     intro w hSw; (try dsimp only at hSw); go_simp; try (with_reducible rfl)
    try simp only [Act.put, lA, lB, lC]
    refine tR (i := 5) (v := ?_) ?_ ?_; rotate_left
    ·
     intro w hSw; (try dsimp only at hSw); go_simp; try (with_reducible rfl)
    try simp only [Act.put, lA, lB, lC]
    refine wpAnyH_ready (rs := [6]) (by kernel_rfl) (by simp) ?_
    refine (AllReadyH.cons (o := _) (by simp only [hA, hB, hC]; rfl) (fun K hK => ?_) AllReadyH.nil)
    go_simp
    refine (HW.out (.slice ua od.length uc) od (w2.drew) (slR_below tQuery_law H1.out d.out) (slR_below tSpanS_law H2.out d.out) (slR_below tRow_law H3.out d.out) (slR_ints (slO_reads tInt_law OU.out)) hlo).mono ?_
    rintro e w3 ⟨rfl, c3⟩
    replace B0 := Lib.hid ((c3.block w.heap.size (Array.getElem?_eq_some_iff.1 B0.out).1).trans B0.out)
    replace OB := Lib.hid (slO_fresh tInt_law OB.out c3)
    replace OU := Lib.hid (slO_fresh tInt_law OU.out c3)
    replace d := Lib.hid (d.out.trans (c3.mono d.out.size))
    have Z_w3 := Lib.hid (show w2.heap.size ≤ w3.heap.size from c3.size)
    clear c3
    have p_B0_0 := (cell_of_row w3 _ 0 _ _ _ B0.out).trans (show _ = some (Value.slice qa qs.length qc) from rfl)
    have p_B0_1 := (cell_of_row w3 _ 1 _ _ _ B0.out).trans (show _ = some (Value.slice fa fs.length fc) from rfl)
    have p_r0 := (d.out.cell (p := ⟨g, k, none⟩) HG.out).trans RC.out
    refine hK.out _ _ ⟨p_B0_0, p_B0_1, p_r0⟩ (fun hHeld => ?_)
    clear p_B0_0 p_B0_1 p_r0
    clear hK K
    try simp only [Act.put, lA, lB, lC]
    refine tR (i := 7) (v := ?_) ?_ ?_; rotate_left
    ·
     intro w hSw; (try dsimp only at hSw); go_simp; try (with_reducible rfl)
    try simp only [Act.put, lA, lB, lC]
    refine wpAnyH_done (by kernel_rfl) ?_ _
    clear hHeld
    generalize workL qs fs rs od = n at *
    by_cases cb : bs.length = 0
    ·
     have i3 : (bs.length : Int) = 0 := by omega
     have p_r0 := (d.out.cell (p := ⟨g, k, none⟩) HG.out).trans RC.out
     go_wp2
     go_roundw
     case rel => exact ⟨k + 1, od, n, by omega, by go_num, rfl, OU.out, (HST.out.trans (if_pos (Or.inl cb))).symm, B0.out, d.out⟩
     case measure => simp [intOf]; omega
    ·
     have i3 : ¬ (bs.length : Int) = 0 := by omega
     by_cases cl : n < le
     ·
      have p_r0 := (d.out.cell (p := ⟨g, k, none⟩) HG.out).trans RC.out
      go_wp2
      go_roundw
      case rel => exact ⟨k + 1, od, n, by omega, by go_num, rfl, OU.out, (HST.out.trans (if_pos (Or.inr cl))).symm, B0.out, d.out⟩
      case measure => simp [intOf]; omega
     ·
      go_wp2
      go_roundw
      case rel => exact ⟨k + 1, bs, le, by omega, by go_num, rfl, OB.out, (HST.out.trans (if_neg (fun h => h.elim cb cl))).symm, B0.out, d.out⟩
      case measure => simp [intOf]; omega
   ·
    obtain rfl : k = 6 := by omega
    have hb : bs = bestL qs fs rs := hbt
    obtain ⟨ba, bc, rfl⟩ := slO_len hob
    go_wp2
    go_ret
    exact ⟨_, rfl, by rw [← hb]; exact hob, DW.out.trans (hbel.mono DW.out.size)⟩
set_option maxHeartbeats 16000000 in
set_option maxRecDepth 100000 in
theorem copy_l6Query (a0 a1 : Int) (v2 v3 : Value) (x2 : List (Int × Int × Int)) (x3 : List Int) (w : World) (h2 : SlR tCond w v2 x2) (h3 : SlR tInt w v3 x3) (s2 : zL tCond x2 ≤ 1048576) (s3 : zL tInt x3 ≤ 1048576) :
  Calls Tryd.prog 153 #[.agg #[.int .i64 a0, .int .i64 a1, v2, v3]] w (FreshT tQuery (fun cs => .agg cs.toArray) w (a0, a1, x2, x3)) := by
 obtain ⟨c2, k2, rfl⟩ := slR_len h2
 obtain ⟨c3, k3, rfl⟩ := slR_len h3
 have H2 := Lib.hid h2
 have N2 := Lib.hid (zL_len s2)
 have H3 := Lib.hid h3
 have N3 := Lib.hid (zL_len s3)
 clear h2 s2 h3 s3
 have d := Lib.hid (show Below w.heap.size w ((w.alloc (.cells #[.int .i64 a0, .int .i64 a1, .slice c2 x2.length k2, .slice c3 x3.length k3] 63)).alloc (.cells #[.int .i64 0, .int .i64 0, .slice none 0 0, .slice none 0 0] 63)) from ((Below.refl _ w).alloc (Nat.le_refl _) _).alloc (by simp) _)
 have B1 : Hid (((w.alloc (.cells #[.int .i64 a0, .int .i64 a1, .slice c2 x2.length k2, .slice c3 x3.length k3] 63)).alloc (.cells #[.int .i64 0, .int .i64 0, .slice none 0 0, .slice none 0 0] 63)).heap[(w.heap.size + 1)]? = some (.cells #[.int .i64 0, .int .i64 0, .slice none 0 0, .slice none 0 0] 63 (0, 0))) := Lib.hid (by
  have := heap_alloc_new (w.alloc (.cells #[.int .i64 a0, .int .i64 a1, .slice c2 x2.length k2, .slice c3 x3.length k3] 63)) (.cells #[.int .i64 0, .int .i64 0, .slice none 0 0, .slice none 0 0] 63)
  simpa only [World.size_alloc] using this)
 have B0 : Hid (((w.alloc (.cells #[.int .i64 a0, .int .i64 a1, .slice c2 x2.length k2, .slice c3 x3.length k3] 63)).alloc (.cells #[.int .i64 0, .int .i64 0, .slice none 0 0, .slice none 0 0] 63)).heap[w.heap.size]? = some (.cells #[.int .i64 a0, .int .i64 a1, .slice c2 x2.length k2, .slice c3 x3.length k3] 63 (0, 0))) := Lib.hid (by
  rw [Below.heap_alloc _ _ _ (by simp)]
  exact heap_alloc_new w _)
 have Y_W : Hid (w.heap.size + 2 ≤ ((w.alloc (.cells #[.int .i64 a0, .int .i64 a1, .slice c2 x2.length k2, .slice c3 x3.length k3] 63)).alloc (.cells #[.int .i64 0, .int .i64 0, .slice none 0 0, .slice none 0 0] 63)).heap.size) := Lib.hid (by simp [World.size_alloc])
 go_enter Tryd.func153, Tryd.ntmps153
 go_wp2
 generalize ((w.alloc (.cells #[.int .i64 a0, .int .i64 a1, .slice c2 x2.length k2, .slice c3 x3.length k3] 63)).alloc (.cells #[.int .i64 0, .int .i64 0, .slice none 0 0, .slice none 0 0] 63)) = W at *
 have p_B0_0 := (cell_of_row W _ 0 _ _ _ B0.out).trans (show _ = some (Value.int .i64 a0) from rfl)
 have p_B0_1 := (cell_of_row W _ 1 _ _ _ B0.out).trans (show _ = some (Value.int .i64 a1) from rfl)
 have p_B0_2 := (cell_of_row W _ 2 _ _ _ B0.out).trans (show _ = some (Value.slice c2 x2.length k2) from rfl)
 have p_B0_3 := (cell_of_row W _ 3 _ _ _ B0.out).trans (show _ = some (Value.slice c3 x3.length k3) from rfl)
 refine wp_region_held_drew (S := fun w' => w'.cell? ⟨w.heap.size, 0, none⟩ = some (Value.int .i64 a0) ∧ w'.cell? ⟨w.heap.size, 1, none⟩ = some (Value.int .i64 a1) ∧ w'.cell? ⟨w.heap.size, 2, none⟩ = some (Value.slice c2 x2.length k2) ∧ w'.cell? ⟨w.heap.size, 3, none⟩ = some (Value.slice c3 x3.length k3)) (by kernel_rfl) ⟨p_B0_0, p_B0_1, p_B0_2, p_B0_3⟩ (fun hHeld => ?_)
 clear p_B0_0 p_B0_1 p_B0_2 p_B0_3
 have cdr : Below W.heap.size W W.drew := below_drew (Below.refl _ _)
 replace B0 := Lib.hid ((cdr.block w.heap.size (Array.getElem?_eq_some_iff.1 B0.out).1).trans B0.out)
 replace B1 := Lib.hid ((cdr.block (w.heap.size + 1) (Array.getElem?_eq_some_iff.1 B1.out).1).trans B1.out)
 replace d := Lib.hid (d.out.trans (cdr.mono d.out.size))
 clear cdr
 refine tR (i := 0) (v := ?_) ?_ ?_; rotate_left
 ·
  intro w hSw; (try dsimp only at hSw); go_simp; try (with_reducible rfl)
 try simp only [Act.put, lA, lB, lC]
 refine tR (i := 1) (v := ?_) ?_ ?_; rotate_left
 ·
  intro w hSw; (try dsimp only at hSw); go_simp; try (with_reducible rfl)
 try simp only [Act.put, lA, lB, lC]
 refine tR (i := 2) (v := ?_) ?_ ?_; rotate_left
 ·
  intro w hSw; (try dsimp only at hSw); go_simp; try (with_reducible rfl)
 try simp only [Act.put, lA, lB, lC]
 refine tR (i := 3) (v := ?_) ?_ ?_; rotate_left
 ·
  intro w hSw; (try dsimp only at hSw); go_simp; try (with_reducible rfl)
 try simp only [Act.put, lA, lB, lC]
 refine tR (i := 5) (v := ?_) ?_ ?_; rotate_left
 ·
  intro w hSw; (try dsimp only at hSw); go_simp; try (with_reducible rfl)
 try simp only [Act.put, lA, lB, lC]
 refine tR (i := 6) (v := ?_) ?_ ?_; rotate_left
 ·
  intro w hSw; (try dsimp only at hSw); go_simp; try (with_reducible rfl)
 try simp only [Act.put, lA, lB, lC]
 refine tR (i := 9) (v := ?_) ?_ ?_; rotate_left
 ·
  intro w hSw; (try dsimp only at hSw); go_simp; try (with_reducible rfl)
 try simp only [Act.put, lA, lB, lC]
 refine tR (i := 10) (v := ?_) ?_ ?_; rotate_left
 ·
  intro w hSw; (try dsimp only at hSw); go_simp; try (with_reducible rfl)
 try simp only [Act.put, lA, lB, lC]
 refine wpAnyH_ready (rs := [4, 8]) (by kernel_rfl) (by simp) ?_
 refine (AllReadyH.cons (o := _) (by simp only [hA, hB, hC]; rfl) (fun K hK => ?_) (AllReadyH.cons (o := _) (by simp only [hA, hB, hC]; rfl) (fun K hK => ?_) AllReadyH.nil))
 ·
  go_simp
  have hal : Below W.heap.size (W.drew) (W.alloc (.cells #[] 124)).drew := ⟨rfl, rfl, rfl, by show W.heap.size ≤ (W.alloc (.cells #[] 124)).heap.size; simp [World.size_alloc], fun k hk => Below.heap_alloc W _ k hk⟩
  have Y_2 := Lib.hid (show W.heap.size < (W.alloc (.cells #[] 124)).drew.heap.size by show W.heap.size < (W.alloc (.cells #[] 124)).heap.size; simp [World.size_alloc])
  replace B0 := Lib.hid ((hal.block w.heap.size (Array.getElem?_eq_some_iff.1 B0.out).1).trans B0.out)
  replace B1 := Lib.hid ((hal.block (w.heap.size + 1) (Array.getElem?_eq_some_iff.1 B1.out).1).trans B1.out)
  replace d := Lib.hid (d.out.trans (hal.mono d.out.size))
  have P2 := Lib.hid (slO_fresh tCond_law (slO_empty (T := tCond) W 124 (fun b => b = W.heap.size) rfl) (below_drew (Below.refl _ _)))
  have Q2 := Lib.hid (fun b (h : b = W.heap.size) => h)
  clear hal
  generalize (W.alloc (.cells #[] 124)).drew = V1 at *
  have p_B0_0 := (cell_of_row V1 _ 0 _ _ _ B0.out).trans (show _ = some (Value.int .i64 a0) from rfl)
  have p_B0_1 := (cell_of_row V1 _ 1 _ _ _ B0.out).trans (show _ = some (Value.int .i64 a1) from rfl)
  have p_B0_2 := (cell_of_row V1 _ 2 _ _ _ B0.out).trans (show _ = some (Value.slice c2 x2.length k2) from rfl)
  have p_B0_3 := (cell_of_row V1 _ 3 _ _ _ B0.out).trans (show _ = some (Value.slice c3 x3.length k3) from rfl)
  refine hK.out _ _ ⟨p_B0_0, p_B0_1, p_B0_2, p_B0_3⟩ (fun hHeld => ?_)
  clear p_B0_0 p_B0_1 p_B0_2 p_B0_3
  clear hK K
  try simp only [Act.put, lA, lB, lC]
  refine wpAnyH_ready (rs := [7, 8]) (by kernel_rfl) (by simp) ?_
  refine (AllReadyH.cons (o := _) (by simp only [hA, hB, hC]; rfl) (fun K hK => ?_) (AllReadyH.cons (o := _) (by simp only [hA, hB, hC]; rfl) (fun K hK => ?_) AllReadyH.nil))
  ·
   refine step_append_flat tCond_law flat_Cond info_T_Cond Tryd.underlying61 rfl rfl (.tmp 7) (.tmp 9) rfl (fun b => b = W.heap.size) (fun b => (fun b => b = W.heap.size) b ∨ b = V1.heap.size) _ _ [] x2 rfl rfl P2.out (slR_below tCond_law H2.out d.out) (fun b h => Or.inl h) (Or.inr rfl) (by have := N2.out; simp; omega) ?_
   intro u V2 oB tB
   rw [List.nil_append] at oB
   obtain ⟨ua2, uc2, rfl⟩ := slO_len oB
   have y0 := Y_W.out
   have y1 := Y_2.out
   have yd : w.heap.size ≤ V1.heap.size := d.out.size
   replace B0 := Lib.hid ((tB.block w.heap.size (Array.getElem?_eq_some_iff.1 B0.out).1 (fun h => by have r2 := Q2.out _ h; omega)).trans B0.out)
   replace B1 := Lib.hid ((tB.block (w.heap.size + 1) (Array.getElem?_eq_some_iff.1 B1.out).1 (fun h => by have r2 := Q2.out _ h; omega)).trans B1.out)
   replace d := Lib.hid (below_turn d.out tB (fun b h => by have r2 := Q2.out _ h; omega) (by omega))
   have Z_V2 := Lib.hid (show V1.heap.size ≤ V2.heap.size from tB.size)
   clear yd y0 y1
   replace P2 := Lib.hid (slO_lt tCond_law oB)
   replace Q2 := Lib.hid (fun b (h : ((fun b => b = W.heap.size) b ∨ b = V1.heap.size) ∧ b < V2.heap.size) => (show (b = W.heap.size ∨ b = V1.heap.size) ∧ b < V2.heap.size from h))
   clear oB tB
   have p_B0_0 := (cell_of_row V2 _ 0 _ _ _ B0.out).trans (show _ = some (Value.int .i64 a0) from rfl)
   have p_B0_1 := (cell_of_row V2 _ 1 _ _ _ B0.out).trans (show _ = some (Value.int .i64 a1) from rfl)
   have p_B0_2 := (cell_of_row V2 _ 2 _ _ _ B0.out).trans (show _ = some (Value.slice c2 x2.length k2) from rfl)
   have p_B0_3 := (cell_of_row V2 _ 3 _ _ _ B0.out).trans (show _ = some (Value.slice c3 x3.length k3) from rfl)
   refine hK.out _ _ ⟨p_B0_0, p_B0_1, p_B0_2, p_B0_3⟩ (fun hHeld => ?_)
   clear p_B0_0 p_B0_1 p_B0_2 p_B0_3
   clear hK K
   try simp only [Act.put, lA, lB, lC]
   refine wpAnyH_ready (rs := [8]) (by kernel_rfl) (by simp) ?_
   refine (AllReadyH.cons (o := _) (by simp only [hA, hB, hC]; rfl) (fun K hK => ?_) AllReadyH.nil)
   go_simp
   have hal : Below V2.heap.size V2 (V2.alloc (.cells #[] 3)) := (Below.refl _ _).alloc (Nat.le_refl _) _
   have Y_3 := Lib.hid (show V2.heap.size < (V2.alloc (.cells #[] 3)).heap.size by show V2.heap.size < (V2.alloc (.cells #[] 3)).heap.size; simp [World.size_alloc])
   replace B0 := Lib.hid ((hal.block w.heap.size (Array.getElem?_eq_some_iff.1 B0.out).1).trans B0.out)
   replace B1 := Lib.hid ((hal.block (w.heap.size + 1) (Array.getElem?_eq_some_iff.1 B1.out).1).trans B1.out)
   replace P2 := Lib.hid (slO_fresh tCond_law P2.out hal)
   replace d := Lib.hid (d.out.trans (hal.mono d.out.size))
   have P3 := Lib.hid (slO_empty (T := tInt) V2 3 (fun b => b = V2.heap.size) rfl)
   have Q3 := Lib.hid (fun b (h : b = V2.heap.size) => h)
   clear hal
   generalize (V2.alloc (.cells #[] 3)) = V3 at *
   have p_B0_0 := (cell_of_row V3 _ 0 _ _ _ B0.out).trans (show _ = some (Value.int .i64 a0) from rfl)
   have p_B0_1 := (cell_of_row V3 _ 1 _ _ _ B0.out).trans (show _ = some (Value.int .i64 a1) from rfl)
   have p_B0_2 := (cell_of_row V3 _ 2 _ _ _ B0.out).trans (show _ = some (Value.slice c2 x2.length k2) from rfl)
   have p_B0_3 := (cell_of_row V3 _ 3 _ _ _ B0.out).trans (show _ = some (Value.slice c3 x3.length k3) from rfl)
   refine hK.out _ _ ⟨p_B0_0, p_B0_1, p_B0_2, p_B0_3⟩ (fun hHeld => ?_)
   clear p_B0_0 p_B0_1 p_B0_2 p_B0_3
   clear hK K
   try simp only [Act.put, lA, lB, lC]
   refine wpAnyH_ready (rs := [11]) (by kernel_rfl) (by simp) ?_
   refine (AllReadyH.cons (o := _) (by simp only [hA, hB, hC]; rfl) (fun K hK => ?_) AllReadyH.nil)
   refine step_append_flat tInt_law flat_int info_T_int Tryd.underlying24 rfl rfl (.tmp 11) (.tmp 13) rfl (fun b => b = V2.heap.size) (fun b => (fun b => b = V2.heap.size) b ∨ b = V3.heap.size) _ _ [] x3 rfl rfl P3.out (slR_below tInt_law H3.out d.out) (fun b h => Or.inl h) (Or.inr rfl) (by have := N3.out; simp; omega) ?_
   intro u V4 oB tB
   rw [List.nil_append] at oB
   obtain ⟨ua3, uc3, rfl⟩ := slO_len oB
   have y0 := Y_W.out
   have y1 := Y_2.out
   have y2 := Z_V2.out
   have y3 := Y_3.out
   have yd : w.heap.size ≤ V3.heap.size := d.out.size
   replace B0 := Lib.hid ((tB.block w.heap.size (Array.getElem?_eq_some_iff.1 B0.out).1 (fun h => by have r2 := Q3.out _ h; omega)).trans B0.out)
   replace B1 := Lib.hid ((tB.block (w.heap.size + 1) (Array.getElem?_eq_some_iff.1 B1.out).1 (fun h => by have r2 := Q3.out _ h; omega)).trans B1.out)
   replace P2 := Lib.hid (slO_turn tCond_law P2.out tB (fun b h1 h2 => by have r1 := Q2.out b h1; have r2 := Q3.out _ h2; omega))
   replace d := Lib.hid (below_turn d.out tB (fun b h => by have r2 := Q3.out _ h; omega) (by omega))
   have Z_V4 := Lib.hid (show V3.heap.size ≤ V4.heap.size from tB.size)
   clear yd y0 y1 y2 y3
   replace P3 := Lib.hid (slO_lt tInt_law oB)
   replace Q3 := Lib.hid (fun b (h : ((fun b => b = V2.heap.size) b ∨ b = V3.heap.size) ∧ b < V4.heap.size) => (show (b = V2.heap.size ∨ b = V3.heap.size) ∧ b < V4.heap.size from h))
   clear oB tB
   have p_B0_0 := (cell_of_row V4 _ 0 _ _ _ B0.out).trans (show _ = some (Value.int .i64 a0) from rfl)
   have p_B0_1 := (cell_of_row V4 _ 1 _ _ _ B0.out).trans (show _ = some (Value.int .i64 a1) from rfl)
   have p_B0_2 := (cell_of_row V4 _ 2 _ _ _ B0.out).trans (show _ = some (Value.slice c2 x2.length k2) from rfl)
   have p_B0_3 := (cell_of_row V4 _ 3 _ _ _ B0.out).trans (show _ = some (Value.slice c3 x3.length k3) from rfl)
   refine hK.out _ _ ⟨p_B0_0, p_B0_1, p_B0_2, p_B0_3⟩ (fun hHeld => ?_)
   clear p_B0_0 p_B0_1 p_B0_2 p_B0_3
   clear hK K
   try simp only [Act.put, lA, lB, lC]
   refine tR (i := 12) (v := ?_) ?_ ?_; rotate_left
   ·
    intro w hSw; (try dsimp only at hSw); go_simp; try (with_reducible rfl)
   try simp only [Act.put, lA, lB, lC]
   refine wpAnyH_ready (rs := [13]) (by kernel_rfl) (by simp) ?_
   refine (AllReadyH.cons (o := _) (by simp only [hA, hB, hC]; rfl) (fun K hK => ?_) AllReadyH.nil)
   have p_B1_0 := (cell_of_row V4 _ 0 _ _ _ B1.out).trans (show _ = some (Value.int .i64 0) from rfl)
   have p_B1_1 := (cell_of_row V4 _ 1 _ _ _ B1.out).trans (show _ = some (Value.int .i64 0) from rfl)
   have p_B1_2 := (cell_of_row V4 _ 2 _ _ _ B1.out).trans (show _ = some (Value.slice none 0 0) from rfl)
   have p_B1_3 := (cell_of_row V4 _ 3 _ _ _ B1.out).trans (show _ = some (Value.slice none 0 0) from rfl)
   have f_B1_0 := frozen_of_row V4 _ 0 _ _ B1.out
   have f_B1_1 := frozen_of_row V4 _ 1 _ _ B1.out
   have f_B1_2 := frozen_of_row V4 _ 2 _ _ B1.out
   have f_B1_3 := frozen_of_row V4 _ 3 _ _ B1.out
   go_simp
   clear p_B1_0 p_B1_1 p_B1_2 p_B1_3 f_B1_0 f_B1_1 f_B1_2 f_B1_3
   have tt := (((((Turn.refl (fun b => b = w.heap.size + 1) V4).trans (turn_set (G := fun b => b = w.heap.size + 1) (g := w.heap.size + 1) (j := 0) (u := .int .i64 a0) rfl)).trans (turn_set (G := fun b => b = w.heap.size + 1) (g := w.heap.size + 1) (j := 1) (u := .int .i64 a1) rfl)).trans (turn_set (G := fun b => b = w.heap.size + 1) (g := w.heap.size + 1) (j := 2) (u := .slice ua2 x2.length uc2) rfl)).trans (turn_set (G := fun b => b = w.heap.size + 1) (g := w.heap.size + 1) (j := 3) (u := .slice ua3 x3.length uc3) rfl))
   have r := (heap_setCell_same _ (w.heap.size + 1) 3 _ _ (.slice ua3 x3.length uc3) (heap_setCell_same _ (w.heap.size + 1) 2 _ _ (.slice ua2 x2.length uc2) (heap_setCell_same _ (w.heap.size + 1) 1 _ _ (.int .i64 a1) (heap_setCell_same _ (w.heap.size + 1) 0 _ _ (.int .i64 a0) B1.out))))
   have e0 := cell_of_row _ _ 0 _ _ _ r
   have e1 := cell_of_row _ _ 1 _ _ _ r
   have e2 := cell_of_row _ _ 2 _ _ _ r
   have e3 := cell_of_row _ _ 3 _ _ _ r
   simp at e0 e1 e2 e3
   clear r
   have y0 := Y_W.out
   have y1 := Y_2.out
   have y2 := Z_V2.out
   have y3 := Y_3.out
   have y4 := Z_V4.out
   replace B0 := Lib.hid ((tt.block w.heap.size (Array.getElem?_eq_some_iff.1 B0.out).1 (fun h => by omega)).trans B0.out)
   replace P2 := Lib.hid (slO_turn tCond_law P2.out tt (fun b h1 h2 => by have r1 := Q2.out b h1; omega))
   replace P3 := Lib.hid (slO_turn tInt_law P3.out tt (fun b h1 h2 => by have r1 := Q3.out b h1; omega))
   replace d := Lib.hid (below_turn d.out tt (fun b h => by omega) d.out.size)
   clear tt y0 y1 y2 y3 y4
   generalize ((((V4.setCell ⟨w.heap.size + 1, 0, none⟩ (.int .i64 a0)).setCell ⟨w.heap.size + 1, 1, none⟩ (.int .i64 a1)).setCell ⟨w.heap.size + 1, 2, none⟩ (.slice ua2 x2.length uc2)).setCell ⟨w.heap.size + 1, 3, none⟩ (.slice ua3 x3.length uc3)) = V5 at *
   have p_B0_0 := (cell_of_row V5 _ 0 _ _ _ B0.out).trans (show _ = some (Value.int .i64 a0) from rfl)
   have p_B0_1 := (cell_of_row V5 _ 1 _ _ _ B0.out).trans (show _ = some (Value.int .i64 a1) from rfl)
   have p_B0_2 := (cell_of_row V5 _ 2 _ _ _ B0.out).trans (show _ = some (Value.slice c2 x2.length k2) from rfl)
   have p_B0_3 := (cell_of_row V5 _ 3 _ _ _ B0.out).trans (show _ = some (Value.slice c3 x3.length k3) from rfl)
   refine hK.out _ _ ⟨p_B0_0, p_B0_1, p_B0_2, p_B0_3⟩ (fun hHeld => ?_)
   clear p_B0_0 p_B0_1 p_B0_2 p_B0_3
   clear hK K
   try simp only [Act.put, lA, lB, lC]
   refine wpAnyH_done (by kernel_rfl) ?_ _
   clear hHeld
   go_wp2
   refine bodyPost_ret (v := .agg #[.int .i64 a0, .int .i64 a1, .slice ua2 x2.length uc2, .slice ua3 x3.length uc3]) ?_ rfl ?_
   ·
    simp [results, Tryd.f153, go_sem, e0, e1, e2, e3]
   have y0 := Y_W.out
   have y1 := Y_2.out
   have y2 := Z_V2.out
   have y3 := Y_3.out
   have y4 := Z_V4.out
   exact ⟨[.int .i64 a0, .int .i64 a1, .slice ua2 x2.length uc2, .slice ua3 x3.length uc3], rfl, tQuery_mkO P2.out P3.out (fun b h => by have r1 := Q2.out b h; show w.heap.size ≤ b; omega) (fun b h => by have r1 := Q3.out b h; show w.heap.size ≤ b; omega) (fun b h1 h2 => by have r1 := Q2.out b h1; have r2 := Q3.out b h2; omega), d.out⟩
  ·
   go_simp
   have hal : Below V1.heap.size V1 (V1.alloc (.cells #[] 3)) := (Below.refl _ _).alloc (Nat.le_refl _) _
   have Y_3 := Lib.hid (show V1.heap.size < (V1.alloc (.cells #[] 3)).heap.size by show V1.heap.size < (V1.alloc (.cells #[] 3)).heap.size; simp [World.size_alloc])
   replace B0 := Lib.hid ((hal.block w.heap.size (Array.getElem?_eq_some_iff.1 B0.out).1).trans B0.out)
   replace B1 := Lib.hid ((hal.block (w.heap.size + 1) (Array.getElem?_eq_some_iff.1 B1.out).1).trans B1.out)
   replace P2 := Lib.hid (slO_fresh tCond_law P2.out hal)
   replace d := Lib.hid (d.out.trans (hal.mono d.out.size))
   have P3 := Lib.hid (slO_empty (T := tInt) V1 3 (fun b => b = V1.heap.size) rfl)
   have Q3 := Lib.hid (fun b (h : b = V1.heap.size) => h)
   clear hal
   generalize (V1.alloc (.cells #[] 3)) = V2 at *
   have p_B0_0 := (cell_of_row V2 _ 0 _ _ _ B0.out).trans (show _ = some (Value.int .i64 a0) from rfl)
   have p_B0_1 := (cell_of_row V2 _ 1 _ _ _ B0.out).trans (show _ = some (Value.int .i64 a1) from rfl)
   have p_B0_2 := (cell_of_row V2 _ 2 _ _ _ B0.out).trans (show _ = some (Value.slice c2 x2.length k2) from rfl)
   have p_B0_3 := (cell_of_row V2 _ 3 _ _ _ B0.out).trans (show _ = some (Value.slice c3 x3.length k3) from rfl)
   refine hK.out _ _ ⟨p_B0_0, p_B0_1, p_B0_2, p_B0_3⟩ (fun hHeld => ?_)
   clear p_B0_0 p_B0_1 p_B0_2 p_B0_3
   clear hK K
   try simp only [Act.put, lA, lB, lC]
   refine wpAnyH_ready (rs := [7]) (by kernel_rfl) (by simp) ?_
   refine (AllReadyH.cons (o := _) (by simp only [hA, hB, hC]; rfl) (fun K hK => ?_) AllReadyH.nil)
   refine step_append_flat tCond_law flat_Cond info_T_Cond Tryd.underlying61 rfl rfl (.tmp 7) (.tmp 9) rfl (fun b => b = W.heap.size) (fun b => (fun b => b = W.heap.size) b ∨ b = V2.heap.size) _ _ [] x2 rfl rfl P2.out (slR_below tCond_law H2.out d.out) (fun b h => Or.inl h) (Or.inr rfl) (by have := N2.out; simp; omega) ?_
   intro u V3 oB tB
   rw [List.nil_append] at oB
   obtain ⟨ua2, uc2, rfl⟩ := slO_len oB
   have y0 := Y_W.out
   have y1 := Y_2.out
   have y2 := Y_3.out
   have yd : w.heap.size ≤ V2.heap.size := d.out.size
   replace B0 := Lib.hid ((tB.block w.heap.size (Array.getElem?_eq_some_iff.1 B0.out).1 (fun h => by have r2 := Q2.out _ h; omega)).trans B0.out)
   replace B1 := Lib.hid ((tB.block (w.heap.size + 1) (Array.getElem?_eq_some_iff.1 B1.out).1 (fun h => by have r2 := Q2.out _ h; omega)).trans B1.out)
   replace P3 := Lib.hid (slO_turn tInt_law P3.out tB (fun b h1 h2 => by have r1 := Q3.out b h1; have r2 := Q2.out _ h2; omega))
   replace d := Lib.hid (below_turn d.out tB (fun b h => by have r2 := Q2.out _ h; omega) (by omega))
   have Z_V3 := Lib.hid (show V2.heap.size ≤ V3.heap.size from tB.size)
   clear yd y0 y1 y2
   replace P2 := Lib.hid (slO_lt tCond_law oB)
   replace Q2 := Lib.hid (fun b (h : ((fun b => b = W.heap.size) b ∨ b = V2.heap.size) ∧ b < V3.heap.size) => (show (b = W.heap.size ∨ b = V2.heap.size) ∧ b < V3.heap.size from h))
   clear oB tB
   have p_B0_0 := (cell_of_row V3 _ 0 _ _ _ B0.out).trans (show _ = some (Value.int .i64 a0) from rfl)
   have p_B0_1 := (cell_of_row V3 _ 1 _ _ _ B0.out).trans (show _ = some (Value.int .i64 a1) from rfl)
   have p_B0_2 := (cell_of_row V3 _ 2 _ _ _ B0.out).trans (show _ = some (Value.slice c2 x2.length k2) from rfl)
   have p_B0_3 := (cell_of_row V3 _ 3 _ _ _ B0.out).trans (show _ = some (Value.slice c3 x3.length k3) from rfl)
   refine hK.out _ _ ⟨p_B0_0, p_B0_1, p_B0_2, p_B0_3⟩ (fun hHeld => ?_)
   clear p_B0_0 p_B0_1 p_B0_2 p_B0_3
   clear hK K
   try simp only [Act.put, lA, lB, lC]
   refine wpAnyH_ready (rs := [11]) (by kernel_rfl) (by simp) ?_
   refine (AllReadyH.cons (o := _) (by simp only [hA, hB, hC]; rfl) (fun K hK => ?_) AllReadyH.nil)
   refine step_append_flat tInt_law flat_int info_T_int Tryd.underlying24 rfl rfl (.tmp 11) (.tmp 13) rfl (fun b => b = V1.heap.size) (fun b => (fun b => b = V1.heap.size) b ∨ b = V3.heap.size) _ _ [] x3 rfl rfl P3.out (slR_below tInt_law H3.out d.out) (fun b h => Or.inl h) (Or.inr rfl) (by have := N3.out; simp; omega) ?_
   intro u V4 oB tB
   rw [List.nil_append] at oB
   obtain ⟨ua3, uc3, rfl⟩ := slO_len oB
   have y0 := Y_W.out
   have y1 := Y_2.out
   have y2 := Y_3.out
   have y3 := Z_V3.out
   have yd : w.heap.size ≤ V3.heap.size := d.out.size
   replace B0 := Lib.hid ((tB.block w.heap.size (Array.getElem?_eq_some_iff.1 B0.out).1 (fun h => by have r2 := Q3.out _ h; omega)).trans B0.out)
   replace B1 := Lib.hid ((tB.block (w.heap.size + 1) (Array.getElem?_eq_some_iff.1 B1.out).1 (fun h => by have r2 := Q3.out _ h; omega)).trans B1.out)
   replace P2 := Lib.hid (slO_turn tCond_law P2.out tB (fun b h1 h2 => by have r1 := Q2.out b h1; have r2 := Q3.out _ h2; omega))
   replace d := Lib.hid (below_turn d.out tB (fun b h => by have r2 := Q3.out _ h; omega) (by omega))
   have Z_V4 := Lib.hid (show V3.heap.size ≤ V4.heap.size from tB.size)
   clear yd y0 y1 y2 y3
   replace P3 := Lib.hid (slO_lt tInt_law oB)
   replace Q3 := Lib.hid (fun b (h : ((fun b => b = V1.heap.size) b ∨ b = V3.heap.size) ∧ b < V4.heap.size) => (show (b = V1.heap.size ∨ b = V3.heap.size) ∧ b < V4.heap.size from h))
   clear oB tB
   have p_B0_0 := (cell_of_row V4 _ 0 _ _ _ B0.out).trans (show _ = some (Value.int .i64 a0) from rfl)
   have p_B0_1 := (cell_of_row V4 _ 1 _ _ _ B0.out).trans (show _ = some (Value.int .i64 a1) from rfl)
   have p_B0_2 := (cell_of_row V4 _ 2 _ _ _ B0.out).trans (show _ = some (Value.slice c2 x2.length k2) from rfl)
   have p_B0_3 := (cell_of_row V4 _ 3 _ _ _ B0.out).trans (show _ = some (Value.slice c3 x3.length k3) from rfl)
   refine hK.out _ _ ⟨p_B0_0, p_B0_1, p_B0_2, p_B0_3⟩ (fun hHeld => ?_)
   clear p_B0_0 p_B0_1 p_B0_2 p_B0_3
   clear hK K
   try simp only [Act.put, lA, lB, lC]
   refine tR (i := 12) (v := ?_) ?_ ?_; rotate_left
   ·
    intro w hSw; (try dsimp only at hSw); go_simp; try (with_reducible rfl)
   try simp only [Act.put, lA, lB, lC]
   refine wpAnyH_ready (rs := [13]) (by kernel_rfl) (by simp) ?_
   refine (AllReadyH.cons (o := _) (by simp only [hA, hB, hC]; rfl) (fun K hK => ?_) AllReadyH.nil)
   have p_B1_0 := (cell_of_row V4 _ 0 _ _ _ B1.out).trans (show _ = some (Value.int .i64 0) from rfl)
   have p_B1_1 := (cell_of_row V4 _ 1 _ _ _ B1.out).trans (show _ = some (Value.int .i64 0) from rfl)
   have p_B1_2 := (cell_of_row V4 _ 2 _ _ _ B1.out).trans (show _ = some (Value.slice none 0 0) from rfl)
   have p_B1_3 := (cell_of_row V4 _ 3 _ _ _ B1.out).trans (show _ = some (Value.slice none 0 0) from rfl)
   have f_B1_0 := frozen_of_row V4 _ 0 _ _ B1.out
   have f_B1_1 := frozen_of_row V4 _ 1 _ _ B1.out
   have f_B1_2 := frozen_of_row V4 _ 2 _ _ B1.out
   have f_B1_3 := frozen_of_row V4 _ 3 _ _ B1.out
   go_simp
   clear p_B1_0 p_B1_1 p_B1_2 p_B1_3 f_B1_0 f_B1_1 f_B1_2 f_B1_3
   have tt := (((((Turn.refl (fun b => b = w.heap.size + 1) V4).trans (turn_set (G := fun b => b = w.heap.size + 1) (g := w.heap.size + 1) (j := 0) (u := .int .i64 a0) rfl)).trans (turn_set (G := fun b => b = w.heap.size + 1) (g := w.heap.size + 1) (j := 1) (u := .int .i64 a1) rfl)).trans (turn_set (G := fun b => b = w.heap.size + 1) (g := w.heap.size + 1) (j := 2) (u := .slice ua2 x2.length uc2) rfl)).trans (turn_set (G := fun b => b = w.heap.size + 1) (g := w.heap.size + 1) (j := 3) (u := .slice ua3 x3.length uc3) rfl))
   have r := (heap_setCell_same _ (w.heap.size + 1) 3 _ _ (.slice ua3 x3.length uc3) (heap_setCell_same _ (w.heap.size + 1) 2 _ _ (.slice ua2 x2.length uc2) (heap_setCell_same _ (w.heap.size + 1) 1 _ _ (.int .i64 a1) (heap_setCell_same _ (w.heap.size + 1) 0 _ _ (.int .i64 a0) B1.out))))
   have e0 := cell_of_row _ _ 0 _ _ _ r
   have e1 := cell_of_row _ _ 1 _ _ _ r
   have e2 := cell_of_row _ _ 2 _ _ _ r
   have e3 := cell_of_row _ _ 3 _ _ _ r
   simp at e0 e1 e2 e3
   clear r
   have y0 := Y_W.out
   have y1 := Y_2.out
   have y2 := Y_3.out
   have y3 := Z_V3.out
   have y4 := Z_V4.out
   replace B0 := Lib.hid ((tt.block w.heap.size (Array.getElem?_eq_some_iff.1 B0.out).1 (fun h => by omega)).trans B0.out)
   replace P2 := Lib.hid (slO_turn tCond_law P2.out tt (fun b h1 h2 => by have r1 := Q2.out b h1; omega))
   replace P3 := Lib.hid (slO_turn tInt_law P3.out tt (fun b h1 h2 => by have r1 := Q3.out b h1; omega))
   replace d := Lib.hid (below_turn d.out tt (fun b h => by omega) d.out.size)
   clear tt y0 y1 y2 y3 y4
   generalize ((((V4.setCell ⟨w.heap.size + 1, 0, none⟩ (.int .i64 a0)).setCell ⟨w.heap.size + 1, 1, none⟩ (.int .i64 a1)).setCell ⟨w.heap.size + 1, 2, none⟩ (.slice ua2 x2.length uc2)).setCell ⟨w.heap.size + 1, 3, none⟩ (.slice ua3 x3.length uc3)) = V5 at *
   have p_B0_0 := (cell_of_row V5 _ 0 _ _ _ B0.out).trans (show _ = some (Value.int .i64 a0) from rfl)
   have p_B0_1 := (cell_of_row V5 _ 1 _ _ _ B0.out).trans (show _ = some (Value.int .i64 a1) from rfl)
   have p_B0_2 := (cell_of_row V5 _ 2 _ _ _ B0.out).trans (show _ = some (Value.slice c2 x2.length k2) from rfl)
   have p_B0_3 := (cell_of_row V5 _ 3 _ _ _ B0.out).trans (show _ = some (Value.slice c3 x3.length k3) from rfl)
   refine hK.out _ _ ⟨p_B0_0, p_B0_1, p_B0_2, p_B0_3⟩ (fun hHeld => ?_)
   clear p_B0_0 p_B0_1 p_B0_2 p_B0_3
   clear hK K
   try simp only [Act.put, lA, lB, lC]
   refine wpAnyH_done (by kernel_rfl) ?_ _
   clear hHeld
   go_wp2
   refine bodyPost_ret (v := .agg #[.int .i64 a0, .int .i64 a1, .slice ua2 x2.length uc2, .slice ua3 x3.length uc3]) ?_ rfl ?_
   ·
    simp [results, Tryd.f153, go_sem, e0, e1, e2, e3]
   have y0 := Y_W.out
   have y1 := Y_2.out
   have y2 := Y_3.out
   have y3 := Z_V3.out
   have y4 := Z_V4.out
   exact ⟨[.int .i64 a0, .int .i64 a1, .slice ua2 x2.length uc2, .slice ua3 x3.length uc3], rfl, tQuery_mkO P2.out P3.out (fun b h => by have r1 := Q2.out b h; show w.heap.size ≤ b; omega) (fun b h => by have r1 := Q3.out b h; show w.heap.size ≤ b; omega) (fun b h1 h2 => by have r1 := Q2.out b h1; have r2 := Q3.out b h2; omega), d.out⟩
 ·
  go_simp
  have hal : Below W.heap.size (W.drew) (W.alloc (.cells #[] 3)).drew := ⟨rfl, rfl, rfl, by show W.heap.size ≤ (W.alloc (.cells #[] 3)).heap.size; simp [World.size_alloc], fun k hk => Below.heap_alloc W _ k hk⟩
  have Y_3 := Lib.hid (show W.heap.size < (W.alloc (.cells #[] 3)).drew.heap.size by show W.heap.size < (W.alloc (.cells #[] 3)).heap.size; simp [World.size_alloc])
  replace B0 := Lib.hid ((hal.block w.heap.size (Array.getElem?_eq_some_iff.1 B0.out).1).trans B0.out)
  replace B1 := Lib.hid ((hal.block (w.heap.size + 1) (Array.getElem?_eq_some_iff.1 B1.out).1).trans B1.out)
  replace d := Lib.hid (d.out.trans (hal.mono d.out.size))
  have P3 := Lib.hid (slO_fresh tInt_law (slO_empty (T := tInt) W 3 (fun b => b = W.heap.size) rfl) (below_drew (Below.refl _ _)))
  have Q3 := Lib.hid (fun b (h : b = W.heap.size) => h)
  clear hal
  generalize (W.alloc (.cells #[] 3)).drew = V1 at *
  have p_B0_0 := (cell_of_row V1 _ 0 _ _ _ B0.out).trans (show _ = some (Value.int .i64 a0) from rfl)
  have p_B0_1 := (cell_of_row V1 _ 1 _ _ _ B0.out).trans (show _ = some (Value.int .i64 a1) from rfl)
  have p_B0_2 := (cell_of_row V1 _ 2 _ _ _ B0.out).trans (show _ = some (Value.slice c2 x2.length k2) from rfl)
  have p_B0_3 := (cell_of_row V1 _ 3 _ _ _ B0.out).trans (show _ = some (Value.slice c3 x3.length k3) from rfl)
  refine hK.out _ _ ⟨p_B0_0, p_B0_1, p_B0_2, p_B0_3⟩ (fun hHeld => ?_)
  clear p_B0_0 p_B0_1 p_B0_2 p_B0_3
  clear hK K
  try simp only [Act.put, lA, lB, lC]
  refine wpAnyH_ready (rs := [4]) (by kernel_rfl) (by simp) ?_
  refine (AllReadyH.cons (o := _) (by simp only [hA, hB, hC]; rfl) (fun K hK => ?_) AllReadyH.nil)
  go_simp
  have hal : Below V1.heap.size V1 (V1.alloc (.cells #[] 124)) := (Below.refl _ _).alloc (Nat.le_refl _) _
  have Y_2 := Lib.hid (show V1.heap.size < (V1.alloc (.cells #[] 124)).heap.size by show V1.heap.size < (V1.alloc (.cells #[] 124)).heap.size; simp [World.size_alloc])
  replace B0 := Lib.hid ((hal.block w.heap.size (Array.getElem?_eq_some_iff.1 B0.out).1).trans B0.out)
  replace B1 := Lib.hid ((hal.block (w.heap.size + 1) (Array.getElem?_eq_some_iff.1 B1.out).1).trans B1.out)
  replace P3 := Lib.hid (slO_fresh tInt_law P3.out hal)
  replace d := Lib.hid (d.out.trans (hal.mono d.out.size))
  have P2 := Lib.hid (slO_empty (T := tCond) V1 124 (fun b => b = V1.heap.size) rfl)
  have Q2 := Lib.hid (fun b (h : b = V1.heap.size) => h)
  clear hal
  generalize (V1.alloc (.cells #[] 124)) = V2 at *
  have p_B0_0 := (cell_of_row V2 _ 0 _ _ _ B0.out).trans (show _ = some (Value.int .i64 a0) from rfl)
  have p_B0_1 := (cell_of_row V2 _ 1 _ _ _ B0.out).trans (show _ = some (Value.int .i64 a1) from rfl)
  have p_B0_2 := (cell_of_row V2 _ 2 _ _ _ B0.out).trans (show _ = some (Value.slice c2 x2.length k2) from rfl)
  have p_B0_3 := (cell_of_row V2 _ 3 _ _ _ B0.out).trans (show _ = some (Value.slice c3 x3.length k3) from rfl)
  refine hK.out _ _ ⟨p_B0_0, p_B0_1, p_B0_2, p_B0_3⟩ (fun hHeld => ?_)
  clear p_B0_0 p_B0_1 p_B0_2 p_B0_3
  clear hK K
  try simp only [Act.put, lA, lB, lC]
  refine wpAnyH_ready (rs := [7]) (by kernel_rfl) (by simp) ?_
  refine (AllReadyH.cons (o := _) (by simp only [hA, hB, hC]; rfl) (fun K hK => ?_) AllReadyH.nil)
  refine step_append_flat tCond_law flat_Cond info_T_Cond Tryd.underlying61 rfl rfl (.tmp 7) (.tmp 9) rfl (fun b => b = V1.heap.size) (fun b => (fun b => b = V1.heap.size) b ∨ b = V2.heap.size) _ _ [] x2 rfl rfl P2.out (slR_below tCond_law H2.out d.out) (fun b h => Or.inl h) (Or.inr rfl) (by have := N2.out; simp; omega) ?_
  intro u V3 oB tB
  rw [List.nil_append] at oB
  obtain ⟨ua2, uc2, rfl⟩ := slO_len oB
  have y0 := Y_W.out
  have y1 := Y_3.out
  have y2 := Y_2.out
  have yd : w.heap.size ≤ V2.heap.size := d.out.size
  replace B0 := Lib.hid ((tB.block w.heap.size (Array.getElem?_eq_some_iff.1 B0.out).1 (fun h => by have r2 := Q2.out _ h; omega)).trans B0.out)
  replace B1 := Lib.hid ((tB.block (w.heap.size + 1) (Array.getElem?_eq_some_iff.1 B1.out).1 (fun h => by have r2 := Q2.out _ h; omega)).trans B1.out)
  replace P3 := Lib.hid (slO_turn tInt_law P3.out tB (fun b h1 h2 => by have r1 := Q3.out b h1; have r2 := Q2.out _ h2; omega))
  replace d := Lib.hid (below_turn d.out tB (fun b h => by have r2 := Q2.out _ h; omega) (by omega))
  have Z_V3 := Lib.hid (show V2.heap.size ≤ V3.heap.size from tB.size)
  clear yd y0 y1 y2
  replace P2 := Lib.hid (slO_lt tCond_law oB)
  replace Q2 := Lib.hid (fun b (h : ((fun b => b = V1.heap.size) b ∨ b = V2.heap.size) ∧ b < V3.heap.size) => (show (b = V1.heap.size ∨ b = V2.heap.size) ∧ b < V3.heap.size from h))
  clear oB tB
  have p_B0_0 := (cell_of_row V3 _ 0 _ _ _ B0.out).trans (show _ = some (Value.int .i64 a0) from rfl)
  have p_B0_1 := (cell_of_row V3 _ 1 _ _ _ B0.out).trans (show _ = some (Value.int .i64 a1) from rfl)
  have p_B0_2 := (cell_of_row V3 _ 2 _ _ _ B0.out).trans (show _ = some (Value.slice c2 x2.length k2) from rfl)
  have p_B0_3 := (cell_of_row V3 _ 3 _ _ _ B0.out).trans (show _ = some (Value.slice c3 x3.length k3) from rfl)
  refine hK.out _ _ ⟨p_B0_0, p_B0_1, p_B0_2, p_B0_3⟩ (fun hHeld => ?_)
  clear p_B0_0 p_B0_1 p_B0_2 p_B0_3
  clear hK K
  try simp only [Act.put, lA, lB, lC]
  refine wpAnyH_ready (rs := [11]) (by kernel_rfl) (by simp) ?_
  refine (AllReadyH.cons (o := _) (by simp only [hA, hB, hC]; rfl) (fun K hK => ?_) AllReadyH.nil)
  refine step_append_flat tInt_law flat_int info_T_int Tryd.underlying24 rfl rfl (.tmp 11) (.tmp 13) rfl (fun b => b = W.heap.size) (fun b => (fun b => b = W.heap.size) b ∨ b = V3.heap.size) _ _ [] x3 rfl rfl P3.out (slR_below tInt_law H3.out d.out) (fun b h => Or.inl h) (Or.inr rfl) (by have := N3.out; simp; omega) ?_
  intro u V4 oB tB
  rw [List.nil_append] at oB
  obtain ⟨ua3, uc3, rfl⟩ := slO_len oB
  have y0 := Y_W.out
  have y1 := Y_3.out
  have y2 := Y_2.out
  have y3 := Z_V3.out
  have yd : w.heap.size ≤ V3.heap.size := d.out.size
  replace B0 := Lib.hid ((tB.block w.heap.size (Array.getElem?_eq_some_iff.1 B0.out).1 (fun h => by have r2 := Q3.out _ h; omega)).trans B0.out)
  replace B1 := Lib.hid ((tB.block (w.heap.size + 1) (Array.getElem?_eq_some_iff.1 B1.out).1 (fun h => by have r2 := Q3.out _ h; omega)).trans B1.out)
  replace P2 := Lib.hid (slO_turn tCond_law P2.out tB (fun b h1 h2 => by have r1 := Q2.out b h1; have r2 := Q3.out _ h2; omega))
  replace d := Lib.hid (below_turn d.out tB (fun b h => by have r2 := Q3.out _ h; omega) (by omega))
  have Z_V4 := Lib.hid (show V3.heap.size ≤ V4.heap.size from tB.size)
  clear yd y0 y1 y2 y3
  replace P3 := Lib.hid (slO_lt tInt_law oB)
  replace Q3 := Lib.hid (fun b (h : ((fun b => b = W.heap.size) b ∨ b = V3.heap.size) ∧ b < V4.heap.size) => (show (b = W.heap.size ∨ b = V3.heap.size) ∧ b < V4.heap.size from h))
  clear oB tB
  have p_B0_0 := (cell_of_row V4 _ 0 _ _ _ B0.out).trans (show _ = some (Value.int .i64 a0) from rfl)
  have p_B0_1 := (cell_of_row V4 _ 1 _ _ _ B0.out).trans (show _ = some (Value.int .i64 a1) from rfl)
  have p_B0_2 := (cell_of_row V4 _ 2 _ _ _ B0.out).trans (show _ = some (Value.slice c2 x2.length k2) from rfl)
  have p_B0_3 := (cell_of_row V4 _ 3 _ _ _ B0.out).trans (show _ = some (Value.slice c3 x3.length k3) from rfl)
  refine hK.out _ _ ⟨p_B0_0, p_B0_1, p_B0_2, p_B0_3⟩ (fun hHeld => ?_)
  clear p_B0_0 p_B0_1 p_B0_2 p_B0_3
  clear hK K
  try simp only [Act.put, lA, lB, lC]
  refine tR (i := 12) (v := ?_) ?_ ?_; rotate_left
  ·
   intro w hSw; (try dsimp only at hSw); go_simp; try (with_reducible rfl)
  try simp only [Act.put, lA, lB, lC]
  refine wpAnyH_ready (rs := [13]) (by kernel_rfl) (by simp) ?_
  refine (AllReadyH.cons (o := _) (by simp only [hA, hB, hC]; rfl) (fun K hK => ?_) AllReadyH.nil)
  have p_B1_0 := (cell_of_row V4 _ 0 _ _ _ B1.out).trans (show _ = some (Value.int .i64 0) from rfl)
  have p_B1_1 := (cell_of_row V4 _ 1 _ _ _ B1.out).trans (show _ = some (Value.int .i64 0) from rfl)
  have p_B1_2 := (cell_of_row V4 _ 2 _ _ _ B1.out).trans (show _ = some (Value.slice none 0 0) from rfl)
  have p_B1_3 := (cell_of_row V4 _ 3 _ _ _ B1.out).trans (show _ = some (Value.slice none 0 0) from rfl)
  have f_B1_0 := frozen_of_row V4 _ 0 _ _ B1.out
  have f_B1_1 := frozen_of_row V4 _ 1 _ _ B1.out
  have f_B1_2 := frozen_of_row V4 _ 2 _ _ B1.out
  have f_B1_3 := frozen_of_row V4 _ 3 _ _ B1.out
  go_simp
  clear p_B1_0 p_B1_1 p_B1_2 p_B1_3 f_B1_0 f_B1_1 f_B1_2 f_B1_3
  have tt := (((((Turn.refl (fun b => b = w.heap.size + 1) V4).trans (turn_set (G := fun b => b = w.heap.size + 1) (g := w.heap.size + 1) (j := 0) (u := .int .i64 a0) rfl)).trans (turn_set (G := fun b => b = w.heap.size + 1) (g := w.heap.size + 1) (j := 1) (u := .int .i64 a1) rfl)).trans (turn_set (G := fun b => b = w.heap.size + 1) (g := w.heap.size + 1) (j := 2) (u := .slice ua2 x2.length uc2) rfl)).trans (turn_set (G := fun b => b = w.heap.size + 1) (g := w.heap.size + 1) (j := 3) (u := .slice ua3 x3.length uc3) rfl))
  have r := (heap_setCell_same _ (w.heap.size + 1) 3 _ _ (.slice ua3 x3.length uc3) (heap_setCell_same _ (w.heap.size + 1) 2 _ _ (.slice ua2 x2.length uc2) (heap_setCell_same _ (w.heap.size + 1) 1 _ _ (.int .i64 a1) (heap_setCell_same _ (w.heap.size + 1) 0 _ _ (.int .i64 a0) B1.out))))
  have e0 := cell_of_row _ _ 0 _ _ _ r
  have e1 := cell_of_row _ _ 1 _ _ _ r
  have e2 := cell_of_row _ _ 2 _ _ _ r
  have e3 := cell_of_row _ _ 3 _ _ _ r
  simp at e0 e1 e2 e3
  clear r
  have y0 := Y_W.out
  have y1 := Y_3.out
  have y2 := Y_2.out
  have y3 := Z_V3.out
  have y4 := Z_V4.out
  replace B0 := Lib.hid ((tt.block w.heap.size (Array.getElem?_eq_some_iff.1 B0.out).1 (fun h => by omega)).trans B0.out)
  replace P3 := Lib.hid (slO_turn tInt_law P3.out tt (fun b h1 h2 => by have r1 := Q3.out b h1; omega))
  replace P2 := Lib.hid (slO_turn tCond_law P2.out tt (fun b h1 h2 => by have r1 := Q2.out b h1; omega))
  replace d := Lib.hid (below_turn d.out tt (fun b h => by omega) d.out.size)
  clear tt y0 y1 y2 y3 y4
  generalize ((((V4.setCell ⟨w.heap.size + 1, 0, none⟩ (.int .i64 a0)).setCell ⟨w.heap.size + 1, 1, none⟩ (.int .i64 a1)).setCell ⟨w.heap.size + 1, 2, none⟩ (.slice ua2 x2.length uc2)).setCell ⟨w.heap.size + 1, 3, none⟩ (.slice ua3 x3.length uc3)) = V5 at *
  have p_B0_0 := (cell_of_row V5 _ 0 _ _ _ B0.out).trans (show _ = some (Value.int .i64 a0) from rfl)
  have p_B0_1 := (cell_of_row V5 _ 1 _ _ _ B0.out).trans (show _ = some (Value.int .i64 a1) from rfl)
  have p_B0_2 := (cell_of_row V5 _ 2 _ _ _ B0.out).trans (show _ = some (Value.slice c2 x2.length k2) from rfl)
  have p_B0_3 := (cell_of_row V5 _ 3 _ _ _ B0.out).trans (show _ = some (Value.slice c3 x3.length k3) from rfl)
  refine hK.out _ _ ⟨p_B0_0, p_B0_1, p_B0_2, p_B0_3⟩ (fun hHeld => ?_)
  clear p_B0_0 p_B0_1 p_B0_2 p_B0_3
  clear hK K
  try simp only [Act.put, lA, lB, lC]
  refine wpAnyH_done (by kernel_rfl) ?_ _
  clear hHeld
  go_wp2
  refine bodyPost_ret (v := .agg #[.int .i64 a0, .int .i64 a1, .slice ua2 x2.length uc2, .slice ua3 x3.length uc3]) ?_ rfl ?_
  ·
   simp [results, Tryd.f153, go_sem, e0, e1, e2, e3]
  have y0 := Y_W.out
  have y1 := Y_3.out
  have y2 := Y_2.out
  have y3 := Z_V3.out
  have y4 := Z_V4.out
  exact ⟨[.int .i64 a0, .int .i64 a1, .slice ua2 x2.length uc2, .slice ua3 x3.length uc3], rfl, tQuery_mkO P2.out P3.out (fun b h => by have r1 := Q2.out b h; show w.heap.size ≤ b; omega) (fun b h => by have r1 := Q3.out b h; show w.heap.size ≤ b; omega) (fun b h1 h2 => by have r1 := Q2.out b h1; have r2 := Q3.out b h2; omega), d.out⟩
theorem info_T_Query : ElemInfo tQuery 63 (.agg #[.int .i64 0, .int .i64 0, .slice none 0 0, .slice none 0 0]) := elemInfo_of (by kernel_rfl)
set_option maxHeartbeats 8000000 in
set_option maxRecDepth 100000 in
theorem copy_l6Queries (v : Value) (xs : List (Int × Int × List (Int × Int × Int) × List Int)) (w : World) (h : SlR tQuery w v xs) (hs : zL tQuery xs ≤ 1048576) :
  Calls Tryd.prog 139 #[v] w (FreshS 63 tQuery w xs) := by
 have H := Lib.hid h
 have hlen := zL_len hs
 have HS := Lib.hid hs
 obtain ⟨a, cap, rfl⟩ := slR_len h
 clear h hs
 go_enter Tryd.func139, Tryd.ntmps139
 go_wp2
 go_loopw [3, 4] (fun u i wr => ∃ k : Nat, k ≤ xs.length ∧ i = .int .i64 k ∧ SlO 63 tQuery wr (since w) u (xs.take k) ∧ Below w.heap.size w wr) (fun _ i _ => xs.length - (intOf i).toNat)
 case atStart => exact ⟨0, Nat.zero_le _, rfl, slO_empty w 63 (since w) (Nat.le_refl _), (Below.refl _ _).alloc (Nat.le_refl _) _⟩
 case round =>
  obtain ⟨k, hk, rfl, hown, hbel⟩ := hrel
  by_cases hlt : k < xs.length
  ·
   have i1 : (0 : Int) ≤ (k : Int) := by omega
   have i2 : (k : Int) < (xs.length : Int) := by omega
   have hzx := zL_at HS.out hlt
   obtain ⟨b, off, cap', cs, hv, hbl, hcs, hR⟩ := slR_at (slR_below tQuery_law H.out hbel) hlt
   simp only [Value.slice.injEq] at hv
   obtain ⟨rfl, _, rfl⟩ := hv
   have HTK : Hid (xs.take k ++ [xs.getD k tQuery.d] = xs.take (k + 1)) := Lib.hid (by rw [List.take_succ_eq_append_getElem hlt]; simp [List.getD, hlt])
   have HKL : Hid ((xs.take k).length ≤ 1048576) := Lib.hid (by rw [List.length_take]; omega)
   have HO := Lib.hid (slO_lt tQuery_law hown)
   have hsz := hbel.size
   have HB := Lib.hid hbel
   clear hown hbel
   generalize xs.getD k tQuery.d = x at *
   generalize xs.take k = ys at *
   obtain ⟨a0, a1, x2, x3⟩ := x
   obtain ⟨v2, v3, hR'⟩ := tQuery_R hR
   obtain ⟨rfl, h2, h3⟩ := hR'
   have p0 : wr.cell? ⟨b, off + k * 4, none⟩ = some (Value.int .i64 a0) := hcs 0 (by decide)
   have p1 : wr.cell? ⟨b, off + k * 4 + 1, none⟩ = some (Value.int .i64 a1) := hcs 1 (by decide)
   have p2 : wr.cell? ⟨b, off + k * 4 + 2, none⟩ = some (v2) := hcs 2 (by decide)
   have p3 : wr.cell? ⟨b, off + k * 4 + 3, none⟩ = some (v3) := hcs 3 (by decide)
   rw [tQuery_sz] at hzx
   have S2 := Lib.hid (show zL tCond x2 ≤ 1048576 by omega)
   have S3 := Lib.hid (show zL tInt x3 ≤ 1048576 by omega)
   clear hcs hR hzx
   go_wp2_with fail
   refine (copy_l6Query a0 a1 v2 v3 x2 x3 wr h2 h3 S2.out S3.out).mono ?_
   rintro e w2 ⟨cs, rfl, ow, b2⟩
   clear p0 p1 p2 p3
   have ow2 := ow
   obtain ⟨u2, u3, K2, K3, rfl, o2, o3, _, _, _⟩ := tQuery_O ow2
   obtain ⟨ua2, uc2, rfl⟩ := slO_len o2
   obtain ⟨ua3, uc3, rfl⟩ := slO_len o3
   clear o2 o3 h2 h3
   have HO2 := Lib.hid (slO_fresh tQuery_law HO.out b2)
   have HB2 := Lib.hid (HB.out.trans (b2.mono hsz))
   have OW := Lib.hid (tQuery_law.fresh ow ((Below.refl w2.heap.size w2).alloc (Nat.le_refl _) (.cells #[.int .i64 a0, .int .i64 a1, .slice ua2 x2.length uc2, .slice ua3 x3.length uc3] 63)))
   have HO3 := Lib.hid (slO_fresh tQuery_law HO2.out ((Below.refl w2.heap.size w2).alloc (Nat.le_refl _) (.cells #[.int .i64 a0, .int .i64 a1, .slice ua2 x2.length uc2, .slice ua3 x3.length uc3] 63)))
   have z2 := b2.size
   have HB3 := Lib.hid (HB2.out.trans (((Below.refl w2.heap.size w2).alloc (Nat.le_refl _) (.cells #[.int .i64 a0, .int .i64 a1, .slice ua2 x2.length uc2, .slice ua3 x3.length uc3] 63)).mono (Nat.le_trans hsz z2)))
   have hz3 : wr.heap.size ≤ (w2.alloc (.cells #[.int .i64 a0, .int .i64 a1, .slice ua2 x2.length uc2, .slice ua3 x3.length uc3] 63)).heap.size := by simp [World.size_alloc]; omega
   have HZ3 := Lib.hid hz3
   clear HO HO2 HB HB2 ow b2 z2 hz3
   go_wp2_with (at_builtin; refine append_T tQuery_law info_T_Query Tryd.underlying34 rfl rfl (.tmp 18) (.tmp 20) rfl (since w) wr.heap.size _ ys rfl HO3.out HZ3.out (fun b hb => Nat.le_trans hsz hb) HKL.out [.int .i64 a0, .int .i64 a1, .slice ua2 x2.length uc2, .slice ua3 x3.length uc3] (a0, a1, x2, x3) OW.out (by simp [Value.oneCell']) 1 _ rfl (by simp [World.size_alloc]) ?_)
   intro v' w4 hown4 t4
   rw [HTK.out] at hown4
   have hb4 := below_turn HB3.out t4 (fun b hb => hb.1) (Nat.le_trans hsz HZ3.out)
   clear HO3 HB3 OW t4
   go_wp2
   go_roundw
   case rel => exact ⟨k + 1, by omega, by go_num, hown4, hb4⟩
   case measure => simp [intOf]; omega
  ·
   obtain rfl : k = xs.length := by omega
   rw [List.take_length] at hown
   go_wp2
   go_ret
   exact ⟨_, rfl, hown, hbel⟩
theorem info_T_SpanS : ElemInfo tSpanS 37 (.slice none 0 0) := elemInfo_of (by kernel_rfl)
def FreshIx (w : World) (qs : List QD) (fs : List (List SpanD)) (e : Ending) (w' : World) : Prop := FreshT tIndex (fun cs => .agg cs.toArray) w (qs, fs) e w'
set_option maxHeartbeats 16000000 in
set_option maxRecDepth 100000 in
theorem specBuildIndex (v : Value) (qs : List QD) (w : World) (h : SlR tQuery w v qs) (hs : zL tQuery qs ≤ 1048576) :
  Calls Tryd.prog 117 #[v] w (FreshIx w (buildB qs).1 (buildB qs).2) := by
 have HS := Lib.hid hs
 have HSQ : Hid (szQL qs ≤ 1048576) := Lib.hid (by rw [← zL_queries]; exact hs)
 have hlen := zL_len hs
 have H := Lib.hid h
 obtain ⟨a, cap, rfl⟩ := slR_len h
 clear h hs
 have d0 := Lib.hid ((Below.refl w.heap.size w).alloc (Nat.le_refl _) (.cells #[.slice none 0 0, .slice none 0 0] 49))
 have B0 : Hid ((w.alloc (.cells #[.slice none 0 0, .slice none 0 0] 49)).heap[w.heap.size]? = some (.cells #[.slice none 0 0, .slice none 0 0] 49 (0, 0))) := Lib.hid (heap_alloc_new w _)
 have Y0 : Hid (w.heap.size < (w.alloc (.cells #[.slice none 0 0, .slice none 0 0] 49)).heap.size) := Lib.hid (by simp [World.size_alloc])
 cases hq : areQB qs with
 | false =>
  have HE : Hid (buildB qs = ([], [])) := Lib.hid (by unfold buildB; rw [hq]; rfl)
  have HA := Lib.hid (fun w h => specAreQueries (.slice a qs.length cap) qs w h HSQ.out)
  rw [hq] at HA
  rw [HE.out]
  clear hq HE
  go_enter Tryd.func117, Tryd.ntmps117
  go_wp2_with fail
  generalize w.alloc (.cells #[.slice none 0 0, .slice none 0 0] 49) = W at *
  refine (HA.out W (slR_queries (slR_below tQuery_law H.out d0.out))).mono ?_
  rintro e w1 ⟨rfl, b1⟩
  have k0 := (b1.block w.heap.size Y0.out).trans B0.out
  have c0 := cell_of_row _ _ 0 _ _ _ k0
  have c1 := cell_of_row _ _ 1 _ _ _ k0
  simp at c0 c1
  have f0 := frozen_of_row w1 _ 0 _ _ k0
  have f1 := frozen_of_row w1 _ 1 _ _ k0
  have D := Lib.hid (((d0.out.trans (b1.mono d0.out.size)).setCell (p := ⟨w.heap.size, 0, none⟩) (Nat.le_refl _) (.slice none 0 0)).setCell (p := ⟨w.heap.size, 1, none⟩) (Nat.le_refl _) (.slice none 0 0))
  have r := heap_setCell_same _ w.heap.size 1 _ _ (.slice none 0 0) (heap_setCell_same _ w.heap.size 0 _ _ (.slice none 0 0) k0)
  have e0 := cell_of_row _ _ 0 _ _ _ r
  have e1 := cell_of_row _ _ 1 _ _ _ r
  simp at e0 e1
  clear r k0 b1
  go_wp2
  refine bodyPost_ret (v := .agg #[.slice none 0 0, .slice none 0 0]) ?_ rfl ?_
  ·
   simp [results, Tryd.f117, go_sem, e0, e1]
  ·
   exact ⟨[.slice none 0 0, .slice none 0 0], rfl, tIndex_mkO (slO_nil _ _ _ (fun _ => False)) (slO_nil _ _ _ (fun _ => False)) (fun b h => False.elim h) (fun b h => False.elim h) (fun b h _ => False.elim h), D.out⟩
 | true =>
  have HE : Hid (buildB qs = (qs, fldTo qs 3)) := Lib.hid (by unfold buildB; rw [hq]; rfl)
  have HA := Lib.hid (fun w h => specAreQueries (.slice a qs.length cap) qs w h HSQ.out)
  rw [hq] at HA
  rw [HE.out]
  clear hq HE
  go_enter Tryd.func117, Tryd.ntmps117
  go_wp2_with fail
  generalize w.alloc (.cells #[.slice none 0 0, .slice none 0 0] 49) = W at *
  refine (HA.out W (slR_queries (slR_below tQuery_law H.out d0.out))).mono ?_
  rintro e w1 ⟨rfl, b1⟩
  have k0 := (b1.block w.heap.size Y0.out).trans B0.out
  have d1 := d0.out.trans (b1.mono d0.out.size)
  have y1 := Nat.lt_of_lt_of_le Y0.out b1.size
  have D1 := Lib.hid d1
  clear b1 B0 d0 Y0
  go_wp2_with fail
  refine (copy_l6Queries (.slice a qs.length cap) qs w1 (slR_below tQuery_law H.out D1.out) HS.out).mono ?_
  rintro e w2 ⟨u, rfl, oq, b2⟩
  obtain ⟨ua, uc, rfl⟩ := slO_len oq
  have k2 := (b2.block w.heap.size y1).trans k0
  have D2 := Lib.hid (d1.trans (b2.mono d1.size))
  have y2 := Nat.lt_of_lt_of_le y1 b2.size
  have PQ := Lib.hid (slO_lt tQuery_law oq)
  have hy12 : w.heap.size < w1.heap.size := y1
  have HY12 := Lib.hid hy12
  have K2 := Lib.hid k2
  have Y2 := Lib.hid y2
  clear k0 d1 b2 oq k2 y1 y2 D1 hy12
  go_wp2_with fail
  have hal : Below w2.heap.size w2 (w2.alloc (.cells #[.slice ua qs.length uc, .slice none 0 0] 49)) := (Below.refl _ _).alloc (Nat.le_refl _) _
  have k3 := (hal.block w.heap.size Y2.out).trans K2.out
  have x3 := heap_alloc_new w2 (.cells #[.slice ua qs.length uc, .slice none 0 0] 49)
  have p3 : SlO 63 tQuery (w2.alloc (.cells #[.slice ua qs.length uc, .slice none 0 0] 49)) (fun b => w.heap.size < b ∧ b < w2.heap.size) (.slice ua qs.length uc) qs := slO_mono (slO_fresh tQuery_law PQ.out hal) (fun b hb => ⟨by have := hb.1; have := HY12.out; have h9 : w1.heap.size ≤ b := hb.1; omega, hb.2⟩)
  have d3 := D2.out.trans (hal.mono D2.out.size)
  have y3 : w2.heap.size < (w2.alloc (.cells #[.slice ua qs.length uc, .slice none 0 0] 49)).heap.size := by simp [World.size_alloc]
  have HY2 := Y2.out
  clear hal PQ D2 K2
  generalize w2.alloc (.cells #[.slice ua qs.length uc, .slice none 0 0] 49) = W3 at *
  generalize w2.heap.size = R at *
  go_loopw [4] (fun i wr => ∃ (k : Nat) (fv : Value), k ≤ 3 ∧ i = .int .i64 k ∧ wr.heap[w.heap.size]? = some (.cells #[.slice none 0 0, .slice none 0 0] 49 (0, 0)) ∧ wr.heap[R]? = some (.cells #[.slice ua qs.length uc, fv] 49 (0, 0)) ∧ SlO 63 tQuery wr (fun b => w.heap.size < b ∧ b < R) (.slice ua qs.length uc) qs ∧ SlO 37 tSpanS wr (fun b => R < b) fv (fldTo qs k) ∧ Below w.heap.size w wr ∧ R < wr.heap.size) (fun i _ => 3 - (intOf i).toNat)
  case atStart => exact ⟨0, .slice none 0 0, by omega, rfl, k3, x3, p3, slO_nil _ _ _ _, d3, y3⟩
  case round =>
   obtain ⟨k, fv, hk, rfl, hr0, hr1, hpq, hpf, hbel, hRs⟩ := hrel
   obtain ⟨fa, fc, rfl⟩ := slO_len hpf
   rw [fldTo_len] at hr1 hpf
   by_cases hlt : k < 3
   ·
    have i1 : (0 : Int) ≤ (k : Int) := by omega
    have i2 : (k : Int) < 3 := by omega
    have HST := Lib.hid (fldTo_step qs k)
    have HLN := Lib.hid (fldTo_len qs k)
    have B0 := Lib.hid hr0
    have BX := Lib.hid hr1
    have PQ := Lib.hid hpq
    have QQ := Lib.hid (fun b (h : w.heap.size < b ∧ b < R) => h)
    have PF := Lib.hid (slO_lt tSpanS_law hpf)
    have QF := Lib.hid (fun b (h : R < b ∧ b < wr.heap.size) => h)
    have d := Lib.hid hbel
    have Z0 : Hid (R < wr.heap.size) := Lib.hid hRs
    have Z1 : Hid (w.heap.size < R) := Lib.hid HY2
    clear hr0 hr1 hpq hpf hbel k3 x3 p3 d3 y3 hRs
    go_wp2
    refine wp_region_held_drew (S := fun w' => True) (by kernel_rfl) trivial (fun hHeld => ?_)
    have cdr : Below wr.heap.size wr wr.drew := below_drew (Below.refl _ _)
    replace B0 := Lib.hid ((cdr.block w.heap.size (Array.getElem?_eq_some_iff.1 B0.out).1).trans B0.out)
    replace BX := Lib.hid ((cdr.block R (Array.getElem?_eq_some_iff.1 BX.out).1).trans BX.out)
    replace PQ := Lib.hid (slO_fresh tQuery_law PQ.out cdr)
    replace PF := Lib.hid (slO_fresh tSpanS_law PF.out cdr)
    replace d := Lib.hid (d.out.trans (cdr.mono d.out.size))
    clear cdr
    refine tR (i := 0) (v := ?_) ?_ ?_; rotate_left
    ·
     intro w hSw; (try dsimp only at hSw); go_simp; try (with_reducible rfl)
    try simp only [Act.put, lA, lB, lC]
    refine tR (i := 2) (v := ?_) ?_ ?_; rotate_left
    ·
     intro w hSw; (try dsimp only at hSw); go_simp; try (with_reducible rfl)
    try simp only [Act.put, lA, lB, lC]
    refine tR (i := 3) (v := ?_) ?_ ?_; rotate_left
    ·
     intro w hSw; (try dsimp only at hSw); go_simp; try (with_reducible rfl)
    try simp only [Act.put, lA, lB, lC]
    refine wpAnyH_ready (rs := [1, 4]) (by kernel_rfl) (by simp) ?_
    refine (AllReadyH.cons (o := _) (by simp only [hA, hB, hC]; rfl) (fun K hK => ?_) (AllReadyH.cons (o := _) (by simp only [hA, hB, hC]; rfl) (fun K hK => ?_) AllReadyH.nil))
    ·
     have p_BX_0 := (cell_of_row (wr.drew) _ 0 _ _ _ BX.out).trans (show _ = some (Value.slice ua qs.length uc) from rfl)
     have p_BX_1 := (cell_of_row (wr.drew) _ 1 _ _ _ BX.out).trans (show _ = some (Value.slice fa k fc) from rfl)
     go_simp
     clear p_BX_0 p_BX_1
     refine hK.out _ _ trivial (fun hHeld => ?_)
     clear hK K
     try simp only [Act.put, lA, lB, lC]
     refine wpAnyH_ready (rs := [4]) (by kernel_rfl) (by simp) ?_
     refine (AllReadyH.cons (o := _) (by simp only [hA, hB, hC]; rfl) (fun K hK => ?_) AllReadyH.nil)
     go_simp
     refine (specStabIndex (.slice a qs.length cap) qs (k : Int) (wr.drew) (slR_queries (slR_below tQuery_law H.out d.out)) HSQ.out).mono ?_
     rintro e w5 ⟨su, rfl, os, c5⟩
     replace B0 := Lib.hid ((c5.block w.heap.size (Array.getElem?_eq_some_iff.1 B0.out).1).trans B0.out)
     replace BX := Lib.hid ((c5.block R (Array.getElem?_eq_some_iff.1 BX.out).1).trans BX.out)
     replace PQ := Lib.hid (slO_fresh tQuery_law PQ.out c5)
     replace PF := Lib.hid (slO_fresh tSpanS_law PF.out c5)
     replace d := Lib.hid (d.out.trans (c5.mono d.out.size))
     have Z_w5 := Lib.hid (show wr.heap.size ≤ w5.heap.size from c5.size)
     clear c5
     have os2 := fresh_spans os
     obtain ⟨sa, sc, rfl⟩ := slO_len os2
     have PS : Hid (SlO 43 tSpan w5 (fun b => wr.heap.size ≤ b) (.slice sa (spansL qs (k : Int)).length sc) (spansL qs (k : Int))) := Lib.hid os2
     clear os os2
     refine hK.out _ _ trivial (fun hHeld => ?_)
     clear hK K
     try simp only [Act.put, lA, lB, lC]
     refine wpAnyH_ready (rs := [5]) (by kernel_rfl) (by simp) ?_
     refine (AllReadyH.cons (o := _) (by simp only [hA, hB, hC]; rfl) (fun K hK => ?_) AllReadyH.nil)
     have KB0 := B0
     have KBX := BX
     have KPQ := PQ
     go_simp
     have hal : Below w5.heap.size w5 (w5.alloc (.cells #[.slice sa (spansL qs (k : Int)).length sc] 37)) := (Below.refl _ _).alloc (Nat.le_refl _) _
     have PF5 := PF
     have PS5 := PS
     replace B0 := Lib.hid ((hal.block w.heap.size (Array.getElem?_eq_some_iff.1 B0.out).1).trans B0.out)
     replace BX := Lib.hid ((hal.block R (Array.getElem?_eq_some_iff.1 BX.out).1).trans BX.out)
     replace PQ := Lib.hid (slO_fresh tQuery_law PQ.out hal)
     replace PF := Lib.hid (slO_fresh tSpanS_law PF.out hal)
     have D5 := d
     replace d := Lib.hid (d.out.trans (hal.mono d.out.size))
     clear hal
     refine hK.out _ _ trivial (fun hHeld => ?_)
     clear hK K
     try simp only [Act.put, lA, lB, lC]
     refine wpAnyH_ready (rs := [6]) (by kernel_rfl) (by simp) ?_
     refine (AllReadyH.cons (o := _) (by simp only [hA, hB, hC]; rfl) (fun K hK => ?_) AllReadyH.nil)
     refine step_append_T tSpanS_law info_T_SpanS Tryd.underlying47 rfl rfl (.tmp 17) (.tmp 21) rfl (fun b => R < b) wr.heap.size _ (fldTo qs k) rfl PF5.out Z_w5.out (fun b hb => Nat.lt_of_lt_of_le Z0.out hb) (by rw [HLN.out]; omega) [.slice sa (spansL qs (k : Int)).length sc] (spansL qs (k : Int)) ⟨_, rfl, PS5.out⟩ (by simp [Value.oneCell']) 1 _ rfl rfl ?_
     intro v' w6 o6 t6
     rw [HST.out] at o6
     obtain ⟨ga, gc, hv⟩ := slO_len o6
     rw [fldTo_len] at hv
     subst hv
     have y0 := Z0.out; have y1 := Z1.out; have y5 := Z_w5.out; have yd := D5.out.size
     have k0 := (t6.block w.heap.size (by omega) (fun h => by have := h.1; omega)).trans KB0.out
     have kx := (t6.block R (by omega) (fun h => by have := h.1; omega)).trans KBX.out
     have pq := slO_turn tQuery_law KPQ.out t6 (fun b h1 h2 => by have := h1.2; have := h2.1; omega)
     have d6 := below_turn D5.out t6 (fun b h => by have := h.1; omega) yd
     have z6 := t6.size
     replace B0 := Lib.hid k0
     replace BX := Lib.hid kx
     replace PQ := Lib.hid pq
     replace d := Lib.hid d6
     have PG := Lib.hid o6
     have Z6 : Hid (R < w6.heap.size) := Lib.hid (by omega)
     clear k0 kx pq d6 z6 o6 t6 y0 y1 y5 yd PF PF5 PS PS5 KB0 KBX KPQ D5
     refine hK.out _ _ trivial (fun hHeld => ?_)
     clear hK K
     try simp only [Act.put, lA, lB, lC]
     refine tR (i := 7) (v := ?_) ?_ ?_; rotate_left
     ·
      intro w hSw; (try dsimp only at hSw); go_simp; try (with_reducible rfl)
     try simp only [Act.put, lA, lB, lC]
     refine wpAnyH_ready (rs := [8]) (by kernel_rfl) (by simp) ?_
     refine (AllReadyH.cons (o := _) (by simp only [hA, hB, hC]; rfl) (fun K hK => ?_) AllReadyH.nil)
     have cx1 := (cell_of_row w6 _ 1 _ _ _ BX.out).trans (show _ = some (Value.slice fa k fc) from rfl)
     have fx1 := frozen_of_row w6 _ 1 _ _ BX.out
     go_simp
     clear cx1 fx1
     have tt : Turn (fun b => b = R) w6 (w6.setCell ⟨R, 1, none⟩ (.slice ga (k + 1) gc)) := turn_set (G := fun b => b = R) (g := R) (j := 1) (u := .slice ga (k + 1) gc) rfl
     have y0 := Z1.out; have y6 := Z6.out
     have r := heap_setCell_same w6 R 1 _ _ (.slice ga (k + 1) gc) BX.out
     replace BX : Hid ((w6.setCell ⟨R, 1, none⟩ (.slice ga (k + 1) gc)).heap[R]? = some (.cells #[.slice ua qs.length uc, .slice ga (k + 1) gc] 49 (0, 0))) := Lib.hid (by simpa using r)
     replace B0 := Lib.hid ((tt.block w.heap.size (by omega) (fun h => by omega)).trans B0.out)
     replace PQ := Lib.hid (slO_turn tQuery_law PQ.out tt (fun b h1 h2 => by have := h1.2; omega))
     replace PG := Lib.hid (slO_turn tSpanS_law PG.out tt (fun b h1 h2 => by have h3 : R < b := h1; omega))
     replace d := Lib.hid (below_turn d.out tt (fun b h => by omega) d.out.size)
     have Z7 : Hid (R < (w6.setCell ⟨R, 1, none⟩ (.slice ga (k + 1) gc)).heap.size) := Lib.hid (Nat.lt_of_lt_of_le y6 tt.size)
     clear tt y0 y6 r
     generalize w6.setCell ⟨R, 1, none⟩ (.slice ga (k + 1) gc) = w7 at *
     refine hK.out _ _ trivial (fun hHeld => ?_)
     clear hK K
     try simp only [Act.put, lA, lB, lC]
     refine wpAnyH_done (by kernel_rfl) ?_ _
     clear hHeld
     go_wp2
     go_roundw
     case rel => exact ⟨k + 1, _, by omega, by go_num, B0.out, BX.out, PQ.out, PG.out, d.out, Z7.out⟩
     case measure => simp [intOf]; omega
    ·
     go_simp
     refine (specStabIndex (.slice a qs.length cap) qs (k : Int) (wr.drew) (slR_queries (slR_below tQuery_law H.out d.out)) HSQ.out).mono ?_
     rintro e w5 ⟨su, rfl, os, c5⟩
     replace B0 := Lib.hid ((c5.block w.heap.size (Array.getElem?_eq_some_iff.1 B0.out).1).trans B0.out)
     replace BX := Lib.hid ((c5.block R (Array.getElem?_eq_some_iff.1 BX.out).1).trans BX.out)
     replace PQ := Lib.hid (slO_fresh tQuery_law PQ.out c5)
     replace PF := Lib.hid (slO_fresh tSpanS_law PF.out c5)
     replace d := Lib.hid (d.out.trans (c5.mono d.out.size))
     have Z_w5 := Lib.hid (show wr.heap.size ≤ w5.heap.size from c5.size)
     clear c5
     have os2 := fresh_spans os
     obtain ⟨sa, sc, rfl⟩ := slO_len os2
     have PS : Hid (SlO 43 tSpan w5 (fun b => wr.heap.size ≤ b) (.slice sa (spansL qs (k : Int)).length sc) (spansL qs (k : Int))) := Lib.hid os2
     clear os os2
     refine hK.out _ _ trivial (fun hHeld => ?_)
     clear hK K
     try simp only [Act.put, lA, lB, lC]
     refine wpAnyH_ready (rs := [1, 5]) (by kernel_rfl) (by simp) ?_
     refine (AllReadyH.cons (o := _) (by simp only [hA, hB, hC]; rfl) (fun K hK => ?_) (AllReadyH.cons (o := _) (by simp only [hA, hB, hC]; rfl) (fun K hK => ?_) AllReadyH.nil))
     ·
      have p_BX_0 := (cell_of_row w5 _ 0 _ _ _ BX.out).trans (show _ = some (Value.slice ua qs.length uc) from rfl)
      have p_BX_1 := (cell_of_row w5 _ 1 _ _ _ BX.out).trans (show _ = some (Value.slice fa k fc) from rfl)
      go_simp
      clear p_BX_0 p_BX_1
      refine hK.out _ _ trivial (fun hHeld => ?_)
      clear hK K
      try simp only [Act.put, lA, lB, lC]
      refine wpAnyH_ready (rs := [5]) (by kernel_rfl) (by simp) ?_
      refine (AllReadyH.cons (o := _) (by simp only [hA, hB, hC]; rfl) (fun K hK => ?_) AllReadyH.nil)
      have KB0 := B0
      have KBX := BX
      have KPQ := PQ
      go_simp
      have hal : Below w5.heap.size w5 (w5.alloc (.cells #[.slice sa (spansL qs (k : Int)).length sc] 37)) := (Below.refl _ _).alloc (Nat.le_refl _) _
      have PF5 := PF
      have PS5 := PS
      replace B0 := Lib.hid ((hal.block w.heap.size (Array.getElem?_eq_some_iff.1 B0.out).1).trans B0.out)
      replace BX := Lib.hid ((hal.block R (Array.getElem?_eq_some_iff.1 BX.out).1).trans BX.out)
      replace PQ := Lib.hid (slO_fresh tQuery_law PQ.out hal)
      replace PF := Lib.hid (slO_fresh tSpanS_law PF.out hal)
      have D5 := d
      replace d := Lib.hid (d.out.trans (hal.mono d.out.size))
      clear hal
      refine hK.out _ _ trivial (fun hHeld => ?_)
      clear hK K
      try simp only [Act.put, lA, lB, lC]
      refine wpAnyH_ready (rs := [6]) (by kernel_rfl) (by simp) ?_
      refine (AllReadyH.cons (o := _) (by simp only [hA, hB, hC]; rfl) (fun K hK => ?_) AllReadyH.nil)
      refine step_append_T tSpanS_law info_T_SpanS Tryd.underlying47 rfl rfl (.tmp 17) (.tmp 21) rfl (fun b => R < b) wr.heap.size _ (fldTo qs k) rfl PF5.out Z_w5.out (fun b hb => Nat.lt_of_lt_of_le Z0.out hb) (by rw [HLN.out]; omega) [.slice sa (spansL qs (k : Int)).length sc] (spansL qs (k : Int)) ⟨_, rfl, PS5.out⟩ (by simp [Value.oneCell']) 1 _ rfl rfl ?_
      intro v' w6 o6 t6
      rw [HST.out] at o6
      obtain ⟨ga, gc, hv⟩ := slO_len o6
      rw [fldTo_len] at hv
      subst hv
      have y0 := Z0.out; have y1 := Z1.out; have y5 := Z_w5.out; have yd := D5.out.size
      have k0 := (t6.block w.heap.size (by omega) (fun h => by have := h.1; omega)).trans KB0.out
      have kx := (t6.block R (by omega) (fun h => by have := h.1; omega)).trans KBX.out
      have pq := slO_turn tQuery_law KPQ.out t6 (fun b h1 h2 => by have := h1.2; have := h2.1; omega)
      have d6 := below_turn D5.out t6 (fun b h => by have := h.1; omega) yd
      have z6 := t6.size
      replace B0 := Lib.hid k0
      replace BX := Lib.hid kx
      replace PQ := Lib.hid pq
      replace d := Lib.hid d6
      have PG := Lib.hid o6
      have Z6 : Hid (R < w6.heap.size) := Lib.hid (by omega)
      clear k0 kx pq d6 z6 o6 t6 y0 y1 y5 yd PF PF5 PS PS5 KB0 KBX KPQ D5
      refine hK.out _ _ trivial (fun hHeld => ?_)
      clear hK K
      try simp only [Act.put, lA, lB, lC]
      refine tR (i := 7) (v := ?_) ?_ ?_; rotate_left
      ·
       intro w hSw; (try dsimp only at hSw); go_simp; try (with_reducible rfl)
      try simp only [Act.put, lA, lB, lC]
      refine wpAnyH_ready (rs := [8]) (by kernel_rfl) (by simp) ?_
      refine (AllReadyH.cons (o := _) (by simp only [hA, hB, hC]; rfl) (fun K hK => ?_) AllReadyH.nil)
      have cx1 := (cell_of_row w6 _ 1 _ _ _ BX.out).trans (show _ = some (Value.slice fa k fc) from rfl)
      have fx1 := frozen_of_row w6 _ 1 _ _ BX.out
      go_simp
      clear cx1 fx1
      have tt : Turn (fun b => b = R) w6 (w6.setCell ⟨R, 1, none⟩ (.slice ga (k + 1) gc)) := turn_set (G := fun b => b = R) (g := R) (j := 1) (u := .slice ga (k + 1) gc) rfl
      have y0 := Z1.out; have y6 := Z6.out
      have r := heap_setCell_same w6 R 1 _ _ (.slice ga (k + 1) gc) BX.out
      replace BX : Hid ((w6.setCell ⟨R, 1, none⟩ (.slice ga (k + 1) gc)).heap[R]? = some (.cells #[.slice ua qs.length uc, .slice ga (k + 1) gc] 49 (0, 0))) := Lib.hid (by simpa using r)
      replace B0 := Lib.hid ((tt.block w.heap.size (by omega) (fun h => by omega)).trans B0.out)
      replace PQ := Lib.hid (slO_turn tQuery_law PQ.out tt (fun b h1 h2 => by have := h1.2; omega))
      replace PG := Lib.hid (slO_turn tSpanS_law PG.out tt (fun b h1 h2 => by have h3 : R < b := h1; omega))
      replace d := Lib.hid (below_turn d.out tt (fun b h => by omega) d.out.size)
      have Z7 : Hid (R < (w6.setCell ⟨R, 1, none⟩ (.slice ga (k + 1) gc)).heap.size) := Lib.hid (Nat.lt_of_lt_of_le y6 tt.size)
      clear tt y0 y6 r
      generalize w6.setCell ⟨R, 1, none⟩ (.slice ga (k + 1) gc) = w7 at *
      refine hK.out _ _ trivial (fun hHeld => ?_)
      clear hK K
      try simp only [Act.put, lA, lB, lC]
      refine wpAnyH_done (by kernel_rfl) ?_ _
      clear hHeld
      go_wp2
      go_roundw
      case rel => exact ⟨k + 1, _, by omega, by go_num, B0.out, BX.out, PQ.out, PG.out, d.out, Z7.out⟩
      case measure => simp [intOf]; omega
     ·
      have KB0 := B0
      have KBX := BX
      have KPQ := PQ
      go_simp
      have hal : Below w5.heap.size w5 (w5.alloc (.cells #[.slice sa (spansL qs (k : Int)).length sc] 37)) := (Below.refl _ _).alloc (Nat.le_refl _) _
      have PF5 := PF
      have PS5 := PS
      replace B0 := Lib.hid ((hal.block w.heap.size (Array.getElem?_eq_some_iff.1 B0.out).1).trans B0.out)
      replace BX := Lib.hid ((hal.block R (Array.getElem?_eq_some_iff.1 BX.out).1).trans BX.out)
      replace PQ := Lib.hid (slO_fresh tQuery_law PQ.out hal)
      replace PF := Lib.hid (slO_fresh tSpanS_law PF.out hal)
      have D5 := d
      replace d := Lib.hid (d.out.trans (hal.mono d.out.size))
      clear hal
      refine hK.out _ _ trivial (fun hHeld => ?_)
      clear hK K
      try simp only [Act.put, lA, lB, lC]
      refine wpAnyH_ready (rs := [1]) (by kernel_rfl) (by simp) ?_
      refine (AllReadyH.cons (o := _) (by simp only [hA, hB, hC]; rfl) (fun K hK => ?_) AllReadyH.nil)
      have p_BX_0 := (cell_of_row (w5.alloc (.cells #[.slice sa (spansL qs (k : Int)).length sc] 37)) _ 0 _ _ _ BX.out).trans (show _ = some (Value.slice ua qs.length uc) from rfl)
      have p_BX_1 := (cell_of_row (w5.alloc (.cells #[.slice sa (spansL qs (k : Int)).length sc] 37)) _ 1 _ _ _ BX.out).trans (show _ = some (Value.slice fa k fc) from rfl)
      go_simp
      clear p_BX_0 p_BX_1
      refine hK.out _ _ trivial (fun hHeld => ?_)
      clear hK K
      try simp only [Act.put, lA, lB, lC]
      refine wpAnyH_ready (rs := [6]) (by kernel_rfl) (by simp) ?_
      refine (AllReadyH.cons (o := _) (by simp only [hA, hB, hC]; rfl) (fun K hK => ?_) AllReadyH.nil)
      refine step_append_T tSpanS_law info_T_SpanS Tryd.underlying47 rfl rfl (.tmp 17) (.tmp 21) rfl (fun b => R < b) wr.heap.size _ (fldTo qs k) rfl PF5.out Z_w5.out (fun b hb => Nat.lt_of_lt_of_le Z0.out hb) (by rw [HLN.out]; omega) [.slice sa (spansL qs (k : Int)).length sc] (spansL qs (k : Int)) ⟨_, rfl, PS5.out⟩ (by simp [Value.oneCell']) 1 _ rfl rfl ?_
      intro v' w6 o6 t6
      rw [HST.out] at o6
      obtain ⟨ga, gc, hv⟩ := slO_len o6
      rw [fldTo_len] at hv
      subst hv
      have y0 := Z0.out; have y1 := Z1.out; have y5 := Z_w5.out; have yd := D5.out.size
      have k0 := (t6.block w.heap.size (by omega) (fun h => by have := h.1; omega)).trans KB0.out
      have kx := (t6.block R (by omega) (fun h => by have := h.1; omega)).trans KBX.out
      have pq := slO_turn tQuery_law KPQ.out t6 (fun b h1 h2 => by have := h1.2; have := h2.1; omega)
      have d6 := below_turn D5.out t6 (fun b h => by have := h.1; omega) yd
      have z6 := t6.size
      replace B0 := Lib.hid k0
      replace BX := Lib.hid kx
      replace PQ := Lib.hid pq
      replace d := Lib.hid d6
      have PG := Lib.hid o6
      have Z6 : Hid (R < w6.heap.size) := Lib.hid (by omega)
      clear k0 kx pq d6 z6 o6 t6 y0 y1 y5 yd PF PF5 PS PS5 KB0 KBX KPQ D5
      refine hK.out _ _ trivial (fun hHeld => ?_)
      clear hK K
      try simp only [Act.put, lA, lB, lC]
      refine tR (i := 7) (v := ?_) ?_ ?_; rotate_left
      ·
       intro w hSw; (try dsimp only at hSw); go_simp; try (with_reducible rfl)
      try simp only [Act.put, lA, lB, lC]
      refine wpAnyH_ready (rs := [8]) (by kernel_rfl) (by simp) ?_
      refine (AllReadyH.cons (o := _) (by simp only [hA, hB, hC]; rfl) (fun K hK => ?_) AllReadyH.nil)
      have cx1 := (cell_of_row w6 _ 1 _ _ _ BX.out).trans (show _ = some (Value.slice fa k fc) from rfl)
      have fx1 := frozen_of_row w6 _ 1 _ _ BX.out
      go_simp
      clear cx1 fx1
      have tt : Turn (fun b => b = R) w6 (w6.setCell ⟨R, 1, none⟩ (.slice ga (k + 1) gc)) := turn_set (G := fun b => b = R) (g := R) (j := 1) (u := .slice ga (k + 1) gc) rfl
      have y0 := Z1.out; have y6 := Z6.out
      have r := heap_setCell_same w6 R 1 _ _ (.slice ga (k + 1) gc) BX.out
      replace BX : Hid ((w6.setCell ⟨R, 1, none⟩ (.slice ga (k + 1) gc)).heap[R]? = some (.cells #[.slice ua qs.length uc, .slice ga (k + 1) gc] 49 (0, 0))) := Lib.hid (by simpa using r)
      replace B0 := Lib.hid ((tt.block w.heap.size (by omega) (fun h => by omega)).trans B0.out)
      replace PQ := Lib.hid (slO_turn tQuery_law PQ.out tt (fun b h1 h2 => by have := h1.2; omega))
      replace PG := Lib.hid (slO_turn tSpanS_law PG.out tt (fun b h1 h2 => by have h3 : R < b := h1; omega))
      replace d := Lib.hid (below_turn d.out tt (fun b h => by omega) d.out.size)
      have Z7 : Hid (R < (w6.setCell ⟨R, 1, none⟩ (.slice ga (k + 1) gc)).heap.size) := Lib.hid (Nat.lt_of_lt_of_le y6 tt.size)
      clear tt y0 y6 r
      generalize w6.setCell ⟨R, 1, none⟩ (.slice ga (k + 1) gc) = w7 at *
      refine hK.out _ _ trivial (fun hHeld => ?_)
      clear hK K
      try simp only [Act.put, lA, lB, lC]
      refine wpAnyH_done (by kernel_rfl) ?_ _
      clear hHeld
      go_wp2
      go_roundw
      case rel => exact ⟨k + 1, _, by omega, by go_num, B0.out, BX.out, PQ.out, PG.out, d.out, Z7.out⟩
      case measure => simp [intOf]; omega
   ·
    obtain rfl : k = 3 := by omega
    have cx0 := (cell_of_row wr _ 0 _ _ _ hr1).trans (show _ = some (Value.slice ua qs.length uc) from rfl)
    have cx1 := (cell_of_row wr _ 1 _ _ _ hr1).trans (show _ = some (Value.slice fa 3 fc) from rfl)
    have c0 := (cell_of_row wr _ 0 _ _ _ hr0).trans (show _ = some (Value.slice none 0 0) from rfl)
    have c1 := (cell_of_row wr _ 1 _ _ _ hr0).trans (show _ = some (Value.slice none 0 0) from rfl)
    have f0 := frozen_of_row wr _ 0 _ _ hr0
    have f1 := frozen_of_row wr _ 1 _ _ hr0
    have r := heap_setCell_same _ w.heap.size 1 _ _ (.slice fa 3 fc) (heap_setCell_same wr w.heap.size 0 _ _ (.slice ua qs.length uc) hr0)
    have tt : Turn (fun b => b = w.heap.size) wr ((wr.setCell ⟨w.heap.size, 0, none⟩ (.slice ua qs.length uc)).setCell ⟨w.heap.size, 1, none⟩ (.slice fa 3 fc)) := ((Turn.refl (fun b => b = w.heap.size) wr).trans (turn_set (G := fun b => b = w.heap.size) (g := w.heap.size) (j := 0) (u := .slice ua qs.length uc) rfl)).trans (turn_set (G := fun b => b = w.heap.size) (g := w.heap.size) (j := 1) (u := .slice fa 3 fc) rfl)
    have e0 := cell_of_row _ _ 0 _ _ _ r
    have e1 := cell_of_row _ _ 1 _ _ _ r
    simp at e0 e1
    have P1 := Lib.hid (slO_turn tQuery_law hpq tt (fun b h1 h2 => by omega))
    have P2 := Lib.hid (slO_turn tSpanS_law hpf tt (fun b h1 h2 => by omega))
    have D := Lib.hid (below_turn hbel tt (fun b h => by omega) hbel.size)
    clear r tt hpq hpf hbel hr0 hr1 k3 x3 p3 d3 y3
    go_wp2
    refine bodyPost_ret (v := .agg #[.slice ua qs.length uc, .slice fa 3 fc]) ?_ rfl ?_
    ·
     simp [results, Tryd.f117, go_sem, e0, e1]
    ·
     exact ⟨[.slice ua qs.length uc, .slice fa 3 fc], rfl, tIndex_mkO P1.out P2.out (fun b h => Nat.le_of_lt h.1) (fun b h => by show w.heap.size ≤ b; omega) (fun b h1 h2 => by omega), D.out⟩
end Go.Proofs.YtededfficggkaaaDoor
