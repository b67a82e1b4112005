/-
  Texts of the proof, merged: QueriesLaw.
-/
import Derived.Test.YtijfnabglblimaaGreatDoorFQ5
namespace Go.Proofs.YtijfnabglblimaaGreatDoor
open Go.RowKit
set_option linter.unusedVariables false
set_option linter.unusedSimpArgs false
theorem below_drewN {B : Nat} {a w : World} (h : Below B a w) (n : Nat) : Below B a (w.drewN n) := ⟨h.os, h.tape, h.output, h.size, h.block⟩
set_option maxRecDepth 100000 in
theorem sameL (v u : Value) (xs : List Int) (w : World) (h : Ints w v xs) (g : Ints w u xs) (hn : xs.length ≤ 1048576) :
    Calls Tryz.prog 16 #[v, u] w fun e w' => e = .returned (.bool true) ∧ Below w.heap.size w w' := by
  have H := Lib.hid h
  have G := Lib.hid g
  obtain ⟨a, cap, rfl⟩ := ints_len h
  obtain ⟨a2, cap2, rfl⟩ := ints_len g
  clear h g
  go_enter Tryz.func16, Tryz.ntmps16
  go_wp2
  go_loopw [5] (fun i wr => ∃ k : Nat, k ≤ xs.length ∧ i = .int .i64 k ∧ Below w.heap.size w wr) (fun i _ => xs.length - (intOf i).toNat)
  case atStart => exact ⟨0, Nat.zero_le _, rfl, Below.refl _ _⟩
  case round =>
    obtain ⟨k, hk, rfl, hbel⟩ := hrel
    by_cases hlt : k < xs.length
    · obtain ⟨b, off, cap', hv, hbl, hc⟩ := ints_cell H.out (by omega)
      simp only [Value.slice.injEq] at hv
      obtain ⟨rfl, _, rfl⟩ := hv
      obtain ⟨b2, off2, cap2', hv2, hbl2, hc2⟩ := ints_cell G.out (by omega)
      simp only [Value.slice.injEq] at hv2
      obtain ⟨rfl, _, rfl⟩ := hv2
      have hcell := (hbel.cell (p := ⟨b, off + k, none⟩) hbl).trans (hc k hlt)
      have hcell2 := (hbel.cell (p := ⟨b2, off2 + k, none⟩) hbl2).trans (hc2 k hlt)
      have i1 : (0 : Int) ≤ (k : Int) := by omega
      have i2 : (k : Int) < (xs.length : Int) := by omega
      clear hc hc2
      generalize xs.getD k 0 = y at hcell hcell2
      go_wp2
      go_quiet (fail)
      go_wp2
      go_roundw
      case rel => exact ⟨k + 1, by omega, by go_num, below_drewN hbel _⟩
      case measure => simp [intOf]; omega
    · go_wp2
      go_ret
      exact ⟨rfl, hbel⟩
theorem bigL (a : Option Addr) (cap n : Nat) (w : World) : Calls Tryz.prog 4 #[.slice a n cap] w fun e w' => e = .returned (.bool (decide ((1048576 : Int) < (n : Int)))) ∧ w' = w := by
  go_enter Tryz.func4, Tryz.ntmps4
  go_wp2
  go_ret
  exact ⟨rfl, rfl⟩
theorem btoi_any (b : Bool) (w : World) : Calls Tryz.prog 9 #[.bool b] w fun e w' => e = .returned (.int .i64 (if b then 1 else 0)) ∧ w' = w := by
  cases b with
  | false =>
    go_enter Tryz.func9, Tryz.ntmps9
    go_wp2
    go_ret
    exact ⟨rfl, rfl⟩
  | true =>
    go_enter Tryz.func9, Tryz.ntmps9
    go_wp2
    go_ret
    exact ⟨rfl, rfl⟩
theorem sort_sort (a : List RowD) : sortL (sortL a) = sortL a := (sortL_unique (List.Perm.refl _) (sortL_sorted a)).symm
theorem parQ_fmt (id tn : Int) (cs : List CondD) (os : List Int) : parQ (fmtQ id tn cs os) = if queryB id tn cs os then ((id, tn, cs, os), true) else (q0D, false) := by
  cases h : queryB id tn cs os with
  | true =>
    have e := cut_fmt (q := (id, tn, cs, os)) h
    have : parQ (fmtQ id tn cs os) = ((id, tn, cs, os), true) := parQ_acc (by rw [show fmtQ id tn cs os = fmtQD (id, tn, cs, os) from rfl, e]; exact pQ_words h) h
    rw [this]; rfl
  | false =>
    have : fmtQ id tn cs os = [] := by unfold fmtQ; rw [h]; rfl
    rw [this]
    exact parQ_no (Or.inl (by simp [cutL, cutGo]))
theorem fmtQ_small (id tn : Int) (cs : List CondD) (os : List Int) : (fmtQ id tn cs os).length ≤ 1048576 := by
  cases h : queryB id tn cs os with
  | true => have := fmtQ_len h; omega
  | false => have : fmtQ id tn cs os = [] := by unfold fmtQ; rw [h]; rfl
             rw [this]; simp
theorem filter_len {m : RowD → Bool} {rs : List RowD} {k : Nat} (hk : k < rs.length) : (((rs.take (k + 1)).filter m).length : Int) = ((rs.take k).filter m).length + (if m (rs.getD k (0, [])) then 1 else 0) := by
  cases h : m (rs.getD k (0, [])) with
  | true => rw [← filter_yes hk h]; simp
  | false => rw [← filter_no hk h]; simp
set_option maxHeartbeats 32000000 in
set_option maxRecDepth 100000 in
theorem law_fnQueries (p : Option Addr) (cap : Nat) (xs : List Int) (w : World) (hcode : Code w (.slice p xs.length cap) xs) (hby : ∀ x ∈ xs, 0 ≤ x ∧ x ≤ 255) (hT : Tab w) (hM : TabM w) :
    Calls Tryz.prog 3 #[.slice p xs.length cap] w fun e w' => e = .returned (.bool true) ∧ Below w.heap.size w w' := by
  by_cases hl : xs.length ≤ 1048576
  · have HD := Lib.hid (drawAnswer _ xs w hcode hl hby)
    have HE := Lib.hid (fun w' (hb : Below w.heap.size w w') => drawProject _ xs w' (code_below hcode hb) hl hby)
    have hbig : decide ((1048576 : Int) < (xs.length : Int)) = false := decide_eq_false (by omega)
    have HBIG := Lib.hid (bigL p cap xs.length w)
    rw [hbig] at HBIG
    have HT := Lib.hid hT
    have HM := Lib.hid hM
    clear hcode hby hl hbig hT hM
    generalize xs.length = n at *
    go_enter Tryz.func3, Tryz.ntmps3
    go_wp2_with fail
    refine HBIG.out.mono ?_
    rintro e w0 ⟨rfl, rfl⟩
    go_wp2_with fail
    refine HD.out.mono ?_
    rintro e w1 ⟨id, tn, cs, os, cv, ov, u, rs, rfl, hC, hO, hR, hcl, hol, hrl, hsz, b1⟩
    obtain ⟨ca, ccap, rfl⟩ := condsR_len hC
    obtain ⟨oa, ocap, rfl⟩ := ints_len hO
    obtain ⟨ra, rcap, rfl⟩ := rowsR_len hR
    have a1 : Below w1.heap.size w1 (w1.alloc (.cells #[.int .i64 id, .int .i64 tn, .slice ca cs.length ccap, .slice oa os.length ocap] 27)) := (Below.refl _ _).alloc (Nat.le_refl _) _
    have HK := Lib.hid (heap_alloc_new w1 (.cells #[.int .i64 id, .int .i64 tn, .slice ca cs.length ccap, .slice oa os.length ocap] 27))
    have HC := Lib.hid (condsR_below hC a1)
    have HO := Lib.hid (ints_below hO a1)
    have HR := Lib.hid (rowsR_below hR a1)
    have HB := Lib.hid (b1.trans (a1.mono b1.size))
    have HCL : Hid (cs.length ≤ 1048576) := Lib.hid (by omega)
    have HOL : Hid (os.length ≤ 1048576) := Lib.hid (by omega)
    have HRL := Lib.hid hrl
    have HSZ := Lib.hid hsz
    obtain ⟨mm, hmm⟩ : ∃ mm, matchB id tn cs os = mm := ⟨_, rfl⟩
    have HIA := Lib.hid (fun w h g gr => implAnswerAlone id tn (.slice ca cs.length ccap) (.slice oa os.length ocap) (.slice ra rs.length rcap) cs os rs w h HCL.out g HOL.out gr HSZ.out)
    have HSA := Lib.hid (fun w h g gr => specAnswer id tn (.slice ca cs.length ccap) (.slice oa os.length ocap) (.slice ra rs.length rcap) cs os rs w h HCL.out g HOL.out gr HSZ.out)
    have HMR := Lib.hid (fun rid vv ys w h g gr hx => implMatchesRow id tn rid (.slice ca cs.length ccap) (.slice oa os.length ocap) vv cs os ys w h HCL.out g HOL.out gr hx)
    rw [hmm] at HIA HSA HMR
    have HLS : Hid (szL (answerL mm rs) ≤ 1048576) := Lib.hid (szL_sort _ (Nat.le_trans (szL_filter mm rs) hsz))
    have HLL : Hid (((answerL mm rs).length : Int) = ((rs.filter mm).length : Int)) := Lib.hid (by unfold answerL; rw [(sortL_perm _).length_eq])
    have HSS : Hid (sortL (answerL mm rs) = answerL mm rs) := Lib.hid (sort_sort _)
    clear hC hO hR hcl hol hrl hsz b1 hmm
    generalize answerL mm rs = L at *
    obtain ⟨p0, p1, p2, p3⟩ := box_cells4 HK.out (Below.refl _ _)
    obtain ⟨B1, hB1⟩ : ∃ B1, w1.heap.size = B1 := ⟨_, rfl⟩
    go_wp2_with fail
    rw [hB1] at HK p0 p1 p2 p3
    generalize w1.alloc (.cells #[.int .i64 id, .int .i64 tn, .slice ca cs.length ccap, .slice oa os.length ocap] 27) = W1 at *
    clear hB1 a1
    refine (HIA.out _ HC.out HO.out HR.out).mono ?_
    rintro e w2 ⟨lv, rfl, ol2, d2⟩
    clear p0 p1 p2 p3
    obtain ⟨p0, p1, p2, p3⟩ := box_cells4 HK.out d2
    go_wp2_with fail
    refine (HSA.out _ (condsR_below HC.out d2) (ints_below HO.out d2) (rowsR_below HR.out d2)).mono ?_
    rintro e w3 ⟨lw, rfl, ow3, d3⟩
    have ol3 := ownsR_below ol2 d3
    have d3' := d2.trans (d3.mono d2.size)
    clear p0 p1 p2 p3
    go_wp2_with fail
    refine (specEqRows _ _ L L _ (ownsR_rows ol3) (ownsR_rows ow3) HLS.out HLS.out).mono ?_
    rintro e w4 ⟨rfl, d4⟩
    rw [decide_eq_true (rfl : L = L)]
    have HOL4 := Lib.hid (ownsR_below ol3 d4)
    have HD4 := Lib.hid (d3'.trans (d4.mono d3'.size))
    obtain ⟨la, lcap, rfl⟩ := rowsR_len (ownsR_rows ol3)
    clear ol2 ol3 ow3 d2 d3 d3' d4
    go_wp2
    go_loopw [6, 7] (fun n i wr => ∃ k : Nat, k ≤ rs.length ∧ n = .int .i64 (((rs.take k).filter mm).length : Int) ∧ i = .int .i64 k ∧ Below w4.heap.size w4 wr) (fun _ i _ => rs.length - (intOf i).toNat)
    case atStart => exact ⟨0, Nat.zero_le _, by simp, rfl, Below.refl _ _⟩
    case round =>
      obtain ⟨k, hk, rfl, rfl, hbel⟩ := hrel
      have HDr := Lib.hid hbel
      have hW1 := HD4.out.trans (hbel.mono HD4.out.size)
      have HKr := Lib.hid ((hW1.block B1 (Array.getElem?_eq_some_iff.1 HK.out).1).trans HK.out)
      obtain ⟨p0, p1, p2, p3⟩ := box_cells4 HK.out hW1
      have HCr := Lib.hid (condsR_below HC.out hW1)
      have HOr := Lib.hid (ints_below HO.out hW1)
      have HRr := Lib.hid (rowsR_below HR.out hW1)
      by_cases hlt : k < rs.length
      · obtain ⟨b, off, cap', vv, hv, hbl, hc1, hc2, hI⟩ := rowsR_at HRr.out hlt
        simp only [Value.slice.injEq] at hv
        obtain ⟨rfl, _, rfl⟩ := hv
        have hxl := szL_row HSZ.out hlt
        have i1 : (0 : Int) ≤ (k : Int) := by omega
        have i2 : (k : Int) < (rs.length : Int) := by omega
        have i5 : k ≤ 9 := by have := HRL.out; omega
        have HFL0 := Lib.hid (filter_len (m := mm) hlt)
        have hfl : ((rs.take k).filter mm).length ≤ 9 := by have := List.length_filter_le mm (rs.take k); rw [List.length_take] at this; have := HRL.out; omega
        have HM1 := Lib.hid (fun w h g gr => HMR.out (rs.getD k (0, [])).1 vv (rs.getD k (0, [])).2 w h g gr hxl)
        have er : (((rs.getD k (0, [])).1, (rs.getD k (0, [])).2) : RowD) = rs.getD k (0, []) := rfl
        rw [er] at HM1
        clear er hbel hW1
        generalize rs.getD k (0, []) = r at *
        obtain ⟨rid, ys⟩ := r
        simp only at hc1 hc2 hI hxl
        obtain ⟨va, vcap, rfl⟩ := ints_len hI
        have HIr := Lib.hid hI
        clear hI hxl
        generalize mm (rid, ys) = r at *
        obtain ⟨q, hq⟩ : ∃ q, (((rs.take k).filter mm).length : Int) = q := ⟨_, rfl⟩
        have q0 : 0 ≤ q := by omega
        have q9 : q ≤ 9 := by omega
        rw [hq] at HFL0 ⊢
        have hw : IntKind.i64.wrap (q + if r = true then 1 else 0) = q + if r = true then 1 else 0 := IntWalk.i64_in _ (by split <;> omega)
        have HFL : Hid (Value.int .i64 (q + if r = true then 1 else 0) = .int .i64 (((rs.take (k + 1)).filter mm).length : Int)) := Lib.hid (by rw [HFL0.out])
        clear hq HFL0 hfl
        go_wp2
        refine wp_region_held_drew (S := fun w' => (w'.cell? ⟨B1, 0, none⟩ = some (.int .i64 id) ∧ w'.cell? ⟨B1, 1, none⟩ = some (.int .i64 tn) ∧ w'.cell? ⟨B1, 2, none⟩ = some (.slice ca cs.length ccap) ∧ w'.cell? ⟨B1, 3, none⟩ = some (.slice oa os.length ocap)) ∧ w'.cell? ⟨b, off + k * 2, none⟩ = some (.int .i64 rid) ∧ w'.cell? ⟨b, off + k * 2 + 1, none⟩ = some (.slice va ys.length vcap)) (by kernel_rfl) ⟨⟨p0, p1, p2, p3⟩, hc1, hc2⟩ (fun hHeld => ?_)
        have e0 := below_drew (Below.refl wr.heap.size wr)
        refine take_runs (i := 0) (v := ?_) (by simp only [List.getElem?_toArray, List.getElem?_cons_succ, List.getElem?_cons_zero]; rfl) (by kernel_rfl) (by kernel_rfl) (by kernel_rfl) rfl (by exact fun _ _ _ h => h) (by rfl) ?_ (by assumption) ?_
        rotate_left
        · intro w hSw; (try dsimp only at hSw); go_simp; try (with_reducible rfl)
        try simp only [Act.put, List.setIfInBounds_toArray, List.set_cons_zero, List.set_cons_succ]
        refine take_runs (i := 1) (v := ?_) (by simp only [List.getElem?_toArray, List.getElem?_cons_succ, List.getElem?_cons_zero]; rfl) (by kernel_rfl) (by kernel_rfl) (by kernel_rfl) rfl (by exact fun _ _ _ h => h) (by rfl) ?_ (by assumption) ?_
        rotate_left
        · intro w hSw; (try dsimp only at hSw); go_simp; try (with_reducible rfl)
        try simp only [Act.put, List.setIfInBounds_toArray, List.set_cons_zero, List.set_cons_succ]
        refine take_runs (i := 2) (v := ?_) (by simp only [List.getElem?_toArray, List.getElem?_cons_succ, List.getElem?_cons_zero]; rfl) (by kernel_rfl) (by kernel_rfl) (by kernel_rfl) rfl (by exact fun _ _ _ h => h) (by rfl) ?_ (by assumption) ?_
        rotate_left
        · intro w hSw; (try dsimp only at hSw); go_simp; try (with_reducible rfl)
        try simp only [Act.put, List.setIfInBounds_toArray, List.set_cons_zero, List.set_cons_succ]
        refine take_runs (i := 3) (v := ?_) (by simp only [List.getElem?_toArray, List.getElem?_cons_succ, List.getElem?_cons_zero]; rfl) (by kernel_rfl) (by kernel_rfl) (by kernel_rfl) rfl (by exact fun _ _ _ h => h) (by rfl) ?_ (by assumption) ?_
        rotate_left
        · intro w hSw; (try dsimp only at hSw); go_simp; try (with_reducible rfl)
        try simp only [Act.put, List.setIfInBounds_toArray, List.set_cons_zero, List.set_cons_succ]
        refine take_runs (i := 4) (v := ?_) (by simp only [List.getElem?_toArray, List.getElem?_cons_succ, List.getElem?_cons_zero]; rfl) (by kernel_rfl) (by kernel_rfl) (by kernel_rfl) rfl (by exact fun _ _ _ h => h) (by rfl) ?_ (by assumption) ?_
        rotate_left
        · intro w hSw; (try dsimp only at hSw); go_simp; try (with_reducible rfl)
        try simp only [Act.put, List.setIfInBounds_toArray, List.set_cons_zero, List.set_cons_succ]
        refine take_runs (i := 5) (v := ?_) (by simp only [List.getElem?_toArray, List.getElem?_cons_succ, List.getElem?_cons_zero]; rfl) (by kernel_rfl) (by kernel_rfl) (by kernel_rfl) rfl (by exact fun _ _ _ h => h) (by rfl) ?_ (by assumption) ?_
        rotate_left
        · intro w hSw; (try dsimp only at hSw); go_simp; try (with_reducible rfl)
        try simp only [Act.put, List.setIfInBounds_toArray, List.set_cons_zero, List.set_cons_succ]
        refine wpAnyH_ready (rs := [6]) (by kernel_rfl) (by simp) ?_
        refine (AllReadyH.cons (o := _) (by simp only [List.getElem?_toArray, List.getElem?_cons_succ, List.getElem?_cons_zero]; rfl) (fun K hK => ?_) AllReadyH.nil)
        go_simp
        refine (HM1.out _ (condsR_below HCr.out e0) (ints_below HOr.out e0) (ints_below HIr.out e0)).mono ?_
        rintro e x1 ⟨rfl, k1⟩
        have e1 : Below wr.heap.size wr x1 := e0.trans (k1.mono e0.size)
        have bx := box_cells4 HKr.out e1
        refine hK.out _ _ ⟨bx, (e1.cell (p := ⟨b, off + k * 2, none⟩) hbl).trans hc1, (e1.cell (p := ⟨b, off + k * 2 + 1, none⟩) hbl).trans hc2⟩ (fun hHeld => ?_)
        clear hK K
        try simp only [Act.put, List.setIfInBounds_toArray, List.set_cons_zero, List.set_cons_succ]
        refine wpAnyH_ready (rs := [7]) (by kernel_rfl) (by simp) ?_
        refine (AllReadyH.cons (o := _) (by simp only [List.getElem?_toArray, List.getElem?_cons_succ, List.getElem?_cons_zero]; rfl) (fun K hK => ?_) AllReadyH.nil)
        go_simp
        refine (btoi_any _ _).mono ?_
        rintro e x2 ⟨rfl, rfl⟩
        refine hK.out _ _ ⟨bx, (e1.cell (p := ⟨b, off + k * 2, none⟩) hbl).trans hc1, (e1.cell (p := ⟨b, off + k * 2 + 1, none⟩) hbl).trans hc2⟩ (fun hHeld => ?_)
        clear hK K
        try simp only [Act.put, List.setIfInBounds_toArray, List.set_cons_zero, List.set_cons_succ]
        refine take_runs (i := 8) (v := ?_) (by simp only [List.getElem?_toArray, List.getElem?_cons_succ, List.getElem?_cons_zero]; rfl) (by kernel_rfl) (by kernel_rfl) (by kernel_rfl) rfl (by exact fun _ _ _ h => h) (by rfl) ?_ (by assumption) ?_
        rotate_left
        · intro w hSw; (try dsimp only at hSw); go_simp; try (with_reducible rfl)
        try simp only [Act.put, List.setIfInBounds_toArray, List.set_cons_zero, List.set_cons_succ]
        refine take_runs (i := 9) (v := ?_) (by simp only [List.getElem?_toArray, List.getElem?_cons_succ, List.getElem?_cons_zero]; rfl) (by kernel_rfl) (by kernel_rfl) (by kernel_rfl) rfl (by exact fun _ _ _ h => h) (by rfl) ?_ (by assumption) ?_
        rotate_left
        · intro w hSw; (try dsimp only at hSw); go_simp; try (with_reducible rfl)
        try simp only [Act.put, List.setIfInBounds_toArray, List.set_cons_zero, List.set_cons_succ]
        refine wpAnyH_done (by kernel_rfl) ?_ _
        have d9 := HDr.out.trans (e1.mono HDr.out.size)
        clear hHeld bx e0 e1 k1 hc1 hc2 p0 p1 p2 p3
        go_wp2
        go_roundw
        case rel => exact ⟨k + 1, by omega, HFL.out, by go_num, d9⟩
        case measure => simp [intOf]; omega
      · obtain rfl : k = rs.length := by omega
        rw [List.take_length, ← HLL.out]
        have HIF := Lib.hid (fun w h g hT => implFormatQuery id tn (.slice ca cs.length ccap) (.slice oa os.length ocap) cs os w h HCL.out g HOL.out hT)
        have HIX := Lib.hid (fun xc xo w h g hT => implFormatQuery id tn xc xo cs os w h HCL.out g HOL.out hT)
        have HSF := Lib.hid (fun w h g => specFormatQuery id tn (.slice ca cs.length ccap) (.slice oa os.length ocap) cs os w h HCL.out g HOL.out)
        have HSQ := Lib.hid (fun w h g => specIsQuery id tn (.slice ca cs.length ccap) (.slice oa os.length ocap) cs os w h HCL.out g HOL.out)
        have hLr := ownsR_below HOL4.out hbel
        clear hbel HRr HDr hlt hk
        cases hq : queryB id tn cs os with
        | false =>
          have HPX : Hid (∀ w, Tab w → TabM w → Calls Tryz.prog 12 #[.string (strB (fmtQ id tn cs os))] w (ParAnsQ w (q0D, false))) := Lib.hid (fun w h h2 => by have := implParseQuery (fmtQ id tn cs os) w (fmtQ_small _ _ _ _) h h2; rw [parQ_fmt, hq] at this; exact this)
          have HFQ : Hid (queryB id tn cs os = false) := Lib.hid hq
          rw [hq] at HSQ
          clear hq
          generalize fmtQ id tn cs os = fq at *
          go_wp2_with fail
          refine (HIF.out _ HCr.out HOr.out (HT.out.on (HB.out.trans (hW1.mono HB.out.size)))).mono ?_
          rintro e w5 ⟨rfl, d5⟩
          have hW5 := hW1.trans (d5.mono hW1.size)
          have hL5 := ownsR_below hLr d5
          clear p0 p1 p2 p3 hLr d5
          go_wp2_with fail
          refine (HPX.out _ (HT.out.on (HB.out.trans (hW5.mono HB.out.size))) (HM.out.on (HB.out.trans (hW5.mono HB.out.size)))).mono ?_
          rintro e w6 ⟨xcv, xov, rfl, oxc, oxo, _, d6⟩
          have hW6 := hW5.trans (d6.mono hW5.size)
          have hL6 := ownsR_below hL5 d6
          clear d6
          obtain ⟨xc, xccap, rfl⟩ := ownsC_len oxc
          obtain ⟨xo, xocap, rfl⟩ := ints_len (ownsN_ints oxo)
          simp only [q0D, List.length_nil] at oxc oxo ⊢
          have a6 : Below w6.heap.size w6 (w6.alloc (.cells #[.int .i64 0, .int .i64 0, .slice xc 0 xccap, .slice xo 0 xocap] 27)) := (Below.refl _ _).alloc (Nat.le_refl _) _
          have HK6 := Lib.hid (heap_alloc_new w6 (.cells #[.int .i64 0, .int .i64 0, .slice xc 0 xccap, .slice xo 0 xocap] 27))
          have hW7 := hW6.trans (a6.mono hW6.size)
          have HL7 := Lib.hid (ownsR_below hL6 a6)
          have HXC := Lib.hid (condsR_below (ownsC_conds oxc) a6)
          have HXO := Lib.hid (ints_below (ownsN_ints oxo) a6)
          have HW7 := Lib.hid hW7
          clear hW6 hL6 a6 hW7 oxc oxo hL5 hW5
          go_wp2_with fail
          obtain ⟨B6, hB6⟩ : ∃ B6, w6.heap.size = B6 := ⟨_, rfl⟩
          try rw [hB6]
          rw [hB6] at HK6
          generalize w6.alloc (.cells #[.int .i64 0, .int .i64 0, .slice xc 0 xccap, .slice xo 0 xocap] 27) = W6 at *
          clear hB6
          refine (HE.out W6 (HB.out.trans (HW7.out.mono HB.out.size))).mono ?_
          rintro e w7 ⟨id2, tn2, rid2, cs2, os2, ys2, cv2, ov2, u2, rfl, hC2, hO2, hU2, hcl2, hol2, hyl2, d7⟩
          obtain ⟨ca2, ccap2, rfl⟩ := condsR_len hC2
          obtain ⟨oa2, ocap2, rfl⟩ := ints_len hO2
          obtain ⟨ua2, ucap2, rfl⟩ := ints_len hU2
          have a8 : Below w7.heap.size w7 ((w7.alloc (.cells #[.int .i64 id2, .int .i64 tn2, .slice ca2 cs2.length ccap2, .slice oa2 os2.length ocap2] 27)).alloc (.cells #[.int .i64 rid2, .slice ua2 ys2.length ucap2] 36)) := ((Below.refl _ _).alloc (Nat.le_refl _) _).alloc (by simp) _
          have h2 := keepA (.cells #[.int .i64 rid2, .slice ua2 ys2.length ucap2] 36) (heap_alloc_new w7 (.cells #[.int .i64 id2, .int .i64 tn2, .slice ca2 cs2.length ccap2, .slice oa2 os2.length ocap2] 27))
          have h3 := heap_alloc_new (w7.alloc (.cells #[.int .i64 id2, .int .i64 tn2, .slice ca2 cs2.length ccap2, .slice oa2 os2.length ocap2] 27)) (.cells #[.int .i64 rid2, .slice ua2 ys2.length ucap2] 36)
          simp only [World.size_alloc] at h3
          have d8 := d7.trans (a8.mono d7.size)
          have D8 := HW7.out.trans (d8.mono HW7.out.size)
          have HC8 := Lib.hid (condsR_below hC2 a8)
          have HO8 := Lib.hid (ints_below hO2 a8)
          have HU8 := Lib.hid (ints_below hU2 a8)
          have HC1 := Lib.hid (condsR_below HC.out D8)
          have HO1 := Lib.hid (ints_below HO.out D8)
          have HXC8 := Lib.hid (condsR_below HXC.out d8)
          have HXO8 := Lib.hid (ints_below HXO.out d8)
          have HL8 := Lib.hid (ownsR_below HL7.out d8)
          have k1 := (D8.block B1 (Array.getElem?_eq_some_iff.1 HK.out).1).trans HK.out
          have k6 := (d8.block B6 (Array.getElem?_eq_some_iff.1 HK6.out).1).trans HK6.out
          have HCL2 : Hid (cs2.length ≤ 1048576) := Lib.hid (by omega)
          have HOL2 : Hid (os2.length ≤ 1048576) := Lib.hid (by omega)
          have HYL2 : Hid (ys2.length ≤ 1048576) := Lib.hid (by omega)
          have HB8 := Lib.hid (HB.out.trans (D8.mono HB.out.size))
          clear hC2 hO2 hU2 hcl2 hol2 hyl2 d7 a8 d8 D8
          go_wp2
          obtain ⟨W8, hW8⟩ : ∃ W8, ((w7.alloc (.cells #[.int .i64 id2, .int .i64 tn2, .slice ca2 cs2.length ccap2, .slice oa2 os2.length ocap2] 27)).alloc (.cells #[.int .i64 rid2, .slice ua2 ys2.length ucap2] 36)) = W8 := ⟨_, rfl⟩
          rw [hW8] at h2 h3 HC8 HO8 HU8 HC1 HO1 HXC8 HXO8 HL8 k1 k6 HB8 ⊢
          clear hW8
          obtain ⟨E, hE⟩ : ∃ E, w7.heap.size = E := ⟨_, rfl⟩
          rw [hE] at h2 h3 ⊢
          clear hE
          have HIP := Lib.hid (fun w h g gr => implProjectRow id2 tn2 rid2 (.slice ca2 cs2.length ccap2) (.slice oa2 os2.length ocap2) (.slice ua2 ys2.length ucap2) cs2 os2 ys2 w h HCL2.out g HOL2.out gr HYL2.out)
          have HSP := Lib.hid (fun w h g gr => specProjectRow id2 tn2 rid2 (.slice ca2 cs2.length ccap2) (.slice oa2 os2.length ocap2) (.slice ua2 ys2.length ucap2) cs2 os2 ys2 w h HCL2.out g HOL2.out gr HYL2.out)
          have HPL : Hid ((projL id2 tn2 cs2 os2 (rid2, ys2)).length ≤ 1048576) := Lib.hid (by unfold projL; split <;> first | (rw [List.length_map]; exact HOL2.out) | simp)
          have HIM := Lib.hid (fun w h g gr => implMatchesRow id2 tn2 rid2 (.slice ca2 cs2.length ccap2) (.slice oa2 os2.length ocap2) (.slice ua2 ys2.length ucap2) cs2 os2 ys2 w h HCL2.out g HOL2.out gr HYL2.out)
          have HSM := Lib.hid (fun w h g gr => specMatchesRow id2 tn2 rid2 (.slice ca2 cs2.length ccap2) (.slice oa2 os2.length ocap2) (.slice ua2 ys2.length ucap2) cs2 os2 ys2 w h HCL2.out g HOL2.out gr HYL2.out)
          generalize projL id2 tn2 cs2 os2 (rid2, ys2) = pl at *
          generalize matchB id2 tn2 cs2 os2 (rid2, ys2) = mb at *
          have HH : Hid (∀ x, Below W8.heap.size W8 x → x.cell? ⟨B1, 0, none⟩ = some (.int .i64 id) ∧ x.cell? ⟨B1, 1, none⟩ = some (.int .i64 tn) ∧ x.cell? ⟨B1, 2, none⟩ = some (.slice ca cs.length ccap) ∧ x.cell? ⟨B1, 3, none⟩ = some (.slice oa os.length ocap) ∧ x.cell? ⟨B6, 0, none⟩ = some (.int .i64 0) ∧ x.cell? ⟨B6, 1, none⟩ = some (.int .i64 0) ∧ x.cell? ⟨B6, 2, none⟩ = some (.slice xc 0 xccap) ∧ x.cell? ⟨B6, 3, none⟩ = some (.slice xo 0 xocap) ∧ x.cell? ⟨E, 0, none⟩ = some (.int .i64 id2) ∧ x.cell? ⟨E, 1, none⟩ = some (.int .i64 tn2) ∧ x.cell? ⟨E, 2, none⟩ = some (.slice ca2 cs2.length ccap2) ∧ x.cell? ⟨E, 3, none⟩ = some (.slice oa2 os2.length ocap2) ∧ x.cell? ⟨E + 1, 0, none⟩ = some (.int .i64 rid2) ∧ x.cell? ⟨E + 1, 1, none⟩ = some (.slice ua2 ys2.length ucap2)) := Lib.hid (fun x hb => ⟨(cell_of_row x _ 0 _ _ _ ((hb.block _ (Array.getElem?_eq_some_iff.1 k1).1).trans k1)).trans rfl, (cell_of_row x _ 1 _ _ _ ((hb.block _ (Array.getElem?_eq_some_iff.1 k1).1).trans k1)).trans rfl, (cell_of_row x _ 2 _ _ _ ((hb.block _ (Array.getElem?_eq_some_iff.1 k1).1).trans k1)).trans rfl, (cell_of_row x _ 3 _ _ _ ((hb.block _ (Array.getElem?_eq_some_iff.1 k1).1).trans k1)).trans rfl, (cell_of_row x _ 0 _ _ _ ((hb.block _ (Array.getElem?_eq_some_iff.1 k6).1).trans k6)).trans rfl, (cell_of_row x _ 1 _ _ _ ((hb.block _ (Array.getElem?_eq_some_iff.1 k6).1).trans k6)).trans rfl, (cell_of_row x _ 2 _ _ _ ((hb.block _ (Array.getElem?_eq_some_iff.1 k6).1).trans k6)).trans rfl, (cell_of_row x _ 3 _ _ _ ((hb.block _ (Array.getElem?_eq_some_iff.1 k6).1).trans k6)).trans rfl, (cell_of_row x _ 0 _ _ _ ((hb.block _ (Array.getElem?_eq_some_iff.1 h2).1).trans h2)).trans rfl, (cell_of_row x _ 1 _ _ _ ((hb.block _ (Array.getElem?_eq_some_iff.1 h2).1).trans h2)).trans rfl, (cell_of_row x _ 2 _ _ _ ((hb.block _ (Array.getElem?_eq_some_iff.1 h2).1).trans h2)).trans rfl, (cell_of_row x _ 3 _ _ _ ((hb.block _ (Array.getElem?_eq_some_iff.1 h2).1).trans h2)).trans rfl, (cell_of_row x _ 0 _ _ _ ((hb.block _ (Array.getElem?_eq_some_iff.1 h3).1).trans h3)).trans rfl, (cell_of_row x _ 1 _ _ _ ((hb.block _ (Array.getElem?_eq_some_iff.1 h3).1).trans h3)).trans rfl⟩)
          clear k1 k6 h2 h3
          refine wp_region_held_drew (S := fun w' => w'.cell? ⟨B1, 0, none⟩ = some (.int .i64 id) ∧ w'.cell? ⟨B1, 1, none⟩ = some (.int .i64 tn) ∧ w'.cell? ⟨B1, 2, none⟩ = some (.slice ca cs.length ccap) ∧ w'.cell? ⟨B1, 3, none⟩ = some (.slice oa os.length ocap) ∧ w'.cell? ⟨B6, 0, none⟩ = some (.int .i64 0) ∧ w'.cell? ⟨B6, 1, none⟩ = some (.int .i64 0) ∧ w'.cell? ⟨B6, 2, none⟩ = some (.slice xc 0 xccap) ∧ w'.cell? ⟨B6, 3, none⟩ = some (.slice xo 0 xocap) ∧ w'.cell? ⟨E, 0, none⟩ = some (.int .i64 id2) ∧ w'.cell? ⟨E, 1, none⟩ = some (.int .i64 tn2) ∧ w'.cell? ⟨E, 2, none⟩ = some (.slice ca2 cs2.length ccap2) ∧ w'.cell? ⟨E, 3, none⟩ = some (.slice oa2 os2.length ocap2) ∧ w'.cell? ⟨E + 1, 0, none⟩ = some (.int .i64 rid2) ∧ w'.cell? ⟨E + 1, 1, none⟩ = some (.slice ua2 ys2.length ucap2)) (by kernel_rfl) (HH.out _ (below_drew (Below.refl _ _))) (fun hHeld => ?_)
          have e0 := below_drew (Below.refl W8.heap.size W8)
          refine take_runs (i := 0) (v := ?_) (by simp only [List.getElem?_toArray, List.getElem?_cons_succ, List.getElem?_cons_zero]; rfl) (by kernel_rfl) (by kernel_rfl) (by kernel_rfl) rfl (by exact fun _ _ _ h => h) (by rfl) ?_ (by assumption) ?_
          rotate_left
          · intro w hSw; (try dsimp only at hSw); go_simp; try (with_reducible rfl)
          try simp only [Act.put, List.setIfInBounds_toArray, List.set_cons_zero, List.set_cons_succ]
          refine take_runs (i := 1) (v := ?_) (by simp only [List.getElem?_toArray, List.getElem?_cons_succ, List.getElem?_cons_zero]; rfl) (by kernel_rfl) (by kernel_rfl) (by kernel_rfl) rfl (by exact fun _ _ _ h => h) (by rfl) ?_ (by assumption) ?_
          rotate_left
          · intro w hSw; (try dsimp only at hSw); go_simp; try (with_reducible rfl)
          try simp only [Act.put, List.setIfInBounds_toArray, List.set_cons_zero, List.set_cons_succ]
          refine take_runs (i := 2) (v := ?_) (by simp only [List.getElem?_toArray, List.getElem?_cons_succ, List.getElem?_cons_zero]; rfl) (by kernel_rfl) (by kernel_rfl) (by kernel_rfl) rfl (by exact fun _ _ _ h => h) (by rfl) ?_ (by assumption) ?_
          rotate_left
          · intro w hSw; (try dsimp only at hSw); go_simp; try (with_reducible rfl)
          try simp only [Act.put, List.setIfInBounds_toArray, List.set_cons_zero, List.set_cons_succ]
          refine take_runs (i := 3) (v := ?_) (by simp only [List.getElem?_toArray, List.getElem?_cons_succ, List.getElem?_cons_zero]; rfl) (by kernel_rfl) (by kernel_rfl) (by kernel_rfl) rfl (by exact fun _ _ _ h => h) (by rfl) ?_ (by assumption) ?_
          rotate_left
          · intro w hSw; (try dsimp only at hSw); go_simp; try (with_reducible rfl)
          try simp only [Act.put, List.setIfInBounds_toArray, List.set_cons_zero, List.set_cons_succ]
          refine take_runs (i := 4) (v := ?_) (by simp only [List.getElem?_toArray, List.getElem?_cons_succ, List.getElem?_cons_zero]; rfl) (by kernel_rfl) (by kernel_rfl) (by kernel_rfl) rfl (by exact fun _ _ _ h => h) (by rfl) ?_ (by assumption) ?_
          rotate_left
          · intro w hSw; (try dsimp only at hSw); go_simp; try (with_reducible rfl)
          try simp only [Act.put, List.setIfInBounds_toArray, List.set_cons_zero, List.set_cons_succ]
          refine take_runs (i := 5) (v := ?_) (by simp only [List.getElem?_toArray, List.getElem?_cons_succ, List.getElem?_cons_zero]; rfl) (by kernel_rfl) (by kernel_rfl) (by kernel_rfl) rfl (by exact fun _ _ _ h => h) (by rfl) ?_ (by assumption) ?_
          rotate_left
          · intro w hSw; (try dsimp only at hSw); go_simp; try (with_reducible rfl)
          try simp only [Act.put, List.setIfInBounds_toArray, List.set_cons_zero, List.set_cons_succ]
          refine take_runs (i := 6) (v := ?_) (by simp only [List.getElem?_toArray, List.getElem?_cons_succ, List.getElem?_cons_zero]; rfl) (by kernel_rfl) (by kernel_rfl) (by kernel_rfl) rfl (by exact fun _ _ _ h => h) (by rfl) ?_ (by assumption) ?_
          rotate_left
          · intro w hSw; (try dsimp only at hSw); go_simp; try (with_reducible rfl)
          try simp only [Act.put, List.setIfInBounds_toArray, List.set_cons_zero, List.set_cons_succ]
          refine wpAnyH_ready (rs := [7]) (by kernel_rfl) (by simp) ?_
          refine (AllReadyH.cons (o := _) (by simp only [List.getElem?_toArray, List.getElem?_cons_succ, List.getElem?_cons_zero]; rfl) (fun K hK => ?_) AllReadyH.nil)
          go_simp
          refine (HSF.out _ (condsR_below HC1.out e0) (ints_below HO1.out e0)).mono ?_
          rintro e x1 ⟨rfl, k1⟩
          have e1 : Below W8.heap.size W8 x1 := e0.trans (k1.mono e0.size)
          refine hK.out _ _ (HH.out _ e1) (fun hHeld => ?_)
          clear hK K
          try simp only [Act.put, List.setIfInBounds_toArray, List.set_cons_zero, List.set_cons_succ]
          refine take_runs (i := 8) (v := ?_) (by simp only [List.getElem?_toArray, List.getElem?_cons_succ, List.getElem?_cons_zero]; rfl) (by kernel_rfl) (by kernel_rfl) (by kernel_rfl) rfl (by exact fun _ _ _ h => h) (by rfl) ?_ (by assumption) ?_
          rotate_left
          · intro w hSw; (try dsimp only at hSw); go_simp; try (with_reducible rfl)
          try simp only [Act.put, List.setIfInBounds_toArray, List.set_cons_zero, List.set_cons_succ]
          refine take_runs (i := 9) (v := ?_) (by simp only [List.getElem?_toArray, List.getElem?_cons_succ, List.getElem?_cons_zero]; rfl) (by kernel_rfl) (by kernel_rfl) (by kernel_rfl) rfl (by exact fun _ _ _ h => h) (by rfl) ?_ (by assumption) ?_
          rotate_left
          · intro w hSw; (try dsimp only at hSw); go_simp; try (with_reducible rfl)
          try simp only [Act.put, List.setIfInBounds_toArray, List.set_cons_zero, List.set_cons_succ]
          refine take_runs (i := 10) (v := ?_) (by simp only [List.getElem?_toArray, List.getElem?_cons_succ, List.getElem?_cons_zero]; rfl) (by kernel_rfl) (by kernel_rfl) (by kernel_rfl) rfl (by exact fun _ _ _ h => h) (by rfl) ?_ (by assumption) ?_
          rotate_left
          · intro w hSw; (try dsimp only at hSw); go_simp; try (with_reducible rfl)
          try simp only [Act.put, List.setIfInBounds_toArray, List.set_cons_zero, List.set_cons_succ]
          refine take_runs (i := 11) (v := ?_) (by simp only [List.getElem?_toArray, List.getElem?_cons_succ, List.getElem?_cons_zero]; rfl) (by kernel_rfl) (by kernel_rfl) (by kernel_rfl) rfl (by exact fun _ _ _ h => h) (by rfl) ?_ (by assumption) ?_
          rotate_left
          · intro w hSw; (try dsimp only at hSw); go_simp; try (with_reducible rfl)
          try simp only [Act.put, List.setIfInBounds_toArray, List.set_cons_zero, List.set_cons_succ]
          refine take_runs (i := 12) (v := ?_) (by simp only [List.getElem?_toArray, List.getElem?_cons_succ, List.getElem?_cons_zero]; rfl) (by kernel_rfl) (by kernel_rfl) (by kernel_rfl) rfl (by exact fun _ _ _ h => h) (by rfl) ?_ (by assumption) ?_
          rotate_left
          · intro w hSw; (try dsimp only at hSw); go_simp; try (with_reducible rfl)
          try simp only [Act.put, List.setIfInBounds_toArray, List.set_cons_zero, List.set_cons_succ]
          refine wpAnyH_ready (rs := [13]) (by kernel_rfl) (by simp) ?_
          refine (AllReadyH.cons (o := _) (by simp only [List.getElem?_toArray, List.getElem?_cons_succ, List.getElem?_cons_zero]; rfl) (fun K hK => ?_) AllReadyH.nil)
          go_simp
          refine (HSQ.out _ (condsR_below HC1.out e1) (ints_below HO1.out e1)).mono ?_
          rintro e x2 ⟨rfl, k2⟩
          have e2 : Below W8.heap.size W8 x2 := e1.trans (k2.mono e1.size)
          refine hK.out _ _ (HH.out _ e2) (fun hHeld => ?_)
          clear hK K
          try simp only [Act.put, List.setIfInBounds_toArray, List.set_cons_zero, List.set_cons_succ]
          refine take_runs (i := 14) (v := ?_) (by simp only [List.getElem?_toArray, List.getElem?_cons_succ, List.getElem?_cons_zero]; rfl) (by kernel_rfl) (by kernel_rfl) (by kernel_rfl) rfl (by exact fun _ _ _ h => h) (by rfl) ?_ (by assumption) ?_
          rotate_left
          · intro w hSw; (try dsimp only at hSw); go_simp; try (with_reducible rfl)
          try simp only [Act.put, List.setIfInBounds_toArray, List.set_cons_zero, List.set_cons_succ]
          refine take_runs (i := 15) (v := ?_) (by simp only [List.getElem?_toArray, List.getElem?_cons_succ, List.getElem?_cons_zero]; rfl) (by kernel_rfl) (by kernel_rfl) (by kernel_rfl) rfl (by exact fun _ _ _ h => h) (by rfl) ?_ (by assumption) ?_
          rotate_left
          · intro w hSw; (try dsimp only at hSw); go_simp; try (with_reducible rfl)
          try simp only [Act.put, List.setIfInBounds_toArray, List.set_cons_zero, List.set_cons_succ]
          refine take_runs (i := 16) (v := ?_) (by simp only [List.getElem?_toArray, List.getElem?_cons_succ, List.getElem?_cons_zero]; rfl) (by kernel_rfl) (by kernel_rfl) (by kernel_rfl) rfl (by exact fun _ _ _ h => h) (by rfl) ?_ (by assumption) ?_
          rotate_left
          · intro w hSw; (try dsimp only at hSw); go_simp; try (with_reducible rfl)
          try simp only [Act.put, List.setIfInBounds_toArray, List.set_cons_zero, List.set_cons_succ]
          refine take_runs (i := 17) (v := ?_) (by simp only [List.getElem?_toArray, List.getElem?_cons_succ, List.getElem?_cons_zero]; rfl) (by kernel_rfl) (by kernel_rfl) (by kernel_rfl) rfl (by exact fun _ _ _ h => h) (by rfl) ?_ (by assumption) ?_
          rotate_left
          · intro w hSw; (try dsimp only at hSw); go_simp; try (with_reducible rfl)
          try simp only [Act.put, List.setIfInBounds_toArray, List.set_cons_zero, List.set_cons_succ]
          refine take_runs (i := 18) (v := ?_) (by simp only [List.getElem?_toArray, List.getElem?_cons_succ, List.getElem?_cons_zero]; rfl) (by kernel_rfl) (by kernel_rfl) (by kernel_rfl) rfl (by exact fun _ _ _ h => h) (by rfl) ?_ (by assumption) ?_
          rotate_left
          · intro w hSw; (try dsimp only at hSw); go_simp; try (with_reducible rfl)
          try simp only [Act.put, List.setIfInBounds_toArray, List.set_cons_zero, List.set_cons_succ]
          refine take_runs (i := 19) (v := ?_) (by simp only [List.getElem?_toArray, List.getElem?_cons_succ, List.getElem?_cons_zero]; rfl) (by kernel_rfl) (by kernel_rfl) (by kernel_rfl) rfl (by exact fun _ _ _ h => h) (by rfl) ?_ (by assumption) ?_
          rotate_left
          · intro w hSw; (try dsimp only at hSw); go_simp; try (with_reducible rfl)
          try simp only [Act.put, List.setIfInBounds_toArray, List.set_cons_zero, List.set_cons_succ]
          refine take_over (i := 20) (by simp only [List.getElem?_toArray, List.getElem?_cons_succ, List.getElem?_cons_zero]; rfl) (by kernel_rfl) (by kernel_rfl) (by kernel_rfl) rfl (by exact fun _ _ _ h => h) (by rfl) (by assumption) ?_
          try simp only [Act.put, List.setIfInBounds_toArray, List.set_cons_zero, List.set_cons_succ]
          refine take_over (i := 21) (by simp only [List.getElem?_toArray, List.getElem?_cons_succ, List.getElem?_cons_zero]; rfl) (by kernel_rfl) (by kernel_rfl) (by kernel_rfl) rfl (by exact fun _ _ _ h => h) (by rfl) (by assumption) ?_
          try simp only [Act.put, List.setIfInBounds_toArray, List.set_cons_zero, List.set_cons_succ]
          refine take_over (i := 22) (by simp only [List.getElem?_toArray, List.getElem?_cons_succ, List.getElem?_cons_zero]; rfl) (by kernel_rfl) (by kernel_rfl) (by kernel_rfl) rfl (by exact fun _ _ _ h => h) (by rfl) (by assumption) ?_
          try simp only [Act.put, List.setIfInBounds_toArray, List.set_cons_zero, List.set_cons_succ]
          refine take_over (i := 23) (by simp only [List.getElem?_toArray, List.getElem?_cons_succ, List.getElem?_cons_zero]; rfl) (by kernel_rfl) (by kernel_rfl) (by kernel_rfl) rfl (by exact fun _ _ _ h => h) (by rfl) (by assumption) ?_
          try simp only [Act.put, List.setIfInBounds_toArray, List.set_cons_zero, List.set_cons_succ]
          refine take_runs (i := 24) (v := ?_) (by simp only [List.getElem?_toArray, List.getElem?_cons_succ, List.getElem?_cons_zero]; rfl) (by kernel_rfl) (by kernel_rfl) (by kernel_rfl) rfl (by exact fun _ _ _ h => h) (by rfl) ?_ (by assumption) ?_
          rotate_left
          · intro w hSw; (try dsimp only at hSw); go_simp; try (with_reducible rfl)
          try simp only [Act.put, List.setIfInBounds_toArray, List.set_cons_zero, List.set_cons_succ]
          refine take_runs (i := 25) (v := ?_) (by simp only [List.getElem?_toArray, List.getElem?_cons_succ, List.getElem?_cons_zero]; rfl) (by kernel_rfl) (by kernel_rfl) (by kernel_rfl) rfl (by exact fun _ _ _ h => h) (by rfl) ?_ (by assumption) ?_
          rotate_left
          · intro w hSw; (try dsimp only at hSw); go_simp; try (with_reducible rfl)
          try simp only [Act.put, List.setIfInBounds_toArray, List.set_cons_zero, List.set_cons_succ]
          refine take_runs (i := 26) (v := ?_) (by simp only [List.getElem?_toArray, List.getElem?_cons_succ, List.getElem?_cons_zero]; rfl) (by kernel_rfl) (by kernel_rfl) (by kernel_rfl) rfl (by exact fun _ _ _ h => h) (by rfl) ?_ (by assumption) ?_
          rotate_left
          · intro w hSw; (try dsimp only at hSw); go_simp; try (with_reducible rfl)
          try simp only [Act.put, List.setIfInBounds_toArray, List.set_cons_zero, List.set_cons_succ]
          refine take_runs (i := 27) (v := ?_) (by simp only [List.getElem?_toArray, List.getElem?_cons_succ, List.getElem?_cons_zero]; rfl) (by kernel_rfl) (by kernel_rfl) (by kernel_rfl) rfl (by exact fun _ _ _ h => h) (by rfl) ?_ (by assumption) ?_
          rotate_left
          · intro w hSw; (try dsimp only at hSw); go_simp; try (with_reducible rfl)
          try simp only [Act.put, List.setIfInBounds_toArray, List.set_cons_zero, List.set_cons_succ]
          refine take_runs (i := 28) (v := ?_) (by simp only [List.getElem?_toArray, List.getElem?_cons_succ, List.getElem?_cons_zero]; rfl) (by kernel_rfl) (by kernel_rfl) (by kernel_rfl) rfl (by exact fun _ _ _ h => h) (by rfl) ?_ (by assumption) ?_
          rotate_left
          · intro w hSw; (try dsimp only at hSw); go_simp; try (with_reducible rfl)
          try simp only [Act.put, List.setIfInBounds_toArray, List.set_cons_zero, List.set_cons_succ]
          refine take_runs (i := 30) (v := ?_) (by simp only [List.getElem?_toArray, List.getElem?_cons_succ, List.getElem?_cons_zero]; rfl) (by kernel_rfl) (by kernel_rfl) (by kernel_rfl) rfl (by exact fun _ _ _ h => h) (by rfl) ?_ (by assumption) ?_
          rotate_left
          · intro w hSw; (try dsimp only at hSw); go_simp; try (with_reducible rfl)
          try simp only [Act.put, List.setIfInBounds_toArray, List.set_cons_zero, List.set_cons_succ]
          refine take_runs (i := 31) (v := ?_) (by simp only [List.getElem?_toArray, List.getElem?_cons_succ, List.getElem?_cons_zero]; rfl) (by kernel_rfl) (by kernel_rfl) (by kernel_rfl) rfl (by exact fun _ _ _ h => h) (by rfl) ?_ (by assumption) ?_
          rotate_left
          · intro w hSw; (try dsimp only at hSw); go_simp; try (with_reducible rfl)
          try simp only [Act.put, List.setIfInBounds_toArray, List.set_cons_zero, List.set_cons_succ]
          refine wpAnyH_ready (rs := [29]) (by kernel_rfl) (by simp) ?_
          refine (AllReadyH.cons (o := _) (by simp only [List.getElem?_toArray, List.getElem?_cons_succ, List.getElem?_cons_zero]; rfl) (fun K hK => ?_) AllReadyH.nil)
          go_simp
          refine (HIP.out _ (condsR_below HC8.out e2) (ints_below HO8.out e2) (ints_below HU8.out e2)).mono ?_
          rintro e x3 ⟨pv, rfl, op, k3⟩
          have e3 : Below W8.heap.size W8 x3 := e2.trans (k3.mono e2.size)
          refine hK.out _ _ (HH.out _ e3) (fun hHeld => ?_)
          clear hK K
          try simp only [Act.put, List.setIfInBounds_toArray, List.set_cons_zero, List.set_cons_succ]
          refine wpAnyH_ready (rs := [32]) (by kernel_rfl) (by simp) ?_
          refine (AllReadyH.cons (o := _) (by simp only [List.getElem?_toArray, List.getElem?_cons_succ, List.getElem?_cons_zero]; rfl) (fun K hK => ?_) AllReadyH.nil)
          go_simp
          refine (HSP.out _ (condsR_below HC8.out e3) (ints_below HO8.out e3) (ints_below HU8.out e3)).mono ?_
          rintro e x4 ⟨pw, rfl, oq, k4⟩
          have e4 : Below W8.heap.size W8 x4 := e3.trans (k4.mono e3.size)
          replace op := ownsN_below op k4
          refine hK.out _ _ (HH.out _ e4) (fun hHeld => ?_)
          clear hK K
          try simp only [Act.put, List.setIfInBounds_toArray, List.set_cons_zero, List.set_cons_succ]
          refine wpAnyH_ready (rs := [33]) (by kernel_rfl) (by simp) ?_
          refine (AllReadyH.cons (o := _) (by simp only [List.getElem?_toArray, List.getElem?_cons_succ, List.getElem?_cons_zero]; rfl) (fun K hK => ?_) AllReadyH.nil)
          go_simp
          refine (sameL _ _ pl _ (ownsN_ints op) (ownsN_ints oq) HPL.out).mono ?_
          rintro e x5 ⟨rfl, k5⟩
          have e5 : Below W8.heap.size W8 x5 := e4.trans (k5.mono e4.size)
          clear op oq
          refine hK.out _ _ (HH.out _ e5) (fun hHeld => ?_)
          clear hK K
          try simp only [Act.put, List.setIfInBounds_toArray, List.set_cons_zero, List.set_cons_succ]
          refine take_runs (i := 34) (v := ?_) (by simp only [List.getElem?_toArray, List.getElem?_cons_succ, List.getElem?_cons_zero]; rfl) (by kernel_rfl) (by kernel_rfl) (by kernel_rfl) rfl (by exact fun _ _ _ h => h) (by rfl) ?_ (by assumption) ?_
          rotate_left
          · intro w hSw; (try dsimp only at hSw); go_simp; try (with_reducible rfl)
          try simp only [Act.put, List.setIfInBounds_toArray, List.set_cons_zero, List.set_cons_succ]
          refine take_runs (i := 35) (v := ?_) (by simp only [List.getElem?_toArray, List.getElem?_cons_succ, List.getElem?_cons_zero]; rfl) (by kernel_rfl) (by kernel_rfl) (by kernel_rfl) rfl (by exact fun _ _ _ h => h) (by rfl) ?_ (by assumption) ?_
          rotate_left
          · intro w hSw; (try dsimp only at hSw); go_simp; try (with_reducible rfl)
          try simp only [Act.put, List.setIfInBounds_toArray, List.set_cons_zero, List.set_cons_succ]
          refine take_runs (i := 36) (v := ?_) (by simp only [List.getElem?_toArray, List.getElem?_cons_succ, List.getElem?_cons_zero]; rfl) (by kernel_rfl) (by kernel_rfl) (by kernel_rfl) rfl (by exact fun _ _ _ h => h) (by rfl) ?_ (by assumption) ?_
          rotate_left
          · intro w hSw; (try dsimp only at hSw); go_simp; try (with_reducible rfl)
          try simp only [Act.put, List.setIfInBounds_toArray, List.set_cons_zero, List.set_cons_succ]
          refine take_runs (i := 37) (v := ?_) (by simp only [List.getElem?_toArray, List.getElem?_cons_succ, List.getElem?_cons_zero]; rfl) (by kernel_rfl) (by kernel_rfl) (by kernel_rfl) rfl (by exact fun _ _ _ h => h) (by rfl) ?_ (by assumption) ?_
          rotate_left
          · intro w hSw; (try dsimp only at hSw); go_simp; try (with_reducible rfl)
          try simp only [Act.put, List.setIfInBounds_toArray, List.set_cons_zero, List.set_cons_succ]
          refine take_runs (i := 39) (v := ?_) (by simp only [List.getElem?_toArray, List.getElem?_cons_succ, List.getElem?_cons_zero]; rfl) (by kernel_rfl) (by kernel_rfl) (by kernel_rfl) rfl (by exact fun _ _ _ h => h) (by rfl) ?_ (by assumption) ?_
          rotate_left
          · intro w hSw; (try dsimp only at hSw); go_simp; try (with_reducible rfl)
          try simp only [Act.put, List.setIfInBounds_toArray, List.set_cons_zero, List.set_cons_succ]
          refine take_runs (i := 40) (v := ?_) (by simp only [List.getElem?_toArray, List.getElem?_cons_succ, List.getElem?_cons_zero]; rfl) (by kernel_rfl) (by kernel_rfl) (by kernel_rfl) rfl (by exact fun _ _ _ h => h) (by rfl) ?_ (by assumption) ?_
          rotate_left
          · intro w hSw; (try dsimp only at hSw); go_simp; try (with_reducible rfl)
          try simp only [Act.put, List.setIfInBounds_toArray, List.set_cons_zero, List.set_cons_succ]
          refine wpAnyH_ready (rs := [38]) (by kernel_rfl) (by simp) ?_
          refine (AllReadyH.cons (o := _) (by simp only [List.getElem?_toArray, List.getElem?_cons_succ, List.getElem?_cons_zero]; rfl) (fun K hK => ?_) AllReadyH.nil)
          go_simp
          refine (HIM.out _ (condsR_below HC8.out e5) (ints_below HO8.out e5) (ints_below HU8.out e5)).mono ?_
          rintro e x6 ⟨rfl, k6⟩
          have e6 : Below W8.heap.size W8 x6 := e5.trans (k6.mono e5.size)
          refine hK.out _ _ (HH.out _ e6) (fun hHeld => ?_)
          clear hK K
          try simp only [Act.put, List.setIfInBounds_toArray, List.set_cons_zero, List.set_cons_succ]
          refine wpAnyH_ready (rs := [41]) (by kernel_rfl) (by simp) ?_
          refine (AllReadyH.cons (o := _) (by simp only [List.getElem?_toArray, List.getElem?_cons_succ, List.getElem?_cons_zero]; rfl) (fun K hK => ?_) AllReadyH.nil)
          go_simp
          refine (HSM.out _ (condsR_below HC8.out e6) (ints_below HO8.out e6) (ints_below HU8.out e6)).mono ?_
          rintro e x7 ⟨rfl, k7⟩
          have e7 : Below W8.heap.size W8 x7 := e6.trans (k7.mono e6.size)
          refine hK.out _ _ (HH.out _ e7) (fun hHeld => ?_)
          clear hK K
          try simp only [Act.put, List.setIfInBounds_toArray, List.set_cons_zero, List.set_cons_succ]
          refine take_runs (i := 42) (v := ?_) (by simp only [List.getElem?_toArray, List.getElem?_cons_succ, List.getElem?_cons_zero]; rfl) (by kernel_rfl) (by kernel_rfl) (by kernel_rfl) rfl (by exact fun _ _ _ h => h) (by rfl) ?_ (by assumption) ?_
          rotate_left
          · intro w hSw; (try dsimp only at hSw); go_simp; try (with_reducible rfl)
          try simp only [Act.put, List.setIfInBounds_toArray, List.set_cons_zero, List.set_cons_succ]
          refine take_runs (i := 43) (v := ?_) (by simp only [List.getElem?_toArray, List.getElem?_cons_succ, List.getElem?_cons_zero]; rfl) (by kernel_rfl) (by kernel_rfl) (by kernel_rfl) rfl (by exact fun _ _ _ h => h) (by rfl) ?_ (by assumption) ?_
          rotate_left
          · intro w hSw; (try dsimp only at hSw); go_simp; try (with_reducible rfl)
          try simp only [Act.put, List.setIfInBounds_toArray, List.set_cons_zero, List.set_cons_succ]
          refine take_runs (i := 44) (v := ?_) (by simp only [List.getElem?_toArray, List.getElem?_cons_succ, List.getElem?_cons_zero]; rfl) (by kernel_rfl) (by kernel_rfl) (by kernel_rfl) rfl (by exact fun _ _ _ h => h) (by rfl) ?_ (by assumption) ?_
          rotate_left
          · intro w hSw; (try dsimp only at hSw); go_simp; try (with_reducible rfl)
          try simp only [Act.put, List.setIfInBounds_toArray, List.set_cons_zero, List.set_cons_succ]
          refine take_runs (i := 45) (v := ?_) (by simp only [List.getElem?_toArray, List.getElem?_cons_succ, List.getElem?_cons_zero]; rfl) (by kernel_rfl) (by kernel_rfl) (by kernel_rfl) rfl (by exact fun _ _ _ h => h) (by rfl) ?_ (by assumption) ?_
          rotate_left
          · intro w hSw; (try dsimp only at hSw); go_simp; try (with_reducible rfl)
          try simp only [Act.put, List.setIfInBounds_toArray, List.set_cons_zero, List.set_cons_succ]
          refine take_runs (i := 46) (v := ?_) (by simp only [List.getElem?_toArray, List.getElem?_cons_succ, List.getElem?_cons_zero]; rfl) (by kernel_rfl) (by kernel_rfl) (by kernel_rfl) rfl (by exact fun _ _ _ h => h) (by rfl) ?_ (by assumption) ?_
          rotate_left
          · intro w hSw; (try dsimp only at hSw); go_simp; try (with_reducible rfl)
          try simp only [Act.put, List.setIfInBounds_toArray, List.set_cons_zero, List.set_cons_succ]
          refine wpAnyH_ready (rs := [47]) (by kernel_rfl) (by simp) ?_
          refine (AllReadyH.cons (o := _) (by simp only [List.getElem?_toArray, List.getElem?_cons_succ, List.getElem?_cons_zero]; rfl) (fun K hK => ?_) AllReadyH.nil)
          go_simp
          refine (implSortRows _ L _ (ownsR_rows (ownsR_below HL8.out e7)) HLS.out).mono ?_
          rintro e x8 ⟨sv, rfl, os9, k8⟩
          have e8 : Below W8.heap.size W8 x8 := e7.trans (k8.mono e7.size)
          rw [HSS.out] at os9
          refine hK.out _ _ (HH.out _ e8) (fun hHeld => ?_)
          clear hK K
          try simp only [Act.put, List.setIfInBounds_toArray, List.set_cons_zero, List.set_cons_succ]
          refine wpAnyH_ready (rs := [48]) (by kernel_rfl) (by simp) ?_
          refine (AllReadyH.cons (o := _) (by simp only [List.getElem?_toArray, List.getElem?_cons_succ, List.getElem?_cons_zero]; rfl) (fun K hK => ?_) AllReadyH.nil)
          go_simp
          refine (implEqualRows _ _ L L _ (ownsR_rows (ownsR_below HL8.out e8)) (ownsR_rows os9) HLS.out HLS.out).mono ?_
          rintro e x9 ⟨rfl, k9⟩
          have e9 : Below W8.heap.size W8 x9 := e8.trans (k9.mono e8.size)
          refine hK.out _ _ (HH.out _ e9) (fun hHeld => ?_)
          clear hK K
          try simp only [Act.put, List.setIfInBounds_toArray, List.set_cons_zero, List.set_cons_succ]
          try rw [decide_eq_true (rfl : L = L)]
          refine take_runs (i := 49) (v := ?_) (by simp only [List.getElem?_toArray, List.getElem?_cons_succ, List.getElem?_cons_zero]; rfl) (by kernel_rfl) (by kernel_rfl) (by kernel_rfl) rfl (by exact fun _ _ _ h => h) (by rfl) ?_ (by assumption) ?_
          rotate_left
          · intro w hSw; (try dsimp only at hSw); go_simp; try (with_reducible rfl)
          try simp only [Act.put, List.setIfInBounds_toArray, List.set_cons_zero, List.set_cons_succ]
          refine take_runs (i := 50) (v := ?_) (by simp only [List.getElem?_toArray, List.getElem?_cons_succ, List.getElem?_cons_zero]; rfl) (by kernel_rfl) (by kernel_rfl) (by kernel_rfl) rfl (by exact fun _ _ _ h => h) (by rfl) ?_ (by assumption) ?_
          rotate_left
          · intro w hSw; (try dsimp only at hSw); go_simp; try (with_reducible rfl)
          try simp only [Act.put, List.setIfInBounds_toArray, List.set_cons_zero, List.set_cons_succ]
          refine wpAnyH_done (by kernel_rfl) ?_ _
          have f9 := HB8.out.trans (e9.mono HB8.out.size)
          clear hHeld os9
          go_wp2
          go_ret
          exact ⟨rfl, f9⟩
        | true =>
          have HPX : Hid (∀ w, Tab w → TabM w → Calls Tryz.prog 12 #[.string (strB (fmtQ id tn cs os))] w (ParAnsQ w ((id, tn, cs, os), true))) := Lib.hid (fun w h h2 => by have := implParseQuery (fmtQ id tn cs os) w (fmtQ_small _ _ _ _) h h2; rw [parQ_fmt, hq] at this; exact this)
          have HFQ : Hid (queryB id tn cs os = true) := Lib.hid hq
          rw [hq] at HSQ
          clear hq
          generalize fmtQ id tn cs os = fq at *
          go_wp2_with fail
          refine (HIF.out _ HCr.out HOr.out (HT.out.on (HB.out.trans (hW1.mono HB.out.size)))).mono ?_
          rintro e w5 ⟨rfl, d5⟩
          have hW5 := hW1.trans (d5.mono hW1.size)
          have hL5 := ownsR_below hLr d5
          clear p0 p1 p2 p3 hLr d5
          go_wp2_with fail
          refine (HPX.out _ (HT.out.on (HB.out.trans (hW5.mono HB.out.size))) (HM.out.on (HB.out.trans (hW5.mono HB.out.size)))).mono ?_
          rintro e w6 ⟨xcv, xov, rfl, oxc, oxo, _, d6⟩
          have hW6 := hW5.trans (d6.mono hW5.size)
          have hL6 := ownsR_below hL5 d6
          clear d6
          obtain ⟨xc, xccap, rfl⟩ := ownsC_len oxc
          obtain ⟨xo, xocap, rfl⟩ := ints_len (ownsN_ints oxo)
          simp only at oxc oxo ⊢
          have a6 : Below w6.heap.size w6 (w6.alloc (.cells #[.int .i64 id, .int .i64 tn, .slice xc cs.length xccap, .slice xo os.length xocap] 27)) := (Below.refl _ _).alloc (Nat.le_refl _) _
          have HK6 := Lib.hid (heap_alloc_new w6 (.cells #[.int .i64 id, .int .i64 tn, .slice xc cs.length xccap, .slice xo os.length xocap] 27))
          have hW7 := hW6.trans (a6.mono hW6.size)
          have HL7 := Lib.hid (ownsR_below hL6 a6)
          have HXC := Lib.hid (condsR_below (ownsC_conds oxc) a6)
          have HXO := Lib.hid (ints_below (ownsN_ints oxo) a6)
          have HW7 := Lib.hid hW7
          clear hW6 hL6 a6 hW7 oxc oxo hL5 hW5
          go_wp2_with fail
          obtain ⟨B6, hB6⟩ : ∃ B6, w6.heap.size = B6 := ⟨_, rfl⟩
          try rw [hB6]
          rw [hB6] at HK6
          generalize w6.alloc (.cells #[.int .i64 id, .int .i64 tn, .slice xc cs.length xccap, .slice xo os.length xocap] 27) = W6 at *
          clear hB6
          refine (HE.out W6 (HB.out.trans (HW7.out.mono HB.out.size))).mono ?_
          rintro e w7 ⟨id2, tn2, rid2, cs2, os2, ys2, cv2, ov2, u2, rfl, hC2, hO2, hU2, hcl2, hol2, hyl2, d7⟩
          obtain ⟨ca2, ccap2, rfl⟩ := condsR_len hC2
          obtain ⟨oa2, ocap2, rfl⟩ := ints_len hO2
          obtain ⟨ua2, ucap2, rfl⟩ := ints_len hU2
          have a8 : Below w7.heap.size w7 ((w7.alloc (.cells #[.int .i64 id2, .int .i64 tn2, .slice ca2 cs2.length ccap2, .slice oa2 os2.length ocap2] 27)).alloc (.cells #[.int .i64 rid2, .slice ua2 ys2.length ucap2] 36)) := ((Below.refl _ _).alloc (Nat.le_refl _) _).alloc (by simp) _
          have h2 := keepA (.cells #[.int .i64 rid2, .slice ua2 ys2.length ucap2] 36) (heap_alloc_new w7 (.cells #[.int .i64 id2, .int .i64 tn2, .slice ca2 cs2.length ccap2, .slice oa2 os2.length ocap2] 27))
          have h3 := heap_alloc_new (w7.alloc (.cells #[.int .i64 id2, .int .i64 tn2, .slice ca2 cs2.length ccap2, .slice oa2 os2.length ocap2] 27)) (.cells #[.int .i64 rid2, .slice ua2 ys2.length ucap2] 36)
          simp only [World.size_alloc] at h3
          have d8 := d7.trans (a8.mono d7.size)
          have D8 := HW7.out.trans (d8.mono HW7.out.size)
          have HC8 := Lib.hid (condsR_below hC2 a8)
          have HO8 := Lib.hid (ints_below hO2 a8)
          have HU8 := Lib.hid (ints_below hU2 a8)
          have HC1 := Lib.hid (condsR_below HC.out D8)
          have HO1 := Lib.hid (ints_below HO.out D8)
          have HXC8 := Lib.hid (condsR_below HXC.out d8)
          have HXO8 := Lib.hid (ints_below HXO.out d8)
          have HL8 := Lib.hid (ownsR_below HL7.out d8)
          have k1 := (D8.block B1 (Array.getElem?_eq_some_iff.1 HK.out).1).trans HK.out
          have k6 := (d8.block B6 (Array.getElem?_eq_some_iff.1 HK6.out).1).trans HK6.out
          have HCL2 : Hid (cs2.length ≤ 1048576) := Lib.hid (by omega)
          have HOL2 : Hid (os2.length ≤ 1048576) := Lib.hid (by omega)
          have HYL2 : Hid (ys2.length ≤ 1048576) := Lib.hid (by omega)
          have HB8 := Lib.hid (HB.out.trans (D8.mono HB.out.size))
          clear hC2 hO2 hU2 hcl2 hol2 hyl2 d7 a8 d8 D8
          go_wp2
          obtain ⟨W8, hW8⟩ : ∃ W8, ((w7.alloc (.cells #[.int .i64 id2, .int .i64 tn2, .slice ca2 cs2.length ccap2, .slice oa2 os2.length ocap2] 27)).alloc (.cells #[.int .i64 rid2, .slice ua2 ys2.length ucap2] 36)) = W8 := ⟨_, rfl⟩
          rw [hW8] at h2 h3 HC8 HO8 HU8 HC1 HO1 HXC8 HXO8 HL8 k1 k6 HB8 ⊢
          clear hW8
          obtain ⟨E, hE⟩ : ∃ E, w7.heap.size = E := ⟨_, rfl⟩
          rw [hE] at h2 h3 ⊢
          clear hE
          have HIP := Lib.hid (fun w h g gr => implProjectRow id2 tn2 rid2 (.slice ca2 cs2.length ccap2) (.slice oa2 os2.length ocap2) (.slice ua2 ys2.length ucap2) cs2 os2 ys2 w h HCL2.out g HOL2.out gr HYL2.out)
          have HSP := Lib.hid (fun w h g gr => specProjectRow id2 tn2 rid2 (.slice ca2 cs2.length ccap2) (.slice oa2 os2.length ocap2) (.slice ua2 ys2.length ucap2) cs2 os2 ys2 w h HCL2.out g HOL2.out gr HYL2.out)
          have HPL : Hid ((projL id2 tn2 cs2 os2 (rid2, ys2)).length ≤ 1048576) := Lib.hid (by unfold projL; split <;> first | (rw [List.length_map]; exact HOL2.out) | simp)
          have HIM := Lib.hid (fun w h g gr => implMatchesRow id2 tn2 rid2 (.slice ca2 cs2.length ccap2) (.slice oa2 os2.length ocap2) (.slice ua2 ys2.length ucap2) cs2 os2 ys2 w h HCL2.out g HOL2.out gr HYL2.out)
          have HSM := Lib.hid (fun w h g gr => specMatchesRow id2 tn2 rid2 (.slice ca2 cs2.length ccap2) (.slice oa2 os2.length ocap2) (.slice ua2 ys2.length ucap2) cs2 os2 ys2 w h HCL2.out g HOL2.out gr HYL2.out)
          generalize projL id2 tn2 cs2 os2 (rid2, ys2) = pl at *
          generalize matchB id2 tn2 cs2 os2 (rid2, ys2) = mb at *
          have HH : Hid (∀ x, Below W8.heap.size W8 x → x.cell? ⟨B1, 0, none⟩ = some (.int .i64 id) ∧ x.cell? ⟨B1, 1, none⟩ = some (.int .i64 tn) ∧ x.cell? ⟨B1, 2, none⟩ = some (.slice ca cs.length ccap) ∧ x.cell? ⟨B1, 3, none⟩ = some (.slice oa os.length ocap) ∧ x.cell? ⟨B6, 0, none⟩ = some (.int .i64 id) ∧ x.cell? ⟨B6, 1, none⟩ = some (.int .i64 tn) ∧ x.cell? ⟨B6, 2, none⟩ = some (.slice xc cs.length xccap) ∧ x.cell? ⟨B6, 3, none⟩ = some (.slice xo os.length xocap) ∧ x.cell? ⟨E, 0, none⟩ = some (.int .i64 id2) ∧ x.cell? ⟨E, 1, none⟩ = some (.int .i64 tn2) ∧ x.cell? ⟨E, 2, none⟩ = some (.slice ca2 cs2.length ccap2) ∧ x.cell? ⟨E, 3, none⟩ = some (.slice oa2 os2.length ocap2) ∧ x.cell? ⟨E + 1, 0, none⟩ = some (.int .i64 rid2) ∧ x.cell? ⟨E + 1, 1, none⟩ = some (.slice ua2 ys2.length ucap2)) := Lib.hid (fun x hb => ⟨(cell_of_row x _ 0 _ _ _ ((hb.block _ (Array.getElem?_eq_some_iff.1 k1).1).trans k1)).trans rfl, (cell_of_row x _ 1 _ _ _ ((hb.block _ (Array.getElem?_eq_some_iff.1 k1).1).trans k1)).trans rfl, (cell_of_row x _ 2 _ _ _ ((hb.block _ (Array.getElem?_eq_some_iff.1 k1).1).trans k1)).trans rfl, (cell_of_row x _ 3 _ _ _ ((hb.block _ (Array.getElem?_eq_some_iff.1 k1).1).trans k1)).trans rfl, (cell_of_row x _ 0 _ _ _ ((hb.block _ (Array.getElem?_eq_some_iff.1 k6).1).trans k6)).trans rfl, (cell_of_row x _ 1 _ _ _ ((hb.block _ (Array.getElem?_eq_some_iff.1 k6).1).trans k6)).trans rfl, (cell_of_row x _ 2 _ _ _ ((hb.block _ (Array.getElem?_eq_some_iff.1 k6).1).trans k6)).trans rfl, (cell_of_row x _ 3 _ _ _ ((hb.block _ (Array.getElem?_eq_some_iff.1 k6).1).trans k6)).trans rfl, (cell_of_row x _ 0 _ _ _ ((hb.block _ (Array.getElem?_eq_some_iff.1 h2).1).trans h2)).trans rfl, (cell_of_row x _ 1 _ _ _ ((hb.block _ (Array.getElem?_eq_some_iff.1 h2).1).trans h2)).trans rfl, (cell_of_row x _ 2 _ _ _ ((hb.block _ (Array.getElem?_eq_some_iff.1 h2).1).trans h2)).trans rfl, (cell_of_row x _ 3 _ _ _ ((hb.block _ (Array.getElem?_eq_some_iff.1 h2).1).trans h2)).trans rfl, (cell_of_row x _ 0 _ _ _ ((hb.block _ (Array.getElem?_eq_some_iff.1 h3).1).trans h3)).trans rfl, (cell_of_row x _ 1 _ _ _ ((hb.block _ (Array.getElem?_eq_some_iff.1 h3).1).trans h3)).trans rfl⟩)
          clear k1 k6 h2 h3
          refine wp_region_held_drew (S := fun w' => w'.cell? ⟨B1, 0, none⟩ = some (.int .i64 id) ∧ w'.cell? ⟨B1, 1, none⟩ = some (.int .i64 tn) ∧ w'.cell? ⟨B1, 2, none⟩ = some (.slice ca cs.length ccap) ∧ w'.cell? ⟨B1, 3, none⟩ = some (.slice oa os.length ocap) ∧ w'.cell? ⟨B6, 0, none⟩ = some (.int .i64 id) ∧ w'.cell? ⟨B6, 1, none⟩ = some (.int .i64 tn) ∧ w'.cell? ⟨B6, 2, none⟩ = some (.slice xc cs.length xccap) ∧ w'.cell? ⟨B6, 3, none⟩ = some (.slice xo os.length xocap) ∧ w'.cell? ⟨E, 0, none⟩ = some (.int .i64 id2) ∧ w'.cell? ⟨E, 1, none⟩ = some (.int .i64 tn2) ∧ w'.cell? ⟨E, 2, none⟩ = some (.slice ca2 cs2.length ccap2) ∧ w'.cell? ⟨E, 3, none⟩ = some (.slice oa2 os2.length ocap2) ∧ w'.cell? ⟨E + 1, 0, none⟩ = some (.int .i64 rid2) ∧ w'.cell? ⟨E + 1, 1, none⟩ = some (.slice ua2 ys2.length ucap2)) (by kernel_rfl) (HH.out _ (below_drew (Below.refl _ _))) (fun hHeld => ?_)
          have e0 := below_drew (Below.refl W8.heap.size W8)
          refine take_runs (i := 0) (v := ?_) (by simp only [List.getElem?_toArray, List.getElem?_cons_succ, List.getElem?_cons_zero]; rfl) (by kernel_rfl) (by kernel_rfl) (by kernel_rfl) rfl (by exact fun _ _ _ h => h) (by rfl) ?_ (by assumption) ?_
          rotate_left
          · intro w hSw; (try dsimp only at hSw); go_simp; try (with_reducible rfl)
          try simp only [Act.put, List.setIfInBounds_toArray, List.set_cons_zero, List.set_cons_succ]
          refine take_runs (i := 1) (v := ?_) (by simp only [List.getElem?_toArray, List.getElem?_cons_succ, List.getElem?_cons_zero]; rfl) (by kernel_rfl) (by kernel_rfl) (by kernel_rfl) rfl (by exact fun _ _ _ h => h) (by rfl) ?_ (by assumption) ?_
          rotate_left
          · intro w hSw; (try dsimp only at hSw); go_simp; try (with_reducible rfl)
          try simp only [Act.put, List.setIfInBounds_toArray, List.set_cons_zero, List.set_cons_succ]
          refine take_runs (i := 2) (v := ?_) (by simp only [List.getElem?_toArray, List.getElem?_cons_succ, List.getElem?_cons_zero]; rfl) (by kernel_rfl) (by kernel_rfl) (by kernel_rfl) rfl (by exact fun _ _ _ h => h) (by rfl) ?_ (by assumption) ?_
          rotate_left
          · intro w hSw; (try dsimp only at hSw); go_simp; try (with_reducible rfl)
          try simp only [Act.put, List.setIfInBounds_toArray, List.set_cons_zero, List.set_cons_succ]
          refine take_runs (i := 3) (v := ?_) (by simp only [List.getElem?_toArray, List.getElem?_cons_succ, List.getElem?_cons_zero]; rfl) (by kernel_rfl) (by kernel_rfl) (by kernel_rfl) rfl (by exact fun _ _ _ h => h) (by rfl) ?_ (by assumption) ?_
          rotate_left
          · intro w hSw; (try dsimp only at hSw); go_simp; try (with_reducible rfl)
          try simp only [Act.put, List.setIfInBounds_toArray, List.set_cons_zero, List.set_cons_succ]
          refine take_runs (i := 4) (v := ?_) (by simp only [List.getElem?_toArray, List.getElem?_cons_succ, List.getElem?_cons_zero]; rfl) (by kernel_rfl) (by kernel_rfl) (by kernel_rfl) rfl (by exact fun _ _ _ h => h) (by rfl) ?_ (by assumption) ?_
          rotate_left
          · intro w hSw; (try dsimp only at hSw); go_simp; try (with_reducible rfl)
          try simp only [Act.put, List.setIfInBounds_toArray, List.set_cons_zero, List.set_cons_succ]
          refine take_runs (i := 5) (v := ?_) (by simp only [List.getElem?_toArray, List.getElem?_cons_succ, List.getElem?_cons_zero]; rfl) (by kernel_rfl) (by kernel_rfl) (by kernel_rfl) rfl (by exact fun _ _ _ h => h) (by rfl) ?_ (by assumption) ?_
          rotate_left
          · intro w hSw; (try dsimp only at hSw); go_simp; try (with_reducible rfl)
          try simp only [Act.put, List.setIfInBounds_toArray, List.set_cons_zero, List.set_cons_succ]
          refine take_runs (i := 6) (v := ?_) (by simp only [List.getElem?_toArray, List.getElem?_cons_succ, List.getElem?_cons_zero]; rfl) (by kernel_rfl) (by kernel_rfl) (by kernel_rfl) rfl (by exact fun _ _ _ h => h) (by rfl) ?_ (by assumption) ?_
          rotate_left
          · intro w hSw; (try dsimp only at hSw); go_simp; try (with_reducible rfl)
          try simp only [Act.put, List.setIfInBounds_toArray, List.set_cons_zero, List.set_cons_succ]
          refine wpAnyH_ready (rs := [7]) (by kernel_rfl) (by simp) ?_
          refine (AllReadyH.cons (o := _) (by simp only [List.getElem?_toArray, List.getElem?_cons_succ, List.getElem?_cons_zero]; rfl) (fun K hK => ?_) AllReadyH.nil)
          go_simp
          refine (HSF.out _ (condsR_below HC1.out e0) (ints_below HO1.out e0)).mono ?_
          rintro e x1 ⟨rfl, k1⟩
          have e1 : Below W8.heap.size W8 x1 := e0.trans (k1.mono e0.size)
          refine hK.out _ _ (HH.out _ e1) (fun hHeld => ?_)
          clear hK K
          try simp only [Act.put, List.setIfInBounds_toArray, List.set_cons_zero, List.set_cons_succ]
          refine take_runs (i := 8) (v := ?_) (by simp only [List.getElem?_toArray, List.getElem?_cons_succ, List.getElem?_cons_zero]; rfl) (by kernel_rfl) (by kernel_rfl) (by kernel_rfl) rfl (by exact fun _ _ _ h => h) (by rfl) ?_ (by assumption) ?_
          rotate_left
          · intro w hSw; (try dsimp only at hSw); go_simp; try (with_reducible rfl)
          try simp only [Act.put, List.setIfInBounds_toArray, List.set_cons_zero, List.set_cons_succ]
          refine take_runs (i := 9) (v := ?_) (by simp only [List.getElem?_toArray, List.getElem?_cons_succ, List.getElem?_cons_zero]; rfl) (by kernel_rfl) (by kernel_rfl) (by kernel_rfl) rfl (by exact fun _ _ _ h => h) (by rfl) ?_ (by assumption) ?_
          rotate_left
          · intro w hSw; (try dsimp only at hSw); go_simp; try (with_reducible rfl)
          try simp only [Act.put, List.setIfInBounds_toArray, List.set_cons_zero, List.set_cons_succ]
          refine take_runs (i := 10) (v := ?_) (by simp only [List.getElem?_toArray, List.getElem?_cons_succ, List.getElem?_cons_zero]; rfl) (by kernel_rfl) (by kernel_rfl) (by kernel_rfl) rfl (by exact fun _ _ _ h => h) (by rfl) ?_ (by assumption) ?_
          rotate_left
          · intro w hSw; (try dsimp only at hSw); go_simp; try (with_reducible rfl)
          try simp only [Act.put, List.setIfInBounds_toArray, List.set_cons_zero, List.set_cons_succ]
          refine take_runs (i := 11) (v := ?_) (by simp only [List.getElem?_toArray, List.getElem?_cons_succ, List.getElem?_cons_zero]; rfl) (by kernel_rfl) (by kernel_rfl) (by kernel_rfl) rfl (by exact fun _ _ _ h => h) (by rfl) ?_ (by assumption) ?_
          rotate_left
          · intro w hSw; (try dsimp only at hSw); go_simp; try (with_reducible rfl)
          try simp only [Act.put, List.setIfInBounds_toArray, List.set_cons_zero, List.set_cons_succ]
          refine take_runs (i := 12) (v := ?_) (by simp only [List.getElem?_toArray, List.getElem?_cons_succ, List.getElem?_cons_zero]; rfl) (by kernel_rfl) (by kernel_rfl) (by kernel_rfl) rfl (by exact fun _ _ _ h => h) (by rfl) ?_ (by assumption) ?_
          rotate_left
          · intro w hSw; (try dsimp only at hSw); go_simp; try (with_reducible rfl)
          try simp only [Act.put, List.setIfInBounds_toArray, List.set_cons_zero, List.set_cons_succ]
          refine wpAnyH_ready (rs := [13]) (by kernel_rfl) (by simp) ?_
          refine (AllReadyH.cons (o := _) (by simp only [List.getElem?_toArray, List.getElem?_cons_succ, List.getElem?_cons_zero]; rfl) (fun K hK => ?_) AllReadyH.nil)
          go_simp
          refine (HSQ.out _ (condsR_below HC1.out e1) (ints_below HO1.out e1)).mono ?_
          rintro e x2 ⟨rfl, k2⟩
          have e2 : Below W8.heap.size W8 x2 := e1.trans (k2.mono e1.size)
          refine hK.out _ _ (HH.out _ e2) (fun hHeld => ?_)
          clear hK K
          try simp only [Act.put, List.setIfInBounds_toArray, List.set_cons_zero, List.set_cons_succ]
          refine take_runs (i := 14) (v := ?_) (by simp only [List.getElem?_toArray, List.getElem?_cons_succ, List.getElem?_cons_zero]; rfl) (by kernel_rfl) (by kernel_rfl) (by kernel_rfl) rfl (by exact fun _ _ _ h => h) (by rfl) ?_ (by assumption) ?_
          rotate_left
          · intro w hSw; (try dsimp only at hSw); go_simp; try (with_reducible rfl)
          try simp only [Act.put, List.setIfInBounds_toArray, List.set_cons_zero, List.set_cons_succ]
          refine take_runs (i := 15) (v := ?_) (by simp only [List.getElem?_toArray, List.getElem?_cons_succ, List.getElem?_cons_zero]; rfl) (by kernel_rfl) (by kernel_rfl) (by kernel_rfl) rfl (by exact fun _ _ _ h => h) (by rfl) ?_ (by assumption) ?_
          rotate_left
          · intro w hSw; (try dsimp only at hSw); go_simp; try (with_reducible rfl)
          try simp only [Act.put, List.setIfInBounds_toArray, List.set_cons_zero, List.set_cons_succ]
          refine take_runs (i := 16) (v := ?_) (by simp only [List.getElem?_toArray, List.getElem?_cons_succ, List.getElem?_cons_zero]; rfl) (by kernel_rfl) (by kernel_rfl) (by kernel_rfl) rfl (by exact fun _ _ _ h => h) (by rfl) ?_ (by assumption) ?_
          rotate_left
          · intro w hSw; (try dsimp only at hSw); go_simp; try (with_reducible rfl)
          try simp only [Act.put, List.setIfInBounds_toArray, List.set_cons_zero, List.set_cons_succ]
          refine take_runs (i := 17) (v := ?_) (by simp only [List.getElem?_toArray, List.getElem?_cons_succ, List.getElem?_cons_zero]; rfl) (by kernel_rfl) (by kernel_rfl) (by kernel_rfl) rfl (by exact fun _ _ _ h => h) (by rfl) ?_ (by assumption) ?_
          rotate_left
          · intro w hSw; (try dsimp only at hSw); go_simp; try (with_reducible rfl)
          try simp only [Act.put, List.setIfInBounds_toArray, List.set_cons_zero, List.set_cons_succ]
          refine take_runs (i := 18) (v := ?_) (by simp only [List.getElem?_toArray, List.getElem?_cons_succ, List.getElem?_cons_zero]; rfl) (by kernel_rfl) (by kernel_rfl) (by kernel_rfl) rfl (by exact fun _ _ _ h => h) (by rfl) ?_ (by assumption) ?_
          rotate_left
          · intro w hSw; (try dsimp only at hSw); go_simp; try (with_reducible rfl)
          try simp only [Act.put, List.setIfInBounds_toArray, List.set_cons_zero, List.set_cons_succ]
          refine take_runs (i := 19) (v := ?_) (by simp only [List.getElem?_toArray, List.getElem?_cons_succ, List.getElem?_cons_zero]; rfl) (by kernel_rfl) (by kernel_rfl) (by kernel_rfl) rfl (by exact fun _ _ _ h => h) (by rfl) ?_ (by assumption) ?_
          rotate_left
          · intro w hSw; (try dsimp only at hSw); go_simp; try (with_reducible rfl)
          try simp only [Act.put, List.setIfInBounds_toArray, List.set_cons_zero, List.set_cons_succ]
          refine take_runs (i := 20) (v := ?_) (by simp only [List.getElem?_toArray, List.getElem?_cons_succ, List.getElem?_cons_zero]; rfl) (by kernel_rfl) (by kernel_rfl) (by kernel_rfl) rfl (by exact fun _ _ _ h => h) (by rfl) ?_ (by assumption) ?_
          rotate_left
          · intro w hSw; (try dsimp only at hSw); go_simp; try (with_reducible rfl)
          try simp only [Act.put, List.setIfInBounds_toArray, List.set_cons_zero, List.set_cons_succ]
          refine take_runs (i := 22) (v := ?_) (by simp only [List.getElem?_toArray, List.getElem?_cons_succ, List.getElem?_cons_zero]; rfl) (by kernel_rfl) (by kernel_rfl) (by kernel_rfl) rfl (by exact fun _ _ _ h => h) (by rfl) ?_ (by assumption) ?_
          rotate_left
          · intro w hSw; (try dsimp only at hSw); go_simp; try (with_reducible rfl)
          try simp only [Act.put, List.setIfInBounds_toArray, List.set_cons_zero, List.set_cons_succ]
          refine wpAnyH_ready (rs := [21]) (by kernel_rfl) (by simp) ?_
          refine (AllReadyH.cons (o := _) (by simp only [List.getElem?_toArray, List.getElem?_cons_succ, List.getElem?_cons_zero]; rfl) (fun K hK => ?_) AllReadyH.nil)
          go_simp
          refine (HIX.out _ _ _ (condsR_below HXC8.out e2) (ints_below HXO8.out e2) (HT.out.on (HB8.out.trans (e2.mono HB8.out.size)))).mono ?_
          rintro e x3 ⟨rfl, k3⟩
          have e3 : Below W8.heap.size W8 x3 := e2.trans (k3.mono e2.size)
          refine hK.out _ _ (HH.out _ e3) (fun hHeld => ?_)
          clear hK K
          try simp only [Act.put, List.setIfInBounds_toArray, List.set_cons_zero, List.set_cons_succ]
          refine take_runs (i := 23) (v := ?_) (by simp only [List.getElem?_toArray, List.getElem?_cons_succ, List.getElem?_cons_zero]; rfl) (by kernel_rfl) (by kernel_rfl) (by kernel_rfl) rfl (by exact fun _ _ _ h => h) (by rfl) ?_ (by assumption) ?_
          rotate_left
          · intro w hSw; (try dsimp only at hSw); go_simp; try (with_reducible rfl)
          try simp only [Act.put, List.setIfInBounds_toArray, List.set_cons_zero, List.set_cons_succ]
          refine take_runs (i := 24) (v := ?_) (by simp only [List.getElem?_toArray, List.getElem?_cons_succ, List.getElem?_cons_zero]; rfl) (by kernel_rfl) (by kernel_rfl) (by kernel_rfl) rfl (by exact fun _ _ _ h => h) (by rfl) ?_ (by assumption) ?_
          rotate_left
          · intro w hSw; (try dsimp only at hSw); go_simp; try (with_reducible rfl)
          try simp only [Act.put, List.setIfInBounds_toArray, List.set_cons_zero, List.set_cons_succ]
          refine take_runs (i := 25) (v := ?_) (by simp only [List.getElem?_toArray, List.getElem?_cons_succ, List.getElem?_cons_zero]; rfl) (by kernel_rfl) (by kernel_rfl) (by kernel_rfl) rfl (by exact fun _ _ _ h => h) (by rfl) ?_ (by assumption) ?_
          rotate_left
          · intro w hSw; (try dsimp only at hSw); go_simp; try (with_reducible rfl)
          try simp only [Act.put, List.setIfInBounds_toArray, List.set_cons_zero, List.set_cons_succ]
          refine take_runs (i := 26) (v := ?_) (by simp only [List.getElem?_toArray, List.getElem?_cons_succ, List.getElem?_cons_zero]; rfl) (by kernel_rfl) (by kernel_rfl) (by kernel_rfl) rfl (by exact fun _ _ _ h => h) (by rfl) ?_ (by assumption) ?_
          rotate_left
          · intro w hSw; (try dsimp only at hSw); go_simp; try (with_reducible rfl)
          try simp only [Act.put, List.setIfInBounds_toArray, List.set_cons_zero, List.set_cons_succ]
          refine take_runs (i := 27) (v := ?_) (by simp only [List.getElem?_toArray, List.getElem?_cons_succ, List.getElem?_cons_zero]; rfl) (by kernel_rfl) (by kernel_rfl) (by kernel_rfl) rfl (by exact fun _ _ _ h => h) (by rfl) ?_ (by assumption) ?_
          rotate_left
          · intro w hSw; (try dsimp only at hSw); go_simp; try (with_reducible rfl)
          try simp only [Act.put, List.setIfInBounds_toArray, List.set_cons_zero, List.set_cons_succ]
          refine take_runs (i := 28) (v := ?_) (by simp only [List.getElem?_toArray, List.getElem?_cons_succ, List.getElem?_cons_zero]; rfl) (by kernel_rfl) (by kernel_rfl) (by kernel_rfl) rfl (by exact fun _ _ _ h => h) (by rfl) ?_ (by assumption) ?_
          rotate_left
          · intro w hSw; (try dsimp only at hSw); go_simp; try (with_reducible rfl)
          try simp only [Act.put, List.setIfInBounds_toArray, List.set_cons_zero, List.set_cons_succ]
          refine take_runs (i := 30) (v := ?_) (by simp only [List.getElem?_toArray, List.getElem?_cons_succ, List.getElem?_cons_zero]; rfl) (by kernel_rfl) (by kernel_rfl) (by kernel_rfl) rfl (by exact fun _ _ _ h => h) (by rfl) ?_ (by assumption) ?_
          rotate_left
          · intro w hSw; (try dsimp only at hSw); go_simp; try (with_reducible rfl)
          try simp only [Act.put, List.setIfInBounds_toArray, List.set_cons_zero, List.set_cons_succ]
          refine take_runs (i := 31) (v := ?_) (by simp only [List.getElem?_toArray, List.getElem?_cons_succ, List.getElem?_cons_zero]; rfl) (by kernel_rfl) (by kernel_rfl) (by kernel_rfl) rfl (by exact fun _ _ _ h => h) (by rfl) ?_ (by assumption) ?_
          rotate_left
          · intro w hSw; (try dsimp only at hSw); go_simp; try (with_reducible rfl)
          try simp only [Act.put, List.setIfInBounds_toArray, List.set_cons_zero, List.set_cons_succ]
          refine wpAnyH_ready (rs := [29]) (by kernel_rfl) (by simp) ?_
          refine (AllReadyH.cons (o := _) (by simp only [List.getElem?_toArray, List.getElem?_cons_succ, List.getElem?_cons_zero]; rfl) (fun K hK => ?_) AllReadyH.nil)
          go_simp
          refine (HIP.out _ (condsR_below HC8.out e3) (ints_below HO8.out e3) (ints_below HU8.out e3)).mono ?_
          rintro e x4 ⟨pv, rfl, op, k4⟩
          have e4 : Below W8.heap.size W8 x4 := e3.trans (k4.mono e3.size)
          refine hK.out _ _ (HH.out _ e4) (fun hHeld => ?_)
          clear hK K
          try simp only [Act.put, List.setIfInBounds_toArray, List.set_cons_zero, List.set_cons_succ]
          refine wpAnyH_ready (rs := [32]) (by kernel_rfl) (by simp) ?_
          refine (AllReadyH.cons (o := _) (by simp only [List.getElem?_toArray, List.getElem?_cons_succ, List.getElem?_cons_zero]; rfl) (fun K hK => ?_) AllReadyH.nil)
          go_simp
          refine (HSP.out _ (condsR_below HC8.out e4) (ints_below HO8.out e4) (ints_below HU8.out e4)).mono ?_
          rintro e x5 ⟨pw, rfl, oq, k5⟩
          have e5 : Below W8.heap.size W8 x5 := e4.trans (k5.mono e4.size)
          replace op := ownsN_below op k5
          refine hK.out _ _ (HH.out _ e5) (fun hHeld => ?_)
          clear hK K
          try simp only [Act.put, List.setIfInBounds_toArray, List.set_cons_zero, List.set_cons_succ]
          refine wpAnyH_ready (rs := [33]) (by kernel_rfl) (by simp) ?_
          refine (AllReadyH.cons (o := _) (by simp only [List.getElem?_toArray, List.getElem?_cons_succ, List.getElem?_cons_zero]; rfl) (fun K hK => ?_) AllReadyH.nil)
          go_simp
          refine (sameL _ _ pl _ (ownsN_ints op) (ownsN_ints oq) HPL.out).mono ?_
          rintro e x6 ⟨rfl, k6⟩
          have e6 : Below W8.heap.size W8 x6 := e5.trans (k6.mono e5.size)
          clear op oq
          refine hK.out _ _ (HH.out _ e6) (fun hHeld => ?_)
          clear hK K
          try simp only [Act.put, List.setIfInBounds_toArray, List.set_cons_zero, List.set_cons_succ]
          refine take_runs (i := 34) (v := ?_) (by simp only [List.getElem?_toArray, List.getElem?_cons_succ, List.getElem?_cons_zero]; rfl) (by kernel_rfl) (by kernel_rfl) (by kernel_rfl) rfl (by exact fun _ _ _ h => h) (by rfl) ?_ (by assumption) ?_
          rotate_left
          · intro w hSw; (try dsimp only at hSw); go_simp; try (with_reducible rfl)
          try simp only [Act.put, List.setIfInBounds_toArray, List.set_cons_zero, List.set_cons_succ]
          refine take_runs (i := 35) (v := ?_) (by simp only [List.getElem?_toArray, List.getElem?_cons_succ, List.getElem?_cons_zero]; rfl) (by kernel_rfl) (by kernel_rfl) (by kernel_rfl) rfl (by exact fun _ _ _ h => h) (by rfl) ?_ (by assumption) ?_
          rotate_left
          · intro w hSw; (try dsimp only at hSw); go_simp; try (with_reducible rfl)
          try simp only [Act.put, List.setIfInBounds_toArray, List.set_cons_zero, List.set_cons_succ]
          refine take_runs (i := 36) (v := ?_) (by simp only [List.getElem?_toArray, List.getElem?_cons_succ, List.getElem?_cons_zero]; rfl) (by kernel_rfl) (by kernel_rfl) (by kernel_rfl) rfl (by exact fun _ _ _ h => h) (by rfl) ?_ (by assumption) ?_
          rotate_left
          · intro w hSw; (try dsimp only at hSw); go_simp; try (with_reducible rfl)
          try simp only [Act.put, List.setIfInBounds_toArray, List.set_cons_zero, List.set_cons_succ]
          refine take_runs (i := 37) (v := ?_) (by simp only [List.getElem?_toArray, List.getElem?_cons_succ, List.getElem?_cons_zero]; rfl) (by kernel_rfl) (by kernel_rfl) (by kernel_rfl) rfl (by exact fun _ _ _ h => h) (by rfl) ?_ (by assumption) ?_
          rotate_left
          · intro w hSw; (try dsimp only at hSw); go_simp; try (with_reducible rfl)
          try simp only [Act.put, List.setIfInBounds_toArray, List.set_cons_zero, List.set_cons_succ]
          refine take_runs (i := 39) (v := ?_) (by simp only [List.getElem?_toArray, List.getElem?_cons_succ, List.getElem?_cons_zero]; rfl) (by kernel_rfl) (by kernel_rfl) (by kernel_rfl) rfl (by exact fun _ _ _ h => h) (by rfl) ?_ (by assumption) ?_
          rotate_left
          · intro w hSw; (try dsimp only at hSw); go_simp; try (with_reducible rfl)
          try simp only [Act.put, List.setIfInBounds_toArray, List.set_cons_zero, List.set_cons_succ]
          refine take_runs (i := 40) (v := ?_) (by simp only [List.getElem?_toArray, List.getElem?_cons_succ, List.getElem?_cons_zero]; rfl) (by kernel_rfl) (by kernel_rfl) (by kernel_rfl) rfl (by exact fun _ _ _ h => h) (by rfl) ?_ (by assumption) ?_
          rotate_left
          · intro w hSw; (try dsimp only at hSw); go_simp; try (with_reducible rfl)
          try simp only [Act.put, List.setIfInBounds_toArray, List.set_cons_zero, List.set_cons_succ]
          refine wpAnyH_ready (rs := [38]) (by kernel_rfl) (by simp) ?_
          refine (AllReadyH.cons (o := _) (by simp only [List.getElem?_toArray, List.getElem?_cons_succ, List.getElem?_cons_zero]; rfl) (fun K hK => ?_) AllReadyH.nil)
          go_simp
          refine (HIM.out _ (condsR_below HC8.out e6) (ints_below HO8.out e6) (ints_below HU8.out e6)).mono ?_
          rintro e x7 ⟨rfl, k7⟩
          have e7 : Below W8.heap.size W8 x7 := e6.trans (k7.mono e6.size)
          refine hK.out _ _ (HH.out _ e7) (fun hHeld => ?_)
          clear hK K
          try simp only [Act.put, List.setIfInBounds_toArray, List.set_cons_zero, List.set_cons_succ]
          refine wpAnyH_ready (rs := [41]) (by kernel_rfl) (by simp) ?_
          refine (AllReadyH.cons (o := _) (by simp only [List.getElem?_toArray, List.getElem?_cons_succ, List.getElem?_cons_zero]; rfl) (fun K hK => ?_) AllReadyH.nil)
          go_simp
          refine (HSM.out _ (condsR_below HC8.out e7) (ints_below HO8.out e7) (ints_below HU8.out e7)).mono ?_
          rintro e x8 ⟨rfl, k8⟩
          have e8 : Below W8.heap.size W8 x8 := e7.trans (k8.mono e7.size)
          refine hK.out _ _ (HH.out _ e8) (fun hHeld => ?_)
          clear hK K
          try simp only [Act.put, List.setIfInBounds_toArray, List.set_cons_zero, List.set_cons_succ]
          refine take_runs (i := 42) (v := ?_) (by simp only [List.getElem?_toArray, List.getElem?_cons_succ, List.getElem?_cons_zero]; rfl) (by kernel_rfl) (by kernel_rfl) (by kernel_rfl) rfl (by exact fun _ _ _ h => h) (by rfl) ?_ (by assumption) ?_
          rotate_left
          · intro w hSw; (try dsimp only at hSw); go_simp; try (with_reducible rfl)
          try simp only [Act.put, List.setIfInBounds_toArray, List.set_cons_zero, List.set_cons_succ]
          refine take_runs (i := 43) (v := ?_) (by simp only [List.getElem?_toArray, List.getElem?_cons_succ, List.getElem?_cons_zero]; rfl) (by kernel_rfl) (by kernel_rfl) (by kernel_rfl) rfl (by exact fun _ _ _ h => h) (by rfl) ?_ (by assumption) ?_
          rotate_left
          · intro w hSw; (try dsimp only at hSw); go_simp; try (with_reducible rfl)
          try simp only [Act.put, List.setIfInBounds_toArray, List.set_cons_zero, List.set_cons_succ]
          refine take_runs (i := 44) (v := ?_) (by simp only [List.getElem?_toArray, List.getElem?_cons_succ, List.getElem?_cons_zero]; rfl) (by kernel_rfl) (by kernel_rfl) (by kernel_rfl) rfl (by exact fun _ _ _ h => h) (by rfl) ?_ (by assumption) ?_
          rotate_left
          · intro w hSw; (try dsimp only at hSw); go_simp; try (with_reducible rfl)
          try simp only [Act.put, List.setIfInBounds_toArray, List.set_cons_zero, List.set_cons_succ]
          refine take_runs (i := 45) (v := ?_) (by simp only [List.getElem?_toArray, List.getElem?_cons_succ, List.getElem?_cons_zero]; rfl) (by kernel_rfl) (by kernel_rfl) (by kernel_rfl) rfl (by exact fun _ _ _ h => h) (by rfl) ?_ (by assumption) ?_
          rotate_left
          · intro w hSw; (try dsimp only at hSw); go_simp; try (with_reducible rfl)
          try simp only [Act.put, List.setIfInBounds_toArray, List.set_cons_zero, List.set_cons_succ]
          refine take_runs (i := 46) (v := ?_) (by simp only [List.getElem?_toArray, List.getElem?_cons_succ, List.getElem?_cons_zero]; rfl) (by kernel_rfl) (by kernel_rfl) (by kernel_rfl) rfl (by exact fun _ _ _ h => h) (by rfl) ?_ (by assumption) ?_
          rotate_left
          · intro w hSw; (try dsimp only at hSw); go_simp; try (with_reducible rfl)
          try simp only [Act.put, List.setIfInBounds_toArray, List.set_cons_zero, List.set_cons_succ]
          refine wpAnyH_ready (rs := [47]) (by kernel_rfl) (by simp) ?_
          refine (AllReadyH.cons (o := _) (by simp only [List.getElem?_toArray, List.getElem?_cons_succ, List.getElem?_cons_zero]; rfl) (fun K hK => ?_) AllReadyH.nil)
          go_simp
          refine (implSortRows _ L _ (ownsR_rows (ownsR_below HL8.out e8)) HLS.out).mono ?_
          rintro e x9 ⟨sv, rfl, os9, k9⟩
          have e9 : Below W8.heap.size W8 x9 := e8.trans (k9.mono e8.size)
          rw [HSS.out] at os9
          refine hK.out _ _ (HH.out _ e9) (fun hHeld => ?_)
          clear hK K
          try simp only [Act.put, List.setIfInBounds_toArray, List.set_cons_zero, List.set_cons_succ]
          refine wpAnyH_ready (rs := [48]) (by kernel_rfl) (by simp) ?_
          refine (AllReadyH.cons (o := _) (by simp only [List.getElem?_toArray, List.getElem?_cons_succ, List.getElem?_cons_zero]; rfl) (fun K hK => ?_) AllReadyH.nil)
          go_simp
          refine (implEqualRows _ _ L L _ (ownsR_rows (ownsR_below HL8.out e9)) (ownsR_rows os9) HLS.out HLS.out).mono ?_
          rintro e x10 ⟨rfl, k10⟩
          have e10 : Below W8.heap.size W8 x10 := e9.trans (k10.mono e9.size)
          refine hK.out _ _ (HH.out _ e10) (fun hHeld => ?_)
          clear hK K
          try simp only [Act.put, List.setIfInBounds_toArray, List.set_cons_zero, List.set_cons_succ]
          try rw [decide_eq_true (rfl : L = L)]
          refine take_runs (i := 49) (v := ?_) (by simp only [List.getElem?_toArray, List.getElem?_cons_succ, List.getElem?_cons_zero]; rfl) (by kernel_rfl) (by kernel_rfl) (by kernel_rfl) rfl (by exact fun _ _ _ h => h) (by rfl) ?_ (by assumption) ?_
          rotate_left
          · intro w hSw; (try dsimp only at hSw); go_simp; try (with_reducible rfl)
          try simp only [Act.put, List.setIfInBounds_toArray, List.set_cons_zero, List.set_cons_succ]
          refine take_runs (i := 50) (v := ?_) (by simp only [List.getElem?_toArray, List.getElem?_cons_succ, List.getElem?_cons_zero]; rfl) (by kernel_rfl) (by kernel_rfl) (by kernel_rfl) rfl (by exact fun _ _ _ h => h) (by rfl) ?_ (by assumption) ?_
          rotate_left
          · intro w hSw; (try dsimp only at hSw); go_simp; try (with_reducible rfl)
          try simp only [Act.put, List.setIfInBounds_toArray, List.set_cons_zero, List.set_cons_succ]
          refine wpAnyH_done (by kernel_rfl) ?_ _
          have f9 := HB8.out.trans (e10.mono HB8.out.size)
          clear hHeld os9
          go_wp2
          go_ret
          exact ⟨rfl, f9⟩
  · have HBIG := Lib.hid (bigL p cap xs.length w)
    have hbig : decide ((1048576 : Int) < (xs.length : Int)) = true := decide_eq_true (by omega)
    rw [hbig] at HBIG
    clear hcode hby hl hbig hT hM
    generalize xs.length = n at *
    go_enter Tryz.func3, Tryz.ntmps3
    go_wp2_with fail
    refine HBIG.out.mono ?_
    rintro e w0 ⟨rfl, rfl⟩
    go_wp2
    go_ret
    exact ⟨rfl, Below.refl _ _⟩
end Go.Proofs.YtijfnabglblimaaGreatDoor
