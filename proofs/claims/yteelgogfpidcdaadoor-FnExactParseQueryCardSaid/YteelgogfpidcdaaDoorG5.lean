/-
  Texts of the proof, merged: RowFmt, QueryFmt, QuerySl, QueryParM, ParPart.
-/
import Derived.Test.YteelgogfpidcdaaDoorG4
namespace Go.Proofs.YteelgogfpidcdaaDoor
open Go.RowKit
set_option linter.unusedVariables false
set_option linter.unusedSimpArgs false
/-- The text of the first k numbers. -/
def listTo (xs : List Int) : Nat → List UInt8
  | 0 => []
  | k + 1 => (if k = 0 then [] else listTo xs k ++ [44]) ++ Lib.itoa (xs.getD k 0)
def fmtRow (r : RowD) : List UInt8 := if rowB r then Lib.itoa r.1 ++ [58] ++ listTo r.2 r.2.length else []
theorem row_parts {id : Int} {xs : List Int} (h : rowB (id, xs) = true) : (0 ≤ id ∧ id ≤ 999) ∧ xs.length = 3 ∧ ∀ j, j < xs.length → 0 ≤ xs.getD j 0 ∧ xs.getD j 0 ≤ 99 := by
  unfold rowB at h
  simp only [Bool.and_eq_true, decide_eq_true_eq, List.all_eq_true] at h
  obtain ⟨h1, h2, h3⟩ := h
  refine ⟨h1, h3, fun j hj => ?_⟩
  have e : xs.getD j 0 = xs[j] := by simp [List.getD, hj]
  rw [e]
  exact h2 _ (List.getElem_mem hj)
theorem fmtAny (n : Int) (w : World) (h0 : 0 ≤ n) (h1 : n ≤ 999) : Calls Tryd.prog 44 #[.int .i64 n] w fun e w' => e = .returned (.string (strB (Lib.itoa n))) ∧ Below w.heap.size w w' := specFmt n w (by omega) (by omega)
set_option maxHeartbeats 8000000 in
set_option maxRecDepth 100000 in
theorem l3List_any (v : Value) (xs : List Int) (w : World) (h : Ints w v xs) (hn : xs.length ≤ 1000) (hr : ∀ j, j < xs.length → 0 ≤ xs.getD j 0 ∧ xs.getD j 0 ≤ 999) :
    Calls Tryd.prog 52 #[v] w fun e w' => e = .returned (.string (strB (listTo xs xs.length))) ∧ Below w.heap.size w w' ∧ (listTo xs xs.length).length ≤ 45 * xs.length := by
  have H := Lib.hid h
  have HR := Lib.hid hr
  obtain ⟨a, cap, rfl⟩ := ints_len h
  clear h hr
  go_enter Tryd.func52, Tryd.ntmps52
  go_wp2
  go_loopw [3, 4] (fun s i wr => ∃ k : Nat, k ≤ xs.length ∧ i = .int .i64 k ∧ s = .string (strB (listTo xs k)) ∧ (listTo xs k).length ≤ 45 * k ∧ Below w.heap.size w wr) (fun _ i _ => xs.length - (intOf i).toNat)
  case atStart => exact ⟨0, Nat.zero_le _, rfl, rfl, by simp [listTo], Below.refl _ _⟩
  case round =>
    obtain ⟨k, hk, rfl, rfl, hll, hbel⟩ := hrel
    by_cases hlt : k < xs.length
    · obtain ⟨b, off, cap', hv, hbl, hc⟩ := ints_cell H.out (by omega)
      simp only [Value.slice.injEq] at hv
      obtain ⟨rfl, _, rfl⟩ := hv
      have hcell := (hbel.cell (p := ⟨b, off + k, none⟩) hbl).trans (hc k hlt)
      have i1 : (0 : Int) ≤ (k : Int) := by omega
      have i2 : (k : Int) < (xs.length : Int) := by omega
      have hx := HR.out k hlt
      have hlx := Lib.hid (Lib.itoa_length_le (xs.getD k 0) (by omega) (by omega))
      have HF := Lib.hid (fun w => fmtAny (xs.getD k 0) w hx.1 hx.2)
      have HS : Hid (listTo xs (k + 1) = (if k = 0 then [] else listTo xs k ++ [44]) ++ Lib.itoa (xs.getD k 0)) := Lib.hid rfl
      clear hc hx
      generalize listTo xs k = t at *
      generalize xs.getD k 0 = x at *
      by_cases hz : k = 0
      · have hg : decide ((0 : Int) < (k : Int)) = false := decide_eq_false (by omega)
        have hgn : decide (0 < k) = false := decide_eq_false (by omega)
        have ht : t = [] := List.eq_nil_of_length_eq_zero (by omega)
        have HS2 : Hid (listTo xs (k + 1) = t ++ Lib.itoa x) := Lib.hid (by rw [HS.out, if_pos hz, ht])
        have d1 := strB_add t (Lib.itoa x) (by have := hlx.out; omega)
        have HLEN : Hid ((t ++ Lib.itoa x).length ≤ 45 * (k + 1)) := Lib.hid (by have := hlx.out; simp; omega)
        clear hz ht HS
        go_wp2_with fail
        refine (HF.out _).mono ?_
        rintro e w5 ⟨rfl, hb5⟩
        have hb6 := hbel.trans (hb5.mono hbel.size)
        go_wp2
        go_roundw
        case rel => exact ⟨k + 1, by omega, by go_num, by rw [HS2.out], by rw [HS2.out]; exact HLEN.out, hb6⟩
        case measure => simp [intOf]; omega
      · have hg : decide ((0 : Int) < (k : Int)) = true := decide_eq_true (by omega)
        have hgn : decide (0 < k) = true := decide_eq_true (by omega)
        have HS2 : Hid (listTo xs (k + 1) = (t ++ [44]) ++ Lib.itoa x) := Lib.hid (by rw [HS.out, if_neg hz])
        have d0 := strB_add t [44] (by simp; omega)
        have d1 := strB_add (t ++ [44]) (Lib.itoa x) (by have := hlx.out; simp; omega)
        have HLEN : Hid (((t ++ [44]) ++ Lib.itoa x).length ≤ 45 * (k + 1)) := Lib.hid (by have := hlx.out; simp; omega)
        have e44 : (⟨#[44]⟩ : ByteArray) = strB [44] := rfl
        clear hz HS
        go_wp2_with fail
        refine (HF.out _).mono ?_
        rintro e w5 ⟨rfl, hb5⟩
        have hb6 := hbel.trans (hb5.mono hbel.size)
        go_wp2
        go_roundw
        case rel => exact ⟨k + 1, by omega, by go_num, by rw [HS2.out, List.append_assoc]; rfl, by rw [HS2.out]; exact HLEN.out, hb6⟩
        case measure => simp [intOf]; omega
    · obtain rfl : k = xs.length := by omega
      go_wp2
      go_ret
      exact ⟨rfl, hbel, hll⟩
end Go.Proofs.YteelgogfpidcdaaDoor
namespace Go.Proofs.YteelgogfpidcdaaDoor
open Go.RowKit
set_option linter.unusedVariables false
set_option linter.unusedSimpArgs false
/-- The text of a condition, and of the first k conditions. -/
def condT (t : List UInt8) (c : CondD) : List UInt8 := t ++ [32, 102] ++ Lib.itoa c.1 ++ [32] ++ Lib.itoa c.2.1 ++ [46, 46] ++ Lib.itoa c.2.2
def condsT (t : List UInt8) (cs : List CondD) : Nat → List UInt8
  | 0 => t
  | k + 1 => condT (condsT t cs k) (cs.getD k c0D)
def headT (id tn : Int) : List UInt8 := 113 :: Lib.itoa id ++ [32, 116] ++ Lib.itoa tn
def fmtQ (id tn : Int) (cs : List CondD) (os : List Int) : List UInt8 := if queryB id tn cs os then condsT (headT id tn) cs cs.length ++ [32, 111, 117, 116, 32] ++ listTo os os.length else []
theorem query_parts {id tn : Int} {cs : List CondD} {os : List Int} (h : queryB id tn cs os = true) : (0 ≤ id ∧ id ≤ 23) ∧ (0 ≤ tn ∧ tn ≤ 3) ∧ cs.length ≤ 3 ∧ (∀ k, k < cs.length → 0 ≤ (cs.getD k c0D).1 ∧ (cs.getD k c0D).1 ≤ 2 ∧ 0 ≤ (cs.getD k c0D).2.1 ∧ (cs.getD k c0D).2.1 ≤ 99 ∧ 0 ≤ (cs.getD k c0D).2.2 ∧ (cs.getD k c0D).2.2 ≤ 99) ∧ os.length ≤ 3 ∧ ∀ k, k < os.length → 0 ≤ os.getD k 0 ∧ os.getD k 0 ≤ 2 := by
  unfold queryB at h
  simp only [Bool.and_eq_true, decide_eq_true_eq] at h
  obtain ⟨h1, h2, h3, h4, h5⟩ := h
  refine ⟨h2, h3, h4, fun k hk => ?_, ?_, fun k hk => ?_⟩
  · unfold condsB at h1
    rw [List.all_eq_true] at h1
    have := h1 k (List.mem_range.2 hk)
    rw [Bool.and_eq_true] at this
    have h6 := this.1
    unfold condB at h6
    simp only [Bool.and_eq_true, decide_eq_true_eq] at h6
    omega
  · unfold fieldsB at h5
    simp only [Bool.and_eq_true, decide_eq_true_eq] at h5
    omega
  · unfold fieldsB at h5
    simp only [Bool.and_eq_true, decide_eq_true_eq, List.all_eq_true] at h5
    have e : os.getD k 0 = os[k] := by simp [List.getD, hk]
    rw [e]
    exact h5.1 _ (List.getElem_mem hk)
set_option maxHeartbeats 16000000 in
set_option maxRecDepth 100000 in
theorem specFormatQuery (id tn : Int) (cv ov : Value) (cs : List CondD) (os : List Int) (w : World) (h : CondsR w cv cs) (hn : cs.length ≤ 1048576) (g : Ints w ov os) (hm : os.length ≤ 1048576) :
    Calls Tryd.prog 21 #[qV id tn cv ov] w fun e w' => e = .returned (.string (strB (fmtQ id tn cs os))) ∧ Below w.heap.size w w' := by
  obtain ⟨ca, ccap, rfl⟩ := condsR_len h
  obtain ⟨oa, ocap, rfl⟩ := ints_len g
  have hb0 : Below w.heap.size w (w.alloc (.cells #[.int .i64 id, .int .i64 tn, .slice ca cs.length ccap, .slice oa os.length ocap] 46)) := (Below.refl _ w).alloc (Nat.le_refl _) _
  have HG := Lib.hid (heap_alloc_new w (.cells #[.int .i64 id, .int .i64 tn, .slice ca cs.length ccap, .slice oa os.length ocap] 46))
  have HC := Lib.hid (condsR_below h hb0)
  have HO := Lib.hid (ints_below g hb0)
  have HZ : Hid (w.heap.size < (w.alloc (.cells #[.int .i64 id, .int .i64 tn, .slice ca cs.length ccap, .slice oa os.length ocap] 46)).heap.size) := Lib.hid (by simp)
  have HQ := Lib.hid (fun w h g => specIsQuery id tn (.slice ca cs.length ccap) (.slice oa os.length ocap) cs os w h hn g hm)
  have HB0 := Lib.hid hb0
  clear h g hb0
  cases hq : queryB id tn cs os with
  | false =>
    have HF : Hid (fmtQ id tn cs os = []) := Lib.hid (by unfold fmtQ; rw [hq]; rfl)
    rw [hq] at HQ
    clear hq hn hm
    go_enter Tryd.func21, Tryd.ntmps21
    go_wp2_with fail
    refine (HQ.out _ HC.out HO.out).mono ?_
    rintro e w2 ⟨rfl, b2⟩
    have b3 := HB0.out.trans (b2.mono HB0.out.size)
    go_wp2
    go_ret
    exact ⟨ret_s HF.out.symm, b3⟩
  | true =>
    obtain ⟨hi, ht, hcl, hcr, hol, hor⟩ := query_parts hq
    have HF : Hid (fmtQ id tn cs os = condsT (headT id tn) cs cs.length ++ [32, 111, 117, 116, 32] ++ listTo os os.length) := Lib.hid (by unfold fmtQ; rw [hq]; rfl)
    have HA := Lib.hid (fun w => fmtAny id w hi.1 (by omega))
    have HT := Lib.hid (fun w => fmtAny tn w ht.1 (by omega))
    have HL := Lib.hid (fun w h => l3List_any (.slice oa os.length ocap) os w h (by omega) (fun j hj => ⟨(hor j hj).1, by have := (hor j hj).2; omega⟩))
    have HCR := Lib.hid hcr
    have hla := Lib.hid (Lib.itoa_length_le id (by omega) (by omega))
    have hlt := Lib.hid (Lib.itoa_length_le tn (by omega) (by omega))
    have HCL := Lib.hid hcl
    have HOL := Lib.hid hol
    rw [hq] at HQ
    clear hq hi ht hcr hor hcl hol
    obtain ⟨h1, hh1⟩ : ∃ h1, h1 = [113] ++ Lib.itoa id := ⟨_, rfl⟩
    have h1l : h1.length ≤ 22 := by rw [hh1]; have := hla.out; simp; omega
    have HH : Hid (headT id tn = h1 ++ [32, 116] ++ Lib.itoa tn) := Lib.hid (by rw [hh1]; rfl)
    have hhl : Hid ((headT id tn).length ≤ 45) := Lib.hid (by rw [HH.out]; have := hlt.out; simp; omega)
    have dA : ∀ w, (Op.stringOp .add ⟨#[113]⟩ (strB (Lib.itoa id))).run Tryd.prog w = .ok (.string (strB h1)) w := by rw [hh1]; exact strB_add [113] (Lib.itoa id) (by have := hla.out; simp; omega)
    have dB : ∀ w, (Op.stringOp .add (strB h1) ⟨#[32, 116]⟩).run Tryd.prog w = .ok (.string (strB (h1 ++ [32, 116]))) w := strB_add h1 [32, 116] (by simp; omega)
    have dC := strB_add (h1 ++ [32, 116]) (Lib.itoa tn) (by have := hlt.out; simp; omega)
    clear hh1
    rw [← HH.out] at dC
    go_enter Tryd.func21, Tryd.ntmps21
    go_wp2_with fail
    generalize w.alloc (.cells #[.int .i64 id, .int .i64 tn, .slice ca cs.length ccap, .slice oa os.length ocap] 46) = W at *
    refine (HQ.out _ HC.out HO.out).mono ?_
    rintro e w2 ⟨rfl, b2⟩
    have g2 := Lib.hid ((b2.block w.heap.size HZ.out).trans HG.out)
    have q0 := (cell_of_row w2 _ 0 _ _ _ g2.out).trans (show _ = some (Value.int .i64 id) from rfl)
    have q1 := (cell_of_row w2 _ 1 _ _ _ g2.out).trans (show _ = some (Value.int .i64 tn) from rfl)
    have hz2 := Lib.hid (Nat.lt_of_lt_of_le HZ.out b2.size)
    have B2 := Lib.hid b2
    clear b2
    go_wp2
    refine wp_region_held_drew (S := fun w' => w'.cell? ⟨w.heap.size, 0, none⟩ = some (.int .i64 id) ∧ w'.cell? ⟨w.heap.size, 1, none⟩ = some (.int .i64 tn)) (by kernel_rfl) ⟨q0, q1⟩ (fun hHeld => ?_)
    have e0 := below_drew (Below.refl w2.heap.size w2)
    refine take_runs (i := 0) (v := ?_) (by simp only [List.getElem?_toArray, List.getElem?_cons_succ, List.getElem?_cons_zero]; rfl) (by kernel_rfl) (by kernel_rfl) (by kernel_rfl) rfl (by exact fun _ _ _ h => h) (by rfl) ?_ (by assumption) ?_
    rotate_left
    · intro w hSw; (try dsimp only at hSw); go_simp; try (with_reducible rfl)
    try simp only [Act.put, List.setIfInBounds_toArray, List.set_cons_zero, List.set_cons_succ]
    refine take_runs (i := 1) (v := ?_) (by simp only [List.getElem?_toArray, List.getElem?_cons_succ, List.getElem?_cons_zero]; rfl) (by kernel_rfl) (by kernel_rfl) (by kernel_rfl) rfl (by exact fun _ _ _ h => h) (by rfl) ?_ (by assumption) ?_
    rotate_left
    · intro w hSw; (try dsimp only at hSw); go_simp; try (with_reducible rfl)
    try simp only [Act.put, List.setIfInBounds_toArray, List.set_cons_zero, List.set_cons_succ]
    refine take_runs (i := 5) (v := ?_) (by simp only [List.getElem?_toArray, List.getElem?_cons_succ, List.getElem?_cons_zero]; rfl) (by kernel_rfl) (by kernel_rfl) (by kernel_rfl) rfl (by exact fun _ _ _ h => h) (by rfl) ?_ (by assumption) ?_
    rotate_left
    · intro w hSw; (try dsimp only at hSw); go_simp; try (with_reducible rfl)
    try simp only [Act.put, List.setIfInBounds_toArray, List.set_cons_zero, List.set_cons_succ]
    refine take_runs (i := 6) (v := ?_) (by simp only [List.getElem?_toArray, List.getElem?_cons_succ, List.getElem?_cons_zero]; rfl) (by kernel_rfl) (by kernel_rfl) (by kernel_rfl) rfl (by exact fun _ _ _ h => h) (by rfl) ?_ (by assumption) ?_
    rotate_left
    · intro w hSw; (try dsimp only at hSw); go_simp; try (with_reducible rfl)
    try simp only [Act.put, List.setIfInBounds_toArray, List.set_cons_zero, List.set_cons_succ]
    refine wpAnyH_ready (rs := [2]) (by kernel_rfl) (by simp) ?_
    refine AllReadyH.cons (o := _) (by simp only [List.getElem?_toArray, List.getElem?_cons_succ, List.getElem?_cons_zero]; rfl) (fun K hK => ?_) AllReadyH.nil
    go_simp
    refine (HA.out _).mono ?_
    rintro e x1 ⟨rfl, c1⟩
    have e1 := e0.trans (c1.mono e0.size)
    refine hK.out _ _ ⟨(e1.cell (p := ⟨w.heap.size, 0, none⟩) hz2.out).trans q0, (e1.cell (p := ⟨w.heap.size, 1, none⟩) hz2.out).trans q1⟩ (fun hHeld => ?_)
    clear hK K
    try simp only [Act.put, List.setIfInBounds_toArray, List.set_cons_zero, List.set_cons_succ]
    refine take_runs (i := 3) (v := ?_) (by simp only [List.getElem?_toArray, List.getElem?_cons_succ, List.getElem?_cons_zero]; rfl) (by kernel_rfl) (by kernel_rfl) (by kernel_rfl) rfl (by exact fun _ _ _ h => h) (by rfl) ?_ (by assumption) ?_
    rotate_left
    · intro w hSw; (try dsimp only at hSw); go_simp; try (with_reducible rfl)
    try simp only [Act.put, List.setIfInBounds_toArray, List.set_cons_zero, List.set_cons_succ]
    refine take_runs (i := 4) (v := ?_) (by simp only [List.getElem?_toArray, List.getElem?_cons_succ, List.getElem?_cons_zero]; rfl) (by kernel_rfl) (by kernel_rfl) (by kernel_rfl) rfl (by exact fun _ _ _ h => h) (by rfl) ?_ (by assumption) ?_
    rotate_left
    · intro w hSw; (try dsimp only at hSw); go_simp; try (with_reducible rfl)
    try simp only [Act.put, List.setIfInBounds_toArray, List.set_cons_zero, List.set_cons_succ]
    refine wpAnyH_ready (rs := [7]) (by kernel_rfl) (by simp) ?_
    refine AllReadyH.cons (o := _) (by simp only [List.getElem?_toArray, List.getElem?_cons_succ, List.getElem?_cons_zero]; rfl) (fun K hK => ?_) AllReadyH.nil
    go_simp
    refine (HT.out _).mono ?_
    rintro e x2 ⟨rfl, c2⟩
    have e2 := e1.trans (c2.mono e1.size)
    refine hK.out _ _ ⟨(e2.cell (p := ⟨w.heap.size, 0, none⟩) hz2.out).trans q0, (e2.cell (p := ⟨w.heap.size, 1, none⟩) hz2.out).trans q1⟩ (fun hHeld => ?_)
    clear hK K
    try simp only [Act.put, List.setIfInBounds_toArray, List.set_cons_zero, List.set_cons_succ]
    refine take_runs (i := 8) (v := ?_) (by simp only [List.getElem?_toArray, List.getElem?_cons_succ, List.getElem?_cons_zero]; rfl) (by kernel_rfl) (by kernel_rfl) (by kernel_rfl) rfl (by exact fun _ _ _ h => h) (by rfl) ?_ (by assumption) ?_
    rotate_left
    · intro w hSw; (try dsimp only at hSw); go_simp; try (with_reducible rfl)
    try simp only [Act.put, List.setIfInBounds_toArray, List.set_cons_zero, List.set_cons_succ]
    refine take_runs (i := 9) (v := ?_) (by simp only [List.getElem?_toArray, List.getElem?_cons_succ, List.getElem?_cons_zero]; rfl) (by kernel_rfl) (by kernel_rfl) (by kernel_rfl) rfl (by exact fun _ _ _ h => h) (by rfl) ?_ (by assumption) ?_
    rotate_left
    · intro w hSw; (try dsimp only at hSw); go_simp; try (with_reducible rfl)
    try simp only [Act.put, List.setIfInBounds_toArray, List.set_cons_zero, List.set_cons_succ]
    refine wpAnyH_done (by kernel_rfl) ?_ _
    have b3 := B2.out.trans (e2.mono B2.out.size)
    clear hHeld e0 e1 e2 c1 c2 q0 q1 dA dB dC g2 hz2 B2
    go_wp2
    go_loopw [3, 4] (fun s i wr => ∃ (k : Nat) (t : List UInt8), k ≤ cs.length ∧ i = .int .i64 k ∧ s = .string (strB t) ∧ Hid (t = condsT (headT id tn) cs k) ∧ t.length ≤ 45 + 80 * k ∧ Below W.heap.size W wr) (fun _ i _ => cs.length - (intOf i).toNat)
    case atStart => exact ⟨0, _, Nat.zero_le _, rfl, rfl, Lib.hid rfl, by have := hhl.out; omega, b3⟩
    case round =>
      obtain ⟨k, t, hk, rfl, rfl, hT, hll, hbel⟩ := hrel
      have hz := Lib.hid (Nat.lt_of_lt_of_le HZ.out hbel.size)
      have gq := Lib.hid ((hbel.block w.heap.size HZ.out).trans HG.out)
      have q2 := (cell_of_row wr _ 2 _ _ _ gq.out).trans (show _ = some (Value.slice ca cs.length ccap) from rfl)
      have q3 := (cell_of_row wr _ 3 _ _ _ gq.out).trans (show _ = some (Value.slice oa os.length ocap) from rfl)
      have hkl : k ≤ 3 := Nat.le_trans hk HCL.out
      by_cases hlt : k < cs.length
      · obtain ⟨b, off, cap', hv, hbl, hc1, hc2, hc3⟩ := condsR_at (condsR_below HC.out hbel) hlt
        simp only [Value.slice.injEq] at hv
        obtain ⟨rfl, _, rfl⟩ := hv
        have hcr := HCR.out k hlt
        have hst : Hid (condsT (headT id tn) cs (k + 1) = condT t (cs.getD k c0D)) := Lib.hid (by rw [hT.out]; rfl)
        have i1 : (0 : Int) ≤ (k : Int) := by omega
        have i2 : (k : Int) < (cs.length : Int) := by omega
        change wr.cell? _ = some (.int .i64 (cs.getD k c0D).1) at hc1
        change wr.cell? _ = some (.int .i64 (cs.getD k c0D).2.1) at hc2
        change wr.cell? _ = some (.int .i64 (cs.getD k c0D).2.2) at hc3
        generalize cs.getD k c0D = c at *
        obtain ⟨f, lo, hi⟩ := c
        simp only at hc1 hc2 hc3 hcr
        have H1 := Lib.hid (fun w => fmtAny f w hcr.1 (by omega))
        have H2 := Lib.hid (fun w => fmtAny lo w hcr.2.2.1 (by omega))
        have H3 := Lib.hid (fun w => fmtAny hi w hcr.2.2.2.2.1 (by omega))
        have l1 := Lib.hid (Lib.itoa_length_le f (by omega) (by omega))
        have l2 := Lib.hid (Lib.itoa_length_le lo (by omega) (by omega))
        have l3 := Lib.hid (Lib.itoa_length_le hi (by omega) (by omega))
        clear hcr hT
        have hbh := Lib.hid hbl
        have hll2 : t.length ≤ 285 := by omega
        obtain ⟨t1, ht1⟩ : ∃ t1, t1 = t ++ [32, 102] := ⟨_, rfl⟩
        have hl1 : t1.length ≤ 287 := by rw [ht1, List.length_append]; have := hll2; simp only [List.length_cons, List.length_nil]; omega
        have d1 : ∀ w, (Op.stringOp .add (strB t) ⟨#[32, 102]⟩).run Tryd.prog w = .ok (.string (strB t1)) w := by rw [ht1]; exact strB_add t ([32, 102]) (by have := hll2; simp only [List.length_cons, List.length_nil]; omega)
        obtain ⟨t2, ht2⟩ : ∃ t2, t2 = t1 ++ Lib.itoa f := ⟨_, rfl⟩
        have hl2 : t2.length ≤ 308 := by rw [ht2, List.length_append]; have := hl1; have := l1.out; omega
        have d2 : ∀ w, (Op.stringOp .add (strB t1) (strB (Lib.itoa f))).run Tryd.prog w = .ok (.string (strB t2)) w := by rw [ht2]; exact strB_add t1 (Lib.itoa f) (by have := hl1; have := l1.out; omega)
        obtain ⟨t3, ht3⟩ : ∃ t3, t3 = t2 ++ [32] := ⟨_, rfl⟩
        have hl3 : t3.length ≤ 309 := by rw [ht3, List.length_append]; have := hl2; simp only [List.length_cons, List.length_nil]; omega
        have d3 : ∀ w, (Op.stringOp .add (strB t2) ⟨#[32]⟩).run Tryd.prog w = .ok (.string (strB t3)) w := by rw [ht3]; exact strB_add t2 ([32]) (by have := hl2; simp only [List.length_cons, List.length_nil]; omega)
        obtain ⟨t4, ht4⟩ : ∃ t4, t4 = t3 ++ Lib.itoa lo := ⟨_, rfl⟩
        have hl4 : t4.length ≤ 330 := by rw [ht4, List.length_append]; have := hl3; have := l2.out; omega
        have d4 : ∀ w, (Op.stringOp .add (strB t3) (strB (Lib.itoa lo))).run Tryd.prog w = .ok (.string (strB t4)) w := by rw [ht4]; exact strB_add t3 (Lib.itoa lo) (by have := hl3; have := l2.out; omega)
        obtain ⟨t5, ht5⟩ : ∃ t5, t5 = t4 ++ [46, 46] := ⟨_, rfl⟩
        have hl5 : t5.length ≤ 332 := by rw [ht5, List.length_append]; have := hl4; simp only [List.length_cons, List.length_nil]; omega
        have d5 : ∀ w, (Op.stringOp .add (strB t4) ⟨#[46, 46]⟩).run Tryd.prog w = .ok (.string (strB t5)) w := by rw [ht5]; exact strB_add t4 ([46, 46]) (by have := hl4; simp only [List.length_cons, List.length_nil]; omega)
        obtain ⟨t6, ht6⟩ : ∃ t6, t6 = t5 ++ Lib.itoa hi := ⟨_, rfl⟩
        have hl6 : t6.length ≤ 353 := by rw [ht6, List.length_append]; have := hl5; have := l3.out; omega
        have d6 : ∀ w, (Op.stringOp .add (strB t5) (strB (Lib.itoa hi))).run Tryd.prog w = .ok (.string (strB t6)) w := by rw [ht6]; exact strB_add t5 (Lib.itoa hi) (by have := hl5; have := l3.out; omega)
        have HEQ : Hid (condT t (f, lo, hi) = t6) := Lib.hid (by rw [ht6, ht5, ht4, ht3, ht2, ht1]; rfl)
        have HLEN : Hid (t6.length ≤ 45 + 80 * (k + 1)) := Lib.hid (by rw [ht6, ht5, ht4, ht3, ht2, ht1]; have := l1.out; have := l2.out; have := l3.out; simp only [List.length_append, List.length_cons, List.length_nil]; omega)
        clear ht1 ht2 ht3 ht4 ht5 ht6 hl1 hl2 hl3 hl4 hl5 hl6 hll2
        go_wp2
        refine wp_region_held_drew (S := fun w' => w'.cell? ⟨w.heap.size, 2, none⟩ = some (.slice (some ⟨b, off, none⟩) cs.length ccap) ∧ w'.cell? ⟨b, off + k * 3, none⟩ = some (.int .i64 f) ∧ w'.cell? ⟨b, off + k * 3 + 1, none⟩ = some (.int .i64 lo) ∧ w'.cell? ⟨b, off + k * 3 + 2, none⟩ = some (.int .i64 hi)) (by kernel_rfl) ⟨q2, hc1, hc2, hc3⟩ (fun hHeld => ?_)
        have e0 := below_drew (Below.refl wr.heap.size wr)
        refine take_runs (i := 0) (v := ?_) (by simp only [List.getElem?_toArray, List.getElem?_cons_succ, List.getElem?_cons_zero]; rfl) (by kernel_rfl) (by kernel_rfl) (by kernel_rfl) rfl (by exact fun _ _ _ h => h) (by rfl) ?_ (by assumption) ?_
        rotate_left
        · intro w hSw; (try dsimp only at hSw); go_simp; try (with_reducible rfl)
        try simp only [Act.put, List.setIfInBounds_toArray, List.set_cons_zero, List.set_cons_succ]
        refine take_runs (i := 1) (v := ?_) (by simp only [List.getElem?_toArray, List.getElem?_cons_succ, List.getElem?_cons_zero]; rfl) (by kernel_rfl) (by kernel_rfl) (by kernel_rfl) rfl (by exact fun _ _ _ h => h) (by rfl) ?_ (by assumption) ?_
        rotate_left
        · intro w hSw; (try dsimp only at hSw); go_simp; try (with_reducible rfl)
        try simp only [Act.put, List.setIfInBounds_toArray, List.set_cons_zero, List.set_cons_succ]
        refine take_runs (i := 2) (v := ?_) (by simp only [List.getElem?_toArray, List.getElem?_cons_succ, List.getElem?_cons_zero]; rfl) (by kernel_rfl) (by kernel_rfl) (by kernel_rfl) rfl (by exact fun _ _ _ h => h) (by rfl) ?_ (by assumption) ?_
        rotate_left
        · intro w hSw; (try dsimp only at hSw); go_simp; try (with_reducible rfl)
        try simp only [Act.put, List.setIfInBounds_toArray, List.set_cons_zero, List.set_cons_succ]
        refine take_runs (i := 3) (v := ?_) (by simp only [List.getElem?_toArray, List.getElem?_cons_succ, List.getElem?_cons_zero]; rfl) (by kernel_rfl) (by kernel_rfl) (by kernel_rfl) rfl (by exact fun _ _ _ h => h) (by rfl) ?_ (by assumption) ?_
        rotate_left
        · intro w hSw; (try dsimp only at hSw); go_simp; try (with_reducible rfl)
        try simp only [Act.put, List.setIfInBounds_toArray, List.set_cons_zero, List.set_cons_succ]
        refine take_runs (i := 4) (v := ?_) (by simp only [List.getElem?_toArray, List.getElem?_cons_succ, List.getElem?_cons_zero]; rfl) (by kernel_rfl) (by kernel_rfl) (by kernel_rfl) rfl (by exact fun _ _ _ h => h) (by rfl) ?_ (by assumption) ?_
        rotate_left
        · intro w hSw; (try dsimp only at hSw); go_simp; try (with_reducible rfl)
        try simp only [Act.put, List.setIfInBounds_toArray, List.set_cons_zero, List.set_cons_succ]
        refine take_runs (i := 5) (v := ?_) (by simp only [List.getElem?_toArray, List.getElem?_cons_succ, List.getElem?_cons_zero]; rfl) (by kernel_rfl) (by kernel_rfl) (by kernel_rfl) rfl (by exact fun _ _ _ h => h) (by rfl) ?_ (by assumption) ?_
        rotate_left
        · intro w hSw; (try dsimp only at hSw); go_simp; try (with_reducible rfl)
        try simp only [Act.put, List.setIfInBounds_toArray, List.set_cons_zero, List.set_cons_succ]
        refine take_runs (i := 6) (v := ?_) (by simp only [List.getElem?_toArray, List.getElem?_cons_succ, List.getElem?_cons_zero]; rfl) (by kernel_rfl) (by kernel_rfl) (by kernel_rfl) rfl (by exact fun _ _ _ h => h) (by rfl) ?_ (by assumption) ?_
        rotate_left
        · intro w hSw; (try dsimp only at hSw); go_simp; try (with_reducible rfl)
        try simp only [Act.put, List.setIfInBounds_toArray, List.set_cons_zero, List.set_cons_succ]
        refine take_runs (i := 7) (v := ?_) (by simp only [List.getElem?_toArray, List.getElem?_cons_succ, List.getElem?_cons_zero]; rfl) (by kernel_rfl) (by kernel_rfl) (by kernel_rfl) rfl (by exact fun _ _ _ h => h) (by rfl) ?_ (by assumption) ?_
        rotate_left
        · intro w hSw; (try dsimp only at hSw); go_simp; try (with_reducible rfl)
        try simp only [Act.put, List.setIfInBounds_toArray, List.set_cons_zero, List.set_cons_succ]
        refine take_runs (i := 11) (v := ?_) (by simp only [List.getElem?_toArray, List.getElem?_cons_succ, List.getElem?_cons_zero]; rfl) (by kernel_rfl) (by kernel_rfl) (by kernel_rfl) rfl (by exact fun _ _ _ h => h) (by rfl) ?_ (by assumption) ?_
        rotate_left
        · intro w hSw; (try dsimp only at hSw); go_simp; try (with_reducible rfl)
        try simp only [Act.put, List.setIfInBounds_toArray, List.set_cons_zero, List.set_cons_succ]
        refine take_runs (i := 12) (v := ?_) (by simp only [List.getElem?_toArray, List.getElem?_cons_succ, List.getElem?_cons_zero]; rfl) (by kernel_rfl) (by kernel_rfl) (by kernel_rfl) rfl (by exact fun _ _ _ h => h) (by rfl) ?_ (by assumption) ?_
        rotate_left
        · intro w hSw; (try dsimp only at hSw); go_simp; try (with_reducible rfl)
        try simp only [Act.put, List.setIfInBounds_toArray, List.set_cons_zero, List.set_cons_succ]
        refine take_runs (i := 13) (v := ?_) (by simp only [List.getElem?_toArray, List.getElem?_cons_succ, List.getElem?_cons_zero]; rfl) (by kernel_rfl) (by kernel_rfl) (by kernel_rfl) rfl (by exact fun _ _ _ h => h) (by rfl) ?_ (by assumption) ?_
        rotate_left
        · intro w hSw; (try dsimp only at hSw); go_simp; try (with_reducible rfl)
        try simp only [Act.put, List.setIfInBounds_toArray, List.set_cons_zero, List.set_cons_succ]
        refine take_runs (i := 14) (v := ?_) (by simp only [List.getElem?_toArray, List.getElem?_cons_succ, List.getElem?_cons_zero]; rfl) (by kernel_rfl) (by kernel_rfl) (by kernel_rfl) rfl (by exact fun _ _ _ h => h) (by rfl) ?_ (by assumption) ?_
        rotate_left
        · intro w hSw; (try dsimp only at hSw); go_simp; try (with_reducible rfl)
        try simp only [Act.put, List.setIfInBounds_toArray, List.set_cons_zero, List.set_cons_succ]
        refine take_runs (i := 15) (v := ?_) (by simp only [List.getElem?_toArray, List.getElem?_cons_succ, List.getElem?_cons_zero]; rfl) (by kernel_rfl) (by kernel_rfl) (by kernel_rfl) rfl (by exact fun _ _ _ h => h) (by rfl) ?_ (by assumption) ?_
        rotate_left
        · intro w hSw; (try dsimp only at hSw); go_simp; try (with_reducible rfl)
        try simp only [Act.put, List.setIfInBounds_toArray, List.set_cons_zero, List.set_cons_succ]
        refine take_runs (i := 16) (v := ?_) (by simp only [List.getElem?_toArray, List.getElem?_cons_succ, List.getElem?_cons_zero]; rfl) (by kernel_rfl) (by kernel_rfl) (by kernel_rfl) rfl (by exact fun _ _ _ h => h) (by rfl) ?_ (by assumption) ?_
        rotate_left
        · intro w hSw; (try dsimp only at hSw); go_simp; try (with_reducible rfl)
        try simp only [Act.put, List.setIfInBounds_toArray, List.set_cons_zero, List.set_cons_succ]
        refine take_runs (i := 20) (v := ?_) (by simp only [List.getElem?_toArray, List.getElem?_cons_succ, List.getElem?_cons_zero]; rfl) (by kernel_rfl) (by kernel_rfl) (by kernel_rfl) rfl (by exact fun _ _ _ h => h) (by rfl) ?_ (by assumption) ?_
        rotate_left
        · intro w hSw; (try dsimp only at hSw); go_simp; try (with_reducible rfl)
        try simp only [Act.put, List.setIfInBounds_toArray, List.set_cons_zero, List.set_cons_succ]
        refine take_runs (i := 21) (v := ?_) (by simp only [List.getElem?_toArray, List.getElem?_cons_succ, List.getElem?_cons_zero]; rfl) (by kernel_rfl) (by kernel_rfl) (by kernel_rfl) rfl (by exact fun _ _ _ h => h) (by rfl) ?_ (by assumption) ?_
        rotate_left
        · intro w hSw; (try dsimp only at hSw); go_simp; try (with_reducible rfl)
        try simp only [Act.put, List.setIfInBounds_toArray, List.set_cons_zero, List.set_cons_succ]
        refine take_runs (i := 22) (v := ?_) (by simp only [List.getElem?_toArray, List.getElem?_cons_succ, List.getElem?_cons_zero]; rfl) (by kernel_rfl) (by kernel_rfl) (by kernel_rfl) rfl (by exact fun _ _ _ h => h) (by rfl) ?_ (by assumption) ?_
        rotate_left
        · intro w hSw; (try dsimp only at hSw); go_simp; try (with_reducible rfl)
        try simp only [Act.put, List.setIfInBounds_toArray, List.set_cons_zero, List.set_cons_succ]
        refine take_runs (i := 23) (v := ?_) (by simp only [List.getElem?_toArray, List.getElem?_cons_succ, List.getElem?_cons_zero]; rfl) (by kernel_rfl) (by kernel_rfl) (by kernel_rfl) rfl (by exact fun _ _ _ h => h) (by rfl) ?_ (by assumption) ?_
        rotate_left
        · intro w hSw; (try dsimp only at hSw); go_simp; try (with_reducible rfl)
        try simp only [Act.put, List.setIfInBounds_toArray, List.set_cons_zero, List.set_cons_succ]
        refine take_runs (i := 24) (v := ?_) (by simp only [List.getElem?_toArray, List.getElem?_cons_succ, List.getElem?_cons_zero]; rfl) (by kernel_rfl) (by kernel_rfl) (by kernel_rfl) rfl (by exact fun _ _ _ h => h) (by rfl) ?_ (by assumption) ?_
        rotate_left
        · intro w hSw; (try dsimp only at hSw); go_simp; try (with_reducible rfl)
        try simp only [Act.put, List.setIfInBounds_toArray, List.set_cons_zero, List.set_cons_succ]
        refine take_runs (i := 25) (v := ?_) (by simp only [List.getElem?_toArray, List.getElem?_cons_succ, List.getElem?_cons_zero]; rfl) (by kernel_rfl) (by kernel_rfl) (by kernel_rfl) rfl (by exact fun _ _ _ h => h) (by rfl) ?_ (by assumption) ?_
        rotate_left
        · intro w hSw; (try dsimp only at hSw); go_simp; try (with_reducible rfl)
        try simp only [Act.put, List.setIfInBounds_toArray, List.set_cons_zero, List.set_cons_succ]
        refine wpAnyH_ready (rs := [8]) (by kernel_rfl) (by simp) ?_
        refine AllReadyH.cons (o := _) (by simp only [List.getElem?_toArray, List.getElem?_cons_succ, List.getElem?_cons_zero]; rfl) (fun K hK => ?_) AllReadyH.nil
        go_simp
        refine (H1.out _).mono ?_
        rintro e x1 ⟨rfl, c1⟩
        have e1 := e0.trans (c1.mono e0.size)
        refine hK.out _ _ ⟨(e1.cell (p := ⟨w.heap.size, 2, none⟩) hz.out).trans q2, (e1.cell (p := ⟨b, off + k * 3, none⟩) hbh.out).trans hc1, (e1.cell (p := ⟨b, off + k * 3 + 1, none⟩) hbh.out).trans hc2, (e1.cell (p := ⟨b, off + k * 3 + 2, none⟩) hbh.out).trans hc3⟩ (fun hHeld => ?_)
        clear hK K
        try simp only [Act.put, List.setIfInBounds_toArray, List.set_cons_zero, List.set_cons_succ]
        refine take_runs (i := 9) (v := ?_) (by simp only [List.getElem?_toArray, List.getElem?_cons_succ, List.getElem?_cons_zero]; rfl) (by kernel_rfl) (by kernel_rfl) (by kernel_rfl) rfl (by exact fun _ _ _ h => h) (by rfl) ?_ (by assumption) ?_
        rotate_left
        · intro w hSw; (try dsimp only at hSw); go_simp; try (with_reducible rfl)
        try simp only [Act.put, List.setIfInBounds_toArray, List.set_cons_zero, List.set_cons_succ]
        refine take_runs (i := 10) (v := ?_) (by simp only [List.getElem?_toArray, List.getElem?_cons_succ, List.getElem?_cons_zero]; rfl) (by kernel_rfl) (by kernel_rfl) (by kernel_rfl) rfl (by exact fun _ _ _ h => h) (by rfl) ?_ (by assumption) ?_
        rotate_left
        · intro w hSw; (try dsimp only at hSw); go_simp; try (with_reducible rfl)
        try simp only [Act.put, List.setIfInBounds_toArray, List.set_cons_zero, List.set_cons_succ]
        refine wpAnyH_ready (rs := [17]) (by kernel_rfl) (by simp) ?_
        refine AllReadyH.cons (o := _) (by simp only [List.getElem?_toArray, List.getElem?_cons_succ, List.getElem?_cons_zero]; rfl) (fun K hK => ?_) AllReadyH.nil
        go_simp
        refine (H2.out _).mono ?_
        rintro e x2 ⟨rfl, c2⟩
        have e2 := e1.trans (c2.mono e1.size)
        refine hK.out _ _ ⟨(e2.cell (p := ⟨w.heap.size, 2, none⟩) hz.out).trans q2, (e2.cell (p := ⟨b, off + k * 3, none⟩) hbh.out).trans hc1, (e2.cell (p := ⟨b, off + k * 3 + 1, none⟩) hbh.out).trans hc2, (e2.cell (p := ⟨b, off + k * 3 + 2, none⟩) hbh.out).trans hc3⟩ (fun hHeld => ?_)
        clear hK K
        try simp only [Act.put, List.setIfInBounds_toArray, List.set_cons_zero, List.set_cons_succ]
        refine take_runs (i := 18) (v := ?_) (by simp only [List.getElem?_toArray, List.getElem?_cons_succ, List.getElem?_cons_zero]; rfl) (by kernel_rfl) (by kernel_rfl) (by kernel_rfl) rfl (by exact fun _ _ _ h => h) (by rfl) ?_ (by assumption) ?_
        rotate_left
        · intro w hSw; (try dsimp only at hSw); go_simp; try (with_reducible rfl)
        try simp only [Act.put, List.setIfInBounds_toArray, List.set_cons_zero, List.set_cons_succ]
        refine take_runs (i := 19) (v := ?_) (by simp only [List.getElem?_toArray, List.getElem?_cons_succ, List.getElem?_cons_zero]; rfl) (by kernel_rfl) (by kernel_rfl) (by kernel_rfl) rfl (by exact fun _ _ _ h => h) (by rfl) ?_ (by assumption) ?_
        rotate_left
        · intro w hSw; (try dsimp only at hSw); go_simp; try (with_reducible rfl)
        try simp only [Act.put, List.setIfInBounds_toArray, List.set_cons_zero, List.set_cons_succ]
        refine wpAnyH_ready (rs := [26]) (by kernel_rfl) (by simp) ?_
        refine AllReadyH.cons (o := _) (by simp only [List.getElem?_toArray, List.getElem?_cons_succ, List.getElem?_cons_zero]; rfl) (fun K hK => ?_) AllReadyH.nil
        go_simp
        refine (H3.out _).mono ?_
        rintro e x3 ⟨rfl, c3⟩
        have e3 := e2.trans (c3.mono e2.size)
        refine hK.out _ _ ⟨(e3.cell (p := ⟨w.heap.size, 2, none⟩) hz.out).trans q2, (e3.cell (p := ⟨b, off + k * 3, none⟩) hbh.out).trans hc1, (e3.cell (p := ⟨b, off + k * 3 + 1, none⟩) hbh.out).trans hc2, (e3.cell (p := ⟨b, off + k * 3 + 2, none⟩) hbh.out).trans hc3⟩ (fun hHeld => ?_)
        clear hK K
        try simp only [Act.put, List.setIfInBounds_toArray, List.set_cons_zero, List.set_cons_succ]
        refine take_runs (i := 27) (v := ?_) (by simp only [List.getElem?_toArray, List.getElem?_cons_succ, List.getElem?_cons_zero]; rfl) (by kernel_rfl) (by kernel_rfl) (by kernel_rfl) rfl (by exact fun _ _ _ h => h) (by rfl) ?_ (by assumption) ?_
        rotate_left
        · intro w hSw; (try dsimp only at hSw); go_simp; try (with_reducible rfl)
        try simp only [Act.put, List.setIfInBounds_toArray, List.set_cons_zero, List.set_cons_succ]
        refine take_runs (i := 28) (v := ?_) (by simp only [List.getElem?_toArray, List.getElem?_cons_succ, List.getElem?_cons_zero]; rfl) (by kernel_rfl) (by kernel_rfl) (by kernel_rfl) rfl (by exact fun _ _ _ h => h) (by rfl) ?_ (by assumption) ?_
        rotate_left
        · intro w hSw; (try dsimp only at hSw); go_simp; try (with_reducible rfl)
        try simp only [Act.put, List.setIfInBounds_toArray, List.set_cons_zero, List.set_cons_succ]
        refine wpAnyH_done (by kernel_rfl) ?_ _
        have b9 := hbel.trans (e3.mono hbel.size)
        clear hHeld e0 e1 e2 e3 c1 c2 c3 d1 d2 d3 d4 d5 d6 hc1 hc2 hc3 q2 q3
        go_wp2
        go_roundw
        case rel => exact ⟨k + 1, _, by omega, by go_num, rfl, Lib.hid (by rw [hst.out, HEQ.out]), HLEN.out, b9⟩
        case measure => simp [intOf]; omega
      · obtain rfl : k = cs.length := by omega
        have hO := Lib.hid (ints_below HO.out hbel)
        obtain ⟨t7, ht7⟩ : ∃ t7, t7 = t ++ [32, 111, 117, 116, 32] := ⟨_, rfl⟩
        have d7 : ∀ w, (Op.stringOp .add (strB t) ⟨#[32, 111, 117, 116, 32]⟩).run Tryd.prog w = .ok (.string (strB t7)) w := by rw [ht7]; exact strB_add t [32, 111, 117, 116, 32] (by simp only [List.length_cons, List.length_nil]; omega)
        have h7 : t7.length ≤ 300 := by rw [ht7, List.length_append]; simp only [List.length_cons, List.length_nil]; omega
        have HFF : Hid (fmtQ id tn cs os = t7 ++ listTo os os.length) := Lib.hid (by rw [HF.out, ht7, hT.out])
        clear ht7
        go_wp2_with fail
        refine (HL.out _ hO.out).mono ?_
        rintro e x1 ⟨rfl, c1, hl⟩
        have d8 := strB_add t7 (listTo os os.length) (by have := HOL.out; omega)
        have b9 := hbel.trans (c1.mono hbel.size)
        clear d7
        go_wp2
        go_ret
        exact ⟨ret_s HFF.out.symm, HB0.out.trans (b9.mono HB0.out.size)⟩
set_option maxHeartbeats 8000000 in
set_option maxRecDepth 100000 in
theorem law_fnExactFormatQuery (id tn : Int) (cv ov : Value) (cs : List CondD) (os : List Int) (w : World) (h : CondsR w cv cs) (g : Ints w ov os) (hn : (cs.length : Int) ≤ 9223372036854775807) (hm : (os.length : Int) ≤ 9223372036854775807) (htab : Tab w)
    (himpl : ∀ (cv ov : Value) (w : World), CondsR w cv cs → cs.length ≤ 1048576 → Ints w ov os → os.length ≤ 1048576 → Tab w → Calls Tryd.prog 23 #[qV id tn cv ov] w fun e w' => e = .returned (.string (strB (fmtQ id tn cs os))) ∧ Below w.heap.size w w') :
    Calls Tryd.prog 4 #[qV id tn cv ov] w fun e w' => e = .returned (.bool true) ∧ Below w.heap.size w w' := by
  obtain ⟨ca, ccap, rfl⟩ := condsR_len h
  obtain ⟨oa, ocap, rfl⟩ := ints_len g
  by_cases hl : (cs.length : Int) + (os.length : Int) ≤ 1048576
  · have HN : Hid (cs.length ≤ 1048576) := Lib.hid (by omega)
    have HM : Hid (os.length ≤ 1048576) := Lib.hid (by omega)
    have HS := Lib.hid (fun cv ov w h g => specFormatQuery id tn cv ov cs os w h HN.out g HM.out)
    have HI := Lib.hid (fun cv ov w h g ht => himpl cv ov w h HN.out g HM.out ht)
    have HTB := Lib.hid htab
    have HZ := Lib.hid (fun w => szQuery_yes id tn ca oa ccap ocap cs.length os.length 1048576 w hl (by omega))
    have HT := Lib.hid (fun cv ov w h g => toQuery_any id tn cv ov cs os w h HN.out g HM.out)
    have HE := Lib.hid (fun cv cu ov ou w h h' g g' => eqQuery_same id tn cv cu ov ou cs os w h h' g g' HN.out HM.out)
    have hneg : ¬ 1048576 - (cs.length : Int) - (os.length : Int) < 0 := by omega
    have hb0 : Below w.heap.size w (w.alloc (.cells #[.int .i64 id, .int .i64 tn, .slice ca cs.length ccap, .slice oa os.length ocap] 41)) := (Below.refl _ w).alloc (Nat.le_refl _) _
    have q := Lib.hid (heap_alloc_new w (.cells #[.int .i64 id, .int .i64 tn, .slice ca cs.length ccap, .slice oa os.length ocap] 41))
    have hc := Lib.hid (condsR_below h hb0)
    have ho := Lib.hid (ints_below g hb0)
    have HB0 := Lib.hid hb0
    clear h g hn hm himpl hl hb0 htab
    generalize strB (fmtQ id tn cs os) = r at *
    have hrr : (!(r.toList == r.toList)) = false := by simp
    go_enter Tryd.func4, Tryd.ntmps4
    go_wp2_with fail
    generalize w.alloc (.cells #[.int .i64 id, .int .i64 tn, .slice ca cs.length ccap, .slice oa os.length ocap] 41) = W at *
    have d := Lib.hid (Below.refl W.heap.size W)
    refine (HZ.out _).mono ?_
    rintro e v1 ⟨rfl, c1⟩
    replace q := Lib.hid ((c1.block w.heap.size (Array.getElem?_eq_some_iff.1 q.out).1).trans q.out)
    replace hc := Lib.hid (condsR_below hc.out c1)
    replace ho := Lib.hid (ints_below ho.out c1)
    replace d := Lib.hid (d.out.trans (c1.mono d.out.size))
    clear c1
    have p_q_0 := (cell_of_row v1 _ 0 _ _ _ q.out).trans (show _ = some (Value.int .i64 id) from rfl)
    have p_q_1 := (cell_of_row v1 _ 1 _ _ _ q.out).trans (show _ = some (Value.int .i64 tn) from rfl)
    have p_q_2 := (cell_of_row v1 _ 2 _ _ _ q.out).trans (show _ = some (Value.slice ca cs.length ccap) from rfl)
    have p_q_3 := (cell_of_row v1 _ 3 _ _ _ q.out).trans (show _ = some (Value.slice oa os.length ocap) from rfl)
    go_wp2_with fail
    clear p_q_0 p_q_1 p_q_2 p_q_3
    refine (HT.out _ _ _ hc.out ho.out).mono ?_
    rintro e v2 ⟨cv1, ov1, rfl, oc1, on1, _, c2⟩
    replace q := Lib.hid ((c2.block w.heap.size (Array.getElem?_eq_some_iff.1 q.out).1).trans q.out)
    replace hc := Lib.hid (condsR_below hc.out c2)
    replace ho := Lib.hid (ints_below ho.out c2)
    replace d := Lib.hid (d.out.trans (c2.mono d.out.size))
    clear c2
    obtain ⟨ca1, cp1, rfl⟩ := ownsC_len oc1
    obtain ⟨oa1, op1, rfl⟩ := ints_len (ownsN_ints on1)
    replace oc1 := Lib.hid oc1
    replace on1 := Lib.hid on1
    go_wp2_with fail
    refine (HS.out _ _ _ (ownsC_conds oc1.out) (ownsN_ints on1.out)).mono ?_
    rintro e v3 ⟨rfl, c3⟩
    replace q := Lib.hid ((c3.block w.heap.size (Array.getElem?_eq_some_iff.1 q.out).1).trans q.out)
    replace hc := Lib.hid (condsR_below hc.out c3)
    replace ho := Lib.hid (ints_below ho.out c3)
    replace oc1 := Lib.hid (ownsC_below oc1.out c3)
    replace on1 := Lib.hid (ownsN_below on1.out c3)
    replace d := Lib.hid (d.out.trans (c3.mono d.out.size))
    clear c3
    clear oc1
    clear on1
    have p_q_0 := (cell_of_row v3 _ 0 _ _ _ q.out).trans (show _ = some (Value.int .i64 id) from rfl)
    have p_q_1 := (cell_of_row v3 _ 1 _ _ _ q.out).trans (show _ = some (Value.int .i64 tn) from rfl)
    have p_q_2 := (cell_of_row v3 _ 2 _ _ _ q.out).trans (show _ = some (Value.slice ca cs.length ccap) from rfl)
    have p_q_3 := (cell_of_row v3 _ 3 _ _ _ q.out).trans (show _ = some (Value.slice oa os.length ocap) from rfl)
    go_wp2_with fail
    clear p_q_0 p_q_1 p_q_2 p_q_3
    refine (HT.out _ _ _ hc.out ho.out).mono ?_
    rintro e v4 ⟨cv2, ov2, rfl, oc2, on2, _, c4⟩
    replace q := Lib.hid ((c4.block w.heap.size (Array.getElem?_eq_some_iff.1 q.out).1).trans q.out)
    replace hc := Lib.hid (condsR_below hc.out c4)
    replace ho := Lib.hid (ints_below ho.out c4)
    replace d := Lib.hid (d.out.trans (c4.mono d.out.size))
    clear c4
    obtain ⟨ca2, cp2, rfl⟩ := ownsC_len oc2
    obtain ⟨oa2, op2, rfl⟩ := ints_len (ownsN_ints on2)
    replace oc2 := Lib.hid oc2
    replace on2 := Lib.hid on2
    have hal : Below v4.heap.size v4 (v4.alloc (.cells #[.int .i64 id, .int .i64 tn, .slice ca2 cs.length cp2, .slice oa2 os.length op2] 46)) := (Below.refl _ _).alloc (Nat.le_refl _) _
    have x := Lib.hid (heap_alloc_new v4 (.cells #[.int .i64 id, .int .i64 tn, .slice ca2 cs.length cp2, .slice oa2 os.length op2] 46))
    replace q := Lib.hid ((hal.block w.heap.size (Array.getElem?_eq_some_iff.1 q.out).1).trans q.out)
    replace hc := Lib.hid (condsR_below hc.out hal)
    replace ho := Lib.hid (ints_below ho.out hal)
    replace oc2 := Lib.hid (ownsC_below oc2.out hal)
    replace on2 := Lib.hid (ownsN_below on2.out hal)
    replace d := Lib.hid (d.out.trans (hal.mono d.out.size))
    clear hal
    go_wp2_with fail
    generalize (v4.alloc (.cells #[.int .i64 id, .int .i64 tn, .slice ca2 cs.length cp2, .slice oa2 os.length op2] 46)) = W5 at *
    refine (HI.out _ _ _ (ownsC_conds oc2.out) (ownsN_ints on2.out) (HTB.out.on (HB0.out.trans (d.out.mono HB0.out.size)))).mono ?_
    rintro e v5 ⟨rfl, c5⟩
    replace q := Lib.hid ((c5.block w.heap.size (Array.getElem?_eq_some_iff.1 q.out).1).trans q.out)
    replace hc := Lib.hid (condsR_below hc.out c5)
    replace ho := Lib.hid (ints_below ho.out c5)
    replace oc2 := Lib.hid (ownsC_below oc2.out c5)
    replace on2 := Lib.hid (ownsN_below on2.out c5)
    replace x := Lib.hid ((c5.block v4.heap.size (Array.getElem?_eq_some_iff.1 x.out).1).trans x.out)
    replace d := Lib.hid (d.out.trans (c5.mono d.out.size))
    clear c5
    go_wp2
    have p_x_0 := (cell_of_row v5 _ 0 _ _ _ x.out).trans (show _ = some (Value.int .i64 id) from rfl)
    have p_x_1 := (cell_of_row v5 _ 1 _ _ _ x.out).trans (show _ = some (Value.int .i64 tn) from rfl)
    have p_x_2 := (cell_of_row v5 _ 2 _ _ _ x.out).trans (show _ = some (Value.slice ca2 cs.length cp2) from rfl)
    have p_x_3 := (cell_of_row v5 _ 3 _ _ _ x.out).trans (show _ = some (Value.slice oa2 os.length op2) from rfl)
    have p_q_0 := (cell_of_row v5 _ 0 _ _ _ q.out).trans (show _ = some (Value.int .i64 id) from rfl)
    have p_q_1 := (cell_of_row v5 _ 1 _ _ _ q.out).trans (show _ = some (Value.int .i64 tn) from rfl)
    have p_q_2 := (cell_of_row v5 _ 2 _ _ _ q.out).trans (show _ = some (Value.slice ca cs.length ccap) from rfl)
    have p_q_3 := (cell_of_row v5 _ 3 _ _ _ q.out).trans (show _ = some (Value.slice oa os.length ocap) from rfl)
    refine wp_region_held_drew (S := fun w' => w'.cell? ⟨v4.heap.size, 0, none⟩ = some (.int .i64 id) ∧ w'.cell? ⟨v4.heap.size, 1, none⟩ = some (.int .i64 tn) ∧ w'.cell? ⟨v4.heap.size, 2, none⟩ = some (.slice ca2 cs.length cp2) ∧ w'.cell? ⟨v4.heap.size, 3, none⟩ = some (.slice oa2 os.length op2) ∧ w'.cell? ⟨w.heap.size, 0, none⟩ = some (.int .i64 id) ∧ w'.cell? ⟨w.heap.size, 1, none⟩ = some (.int .i64 tn) ∧ w'.cell? ⟨w.heap.size, 2, none⟩ = some (.slice ca cs.length ccap) ∧ w'.cell? ⟨w.heap.size, 3, none⟩ = some (.slice oa os.length ocap)) (by kernel_rfl) ⟨p_x_0, p_x_1, p_x_2, p_x_3, p_q_0, p_q_1, p_q_2, p_q_3⟩ (fun hHeld => ?_)
    clear p_x_0 p_x_1 p_x_2 p_x_3 p_q_0 p_q_1 p_q_2 p_q_3
    have cdr : Below v5.heap.size v5 v5.drew := below_drew (Below.refl _ _)
    replace q := Lib.hid ((cdr.block w.heap.size (Array.getElem?_eq_some_iff.1 q.out).1).trans q.out)
    replace hc := Lib.hid (condsR_below hc.out cdr)
    replace ho := Lib.hid (ints_below ho.out cdr)
    replace oc2 := Lib.hid (ownsC_below oc2.out cdr)
    replace on2 := Lib.hid (ownsN_below on2.out cdr)
    replace x := Lib.hid ((cdr.block v4.heap.size (Array.getElem?_eq_some_iff.1 x.out).1).trans x.out)
    replace d := Lib.hid (d.out.trans (cdr.mono d.out.size))
    clear cdr
    refine take_runs (i := 0) (v := ?_) (by simp only [List.getElem?_toArray, List.getElem?_cons_succ, List.getElem?_cons_zero]; rfl) (by kernel_rfl) (by kernel_rfl) (by kernel_rfl) rfl (by exact fun _ _ _ h => h) (by rfl) ?_ (by assumption) ?_
    rotate_left
    · intro w hSw; (try dsimp only at hSw); go_simp; try (with_reducible rfl)
    try simp only [Act.put, List.setIfInBounds_toArray, List.set_cons_zero, List.set_cons_succ]
    refine take_runs (i := 1) (v := ?_) (by simp only [List.getElem?_toArray, List.getElem?_cons_succ, List.getElem?_cons_zero]; rfl) (by kernel_rfl) (by kernel_rfl) (by kernel_rfl) rfl (by exact fun _ _ _ h => h) (by rfl) ?_ (by assumption) ?_
    rotate_left
    · intro w hSw; (try dsimp only at hSw); go_simp; try (with_reducible rfl)
    try simp only [Act.put, List.setIfInBounds_toArray, List.set_cons_zero, List.set_cons_succ]
    refine wpAnyH_ready (rs := [2]) (by kernel_rfl) (by simp) ?_
    refine AllReadyH.cons (o := _) (by simp only [List.getElem?_toArray, List.getElem?_cons_succ, List.getElem?_cons_zero]; rfl) (fun K hK => ?_) AllReadyH.nil
    go_simp
    refine (HT.out _ _ _ hc.out ho.out).mono ?_
    rintro e v6 ⟨cv3, ov3, rfl, oc3, on3, _, c6⟩
    replace q := Lib.hid ((c6.block w.heap.size (Array.getElem?_eq_some_iff.1 q.out).1).trans q.out)
    replace hc := Lib.hid (condsR_below hc.out c6)
    replace ho := Lib.hid (ints_below ho.out c6)
    replace oc2 := Lib.hid (ownsC_below oc2.out c6)
    replace on2 := Lib.hid (ownsN_below on2.out c6)
    replace x := Lib.hid ((c6.block v4.heap.size (Array.getElem?_eq_some_iff.1 x.out).1).trans x.out)
    replace d := Lib.hid (d.out.trans (c6.mono d.out.size))
    clear c6
    obtain ⟨ca3, cp3, rfl⟩ := ownsC_len oc3
    obtain ⟨oa3, op3, rfl⟩ := ints_len (ownsN_ints on3)
    replace oc3 := Lib.hid oc3
    replace on3 := Lib.hid on3
    have p_x_0 := (cell_of_row v6 _ 0 _ _ _ x.out).trans (show _ = some (Value.int .i64 id) from rfl)
    have p_x_1 := (cell_of_row v6 _ 1 _ _ _ x.out).trans (show _ = some (Value.int .i64 tn) from rfl)
    have p_x_2 := (cell_of_row v6 _ 2 _ _ _ x.out).trans (show _ = some (Value.slice ca2 cs.length cp2) from rfl)
    have p_x_3 := (cell_of_row v6 _ 3 _ _ _ x.out).trans (show _ = some (Value.slice oa2 os.length op2) from rfl)
    have p_q_0 := (cell_of_row v6 _ 0 _ _ _ q.out).trans (show _ = some (Value.int .i64 id) from rfl)
    have p_q_1 := (cell_of_row v6 _ 1 _ _ _ q.out).trans (show _ = some (Value.int .i64 tn) from rfl)
    have p_q_2 := (cell_of_row v6 _ 2 _ _ _ q.out).trans (show _ = some (Value.slice ca cs.length ccap) from rfl)
    have p_q_3 := (cell_of_row v6 _ 3 _ _ _ q.out).trans (show _ = some (Value.slice oa os.length ocap) from rfl)
    refine hK.out _ _ ⟨p_x_0, p_x_1, p_x_2, p_x_3, p_q_0, p_q_1, p_q_2, p_q_3⟩ (fun hHeld => ?_)
    clear p_x_0 p_x_1 p_x_2 p_x_3 p_q_0 p_q_1 p_q_2 p_q_3
    clear hK K
    try simp only [Act.put, List.setIfInBounds_toArray, List.set_cons_zero, List.set_cons_succ]
    refine wpAnyH_ready (rs := [3]) (by kernel_rfl) (by simp) ?_
    refine AllReadyH.cons (o := _) (by simp only [List.getElem?_toArray, List.getElem?_cons_succ, List.getElem?_cons_zero]; rfl) (fun K hK => ?_) AllReadyH.nil
    go_simp
    refine (HE.out _ _ _ _ _ (ownsC_conds oc2.out) (ownsC_conds (ownsC_below oc3.out (Below.refl _ _))) (ownsN_ints on2.out) (ownsN_ints on3.out)).mono ?_
    rintro e v7 ⟨rfl, c7⟩
    replace q := Lib.hid ((c7.block w.heap.size (Array.getElem?_eq_some_iff.1 q.out).1).trans q.out)
    replace hc := Lib.hid (condsR_below hc.out c7)
    replace ho := Lib.hid (ints_below ho.out c7)
    replace oc2 := Lib.hid (ownsC_below oc2.out c7)
    replace on2 := Lib.hid (ownsN_below on2.out c7)
    replace x := Lib.hid ((c7.block v4.heap.size (Array.getElem?_eq_some_iff.1 x.out).1).trans x.out)
    replace d := Lib.hid (d.out.trans (c7.mono d.out.size))
    clear c7
    have p_x_0 := (cell_of_row v7 _ 0 _ _ _ x.out).trans (show _ = some (Value.int .i64 id) from rfl)
    have p_x_1 := (cell_of_row v7 _ 1 _ _ _ x.out).trans (show _ = some (Value.int .i64 tn) from rfl)
    have p_x_2 := (cell_of_row v7 _ 2 _ _ _ x.out).trans (show _ = some (Value.slice ca2 cs.length cp2) from rfl)
    have p_x_3 := (cell_of_row v7 _ 3 _ _ _ x.out).trans (show _ = some (Value.slice oa2 os.length op2) from rfl)
    have p_q_0 := (cell_of_row v7 _ 0 _ _ _ q.out).trans (show _ = some (Value.int .i64 id) from rfl)
    have p_q_1 := (cell_of_row v7 _ 1 _ _ _ q.out).trans (show _ = some (Value.int .i64 tn) from rfl)
    have p_q_2 := (cell_of_row v7 _ 2 _ _ _ q.out).trans (show _ = some (Value.slice ca cs.length ccap) from rfl)
    have p_q_3 := (cell_of_row v7 _ 3 _ _ _ q.out).trans (show _ = some (Value.slice oa os.length ocap) from rfl)
    refine hK.out _ _ ⟨p_x_0, p_x_1, p_x_2, p_x_3, p_q_0, p_q_1, p_q_2, p_q_3⟩ (fun hHeld => ?_)
    clear p_x_0 p_x_1 p_x_2 p_x_3 p_q_0 p_q_1 p_q_2 p_q_3
    clear hK K
    try simp only [Act.put, List.setIfInBounds_toArray, List.set_cons_zero, List.set_cons_succ]
    refine take_runs (i := 4) (v := ?_) (by simp only [List.getElem?_toArray, List.getElem?_cons_succ, List.getElem?_cons_zero]; rfl) (by kernel_rfl) (by kernel_rfl) (by kernel_rfl) rfl (by exact fun _ _ _ h => h) (by rfl) ?_ (by assumption) ?_
    rotate_left
    · intro w hSw; (try dsimp only at hSw); go_simp; try (with_reducible rfl)
    try simp only [Act.put, List.setIfInBounds_toArray, List.set_cons_zero, List.set_cons_succ]
    refine wpAnyH_done (by kernel_rfl) ?_ _
    clear hHeld
    go_wp2
    go_ret
    exact ⟨rfl, HB0.out.trans (d.out.mono HB0.out.size)⟩
  · have HZ := Lib.hid (fun w => szQuery_no id tn ca oa ccap ocap cs.length os.length 1048576 w (by omega) (by omega) (by omega) hn hm)
    have hb0 : Below w.heap.size w (w.alloc (.cells #[.int .i64 id, .int .i64 tn, .slice ca cs.length ccap, .slice oa os.length ocap] 41)) := (Below.refl _ w).alloc (Nat.le_refl _) _
    clear himpl hl hn hm h g htab
    go_enter Tryd.func4, Tryd.ntmps4
    go_wp2_with fail
    refine (HZ.out _).mono ?_
    rintro e w1 ⟨rfl, b1⟩
    have b2 := hb0.trans (b1.mono hb0.size)
    go_wp2
    go_ret
    exact ⟨rfl, b2⟩
end Go.Proofs.YteelgogfpidcdaaDoor
namespace Go.Proofs.YteelgogfpidcdaaDoor
open Go.RowKit
set_option linter.unusedVariables false
set_option linter.unusedSimpArgs false
/-- A query's data: number, tenant, conditions, fields. -/
abbrev QD := Int × Int × List CondD × List Int
def q0D : QD := (0, 0, [], [])
/-- The slice v reads as the queries qs. -/
def QueriesR (w : World) (v : Value) (qs : List QD) : Prop :=
  (qs = [] ∧ ∃ a cap, v = .slice a 0 cap) ∨ ∃ (b off cap : Nat) (vs us : Nat → Value), v = .slice (some ⟨b, off, none⟩) qs.length cap ∧ qs.length ≤ cap ∧ b < w.heap.size ∧
    ∀ j, j < qs.length → w.cell? ⟨b, off + j * 4, none⟩ = some (.int .i64 (qs.getD j q0D).1) ∧ w.cell? ⟨b, off + j * 4 + 1, none⟩ = some (.int .i64 (qs.getD j q0D).2.1) ∧ w.cell? ⟨b, off + j * 4 + 2, none⟩ = some (vs j) ∧ w.cell? ⟨b, off + j * 4 + 3, none⟩ = some (us j) ∧
      CondsR w (vs j) (qs.getD j q0D).2.2.1 ∧ Ints w (us j) (qs.getD j q0D).2.2.2
theorem queriesR_len {w : World} {v : Value} {qs : List QD} (h : QueriesR w v qs) : ∃ a cap, v = .slice a qs.length cap := by
  rcases h with ⟨rfl, a, cap, rfl⟩ | ⟨b, off, cap, vs, us, rfl, _⟩
  · exact ⟨a, cap, rfl⟩
  · exact ⟨_, cap, rfl⟩
theorem queriesR_below {W w : World} {v : Value} {qs : List QD} (h : QueriesR W v qs) (hb : Below W.heap.size W w) : QueriesR w v qs := by
  rcases h with h | ⟨b, off, cap, vs, us, h1, h2, h3, h4⟩
  · exact Or.inl h
  · refine Or.inr ⟨b, off, cap, vs, us, h1, h2, Nat.lt_of_lt_of_le h3 hb.size, fun j hj => ?_⟩
    obtain ⟨g1, g2, g3, g4, g5, g6⟩ := h4 j hj
    exact ⟨(hb.cell (p := ⟨b, off + j * 4, none⟩) h3).trans g1, (hb.cell (p := ⟨b, off + j * 4 + 1, none⟩) h3).trans g2, (hb.cell (p := ⟨b, off + j * 4 + 2, none⟩) h3).trans g3, (hb.cell (p := ⟨b, off + j * 4 + 3, none⟩) h3).trans g4, condsR_below g5 hb, ints_below g6 hb⟩
theorem queriesR_at {w : World} {v : Value} {qs : List QD} (h : QueriesR w v qs) {k : Nat} (hk : k < qs.length) : ∃ (b off cap : Nat) (cv ov : Value), v = .slice (some ⟨b, off, none⟩) qs.length cap ∧ b < w.heap.size ∧
    w.cell? ⟨b, off + k * 4, none⟩ = some (.int .i64 (qs.getD k q0D).1) ∧ w.cell? ⟨b, off + k * 4 + 1, none⟩ = some (.int .i64 (qs.getD k q0D).2.1) ∧ w.cell? ⟨b, off + k * 4 + 2, none⟩ = some cv ∧ w.cell? ⟨b, off + k * 4 + 3, none⟩ = some ov ∧
    CondsR w cv (qs.getD k q0D).2.2.1 ∧ Ints w ov (qs.getD k q0D).2.2.2 := by
  rcases h with ⟨rfl, _⟩ | ⟨b, off, cap, vs, us, h1, h2, h3, h4⟩
  · simp at hk
  · obtain ⟨g1, g2, g3, g4, g5, g6⟩ := h4 k hk
    exact ⟨b, off, cap, vs k, us k, h1, h3, g1, g2, g3, g4, g5, g6⟩
/-- How many conditions, fields and elements the first k queries hold. -/
def szQTo (qs : List QD) (k : Nat) : Nat := qs.length + ((qs.take k).map fun q => q.2.2.1.length + q.2.2.2.length).sum
def szQL (qs : List QD) : Nat := szQTo qs qs.length
theorem szQTo_zero (qs : List QD) : szQTo qs 0 = qs.length := by simp [szQTo]
theorem szQTo_step {qs : List QD} {k : Nat} (hk : k < qs.length) : szQTo qs (k + 1) = szQTo qs k + ((qs.getD k q0D).2.2.1.length + (qs.getD k q0D).2.2.2.length) := by
  unfold szQTo
  have e : qs.getD k q0D = qs[k] := by simp [List.getD, hk]
  rw [e, List.take_succ_eq_append_getElem hk, List.map_append, List.sum_append]
  simp; omega
theorem szQTo_le {qs : List QD} {k : Nat} (hk : k ≤ qs.length) : szQTo qs k ≤ szQL qs := by
  unfold szQL szQTo
  have h2 : (qs.map fun q : QD => q.2.2.1.length + q.2.2.2.length).sum = ((qs.take k).map fun q => q.2.2.1.length + q.2.2.2.length).sum + ((qs.drop k).map fun q => q.2.2.1.length + q.2.2.2.length).sum := by
    rw [← List.sum_append, ← List.map_append, List.take_append_drop]
  rw [List.take_length, h2]
  omega
theorem szQL_at {qs : List QD} (hs : szQL qs ≤ 1048576) {k : Nat} (hk : k < qs.length) : (qs.getD k q0D).2.2.1.length ≤ 1048576 ∧ (qs.getD k q0D).2.2.2.length ≤ 1048576 := by
  have h1 := szQTo_step hk
  have h2 := szQTo_le (qs := qs) (k := k + 1) (by omega)
  omega
theorem szQL_len {qs : List QD} (hs : szQL qs ≤ 1048576) : qs.length ≤ 1048576 := by
  have := szQTo_le (qs := qs) (Nat.zero_le _); rw [szQTo_zero] at this; omega
end Go.Proofs.YteelgogfpidcdaaDoor
namespace Go.Proofs.YteelgogfpidcdaaDoor
open Go.RowKit
set_option linter.unusedVariables false
set_option linter.unusedSimpArgs false
/-- The condition that two pieces say. -/
def condOf (P : List (List UInt8)) (j : Nat) : CondD := (aftL 102 (P.getD (2 + 2 * j) []), rngL (P.getD (3 + 2 * j) []))
/-- What the pieces of a text say, whether it is a query's text or not. -/
def queryOfP (P : List (List UInt8)) : QD := (aftL 113 (P.getD 0 []), aftL 116 (P.getD 1 []), (List.range ((P.length - 4) / 2)).map (condOf P), (cutL 44 (P.getD (P.length - 1) [])).map numL)
def fmtQD (q : QD) : List UInt8 := fmtQ q.1 q.2.1 q.2.2.1 q.2.2.2
def parQ (l : List UInt8) : QD × Bool := if (cutL 32 l).length < 4 ∨ fmtQD (queryOfP (cutL 32 l)) ≠ l then (q0D, false) else (queryOfP (cutL 32 l), true)
theorem parQ_no {l : List UInt8} (h : (cutL 32 l).length < 4 ∨ fmtQD (queryOfP (cutL 32 l)) ≠ l) : parQ l = (q0D, false) := if_pos h
theorem parQ_yes {l : List UInt8} (h1 : ¬ (cutL 32 l).length < 4) (h2 : fmtQD (queryOfP (cutL 32 l)) = l) : parQ l = (queryOfP (cutL 32 l), true) := if_neg (fun g => g.elim h1 (fun h => h h2))
theorem conds_next (P : List (List UInt8)) (j : Nat) : (List.range j).map (condOf P) ++ [condOf P j] = (List.range (j + 1)).map (condOf P) := by simp [List.range_succ]
/-- The loop over the pieces goes on just as long as conditions are left. -/
theorem cond_more {n j : Nat} (h : 4 ≤ n) : (2 + 2 * j + 1 < n - 2) ↔ j < (n - 4) / 2 := by omega
theorem queryOf_len (P : List (List UInt8)) : (queryOfP P).2.2.1.length = (P.length - 4) / 2 := by simp [queryOfP]
/-- What is accepted is a query. -/
theorem parQ_query {l : List UInt8} (h0 : l ≠ []) (h : (parQ l).2 = true) : queryB (parQ l).1.1 (parQ l).1.2.1 (parQ l).1.2.2.1 (parQ l).1.2.2.2 = true ∧ fmtQD (parQ l).1 = l := by
  unfold parQ at h ⊢
  split at h
  · exact Bool.noConfusion h
  · rename_i hn
    rw [if_neg hn]
    have he : fmtQD (queryOfP (cutL 32 l)) = l := Classical.byContradiction (fun g => hn (Or.inr g))
    refine ⟨?_, he⟩
    simp only
    unfold fmtQD fmtQ at he
    by_cases hq : queryB (queryOfP (cutL 32 l)).1 (queryOfP (cutL 32 l)).2.1 (queryOfP (cutL 32 l)).2.2.1 (queryOfP (cutL 32 l)).2.2.2 = true
    · exact hq
    · rw [if_neg hq] at he
      exact absurd he.symm h0
end Go.Proofs.YteelgogfpidcdaaDoor
namespace Go.Proofs.YteelgogfpidcdaaDoor
open Go.RowKit
set_option linter.unusedVariables false
theorem cutGo_no {b : UInt8} : ∀ (l p : List UInt8), b ∉ l → cutGo b p l = [p ++ l] := by
  intro l
  induction l with
  | nil => intro p _; simp [cutGo]
  | cons c r ih =>
    intro p h
    rw [List.mem_cons, not_or] at h
    unfold cutGo
    rw [if_neg (fun e => h.1 e.symm), ih _ h.2]
    simp
theorem cutGo_app {b : UInt8} : ∀ (a p l : List UInt8), b ∉ a → cutGo b p (a ++ b :: l) = (p ++ a) :: cutGo b [] l := by
  intro a
  induction a with
  | nil => intro p l _; simp [cutGo]
  | cons c r ih =>
    intro p l h
    rw [List.mem_cons, not_or] at h
    rw [List.cons_append]
    show (if c = b then _ else cutGo b (p ++ [c]) (r ++ b :: l)) = _
    rw [if_neg (fun e => h.1 e.symm), ih _ _ h.2]
    simp
theorem cutL_no {b : UInt8} {l : List UInt8} (h : b ∉ l) : cutL b l = [l] := by unfold cutL; rw [cutGo_no l [] h]; rfl
theorem cutL_app {b : UInt8} {a : List UInt8} (l : List UInt8) (h : b ∉ a) : cutL b (a ++ b :: l) = a :: cutL b l := by unfold cutL; rw [cutGo_app a [] l h]; rfl
theorem index_cases (l : List UInt8) (c : UInt8) : (c ∉ l ∧ Lib.indexByte l c = -1) ∨ ∃ a r, l = a ++ c :: r ∧ c ∉ a ∧ Lib.indexByte l c = (a.length : Int) := by
  induction l with
  | nil => left; exact ⟨by simp, rfl⟩
  | cons b l ih =>
    by_cases h : b = c
    · right; exact ⟨[], l, by rw [h]; rfl, by simp, by unfold Lib.indexByte; rw [if_pos (by simpa using h)]; rfl⟩
    · have hb : (b == c) = false := by rw [beq_eq_false_iff_ne]; exact h
      rcases ih with ⟨h1, h2⟩ | ⟨a, r, h1, h2, h3⟩
      · left
        refine ⟨by rw [List.mem_cons, not_or]; exact ⟨fun e => h e.symm, h1⟩, ?_⟩
        unfold Lib.indexByte; rw [hb, h2]; rfl
      · right
        refine ⟨b :: a, r, by rw [h1]; rfl, by rw [List.mem_cons, not_or]; exact ⟨fun e => h e.symm, h2⟩, ?_⟩
        unfold Lib.indexByte
        rw [hb, h3]
        have : ((a.length : Int) == -1) = false := by rw [beq_eq_false_iff_ne]; omega
        rw [this]
        simp
/-! ### Numerals -/
theorem parI_is {l : List UInt8} (h : (parI l).2 = true) : Lib.itoa (parI l).1 = l := by
  unfold parI at h ⊢
  by_cases hc : Lib.itoa (sval l) = l ∧ dcnt l ≤ 9
  · rw [if_pos hc]; exact hc.1
  · rw [if_neg hc] at h; cases h
theorem itoa_dig {n : Int} (h : 0 ≤ n) : ∀ b ∈ Lib.itoa n, dig b = true := by
  unfold Lib.itoa
  rw [if_neg (by omega)]
  exact (digits_dec n.toNat).2
theorem dig_no45 : dig 45 = false := by decide
theorem dig_no32 : dig 32 = false := by decide
theorem itoa_no {n : Int} (h : 0 ≤ n) {c : UInt8} (hc : dig c = false) : c ∉ Lib.itoa n := fun g => by
  have := itoa_dig h c g; rw [hc] at this; cases this
theorem parI_minus {l : List UInt8} (hm : (45 : UInt8) ∈ l) (h : (parI l).2 = true) : (parI l).1 < 0 := by
  apply Int.not_le.1
  intro g
  have e := parI_is h
  rw [← e] at hm
  exact itoa_no g dig_no45 hm
theorem parI_itoa {n : Int} (h0 : 0 ≤ n) (h1 : n ≤ 23) : parI (Lib.itoa n) = (n, true) := by
  obtain ⟨u, rfl⟩ := Int.eq_ofNat_of_zero_le h0
  have hi : Lib.itoa (u : Int) = Lib.decDigits u := by unfold Lib.itoa; rw [if_neg (by omega), Int.toNat_natCast]
  have hneg : neg (Lib.itoa (u : Int)) = false := by
    cases hn : neg (Lib.itoa (u : Int)) with
    | false => rfl
    | true =>
      obtain ⟨r, hr⟩ := neg_cons hn
      exact absurd (by rw [hr]; exact List.mem_cons_self ..) (itoa_no (n := (u : Int)) (by omega) dig_no45)
  have hs : sval (Lib.itoa (u : Int)) = (u : Int) := by
    unfold sval
    rw [hneg, hi, (digits_dec u).1]
    rfl
  have hlen : (Lib.decDigits u).length ≤ 9 := by
    by_cases h : u < 10
    · rw [Lib.decDigits_one h]; simp
    · rw [Lib.decDigits, dif_neg h, List.length_append, Lib.decDigits_one (by omega)]; simp
  have hd : dcnt (Lib.itoa (u : Int)) ≤ 9 := by rw [hi]; exact Nat.le_trans (dcnt_le _) hlen
  exact (parI_ok (by rw [hs]) hd).trans (by rw [hs])
theorem numL_itoa {n : Int} (h0 : 0 ≤ n) (h1 : n ≤ 23) : numL (Lib.itoa n) = n := by unfold numL; rw [parI_itoa h0 h1]; rfl
theorem numL_yes {q : List UInt8} (h : (parI q).2 = true) : numL q = (parI q).1 := by unfold numL; rw [h]; rfl
theorem numL_no {q : List UInt8} (h : ¬ (parI q).2 = true) : numL q = -100000 := by unfold numL; rw [if_neg h]
theorem parI_itoa3 {n : Int} (h0 : 0 ≤ n) (h1 : n ≤ 999) : parI (Lib.itoa n) = (n, true) := by
  obtain ⟨u, rfl⟩ := Int.eq_ofNat_of_zero_le h0
  have hi : Lib.itoa (u : Int) = Lib.decDigits u := by unfold Lib.itoa; rw [if_neg (by omega), Int.toNat_natCast]
  have hneg : neg (Lib.itoa (u : Int)) = false := by
    cases hn : neg (Lib.itoa (u : Int)) with
    | false => rfl
    | true =>
      obtain ⟨r, hr⟩ := neg_cons hn
      exact absurd (by rw [hr]; exact List.mem_cons_self ..) (itoa_no (n := (u : Int)) (by omega) dig_no45)
  have hs : sval (Lib.itoa (u : Int)) = (u : Int) := by
    unfold sval
    rw [hneg, hi, (digits_dec u).1]
    rfl
  have two : ∀ q : Nat, q ≤ 99 → (Lib.decDigits q).length ≤ 2 := fun q hq => by
    by_cases h : q < 10
    · rw [Lib.decDigits_one h]; simp
    · rw [Lib.decDigits, dif_neg h, List.length_append, Lib.decDigits_one (by omega)]; simp
  have hlen : (Lib.decDigits u).length ≤ 9 := by
    by_cases h : u < 10
    · rw [Lib.decDigits_one h]; simp
    · rw [Lib.decDigits, dif_neg h, List.length_append]
      have := two (u / 10) (by omega)
      simp; omega
  have hd : dcnt (Lib.itoa (u : Int)) ≤ 9 := by rw [hi]; exact Nat.le_trans (dcnt_le _) hlen
  exact (parI_ok (by rw [hs]) hd).trans (by rw [hs])
theorem numL_itoa3 {n : Int} (h0 : 0 ≤ n) (h1 : n ≤ 999) : numL (Lib.itoa n) = n := by unfold numL; rw [parI_itoa3 h0 h1]; rfl
theorem dig_no44 : dig 44 = false := by decide
theorem dig_no58 : dig 58 = false := by decide
theorem strB_take (a b : List UInt8) : (strB (a ++ b)).extract 0 a.length = strB a := by
  apply ByteArray.ext
  apply Array.ext'
  simp only [ByteArray.data_extract, Array.toList_extract, strB]
  rw [List.extract_eq_take_drop]
  simp
theorem strB_drop (a : List UInt8) (c : UInt8) (b : List UInt8) : (strB (a ++ c :: b)).extract (a.length + 1) (a ++ c :: b).length = strB b := by
  apply ByteArray.ext
  apply Array.ext'
  simp only [ByteArray.data_extract, Array.toList_extract, strB]
  rw [List.extract_eq_take_drop, show a ++ c :: b = (a ++ [c]) ++ b by simp]
  rw [List.drop_left' (by simp), List.take_of_length_le (by simp; omega)]
theorem triple {a b c d : List UInt8} {x : Bool} (h1 : a = b) (h2 : c = d) : Ending.returned (.tuple #[.string (strB a), .string (strB c), .bool x]) = .returned (.tuple #[.string (strB b), .string (strB d), .bool x]) := by rw [h1, h2]
theorem triple' {u v : ByteArray} {c d : List UInt8} {x : Bool} (h1 : u = strB c) (h2 : v = strB d) : Ending.returned (.tuple #[.string u, .string v, .bool x]) = .returned (.tuple #[.string (strB c), .string (strB d), .bool x]) := by rw [h1, h2]
end Go.Proofs.YteelgogfpidcdaaDoor
