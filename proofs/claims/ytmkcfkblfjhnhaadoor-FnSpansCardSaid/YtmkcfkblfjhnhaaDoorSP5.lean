/-
  Texts of the proof, merged: SpansFmt, TabZ, MaskMath, MaskRuns, MaskWalks, CountMath, MaskCount, MaskMem, Strs, MaskFmt, RangeP.
-/
import Derived.Test.YtmkcfkblfjhnhaaDoorSP4
import Derived.Test.YtmkcfkblfjhnhaaDoorRows
import Derived.Test.YtmkcfkblfjhnhaaDoorShelf
import Derived.WalkKit
import Derived.Below
import Derived.Lib.Hide
import Derived.Lib.AppendIntMem
import Derived.Lib.TrailingZeros
import Derived.Shelf.Spec.TrailingZeros
import Derived.Lib.Join
import Derived.Laws.BitsLemmas
import Derived.Deep.RegionHeld3
import Derived.Lib.BitFns
import Derived.Lib.Tables
import Derived.BigQuiet
import Derived.Deep.QuietTactic
import Derived.OwnWalk
namespace Go.Proofs.YtmkcfkblfjhnhaaDoor
open Go.RowKit
set_option linter.unusedVariables false
set_option linter.unusedSimpArgs false
def spanT (r : SpanD) : List UInt8 := Lib.itoa r.1 ++ [46, 46] ++ Lib.itoa r.2.1 ++ [32] ++ fmtSet r.2.2
def spanB (r : SpanD) : Bool := (decide (0 ≤ r.1 ∧ r.1 ≤ r.2.1) && decide (r.2.1 ≤ 99)) && setB r.2.2
def glueTo (rs : List SpanD) : Nat → List UInt8
  | 0 => []
  | k + 1 => (if k = 0 then glueTo rs k else glueTo rs k ++ [59, 32]) ++ spanT (rs.getD k p0D)
def fmtSp (rs : List SpanD) : List UInt8 := if rs.all spanB = true then (if rs.length = 0 then [110, 111, 110, 101] else glueTo rs rs.length) else []
theorem fmtSp_bad {rs : List SpanD} {k : Nat} (hk : k < rs.length) (h : spanB (rs.getD k p0D) = false) : fmtSp rs = [] := by
  unfold fmtSp
  rw [if_neg]
  intro g
  rw [List.all_eq_true] at g
  have e : rs.getD k p0D = rs[k] := by simp [List.getD, hk]
  rw [e, g _ (List.getElem_mem hk)] at h
  exact Bool.noConfusion h
theorem all_spans {rs : List SpanD} (h : ∀ j, j < rs.length → spanB (rs.getD j p0D) = true) : rs.all spanB = true := by
  rw [List.all_eq_true]
  intro r hr
  obtain ⟨j, hj, rfl⟩ := List.getElem_of_mem hr
  have e : rs.getD j p0D = rs[j] := by simp [List.getD, hj]
  have := h j hj
  rwa [e] at this
theorem fmtSp_none {rs : List SpanD} (h : rs.length = 0) : fmtSp rs = [110, 111, 110, 101] := by
  have e : rs = [] := List.eq_nil_of_length_eq_zero h
  subst e; rfl
theorem fmtSp_all {rs : List SpanD} (h0 : 0 < rs.length) (h : ∀ j, j < rs.length → spanB (rs.getD j p0D) = true) : fmtSp rs = glueTo rs rs.length := by
  unfold fmtSp
  rw [if_pos (all_spans h), if_neg (by omega)]
theorem glueTo_ne (rs : List SpanD) (k : Nat) (h : 0 < k) : glueTo rs k ≠ [] := by
  cases k with
  | zero => omega
  | succ k =>
    intro e
    have := congrArg List.length e
    simp only [glueTo, spanT, List.length_append, List.length_cons, List.length_nil] at this
    omega
theorem glue_pos : ∀ (t : List (Int × Int)) (s : List UInt8), s ≠ [] → glue s t ≠ []
  | [], s, h => h
  | r :: t, s, h => by
    rw [glue_one]
    refine glue_pos t _ ?_
    intro e
    have := congrArg List.length e
    rw [if_neg h] at this
    simp only [List.length_append, List.length_cons, List.length_nil] at this
    omega
theorem fmtSet_some {l : List Int} (h : setB l = true) : fmtSet l ≠ [] := by
  by_cases h0 : l = []
  · subst h0; rw [fmtSet_nil]; simp
  · rw [fmtSet_yes h h0]
    obtain ⟨x, r, rfl⟩ : ∃ x r, l = x :: r := by
      cases l with
      | nil => exact absurd rfl h0
      | cons x r => exact ⟨x, r, rfl⟩
    obtain ⟨b, t, e⟩ := runs_cons x r
    rw [e, glue_one]
    refine glue_pos t _ ?_
    rw [if_pos rfl, List.nil_append]
    exact runText_ne _
theorem runsN_len : ∀ l : List Int, (runs l).length ≤ l.length
  | [] => by simp [runs]
  | [x] => by simp [runs]
  | x :: y :: r => by
    have ih := runsN_len (y :: r)
    by_cases h : y = x + 1
    · obtain ⟨b, t, e⟩ := runs_cons y r
      rw [runs_join h e]
      rw [e] at ih
      simp only [List.length_cons] at ih ⊢
      omega
    · rw [runs_part h]
      simp only [List.length_cons] at ih ⊢
      omega
theorem runsN_in {P : Int → Prop} : ∀ l : List Int, (∀ x ∈ l, P x) → ∀ r ∈ runs l, P r.1 ∧ P r.2
  | [], _, r, hr => by simp [runs] at hr
  | [x], h, r, hr => by
    simp [runs] at hr
    subst hr
    exact ⟨h x (by simp), h x (by simp)⟩
  | x :: y :: l, h, r, hr => by
    have ih := runsN_in (y :: l) (fun z hz => h z (List.mem_cons_of_mem _ hz))
    by_cases c : y = x + 1
    · obtain ⟨b, t, e⟩ := runs_cons y l
      rw [runs_join c e, List.mem_cons] at hr
      rw [e] at ih
      rcases hr with rfl | hr
      · exact ⟨h x (by simp), (ih _ List.mem_cons_self).2⟩
      · exact ih _ (List.mem_cons_of_mem _ hr)
    · rw [runs_part c, List.mem_cons] at hr
      rcases hr with rfl | hr
      · exact ⟨h x (by simp), h x (by simp)⟩
      · exact ih _ hr
theorem glueN_len : ∀ (t : List (Int × Int)) (s : List UInt8), (∀ r ∈ t, (runText r).length ≤ 43) → (glue s t).length ≤ s.length + 44 * t.length
  | [], s, _ => by simp [glue]
  | r :: t, s, h => by
    rw [glue_one]
    have ih := glueN_len t ((if s = [] then s else s ++ [32]) ++ runText r) (fun q hq => h q (List.mem_cons_of_mem _ hq))
    have hr := h r List.mem_cons_self
    have : ((if s = [] then s else s ++ [32]) ++ runText r).length ≤ s.length + 44 := by
      rw [List.length_append]
      split
      · omega
      · rw [List.length_append]; simp; omega
    simp only [List.length_cons]
    omega
theorem fmtSet_len {l : List Int} (h : setB l = true) (hi : ∀ x ∈ l, 0 ≤ x ∧ x ≤ 23) : (fmtSet l).length ≤ 4 + 44 * l.length := by
  by_cases h0 : l = []
  · subst h0; rw [fmtSet_nil]; simp
  · rw [fmtSet_yes h h0]
    have h1 := glueN_len (runs l) [] (fun r hr => by
      have := runsN_in (P := fun x => 0 ≤ x ∧ x ≤ 23) l hi r hr
      exact runText_len r (by omega) (by omega))
    have h2 := runsN_len l
    simp only [List.length_nil] at h1
    omega
theorem setS_range {l : List Int} (h : setB l = true) : ∀ x ∈ l, 0 ≤ x ∧ x ≤ 23 := by
  intro x hx
  obtain ⟨i, hi, rfl⟩ := List.getElem_of_mem hx
  have := ((setB_iff l).1 h).1 i hi
  have e : l.getD i 0 = l[i] := by simp [List.getD, hi]
  rwa [e] at this
theorem span_parts {r : SpanD} (h : spanB r = true) : 0 ≤ r.1 ∧ r.1 ≤ r.2.1 ∧ r.2.1 ≤ 99 ∧ setB r.2.2 = true := by
  unfold spanB at h
  simp only [Bool.and_eq_true, decide_eq_true_eq] at h
  exact ⟨h.1.1.1, h.1.1.2, h.1.2, h.2⟩
theorem spanT_len {r : SpanD} (h : spanB r = true) : (spanT r).length ≤ 49 + 44 * r.2.2.length := by
  obtain ⟨h1, h2, h3, h4⟩ := span_parts h
  have l1 := Lib.itoa_length_le r.1 (by omega) (by omega)
  have l2 := Lib.itoa_length_le r.2.1 (by omega) (by omega)
  have l3 := fmtSet_len h4 (setS_range h4)
  unfold spanT
  simp only [List.length_append, List.length_cons, List.length_nil]
  omega
theorem glueTo_len {rs : List SpanD} : ∀ k, k ≤ rs.length → (∀ j, j < k → spanB (rs.getD j p0D) = true) → (glueTo rs k).length ≤ 51 * k + 44 * zpTo rs k
  | 0, _, _ => by simp [glueTo]
  | k + 1, hk, h => by
    have ih := glueTo_len k (by omega) (fun j hj => h j (by omega))
    have ht := spanT_len (h k (by omega))
    have hz := zpTo_step (rs := rs) (k := k) (by omega)
    unfold glueTo
    rw [List.length_append]
    split
    · omega
    · simp only [List.length_append, List.length_cons, List.length_nil]; omega
theorem glueTo_max {rs : List SpanD} (hs : zpL rs ≤ 1048576) {k : Nat} (hk : k ≤ rs.length) (h : ∀ j, j < k → spanB (rs.getD j p0D) = true) : (glueTo rs k).length ≤ 100000000 := by
  have h1 := glueTo_len k hk h
  have h2 := zpTo_le hk
  have h3 := zpL_len hs
  omega
theorem fmtSS (n : Int) (w : World) (h0 : 0 ≤ n) (h1 : n ≤ 99) : Calls Tryd.prog 33 #[.int .i64 n] w fun e w' => e = .returned (.string (strB (Lib.itoa n))) ∧ Below w.heap.size w w' := specFmt n w (by omega) (by omega)
theorem inS_is (x lo hi : Int) (w : World) : Calls Tryd.prog 24 #[.int .i64 x, .int .i64 lo, .int .i64 hi] w fun e w' => e = .returned (.bool (decide (lo ≤ x ∧ x ≤ hi))) ∧ w' = w := by
  by_cases h : lo ≤ x ∧ x ≤ hi
  · rw [decide_eq_true h]; exact in_yes x lo hi w h.1 h.2
  · rw [decide_eq_false h]; exact in_no x lo hi w h
set_option maxHeartbeats 16000000 in
set_option maxRecDepth 100000 in
theorem specFormatSpans (va : Value) (rs : List SpanD) (w : World) (h : SpansR w va rs) (hs : zpL rs ≤ 1048576) :
    Calls Tryd.prog 11 #[va] w fun e w' => e = .returned (.string (strB (fmtSp rs))) ∧ Below w.heap.size w w' := by
  have H := Lib.hid h
  have HS := Lib.hid hs
  have hlen := zpL_len hs
  obtain ⟨a, cap, rfl⟩ := spansR_len h
  clear h hs
  go_enter Tryd.func11, Tryd.ntmps11
  go_wp2
  go_loopw [3, 4] (fun s i wr => ∃ k : Nat, k ≤ rs.length ∧ i = .int .i64 k ∧ s = .string (strB (glueTo rs k)) ∧ Hid (∀ j, j < k → spanB (rs.getD j p0D) = true) ∧ Below w.heap.size w wr) (fun _ i _ => rs.length - (intOf i).toNat)
  case atStart => exact ⟨0, Nat.zero_le _, rfl, rfl, Lib.hid (fun j hj => by omega), Below.refl _ _⟩
  case round =>
    obtain ⟨k, hk, rfl, rfl, hall, hbel⟩ := hrel
    by_cases hlt : k < rs.length
    · obtain ⟨b, off, cap', vv, hv, hbl, hc1, hc2, hc3, hI⟩ := spansR_at (spansR_below H.out hbel) hlt
      simp only [Value.slice.injEq] at hv
      obtain ⟨rfl, _, rfl⟩ := hv
      obtain ⟨ua, uc, rfl⟩ := ints_len hI
      have HXL := Lib.hid (zpL_span HS.out hlt)
      have i1 : (0 : Int) ≤ (k : Int) := by omega
      have i2 : (k : Int) < (rs.length : Int) := by omega
      have HBAD := Lib.hid (fmtSp_bad (rs := rs) hlt)
      have HALL : Hid (spanB (rs.getD k p0D) = true → ∀ j, j < k + 1 → spanB (rs.getD j p0D) = true) := Lib.hid (fun he j hj => by
        by_cases e : j = k
        · exact e ▸ he
        · exact hall.out j (by omega))
      have HMAX := Lib.hid (glueTo_max HS.out (Nat.le_of_lt hlt) hall.out)
      have HNXT : Hid ((if k = 0 then glueTo rs k else glueTo rs k ++ [59, 32]) ++ spanT (rs.getD k p0D) = glueTo rs (k + 1)) := Lib.hid rfl
      have HML : Hid (spanB (rs.getD k p0D) = true → (glueTo rs (k + 1)).length ≤ 100000000) := Lib.hid (fun he => glueTo_max HS.out hlt (HALL.out he))
      clear hall
      generalize rs.getD k p0D = r at *
      obtain ⟨sf, st, xs⟩ := r
      simp only at hc1 hc2 hc3 hI HXL
      have HSET := Lib.hid (fun w h => specFmtSet (.slice ua xs.length uc) xs w h HXL.out)
      have HIN := Lib.hid (fun w => inS_is sf 0 st w)
      generalize glueTo rs k = s0 at *
      go_wp2_with fail
      refine (HSET.out _ hI).mono ?_
      rintro e w2 ⟨rfl, bs⟩
      have b2 := hbel.trans (bs.mono hbel.size)
      have HBS : Hid (wr.heap.size ≤ w2.drew.heap.size) := Lib.hid bs.size
      replace hc1 := (bs.cell (p := ⟨b, off + k * 3, none⟩) hbl).trans hc1
      replace hc2 := (bs.cell (p := ⟨b, off + k * 3 + 1, none⟩) hbl).trans hc2
      clear hI hc3 bs hbel HSET
      cases hset : setB xs with
      | false =>
        have HF := Lib.hid (HBAD.out (by unfold spanB; rw [hset, Bool.and_false]))
        have he := fmtSet_no hset
        rw [he]
        clear he hset HBAD HALL HML HNXT
        obtain ⟨z1, z2⟩ := strB_none (l := []) rfl
        go_wp2
        refine wp_region_held_drew (S := fun w' => w'.cell? ⟨b, off + k * 3, none⟩ = some (.int .i64 sf) ∧ w'.cell? ⟨b, off + k * 3 + 1, none⟩ = some (.int .i64 st)) (by kernel_rfl) ⟨hc1, hc2⟩ (fun hHeld => ?_)
        refine take_runs (i := 0) (v := ?_) (by simp only [List.getElem?_toArray, List.getElem?_cons_succ, List.getElem?_cons_zero]; rfl) (by kernel_rfl) (by kernel_rfl) (by kernel_rfl) rfl (by exact fun _ _ _ h => h) (by rfl) ?_ (by assumption) ?_
        rotate_left
        · intro w hSw; (try dsimp only at hSw); go_simp; try (with_reducible rfl)
        try simp only [Act.put, List.setIfInBounds_toArray, List.set_cons_zero, List.set_cons_succ]
        refine take_runs (i := 1) (v := ?_) (by simp only [List.getElem?_toArray, List.getElem?_cons_succ, List.getElem?_cons_zero]; rfl) (by kernel_rfl) (by kernel_rfl) (by kernel_rfl) rfl (by exact fun _ _ _ h => h) (by rfl) ?_ (by assumption) ?_
        rotate_left
        · intro w hSw; (try dsimp only at hSw); go_simp; try (with_reducible rfl)
        try simp only [Act.put, List.setIfInBounds_toArray, List.set_cons_zero, List.set_cons_succ]
        refine take_runs (i := 2) (v := ?_) (by simp only [List.getElem?_toArray, List.getElem?_cons_succ, List.getElem?_cons_zero]; rfl) (by kernel_rfl) (by kernel_rfl) (by kernel_rfl) rfl (by exact fun _ _ _ h => h) (by rfl) ?_ (by assumption) ?_
        rotate_left
        · intro w hSw; (try dsimp only at hSw); go_simp; try (with_reducible rfl)
        try simp only [Act.put, List.setIfInBounds_toArray, List.set_cons_zero, List.set_cons_succ]
        refine take_over (i := 3) (by simp only [List.getElem?_toArray, List.getElem?_cons_succ, List.getElem?_cons_zero]; rfl) (by kernel_rfl) (by kernel_rfl) (by kernel_rfl) rfl (by exact fun _ _ _ h => h) (by rfl) (by assumption) ?_
        try simp only [Act.put, List.setIfInBounds_toArray, List.set_cons_zero, List.set_cons_succ]
        refine take_over (i := 4) (by simp only [List.getElem?_toArray, List.getElem?_cons_succ, List.getElem?_cons_zero]; rfl) (by kernel_rfl) (by kernel_rfl) (by kernel_rfl) rfl (by exact fun _ _ _ h => h) (by rfl) (by assumption) ?_
        try simp only [Act.put, List.setIfInBounds_toArray, List.set_cons_zero, List.set_cons_succ]
        refine take_over (i := 5) (by simp only [List.getElem?_toArray, List.getElem?_cons_succ, List.getElem?_cons_zero]; rfl) (by kernel_rfl) (by kernel_rfl) (by kernel_rfl) rfl (by exact fun _ _ _ h => h) (by rfl) (by assumption) ?_
        try simp only [Act.put, List.setIfInBounds_toArray, List.set_cons_zero, List.set_cons_succ]
        refine take_over (i := 6) (by simp only [List.getElem?_toArray, List.getElem?_cons_succ, List.getElem?_cons_zero]; rfl) (by kernel_rfl) (by kernel_rfl) (by kernel_rfl) rfl (by exact fun _ _ _ h => h) (by rfl) (by assumption) ?_
        try simp only [Act.put, List.setIfInBounds_toArray, List.set_cons_zero, List.set_cons_succ]
        refine take_over (i := 7) (by simp only [List.getElem?_toArray, List.getElem?_cons_succ, List.getElem?_cons_zero]; rfl) (by kernel_rfl) (by kernel_rfl) (by kernel_rfl) rfl (by exact fun _ _ _ h => h) (by rfl) (by assumption) ?_
        try simp only [Act.put, List.setIfInBounds_toArray, List.set_cons_zero, List.set_cons_succ]
        refine take_over (i := 8) (by simp only [List.getElem?_toArray, List.getElem?_cons_succ, List.getElem?_cons_zero]; rfl) (by kernel_rfl) (by kernel_rfl) (by kernel_rfl) rfl (by exact fun _ _ _ h => h) (by rfl) (by assumption) ?_
        try simp only [Act.put, List.setIfInBounds_toArray, List.set_cons_zero, List.set_cons_succ]
        refine take_over (i := 9) (by simp only [List.getElem?_toArray, List.getElem?_cons_succ, List.getElem?_cons_zero]; rfl) (by kernel_rfl) (by kernel_rfl) (by kernel_rfl) rfl (by exact fun _ _ _ h => h) (by rfl) (by assumption) ?_
        try simp only [Act.put, List.setIfInBounds_toArray, List.set_cons_zero, List.set_cons_succ]
        refine take_over (i := 10) (by simp only [List.getElem?_toArray, List.getElem?_cons_succ, List.getElem?_cons_zero]; rfl) (by kernel_rfl) (by kernel_rfl) (by kernel_rfl) rfl (by exact fun _ _ _ h => h) (by rfl) (by assumption) ?_
        try simp only [Act.put, List.setIfInBounds_toArray, List.set_cons_zero, List.set_cons_succ]
        refine take_over (i := 11) (by simp only [List.getElem?_toArray, List.getElem?_cons_succ, List.getElem?_cons_zero]; rfl) (by kernel_rfl) (by kernel_rfl) (by kernel_rfl) rfl (by exact fun _ _ _ h => h) (by rfl) (by assumption) ?_
        try simp only [Act.put, List.setIfInBounds_toArray, List.set_cons_zero, List.set_cons_succ]
        refine take_over (i := 12) (by simp only [List.getElem?_toArray, List.getElem?_cons_succ, List.getElem?_cons_zero]; rfl) (by kernel_rfl) (by kernel_rfl) (by kernel_rfl) rfl (by exact fun _ _ _ h => h) (by rfl) (by assumption) ?_
        try simp only [Act.put, List.setIfInBounds_toArray, List.set_cons_zero, List.set_cons_succ]
        refine take_over (i := 13) (by simp only [List.getElem?_toArray, List.getElem?_cons_succ, List.getElem?_cons_zero]; rfl) (by kernel_rfl) (by kernel_rfl) (by kernel_rfl) rfl (by exact fun _ _ _ h => h) (by rfl) (by assumption) ?_
        try simp only [Act.put, List.setIfInBounds_toArray, List.set_cons_zero, List.set_cons_succ]
        refine take_over (i := 14) (by simp only [List.getElem?_toArray, List.getElem?_cons_succ, List.getElem?_cons_zero]; rfl) (by kernel_rfl) (by kernel_rfl) (by kernel_rfl) rfl (by exact fun _ _ _ h => h) (by rfl) (by assumption) ?_
        try simp only [Act.put, List.setIfInBounds_toArray, List.set_cons_zero, List.set_cons_succ]
        refine take_runs (i := 15) (v := ?_) (by simp only [List.getElem?_toArray, List.getElem?_cons_succ, List.getElem?_cons_zero]; rfl) (by kernel_rfl) (by kernel_rfl) (by kernel_rfl) rfl (by exact fun _ _ _ h => h) (by rfl) ?_ (by assumption) ?_
        rotate_left
        · intro w hSw; (try dsimp only at hSw); go_simp; try (with_reducible rfl)
        try simp only [Act.put, List.setIfInBounds_toArray, List.set_cons_zero, List.set_cons_succ]
        refine take_runs (i := 16) (v := ?_) (by simp only [List.getElem?_toArray, List.getElem?_cons_succ, List.getElem?_cons_zero]; rfl) (by kernel_rfl) (by kernel_rfl) (by kernel_rfl) rfl (by exact fun _ _ _ h => h) (by rfl) ?_ (by assumption) ?_
        rotate_left
        · intro w hSw; (try dsimp only at hSw); go_simp; try (with_reducible rfl)
        try simp only [Act.put, List.setIfInBounds_toArray, List.set_cons_zero, List.set_cons_succ]
        refine take_over (i := 17) (by simp only [List.getElem?_toArray, List.getElem?_cons_succ, List.getElem?_cons_zero]; rfl) (by kernel_rfl) (by kernel_rfl) (by kernel_rfl) rfl (by exact fun _ _ _ h => h) (by rfl) (by assumption) ?_
        try simp only [Act.put, List.setIfInBounds_toArray, List.set_cons_zero, List.set_cons_succ]
        refine take_over (i := 18) (by simp only [List.getElem?_toArray, List.getElem?_cons_succ, List.getElem?_cons_zero]; rfl) (by kernel_rfl) (by kernel_rfl) (by kernel_rfl) rfl (by exact fun _ _ _ h => h) (by rfl) (by assumption) ?_
        try simp only [Act.put, List.setIfInBounds_toArray, List.set_cons_zero, List.set_cons_succ]
        refine take_over (i := 19) (by simp only [List.getElem?_toArray, List.getElem?_cons_succ, List.getElem?_cons_zero]; rfl) (by kernel_rfl) (by kernel_rfl) (by kernel_rfl) rfl (by exact fun _ _ _ h => h) (by rfl) (by assumption) ?_
        try simp only [Act.put, List.setIfInBounds_toArray, List.set_cons_zero, List.set_cons_succ]
        refine take_over (i := 20) (by simp only [List.getElem?_toArray, List.getElem?_cons_succ, List.getElem?_cons_zero]; rfl) (by kernel_rfl) (by kernel_rfl) (by kernel_rfl) rfl (by exact fun _ _ _ h => h) (by rfl) (by assumption) ?_
        try simp only [Act.put, List.setIfInBounds_toArray, List.set_cons_zero, List.set_cons_succ]
        refine take_over (i := 21) (by simp only [List.getElem?_toArray, List.getElem?_cons_succ, List.getElem?_cons_zero]; rfl) (by kernel_rfl) (by kernel_rfl) (by kernel_rfl) rfl (by exact fun _ _ _ h => h) (by rfl) (by assumption) ?_
        try simp only [Act.put, List.setIfInBounds_toArray, List.set_cons_zero, List.set_cons_succ]
        refine take_over (i := 22) (by simp only [List.getElem?_toArray, List.getElem?_cons_succ, List.getElem?_cons_zero]; rfl) (by kernel_rfl) (by kernel_rfl) (by kernel_rfl) rfl (by exact fun _ _ _ h => h) (by rfl) (by assumption) ?_
        try simp only [Act.put, List.setIfInBounds_toArray, List.set_cons_zero, List.set_cons_succ]
        refine take_runs (i := 23) (v := ?_) (by simp only [List.getElem?_toArray, List.getElem?_cons_succ, List.getElem?_cons_zero]; rfl) (by kernel_rfl) (by kernel_rfl) (by kernel_rfl) rfl (by exact fun _ _ _ h => h) (by rfl) ?_ (by assumption) ?_
        rotate_left
        · intro w hSw; (try dsimp only at hSw); go_simp; try (with_reducible rfl)
        try simp only [Act.put, List.setIfInBounds_toArray, List.set_cons_zero, List.set_cons_succ]
        refine wpAnyH_done (by kernel_rfl) ?_ _
        have b11 : Below w.heap.size w w2.drew := below_drew b2
        clear hHeld
        go_wp2
        go_ret
        exact ⟨ret_s HF.out.symm, b11⟩
      | true =>
        obtain ⟨z1, z2⟩ := strB_some (fmtSet_some hset)
        by_cases hr : 0 ≤ sf ∧ sf ≤ st
        · rw [decide_eq_true hr] at HIN
          by_cases ht : st ≤ 99
          · have hb : spanB (sf, st, xs) = true := by unfold spanB; rw [decide_eq_true hr, decide_eq_true ht, hset]; rfl
            have HA := Lib.hid (HALL.out hb)
            have hml := HML.out hb
            have hT : spanT (sf, st, xs) = Lib.itoa sf ++ [46, 46] ++ Lib.itoa st ++ [32] ++ fmtSet xs := rfl
            rw [hT] at HNXT
            have HFA := Lib.hid (fun w => fmtSS sf w hr.1 (by omega))
            have HFB := Lib.hid (fun w => fmtSS st w (by omega) ht)
            have ht2 : decide ((99 : Int) < st) = false := decide_eq_false (by omega)
            clear hT hr hset hb HBAD HALL HML
            generalize fmtSet xs = tx at *
            generalize Lib.itoa sf = ta at *
            generalize Lib.itoa st = tb at *
            go_wp2
            refine wp_region_held_drew (S := fun w' => w'.cell? ⟨b, off + k * 3, none⟩ = some (.int .i64 sf) ∧ w'.cell? ⟨b, off + k * 3 + 1, none⟩ = some (.int .i64 st)) (by kernel_rfl) ⟨hc1, hc2⟩ (fun hHeld => ?_)
            refine take_runs (i := 0) (v := ?_) (by simp only [List.getElem?_toArray, List.getElem?_cons_succ, List.getElem?_cons_zero]; rfl) (by kernel_rfl) (by kernel_rfl) (by kernel_rfl) rfl (by exact fun _ _ _ h => h) (by rfl) ?_ (by assumption) ?_
            rotate_left
            · intro w hSw; (try dsimp only at hSw); go_simp; try (with_reducible rfl)
            try simp only [Act.put, List.setIfInBounds_toArray, List.set_cons_zero, List.set_cons_succ]
            refine take_runs (i := 1) (v := ?_) (by simp only [List.getElem?_toArray, List.getElem?_cons_succ, List.getElem?_cons_zero]; rfl) (by kernel_rfl) (by kernel_rfl) (by kernel_rfl) rfl (by exact fun _ _ _ h => h) (by rfl) ?_ (by assumption) ?_
            rotate_left
            · intro w hSw; (try dsimp only at hSw); go_simp; try (with_reducible rfl)
            try simp only [Act.put, List.setIfInBounds_toArray, List.set_cons_zero, List.set_cons_succ]
            refine take_runs (i := 2) (v := ?_) (by simp only [List.getElem?_toArray, List.getElem?_cons_succ, List.getElem?_cons_zero]; rfl) (by kernel_rfl) (by kernel_rfl) (by kernel_rfl) rfl (by exact fun _ _ _ h => h) (by rfl) ?_ (by assumption) ?_
            rotate_left
            · intro w hSw; (try dsimp only at hSw); go_simp; try (with_reducible rfl)
            try simp only [Act.put, List.setIfInBounds_toArray, List.set_cons_zero, List.set_cons_succ]
            refine take_runs (i := 3) (v := ?_) (by simp only [List.getElem?_toArray, List.getElem?_cons_succ, List.getElem?_cons_zero]; rfl) (by kernel_rfl) (by kernel_rfl) (by kernel_rfl) rfl (by exact fun _ _ _ h => h) (by rfl) ?_ (by assumption) ?_
            rotate_left
            · intro w hSw; (try dsimp only at hSw); go_simp; try (with_reducible rfl)
            try simp only [Act.put, List.setIfInBounds_toArray, List.set_cons_zero, List.set_cons_succ]
            refine take_runs (i := 4) (v := ?_) (by simp only [List.getElem?_toArray, List.getElem?_cons_succ, List.getElem?_cons_zero]; rfl) (by kernel_rfl) (by kernel_rfl) (by kernel_rfl) rfl (by exact fun _ _ _ h => h) (by rfl) ?_ (by assumption) ?_
            rotate_left
            · intro w hSw; (try dsimp only at hSw); go_simp; try (with_reducible rfl)
            try simp only [Act.put, List.setIfInBounds_toArray, List.set_cons_zero, List.set_cons_succ]
            refine take_runs (i := 5) (v := ?_) (by simp only [List.getElem?_toArray, List.getElem?_cons_succ, List.getElem?_cons_zero]; rfl) (by kernel_rfl) (by kernel_rfl) (by kernel_rfl) rfl (by exact fun _ _ _ h => h) (by rfl) ?_ (by assumption) ?_
            rotate_left
            · intro w hSw; (try dsimp only at hSw); go_simp; try (with_reducible rfl)
            try simp only [Act.put, List.setIfInBounds_toArray, List.set_cons_zero, List.set_cons_succ]
            refine take_runs (i := 6) (v := ?_) (by simp only [List.getElem?_toArray, List.getElem?_cons_succ, List.getElem?_cons_zero]; rfl) (by kernel_rfl) (by kernel_rfl) (by kernel_rfl) rfl (by exact fun _ _ _ h => h) (by rfl) ?_ (by assumption) ?_
            rotate_left
            · intro w hSw; (try dsimp only at hSw); go_simp; try (with_reducible rfl)
            try simp only [Act.put, List.setIfInBounds_toArray, List.set_cons_zero, List.set_cons_succ]
            refine take_runs (i := 7) (v := ?_) (by simp only [List.getElem?_toArray, List.getElem?_cons_succ, List.getElem?_cons_zero]; rfl) (by kernel_rfl) (by kernel_rfl) (by kernel_rfl) rfl (by exact fun _ _ _ h => h) (by rfl) ?_ (by assumption) ?_
            rotate_left
            · intro w hSw; (try dsimp only at hSw); go_simp; try (with_reducible rfl)
            try simp only [Act.put, List.setIfInBounds_toArray, List.set_cons_zero, List.set_cons_succ]
            refine take_runs (i := 8) (v := ?_) (by simp only [List.getElem?_toArray, List.getElem?_cons_succ, List.getElem?_cons_zero]; rfl) (by kernel_rfl) (by kernel_rfl) (by kernel_rfl) rfl (by exact fun _ _ _ h => h) (by rfl) ?_ (by assumption) ?_
            rotate_left
            · intro w hSw; (try dsimp only at hSw); go_simp; try (with_reducible rfl)
            try simp only [Act.put, List.setIfInBounds_toArray, List.set_cons_zero, List.set_cons_succ]
            refine take_runs (i := 9) (v := ?_) (by simp only [List.getElem?_toArray, List.getElem?_cons_succ, List.getElem?_cons_zero]; rfl) (by kernel_rfl) (by kernel_rfl) (by kernel_rfl) rfl (by exact fun _ _ _ h => h) (by rfl) ?_ (by assumption) ?_
            rotate_left
            · intro w hSw; (try dsimp only at hSw); go_simp; try (with_reducible rfl)
            try simp only [Act.put, List.setIfInBounds_toArray, List.set_cons_zero, List.set_cons_succ]
            refine take_runs (i := 10) (v := ?_) (by simp only [List.getElem?_toArray, List.getElem?_cons_succ, List.getElem?_cons_zero]; rfl) (by kernel_rfl) (by kernel_rfl) (by kernel_rfl) rfl (by exact fun _ _ _ h => h) (by rfl) ?_ (by assumption) ?_
            rotate_left
            · intro w hSw; (try dsimp only at hSw); go_simp; try (with_reducible rfl)
            try simp only [Act.put, List.setIfInBounds_toArray, List.set_cons_zero, List.set_cons_succ]
            refine take_runs (i := 11) (v := ?_) (by simp only [List.getElem?_toArray, List.getElem?_cons_succ, List.getElem?_cons_zero]; rfl) (by kernel_rfl) (by kernel_rfl) (by kernel_rfl) rfl (by exact fun _ _ _ h => h) (by rfl) ?_ (by assumption) ?_
            rotate_left
            · intro w hSw; (try dsimp only at hSw); go_simp; try (with_reducible rfl)
            try simp only [Act.put, List.setIfInBounds_toArray, List.set_cons_zero, List.set_cons_succ]
            refine take_runs (i := 12) (v := ?_) (by simp only [List.getElem?_toArray, List.getElem?_cons_succ, List.getElem?_cons_zero]; rfl) (by kernel_rfl) (by kernel_rfl) (by kernel_rfl) rfl (by exact fun _ _ _ h => h) (by rfl) ?_ (by assumption) ?_
            rotate_left
            · intro w hSw; (try dsimp only at hSw); go_simp; try (with_reducible rfl)
            try simp only [Act.put, List.setIfInBounds_toArray, List.set_cons_zero, List.set_cons_succ]
            refine wpAnyH_ready (rs := [13]) (by kernel_rfl) (by simp) ?_
            refine AllReadyH.cons (o := _) (by simp only [List.getElem?_toArray, List.getElem?_cons_succ, List.getElem?_cons_zero]; rfl) (fun K hK => ?_) AllReadyH.nil
            go_simp
            refine (HIN.out _).mono ?_
            rintro e w8 ⟨rfl, rfl⟩
            refine hK.out _ _ ⟨hc1, hc2⟩ (fun hHeld => ?_)
            clear hK K
            try simp only [Act.put, List.setIfInBounds_toArray, List.set_cons_zero, List.set_cons_succ]
            refine take_runs (i := 14) (v := ?_) (by simp only [List.getElem?_toArray, List.getElem?_cons_succ, List.getElem?_cons_zero]; rfl) (by kernel_rfl) (by kernel_rfl) (by kernel_rfl) rfl (by exact fun _ _ _ h => h) (by rfl) ?_ (by assumption) ?_
            rotate_left
            · intro w hSw; (try dsimp only at hSw); go_simp; try (with_reducible rfl)
            try simp only [Act.put, List.setIfInBounds_toArray, List.set_cons_zero, List.set_cons_succ]
            refine take_runs (i := 15) (v := ?_) (by simp only [List.getElem?_toArray, List.getElem?_cons_succ, List.getElem?_cons_zero]; rfl) (by kernel_rfl) (by kernel_rfl) (by kernel_rfl) rfl (by exact fun _ _ _ h => h) (by rfl) ?_ (by assumption) ?_
            rotate_left
            · intro w hSw; (try dsimp only at hSw); go_simp; try (with_reducible rfl)
            try simp only [Act.put, List.setIfInBounds_toArray, List.set_cons_zero, List.set_cons_succ]
            refine take_runs (i := 16) (v := ?_) (by simp only [List.getElem?_toArray, List.getElem?_cons_succ, List.getElem?_cons_zero]; rfl) (by kernel_rfl) (by kernel_rfl) (by kernel_rfl) rfl (by exact fun _ _ _ h => h) (by rfl) ?_ (by assumption) ?_
            rotate_left
            · intro w hSw; (try dsimp only at hSw); go_simp; try (with_reducible rfl)
            try simp only [Act.put, List.setIfInBounds_toArray, List.set_cons_zero, List.set_cons_succ]
            refine take_runs (i := 17) (v := ?_) (by simp only [List.getElem?_toArray, List.getElem?_cons_succ, List.getElem?_cons_zero]; rfl) (by kernel_rfl) (by kernel_rfl) (by kernel_rfl) rfl (by exact fun _ _ _ h => h) (by rfl) ?_ (by assumption) ?_
            rotate_left
            · intro w hSw; (try dsimp only at hSw); go_simp; try (with_reducible rfl)
            try simp only [Act.put, List.setIfInBounds_toArray, List.set_cons_zero, List.set_cons_succ]
            refine take_runs (i := 18) (v := ?_) (by simp only [List.getElem?_toArray, List.getElem?_cons_succ, List.getElem?_cons_zero]; rfl) (by kernel_rfl) (by kernel_rfl) (by kernel_rfl) rfl (by exact fun _ _ _ h => h) (by rfl) ?_ (by assumption) ?_
            rotate_left
            · intro w hSw; (try dsimp only at hSw); go_simp; try (with_reducible rfl)
            try simp only [Act.put, List.setIfInBounds_toArray, List.set_cons_zero, List.set_cons_succ]
            refine take_runs (i := 19) (v := ?_) (by simp only [List.getElem?_toArray, List.getElem?_cons_succ, List.getElem?_cons_zero]; rfl) (by kernel_rfl) (by kernel_rfl) (by kernel_rfl) rfl (by exact fun _ _ _ h => h) (by rfl) ?_ (by assumption) ?_
            rotate_left
            · intro w hSw; (try dsimp only at hSw); go_simp; try (with_reducible rfl)
            try simp only [Act.put, List.setIfInBounds_toArray, List.set_cons_zero, List.set_cons_succ]
            refine take_runs (i := 20) (v := ?_) (by simp only [List.getElem?_toArray, List.getElem?_cons_succ, List.getElem?_cons_zero]; rfl) (by kernel_rfl) (by kernel_rfl) (by kernel_rfl) rfl (by exact fun _ _ _ h => h) (by rfl) ?_ (by assumption) ?_
            rotate_left
            · intro w hSw; (try dsimp only at hSw); go_simp; try (with_reducible rfl)
            try simp only [Act.put, List.setIfInBounds_toArray, List.set_cons_zero, List.set_cons_succ]
            refine take_runs (i := 21) (v := ?_) (by simp only [List.getElem?_toArray, List.getElem?_cons_succ, List.getElem?_cons_zero]; rfl) (by kernel_rfl) (by kernel_rfl) (by kernel_rfl) rfl (by exact fun _ _ _ h => h) (by rfl) ?_ (by assumption) ?_
            rotate_left
            · intro w hSw; (try dsimp only at hSw); go_simp; try (with_reducible rfl)
            try simp only [Act.put, List.setIfInBounds_toArray, List.set_cons_zero, List.set_cons_succ]
            refine take_runs (i := 22) (v := ?_) (by simp only [List.getElem?_toArray, List.getElem?_cons_succ, List.getElem?_cons_zero]; rfl) (by kernel_rfl) (by kernel_rfl) (by kernel_rfl) rfl (by exact fun _ _ _ h => h) (by rfl) ?_ (by assumption) ?_
            rotate_left
            · intro w hSw; (try dsimp only at hSw); go_simp; try (with_reducible rfl)
            try simp only [Act.put, List.setIfInBounds_toArray, List.set_cons_zero, List.set_cons_succ]
            refine take_runs (i := 23) (v := ?_) (by simp only [List.getElem?_toArray, List.getElem?_cons_succ, List.getElem?_cons_zero]; rfl) (by kernel_rfl) (by kernel_rfl) (by kernel_rfl) rfl (by exact fun _ _ _ h => h) (by rfl) ?_ (by assumption) ?_
            rotate_left
            · intro w hSw; (try dsimp only at hSw); go_simp; try (with_reducible rfl)
            try simp only [Act.put, List.setIfInBounds_toArray, List.set_cons_zero, List.set_cons_succ]
            refine wpAnyH_done (by kernel_rfl) ?_ _
            have b11 : Below w.heap.size w w2.drew := below_drew b2
            have p1 : w2.drew.cell? ⟨b, off + k * 3, none⟩ = some (.int .i64 sf) := hc1
            have p2 : w2.drew.cell? ⟨b, off + k * 3 + 1, none⟩ = some (.int .i64 st) := hc2
            clear hHeld hc1 hc2 b2 z1 z2 ht2 ht
            generalize w2.drew = W1 at *
            have hbW : b < W1.heap.size := Nat.lt_of_lt_of_le hbl HBS.out
            by_cases hk0 : k = 0
            · have hk1 : ¬ (0 : Int) < (k : Int) := by omega
              rw [if_pos hk0] at HNXT
              rw [← HNXT.out] at hml
              clear hk0
              have d1 : ∀ w, (Op.stringOp .add (strB s0) (strB ta)).run Tryd.prog w = .ok (.string (strB (s0 ++ ta))) w := strB_add s0 ta (by simp only [List.length_append, List.length_cons, List.length_nil] at hml ⊢; omega)
              have d2 : ∀ w, (Op.stringOp .add (strB (s0 ++ ta)) ⟨#[46, 46]⟩).run Tryd.prog w = .ok (.string (strB (s0 ++ ta ++ [46, 46]))) w := strB_add (s0 ++ ta) [46, 46] (by simp only [List.length_append, List.length_cons, List.length_nil] at hml ⊢; omega)
              have d3 : ∀ w, (Op.stringOp .add (strB (s0 ++ ta ++ [46, 46])) (strB tb)).run Tryd.prog w = .ok (.string (strB (s0 ++ ta ++ [46, 46] ++ tb))) w := strB_add (s0 ++ ta ++ [46, 46]) tb (by simp only [List.length_append, List.length_cons, List.length_nil] at hml ⊢; omega)
              have d4 : ∀ w, (Op.stringOp .add (strB (s0 ++ ta ++ [46, 46] ++ tb)) ⟨#[32]⟩).run Tryd.prog w = .ok (.string (strB (s0 ++ ta ++ [46, 46] ++ tb ++ [32]))) w := strB_add (s0 ++ ta ++ [46, 46] ++ tb) [32] (by simp only [List.length_append, List.length_cons, List.length_nil] at hml ⊢; omega)
              have d5 : ∀ w, (Op.stringOp .add (strB (s0 ++ ta ++ [46, 46] ++ tb ++ [32])) (strB tx)).run Tryd.prog w = .ok (.string (strB (s0 ++ ta ++ [46, 46] ++ tb ++ [32] ++ tx))) w := strB_add (s0 ++ ta ++ [46, 46] ++ tb ++ [32]) tx (by simp only [List.length_append, List.length_cons, List.length_nil] at hml ⊢; omega)
              have HEQ : Hid (s0 ++ ta ++ [46, 46] ++ tb ++ [32] ++ tx = glueTo rs (k + 1)) := Lib.hid (by rw [← HNXT.out]; simp only [List.append_assoc])
              generalize s0 ++ ta ++ [46, 46] ++ tb ++ [32] ++ tx = y5 at *
              generalize s0 ++ ta ++ [46, 46] ++ tb ++ [32] = y4 at *
              generalize s0 ++ ta ++ [46, 46] ++ tb = y3 at *
              generalize s0 ++ ta ++ [46, 46] = y2 at *
              generalize s0 ++ ta = y1 at *
              clear hml
              go_wp2
              refine wp_region_held_drew (S := fun w' => w'.cell? ⟨b, off + k * 3, none⟩ = some (.int .i64 sf) ∧ w'.cell? ⟨b, off + k * 3 + 1, none⟩ = some (.int .i64 st)) (by kernel_rfl) ⟨p1, p2⟩ (fun hHeld => ?_)
              have e0 := below_drew (Below.refl W1.heap.size W1)
              refine take_runs (i := 0) (v := ?_) (by simp only [List.getElem?_toArray, List.getElem?_cons_succ, List.getElem?_cons_zero]; rfl) (by kernel_rfl) (by kernel_rfl) (by kernel_rfl) rfl (by exact fun _ _ _ h => h) (by rfl) ?_ (by assumption) ?_
              rotate_left
              · intro w hSw; (try dsimp only at hSw); go_simp; try (with_reducible rfl)
              try simp only [Act.put, List.setIfInBounds_toArray, List.set_cons_zero, List.set_cons_succ]
              refine take_runs (i := 1) (v := ?_) (by simp only [List.getElem?_toArray, List.getElem?_cons_succ, List.getElem?_cons_zero]; rfl) (by kernel_rfl) (by kernel_rfl) (by kernel_rfl) rfl (by exact fun _ _ _ h => h) (by rfl) ?_ (by assumption) ?_
              rotate_left
              · intro w hSw; (try dsimp only at hSw); go_simp; try (with_reducible rfl)
              try simp only [Act.put, List.setIfInBounds_toArray, List.set_cons_zero, List.set_cons_succ]
              refine take_runs (i := 2) (v := ?_) (by simp only [List.getElem?_toArray, List.getElem?_cons_succ, List.getElem?_cons_zero]; rfl) (by kernel_rfl) (by kernel_rfl) (by kernel_rfl) rfl (by exact fun _ _ _ h => h) (by rfl) ?_ (by assumption) ?_
              rotate_left
              · intro w hSw; (try dsimp only at hSw); go_simp; try (with_reducible rfl)
              try simp only [Act.put, List.setIfInBounds_toArray, List.set_cons_zero, List.set_cons_succ]
              refine take_runs (i := 3) (v := ?_) (by simp only [List.getElem?_toArray, List.getElem?_cons_succ, List.getElem?_cons_zero]; rfl) (by kernel_rfl) (by kernel_rfl) (by kernel_rfl) rfl (by exact fun _ _ _ h => h) (by rfl) ?_ (by assumption) ?_
              rotate_left
              · intro w hSw; (try dsimp only at hSw); go_simp; try (with_reducible rfl)
              try simp only [Act.put, List.setIfInBounds_toArray, List.set_cons_zero, List.set_cons_succ]
              refine take_runs (i := 4) (v := ?_) (by simp only [List.getElem?_toArray, List.getElem?_cons_succ, List.getElem?_cons_zero]; rfl) (by kernel_rfl) (by kernel_rfl) (by kernel_rfl) rfl (by exact fun _ _ _ h => h) (by rfl) ?_ (by assumption) ?_
              rotate_left
              · intro w hSw; (try dsimp only at hSw); go_simp; try (with_reducible rfl)
              try simp only [Act.put, List.setIfInBounds_toArray, List.set_cons_zero, List.set_cons_succ]
              refine take_runs (i := 5) (v := ?_) (by simp only [List.getElem?_toArray, List.getElem?_cons_succ, List.getElem?_cons_zero]; rfl) (by kernel_rfl) (by kernel_rfl) (by kernel_rfl) rfl (by exact fun _ _ _ h => h) (by rfl) ?_ (by assumption) ?_
              rotate_left
              · intro w hSw; (try dsimp only at hSw); go_simp; try (with_reducible rfl)
              try simp only [Act.put, List.setIfInBounds_toArray, List.set_cons_zero, List.set_cons_succ]
              refine take_runs (i := 9) (v := ?_) (by simp only [List.getElem?_toArray, List.getElem?_cons_succ, List.getElem?_cons_zero]; rfl) (by kernel_rfl) (by kernel_rfl) (by kernel_rfl) rfl (by exact fun _ _ _ h => h) (by rfl) ?_ (by assumption) ?_
              rotate_left
              · intro w hSw; (try dsimp only at hSw); go_simp; try (with_reducible rfl)
              try simp only [Act.put, List.setIfInBounds_toArray, List.set_cons_zero, List.set_cons_succ]
              refine take_runs (i := 10) (v := ?_) (by simp only [List.getElem?_toArray, List.getElem?_cons_succ, List.getElem?_cons_zero]; rfl) (by kernel_rfl) (by kernel_rfl) (by kernel_rfl) rfl (by exact fun _ _ _ h => h) (by rfl) ?_ (by assumption) ?_
              rotate_left
              · intro w hSw; (try dsimp only at hSw); go_simp; try (with_reducible rfl)
              try simp only [Act.put, List.setIfInBounds_toArray, List.set_cons_zero, List.set_cons_succ]
              refine take_runs (i := 11) (v := ?_) (by simp only [List.getElem?_toArray, List.getElem?_cons_succ, List.getElem?_cons_zero]; rfl) (by kernel_rfl) (by kernel_rfl) (by kernel_rfl) rfl (by exact fun _ _ _ h => h) (by rfl) ?_ (by assumption) ?_
              rotate_left
              · intro w hSw; (try dsimp only at hSw); go_simp; try (with_reducible rfl)
              try simp only [Act.put, List.setIfInBounds_toArray, List.set_cons_zero, List.set_cons_succ]
              refine take_runs (i := 12) (v := ?_) (by simp only [List.getElem?_toArray, List.getElem?_cons_succ, List.getElem?_cons_zero]; rfl) (by kernel_rfl) (by kernel_rfl) (by kernel_rfl) rfl (by exact fun _ _ _ h => h) (by rfl) ?_ (by assumption) ?_
              rotate_left
              · intro w hSw; (try dsimp only at hSw); go_simp; try (with_reducible rfl)
              try simp only [Act.put, List.setIfInBounds_toArray, List.set_cons_zero, List.set_cons_succ]
              refine take_runs (i := 13) (v := ?_) (by simp only [List.getElem?_toArray, List.getElem?_cons_succ, List.getElem?_cons_zero]; rfl) (by kernel_rfl) (by kernel_rfl) (by kernel_rfl) rfl (by exact fun _ _ _ h => h) (by rfl) ?_ (by assumption) ?_
              rotate_left
              · intro w hSw; (try dsimp only at hSw); go_simp; try (with_reducible rfl)
              try simp only [Act.put, List.setIfInBounds_toArray, List.set_cons_zero, List.set_cons_succ]
              refine take_runs (i := 17) (v := ?_) (by simp only [List.getElem?_toArray, List.getElem?_cons_succ, List.getElem?_cons_zero]; rfl) (by kernel_rfl) (by kernel_rfl) (by kernel_rfl) rfl (by exact fun _ _ _ h => h) (by rfl) ?_ (by assumption) ?_
              rotate_left
              · intro w hSw; (try dsimp only at hSw); go_simp; try (with_reducible rfl)
              try simp only [Act.put, List.setIfInBounds_toArray, List.set_cons_zero, List.set_cons_succ]
              refine wpAnyH_ready (rs := [6]) (by kernel_rfl) (by simp) ?_
              refine (AllReadyH.cons (o := _) (by simp only [List.getElem?_toArray, List.getElem?_cons_succ, List.getElem?_cons_zero]; rfl) (fun K hK => ?_) AllReadyH.nil)
              go_simp
              refine (HFA.out _).mono ?_
              rintro e x1 ⟨rfl, k1⟩
              have e1 : Below W1.heap.size W1 x1 := e0.trans (k1.mono e0.size)
              refine hK.out _ _ ⟨(e1.cell (p := ⟨b, off + k * 3, none⟩) hbW).trans p1, (e1.cell (p := ⟨b, off + k * 3 + 1, none⟩) hbW).trans p2⟩ (fun hHeld => ?_)
              clear hK K
              try simp only [Act.put, List.setIfInBounds_toArray, List.set_cons_zero, List.set_cons_succ]
              refine take_runs (i := 7) (v := ?_) (by simp only [List.getElem?_toArray, List.getElem?_cons_succ, List.getElem?_cons_zero]; rfl) (by kernel_rfl) (by kernel_rfl) (by kernel_rfl) rfl (by exact fun _ _ _ h => h) (by rfl) ?_ (by assumption) ?_
              rotate_left
              · intro w hSw; (try dsimp only at hSw); go_simp; try (with_reducible rfl)
              try simp only [Act.put, List.setIfInBounds_toArray, List.set_cons_zero, List.set_cons_succ]
              refine take_runs (i := 8) (v := ?_) (by simp only [List.getElem?_toArray, List.getElem?_cons_succ, List.getElem?_cons_zero]; rfl) (by kernel_rfl) (by kernel_rfl) (by kernel_rfl) rfl (by exact fun _ _ _ h => h) (by rfl) ?_ (by assumption) ?_
              rotate_left
              · intro w hSw; (try dsimp only at hSw); go_simp; try (with_reducible rfl)
              try simp only [Act.put, List.setIfInBounds_toArray, List.set_cons_zero, List.set_cons_succ]
              refine wpAnyH_ready (rs := [14]) (by kernel_rfl) (by simp) ?_
              refine (AllReadyH.cons (o := _) (by simp only [List.getElem?_toArray, List.getElem?_cons_succ, List.getElem?_cons_zero]; rfl) (fun K hK => ?_) AllReadyH.nil)
              go_simp
              refine (HFB.out _).mono ?_
              rintro e x2 ⟨rfl, k2⟩
              have e2 : Below W1.heap.size W1 x2 := e1.trans (k2.mono e1.size)
              refine hK.out _ _ ⟨(e2.cell (p := ⟨b, off + k * 3, none⟩) hbW).trans p1, (e2.cell (p := ⟨b, off + k * 3 + 1, none⟩) hbW).trans p2⟩ (fun hHeld => ?_)
              clear hK K
              try simp only [Act.put, List.setIfInBounds_toArray, List.set_cons_zero, List.set_cons_succ]
              refine take_runs (i := 15) (v := ?_) (by simp only [List.getElem?_toArray, List.getElem?_cons_succ, List.getElem?_cons_zero]; rfl) (by kernel_rfl) (by kernel_rfl) (by kernel_rfl) rfl (by exact fun _ _ _ h => h) (by rfl) ?_ (by assumption) ?_
              rotate_left
              · intro w hSw; (try dsimp only at hSw); go_simp; try (with_reducible rfl)
              try simp only [Act.put, List.setIfInBounds_toArray, List.set_cons_zero, List.set_cons_succ]
              refine take_runs (i := 16) (v := ?_) (by simp only [List.getElem?_toArray, List.getElem?_cons_succ, List.getElem?_cons_zero]; rfl) (by kernel_rfl) (by kernel_rfl) (by kernel_rfl) rfl (by exact fun _ _ _ h => h) (by rfl) ?_ (by assumption) ?_
              rotate_left
              · intro w hSw; (try dsimp only at hSw); go_simp; try (with_reducible rfl)
              try simp only [Act.put, List.setIfInBounds_toArray, List.set_cons_zero, List.set_cons_succ]
              refine take_runs (i := 18) (v := ?_) (by simp only [List.getElem?_toArray, List.getElem?_cons_succ, List.getElem?_cons_zero]; rfl) (by kernel_rfl) (by kernel_rfl) (by kernel_rfl) rfl (by exact fun _ _ _ h => h) (by rfl) ?_ (by assumption) ?_
              rotate_left
              · intro w hSw; (try dsimp only at hSw); go_simp; try (with_reducible rfl)
              try simp only [Act.put, List.setIfInBounds_toArray, List.set_cons_zero, List.set_cons_succ]
              refine take_runs (i := 19) (v := ?_) (by simp only [List.getElem?_toArray, List.getElem?_cons_succ, List.getElem?_cons_zero]; rfl) (by kernel_rfl) (by kernel_rfl) (by kernel_rfl) rfl (by exact fun _ _ _ h => h) (by rfl) ?_ (by assumption) ?_
              rotate_left
              · intro w hSw; (try dsimp only at hSw); go_simp; try (with_reducible rfl)
              try simp only [Act.put, List.setIfInBounds_toArray, List.set_cons_zero, List.set_cons_succ]
              refine wpAnyH_done (by kernel_rfl) ?_ _
              have c11 := b11.trans (e2.mono b11.size)
              clear hHeld
              go_wp2
              go_roundw
              case rel => exact ⟨k + 1, by omega, by go_num, by rw [HEQ.out], HA, c11⟩
              case measure => simp [intOf]; omega
            · have hk1 : (0 : Int) < (k : Int) := by omega
              rw [if_neg hk0] at HNXT
              rw [← HNXT.out] at hml
              clear hk0
              have d0 : ∀ w, (Op.stringOp .add (strB s0) ⟨#[59, 32]⟩).run Tryd.prog w = .ok (.string (strB (s0 ++ [59, 32]))) w := strB_add s0 [59, 32] (by simp only [List.length_append, List.length_cons, List.length_nil] at hml ⊢; omega)
              generalize s0 ++ [59, 32] = s1 at *
              have d1 : ∀ w, (Op.stringOp .add (strB s1) (strB ta)).run Tryd.prog w = .ok (.string (strB (s1 ++ ta))) w := strB_add s1 ta (by simp only [List.length_append, List.length_cons, List.length_nil] at hml ⊢; omega)
              have d2 : ∀ w, (Op.stringOp .add (strB (s1 ++ ta)) ⟨#[46, 46]⟩).run Tryd.prog w = .ok (.string (strB (s1 ++ ta ++ [46, 46]))) w := strB_add (s1 ++ ta) [46, 46] (by simp only [List.length_append, List.length_cons, List.length_nil] at hml ⊢; omega)
              have d3 : ∀ w, (Op.stringOp .add (strB (s1 ++ ta ++ [46, 46])) (strB tb)).run Tryd.prog w = .ok (.string (strB (s1 ++ ta ++ [46, 46] ++ tb))) w := strB_add (s1 ++ ta ++ [46, 46]) tb (by simp only [List.length_append, List.length_cons, List.length_nil] at hml ⊢; omega)
              have d4 : ∀ w, (Op.stringOp .add (strB (s1 ++ ta ++ [46, 46] ++ tb)) ⟨#[32]⟩).run Tryd.prog w = .ok (.string (strB (s1 ++ ta ++ [46, 46] ++ tb ++ [32]))) w := strB_add (s1 ++ ta ++ [46, 46] ++ tb) [32] (by simp only [List.length_append, List.length_cons, List.length_nil] at hml ⊢; omega)
              have d5 : ∀ w, (Op.stringOp .add (strB (s1 ++ ta ++ [46, 46] ++ tb ++ [32])) (strB tx)).run Tryd.prog w = .ok (.string (strB (s1 ++ ta ++ [46, 46] ++ tb ++ [32] ++ tx))) w := strB_add (s1 ++ ta ++ [46, 46] ++ tb ++ [32]) tx (by simp only [List.length_append, List.length_cons, List.length_nil] at hml ⊢; omega)
              have HEQ : Hid (s1 ++ ta ++ [46, 46] ++ tb ++ [32] ++ tx = glueTo rs (k + 1)) := Lib.hid (by rw [← HNXT.out]; simp only [List.append_assoc])
              generalize s1 ++ ta ++ [46, 46] ++ tb ++ [32] ++ tx = y5 at *
              generalize s1 ++ ta ++ [46, 46] ++ tb ++ [32] = y4 at *
              generalize s1 ++ ta ++ [46, 46] ++ tb = y3 at *
              generalize s1 ++ ta ++ [46, 46] = y2 at *
              generalize s1 ++ ta = y1 at *
              clear hml
              go_wp2
              refine wp_region_held_drew (S := fun w' => w'.cell? ⟨b, off + k * 3, none⟩ = some (.int .i64 sf) ∧ w'.cell? ⟨b, off + k * 3 + 1, none⟩ = some (.int .i64 st)) (by kernel_rfl) ⟨p1, p2⟩ (fun hHeld => ?_)
              have e0 := below_drew (Below.refl W1.heap.size W1)
              refine take_runs (i := 0) (v := ?_) (by simp only [List.getElem?_toArray, List.getElem?_cons_succ, List.getElem?_cons_zero]; rfl) (by kernel_rfl) (by kernel_rfl) (by kernel_rfl) rfl (by exact fun _ _ _ h => h) (by rfl) ?_ (by assumption) ?_
              rotate_left
              · intro w hSw; (try dsimp only at hSw); go_simp; try (with_reducible rfl)
              try simp only [Act.put, List.setIfInBounds_toArray, List.set_cons_zero, List.set_cons_succ]
              refine take_runs (i := 1) (v := ?_) (by simp only [List.getElem?_toArray, List.getElem?_cons_succ, List.getElem?_cons_zero]; rfl) (by kernel_rfl) (by kernel_rfl) (by kernel_rfl) rfl (by exact fun _ _ _ h => h) (by rfl) ?_ (by assumption) ?_
              rotate_left
              · intro w hSw; (try dsimp only at hSw); go_simp; try (with_reducible rfl)
              try simp only [Act.put, List.setIfInBounds_toArray, List.set_cons_zero, List.set_cons_succ]
              refine take_runs (i := 2) (v := ?_) (by simp only [List.getElem?_toArray, List.getElem?_cons_succ, List.getElem?_cons_zero]; rfl) (by kernel_rfl) (by kernel_rfl) (by kernel_rfl) rfl (by exact fun _ _ _ h => h) (by rfl) ?_ (by assumption) ?_
              rotate_left
              · intro w hSw; (try dsimp only at hSw); go_simp; try (with_reducible rfl)
              try simp only [Act.put, List.setIfInBounds_toArray, List.set_cons_zero, List.set_cons_succ]
              refine take_runs (i := 3) (v := ?_) (by simp only [List.getElem?_toArray, List.getElem?_cons_succ, List.getElem?_cons_zero]; rfl) (by kernel_rfl) (by kernel_rfl) (by kernel_rfl) rfl (by exact fun _ _ _ h => h) (by rfl) ?_ (by assumption) ?_
              rotate_left
              · intro w hSw; (try dsimp only at hSw); go_simp; try (with_reducible rfl)
              try simp only [Act.put, List.setIfInBounds_toArray, List.set_cons_zero, List.set_cons_succ]
              refine take_runs (i := 4) (v := ?_) (by simp only [List.getElem?_toArray, List.getElem?_cons_succ, List.getElem?_cons_zero]; rfl) (by kernel_rfl) (by kernel_rfl) (by kernel_rfl) rfl (by exact fun _ _ _ h => h) (by rfl) ?_ (by assumption) ?_
              rotate_left
              · intro w hSw; (try dsimp only at hSw); go_simp; try (with_reducible rfl)
              try simp only [Act.put, List.setIfInBounds_toArray, List.set_cons_zero, List.set_cons_succ]
              refine take_runs (i := 5) (v := ?_) (by simp only [List.getElem?_toArray, List.getElem?_cons_succ, List.getElem?_cons_zero]; rfl) (by kernel_rfl) (by kernel_rfl) (by kernel_rfl) rfl (by exact fun _ _ _ h => h) (by rfl) ?_ (by assumption) ?_
              rotate_left
              · intro w hSw; (try dsimp only at hSw); go_simp; try (with_reducible rfl)
              try simp only [Act.put, List.setIfInBounds_toArray, List.set_cons_zero, List.set_cons_succ]
              refine take_runs (i := 9) (v := ?_) (by simp only [List.getElem?_toArray, List.getElem?_cons_succ, List.getElem?_cons_zero]; rfl) (by kernel_rfl) (by kernel_rfl) (by kernel_rfl) rfl (by exact fun _ _ _ h => h) (by rfl) ?_ (by assumption) ?_
              rotate_left
              · intro w hSw; (try dsimp only at hSw); go_simp; try (with_reducible rfl)
              try simp only [Act.put, List.setIfInBounds_toArray, List.set_cons_zero, List.set_cons_succ]
              refine take_runs (i := 10) (v := ?_) (by simp only [List.getElem?_toArray, List.getElem?_cons_succ, List.getElem?_cons_zero]; rfl) (by kernel_rfl) (by kernel_rfl) (by kernel_rfl) rfl (by exact fun _ _ _ h => h) (by rfl) ?_ (by assumption) ?_
              rotate_left
              · intro w hSw; (try dsimp only at hSw); go_simp; try (with_reducible rfl)
              try simp only [Act.put, List.setIfInBounds_toArray, List.set_cons_zero, List.set_cons_succ]
              refine take_runs (i := 11) (v := ?_) (by simp only [List.getElem?_toArray, List.getElem?_cons_succ, List.getElem?_cons_zero]; rfl) (by kernel_rfl) (by kernel_rfl) (by kernel_rfl) rfl (by exact fun _ _ _ h => h) (by rfl) ?_ (by assumption) ?_
              rotate_left
              · intro w hSw; (try dsimp only at hSw); go_simp; try (with_reducible rfl)
              try simp only [Act.put, List.setIfInBounds_toArray, List.set_cons_zero, List.set_cons_succ]
              refine take_runs (i := 12) (v := ?_) (by simp only [List.getElem?_toArray, List.getElem?_cons_succ, List.getElem?_cons_zero]; rfl) (by kernel_rfl) (by kernel_rfl) (by kernel_rfl) rfl (by exact fun _ _ _ h => h) (by rfl) ?_ (by assumption) ?_
              rotate_left
              · intro w hSw; (try dsimp only at hSw); go_simp; try (with_reducible rfl)
              try simp only [Act.put, List.setIfInBounds_toArray, List.set_cons_zero, List.set_cons_succ]
              refine take_runs (i := 13) (v := ?_) (by simp only [List.getElem?_toArray, List.getElem?_cons_succ, List.getElem?_cons_zero]; rfl) (by kernel_rfl) (by kernel_rfl) (by kernel_rfl) rfl (by exact fun _ _ _ h => h) (by rfl) ?_ (by assumption) ?_
              rotate_left
              · intro w hSw; (try dsimp only at hSw); go_simp; try (with_reducible rfl)
              try simp only [Act.put, List.setIfInBounds_toArray, List.set_cons_zero, List.set_cons_succ]
              refine take_runs (i := 17) (v := ?_) (by simp only [List.getElem?_toArray, List.getElem?_cons_succ, List.getElem?_cons_zero]; rfl) (by kernel_rfl) (by kernel_rfl) (by kernel_rfl) rfl (by exact fun _ _ _ h => h) (by rfl) ?_ (by assumption) ?_
              rotate_left
              · intro w hSw; (try dsimp only at hSw); go_simp; try (with_reducible rfl)
              try simp only [Act.put, List.setIfInBounds_toArray, List.set_cons_zero, List.set_cons_succ]
              refine wpAnyH_ready (rs := [6]) (by kernel_rfl) (by simp) ?_
              refine (AllReadyH.cons (o := _) (by simp only [List.getElem?_toArray, List.getElem?_cons_succ, List.getElem?_cons_zero]; rfl) (fun K hK => ?_) AllReadyH.nil)
              go_simp
              refine (HFA.out _).mono ?_
              rintro e x1 ⟨rfl, k1⟩
              have e1 : Below W1.heap.size W1 x1 := e0.trans (k1.mono e0.size)
              refine hK.out _ _ ⟨(e1.cell (p := ⟨b, off + k * 3, none⟩) hbW).trans p1, (e1.cell (p := ⟨b, off + k * 3 + 1, none⟩) hbW).trans p2⟩ (fun hHeld => ?_)
              clear hK K
              try simp only [Act.put, List.setIfInBounds_toArray, List.set_cons_zero, List.set_cons_succ]
              refine take_runs (i := 7) (v := ?_) (by simp only [List.getElem?_toArray, List.getElem?_cons_succ, List.getElem?_cons_zero]; rfl) (by kernel_rfl) (by kernel_rfl) (by kernel_rfl) rfl (by exact fun _ _ _ h => h) (by rfl) ?_ (by assumption) ?_
              rotate_left
              · intro w hSw; (try dsimp only at hSw); go_simp; try (with_reducible rfl)
              try simp only [Act.put, List.setIfInBounds_toArray, List.set_cons_zero, List.set_cons_succ]
              refine take_runs (i := 8) (v := ?_) (by simp only [List.getElem?_toArray, List.getElem?_cons_succ, List.getElem?_cons_zero]; rfl) (by kernel_rfl) (by kernel_rfl) (by kernel_rfl) rfl (by exact fun _ _ _ h => h) (by rfl) ?_ (by assumption) ?_
              rotate_left
              · intro w hSw; (try dsimp only at hSw); go_simp; try (with_reducible rfl)
              try simp only [Act.put, List.setIfInBounds_toArray, List.set_cons_zero, List.set_cons_succ]
              refine wpAnyH_ready (rs := [14]) (by kernel_rfl) (by simp) ?_
              refine (AllReadyH.cons (o := _) (by simp only [List.getElem?_toArray, List.getElem?_cons_succ, List.getElem?_cons_zero]; rfl) (fun K hK => ?_) AllReadyH.nil)
              go_simp
              refine (HFB.out _).mono ?_
              rintro e x2 ⟨rfl, k2⟩
              have e2 : Below W1.heap.size W1 x2 := e1.trans (k2.mono e1.size)
              refine hK.out _ _ ⟨(e2.cell (p := ⟨b, off + k * 3, none⟩) hbW).trans p1, (e2.cell (p := ⟨b, off + k * 3 + 1, none⟩) hbW).trans p2⟩ (fun hHeld => ?_)
              clear hK K
              try simp only [Act.put, List.setIfInBounds_toArray, List.set_cons_zero, List.set_cons_succ]
              refine take_runs (i := 15) (v := ?_) (by simp only [List.getElem?_toArray, List.getElem?_cons_succ, List.getElem?_cons_zero]; rfl) (by kernel_rfl) (by kernel_rfl) (by kernel_rfl) rfl (by exact fun _ _ _ h => h) (by rfl) ?_ (by assumption) ?_
              rotate_left
              · intro w hSw; (try dsimp only at hSw); go_simp; try (with_reducible rfl)
              try simp only [Act.put, List.setIfInBounds_toArray, List.set_cons_zero, List.set_cons_succ]
              refine take_runs (i := 16) (v := ?_) (by simp only [List.getElem?_toArray, List.getElem?_cons_succ, List.getElem?_cons_zero]; rfl) (by kernel_rfl) (by kernel_rfl) (by kernel_rfl) rfl (by exact fun _ _ _ h => h) (by rfl) ?_ (by assumption) ?_
              rotate_left
              · intro w hSw; (try dsimp only at hSw); go_simp; try (with_reducible rfl)
              try simp only [Act.put, List.setIfInBounds_toArray, List.set_cons_zero, List.set_cons_succ]
              refine take_runs (i := 18) (v := ?_) (by simp only [List.getElem?_toArray, List.getElem?_cons_succ, List.getElem?_cons_zero]; rfl) (by kernel_rfl) (by kernel_rfl) (by kernel_rfl) rfl (by exact fun _ _ _ h => h) (by rfl) ?_ (by assumption) ?_
              rotate_left
              · intro w hSw; (try dsimp only at hSw); go_simp; try (with_reducible rfl)
              try simp only [Act.put, List.setIfInBounds_toArray, List.set_cons_zero, List.set_cons_succ]
              refine take_runs (i := 19) (v := ?_) (by simp only [List.getElem?_toArray, List.getElem?_cons_succ, List.getElem?_cons_zero]; rfl) (by kernel_rfl) (by kernel_rfl) (by kernel_rfl) rfl (by exact fun _ _ _ h => h) (by rfl) ?_ (by assumption) ?_
              rotate_left
              · intro w hSw; (try dsimp only at hSw); go_simp; try (with_reducible rfl)
              try simp only [Act.put, List.setIfInBounds_toArray, List.set_cons_zero, List.set_cons_succ]
              refine wpAnyH_done (by kernel_rfl) ?_ _
              have c11 := b11.trans (e2.mono b11.size)
              clear hHeld
              go_wp2
              go_roundw
              case rel => exact ⟨k + 1, by omega, by go_num, by rw [HEQ.out], HA, c11⟩
              case measure => simp [intOf]; omega
          · have HF := Lib.hid (HBAD.out (by unfold spanB; rw [decide_eq_false ht, Bool.and_false, Bool.false_and]))
            have ht2 : (99 : Int) < st := by omega
            clear hset HBAD HALL HML HNXT hr ht
            go_wp2
            refine wp_region_held_drew (S := fun w' => w'.cell? ⟨b, off + k * 3, none⟩ = some (.int .i64 sf) ∧ w'.cell? ⟨b, off + k * 3 + 1, none⟩ = some (.int .i64 st)) (by kernel_rfl) ⟨hc1, hc2⟩ (fun hHeld => ?_)
            refine take_runs (i := 0) (v := ?_) (by simp only [List.getElem?_toArray, List.getElem?_cons_succ, List.getElem?_cons_zero]; rfl) (by kernel_rfl) (by kernel_rfl) (by kernel_rfl) rfl (by exact fun _ _ _ h => h) (by rfl) ?_ (by assumption) ?_
            rotate_left
            · intro w hSw; (try dsimp only at hSw); go_simp; try (with_reducible rfl)
            try simp only [Act.put, List.setIfInBounds_toArray, List.set_cons_zero, List.set_cons_succ]
            refine take_runs (i := 1) (v := ?_) (by simp only [List.getElem?_toArray, List.getElem?_cons_succ, List.getElem?_cons_zero]; rfl) (by kernel_rfl) (by kernel_rfl) (by kernel_rfl) rfl (by exact fun _ _ _ h => h) (by rfl) ?_ (by assumption) ?_
            rotate_left
            · intro w hSw; (try dsimp only at hSw); go_simp; try (with_reducible rfl)
            try simp only [Act.put, List.setIfInBounds_toArray, List.set_cons_zero, List.set_cons_succ]
            refine take_runs (i := 2) (v := ?_) (by simp only [List.getElem?_toArray, List.getElem?_cons_succ, List.getElem?_cons_zero]; rfl) (by kernel_rfl) (by kernel_rfl) (by kernel_rfl) rfl (by exact fun _ _ _ h => h) (by rfl) ?_ (by assumption) ?_
            rotate_left
            · intro w hSw; (try dsimp only at hSw); go_simp; try (with_reducible rfl)
            try simp only [Act.put, List.setIfInBounds_toArray, List.set_cons_zero, List.set_cons_succ]
            refine take_runs (i := 3) (v := ?_) (by simp only [List.getElem?_toArray, List.getElem?_cons_succ, List.getElem?_cons_zero]; rfl) (by kernel_rfl) (by kernel_rfl) (by kernel_rfl) rfl (by exact fun _ _ _ h => h) (by rfl) ?_ (by assumption) ?_
            rotate_left
            · intro w hSw; (try dsimp only at hSw); go_simp; try (with_reducible rfl)
            try simp only [Act.put, List.setIfInBounds_toArray, List.set_cons_zero, List.set_cons_succ]
            refine take_runs (i := 4) (v := ?_) (by simp only [List.getElem?_toArray, List.getElem?_cons_succ, List.getElem?_cons_zero]; rfl) (by kernel_rfl) (by kernel_rfl) (by kernel_rfl) rfl (by exact fun _ _ _ h => h) (by rfl) ?_ (by assumption) ?_
            rotate_left
            · intro w hSw; (try dsimp only at hSw); go_simp; try (with_reducible rfl)
            try simp only [Act.put, List.setIfInBounds_toArray, List.set_cons_zero, List.set_cons_succ]
            refine take_runs (i := 5) (v := ?_) (by simp only [List.getElem?_toArray, List.getElem?_cons_succ, List.getElem?_cons_zero]; rfl) (by kernel_rfl) (by kernel_rfl) (by kernel_rfl) rfl (by exact fun _ _ _ h => h) (by rfl) ?_ (by assumption) ?_
            rotate_left
            · intro w hSw; (try dsimp only at hSw); go_simp; try (with_reducible rfl)
            try simp only [Act.put, List.setIfInBounds_toArray, List.set_cons_zero, List.set_cons_succ]
            refine take_runs (i := 6) (v := ?_) (by simp only [List.getElem?_toArray, List.getElem?_cons_succ, List.getElem?_cons_zero]; rfl) (by kernel_rfl) (by kernel_rfl) (by kernel_rfl) rfl (by exact fun _ _ _ h => h) (by rfl) ?_ (by assumption) ?_
            rotate_left
            · intro w hSw; (try dsimp only at hSw); go_simp; try (with_reducible rfl)
            try simp only [Act.put, List.setIfInBounds_toArray, List.set_cons_zero, List.set_cons_succ]
            refine take_runs (i := 7) (v := ?_) (by simp only [List.getElem?_toArray, List.getElem?_cons_succ, List.getElem?_cons_zero]; rfl) (by kernel_rfl) (by kernel_rfl) (by kernel_rfl) rfl (by exact fun _ _ _ h => h) (by rfl) ?_ (by assumption) ?_
            rotate_left
            · intro w hSw; (try dsimp only at hSw); go_simp; try (with_reducible rfl)
            try simp only [Act.put, List.setIfInBounds_toArray, List.set_cons_zero, List.set_cons_succ]
            refine take_runs (i := 8) (v := ?_) (by simp only [List.getElem?_toArray, List.getElem?_cons_succ, List.getElem?_cons_zero]; rfl) (by kernel_rfl) (by kernel_rfl) (by kernel_rfl) rfl (by exact fun _ _ _ h => h) (by rfl) ?_ (by assumption) ?_
            rotate_left
            · intro w hSw; (try dsimp only at hSw); go_simp; try (with_reducible rfl)
            try simp only [Act.put, List.setIfInBounds_toArray, List.set_cons_zero, List.set_cons_succ]
            refine take_runs (i := 9) (v := ?_) (by simp only [List.getElem?_toArray, List.getElem?_cons_succ, List.getElem?_cons_zero]; rfl) (by kernel_rfl) (by kernel_rfl) (by kernel_rfl) rfl (by exact fun _ _ _ h => h) (by rfl) ?_ (by assumption) ?_
            rotate_left
            · intro w hSw; (try dsimp only at hSw); go_simp; try (with_reducible rfl)
            try simp only [Act.put, List.setIfInBounds_toArray, List.set_cons_zero, List.set_cons_succ]
            refine take_runs (i := 10) (v := ?_) (by simp only [List.getElem?_toArray, List.getElem?_cons_succ, List.getElem?_cons_zero]; rfl) (by kernel_rfl) (by kernel_rfl) (by kernel_rfl) rfl (by exact fun _ _ _ h => h) (by rfl) ?_ (by assumption) ?_
            rotate_left
            · intro w hSw; (try dsimp only at hSw); go_simp; try (with_reducible rfl)
            try simp only [Act.put, List.setIfInBounds_toArray, List.set_cons_zero, List.set_cons_succ]
            refine take_runs (i := 11) (v := ?_) (by simp only [List.getElem?_toArray, List.getElem?_cons_succ, List.getElem?_cons_zero]; rfl) (by kernel_rfl) (by kernel_rfl) (by kernel_rfl) rfl (by exact fun _ _ _ h => h) (by rfl) ?_ (by assumption) ?_
            rotate_left
            · intro w hSw; (try dsimp only at hSw); go_simp; try (with_reducible rfl)
            try simp only [Act.put, List.setIfInBounds_toArray, List.set_cons_zero, List.set_cons_succ]
            refine take_runs (i := 12) (v := ?_) (by simp only [List.getElem?_toArray, List.getElem?_cons_succ, List.getElem?_cons_zero]; rfl) (by kernel_rfl) (by kernel_rfl) (by kernel_rfl) rfl (by exact fun _ _ _ h => h) (by rfl) ?_ (by assumption) ?_
            rotate_left
            · intro w hSw; (try dsimp only at hSw); go_simp; try (with_reducible rfl)
            try simp only [Act.put, List.setIfInBounds_toArray, List.set_cons_zero, List.set_cons_succ]
            refine wpAnyH_ready (rs := [13]) (by kernel_rfl) (by simp) ?_
            refine AllReadyH.cons (o := _) (by simp only [List.getElem?_toArray, List.getElem?_cons_succ, List.getElem?_cons_zero]; rfl) (fun K hK => ?_) AllReadyH.nil
            go_simp
            refine (HIN.out _).mono ?_
            rintro e w8 ⟨rfl, rfl⟩
            refine hK.out _ _ ⟨hc1, hc2⟩ (fun hHeld => ?_)
            clear hK K
            try simp only [Act.put, List.setIfInBounds_toArray, List.set_cons_zero, List.set_cons_succ]
            refine take_runs (i := 14) (v := ?_) (by simp only [List.getElem?_toArray, List.getElem?_cons_succ, List.getElem?_cons_zero]; rfl) (by kernel_rfl) (by kernel_rfl) (by kernel_rfl) rfl (by exact fun _ _ _ h => h) (by rfl) ?_ (by assumption) ?_
            rotate_left
            · intro w hSw; (try dsimp only at hSw); go_simp; try (with_reducible rfl)
            try simp only [Act.put, List.setIfInBounds_toArray, List.set_cons_zero, List.set_cons_succ]
            refine take_runs (i := 15) (v := ?_) (by simp only [List.getElem?_toArray, List.getElem?_cons_succ, List.getElem?_cons_zero]; rfl) (by kernel_rfl) (by kernel_rfl) (by kernel_rfl) rfl (by exact fun _ _ _ h => h) (by rfl) ?_ (by assumption) ?_
            rotate_left
            · intro w hSw; (try dsimp only at hSw); go_simp; try (with_reducible rfl)
            try simp only [Act.put, List.setIfInBounds_toArray, List.set_cons_zero, List.set_cons_succ]
            refine take_runs (i := 16) (v := ?_) (by simp only [List.getElem?_toArray, List.getElem?_cons_succ, List.getElem?_cons_zero]; rfl) (by kernel_rfl) (by kernel_rfl) (by kernel_rfl) rfl (by exact fun _ _ _ h => h) (by rfl) ?_ (by assumption) ?_
            rotate_left
            · intro w hSw; (try dsimp only at hSw); go_simp; try (with_reducible rfl)
            try simp only [Act.put, List.setIfInBounds_toArray, List.set_cons_zero, List.set_cons_succ]
            refine take_runs (i := 17) (v := ?_) (by simp only [List.getElem?_toArray, List.getElem?_cons_succ, List.getElem?_cons_zero]; rfl) (by kernel_rfl) (by kernel_rfl) (by kernel_rfl) rfl (by exact fun _ _ _ h => h) (by rfl) ?_ (by assumption) ?_
            rotate_left
            · intro w hSw; (try dsimp only at hSw); go_simp; try (with_reducible rfl)
            try simp only [Act.put, List.setIfInBounds_toArray, List.set_cons_zero, List.set_cons_succ]
            refine take_runs (i := 18) (v := ?_) (by simp only [List.getElem?_toArray, List.getElem?_cons_succ, List.getElem?_cons_zero]; rfl) (by kernel_rfl) (by kernel_rfl) (by kernel_rfl) rfl (by exact fun _ _ _ h => h) (by rfl) ?_ (by assumption) ?_
            rotate_left
            · intro w hSw; (try dsimp only at hSw); go_simp; try (with_reducible rfl)
            try simp only [Act.put, List.setIfInBounds_toArray, List.set_cons_zero, List.set_cons_succ]
            refine take_runs (i := 19) (v := ?_) (by simp only [List.getElem?_toArray, List.getElem?_cons_succ, List.getElem?_cons_zero]; rfl) (by kernel_rfl) (by kernel_rfl) (by kernel_rfl) rfl (by exact fun _ _ _ h => h) (by rfl) ?_ (by assumption) ?_
            rotate_left
            · intro w hSw; (try dsimp only at hSw); go_simp; try (with_reducible rfl)
            try simp only [Act.put, List.setIfInBounds_toArray, List.set_cons_zero, List.set_cons_succ]
            refine take_runs (i := 20) (v := ?_) (by simp only [List.getElem?_toArray, List.getElem?_cons_succ, List.getElem?_cons_zero]; rfl) (by kernel_rfl) (by kernel_rfl) (by kernel_rfl) rfl (by exact fun _ _ _ h => h) (by rfl) ?_ (by assumption) ?_
            rotate_left
            · intro w hSw; (try dsimp only at hSw); go_simp; try (with_reducible rfl)
            try simp only [Act.put, List.setIfInBounds_toArray, List.set_cons_zero, List.set_cons_succ]
            refine take_runs (i := 21) (v := ?_) (by simp only [List.getElem?_toArray, List.getElem?_cons_succ, List.getElem?_cons_zero]; rfl) (by kernel_rfl) (by kernel_rfl) (by kernel_rfl) rfl (by exact fun _ _ _ h => h) (by rfl) ?_ (by assumption) ?_
            rotate_left
            · intro w hSw; (try dsimp only at hSw); go_simp; try (with_reducible rfl)
            try simp only [Act.put, List.setIfInBounds_toArray, List.set_cons_zero, List.set_cons_succ]
            refine take_runs (i := 22) (v := ?_) (by simp only [List.getElem?_toArray, List.getElem?_cons_succ, List.getElem?_cons_zero]; rfl) (by kernel_rfl) (by kernel_rfl) (by kernel_rfl) rfl (by exact fun _ _ _ h => h) (by rfl) ?_ (by assumption) ?_
            rotate_left
            · intro w hSw; (try dsimp only at hSw); go_simp; try (with_reducible rfl)
            try simp only [Act.put, List.setIfInBounds_toArray, List.set_cons_zero, List.set_cons_succ]
            refine take_runs (i := 23) (v := ?_) (by simp only [List.getElem?_toArray, List.getElem?_cons_succ, List.getElem?_cons_zero]; rfl) (by kernel_rfl) (by kernel_rfl) (by kernel_rfl) rfl (by exact fun _ _ _ h => h) (by rfl) ?_ (by assumption) ?_
            rotate_left
            · intro w hSw; (try dsimp only at hSw); go_simp; try (with_reducible rfl)
            try simp only [Act.put, List.setIfInBounds_toArray, List.set_cons_zero, List.set_cons_succ]
            refine wpAnyH_done (by kernel_rfl) ?_ _
            have b11 : Below w.heap.size w w2.drew := below_drew b2
            clear hHeld
            go_wp2
            go_ret
            exact ⟨ret_s HF.out.symm, b11⟩
        · have HF := Lib.hid (HBAD.out (by unfold spanB; rw [decide_eq_false hr, Bool.false_and, Bool.false_and]))
          rw [decide_eq_false hr] at HIN
          clear hset HBAD HALL HML HNXT hr
          go_wp2
          refine wp_region_held_drew (S := fun w' => w'.cell? ⟨b, off + k * 3, none⟩ = some (.int .i64 sf) ∧ w'.cell? ⟨b, off + k * 3 + 1, none⟩ = some (.int .i64 st)) (by kernel_rfl) ⟨hc1, hc2⟩ (fun hHeld => ?_)
          refine take_runs (i := 0) (v := ?_) (by simp only [List.getElem?_toArray, List.getElem?_cons_succ, List.getElem?_cons_zero]; rfl) (by kernel_rfl) (by kernel_rfl) (by kernel_rfl) rfl (by exact fun _ _ _ h => h) (by rfl) ?_ (by assumption) ?_
          rotate_left
          · intro w hSw; (try dsimp only at hSw); go_simp; try (with_reducible rfl)
          try simp only [Act.put, List.setIfInBounds_toArray, List.set_cons_zero, List.set_cons_succ]
          refine take_runs (i := 1) (v := ?_) (by simp only [List.getElem?_toArray, List.getElem?_cons_succ, List.getElem?_cons_zero]; rfl) (by kernel_rfl) (by kernel_rfl) (by kernel_rfl) rfl (by exact fun _ _ _ h => h) (by rfl) ?_ (by assumption) ?_
          rotate_left
          · intro w hSw; (try dsimp only at hSw); go_simp; try (with_reducible rfl)
          try simp only [Act.put, List.setIfInBounds_toArray, List.set_cons_zero, List.set_cons_succ]
          refine take_runs (i := 2) (v := ?_) (by simp only [List.getElem?_toArray, List.getElem?_cons_succ, List.getElem?_cons_zero]; rfl) (by kernel_rfl) (by kernel_rfl) (by kernel_rfl) rfl (by exact fun _ _ _ h => h) (by rfl) ?_ (by assumption) ?_
          rotate_left
          · intro w hSw; (try dsimp only at hSw); go_simp; try (with_reducible rfl)
          try simp only [Act.put, List.setIfInBounds_toArray, List.set_cons_zero, List.set_cons_succ]
          refine take_runs (i := 3) (v := ?_) (by simp only [List.getElem?_toArray, List.getElem?_cons_succ, List.getElem?_cons_zero]; rfl) (by kernel_rfl) (by kernel_rfl) (by kernel_rfl) rfl (by exact fun _ _ _ h => h) (by rfl) ?_ (by assumption) ?_
          rotate_left
          · intro w hSw; (try dsimp only at hSw); go_simp; try (with_reducible rfl)
          try simp only [Act.put, List.setIfInBounds_toArray, List.set_cons_zero, List.set_cons_succ]
          refine take_runs (i := 4) (v := ?_) (by simp only [List.getElem?_toArray, List.getElem?_cons_succ, List.getElem?_cons_zero]; rfl) (by kernel_rfl) (by kernel_rfl) (by kernel_rfl) rfl (by exact fun _ _ _ h => h) (by rfl) ?_ (by assumption) ?_
          rotate_left
          · intro w hSw; (try dsimp only at hSw); go_simp; try (with_reducible rfl)
          try simp only [Act.put, List.setIfInBounds_toArray, List.set_cons_zero, List.set_cons_succ]
          refine take_runs (i := 5) (v := ?_) (by simp only [List.getElem?_toArray, List.getElem?_cons_succ, List.getElem?_cons_zero]; rfl) (by kernel_rfl) (by kernel_rfl) (by kernel_rfl) rfl (by exact fun _ _ _ h => h) (by rfl) ?_ (by assumption) ?_
          rotate_left
          · intro w hSw; (try dsimp only at hSw); go_simp; try (with_reducible rfl)
          try simp only [Act.put, List.setIfInBounds_toArray, List.set_cons_zero, List.set_cons_succ]
          refine take_runs (i := 6) (v := ?_) (by simp only [List.getElem?_toArray, List.getElem?_cons_succ, List.getElem?_cons_zero]; rfl) (by kernel_rfl) (by kernel_rfl) (by kernel_rfl) rfl (by exact fun _ _ _ h => h) (by rfl) ?_ (by assumption) ?_
          rotate_left
          · intro w hSw; (try dsimp only at hSw); go_simp; try (with_reducible rfl)
          try simp only [Act.put, List.setIfInBounds_toArray, List.set_cons_zero, List.set_cons_succ]
          refine take_runs (i := 7) (v := ?_) (by simp only [List.getElem?_toArray, List.getElem?_cons_succ, List.getElem?_cons_zero]; rfl) (by kernel_rfl) (by kernel_rfl) (by kernel_rfl) rfl (by exact fun _ _ _ h => h) (by rfl) ?_ (by assumption) ?_
          rotate_left
          · intro w hSw; (try dsimp only at hSw); go_simp; try (with_reducible rfl)
          try simp only [Act.put, List.setIfInBounds_toArray, List.set_cons_zero, List.set_cons_succ]
          refine take_runs (i := 8) (v := ?_) (by simp only [List.getElem?_toArray, List.getElem?_cons_succ, List.getElem?_cons_zero]; rfl) (by kernel_rfl) (by kernel_rfl) (by kernel_rfl) rfl (by exact fun _ _ _ h => h) (by rfl) ?_ (by assumption) ?_
          rotate_left
          · intro w hSw; (try dsimp only at hSw); go_simp; try (with_reducible rfl)
          try simp only [Act.put, List.setIfInBounds_toArray, List.set_cons_zero, List.set_cons_succ]
          refine take_runs (i := 9) (v := ?_) (by simp only [List.getElem?_toArray, List.getElem?_cons_succ, List.getElem?_cons_zero]; rfl) (by kernel_rfl) (by kernel_rfl) (by kernel_rfl) rfl (by exact fun _ _ _ h => h) (by rfl) ?_ (by assumption) ?_
          rotate_left
          · intro w hSw; (try dsimp only at hSw); go_simp; try (with_reducible rfl)
          try simp only [Act.put, List.setIfInBounds_toArray, List.set_cons_zero, List.set_cons_succ]
          refine take_runs (i := 10) (v := ?_) (by simp only [List.getElem?_toArray, List.getElem?_cons_succ, List.getElem?_cons_zero]; rfl) (by kernel_rfl) (by kernel_rfl) (by kernel_rfl) rfl (by exact fun _ _ _ h => h) (by rfl) ?_ (by assumption) ?_
          rotate_left
          · intro w hSw; (try dsimp only at hSw); go_simp; try (with_reducible rfl)
          try simp only [Act.put, List.setIfInBounds_toArray, List.set_cons_zero, List.set_cons_succ]
          refine take_runs (i := 11) (v := ?_) (by simp only [List.getElem?_toArray, List.getElem?_cons_succ, List.getElem?_cons_zero]; rfl) (by kernel_rfl) (by kernel_rfl) (by kernel_rfl) rfl (by exact fun _ _ _ h => h) (by rfl) ?_ (by assumption) ?_
          rotate_left
          · intro w hSw; (try dsimp only at hSw); go_simp; try (with_reducible rfl)
          try simp only [Act.put, List.setIfInBounds_toArray, List.set_cons_zero, List.set_cons_succ]
          refine take_runs (i := 12) (v := ?_) (by simp only [List.getElem?_toArray, List.getElem?_cons_succ, List.getElem?_cons_zero]; rfl) (by kernel_rfl) (by kernel_rfl) (by kernel_rfl) rfl (by exact fun _ _ _ h => h) (by rfl) ?_ (by assumption) ?_
          rotate_left
          · intro w hSw; (try dsimp only at hSw); go_simp; try (with_reducible rfl)
          try simp only [Act.put, List.setIfInBounds_toArray, List.set_cons_zero, List.set_cons_succ]
          refine wpAnyH_ready (rs := [13]) (by kernel_rfl) (by simp) ?_
          refine AllReadyH.cons (o := _) (by simp only [List.getElem?_toArray, List.getElem?_cons_succ, List.getElem?_cons_zero]; rfl) (fun K hK => ?_) AllReadyH.nil
          go_simp
          refine (HIN.out _).mono ?_
          rintro e w8 ⟨rfl, rfl⟩
          refine hK.out _ _ ⟨hc1, hc2⟩ (fun hHeld => ?_)
          clear hK K
          try simp only [Act.put, List.setIfInBounds_toArray, List.set_cons_zero, List.set_cons_succ]
          refine take_runs (i := 14) (v := ?_) (by simp only [List.getElem?_toArray, List.getElem?_cons_succ, List.getElem?_cons_zero]; rfl) (by kernel_rfl) (by kernel_rfl) (by kernel_rfl) rfl (by exact fun _ _ _ h => h) (by rfl) ?_ (by assumption) ?_
          rotate_left
          · intro w hSw; (try dsimp only at hSw); go_simp; try (with_reducible rfl)
          try simp only [Act.put, List.setIfInBounds_toArray, List.set_cons_zero, List.set_cons_succ]
          refine take_runs (i := 15) (v := ?_) (by simp only [List.getElem?_toArray, List.getElem?_cons_succ, List.getElem?_cons_zero]; rfl) (by kernel_rfl) (by kernel_rfl) (by kernel_rfl) rfl (by exact fun _ _ _ h => h) (by rfl) ?_ (by assumption) ?_
          rotate_left
          · intro w hSw; (try dsimp only at hSw); go_simp; try (with_reducible rfl)
          try simp only [Act.put, List.setIfInBounds_toArray, List.set_cons_zero, List.set_cons_succ]
          refine take_runs (i := 16) (v := ?_) (by simp only [List.getElem?_toArray, List.getElem?_cons_succ, List.getElem?_cons_zero]; rfl) (by kernel_rfl) (by kernel_rfl) (by kernel_rfl) rfl (by exact fun _ _ _ h => h) (by rfl) ?_ (by assumption) ?_
          rotate_left
          · intro w hSw; (try dsimp only at hSw); go_simp; try (with_reducible rfl)
          try simp only [Act.put, List.setIfInBounds_toArray, List.set_cons_zero, List.set_cons_succ]
          refine take_over (i := 17) (by simp only [List.getElem?_toArray, List.getElem?_cons_succ, List.getElem?_cons_zero]; rfl) (by kernel_rfl) (by kernel_rfl) (by kernel_rfl) rfl (by exact fun _ _ _ h => h) (by rfl) (by assumption) ?_
          try simp only [Act.put, List.setIfInBounds_toArray, List.set_cons_zero, List.set_cons_succ]
          refine take_over (i := 18) (by simp only [List.getElem?_toArray, List.getElem?_cons_succ, List.getElem?_cons_zero]; rfl) (by kernel_rfl) (by kernel_rfl) (by kernel_rfl) rfl (by exact fun _ _ _ h => h) (by rfl) (by assumption) ?_
          try simp only [Act.put, List.setIfInBounds_toArray, List.set_cons_zero, List.set_cons_succ]
          refine take_over (i := 19) (by simp only [List.getElem?_toArray, List.getElem?_cons_succ, List.getElem?_cons_zero]; rfl) (by kernel_rfl) (by kernel_rfl) (by kernel_rfl) rfl (by exact fun _ _ _ h => h) (by rfl) (by assumption) ?_
          try simp only [Act.put, List.setIfInBounds_toArray, List.set_cons_zero, List.set_cons_succ]
          refine take_over (i := 20) (by simp only [List.getElem?_toArray, List.getElem?_cons_succ, List.getElem?_cons_zero]; rfl) (by kernel_rfl) (by kernel_rfl) (by kernel_rfl) rfl (by exact fun _ _ _ h => h) (by rfl) (by assumption) ?_
          try simp only [Act.put, List.setIfInBounds_toArray, List.set_cons_zero, List.set_cons_succ]
          refine take_over (i := 21) (by simp only [List.getElem?_toArray, List.getElem?_cons_succ, List.getElem?_cons_zero]; rfl) (by kernel_rfl) (by kernel_rfl) (by kernel_rfl) rfl (by exact fun _ _ _ h => h) (by rfl) (by assumption) ?_
          try simp only [Act.put, List.setIfInBounds_toArray, List.set_cons_zero, List.set_cons_succ]
          refine take_over (i := 22) (by simp only [List.getElem?_toArray, List.getElem?_cons_succ, List.getElem?_cons_zero]; rfl) (by kernel_rfl) (by kernel_rfl) (by kernel_rfl) rfl (by exact fun _ _ _ h => h) (by rfl) (by assumption) ?_
          try simp only [Act.put, List.setIfInBounds_toArray, List.set_cons_zero, List.set_cons_succ]
          refine take_runs (i := 23) (v := ?_) (by simp only [List.getElem?_toArray, List.getElem?_cons_succ, List.getElem?_cons_zero]; rfl) (by kernel_rfl) (by kernel_rfl) (by kernel_rfl) rfl (by exact fun _ _ _ h => h) (by rfl) ?_ (by assumption) ?_
          rotate_left
          · intro w hSw; (try dsimp only at hSw); go_simp; try (with_reducible rfl)
          try simp only [Act.put, List.setIfInBounds_toArray, List.set_cons_zero, List.set_cons_succ]
          refine wpAnyH_done (by kernel_rfl) ?_ _
          have b11 : Below w.heap.size w w2.drew := below_drew b2
          clear hHeld
          go_wp2
          go_ret
          exact ⟨ret_s HF.out.symm, b11⟩
    · obtain rfl : k = rs.length := by omega
      by_cases h0 : rs.length = 0
      · have HF := Lib.hid (fmtSp_none h0)
        have he : glueTo rs rs.length = [] := by rw [h0]; rfl
        rw [he]
        clear he
        obtain ⟨z1, z2⟩ := strB_none (l := []) rfl
        go_wp2
        go_ret
        exact ⟨ret_s HF.out.symm, hbel⟩
      · have HF := Lib.hid (fmtSp_all (by omega) hall.out)
        obtain ⟨z1, z2⟩ := strB_some (glueTo_ne rs rs.length (by omega))
        clear hall
        generalize glueTo rs rs.length = y at *
        go_wp2
        go_ret
        exact ⟨ret_s HF.out.symm, hbel⟩
end Go.Proofs.YtmkcfkblfjhnhaaDoor
namespace Go.Proofs.YtmkcfkblfjhnhaaDoor
open Go.RowKit
set_option linter.unusedVariables false
def tzL : List Int := Lib.deBruijn32tab.map fun n : Nat => (n : Int)
/-- The table of trailing zeros reads as its text lays it. -/
def TabZ (w : World) : Prop := Lib.TabIs Tryd.prog w "math/bits.deBruijn32tab" .u8 tzL
theorem TabZ.on {w w' : World} (h : TabZ w) (hb : Below w.heap.size w w') : TabZ w' := Lib.tabBelow_of_tabIs h w' hb
theorem zcell {w : World} (h : TabZ w) (i : Nat) (hi : i < 32) : w.cell? ⟨0, i, none⟩ = some (.int .u8 ((Lib.deBruijn32tab.getD i 0 : Nat) : Int)) := by
  have := Lib.TabIs.cell h (show Tryd.prog.globalNamed "math/bits.deBruijn32tab" = some 0 by kernel_rfl) i (by simpa [tzL, Lib.deBruijn32tab] using hi)
  rw [this]
  have hl : i < Lib.deBruijn32tab.length := by simpa [Lib.deBruijn32tab] using hi
  simp only [tzL, List.getD, List.getElem?_map, List.getElem?_eq_getElem hl, Option.map_some, Option.getD_some]
theorem tz32_zero (w : World) : Calls Tryd.prog 75 #[.int .u32 0] w fun e w' => e = .returned (.int .i64 32) ∧ w' = w := by
  go_enter Tryd.func75, Tryd.ntmps75
  go_wp2
  go_ret
  exact ⟨rfl, rfl⟩
theorem tz32_at (x k idx : Nat) (w : World) (hx0 : ((x : Int) == 0) = false)
    (key : bits BinOp.and IntKind.u32 (x : Int) (-(x : Int) % 4294967296) * 125613361 % 4294967296 / 134217728 = (idx : Int))
    (hi : idx < 32) (hk : k < 32) (hcell : w.cell? ⟨0, idx, none⟩ = some (.int .u8 k)) :
    Calls Tryd.prog 75 #[.int .u32 x] w fun e w' => e = .returned (.int .i64 k) ∧ w' = w := by
  go_enter Tryd.func75, Tryd.ntmps75
  go_wp2_with (simp only [key])
  go_ret
  exact ⟨rfl, rfl⟩
/-- math/bits.TrailingZeros32, at every x. -/
theorem tz32 (x : Nat) (hx : x < 4294967296) (w : World) (hT : TabZ w) : Calls Tryd.prog 75 #[.int .u32 x] w fun e w' => e = .returned (.int .i64 (Lib.ctz 32 x)) ∧ w' = w := by
  by_cases hx0 : x = 0
  · subst hx0
    exact tz32_zero w
  · obtain ⟨hlow, hk⟩ := Lib.lowest_bit 32 x hx0 hx
    obtain ⟨hi, htab⟩ := Lib.deBruijn32_at _ hk
    have hcell := zcell hT _ hi
    rw [htab] at hcell
    exact tz32_at x _ _ w (by simp; omega) (tz32_key x _ hx hx0 hlow) hi hk hcell
end Go.Proofs.YtmkcfkblfjhnhaaDoor
namespace Go.Proofs.YtmkcfkblfjhnhaaDoor
set_option linter.unusedVariables false
/-- The mask of the first k numbers. -/
def maskTo (l : List Int) (k : Nat) : Nat := (l.take k).foldl (fun m x => m ||| 2 ^ x.toNat) 0
theorem maskTo_zero (l : List Int) : maskTo l 0 = 0 := by simp [maskTo]
theorem maskTo_step {l : List Int} {k : Nat} (hk : k < l.length) : maskTo l (k + 1) = maskTo l k ||| 2 ^ (l.getD k 0).toNat := by
  unfold maskTo
  have e : l.getD k 0 = l[k] := by simp [List.getD, hk]
  rw [e, List.take_succ_eq_append_getElem hk, List.foldl_append]
  rfl
theorem setTo_pred {l : List Int} {k : Nat} (h : SetTo l (k + 1)) : SetTo l k := ⟨fun i hi => h.1 i (by omega), fun i hi => h.2 i (by omega)⟩
theorem bit_maskTo {l : List Int} : ∀ {k : Nat}, k ≤ l.length → SetTo l k → ∀ i : Nat, (maskTo l k).testBit i = true ↔ ∃ j, j < k ∧ l.getD j 0 = (i : Int) := by
  intro k
  induction k with
  | zero => intro _ _ i; simp [maskTo_zero]
  | succ k ih =>
    intro hk hs i
    rw [maskTo_step (by omega), Nat.testBit_or, Bool.or_eq_true, ih (by omega) (setTo_pred hs), Nat.testBit_two_pow]
    have h0 := hs.1 k (by omega)
    constructor
    · rintro (⟨j, hj, e⟩ | h)
      · exact ⟨j, by omega, e⟩
      · have := of_decide_eq_true h
        exact ⟨k, by omega, by omega⟩
    · rintro ⟨j, hj, e⟩
      by_cases ej : j = k
      · subst ej; right; rw [decide_eq_true_eq]; omega
      · exact Or.inl ⟨j, by omega, e⟩
theorem maskTo_lt {l : List Int} {k : Nat} (hk : k ≤ l.length) (hs : SetTo l k) (x : Nat) (h : ∀ j, j < k → l.getD j 0 < (x : Int)) : maskTo l k < 2 ^ x := by
  refine Nat.lt_pow_two_of_testBit _ fun i hi => ?_
  rw [Bool.eq_false_iff]
  intro g
  obtain ⟨j, hj, e⟩ := (bit_maskTo hk hs i).1 g
  have := h j hj
  omega
theorem maskTo_lt24 {l : List Int} {k : Nat} (hk : k ≤ l.length) (hs : SetTo l k) : maskTo l k < 16777216 :=
  maskTo_lt hk hs 24 (fun j hj => by have := (hs.1 j hj).2; omega)
theorem maskTo_ge {l : List Int} {k : Nat} (hk : k ≤ l.length) (hs : SetTo l k) {x : Nat} {j : Nat} (hj : j < k) (h : (x : Int) ≤ l.getD j 0) : 2 ^ x ≤ maskTo l k := by
  have h0 := (hs.1 j hj).1
  have := (bit_maskTo hk hs (l.getD j 0).toNat).2 ⟨j, hj, by omega⟩
  exact Nat.le_trans (Nat.pow_le_pow_right (by omega) (by omega)) (Nat.ge_two_pow_of_testBit this)
theorem setTo_mono {l : List Int} {k : Nat} (h : SetTo l k) : ∀ {i j : Nat}, i < j → j < k → l.getD i 0 < l.getD j 0 := by
  intro i j hij
  obtain ⟨d, rfl⟩ : ∃ d, j = i + d + 1 := ⟨j - i - 1, by omega⟩
  clear hij
  induction d with
  | zero => intro hj; exact h.2 i hj
  | succ d ih => intro hj; exact Int.lt_trans (ih (by omega)) (h.2 (i + d + 1) hj)
/-- The bit test of maskOf: no bit from x on, just where x goes on the ascent. -/
theorem maskTo_next {l : List Int} {k : Nat} (hk : k < l.length) (hs : SetTo l k) {x : Nat} (hx : l.getD k 0 = (x : Int)) (hx23 : x ≤ 23) : maskTo l k / 2 ^ x = 0 ↔ SetTo l (k + 1) := by
  rw [Nat.div_eq_zero_iff]
  constructor
  · rintro (h | h)
    · exact absurd h (Nat.ne_of_gt (Nat.two_pow_pos x))
    · refine setTo_step hs (by omega) (by omega) fun h0 => ?_
      apply Int.not_le.1
      intro g
      rw [hx] at g
      have := maskTo_ge (Nat.le_of_lt hk) hs (j := k - 1) (by omega) g
      omega
  · intro h
    right
    refine maskTo_lt (Nat.le_of_lt hk) hs x fun j hj => ?_
    rw [← hx]
    exact setTo_mono h hj (by omega)
/-- The mask of a set, 0 of any other list. -/
def maskL (l : List Int) : Nat := if setB l = true then maskTo l l.length else 0
theorem maskL_yes {l : List Int} (h : SetL l) : maskL l = maskTo l l.length := by unfold maskL; rw [if_pos ((setB_iff l).2 h)]
theorem maskL_no {l : List Int} (h : setB l = false) : maskL l = 0 := by unfold maskL; rw [h]; rfl
theorem maskL_lt (l : List Int) : maskL l < 16777216 := by
  by_cases h : SetL l
  · rw [maskL_yes h]; exact maskTo_lt24 (Nat.le_refl _) ((setTo_all l).2 h)
  · rw [maskL_no (setB_no h)]; omega
theorem bit_maskL {l : List Int} (h : SetL l) (i : Nat) : (maskL l).testBit i = decide ((i : Int) ∈ l) := by
  rw [maskL_yes h, Bool.eq_iff_iff, bit_maskTo (Nat.le_refl _) ((setTo_all l).2 h), decide_eq_true_eq, member_iff]
/-- The members of a mask. -/
def memTo (m : Nat) (k : Nat) : List Int := ((List.range k).filter fun i => m.testBit i).map fun i : Nat => (i : Int)
theorem memTo_len (m k : Nat) : (memTo m k).length ≤ k := by
  have := List.length_filter_le (fun i => m.testBit i) (List.range k)
  simpa [memTo] using this
def memL (m : Nat) : List Int := memTo m 24
/-- Two ascending lists with the same members are the same. -/
theorem asc_eq : ∀ {a b : List Int}, a.Pairwise (· < ·) → b.Pairwise (· < ·) → (∀ x, x ∈ a ↔ x ∈ b) → a = b := by
  intro a
  induction a with
  | nil =>
    intro b _ _ h
    cases b with
    | nil => rfl
    | cons y b => exact absurd ((h y).2 (List.mem_cons_self ..)) (by simp)
  | cons x a ih =>
    intro b ha hb h
    cases b with
    | nil => exact absurd ((h x).1 (List.mem_cons_self ..)) (by simp)
    | cons y b =>
      rw [List.pairwise_cons] at ha hb
      have hxy : x = y := by
        rcases List.mem_cons.1 ((h x).1 (List.mem_cons_self ..)) with e | e
        · exact e
        · rcases List.mem_cons.1 ((h y).2 (List.mem_cons_self ..)) with g | g
          · exact g.symm
          · have h1 := hb.1 x e; have h2 := ha.1 y g; omega
      subst hxy
      rw [ih ha.2 hb.2 ?_]
      intro z
      constructor
      · intro hz
        rcases List.mem_cons.1 ((h z).1 (List.mem_cons_of_mem _ hz)) with e | e
        · subst e; exact absurd (ha.1 z hz) (by omega)
        · exact e
      · intro hz
        rcases List.mem_cons.1 ((h z).2 (List.mem_cons_of_mem _ hz)) with e | e
        · subst e; exact absurd (hb.1 z hz) (by omega)
        · exact e
theorem range_asc (f : Int) (k : Nat) : ((List.range k).map fun i : Nat => f + (i : Int)).Pairwise (· < ·) := by
  rw [List.pairwise_iff_getElem]
  intro i j hi hj hij
  simp
  omega
theorem range_asc0 (k : Nat) : ((List.range k).map fun i : Nat => (i : Int)).Pairwise (· < ·) := by
  have := range_asc 0 k
  simpa using this
theorem memTo_asc (m : Nat) (k : Nat) : (memTo m k).Pairwise (· < ·) := by
  have h := range_asc0 k
  rw [List.pairwise_map] at h
  unfold memTo
  rw [List.pairwise_map]
  exact List.Pairwise.filter _ h
theorem set_asc {l : List Int} (h : SetL l) : l.Pairwise (· < ·) := by
  rw [List.pairwise_iff_getElem]
  intro i j hi hj hij
  have := setTo_mono ((setTo_all l).2 h) hij hj
  simpa [List.getD, hi, hj] using this
theorem mem_memTo {m k : Nat} {x : Int} : x ∈ memTo m k ↔ ∃ i : Nat, i < k ∧ m.testBit i = true ∧ x = (i : Int) := by
  unfold memTo
  simp only [List.mem_map, List.mem_filter, List.mem_range]
  constructor
  · rintro ⟨i, ⟨h1, h2⟩, rfl⟩; exact ⟨i, h1, h2, rfl⟩
  · rintro ⟨i, h1, h2, rfl⟩; exact ⟨i, ⟨h1, h2⟩, rfl⟩
theorem set_range {l : List Int} (h : SetL l) {x : Int} (hx : x ∈ l) : 0 ≤ x ∧ x ≤ 23 := by
  obtain ⟨i, hi, rfl⟩ := (member_iff l x).1 hx
  exact h.1 i hi
theorem memL_set {l : List Int} (h : SetL l) : memL (maskL l) = l := by
  refine asc_eq (memTo_asc _ _) (set_asc h) fun x => ?_
  unfold memL
  rw [mem_memTo]
  constructor
  · rintro ⟨i, _, h2, rfl⟩
    rw [bit_maskL h] at h2
    exact of_decide_eq_true h2
  · intro hx
    obtain ⟨h0, h1⟩ := set_range h hx
    exact ⟨x.toNat, by omega, by rw [bit_maskL h, show ((x.toNat : Nat) : Int) = x by omega]; exact decide_eq_true hx, by omega⟩
theorem asc_set {l : List Int} (h : l.Pairwise (· < ·)) (hr : ∀ x, x ∈ l → 0 ≤ x ∧ x ≤ 23) : SetL l := by
  rw [List.pairwise_iff_getElem] at h
  refine ⟨fun i hi => hr _ ((member_iff l _).2 ⟨i, hi, rfl⟩), fun i hi => ?_⟩
  have := h i (i + 1) (by omega) hi (by omega)
  have h2 : i < l.length := by omega
  simpa [List.getD, hi, h2] using this
theorem set_memL (m : Nat) : SetL (memL m) := by
  refine asc_set (memTo_asc _ _) fun x hx => ?_
  obtain ⟨i, hi, _, rfl⟩ := mem_memTo.1 hx
  omega
theorem memL_zero : memL 0 = [] := by decide
end Go.Proofs.YtmkcfkblfjhnhaaDoor
namespace Go.Proofs.YtmkcfkblfjhnhaaDoor
set_option linter.unusedVariables false
theorem ctz_bits {x : Nat} (h0 : x ≠ 0) (h : x < 4294967296) : x.testBit (Lib.ctz 32 x) = true ∧ (∀ j, j < Lib.ctz 32 x → x.testBit j = false) ∧ Lib.ctz 32 x < 32 := by
  obtain ⟨q, e, hk⟩ := Lib.ctzFrom_spec 32 x (by omega) (by omega)
  have hc : Lib.ctz 32 x = Lib.ctzFrom 32 x := by unfold Lib.ctz; rw [if_neg h0]
  rw [hc]
  generalize Lib.ctzFrom 32 x = k at e hk
  refine ⟨?_, ?_, hk⟩
  · rw [e, Nat.testBit_two_pow_mul, Nat.sub_self, Nat.testBit_zero]
    simp
  · intro j hj
    rw [e, Nat.testBit_two_pow_mul]
    simp; omega
/-- The bits from f to f + n are the first run of m. -/
def FirstRun (m f n : Nat) : Prop := f + n ≤ 23 ∧ (∀ j, j < f → m.testBit j = false) ∧ (∀ j, j ≤ n → m.testBit (f + j) = true) ∧ m.testBit (f + n + 1) = false
theorem firstRun_of {m : Nat} (h0 : m ≠ 0) (h : m < 16777216) : Lib.ctz 32 (4294967295 - m / 2 ^ Lib.ctz 32 m) ≠ 0 ∧ Lib.ctz 32 (4294967295 - m / 2 ^ Lib.ctz 32 m) ≤ 32 ∧ FirstRun m (Lib.ctz 32 m) (Lib.ctz 32 (4294967295 - m / 2 ^ Lib.ctz 32 m) - 1) := by
  obtain ⟨h1, h2, h3⟩ := ctz_bits h0 (by omega)
  generalize Lib.ctz 32 m = f at *
  have hy : m / 2 ^ f < 16777216 := Nat.lt_of_le_of_lt (Nat.div_le_self _ _) h
  have hb : ∀ j, (m / 2 ^ f).testBit j = m.testBit (f + j) := fun j => by rw [Nat.testBit_div_two_pow, Nat.add_comm]
  generalize m / 2 ^ f = y at *
  have hn : ∀ j, (4294967295 - y).testBit j = (decide (j < 32) && !y.testBit j) := fun j => by
    have := Nat.testBit_two_pow_sub_succ (n := 32) (x := y) (by omega) j
    rw [show 2 ^ 32 - (y + 1) = 4294967295 - y by omega] at this
    exact this
  obtain ⟨g1, g2, g3⟩ := ctz_bits (x := 4294967295 - y) (by omega) (by omega)
  generalize Lib.ctz 32 (4294967295 - y) = n at *
  have hn0 : n ≠ 0 := by
    intro e; subst e
    rw [hn, hb, Nat.add_zero, h1] at g1
    simp at g1
  have hlow : ∀ j, j < n → m.testBit (f + j) = true := by
    intro j hj
    have := g2 j hj
    rw [hn, hb] at this
    have h32 : decide (j < 32) = true := decide_eq_true (by omega)
    rw [h32] at this
    simpa using this
  have hhi : m.testBit (f + n) = false := by
    rw [hn, hb] at g1
    simp at g1
    exact g1.2
  refine ⟨hn0, by omega, ?_, h2, fun j hj => hlow j (by omega), by rw [show f + (n - 1) + 1 = f + n by omega]; exact hhi⟩
  apply Nat.le_of_not_lt
  intro hgt
  have := hlow (n - 1) (by omega)
  rw [Nat.testBit_lt_two_pow (show m < 2 ^ (f + (n - 1)) from Nat.lt_of_lt_of_le (show m < 2 ^ 24 from h) (Nat.pow_le_pow_right (by omega) (by omega)))] at this
  cases this
/-- The mask of the numbers from f to t. -/
def rangeM (f t : Nat) : Nat := 2 ^ (t + 1) - 2 ^ f
theorem bit_rangeM {f t : Nat} (h : f ≤ t) (i : Nat) : (rangeM f t).testBit i = decide (f ≤ i ∧ i ≤ t) := by
  have e : rangeM f t = 2 ^ f * (2 ^ (t + 1 - f) - 1) := by
    unfold rangeM
    rw [Nat.mul_sub, ← Nat.pow_add, show f + (t + 1 - f) = t + 1 by omega, Nat.mul_one]
  rw [e, Nat.testBit_two_pow_mul, Nat.testBit_two_pow_sub_one, Bool.eq_iff_iff]
  simp
  omega
theorem rangeM_lt {f t : Nat} (h : t ≤ 23) : rangeM f t < 16777216 := by
  have : 2 ^ (t + 1) ≤ 2 ^ 24 := Nat.pow_le_pow_right (by omega) (by omega)
  have := Nat.two_pow_pos f
  have := Nat.two_pow_pos (t + 1)
  unfold rangeM; omega
/-- The mask without its first run. -/
def restM (m f n : Nat) : Nat := m &&& (4294967295 ^^^ rangeM f (f + n))
theorem restM_lt {m : Nat} (f n : Nat) (h : m < 16777216) : restM m f n < 16777216 := Nat.lt_of_le_of_lt Nat.and_le_left h
theorem bit_restM {m f n : Nat} (h : m < 16777216) (i : Nat) : (restM m f n).testBit i = (m.testBit i && !decide (f ≤ i ∧ i ≤ f + n)) := by
  unfold restM
  rw [Nat.testBit_and, Nat.testBit_xor, bit_rangeM (by omega)]
  by_cases hi : i < 32
  · have : (4294967295 : Nat).testBit i = true := by
      have := Nat.testBit_two_pow_sub_one 32 i
      rw [show (2 : Nat) ^ 32 - 1 = 4294967295 from rfl] at this
      rw [this]; exact decide_eq_true hi
    rw [this]; simp
  · rw [Nat.testBit_lt_two_pow (show m < 2 ^ i from Nat.lt_of_lt_of_le (show m < 2 ^ 32 by omega) (Nat.pow_le_pow_right (by omega) (by omega)))]
    simp
theorem restM_less {m f n : Nat} (h : m < 16777216) (hf : FirstRun m f n) : restM m f n < m := by
  have hle : restM m f n ≤ m := Nat.and_le_left
  have hne : restM m f n ≠ m := by
    intro e
    have := bit_restM (f := f) (n := n) h f
    rw [e] at this
    have h1 := hf.2.2.1 0 (Nat.zero_le _)
    rw [Nat.add_zero] at h1
    rw [h1] at this
    simp at this
  omega
theorem upN_cons (f : Int) (n : Nat) : upN f (n + 1) = f :: upN (f + 1) n := by
  unfold upN
  rw [List.range_succ_eq_map, List.map_cons, List.map_map]
  congr 1
  · simp
  · apply List.map_congr_left
    intro i _
    show f + ((i + 1 : Nat) : Int) = f + 1 + (i : Int)
    omega
theorem mem_upN {f : Int} {n : Nat} {x : Int} : x ∈ upN f n ↔ ∃ i : Nat, i < n ∧ x = f + (i : Int) := by
  unfold upN
  simp only [List.mem_map, List.mem_range]
  constructor
  · rintro ⟨i, hi, rfl⟩; exact ⟨i, hi, rfl⟩
  · rintro ⟨i, hi, rfl⟩; exact ⟨i, hi, rfl⟩
theorem upN_asc (f : Int) (n : Nat) : (upN f n).Pairwise (· < ·) := by
  exact range_asc f n
/-- The members are the first run and the members of what is left. -/
theorem memL_first {m f n : Nat} (h : m < 16777216) (hf : FirstRun m f n) : memL m = upN (f : Int) (n + 1) ++ memL (restM m f n) := by
  have hin : ∀ i : Nat, (restM m f n).testBit i = true → f + n + 1 < i := by
    intro i hi
    rw [bit_restM h, Bool.and_eq_true] at hi
    have h2 : ¬ (f ≤ i ∧ i ≤ f + n) := by have := hi.2; simp at this; omega
    apply Nat.lt_of_not_le
    intro hle
    by_cases hlt : i < f
    · have := hf.2.1 i hlt; rw [this] at hi; exact Bool.noConfusion hi.1
    · have e : i = f + n + 1 := by omega
      have := hf.2.2.2; rw [← e] at this; rw [this] at hi; exact Bool.noConfusion hi.1
  refine asc_eq (memTo_asc _ _) ?_ fun x => ?_
  · rw [List.pairwise_append]
    refine ⟨upN_asc _ _, memTo_asc _ _, ?_⟩
    intro x hx y hy
    obtain ⟨i, hi, rfl⟩ := mem_upN.1 hx
    obtain ⟨j, _, hj, rfl⟩ := mem_memTo.1 hy
    have := hin j hj
    omega
  · unfold memL
    rw [List.mem_append, mem_memTo, mem_memTo, mem_upN]
    constructor
    · rintro ⟨i, hi, hb, rfl⟩
      by_cases hc : f ≤ i ∧ i ≤ f + n
      · exact Or.inl ⟨i - f, by omega, by omega⟩
      · exact Or.inr ⟨i, hi, by rw [bit_restM h, hb, decide_eq_false hc]; rfl, rfl⟩
    · rintro (⟨i, hi, rfl⟩ | ⟨i, hi, hb, rfl⟩)
      · exact ⟨f + i, by have := hf.1; omega, hf.2.2.1 i (by omega), by omega⟩
      · rw [bit_restM h, Bool.and_eq_true] at hb
        exact ⟨i, hi, hb.1, rfl⟩
theorem runs_block : ∀ (n : Nat) (f : Int) (r : List Int), (∀ y r', r = y :: r' → f + (n : Int) + 1 < y) → runs (upN f (n + 1) ++ r) = (f, f + (n : Int)) :: runs r := by
  intro n
  induction n with
  | zero =>
    intro f r h
    have e : upN f 1 = [f] := by rw [upN_cons]; rfl
    rw [e]
    cases r with
    | nil => simp [runs]
    | cons y r' =>
      have := h y r' rfl
      rw [List.singleton_append, runs_part (by omega)]
      simp
  | succ n ih =>
    intro f r h
    have := ih (f + 1) r (fun y r' e => by have := h y r' e; omega)
    rw [upN_cons, upN_cons] at *
    rw [List.cons_append] at this
    rw [List.cons_append, List.cons_append, runs_join rfl this]
    rw [show f + 1 + (n : Int) = f + ((n + 1 : Nat) : Int) by omega]
/-- So the runs of a mask are its first run and those of what is left. -/
theorem runs_first {m f n : Nat} (h : m < 16777216) (hf : FirstRun m f n) : runs (memL m) = ((f : Int), ((f + n : Nat) : Int)) :: runs (memL (restM m f n)) := by
  rw [memL_first h hf, runs_block n f _ ?_]
  · rw [show (f : Int) + (n : Int) = ((f + n : Nat) : Int) by omega]
  · intro y r' e
    have hy : y ∈ memL (restM m f n) := by rw [e]; exact List.mem_cons_self ..
    obtain ⟨j, _, hj, rfl⟩ := mem_memTo.1 hy
    rw [bit_restM h, Bool.and_eq_true] at hj
    have h2 : ¬ (f ≤ j ∧ j ≤ f + n) := by have := hj.2; simp at this; omega
    have h3 : ¬ j < f := fun hlt => by have := hf.2.1 j hlt; rw [this] at hj; exact Bool.noConfusion hj.1
    have h4 : j ≠ f + n + 1 := fun e => by have := hf.2.2.2; rw [← e] at this; rw [this] at hj; exact Bool.noConfusion hj.1
    omega
theorem memL_ne {m : Nat} (h0 : m ≠ 0) (h : m < 16777216) : memL m ≠ [] := by
  rw [memL_first h (firstRun_of h0 h).2.2, upN_cons]; simp
/-- The texts of runs behind one another are the texts joined. -/
theorem glue_join : ∀ (t : List (Int × Int)) (s : List UInt8), s ≠ [] → glue s t = s ++ Lib.joinTail [32] (t.map runText) := by
  intro t
  induction t with
  | nil => intro s _; simp [glue, Lib.joinTail]
  | cons r t ih =>
    intro s hs
    show glue ((if s = [] then s else s ++ [32]) ++ runText r) t = _
    rw [if_neg hs, ih _ (by simp)]
    simp [Lib.joinTail]
theorem join_glue (t : List (Int × Int)) : Lib.join (t.map runText) [32] = glue [] t := by
  cases t with
  | nil => rfl
  | cons r t =>
    rw [List.map_cons, Lib.join_cons]
    show _ = glue ((if ([] : List UInt8) = [] then [] else _) ++ runText r) t
    rw [if_pos rfl, List.nil_append, glue_join t _ (runText_ne r)]
theorem runs_len : ∀ l : List Int, (runs l).length ≤ l.length := by
  intro l
  induction l with
  | nil => simp [runs]
  | cons x r ih =>
    cases r with
    | nil => simp [runs]
    | cons y r =>
      obtain ⟨b, t, e⟩ := runs_cons y r
      by_cases h : y = x + 1
      · rw [runs_join h e]; rw [e] at ih; simp at ih ⊢; omega
      · rw [runs_part h]; simp at ih ⊢; omega
theorem runs_mem : ∀ l : List Int, ∀ r ∈ runs l, r.1 ∈ l ∧ r.2 ∈ l := by
  intro l
  induction l with
  | nil => intro r hr; simp [runs] at hr
  | cons x l ih =>
    cases l with
    | nil => intro r hr; simp [runs] at hr; subst hr; simp
    | cons y l =>
      obtain ⟨b, t, e⟩ := runs_cons y l
      intro r hr
      by_cases h : y = x + 1
      · rw [runs_join h e] at hr
        rcases List.mem_cons.1 hr with rfl | hr
        · exact ⟨List.mem_cons_self .., List.mem_cons_of_mem _ (ih (y, b) (by rw [e]; exact List.mem_cons_self ..)).2⟩
        · have := ih r (by rw [e]; exact List.mem_cons_of_mem _ hr)
          exact ⟨List.mem_cons_of_mem _ this.1, List.mem_cons_of_mem _ this.2⟩
      · rw [runs_part h] at hr
        rcases List.mem_cons.1 hr with rfl | hr
        · exact ⟨List.mem_cons_self .., List.mem_cons_self ..⟩
        · have := ih r hr
          exact ⟨List.mem_cons_of_mem _ this.1, List.mem_cons_of_mem _ this.2⟩
theorem glue_len : ∀ (t : List (Int × Int)) (s : List UInt8), (∀ r ∈ t, (runText r).length ≤ 43) → (glue s t).length ≤ s.length + 44 * t.length := by
  intro t
  induction t with
  | nil => intro s _; simp [glue]
  | cons r t ih =>
    intro s h
    show (glue ((if s = [] then s else s ++ [32]) ++ runText r) t).length ≤ _
    have h1 := ih ((if s = [] then s else s ++ [32]) ++ runText r) (fun q hq => h q (List.mem_cons_of_mem _ hq))
    have h2 := h r (List.mem_cons_self ..)
    have h3 : (if s = [] then s else s ++ [32]).length ≤ s.length + 1 := by split <;> simp
    rw [List.length_append] at h1
    rw [List.length_cons]
    omega
theorem memL_len (m : Nat) : (memL m).length ≤ 24 := memTo_len m 24
theorem memL_text (m : Nat) : ∀ r ∈ runs (memL m), (runText r).length ≤ 43 := by
  intro r hr
  obtain ⟨h1, h2⟩ := runs_mem _ r hr
  have g1 := set_range (set_memL m) h1
  have g2 := set_range (set_memL m) h2
  exact runText_len r (by omega) (by omega)
theorem memL_glue (m : Nat) : (glue [] (runs (memL m))).length ≤ 1056 := by
  have h1 := glue_len (runs (memL m)) [] (memL_text m)
  have h2 := runs_len (memL m)
  have h3 := memL_len m
  simp at h1
  omega
end Go.Proofs.YtmkcfkblfjhnhaaDoor
namespace Go.Proofs.YtmkcfkblfjhnhaaDoor
open Go.RowKit
set_option linter.unusedVariables false
theorem nat_u32 (a : Nat) (ha : a < 4294967296) : (BitVec.ofInt 32 (a : Int)).toNat = a := by
  rw [BitVec.ofInt_natCast, BitVec.toNat_ofNat]; exact Nat.mod_eq_of_lt (by omega)
theorem or_u32 (a b : Nat) (ha : a < 4294967296) (hb : b < 4294967296) : bits .or .u32 (a : Int) (b : Int) = ((a ||| b : Nat) : Int) := by
  have hx : a ||| b < 2 ^ 32 := Nat.or_lt_two_pow (by omega) (by omega)
  show IntKind.u32.wrap ((BitVec.ofInt 32 (a : Int) ||| BitVec.ofInt 32 (b : Int)).toNat : Int) = _
  rw [BitVec.toNat_or, nat_u32 a ha, nat_u32 b hb, IntKind.wrap_u32]
  omega
theorem andNot_u32 (a b : Nat) (ha : a < 4294967296) (hb : b < 4294967296) : bits .andNot .u32 (a : Int) (b : Int) = ((a &&& (4294967295 ^^^ b) : Nat) : Int) := by
  have hy : 4294967295 ^^^ b < 2 ^ 32 := Nat.xor_lt_two_pow (by omega) (by omega)
  have hx : a &&& (4294967295 ^^^ b) < 2 ^ 32 := Nat.and_lt_two_pow _ (by omega)
  have e : ~~~ (BitVec.ofInt 32 (b : Int)) = BitVec.ofNat 32 4294967295 ^^^ BitVec.ofInt 32 (b : Int) := by
    rw [show BitVec.ofNat 32 4294967295 = BitVec.allOnes 32 from rfl, BitVec.allOnes_xor]
  show IntKind.u32.wrap ((BitVec.ofInt 32 (a : Int) &&& ~~~ BitVec.ofInt 32 (b : Int)).toNat : Int) = _
  rw [e, BitVec.toNat_and, BitVec.toNat_xor, nat_u32 a ha, nat_u32 b hb, IntKind.wrap_u32]
  simp
  omega
theorem isQuery (x : Int) (w : World) : Calls Tryd.prog 62 #[.int .i64 x] w fun e w' => e = .returned (.bool (decide (0 ≤ x ∧ x ≤ 23))) ∧ w' = w := by
  by_cases h0 : 0 ≤ x
  · by_cases h1 : x ≤ 23
    · rw [decide_eq_true (show 0 ≤ x ∧ x ≤ 23 from ⟨h0, h1⟩)]
      have h2 : x < 24 := by omega
      go_enter Tryd.func62, Tryd.ntmps62
      go_wp2
      go_ret
      exact ⟨rfl, rfl⟩
    · rw [decide_eq_false (show ¬ (0 ≤ x ∧ x ≤ 23) by omega)]
      have h2 : ¬ x < 24 := by omega
      go_enter Tryd.func62, Tryd.ntmps62
      go_wp2
      go_ret
      exact ⟨rfl, rfl⟩
  · rw [decide_eq_false (show ¬ (0 ≤ x ∧ x ≤ 23) by omega)]
    go_enter Tryd.func62, Tryd.ntmps62
    go_wp2
    go_ret
    exact ⟨rfl, rfl⟩
theorem pair_eq {a b : Nat} {x y : Bool} (h1 : a = b) (h2 : x = y) : Ending.returned (.tuple #[.int .u32 (a : Int), .bool x]) = .returned (.tuple #[.int .u32 (b : Int), .bool y]) := by rw [h1, h2]
set_option maxHeartbeats 2000000 in
set_option maxRecDepth 100000 in
theorem implMaskOf (va : Value) (a : List Int) (w : World) (h : Ints w va a) (hn : a.length ≤ 1073741824) :
    Calls Tryd.prog 51 #[va] w fun e w' => e = .returned (.tuple #[.int .u32 (maskL a : Nat), .bool (setB a)]) ∧ Below w.heap.size w w' := by
  obtain ⟨ap, cap, hva⟩ := ints_len h
  have HA := Lib.hid h
  have HN := Lib.hid hn
  clear h hn
  subst hva
  go_enter Tryd.func51, Tryd.ntmps51
  go_wp2
  go_loopw [4, 9] (fun m i wr => ∃ k : Nat, k ≤ a.length ∧ i = .int .i64 k ∧ Hid (SetTo a k) ∧ m = .int .u32 (maskTo a k : Nat) ∧ wr = w) (fun _ i _ => a.length - (intOf i).toNat)
  case atStart => exact ⟨0, Nat.zero_le _, rfl, Lib.hid ⟨fun i hi => by omega, fun i hi => by omega⟩, by rw [maskTo_zero]; rfl, rfl⟩
  case round =>
    obtain ⟨k, hk, rfl, hset, rfl, rfl⟩ := hrel
    by_cases hlt : k < a.length
    · obtain ⟨b, off, cap', hv, hbl, hc⟩ := ints_cell HA.out (by omega)
      simp only [Value.slice.injEq] at hv
      obtain ⟨rfl, _, rfl⟩ := hv
      have hcell := hc k hlt
      have i1 : (0 : Int) ≤ (k : Int) := by omega
      have i2 : (k : Int) < (a.length : Int) := by omega
      clear hc
      by_cases hr : 0 ≤ a.getD k 0 ∧ a.getD k 0 ≤ 23
      · obtain ⟨x, hx⟩ : ∃ x : Nat, a.getD k 0 = (x : Int) := ⟨(a.getD k 0).toNat, by omega⟩
        have hx23 : x ≤ 23 := by omega
        have HQ := Lib.hid (show decide (0 ≤ (x : Int) ∧ (x : Int) ≤ 23) = true from decide_eq_true (by omega))
        have hnext := maskTo_next hlt hset.out hx hx23
        have HST := Lib.hid (maskTo_step hlt)
        rw [hx] at hcell HST
        have HM0 := Lib.hid (maskTo_lt24 (Nat.le_of_lt hlt) hset.out)
        have hdiv : ((maskTo a k : Nat) : Int) / 2 ^ x = ((maskTo a k / 2 ^ x : Nat) : Int) := by norm_cast
        by_cases hz : maskTo a k / 2 ^ x = 0
        · have HS1 := Lib.hid (hnext.1 hz)
          have HB : ((maskTo a k : Int) / 2 ^ x != 0) = false := by rw [hdiv, hz]; rfl
          have HP : Hid (2 ^ x < 16777216 ∧ ((2 : Int) ^ x % 4294967296 = ((2 ^ x : Nat) : Int))) := by
            have h2 : 2 ^ x < 2 ^ 24 := Nat.pow_lt_pow_right (by omega) (show x < 24 by omega)
            have h3 : (2 : Int) ^ x = ((2 ^ x : Nat) : Int) := by norm_cast
            exact Lib.hid ⟨h2, by rw [h3]; clear h3; generalize 2 ^ x = q at *; omega⟩
          have HK := Lib.hid hlt
          clear hr hnext hx hz hset hk hlt hdiv
          generalize maskTo a k = m at *
          go_wp2_with fail
          refine (isQuery _ _).mono ?_
          rintro e w1 ⟨rfl, rfl⟩
          rw [HQ.out]
          have hn := HN.out
          go_wp2
          go_roundw
          case rel => exact ⟨k + 1, HK.out, by go_num, HS1, by rw [HP.out.2, or_u32 m _ (by have := HM0.out; omega) (by have := HP.out.1; omega), HST.out]; rfl, by first | rfl | trivial⟩
          case measure => have := HK.out; simp [intOf]; omega
        · have HF := Lib.hid (setB_no (l := a) (fun g => hz (hnext.2 ⟨fun i hi => g.1 i (by omega), fun i hi => g.2 i (by omega)⟩)))
          have HB : ((maskTo a k : Int) / 2 ^ x != 0) = true := by rw [hdiv, bne_iff_ne]; omega
          clear hr hnext hx hz hset hk hlt hdiv
          generalize maskTo a k = m at *
          go_wp2_with fail
          refine (isQuery _ _).mono ?_
          rintro e w1 ⟨rfl, rfl⟩
          rw [HQ.out]
          go_wp2
          go_ret2
          exact ⟨pair_eq (a := 0) (maskL_no HF.out).symm HF.out.symm, Below.refl _ _⟩
      · have HF := Lib.hid (setB_no (not_set_range hlt hr))
        have HQ := Lib.hid (show decide (0 ≤ a.getD k 0 ∧ a.getD k 0 ≤ 23) = false from decide_eq_false hr)
        clear hr hset hk hlt
        generalize maskTo a k = m at *
        generalize a.getD k 0 = x at *
        go_wp2_with fail
        refine (isQuery _ _).mono ?_
        rintro e w1 ⟨rfl, rfl⟩
        rw [HQ.out]
        go_wp2
        go_ret2
        exact ⟨pair_eq (a := 0) (maskL_no HF.out).symm HF.out.symm, Below.refl _ _⟩
    · obtain rfl : k = a.length := by omega
      have HS := Lib.hid ((setTo_all a).1 hset.out)
      have HE := Lib.hid (maskL_yes HS.out)
      clear hset hk hlt
      generalize maskTo a a.length = m at *
      go_wp2
      go_ret2
      exact ⟨pair_eq HE.out.symm ((setB_iff a).2 HS.out).symm, Below.refl _ _⟩
set_option maxHeartbeats 2000000 in
set_option maxRecDepth 100000 in
theorem implIsSet (va : Value) (a : List Int) (w : World) (h : Ints w va a) (hn : a.length ≤ 1048576) :
    Calls Tryd.prog 49 #[va] w fun e w' => e = .returned (.bool (setB a)) ∧ Below w.heap.size w w' := by
  have H := Lib.hid (fun w h => implMaskOf va a w h (by omega))
  have HA := Lib.hid h
  clear h hn
  go_enter Tryd.func49, Tryd.ntmps49
  go_wp2_with fail
  refine (H.out _ HA.out).mono ?_
  rintro e w1 ⟨rfl, b1⟩
  go_wp2
  go_ret
  exact ⟨rfl, b1⟩
end Go.Proofs.YtmkcfkblfjhnhaaDoor
namespace Go.Proofs.YtmkcfkblfjhnhaaDoor
set_option linter.unusedVariables false
end Go.Proofs.YtmkcfkblfjhnhaaDoor
namespace Go.Proofs.YtmkcfkblfjhnhaaDoor
open Go.RowKit
set_option linter.unusedVariables false
theorem below_drewN {B : Nat} {a w : World} (h : Below B a w) (q : Nat) : Below B a (w.drewN q) := ⟨h.os, h.tape, h.output, h.size, h.block⟩
end Go.Proofs.YtmkcfkblfjhnhaaDoor
namespace Go.Proofs.YtmkcfkblfjhnhaaDoor
open Go.RowKit
set_option linter.unusedVariables false
end Go.Proofs.YtmkcfkblfjhnhaaDoor
namespace Go.Proofs.YtmkcfkblfjhnhaaDoor
open Go.RowKit
set_option linter.unusedVariables false
theorem Tryd.infoStr : (Tryd.prog.info? 9).map (fun i => (i.zero, i.size, i.bytes)) = some (some (.string ⟨#[]⟩), 1, 16) := by kernel_rfl
/-- The slice v reads as the texts xs. -/
def Strs (w : World) (v : Value) (xs : List ByteArray) : Prop :=
  (xs = [] ∧ ∃ a cap, v = .slice a 0 cap) ∨ ∃ b off cap, v = .slice (some ⟨b, off, none⟩) xs.length cap ∧ xs.length ≤ cap ∧ b < w.heap.size ∧ ∀ j, j < xs.length → w.cell? ⟨b, off + j, none⟩ = some (.string (xs.getD j ⟨#[]⟩))
/-- The slice v owns the texts xs, in a block from B on. -/
def OwnsS (w : World) (B : Nat) (v : Value) (xs : List ByteArray) : Prop := w.ownsRow B 9 1 v xs.length (xs.map (Value.string))
theorem ownsS_nil (w : World) (B : Nat) : OwnsS w B (.slice none 0 0) [] := World.ownsRow_nil w B _ _
/-- 'append(out, x..)' where the texts lie in a block that was just laid. -/
theorem append_strs {w : World} {ops : Array Oper} {rest : List Oper} {o : Oper} {a : Act} {Q : Exit → Act → World → Prop} (hgd : o.guard = none) (s x : Operand)
    (ho : o.op = .call { callee := .builtin .append, args := #[s, x], argTypes := #[50, 50] })
    (B : Nat) (v : Value) (xs : List ByteArray) (hs : a.eval s = v) (hown : OwnsS w B v xs) (hB : B ≤ w.heap.size)
    (C : Array Value) (ys : List ByteArray) (m c : Nat) (hx : a.eval x = .slice (some ⟨w.heap.size, 0, none⟩) m c) (hC : C.toList = ys.map (Value.string)) (hm : m = ys.length)
    (h63 : xs.length + ys.length ≤ 8796093022208)
    (h : ∀ v' w', OwnsS w' B v' (xs ++ ys) → Below B w w' → wpList Tryd.prog ops Q rest (a.put o.dst v') w') : wpList Tryd.prog ops Q (o :: rest) a (w.alloc (.cells C 9)) := by
  obtain ⟨i0, hi, hz0, hz1, hz2⟩ := info_parts Tryd.infoStr
  subst hm
  refine wpList_append_own _ hgd s x 50 ho B 9 i0 (.string ⟨#[]⟩) 1 16 Tryd.underlying50 hi hz0 hz1 hz2 rfl (by decide) v xs.length _ hs (hown.alloc _) ⟨w.heap.size, 0, none⟩ ys.length c (ys.map (Value.string)) hx (by simp) ?_ (by intro u hu; simp at hu; obtain ⟨y, _, rfl⟩ := hu; rfl) (by unfold maxLen; omega) (by omega) (by simp; omega) ?_
  · intro j u hj
    have e : (⟨w.heap.size, 0, none⟩ : Addr).add j = ⟨w.heap.size, j, none⟩ := by unfold Addr.add; split <;> simp_all
    rw [e, cell_lit]
    rw [← hC] at hj
    simpa using hj
  · intro v' w' h1 h2 _
    refine h v' w' ?_ ?_
    · unfold OwnsS
      simpa using h1
    · exact ((Below.refl B w).alloc hB _).grown h2 (by simp; omega) (fun k hk => (hown.lt k hk).1)
/-- What is owned reads so. -/
theorem ownsS_strs {w : World} {B : Nat} {v : Value} {xs : List ByteArray} (h : OwnsS w B v xs) : Strs w v xs := by
  rcases h.2 with ⟨rfl, h0⟩ | ⟨g, cap, cur, rfl, hb, hg, hn, hm, hcs, htake⟩
  · have : xs = [] := List.eq_nil_of_length_eq_zero h0
    subst this
    exact Or.inl ⟨rfl, none, 0, rfl⟩
  · refine Or.inr ⟨g, 0, cap, rfl, hn, (Array.getElem?_eq_some_iff.1 hg).1, ?_⟩
    intro j hj
    have := World.ownsRow.cells h (g := g) rfl j (.string (xs.getD j ⟨#[]⟩)) (by simp [List.getElem?_eq_getElem hj])
    have e : (⟨g, 0, none⟩ : Addr).add j = ⟨g, 0 + j, none⟩ := by unfold Addr.add; split <;> simp_all
    rwa [e] at this
/-- What 'make([]string, n)' owns. -/
theorem ownsS_made {w : World} {B g n : Nat} (h : w.ownsRow B 9 1 (.slice (some ⟨g, 0, none⟩) n n) n (madeCells #[Value.string ⟨#[]⟩] n).toList) : OwnsS w B (.slice (some ⟨g, 0, none⟩) n n) (List.replicate n ⟨#[]⟩) := by
  have e : (madeCells #[Value.string ⟨#[]⟩] n).toList = List.replicate n (.string ⟨#[]⟩) := toList_madeCells_one (.string ⟨#[]⟩) n
  rw [e] at h
  unfold OwnsS
  simpa using h
theorem ownsS_len {w : World} {B : Nat} {a : Option Addr} {n cap : Nat} {xs : List ByteArray} (h : OwnsS w B (.slice a n cap) xs) : n = xs.length := by
  rcases h.2 with ⟨h', h0⟩ | ⟨_, _, _, h', _⟩
  · simp only [Value.slice.injEq] at h'; omega
  · simp only [Value.slice.injEq] at h'; exact h'.2.1
theorem ownsS_cell {w : World} {B g n cap j : Nat} {xs : List ByteArray} {x : ByteArray} (h : OwnsS w B (.slice (some ⟨g, 0, none⟩) n cap) xs) (hx : xs[j]? = some x) : w.cell? ⟨g, j, none⟩ = some (.string x) := by
  have := World.ownsRow.cells h (g := g) rfl j (.string x) (by simp [hx])
  have e : (⟨g, 0, none⟩ : Addr).add j = ⟨g, j, none⟩ := by unfold Addr.add; split <;> simp_all
  rwa [e] at this
theorem ownsS_frozen {w : World} {B g n cap : Nat} {xs : List ByteArray} (h : OwnsS w B (.slice (some ⟨g, 0, none⟩) n cap) xs) (j : Nat) : w.frozen? ⟨g, j, none⟩ = false := by
  obtain rfl := ownsS_len h
  exact World.ownsRow.frozenAt h j
theorem ownsS_store {w : World} {B g n cap : Nat} {xs : List ByteArray} (h : OwnsS w B (.slice (some ⟨g, 0, none⟩) n cap) xs) (j : Nat) (x : ByteArray) : OwnsS (w.setCell ⟨g, j, none⟩ (.string x)) B (.slice (some ⟨g, 0, none⟩) n cap) (xs.set j x) := by
  obtain rfl := ownsS_len h
  have := (World.ownsRow.stored h j (.string x)).1
  unfold OwnsS
  rw [List.length_set, List.map_set]
  exact this
theorem ownsS_ge {w : World} {B g n cap : Nat} {xs : List ByteArray} (h : OwnsS w B (.slice (some ⟨g, 0, none⟩) n cap) xs) : B ≤ g ∧ g < w.heap.size := h.lt g rfl
/-- What is owned stays owned while only blocks beyond it, or none of its own, are written. -/
theorem ownsS_below {w w' : World} {B : Nat} {v : Value} {xs : List ByteArray} (h : OwnsS w B v xs) (hb : Below w.heap.size w w') : OwnsS w' B v xs := by
  refine ⟨h.1, ?_⟩
  rcases h.2 with hn | ⟨g, cap, cur, rfl, hb', hg, rest⟩
  · exact .inl hn
  · refine .inr ⟨g, cap, cur, rfl, hb', ?_, rest⟩
    rw [hb.block g (Array.getElem?_eq_some_iff.1 hg).1]
    exact hg
end Go.Proofs.YtmkcfkblfjhnhaaDoor
namespace Go.Proofs.YtmkcfkblfjhnhaaDoor
open Go.RowKit
set_option linter.unusedVariables false
theorem xor_max (y : Nat) (hy : y < 4294967296) : bits .xor .u32 IntKind.u32.max (y : Int) = ((4294967295 - y : Nat) : Int) := by
  have e : BitVec.ofInt 32 IntKind.u32.max = BitVec.allOnes 32 := by decide
  show IntKind.u32.wrap ((BitVec.ofInt 32 IntKind.u32.max ^^^ BitVec.ofInt 32 (y : Int)).toNat : Int) = _
  rw [e, BitVec.allOnes_xor, BitVec.toNat_not, nat_u32 y hy, IntKind.wrap_u32]
  omega
theorem pair_n {a b c d : Int} (h1 : a = b) (h2 : c = d) : Ending.returned (.tuple #[.int .i64 a, .int .i64 c]) = .returned (.tuple #[.int .i64 b, .int .i64 d]) := by rw [h1, h2]
set_option maxHeartbeats 1000000 in
set_option maxRecDepth 100000 in
theorem implFirstRun (m : Nat) (h0 : m ≠ 0) (h : m < 16777216) (w : World) (hT : TabZ w) :
    Calls Tryd.prog 67 #[.int .u32 (m : Nat)] w fun e w' => (∃ f n : Nat, FirstRun m f n ∧ e = .returned (.tuple #[.int .i64 (f : Int), .int .i64 ((f + n : Nat) : Int)])) ∧ w' = w := by
  obtain ⟨hn0, hn1, hf⟩ := firstRun_of h0 h
  obtain ⟨_, _, hf32⟩ := ctz_bits h0 (by omega)
  have H1 := Lib.hid (tz32 m (by omega) w hT)
  have hy : m / 2 ^ Lib.ctz 32 m < 16777216 := Nat.lt_of_le_of_lt (Nat.div_le_self _ _) h
  have hd : (m : Int) / 2 ^ Lib.ctz 32 m = ((m / 2 ^ Lib.ctz 32 m : Nat) : Int) := by norm_cast
  generalize Lib.ctz 32 m = f at *
  have H2 := Lib.hid (tz32 (4294967295 - m / 2 ^ f) (Nat.lt_of_le_of_lt (Nat.sub_le _ _) (by omega)) w hT)
  have HF := Lib.hid hf
  have HD := Lib.hid hd
  have HY := Lib.hid hy
  clear hf hd hy hT
  generalize m / 2 ^ f = y at *
  generalize Lib.ctz 32 (4294967295 - y) = n at *
  have HN := Lib.hid hn0
  clear hn0
  go_enter Tryd.func67, Tryd.ntmps67
  go_wp2_with fail
  refine H1.out.mono ?_
  rintro e w1 ⟨rfl, rfl⟩
  go_wp2_with fail
  rw [HD.out, xor_max y (by have := HY.out; omega)]
  refine H2.out.mono ?_
  rintro e w2 ⟨rfl, rfl⟩
  have b1 : (n : Int) ≤ 32 := by omega
  have b2 : (f : Int) < 32 := by omega
  go_wp2
  go_ret2
  exact ⟨⟨f, n - 1, HF.out, pair_n rfl (by have := HN.out; omega)⟩, rfl⟩
theorem fmtI (n : Nat) (w : World) (h1 : n ≤ 23) : Calls Tryd.prog 50 #[.int .i64 (n : Int)] w fun e w' => e = .returned (.string (strB (Lib.itoa (n : Int)))) ∧ Below w.heap.size w w' := by
  go_enter Tryd.func50, Tryd.ntmps50
  go_wp2_with fail
  refine (Tryd.strconv_Itoa_small n (by omega) _).mono ?_
  rintro e w1 ⟨rfl, rfl⟩
  have he : (⟨(Lib.decDigits n).toArray⟩ : ByteArray) = strB (Lib.itoa (n : Int)) := by
    unfold Lib.itoa strB
    rw [if_neg (by omega), Int.toNat_natCast]
  rw [he]
  go_wp2
  go_ret
  exact ⟨rfl, Below.refl _ _⟩
set_option maxHeartbeats 1000000 in
set_option maxRecDepth 100000 in
theorem implFormatRun (f t : Nat) (w : World) (hf : f ≤ 23) (ht : t ≤ 23) : Calls Tryd.prog 68 #[.int .i64 (f : Int), .int .i64 (t : Int)] w fun e w' => e = .returned (.string (strB (runText ((f : Int), (t : Int))))) ∧ Below w.heap.size w w' := by
  have F1 := Lib.hid (fun w => fmtI f w hf)
  have F2 := Lib.hid (fun w => fmtI t w ht)
  by_cases he : (f : Int) = (t : Int)
  · obtain rfl : f = t := by omega
    have HT := Lib.hid (text_one he)
    rw [HT.out]
    clear he F2
    go_enter Tryd.func68, Tryd.ntmps68
    go_wp2_with fail
    refine (F1.out _).mono ?_
    rintro e w1 ⟨rfl, b1⟩
    go_wp2
    go_ret
    exact ⟨rfl, b1⟩
  · have HT := Lib.hid (text_two he)
    rw [HT.out]
    have l1 := Lib.itoa_length_le (f : Int) (by omega) (by omega)
    have l2 := Lib.itoa_length_le (t : Int) (by omega) (by omega)
    generalize Lib.itoa (f : Int) = p at *
    generalize Lib.itoa (t : Int) = q at *
    have d1 : ∀ w, (Op.stringOp .add (strB p) ⟨#[45]⟩).run Tryd.prog w = .ok (.string (strB (p ++ [45]))) w := strB_add p [45] (by simp; omega)
    have d2 : ∀ w, (Op.stringOp .add (strB (p ++ [45])) (strB q)).run Tryd.prog w = .ok (.string (strB ((p ++ [45]) ++ q))) w := strB_add (p ++ [45]) q (by simp; omega)
    have D1 := Lib.hid d1
    have D2 := Lib.hid d2
    clear l1 l2 d1 d2
    go_enter Tryd.func68, Tryd.ntmps68
    go_wp2_with fail
    refine (F1.out _).mono ?_
    rintro e w1 ⟨rfl, b1⟩
    have d1 := D1.out
    go_wp2_with fail
    refine (F2.out _).mono ?_
    rintro e w2 ⟨rfl, b2⟩
    have b3 := b1.trans (b2.mono b1.size)
    have d2 := D2.out
    clear b1 b2 d1
    go_wp2
    go_ret
    exact ⟨ret_s (by simp), b3⟩
theorem ret_u {a b : Int} (h : a = b) : Ending.returned (.int .u32 a) = .returned (.int .u32 b) := by rw [h]
theorem rangeM_val {f t : Nat} (h : f ≤ t) (ht : t ≤ 23) : ((2 : Int) ^ (t + 1) % 4294967296 - 2 ^ f % 4294967296) % 4294967296 = ((rangeM f t : Nat) : Int) := by
  have h1 : 2 ^ (t + 1) ≤ 2 ^ 24 := Nat.pow_le_pow_right (by omega) (by omega)
  have h2 : 2 ^ f ≤ 2 ^ (t + 1) := Nat.pow_le_pow_right (by omega) (by omega)
  have c1 : (2 : Int) ^ (t + 1) = ((2 ^ (t + 1) : Nat) : Int) := by norm_cast
  have c2 : (2 : Int) ^ f = ((2 ^ f : Nat) : Int) := by norm_cast
  rw [c1, c2]
  unfold rangeM
  clear c1 c2
  generalize 2 ^ (t + 1) = a at *
  generalize 2 ^ f = b at *
  omega
set_option maxHeartbeats 1000000 in
theorem implRunMask (f t : Nat) (w : World) (h : f ≤ t) (ht : t ≤ 23) : Calls Tryd.prog 69 #[.int .i64 (f : Int), .int .i64 (t : Int)] w fun e w' => e = .returned (.int .u32 ((rangeM f t : Nat) : Int)) ∧ Below w.heap.size w w' := by
  go_enter Tryd.func69, Tryd.ntmps69
  have e1 : IntKind.i64.wrap ((t : Int) + 1) = (t : Int) + 1 := IntWalk.i64_in _ (by omega)
  have e2 : (0 : Int) ≤ (t : Int) + 1 := by omega
  have e3 : (0 : Int) ≤ (f : Int) := by omega
  go_wp2
  go_quiet (fail)
  have hv := rangeM_val h ht
  go_wp2
  go_ret
  exact ⟨ret_u hv, below_drewN (Below.refl _ _) _⟩
theorem join_texts (rs : List (Int × Int)) : Lib.join ((rs.map fun r => strB (runText r)).map (·.data.toList)) (⟨#[32]⟩ : ByteArray).data.toList = glue [] rs := by
  rw [List.map_map, ← join_glue]
  rfl
set_option maxHeartbeats 2000000 in
set_option maxRecDepth 100000 in
theorem implFormat (m : Nat) (h : m < 16777216) (w : World) (hT : TabZ w) :
    Calls Tryd.prog 52 #[.int .u32 (m : Nat)] w fun e w' => e = .returned (.string (strB (fmtRuns (memL m)))) ∧ Below w.heap.size w w' := by
  have HT := Lib.hid hT
  clear hT
  by_cases h0 : m = 0
  · subst h0
    have HE : Hid (fmtRuns (memL 0) = [110, 111, 110, 101]) := Lib.hid (by rw [memL_zero]; rfl)
    rw [HE.out]
    go_enter Tryd.func52, Tryd.ntmps52
    go_wp2
    go_ret
    exact ⟨rfl, Below.refl _ _⟩
  · have HE : Hid (fmtRuns (memL m) = glue [] (runs (memL m))) := Lib.hid (by unfold fmtRuns; rw [if_neg (memL_ne h0 h)])
    have HG := Lib.hid (memL_glue m)
    have HR : Hid (runs (memL m) ≠ []) := Lib.hid (by rw [runs_first h (firstRun_of h0 h).2.2]; simp)
    have HL := Lib.hid (Nat.le_trans (runs_len (memL m)) (memL_len m))
    have hb : ((m : Int) == 0) = false := by simp; omega
    rw [HE.out]
    clear h0
    go_enter Tryd.func52, Tryd.ntmps52
    go_wp2
    clear hb
    go_loopw [0, 3] (fun x v wr => ∃ (k : Nat) (done : List (Int × Int)), x = .int .u32 (k : Nat) ∧ k < 16777216 ∧ OwnsS wr w.heap.size v (done.map fun r => strB (runText r)) ∧ Below w.heap.size w wr ∧ Hid (done ++ runs (memL k) = runs (memL m))) (fun x _ _ => (intOf x).toNat)
    case atStart => exact ⟨m, [], rfl, h, ownsS_nil _ _, Below.refl _ _, Lib.hid rfl⟩
    case round =>
      obtain ⟨k, done, rfl, hk, hown, hbel, hdone⟩ := hrel
      clear h
      have hB := hbel.size
      by_cases hk0 : k = 0
      · subst hk0
        have hd : done = runs (memL m) := by have := hdone.out; rw [memL_zero] at this; simpa [runs] using this
        subst hd
        rcases ownsS_strs hown with ⟨hnil, _⟩ | ⟨b, off, cap, rfl, hcap, hblt, hcells⟩
        · exact absurd (List.map_eq_nil_iff.1 hnil) HR.out
        · have HJ := Lib.hid (Tryd.strings_Join b off cap ((runs (memL m)).map fun r => strB (runText r)) ⟨#[32]⟩ wr (fun j x hx => by
            obtain ⟨hj, rfl⟩ := List.getElem?_eq_some_iff.1 hx
            have := hcells j hj
            rw [List.getD, List.getElem?_eq_getElem hj] at this
            exact this) hblt (by have := HL.out; simp; omega) hcap (by rw [join_texts]; have := HG.out; omega))
          rw [join_texts] at HJ
          clear hcells hcap hown hdone
          generalize (runs (memL m)).map (fun r => strB (runText r)) = ts at *
          obtain ⟨txt, htx⟩ : ∃ txt, glue [] (runs (memL m)) = txt := ⟨_, rfl⟩
          rw [htx] at HJ
          have HTX := Lib.hid htx
          clear htx
          go_wp2_with fail
          refine HJ.out.mono ?_
          rintro e w5 ⟨rfl, b5⟩
          have b6 := hbel.trans (b5.mono hB)
          clear b5 hbel
          go_wp2
          go_ret
          exact ⟨ret_s HTX.out.symm, b6⟩
      · have hkb : ((k : Int) != 0) = true := by simp; omega
        have HFR := Lib.hid (implFirstRun k hk0 hk)
        go_wp2_with fail
        refine (HFR.out _ (HT.out.on hbel)).mono ?_
        rintro e w1 ⟨⟨f, n, hfr, rfl⟩, rfl⟩
        have h23 := hfr.1
        have HN := Lib.hid (runs_first hk hfr)
        have HS := Lib.hid (restM_less hk hfr)
        have HK := Lib.hid (restM_lt f n hk)
        have hand := andNot_u32 k (rangeM f (f + n)) (by omega) (by have := rangeM_lt (f := f) (t := f + n) h23; omega)
        have HA : Hid (bits .andNot .u32 (k : Int) ((rangeM f (f + n) : Nat) : Int) = ((restM k f n : Nat) : Int)) := Lib.hid hand
        clear hand hfr hkb HFR
        have hlen : Hid ((done.map fun r => strB (runText r)).length + 1 ≤ 8796093022208) := Lib.hid (by
          have e := congrArg List.length hdone.out
          have := HL.out
          simp at e ⊢
          omega)
        go_wp2_with fail
        refine (implFormatRun f (f + n) _ (by omega) h23).mono ?_
        rintro e w2 ⟨rfl, b2⟩
        have hown2 := ownsS_below hown b2
        have hbel2 := hbel.trans (b2.mono hB)
        have hB2 := hbel2.size
        clear hown hbel b2 hB
        go_wp2_with (at_builtin; refine append_strs rfl (.tmp 15) (.tmp 19) rfl w.heap.size _ _ rfl hown2 hB2 _ [strB (runText ((f : Int), ((f + n : Nat) : Int)))] 1 _ rfl (by first | rfl | (simp; done)) rfl (by have := hlen.out; simp at this ⊢; omega) ?_)
        intro v' w3 hown3 hb3
        have hbel3 := hbel2.trans hb3
        have hB3 := hbel3.size
        clear hown2 hbel2 hB2 hb3
        go_wp2_with fail
        refine (implRunMask f (f + n) _ (by omega) h23).mono ?_
        rintro e w4 ⟨rfl, b4⟩
        have hown4 := ownsS_below hown3 b4
        have hbel4 := hbel3.trans (b4.mono hB3)
        clear hown3 hbel3 hB3 b4
        go_wp2
        go_roundw
        case rel => exact ⟨restM k f n, done ++ [((f : Int), ((f + n : Nat) : Int))], by rw [HA.out], HK.out, by simpa using hown4, hbel4, Lib.hid (by rw [← hdone.out, HN.out]; simp)⟩
        case measure => rw [HA.out]; simpa [intOf] using HS.out
theorem implFormatSet (va : Value) (a : List Int) (w : World) (h : Ints w va a) (hT : TabZ w) (hn : a.length ≤ 1048576) :
    Calls Tryd.prog 30 #[va] w fun e w' => e = .returned (.string (strB (fmtSet a))) ∧ Below w.heap.size w w' := by
  have HM := Lib.hid (implMaskOf va a w h (by omega))
  have HT := Lib.hid hT
  have HF := Lib.hid (implFormat (maskL a) (maskL_lt a))
  clear h hT hn
  cases hs : setB a with
  | true =>
    have HE : Hid (fmtSet a = fmtRuns (memL (maskL a))) := Lib.hid (by rw [memL_set ((setB_iff a).1 hs)]; unfold fmtSet; rw [hs]; rfl)
    rw [hs] at HM
    rw [HE.out]
    clear hs HE
    generalize fmtRuns (memL (maskL a)) = r at *
    generalize maskL a = m at *
    go_enter Tryd.func30, Tryd.ntmps30
    go_wp2_with fail
    refine HM.out.mono ?_
    rintro e w1 ⟨rfl, b1⟩
    go_wp2_with fail
    refine (HF.out _ (HT.out.on b1)).mono ?_
    rintro e w2 ⟨rfl, b2⟩
    have b3 := b1.trans (b2.mono b1.size)
    clear b1 b2
    go_wp2
    go_ret
    exact ⟨rfl, b3⟩
  | false =>
    have HE := Lib.hid (fmtSet_no hs)
    rw [hs] at HM
    rw [HE.out]
    clear hs HE HF
    generalize maskL a = m at *
    go_enter Tryd.func30, Tryd.ntmps30
    go_wp2_with fail
    refine HM.out.mono ?_
    rintro e w1 ⟨rfl, b1⟩
    go_wp2
    go_ret
    exact ⟨rfl, b1⟩
end Go.Proofs.YtmkcfkblfjhnhaaDoor
namespace Go.Proofs.YtmkcfkblfjhnhaaDoor
open Go.RowKit
set_option linter.unusedVariables false
set_option linter.unusedSimpArgs false
theorem fmtRg (n : Int) (w : World) (h0 : 0 ≤ n) (h1 : n ≤ 999) (hT : Tab w) : Calls Tryd.prog 50 #[.int .i64 n] w fun e w' => e = .returned (.string (strB (Lib.itoa n))) ∧ Below w.heap.size w w' := implFmt n w (by omega) (by omega) hT
set_option maxHeartbeats 4000000 in
set_option maxRecDepth 100000 in
theorem formatRange_any (lo hi : Int) (w : World) (l0 : 0 ≤ lo) (l1 : lo ≤ 999) (h0 : 0 ≤ hi) (h1 : hi ≤ 999) (hT : Tab w) :
    Calls Tryd.prog 29 #[.int .i64 lo, .int .i64 hi] w fun e w' => e = .returned (.string (strB (Lib.itoa lo ++ [46, 46] ++ Lib.itoa hi))) ∧ Below w.heap.size w w' := by
  have HA := Lib.hid (fun w h => fmtRg lo w l0 l1 h)
  have HB := Lib.hid (fun w h => fmtRg hi w h0 h1 h)
  have ll := Lib.itoa_length_le lo (by omega) (by omega)
  have hl := Lib.itoa_length_le hi (by omega) (by omega)
  have HT := Lib.hid hT
  generalize Lib.itoa lo = t1 at *
  generalize Lib.itoa hi = t2 at *
  have dA : ∀ w, (Op.stringOp .add (strB t1) ⟨#[46, 46]⟩).run Tryd.prog w = .ok (.string (strB (t1 ++ [46, 46]))) w := strB_add t1 [46, 46] (by simp; omega)
  have dB : ∀ w, (Op.stringOp .add (strB (t1 ++ [46, 46])) (strB t2)).run Tryd.prog w = .ok (.string (strB (t1 ++ [46, 46] ++ t2))) w := strB_add (t1 ++ [46, 46]) t2 (by simp; omega)
  generalize t1 ++ [46, 46] ++ t2 = t4 at *
  generalize t1 ++ [46, 46] = t3 at *
  clear ll hl hT l0 l1 h0 h1
  go_enter Tryd.func29, Tryd.ntmps29
  go_wp2_with fail
  refine (HA.out _ HT.out).mono ?_
  rintro e w1 ⟨rfl, b1⟩
  go_wp2_with fail
  refine (HB.out _ (HT.out.on b1)).mono ?_
  rintro e w2 ⟨rfl, b2⟩
  have b3 := b1.trans (b2.mono b1.size)
  go_wp2
  go_ret
  exact ⟨rfl, b3⟩
end Go.Proofs.YtmkcfkblfjhnhaaDoor
