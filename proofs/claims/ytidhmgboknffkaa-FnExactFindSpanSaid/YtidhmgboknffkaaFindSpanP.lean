/-
  The program's FindSpan.
-/
import Derived.Test.YtidhmgboknffkaaFindSpec
import Derived.Test.YtidhmgboknffkaaSpanLaws
import Derived.Test.YtidhmgboknffkaaSpanEq
import Derived.Test.YtidhmgboknffkaaCopyP
namespace Go.Proofs.Ytidhmgboknffkaa
open Go.RowKit
set_option linter.unusedVariables false
set_option linter.unusedSimpArgs false
set_option maxHeartbeats 4000000 in
set_option maxRecDepth 100000 in
theorem interval_of (f t : Int) (a : Option Addr) (m c : Nat) (w : World) : Calls Try.prog 80 #[.agg #[.int .i64 f, .int .i64 t, .slice a m c]] w fun e w' => e = .returned (.agg #[.int .i64 f, .int .i64 t, .slice a m c]) ∧ Below w.heap.size w w' := by
  have hb1 : Below w.heap.size w (w.alloc (.cells #[.int .i64 f, .int .i64 t, .slice a m c] 100)) := (Below.refl _ w).alloc (Nat.le_refl _) _
  go_enter Try.func80, Try.ntmps80
  go_wp2
  refine bodyPost_ret (v := .agg #[.int .i64 f, .int .i64 t, .slice a m c]) ?_ rfl ?_
  · simp [results, Try.f80, go_sem]
  · refine ⟨rfl, ?_⟩
    first
    | exact ((((((Below.refl _ w).alloc (Nat.le_refl _) _).alloc (by simp) _).setCell (by simp) _).setCell (by simp) _).setCell (by simp) _)
    | exact ((Below.refl _ w).alloc (Nat.le_refl _) _).alloc (by simp) _
set_option maxHeartbeats 4000000 in
set_option maxRecDepth 100000 in
theorem containsS_is (a b : Int) (p : Option Addr) (m c : Nat) (v : Int) (w : World) : Calls Try.prog 81 #[.agg #[.int .i64 a, .int .i64 b, .slice p m c], .int .i64 v] w fun e w' => e = .returned (.bool (decide (a ≤ v ∧ v ≤ b))) ∧ Below w.heap.size w w' := by
  have hb : Below w.heap.size w (w.alloc (.cells #[.int .i64 a, .int .i64 b, .slice p m c] 106)) := (Below.refl _ w).alloc (Nat.le_refl _) _
  obtain ⟨r, hr⟩ : ∃ r, decide (a ≤ v ∧ v ≤ b) = r := ⟨_, rfl⟩
  rw [hr]
  by_cases h1 : a ≤ v
  · by_cases h2 : v ≤ b
    · have HT : Hid (r = true) := Lib.hid (by rw [← hr]; exact decide_eq_true ⟨h1, h2⟩)
      clear hr
      go_enter Try.func81, Try.ntmps81
      go_wp2
      go_ret
      exact ⟨ret_b HT.out.symm, hb⟩
    · have HT : Hid (r = false) := Lib.hid (by rw [← hr]; exact decide_eq_false (fun g => h2 g.2))
      clear hr
      go_enter Try.func81, Try.ntmps81
      go_wp2
      go_ret
      exact ⟨ret_b HT.out.symm, hb⟩
  · have HT : Hid (r = false) := Lib.hid (by rw [← hr]; exact decide_eq_false (fun g => h1 g.1))
    clear hr
    go_enter Try.func81, Try.ntmps81
    go_wp2
    go_ret
    exact ⟨ret_b HT.out.symm, hb⟩
set_option maxHeartbeats 8000000 in
set_option maxRecDepth 100000 in
theorem implFindSpan (va : Value) (rs : List SpanD) (v : Int) (w : World) (h : SpansR w va rs) (hs : zpL rs ≤ 1048576) :
    Calls Try.prog 42 #[va, .int .i64 v] w (FreshInts w (findL rs v)) := by
  have H := Lib.hid h
  have HS := Lib.hid hs
  have hlen := zpL_len hs
  obtain ⟨a, cap, rfl⟩ := spansR_len h
  clear h hs
  go_enter Try.func42, Try.ntmps42
  go_wp2
  go_loopw [10] (fun i wr => ∃ k : Nat, k ≤ rs.length ∧ i = .int .i64 k ∧ Hid (∀ j, j < k → hitB v (rs.getD j p0D) = false) ∧ Below w.heap.size w wr) (fun i _ => rs.length - (intOf i).toNat)
  case atStart => exact ⟨0, Nat.zero_le _, rfl, Lib.hid (fun j hj => by omega), Below.refl _ _⟩
  case round =>
    obtain ⟨k, hk, rfl, hall, hbel⟩ := hrel
    by_cases hlt : k < rs.length
    · obtain ⟨b, off, cap', vv, hv, hbl, hc1, hc2, hc3, hI⟩ := spansR_at (spansR_below H.out hbel) hlt
      simp only [Value.slice.injEq] at hv
      obtain ⟨rfl, _, rfl⟩ := hv
      obtain ⟨ua, uc, rfl⟩ := ints_len hI
      have HXL := Lib.hid (zpL_span HS.out hlt)
      have i1 : (0 : Int) ≤ (k : Int) := by omega
      have i2 : (k : Int) < (rs.length : Int) := by omega
      have HHIT := Lib.hid (fun e => find_at (v := v) hlt hall.out e)
      have HALL : Hid (hitB v (rs.getD k p0D) = false → ∀ j, j < k + 1 → hitB v (rs.getD j p0D) = false) := Lib.hid (fun he j hj => by
        by_cases e : j = k
        · exact e ▸ he
        · exact hall.out j (by omega))
      clear hall
      generalize rs.getD k p0D = r at *
      obtain ⟨sf, st, xs⟩ := r
      simp only at hc1 hc2 hc3 hI HXL HHIT
      have hal : Below wr.heap.size wr (wr.alloc (.cells #[.int .i64 sf, .int .i64 st, .slice ua xs.length uc] 100)) := (Below.refl _ _).alloc (Nat.le_refl _) _
      have HII := Lib.hid (ints_below hI hal)
      have HBW := Lib.hid (hbel.trans (hal.mono hbel.size))
      have HB : Hid (hitB v (sf, st, xs) = decide (sf ≤ v ∧ v ≤ st)) := Lib.hid rfl
      clear hI hbel hal
      go_wp2_with fail
      generalize wr.alloc (.cells #[.int .i64 sf, .int .i64 st, .slice ua xs.length uc] 100) = W at *
      refine (interval_of sf st ua xs.length uc _).mono ?_
      rintro e w2 ⟨rfl, b2⟩
      have hal : Below w2.heap.size w2 (w2.alloc (.cells #[.int .i64 sf, .int .i64 st, .slice ua xs.length uc] 106)) := (Below.refl _ _).alloc (Nat.le_refl _) _
      have g0 := heap_alloc_new w2 (.cells #[.int .i64 sf, .int .i64 st, .slice ua xs.length uc] 106)
      have HZL : Hid (w2.heap.size < (w2.alloc (.cells #[.int .i64 sf, .int .i64 st, .slice ua xs.length uc] 106)).heap.size) := Lib.hid (by simp)
      have HI2 := Lib.hid (ints_below (ints_below HII.out b2) hal)
      have HB2 := Lib.hid ((HBW.out.trans (b2.mono HBW.out.size)).trans (hal.mono (HBW.out.trans (b2.mono HBW.out.size)).size))
      clear hc1 hc2 hc3 HII HBW b2 hal
      go_wp2_with fail
      generalize w2.alloc (.cells #[.int .i64 sf, .int .i64 st, .slice ua xs.length uc] 106) = W2 at *
      refine (containsS_is sf st ua xs.length uc v _).mono ?_
      rintro e w3 ⟨rfl, b3⟩
      have k3 := (b3.block _ HZL.out).trans g0
      have p2 := (cell_of_row w3 _ 2 _ _ _ k3).trans (show _ = some (Value.slice ua xs.length uc) from rfl)
      have I3 := ints_below HI2.out b3
      have B3 := HB2.out.trans (b3.mono HB2.out.size)
      rw [← HB.out]
      clear k3 g0 b3 HI2 HB2
      cases hh : hitB v (sf, st, xs) with
      | true =>
        have HF := Lib.hid (HHIT.out hh)
        clear HHIT HALL hh
        go_wp2_with fail
        refine (copyInts_any (.slice ua xs.length uc) xs w3 I3 HXL.out).mono ?_
        rintro e w4 ⟨u, rfl, oB, bB⟩
        obtain ⟨pa, pc, rfl⟩ := ints_len (ownsN_ints oB)
        have oB2 := ownsN_up oB B3.size
        have B4 := B3.trans (bB.mono B3.size)
        clear oB bB B3 I3 p2
        go_wp2
        go_ret
        rw [HF.out]
        exact ⟨_, rfl, oB2, B4⟩
      | false =>
        have HA := Lib.hid (HALL.out hh)
        clear HHIT HALL hh
        go_wp2
        go_roundw
        case rel => exact ⟨k + 1, by omega, by go_num, HA, B3⟩
        case measure => simp [intOf]; omega
    · obtain rfl : k = rs.length := by omega
      have HF := Lib.hid (find_none hall.out)
      clear hall
      go_wp2
      go_ret
      rw [HF.out]
      exact ⟨_, rfl, ownsN_nil _ _, hbel⟩
theorem findL_len {rs : List SpanD} {v : Int} (h : zpL rs ≤ 1048576) : (findL rs v).length ≤ 1048576 := by
  unfold findL
  cases hf : rs.find? (hitB v) with
  | none => simp [p0D]
  | some r =>
    have hm := List.mem_of_find?_eq_some hf
    obtain ⟨j, hj, rfl⟩ := List.getElem_of_mem hm
    have := zpL_span h hj
    have e : rs.getD j p0D = rs[j] := by simp [List.getD, hj]
    rw [e] at this
    simpa using this
end Go.Proofs.Ytidhmgboknffkaa
