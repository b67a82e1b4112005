/-
  The walks that compare slices of spans: the laws' own, and the specification's EqualSpans.
-/
import Derived.Test.YteelgogfpidcdabDoorSpanLaws
import Derived.Test.YteelgogfpidcdabDoorRowEq
import Derived.Test.YteelgogfpidcdabDoorTake
namespace Go.Proofs.YteelgogfpidcdabDoor
open Go.RowKit
set_option linter.unusedVariables false
set_option linter.unusedSimpArgs false
theorem zpL_len {rs : List SpanD} (hs : zpL rs ≤ 1048576) : rs.length ≤ 1048576 := by
  have := zpTo_le (rs := rs) (Nat.zero_le _); rw [zpTo_zero] at this; omega
theorem eqSpan_same (f t : Int) (v u : Value) (xs : List Int) (w : World) (h : Ints w v xs) (g : Ints w u xs) (hn : xs.length ≤ 1048576) :
    Calls Tryd.prog 18 #[.agg #[.int .i64 f, .int .i64 t, v], .agg #[.int .i64 f, .int .i64 t, u]] w fun e w' => e = .returned (.bool true) ∧ Below w.heap.size w w' := by
  have H := Lib.hid (fun w h g => eqIntS_same v u xs w h g hn)
  have HV := Lib.hid h
  have HU := Lib.hid g
  clear h g hn
  have hf0 : (f == f) = true := by simp
  have ht0 : (t == t) = true := by simp
  go_enter Tryd.func18, Tryd.ntmps18
  go_wp2_with fail
  have hb : Below w.heap.size w ((w.alloc (.cells #[.int .i64 f, .int .i64 t, v] 34)).alloc (.cells #[.int .i64 f, .int .i64 t, u] 34)) := ((Below.refl _ w).alloc (Nat.le_refl _) _).alloc (by simp) _
  refine (H.out _ (ints_below HV.out hb) (ints_below HU.out hb)).mono ?_
  rintro e w1 ⟨rfl, b1⟩
  have b2 := hb.trans (b1.mono hb.size)
  clear hb b1
  go_wp2
  go_ret
  exact ⟨rfl, b2⟩
set_option maxHeartbeats 4000000 in
set_option maxRecDepth 100000 in
theorem eqSpanS_same (v u : Value) (rs : List SpanD) (w : World) (h : SpansR w v rs) (g : SpansR w u rs) (hs : zpL rs ≤ 1048576) :
    Calls Tryd.prog 8 #[v, u] w fun e w' => e = .returned (.bool true) ∧ Below w.heap.size w w' := by
  have H := Lib.hid h
  have G := Lib.hid g
  have HS := Lib.hid hs
  have hlen := zpL_len hs
  obtain ⟨a, cap, rfl⟩ := spansR_len h
  obtain ⟨a2, cap2, rfl⟩ := spansR_len g
  clear h g hs
  go_enter Tryd.func8, Tryd.ntmps8
  go_wp2
  go_loopw [5] (fun i wr => ∃ k : Nat, k ≤ rs.length ∧ i = .int .i64 k ∧ Below w.heap.size w wr) (fun i _ => rs.length - (intOf i).toNat)
  case atStart => exact ⟨0, Nat.zero_le _, rfl, Below.refl _ _⟩
  case round =>
    obtain ⟨k, hk, rfl, hbel⟩ := hrel
    by_cases hlt : k < rs.length
    · obtain ⟨b, off, cap', vv, hv, hbl, hc1, hc2, hc3, hI⟩ := spansR_at (spansR_below H.out hbel) hlt
      simp only [Value.slice.injEq] at hv
      obtain ⟨rfl, _, rfl⟩ := hv
      obtain ⟨b2, off2, cap2', uv, hv2, hbl2, hd1, hd2, hd3, hJ⟩ := spansR_at (spansR_below G.out hbel) hlt
      simp only [Value.slice.injEq] at hv2
      obtain ⟨rfl, _, rfl⟩ := hv2
      have hxl := zpL_span HS.out hlt
      have i1 : (0 : Int) ≤ (k : Int) := by omega
      have i2 : (k : Int) < (rs.length : Int) := by omega
      generalize rs.getD k p0D = r at *
      obtain ⟨sf, st, xs⟩ := r
      simp only at hc1 hc2 hc3 hd1 hd2 hd3 hI hJ hxl
      go_wp2
      go_region_with (first | (go_at_call 18; refine (eqSpan_same sf st _ _ xs _ (by exact ints_heap hI rfl) (by exact ints_heap hJ rfl) hxl).mono ?_; rintro e w8 ⟨rfl, b9⟩; have b10 : Below wr.heap.size wr w8 := ⟨b9.os, b9.tape, b9.output, b9.size, b9.block⟩))
      all_goals
        have b11 := hbel.trans (b10.mono hbel.size)
        go_wp2
        go_roundw
        case rel => exact ⟨k + 1, by omega, by go_num, b11⟩
        case measure => simp [intOf]; omega
    · go_wp2
      go_ret
      exact ⟨rfl, hbel⟩
theorem spans_ne_at {rs ss : List SpanD} {k : Nat} (h : ¬ rs.getD k p0D = ss.getD k p0D) : ¬ rs = ss := fun e => h (by rw [e])
theorem spans_eq_all {rs ss : List SpanD} (hl : rs.length = ss.length) (h : ∀ j, j < rs.length → rs.getD j p0D = ss.getD j p0D) : rs = ss := by
  apply List.ext_getElem hl
  intro i h1 h2
  have := h i h1
  simpa [List.getD, h1, h2] using this
end Go.Proofs.YteelgogfpidcdabDoor
