/-
  The program's EqualSpans: slices.EqualFunc over its comparison of two spans.
-/
import Derived.Test.YteelgogfpidcdabSlEq
import Derived.Test.YteelgogfpidcdabSpanEq
namespace Go.Proofs.Yteelgogfpidcdab
open Go.RowKit
set_option linter.unusedVariables false
set_option linter.unusedSimpArgs false
theorem span_eq3 {fr to fr2 to2 : Int} {xs ys : List Int} (h1 : fr = fr2) (h2 : to = to2) : decide (((fr, to, xs) : SpanD) = (fr2, to2, ys)) = decide (xs = ys) := by subst h1; subst h2; simp
set_option maxHeartbeats 8000000 in
set_option maxRecDepth 100000 in
theorem equalSpan_any (fr to fr2 to2 : Int) (v u : Value) (xs ys : List Int) (w : World) (h : Ints w v xs) (g : Ints w u ys) (hn : xs.length ≤ 1048576) (hm : ys.length ≤ 1048576) :
    Calls Try.prog 24 #[.agg #[.int .i64 fr, .int .i64 to, v], .agg #[.int .i64 fr2, .int .i64 to2, u]] w fun e w' => e = .returned (.bool (decide (((fr, to, xs) : SpanD) = (fr2, to2, ys)))) ∧ Below w.heap.size w w' := by
  obtain ⟨va, vcap, rfl⟩ := ints_len h
  obtain ⟨ua, ucap, rfl⟩ := ints_len g
  have hb : Below w.heap.size w ((w.alloc (.cells #[.int .i64 fr, .int .i64 to, .slice va xs.length vcap] 38)).alloc (.cells #[.int .i64 fr2, .int .i64 to2, .slice ua ys.length ucap] 38)) := ((Below.refl _ w).alloc (Nat.le_refl _) _).alloc (by simp) _
  have HQ := Lib.hid (fun w h g => equalInts_any (.slice va xs.length vcap) (.slice ua ys.length ucap) xs ys w h g hn hm)
  have HV := Lib.hid (ints_below h hb)
  have HU := Lib.hid (ints_below g hb)
  clear h g hn hm
  by_cases h1 : fr = fr2
  · by_cases h2 : to = to2
    · have HE := Lib.hid (span_eq3 (xs := xs) (ys := ys) h1 h2)
      have e1 : (fr == fr2) = true := by simp [h1]
      have e2 : (to == to2) = true := by simp [h2]
      rw [HE.out]
      generalize decide (xs = ys) = r at *
      clear h1 h2 HE
      go_enter Try.func24, Try.ntmps24
      go_wp2_with fail
      generalize ((w.alloc (.cells #[.int .i64 fr, .int .i64 to, .slice va xs.length vcap] 38)).alloc (.cells #[.int .i64 fr2, .int .i64 to2, .slice ua ys.length ucap] 38)) = W at *
      refine (HQ.out _ HV.out HU.out).mono ?_
      rintro e w1 ⟨rfl, b1⟩
      have b2 := hb.trans (b1.mono hb.size)
      go_wp2
      go_ret
      exact ⟨rfl, b2⟩
    · have HE : Hid (decide (((fr, to, xs) : SpanD) = (fr2, to2, ys)) = false) := Lib.hid (decide_eq_false (fun e => h2 (by injection e with _ e; injection e)))
      have e1 : (fr == fr2) = true := by simp [h1]
      have e2 : (to == to2) = false := by simp [h2]
      clear h1 h2 HQ
      go_enter Try.func24, Try.ntmps24
      go_wp2
      go_ret
      exact ⟨ret_b HE.out.symm, hb⟩
  · have HE : Hid (decide (((fr, to, xs) : SpanD) = (fr2, to2, ys)) = false) := Lib.hid (decide_eq_false (fun e => h1 (by injection e)))
    have e1 : (fr == fr2) = false := by simp [h1]
    clear h1 HQ
    go_enter Try.func24, Try.ntmps24
    go_wp2
    go_ret
    exact ⟨ret_b HE.out.symm, hb⟩
set_option maxHeartbeats 8000000 in
set_option maxRecDepth 100000 in
theorem spansFunc_any (v u : Value) (rs ss : List SpanD) (w : World) (h : SpansR w v rs) (g : SpansR w u ss) (hs : zpL rs ≤ 1048576) (ht : zpL ss ≤ 1048576) :
    Calls Try.prog 23 #[v, u, .func (.func 24) #[] #[]] w fun e w' => e = .returned (.bool (decide (rs = ss))) ∧ Below w.heap.size w w' := by
  have H := Lib.hid h
  have G := Lib.hid g
  have HS := Lib.hid hs
  have HT := Lib.hid ht
  have hlen := zpL_len hs
  have hlen2 := zpL_len ht
  obtain ⟨a, cap, rfl⟩ := spansR_len h
  obtain ⟨a2, cap2, rfl⟩ := spansR_len g
  clear h g hs ht
  by_cases hl : rs.length = ss.length
  · have HL := Lib.hid hl
    have hne : ((rs.length : Int) != (ss.length : Int)) = false := by rw [hl]; simp
    clear hl
    go_enter Try.func23, Try.ntmps23
    go_wp2
    clear hne
    go_loopw [17] (fun i wr => ∃ k : Nat, k ≤ rs.length ∧ i = .int .i64 k ∧ Hid (∀ j, j < k → rs.getD j p0D = ss.getD j p0D) ∧ Below w.heap.size w wr) (fun i _ => rs.length - (intOf i).toNat)
    case atStart => exact ⟨0, Nat.zero_le _, rfl, Lib.hid (fun j hj => by omega), Below.refl _ _⟩
    case round =>
      obtain ⟨k, hk, rfl, hall, hbel⟩ := hrel
      by_cases hlt : k < rs.length
      · have hlt2 : k < ss.length := by have := HL.out; omega
        obtain ⟨b, off, cap', vv, hv, hbl, hc1, hc1b, hc2, hI⟩ := spansR_at (spansR_below H.out hbel) hlt
        simp only [Value.slice.injEq] at hv
        obtain ⟨rfl, _, rfl⟩ := hv
        obtain ⟨b2, off2, cap2', uv, hv2, hbl2, hd1, hd1b, hd2, hJ⟩ := spansR_at (spansR_below G.out hbel) hlt2
        simp only [Value.slice.injEq] at hv2
        obtain ⟨rfl, _, rfl⟩ := hv2
        have hxl := zpL_span HS.out hlt
        have hyl := zpL_span HT.out hlt2
        have i1 : (0 : Int) ≤ (k : Int) := by omega
        have i2 : (k : Int) < (rs.length : Int) := by omega
        have i3 : (k : Int) < (ss.length : Int) := by omega
        have HNE := Lib.hid (fun e => decide_eq_false (spans_ne_at (rs := rs) (ss := ss) (k := k) e))
        have HALL : Hid (rs.getD k p0D = ss.getD k p0D → ∀ j, j < k + 1 → rs.getD j p0D = ss.getD j p0D) := Lib.hid (fun he j hj => by
          by_cases e : j = k
          · exact e ▸ he
          · exact hall.out j (by omega))
        clear hall
        generalize rs.getD k p0D = r at *
        generalize ss.getD k p0D = q at *
        obtain ⟨fr, to, xs⟩ := r
        obtain ⟨fr2, to2, ys⟩ := q
        simp only at hc1 hc1b hc2 hd1 hd1b hd2 hI hJ hxl hyl
        obtain ⟨va, vcap, rfl⟩ := ints_len hI
        obtain ⟨ua, ucap, rfl⟩ := ints_len hJ
        have HSM := Lib.hid (fun w h g => equalSpan_any fr to fr2 to2 (.slice va xs.length vcap) (.slice ua ys.length ucap) xs ys w h g hxl hyl)
        have bb := ((Below.refl wr.heap.size wr).alloc (Nat.le_refl _) (.cells #[.int .i64 fr, .int .i64 to, .slice va xs.length vcap] 38)).alloc (by simp) (.cells #[.int .i64 fr2, .int .i64 to2, .slice ua ys.length ucap] 38)
        have hd1' := ((Below.refl wr.heap.size wr).alloc (Nat.le_refl _) (.cells #[.int .i64 fr, .int .i64 to, .slice va xs.length vcap] 38)).cell (p := ⟨b2, off2 + k * 3, none⟩) hbl2
        have hd1b' := ((Below.refl wr.heap.size wr).alloc (Nat.le_refl _) (.cells #[.int .i64 fr, .int .i64 to, .slice va xs.length vcap] 38)).cell (p := ⟨b2, off2 + k * 3 + 1, none⟩) hbl2
        have hd2' := ((Below.refl wr.heap.size wr).alloc (Nat.le_refl _) (.cells #[.int .i64 fr, .int .i64 to, .slice va xs.length vcap] 38)).cell (p := ⟨b2, off2 + k * 3 + 2, none⟩) hbl2
        rw [hd1] at hd1'
        rw [hd1b] at hd1b'
        rw [hd2] at hd2'
        by_cases he : ((fr, to, xs) : SpanD) = (fr2, to2, ys)
        · have HA := Lib.hid (HALL.out he)
          rw [decide_eq_true he] at HSM
          clear he HNE HALL
          go_wp2_with fail
          refine (HSM.out _ (ints_below hI bb) (ints_below hJ bb)).mono ?_
          rintro e w8 ⟨rfl, b9⟩
          have b11 := hbel.trans ((bb.trans (b9.mono bb.size)).mono hbel.size)
          clear b9 bb hd1' hd1b' hd2'
          go_wp2
          go_roundw
          case rel => exact ⟨k + 1, by omega, by go_num, HA, b11⟩
          case measure => simp [intOf]; omega
        · have HF := Lib.hid (HNE.out he)
          rw [decide_eq_false he] at HSM
          clear he HNE HALL
          go_wp2_with fail
          refine (HSM.out _ (ints_below hI bb) (ints_below hJ bb)).mono ?_
          rintro e w8 ⟨rfl, b9⟩
          have b11 := hbel.trans ((bb.trans (b9.mono bb.size)).mono hbel.size)
          clear b9 bb hd1' hd1b' hd2'
          go_wp2
          go_ret
          exact ⟨ret_b HF.out.symm, b11⟩
      · obtain rfl : k = rs.length := by omega
        have HE := Lib.hid (decide_eq_true (spans_eq_all HL.out hall.out))
        clear hall
        go_wp2
        go_ret
        exact ⟨ret_b HE.out.symm, hbel⟩
  · have HF := Lib.hid (decide_eq_false (show ¬ rs = ss from fun e => hl (by rw [e])))
    have hne : ((rs.length : Int) != (ss.length : Int)) = true := by rw [bne_iff_ne]; omega
    clear hl
    go_enter Try.func23, Try.ntmps23
    go_wp2
    go_ret
    exact ⟨ret_b HF.out.symm, Below.refl _ _⟩
set_option maxHeartbeats 2000000 in
set_option maxRecDepth 100000 in
theorem implEqualSpans (v u : Value) (rs ss : List SpanD) (w : World) (h : SpansR w v rs) (g : SpansR w u ss) (hs : zpL rs ≤ 1048576) (ht : zpL ss ≤ 1048576) :
    Calls Try.prog 15 #[v, u] w fun e w' => e = .returned (.bool (decide (rs = ss))) ∧ Below w.heap.size w w' := by
  have H := Lib.hid (fun w h g => spansFunc_any v u rs ss w h g hs ht)
  have HV := Lib.hid h
  have HU := Lib.hid g
  clear h g hs ht
  generalize decide (rs = ss) = r at *
  go_enter Try.func15, Try.ntmps15
  go_wp2_with fail
  refine (H.out _ HV.out HU.out).mono ?_
  rintro e w1 ⟨rfl, b1⟩
  go_wp2
  go_ret
  exact ⟨rfl, b1⟩
end Go.Proofs.Yteelgogfpidcdab
