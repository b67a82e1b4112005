/-
  The walk of the exact law of EqualSpans: if the program's function answers what the specification's does, the law returns true.
-/
import Derived.Test.YteelgogfpidcdabSpanEq
namespace Go.Proofs.Yteelgogfpidcdab
open Go.RowKit
set_option linter.unusedVariables false
set_option maxHeartbeats 8000000 in
set_option maxRecDepth 100000 in
theorem law_fnExactEqualSpans (va : Value) (a : List SpanD) (vb : Value) (b : List SpanD) (w : World) (ha : SpansR w va a) (hb : SpansR w vb b) (hna : (a.length : Int) ≤ 9223372036854775807) (hxa : ∀ j, j < a.length → ((a.getD j p0D).2.2.length : Int) ≤ 9223372036854775807) (hnb : (b.length : Int) ≤ 9223372036854775807) (hxb : ∀ j, j < b.length → ((b.getD j p0D).2.2.length : Int) ≤ 9223372036854775807)
    (himpl : ∀ (v u : Value) (w : World), SpansR w v a → SpansR w u b → zpL a ≤ 1048576 → zpL b ≤ 1048576 → Calls Try.prog 15 #[v, u] w fun e w' => e = .returned (.bool (decide (a = b))) ∧ Below w.heap.size w w') :
    Calls Try.prog 4 #[va, vb] w fun e w' => e = .returned (.bool true) ∧ Below w.heap.size w w' := by
  have I0 := ha
  have J0 := hb
  have HIM := Lib.hid himpl
  clear himpl
  by_cases hs : zpL a ≤ 1048576
  · by_cases ht : zpL a + zpL b ≤ 1048576
    · have HS := Lib.hid hs
      have HT : Hid (zpL b ≤ 1048576) := Lib.hid (by omega)
      have HST := Lib.hid ht
      have HZ := Lib.hid (fun v w h => szSpanS_yes v a 1048576 w h (by have := HS.out; omega) (by omega))
      have HY := Lib.hid (fun v w h => szSpanS_yes v b (1048576 - (zpL a : Int)) w h (by have := HST.out; omega) (by omega))
      have HE := Lib.hid (fun v u w h g => specEqSpans v u a b w h g HS.out HT.out)
      have hneg : ¬ (1048576 : Int) - (zpL a : Int) < 0 := by omega
      have hneg2 : ¬ (1048576 : Int) - (zpL a : Int) - (zpL b : Int) < 0 := by omega
      generalize decide (a = b) = r at *
      have hrr : (r != r) = false := by simp
      have b0 : Below w.heap.size w w := Below.refl _ _
      clear ha hb hna hxa hnb hxb hs ht
      go_enter Try.func4, Try.ntmps4
      go_wp2_with fail
      refine (HZ.out _ _ I0).mono ?_
      rintro e v1 ⟨rfl, c1⟩
      have d1 := b0.trans (c1.mono b0.size)
      replace I0 := spansR_below I0 c1
      replace J0 := spansR_below J0 c1
      clear b0 c1
      go_wp2_with fail
      refine (HY.out _ _ J0).mono ?_
      rintro e v2 ⟨rfl, c2⟩
      have d2 := d1.trans (c2.mono d1.size)
      replace I0 := spansR_below I0 c2
      replace J0 := spansR_below J0 c2
      clear d1 c2
      go_wp2_with fail
      refine (toSpanS_any _ a _ I0 HS.out).mono ?_
      rintro e v3 ⟨x1, rfl, o1, c3⟩
      have d3 := d2.trans (c3.mono d2.size)
      replace I0 := spansR_below I0 c3
      replace J0 := spansR_below J0 c3
      clear d2 c3
      have I1 := ownsP_spans o1
      clear o1
      go_wp2_with fail
      refine (toSpanS_any _ b _ J0 HT.out).mono ?_
      rintro e v4 ⟨x2, rfl, o2, c4⟩
      have d4 := d3.trans (c4.mono d3.size)
      replace I0 := spansR_below I0 c4
      replace J0 := spansR_below J0 c4
      replace I1 := spansR_below I1 c4
      clear d3 c4
      have J1 := ownsP_spans o2
      clear o2
      go_wp2_with fail
      refine (HE.out _ _ _ I1 J1).mono ?_
      rintro e v5 ⟨rfl, c5⟩
      have d5 := d4.trans (c5.mono d4.size)
      replace I0 := spansR_below I0 c5
      replace J0 := spansR_below J0 c5
      replace I1 := spansR_below I1 c5
      replace J1 := spansR_below J1 c5
      clear d4 c5
      clear I1
      clear J1
      go_wp2_with fail
      refine (toSpanS_any _ a _ I0 HS.out).mono ?_
      rintro e v6 ⟨x3, rfl, o3, c6⟩
      have d6 := d5.trans (c6.mono d5.size)
      replace I0 := spansR_below I0 c6
      replace J0 := spansR_below J0 c6
      clear d5 c6
      have I2 := ownsP_spans o3
      clear o3
      go_wp2_with fail
      refine (toSpanS_any _ b _ J0 HT.out).mono ?_
      rintro e v7 ⟨x4, rfl, o4, c7⟩
      have d7 := d6.trans (c7.mono d6.size)
      replace I0 := spansR_below I0 c7
      replace J0 := spansR_below J0 c7
      replace I2 := spansR_below I2 c7
      clear d6 c7
      have J2 := ownsP_spans o4
      clear o4
      go_wp2_with fail
      refine (HIM.out _ _ _ I2 J2 HS.out HT.out).mono ?_
      rintro e v8 ⟨rfl, c8⟩
      have d8 := d7.trans (c8.mono d7.size)
      replace I0 := spansR_below I0 c8
      replace J0 := spansR_below J0 c8
      replace I2 := spansR_below I2 c8
      replace J2 := spansR_below J2 c8
      clear d7 c8
      go_wp2_with fail
      refine (toSpanS_any _ a _ I0 HS.out).mono ?_
      rintro e v9 ⟨x5, rfl, o5, c9⟩
      have d9 := d8.trans (c9.mono d8.size)
      replace I0 := spansR_below I0 c9
      replace J0 := spansR_below J0 c9
      replace I2 := spansR_below I2 c9
      replace J2 := spansR_below J2 c9
      clear d8 c9
      have I3 := ownsP_spans o5
      clear o5
      go_wp2_with fail
      refine (eqSpanS_same _ _ a _ I2 I3 HS.out).mono ?_
      rintro e v10 ⟨rfl, c10⟩
      have d10 := d9.trans (c10.mono d9.size)
      replace I0 := spansR_below I0 c10
      replace J0 := spansR_below J0 c10
      replace I2 := spansR_below I2 c10
      replace J2 := spansR_below J2 c10
      replace I3 := spansR_below I3 c10
      clear d9 c10
      clear I3
      go_wp2_with fail
      refine (toSpanS_any _ b _ J0 HT.out).mono ?_
      rintro e v11 ⟨x6, rfl, o6, c11⟩
      have d11 := d10.trans (c11.mono d10.size)
      replace I0 := spansR_below I0 c11
      replace J0 := spansR_below J0 c11
      replace I2 := spansR_below I2 c11
      replace J2 := spansR_below J2 c11
      clear d10 c11
      have J3 := ownsP_spans o6
      clear o6
      go_wp2_with fail
      refine (eqSpanS_same _ _ b _ J2 J3 HT.out).mono ?_
      rintro e v12 ⟨rfl, c12⟩
      have d12 := d11.trans (c12.mono d11.size)
      replace I0 := spansR_below I0 c12
      replace J0 := spansR_below J0 c12
      replace I2 := spansR_below I2 c12
      replace J2 := spansR_below J2 c12
      replace J3 := spansR_below J3 c12
      clear d11 c12
      go_wp2
      go_ret
      exact ⟨rfl, d12⟩
    · have HZ := Lib.hid (fun v w h => szSpanS_yes v a 1048576 w h (by omega) (by omega))
      have HY := Lib.hid (fun v w h => szSpanS_no v b (1048576 - (zpL a : Int)) w h (by omega) (by omega) (by omega) hnb hxb)
      have hneg : ¬ (1048576 : Int) - (zpL a : Int) < 0 := by omega
      have b0 : Below w.heap.size w w := Below.refl _ _
      clear ha hb hna hxa hnb hxb hs ht HIM
      go_enter Try.func4, Try.ntmps4
      go_wp2_with fail
      refine (HZ.out _ _ I0).mono ?_
      rintro e v1 ⟨rfl, c1⟩
      have d1 := b0.trans (c1.mono b0.size)
      replace I0 := spansR_below I0 c1
      replace J0 := spansR_below J0 c1
      clear b0 c1
      go_wp2_with fail
      refine (HY.out _ _ J0).mono ?_
      rintro e v2 ⟨rfl, c2⟩
      have d2 := d1.trans (c2.mono d1.size)
      replace I0 := spansR_below I0 c2
      replace J0 := spansR_below J0 c2
      clear d1 c2
      go_wp2
      go_ret
      exact ⟨rfl, d2⟩
  · have HZ := Lib.hid (fun v w h => szSpanS_no v a 1048576 w h (by omega) (by omega) (by omega) hna hxa)
    have b0 : Below w.heap.size w w := Below.refl _ _
    clear ha hb hna hxa hnb hxb hs HIM
    go_enter Try.func4, Try.ntmps4
    go_wp2_with fail
    refine (HZ.out _ _ I0).mono ?_
    rintro e v1 ⟨rfl, c1⟩
    have d1 := b0.trans (c1.mono b0.size)
    replace I0 := spansR_below I0 c1
    replace J0 := spansR_below J0 c1
    clear b0 c1
    go_wp2
    go_ret
    exact ⟨rfl, d1⟩
end Go.Proofs.Yteelgogfpidcdab
