/-
  The walk of the exact law of FormatSpans: contracts of the specification and the program as premises.
-/
import Derived.Test.YteelgogfpidcdabDoorSpanLaws
import Derived.Test.YteelgogfpidcdabDoorSpanEq
import Derived.Test.YteelgogfpidcdabDoorFmtSet
import Derived.Test.YteelgogfpidcdabDoorTabZ
namespace Go.Proofs.YteelgogfpidcdabDoor
open Go.RowKit
set_option linter.unusedVariables false
set_option maxHeartbeats 8000000 in
set_option maxRecDepth 100000 in
theorem law_fnExactFormatSpans (va : Value) (a : List SpanD) (t : List UInt8) (w : World) (ha : SpansR w va a) (hna : (a.length : Int) ≤ 9223372036854775807) (hxa : ∀ j, j < a.length → ((a.getD j p0D).2.2.length : Int) ≤ 9223372036854775807) (htab : TabZ w ∧ Tab w)
    (hspec : ∀ (v : Value) (w : World), SpansR w v a → zpL a ≤ 1048576 → Calls Tryd.prog 5 #[v] w fun e w' => e = .returned (.string (strB t)) ∧ Below w.heap.size w w')
    (himpl : ∀ (v : Value) (w : World), SpansR w v a → zpL a ≤ 1048576 → TabZ w → Tab w → Calls Tryd.prog 7 #[v] w fun e w' => e = .returned (.string (strB t)) ∧ Below w.heap.size w w') :
    Calls Tryd.prog 3 #[va] w fun e w' => e = .returned (.bool true) ∧ Below w.heap.size w w' := by
  have I0 := ha
  have HSP := Lib.hid hspec
  have HIM := Lib.hid himpl
  have HTZ := Lib.hid htab.1
  have HT := Lib.hid htab.2
  clear hspec himpl htab
  generalize strB t = r at *
  by_cases hs : zpL a ≤ 1048576
  · have HS := Lib.hid hs
    have HZ := Lib.hid (fun v w h => szSpanS_yes v a 1048576 w h (by have := HS.out; omega) (by omega))
    have hneg : ¬ (1048576 : Int) - (zpL a : Int) < 0 := by omega
    have hrr : (!(r.toList == r.toList)) = false := by simp
    have b0 : Below w.heap.size w w := Below.refl _ _
    clear ha hna hxa hs
    go_enter Tryd.func3, Tryd.ntmps3
    go_wp2_with fail
    refine (HZ.out _ _ I0).mono ?_
    rintro e v1 ⟨rfl, c1⟩
    have d1 := b0.trans (c1.mono b0.size)
    replace I0 := spansR_below I0 c1
    clear b0 c1
    go_wp2_with fail
    refine (toSpanS_any _ a _ I0 HS.out).mono ?_
    rintro e v2 ⟨x1, rfl, o1, c2⟩
    have d2 := d1.trans (c2.mono d1.size)
    replace I0 := spansR_below I0 c2
    have I1 := ownsP_spans o1
    clear d1 c2 o1
    go_wp2_with fail
    refine (HSP.out _ _ I1 HS.out).mono ?_
    rintro e v3 ⟨rfl, c3⟩
    have d3 := d2.trans (c3.mono d2.size)
    replace I0 := spansR_below I0 c3
    clear d2 c3 I1
    go_wp2_with fail
    refine (toSpanS_any _ a _ I0 HS.out).mono ?_
    rintro e v4 ⟨x2, rfl, o2, c4⟩
    have d4 := d3.trans (c4.mono d3.size)
    replace I0 := spansR_below I0 c4
    have I2 := ownsP_spans o2
    clear d3 c4 o2
    go_wp2_with fail
    refine (HIM.out _ _ I2 HS.out (HTZ.out.on d4) (HT.out.on d4)).mono ?_
    rintro e v5 ⟨rfl, c5⟩
    have d5 := d4.trans (c5.mono d4.size)
    replace I0 := spansR_below I0 c5
    replace I2 := spansR_below I2 c5
    clear d4 c5
    go_wp2_with fail
    refine (toSpanS_any _ a _ I0 HS.out).mono ?_
    rintro e v6 ⟨x3, rfl, o3, c6⟩
    have d6 := d5.trans (c6.mono d5.size)
    replace I0 := spansR_below I0 c6
    replace I2 := spansR_below I2 c6
    have I3 := ownsP_spans o3
    clear d5 c6 o3
    go_wp2_with fail
    refine (eqSpanS_same _ _ a _ I2 I3 HS.out).mono ?_
    rintro e v7 ⟨rfl, c7⟩
    have d7 := d6.trans (c7.mono d6.size)
    clear d6 c7
    go_wp2
    go_ret
    exact ⟨rfl, d7⟩
  · have HZ := Lib.hid (fun v w h => szSpanS_no v a 1048576 w h (by omega) (by omega) (by omega) hna hxa)
    have b0 : Below w.heap.size w w := Below.refl _ _
    clear ha hna hxa hs HSP HIM
    go_enter Tryd.func3, Tryd.ntmps3
    go_wp2_with fail
    refine (HZ.out _ _ I0).mono ?_
    rintro e v1 ⟨rfl, c1⟩
    have d1 := b0.trans (c1.mono b0.size)
    clear b0 c1
    go_wp2
    go_ret
    exact ⟨rfl, d1⟩
end Go.Proofs.YteelgogfpidcdabDoor
