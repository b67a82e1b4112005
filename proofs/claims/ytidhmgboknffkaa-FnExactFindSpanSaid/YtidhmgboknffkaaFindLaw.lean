/-
  The walk of the exact law of FindSpan: contracts of the specification and the program as premises.
-/
import Derived.Test.YtidhmgboknffkaaSpanLaws
import Derived.Test.YtidhmgboknffkaaSpanMarkW
import Derived.Test.YtidhmgboknffkaaFindSpec
namespace Go.Proofs.Ytidhmgboknffkaa
open Go.RowKit
set_option linter.unusedVariables false
set_option maxHeartbeats 8000000 in
set_option maxRecDepth 100000 in
theorem law_fnExactFindSpan (va : Value) (a : List SpanD) (i : Int) (wi : (Lit.int .i64 i).wf = true) (s : List Int) (w : World) (ha : SpansR w va a) (hna : (a.length : Int) ≤ 9223372036854775807) (hxa : ∀ j, j < a.length → ((a.getD j p0D).2.2.length : Int) ≤ 9223372036854775807) (hsz : zpL a ≤ 1048576 → s.length ≤ 1048576)
    (hspec : ∀ (v : Value) (w : World), SpansR w v a → zpL a ≤ 1048576 → Calls Try.prog 40 #[v, .int .i64 i] w (FreshInts w s))
    (himpl : ∀ (v : Value) (w : World), SpansR w v a → zpL a ≤ 1048576 → Calls Try.prog 42 #[v, .int .i64 i] w (FreshInts w s)) :
    Calls Try.prog 8 #[va, .int .i64 i] w fun e w' => e = .returned (.bool true) ∧ Below w.heap.size w w' := by
  have I0 := ha
  have HSP := Lib.hid hspec
  have HIM := Lib.hid himpl
  clear hspec himpl
  by_cases hs : zpL a ≤ 1048576
  · have HS := Lib.hid hs
    have HT := Lib.hid (hsz hs)
    have HZ := Lib.hid (fun v w h => szSpanS_yes v a 1048576 w h (by have := HS.out; omega) (by omega))
    have hneg : ¬ (1048576 : Int) - (zpL a : Int) < 0 := by omega
    have HMA := Lib.hid (pkAt_range (k := 1) hs (Nat.le_refl a.length))
    have hma : ¬ pkAt a 1 a.length < 0 := by have := HMA.out; omega
    have hms : ¬ (1 : Int) + (s.length : Int) < 0 := by omega
    have hmm : ((1 : Int) + (s.length : Int) != (1 : Int) + (s.length : Int)) = false := by simp
    have b0 : Below w.heap.size w w := Below.refl _ _
    clear ha hna hxa hs hsz
    go_enter Try.func8, Try.ntmps8
    go_wp2_with fail
    refine (HZ.out _ _ I0).mono ?_
    rintro e v1 ⟨rfl, c1⟩
    have d1 := b0.trans (c1.mono b0.size)
    replace I0 := spansR_below I0 c1
    clear b0 c1
    go_wp2_with fail
    refine (toSpanS_any _ a _ I0 HS.out).mono ?_
    rintro e v2 ⟨x1, rfl, o1, c2⟩
    have d2 := d1.trans (c2.mono d1.size)
    replace I0 := spansR_below I0 c2
    clear d1 c2
    have I1 := ownsP_spans o1
    clear o1
    go_wp2_with fail
    refine (HSP.out _ _ I1 HS.out).mono ?_
    rintro e v3 ⟨w0, rfl, ow, c3⟩
    have d3 := d2.trans (c3.mono d2.size)
    replace I0 := spansR_below I0 c3
    replace I1 := spansR_below I1 c3
    clear d2 c3
    clear I1
    have W0 := ownsN_ints ow
    clear ow
    have K0 := I0
    have K1 := W0
    have e3 := Below.refl v3.heap.size v3
    have DW := d3.size
    go_wp2_with fail
    refine (toSpanS_any _ a _ I0 HS.out).mono ?_
    rintro e v4 ⟨x0, rfl, ox, c4⟩
    have d4 := d3.trans (c4.mono d3.size)
    have e4 := e3.trans (c4.mono e3.size)
    replace I0 := spansR_below I0 c4
    replace W0 := ints_below W0 c4
    clear d3 e3 c4
    have OX := ox
    have X0 := ownsP_spans ox
    have f4 := Below.refl v4.heap.size v4
    have s34 := e4.size
    go_wp2_with fail
    refine (HIM.out _ _ X0 HS.out).mono ?_
    rintro e v5 ⟨g0, rfl, og, c5⟩
    have d5 := d4.trans (c5.mono d4.size)
    have e5 := e4.trans (c5.mono e4.size)
    replace I0 := spansR_below I0 c5
    replace W0 := ints_below W0 c5
    replace X0 := spansR_below X0 c5
    replace ox := ownsP_below ox c5
    clear d4 e4
    have G0 := ownsN_ints og
    have f5 := f4.trans c5
    clear f4 c5
    go_wp2_with fail
    refine (eqIntS_same _ _ s _ G0 W0 HT.out).mono ?_
    rintro e v6 ⟨rfl, c6⟩
    have d6 := d5.trans (c6.mono d5.size)
    have e6 := e5.trans (c6.mono e5.size)
    replace I0 := spansR_below I0 c6
    replace W0 := ints_below W0 c6
    replace X0 := spansR_below X0 c6
    replace ox := ownsP_below ox c6
    replace G0 := ints_below G0 c6
    replace og := ownsN_below og c6
    clear d5 e5
    have f6 := f5.trans (c6.mono f5.size)
    clear f5 c6
    go_wp2_with fail
    refine (toSpanS_any _ a _ I0 HS.out).mono ?_
    rintro e v7 ⟨x2, rfl, o2, c7⟩
    have d7 := d6.trans (c7.mono d6.size)
    have e7 := e6.trans (c7.mono e6.size)
    replace I0 := spansR_below I0 c7
    replace W0 := ints_below W0 c7
    replace X0 := spansR_below X0 c7
    replace ox := ownsP_below ox c7
    replace G0 := ints_below G0 c7
    replace og := ownsN_below og c7
    clear d6 e6
    have f7 := f6.trans (c7.mono f6.size)
    clear f6 c7
    have I2 := ownsP_spans o2
    clear o2
    go_wp2_with fail
    refine (eqSpanS_same _ _ a _ X0 I2 HS.out).mono ?_
    rintro e v8 ⟨rfl, c8⟩
    have d8 := d7.trans (c8.mono d7.size)
    have e8 := e7.trans (c8.mono e7.size)
    replace I0 := spansR_below I0 c8
    replace W0 := ints_below W0 c8
    replace X0 := spansR_below X0 c8
    replace ox := ownsP_below ox c8
    replace G0 := ints_below G0 c8
    replace og := ownsN_below og c8
    replace I2 := spansR_below I2 c8
    clear d7 e7
    have f8 := f7.trans (c8.mono f7.size)
    clear f7 c8
    clear I2
    clear X0
    clear ox
    go_wp2_with fail
    refine (markSpanS_any _ a _ 1 _ _ OX f8 HS.out (by omega) (by omega)).mono ?_
    rintro e v9 ⟨rfl, om, on⟩
    clear om
    have d9 := only_below d8 on DW d8.size
    have e9 := only_below e8 on (Nat.le_refl _) e8.size
    have G9 := ownsN_onlyP og on (Nat.le_refl _)
    replace I0 := spansR_only K0 e8 on (Nat.le_refl _)
    replace W0 := ints_below K1 (only_below e8 on (Nat.le_refl _) e8.size)
    clear G0 og
    have og := G9
    have G0 := ownsN_ints og
    clear OX d8 e8 f8 on
    have h9 := Below.refl v9.heap.size v9
    have OG := og
    go_wp2_with fail
    refine (eqIntS_same _ _ s _ G0 W0 HT.out).mono ?_
    rintro e v10 ⟨rfl, c10⟩
    have d10 := d9.trans (c10.mono d9.size)
    have e10 := e9.trans (c10.mono e9.size)
    replace I0 := spansR_below I0 c10
    replace W0 := ints_below W0 c10
    replace G0 := ints_below G0 c10
    replace og := ownsN_below og c10
    clear d9 e9
    have h10 := h9.trans (c10.mono h9.size)
    clear h9 c10
    clear G0
    have ol := og.lt
    go_wp2_with fail
    refine (markIntS_any _ s _ 1 _ og HT.out (by omega) (by omega)).mono ?_
    rintro e v11 ⟨rfl, om, og2⟩
    have on := only_grown (hi := v10.heap.size) og2 ol
    clear og og2 ol
    have d11 := only_below d10 on (Nat.le_trans DW s34) d10.size
    have e11 := only_below e10 on s34 e10.size
    replace I0 := spansR_only K0 e10 on s34
    replace W0 := ints_below K1 (only_below e10 on s34 e10.size)
    have G0 := ownsN_ints om
    clear OG om d10 e10 h10 on K0 K1
    clear e11
    go_wp2_with fail
    refine (heldIntS_any _ s.length 1 _ G0 HT.out (by omega) (by omega)).mono ?_
    rintro e v12 ⟨rfl, rfl⟩
    go_wp2_with fail
    refine (toSpanS_any _ a _ I0 HS.out).mono ?_
    rintro e v13 ⟨x4, rfl, o4, c13⟩
    have d13 := d11.trans (c13.mono d11.size)
    replace I0 := spansR_below I0 c13
    replace W0 := ints_below W0 c13
    replace G0 := ints_below G0 c13
    clear d11 c13
    have I4 := ownsP_spans o4
    clear o4
    go_wp2_with fail
    refine (HIM.out _ _ I4 HS.out).mono ?_
    rintro e v14 ⟨h0, rfl, oh, c14⟩
    have d14 := d13.trans (c14.mono d13.size)
    replace I0 := spansR_below I0 c14
    replace W0 := ints_below W0 c14
    replace G0 := ints_below G0 c14
    replace I4 := spansR_below I4 c14
    clear d13 c14
    clear I4
    have H0 := ownsN_ints oh
    clear oh
    go_wp2_with fail
    refine (eqIntS_same _ _ s _ H0 W0 HT.out).mono ?_
    rintro e v15 ⟨rfl, c15⟩
    have d15 := d14.trans (c15.mono d14.size)
    replace I0 := spansR_below I0 c15
    replace W0 := ints_below W0 c15
    replace G0 := ints_below G0 c15
    replace H0 := ints_below H0 c15
    clear d14 c15
    go_wp2_with fail
    refine (heldIntS_any _ s.length 1 _ G0 HT.out (by omega) (by omega)).mono ?_
    rintro e v16 ⟨rfl, rfl⟩
    go_wp2
    go_ret
    exact ⟨rfl, d15⟩
  · have HZ := Lib.hid (fun v w h => szSpanS_no v a 1048576 w h (by omega) (by omega) (by omega) hna hxa)
    have b0 : Below w.heap.size w w := Below.refl _ _
    clear ha hna hxa hs HSP HIM
    go_enter Try.func8, Try.ntmps8
    go_wp2_with fail
    refine (HZ.out _ _ I0).mono ?_
    rintro e v1 ⟨rfl, c1⟩
    have d1 := b0.trans (c1.mono b0.size)
    clear b0 c1
    go_wp2
    go_ret
    exact ⟨rfl, d1⟩
end Go.Proofs.Ytidhmgboknffkaa
