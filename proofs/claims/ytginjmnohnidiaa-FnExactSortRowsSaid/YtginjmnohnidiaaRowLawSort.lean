/-
  The walk of the exact law of SortRows: if the program's function and the specification's answer the same rows in new memory, the law returns true.
-/
import Derived.Test.YtginjmnohnidiaaRowMarkW
namespace Go.Proofs.Ytginjmnohnidiaa
open Go.RowKit
set_option linter.unusedVariables false
set_option maxHeartbeats 8000000 in
set_option maxRecDepth 100000 in
theorem law_fnExactSortRows (va : Value) (a s : List RowD) (w : World) (ha : RowsR w va a) (hna : (a.length : Int) ≤ 9223372036854775807) (hxa : ∀ j, j < a.length → ((a.getD j (0, [])).2.length : Int) ≤ 9223372036854775807) (hsz : szL a ≤ 1048576 → szL s ≤ 1048576)
    (hspec : ∀ (v : Value) (w : World), RowsR w v a → szL a ≤ 1048576 → Calls Try.prog 13 #[v] w (FreshRows w s))
    (himpl : ∀ (v : Value) (w : World), RowsR w v a → szL a ≤ 1048576 → Calls Try.prog 15 #[v] w (FreshRows w s)) :
    Calls Try.prog 3 #[va] w fun e w' => e = .returned (.bool true) ∧ Below w.heap.size w w' := by
  have I0 := ha
  have HSP := Lib.hid hspec
  have HIM := Lib.hid himpl
  clear hspec himpl
  by_cases hs : szL a ≤ 1048576
  · have HS := Lib.hid hs
    have HT := Lib.hid (hsz hs)
    have HZ := Lib.hid (fun v w h => szRowS_yes v a 1048576 w h (by have := HS.out; omega) (by omega))
    have hneg : ¬ (1048576 : Int) - (szL a : Int) < 0 := by omega
    have HMA := Lib.hid (mkAt_range (k := 1) hs (Nat.le_refl a.length))
    have HMS := Lib.hid (mkAt_range (k := 1) (hsz hs) (Nat.le_refl s.length))
    have hma : ¬ mkAt a 1 a.length < 0 := by have := HMA.out; omega
    have hms : ¬ mkAt s 1 s.length < 0 := by have := HMS.out; omega
    have hmm : (mkAt s 1 s.length != mkAt s 1 s.length) = false := by simp
    have b0 : Below w.heap.size w w := Below.refl _ _
    clear ha hna hxa hs hsz
    go_enter Try.func3, Try.ntmps3
    go_wp2_with fail
    refine (HZ.out _ _ I0).mono ?_
    rintro e v1 ⟨rfl, c1⟩
    have d1 := b0.trans (c1.mono b0.size)
    replace I0 := rowsR_below I0 c1
    clear b0 c1
    go_wp2_with fail
    refine (toRowS_any _ a _ I0 HS.out).mono ?_
    rintro e v2 ⟨x1, rfl, o1, c2⟩
    have d2 := d1.trans (c2.mono d1.size)
    replace I0 := rowsR_below I0 c2
    clear d1 c2
    have I1 := ownsR_rows o1
    clear o1
    go_wp2_with fail
    refine (HSP.out _ _ I1 HS.out).mono ?_
    rintro e v3 ⟨w0, rfl, ow, c3⟩
    have d3 := d2.trans (c3.mono d2.size)
    replace I0 := rowsR_below I0 c3
    replace I1 := rowsR_below I1 c3
    clear d2 c3
    clear I1
    have W0 := ownsR_rows ow
    clear ow
    have K0 := I0
    have K1 := W0
    have e3 := Below.refl v3.heap.size v3
    have DW := d3.size
    go_wp2_with fail
    refine (toRowS_any _ a _ I0 HS.out).mono ?_
    rintro e v4 ⟨x0, rfl, ox, c4⟩
    have d4 := d3.trans (c4.mono d3.size)
    have e4 := e3.trans (c4.mono e3.size)
    replace I0 := rowsR_below I0 c4
    replace W0 := rowsR_below W0 c4
    clear d3 e3 c4
    have OX := ox
    have X0 := ownsR_rows ox
    have f4 := Below.refl v4.heap.size v4
    have s34 := e4.size
    go_wp2_with fail
    refine (HIM.out _ _ X0 HS.out).mono ?_
    rintro e v5 ⟨g0, rfl, og, c5⟩
    have d5 := d4.trans (c5.mono d4.size)
    have e5 := e4.trans (c5.mono e4.size)
    replace I0 := rowsR_below I0 c5
    replace W0 := rowsR_below W0 c5
    replace X0 := rowsR_below X0 c5
    replace ox := ownsR_below ox c5
    clear d4 e4
    have OG := og
    have G0 := ownsR_rows og
    have f5 := f4.trans c5
    have g5 := Below.refl v5.heap.size v5
    have s45 := c5.size
    clear f4 c5
    go_wp2_with fail
    refine (eqRowS_same _ _ s _ G0 W0 HT.out).mono ?_
    rintro e v6 ⟨rfl, c6⟩
    have d6 := d5.trans (c6.mono d5.size)
    have e6 := e5.trans (c6.mono e5.size)
    replace I0 := rowsR_below I0 c6
    replace W0 := rowsR_below W0 c6
    replace X0 := rowsR_below X0 c6
    replace G0 := rowsR_below G0 c6
    replace ox := ownsR_below ox c6
    replace og := ownsR_below og c6
    clear d5 e5
    have f6 := f5.trans (c6.mono f5.size)
    have g6 := g5.trans (c6.mono g5.size)
    clear f5 g5 c6
    go_wp2_with fail
    refine (toRowS_any _ a _ I0 HS.out).mono ?_
    rintro e v7 ⟨x2, rfl, o2, c7⟩
    have d7 := d6.trans (c7.mono d6.size)
    have e7 := e6.trans (c7.mono e6.size)
    replace I0 := rowsR_below I0 c7
    replace W0 := rowsR_below W0 c7
    replace X0 := rowsR_below X0 c7
    replace G0 := rowsR_below G0 c7
    replace ox := ownsR_below ox c7
    replace og := ownsR_below og c7
    clear d6 e6
    have f7 := f6.trans (c7.mono f6.size)
    have g7 := g6.trans (c7.mono g6.size)
    clear f6 g6 c7
    have I2 := ownsR_rows o2
    clear o2
    go_wp2_with fail
    refine (eqRowS_same _ _ a _ X0 I2 HS.out).mono ?_
    rintro e v8 ⟨rfl, c8⟩
    have d8 := d7.trans (c8.mono d7.size)
    have e8 := e7.trans (c8.mono e7.size)
    replace I0 := rowsR_below I0 c8
    replace W0 := rowsR_below W0 c8
    replace X0 := rowsR_below X0 c8
    replace G0 := rowsR_below G0 c8
    replace I2 := rowsR_below I2 c8
    replace ox := ownsR_below ox c8
    replace og := ownsR_below og c8
    clear d7 e7
    have f8 := f7.trans (c8.mono f7.size)
    have g8 := g7.trans (c8.mono g7.size)
    clear f7 g7 c8
    clear I2
    clear X0
    clear ox
    go_wp2_with fail
    refine (markRowS_any _ a _ 1 _ _ OX f8 HS.out (by omega) (by omega)).mono ?_
    rintro e v9 ⟨rfl, om, on⟩
    clear om
    have d9 := only_below d8 on DW d8.size
    have e9 := only_below e8 on (Nat.le_refl _) e8.size
    have G9 := ownsR_only og on (Nat.le_refl _)
    replace I0 := rowsR_only K0 e8 on (Nat.le_refl _)
    replace W0 := rowsR_only K1 e8 on (Nat.le_refl _)
    clear G0 og
    have og := G9
    have G0 := ownsR_rows og
    clear OX OG d8 e8 f8 g8 on
    have h9 := Below.refl v9.heap.size v9
    have OG := og
    go_wp2_with fail
    refine (eqRowS_same _ _ s _ G0 W0 HT.out).mono ?_
    rintro e v10 ⟨rfl, c10⟩
    have d10 := d9.trans (c10.mono d9.size)
    have e10 := e9.trans (c10.mono e9.size)
    replace I0 := rowsR_below I0 c10
    replace W0 := rowsR_below W0 c10
    replace G0 := rowsR_below G0 c10
    replace og := ownsR_below og c10
    clear d9 e9
    have h10 := h9.trans (c10.mono h9.size)
    clear h9 c10
    clear G0
    clear og
    go_wp2_with fail
    refine (markRowS_any _ s _ 1 _ _ OG h10 HT.out (by omega) (by omega)).mono ?_
    rintro e v11 ⟨rfl, om, on⟩
    have d11 := only_below d10 on (Nat.le_trans DW s34) d10.size
    have e11 := only_below e10 on s34 e10.size
    replace I0 := rowsR_only K0 e10 on s34
    replace W0 := rowsR_only K1 e10 on s34
    have G0 := ownsR_rows om
    clear OG om d10 e10 h10 on K0 K1
    clear e11
    go_wp2_with fail
    refine (heldRowS_any _ s 1 _ G0 HT.out (by omega) (by omega)).mono ?_
    rintro e v12 ⟨rfl, rfl⟩
    go_wp2_with fail
    refine (toRowS_any _ a _ I0 HS.out).mono ?_
    rintro e v13 ⟨x4, rfl, o4, c13⟩
    have d13 := d11.trans (c13.mono d11.size)
    replace I0 := rowsR_below I0 c13
    replace W0 := rowsR_below W0 c13
    replace G0 := rowsR_below G0 c13
    clear d11 c13
    have I4 := ownsR_rows o4
    clear o4
    go_wp2_with fail
    refine (HIM.out _ _ I4 HS.out).mono ?_
    rintro e v14 ⟨h0, rfl, oh, c14⟩
    have d14 := d13.trans (c14.mono d13.size)
    replace I0 := rowsR_below I0 c14
    replace W0 := rowsR_below W0 c14
    replace G0 := rowsR_below G0 c14
    replace I4 := rowsR_below I4 c14
    clear d13 c14
    clear I4
    have H0 := ownsR_rows oh
    clear oh
    go_wp2_with fail
    refine (eqRowS_same _ _ s _ H0 W0 HT.out).mono ?_
    rintro e v15 ⟨rfl, c15⟩
    have d15 := d14.trans (c15.mono d14.size)
    replace I0 := rowsR_below I0 c15
    replace W0 := rowsR_below W0 c15
    replace G0 := rowsR_below G0 c15
    replace H0 := rowsR_below H0 c15
    clear d14 c15
    go_wp2_with fail
    refine (heldRowS_any _ s 1 _ G0 HT.out (by omega) (by omega)).mono ?_
    rintro e v16 ⟨rfl, rfl⟩
    go_wp2
    go_ret
    exact ⟨rfl, d15⟩
  · have HZ := Lib.hid (fun v w h => szRowS_no v a 1048576 w h (by omega) (by omega) (by omega) hna hxa)
    have b0 : Below w.heap.size w w := Below.refl _ _
    clear ha hna hxa hs HSP HIM
    go_enter Try.func3, Try.ntmps3
    go_wp2_with fail
    refine (HZ.out _ _ I0).mono ?_
    rintro e v1 ⟨rfl, c1⟩
    have d1 := b0.trans (c1.mono b0.size)
    clear b0 c1
    go_wp2
    go_ret
    exact ⟨rfl, d1⟩
end Go.Proofs.Ytginjmnohnidiaa
