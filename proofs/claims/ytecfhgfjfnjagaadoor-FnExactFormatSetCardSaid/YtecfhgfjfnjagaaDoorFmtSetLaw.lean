/-
  The walk of the exact law of FormatSet: if the program's function answers what the specification's does, the law returns true.
-/
import Derived.Test.YtecfhgfjfnjagaaDoorFmtSet
import Derived.Test.YtecfhgfjfnjagaaDoorTabZ
namespace Go.Proofs.YtecfhgfjfnjagaaDoor
open Go.RowKit
set_option linter.unusedVariables false
set_option maxHeartbeats 2000000 in
set_option maxRecDepth 100000 in
theorem law_fnExactFormatSet (va : Value) (a : List Int) (w : World) (ha : Ints w va a) (htab : TabZ w)
    (himpl : ∀ (va : Value) (w : World), Ints w va a → TabZ w → a.length ≤ 1048576 → Calls Tryd.prog 17 #[va] w fun e w' => e = .returned (.string (strB (fmtSet a))) ∧ Below w.heap.size w w') :
    Calls Tryd.prog 4 #[va] w fun e w' => e = .returned (.bool true) ∧ Below w.heap.size w w' := by
  obtain ⟨a1, cap1, hva⟩ := ints_len ha
  by_cases na : a.length ≤ 1048576
  · have HA := Lib.hid ha
    have NA := Lib.hid na
    have HI := Lib.hid himpl
    have HS := Lib.hid (fun va w h => specFmtSet va a w h na)
    have HT := Lib.hid htab
    clear ha himpl htab
    subst hva
    generalize strB (fmtSet a) = r at HI HS
    go_enter Tryd.func4, Tryd.ntmps4
    go_wp2_with fail
    refine (toIntS_any _ a _ HA.out NA.out).mono ?_
    rintro e w1 ⟨c1, rfl, o1, b1⟩
    go_wp2_with fail
    refine (HS.out c1 _ (ownsN_ints o1)).mono ?_
    rintro e w2 ⟨rfl, b2'⟩
    have b2 : Below w.heap.size w w2 := b1.trans (b2'.mono b1.size)
    clear b1 b2' o1
    go_wp2_with fail
    refine (toIntS_any _ a _ (ints_below HA.out b2) NA.out).mono ?_
    rintro e w3 ⟨x0, rfl, ox3, b3'⟩
    have b3 := b2.trans (b3'.mono b2.size)
    clear b2 b3'
    go_wp2_with fail
    refine (HI.out x0 _ (ownsN_ints ox3) (HT.out.on b3) NA.out).mono ?_
    rintro e w4 ⟨rfl, b4'⟩
    have b4 := b3.trans (b4'.mono b3.size)
    have ox4 := ownsN_below ox3 b4'
    clear b3 b4' ox3
    go_wp2_with fail
    refine (toIntS_any _ a _ (ints_below HA.out b4) NA.out).mono ?_
    rintro e w5 ⟨t5, rfl, ot5, b5'⟩
    have b5 := b4.trans (b5'.mono b4.size)
    have ox5 := ownsN_below ox4 b5'
    clear b4 b5' ox4
    go_wp2_with fail
    refine (eqIntS_same x0 t5 _ _ (ownsN_ints ox5) (ownsN_ints ot5) NA.out).mono ?_
    rintro e w6 ⟨rfl, b6'⟩
    have b6 := b5.trans (b6'.mono b5.size)
    clear b5 b6' ox5 ot5
    go_wp2
    go_ret
    exact ⟨rfl, b6⟩
  · have hl : (1048576 : Int) < (a.length : Int) := by omega
    clear ha himpl
    subst hva
    generalize a.length = la at na hl
    go_enter Tryd.func4, Tryd.ntmps4
    go_wp2
    go_ret
    exact ⟨rfl, Below.refl _ _⟩
end Go.Proofs.YtecfhgfjfnjagaaDoor
