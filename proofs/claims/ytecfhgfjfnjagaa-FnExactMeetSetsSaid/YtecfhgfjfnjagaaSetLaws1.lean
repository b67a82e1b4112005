/-
  The walks of the exact laws of IsSet and HasMember: if the program's function answers what the specification's does, the law returns true.
-/
import Derived.Test.YtecfhgfjfnjagaaSetSpec
namespace Go.Proofs.Ytecfhgfjfnjagaa
open Go.RowKit
set_option linter.unusedVariables false
theorem specHasB (va : Value) (a : List Int) (x : Int) (w : World) (h : Ints w va a) (hn : a.length ≤ 1048576) : Calls Try.prog 20 #[va, .int .i64 x] w fun e w' => e = .returned (.bool (decide (x ∈ a))) ∧ Below w.heap.size w w' :=
  (specHas va a x w h hn).mono fun e w' g => ⟨g.1, by rw [← g.2]; exact Below.refl _ _⟩
set_option maxHeartbeats 2000000 in
set_option maxRecDepth 100000 in
theorem law_fnExactIsSet (va : Value) (a : List Int) (w : World) (ha : Ints w va a)
    (himpl : ∀ (va : Value) (w : World), Ints w va a → a.length ≤ 1048576 → Calls Try.prog 10 #[va] w fun e w' => e = .returned (.bool (setB a)) ∧ Below w.heap.size w w') :
    Calls Try.prog 3 #[va] w fun e w' => e = .returned (.bool true) ∧ Below w.heap.size w w' := by
  obtain ⟨a1, cap1, hva⟩ := ints_len ha
  by_cases na : a.length ≤ 1048576
  · have HA := Lib.hid ha
    have NA := Lib.hid na
    have HI := Lib.hid himpl
    have HS := Lib.hid (fun va w h => specIsSet va a w h na)
    clear ha himpl
    subst hva
    generalize (setB a) = r at HI HS
    go_enter Try.func3, Try.ntmps3
    go_wp2_with fail
    refine (toIntS_any _ a _ HA.out NA.out).mono ?_
    rintro e w1 ⟨c1, rfl, o1, b1⟩
    go_wp2_with fail
    refine (HS.out c1 _ (ownsN_ints o1)).mono ?_
    rintro e w2 ⟨rfl, b2'⟩
    have b2 : Below w.heap.size w w2 := b1.trans (b2'.mono b1.size)
    clear b1 b2' o1
    go_wp2_with fail
    refine (toIntS_any _ a _ (ints_below HA.out b2) NA.out).mono ?_
    rintro e w3 ⟨x0, rfl, ox3, b3'⟩
    have b3 := b2.trans (b3'.mono b2.size)
    clear b2 b3'
    go_wp2_with fail
    refine (HI.out x0 _ (ownsN_ints ox3) NA.out).mono ?_
    rintro e w4 ⟨rfl, b4'⟩
    have b4 := b3.trans (b4'.mono b3.size)
    have ox4 := ownsN_below ox3 b4'
    clear b3 b4' ox3
    go_wp2_with fail
    refine (toIntS_any _ a _ (ints_below HA.out b4) NA.out).mono ?_
    rintro e w5 ⟨t5, rfl, ot5, b5'⟩
    have b5 := b4.trans (b5'.mono b4.size)
    have ox5 := ownsN_below ox4 b5'
    clear b4 b5' ox4
    go_wp2_with fail
    refine (eqIntS_same x0 t5 _ _ (ownsN_ints ox5) (ownsN_ints ot5) NA.out).mono ?_
    rintro e w6 ⟨rfl, b6'⟩
    have b6 := b5.trans (b6'.mono b5.size)
    clear b5 b6' ox5 ot5
    go_wp2
    go_ret
    exact ⟨rfl, b6⟩
  · have hl : (1048576 : Int) < (a.length : Int) := by omega
    clear ha himpl
    subst hva
    generalize a.length = la at na hl
    go_enter Try.func3, Try.ntmps3
    go_wp2
    go_ret
    exact ⟨rfl, Below.refl _ _⟩
set_option maxHeartbeats 2000000 in
set_option maxRecDepth 100000 in
theorem law_fnExactHasMember (va : Value) (a : List Int) (x : Int) (wx : (Lit.int .i64 x).wf = true) (w : World) (ha : Ints w va a)
    (himpl : ∀ (va : Value) (w : World), Ints w va a → a.length ≤ 1048576 → Calls Try.prog 21 #[va, .int .i64 x] w fun e w' => e = .returned (.bool (decide (x ∈ a))) ∧ Below w.heap.size w w') :
    Calls Try.prog 7 #[va, .int .i64 x] w fun e w' => e = .returned (.bool true) ∧ Below w.heap.size w w' := by
  obtain ⟨a1, cap1, hva⟩ := ints_len ha
  by_cases na : a.length ≤ 1048576
  · have HA := Lib.hid ha
    have NA := Lib.hid na
    have HI := Lib.hid himpl
    have HS := Lib.hid (fun va w h => specHasB va a x w h na)
    clear ha himpl
    subst hva
    generalize (decide (x ∈ a)) = r at HI HS
    go_enter Try.func7, Try.ntmps7
    go_wp2_with fail
    refine (toIntS_any _ a _ HA.out NA.out).mono ?_
    rintro e w1 ⟨c1, rfl, o1, b1⟩
    go_wp2_with fail
    refine (HS.out c1 _ (ownsN_ints o1)).mono ?_
    rintro e w2 ⟨rfl, b2'⟩
    have b2 : Below w.heap.size w w2 := b1.trans (b2'.mono b1.size)
    clear b1 b2' o1
    go_wp2_with fail
    refine (toIntS_any _ a _ (ints_below HA.out b2) NA.out).mono ?_
    rintro e w3 ⟨x0, rfl, ox3, b3'⟩
    have b3 := b2.trans (b3'.mono b2.size)
    clear b2 b3'
    go_wp2_with fail
    refine (HI.out x0 _ (ownsN_ints ox3) NA.out).mono ?_
    rintro e w4 ⟨rfl, b4'⟩
    have b4 := b3.trans (b4'.mono b3.size)
    have ox4 := ownsN_below ox3 b4'
    clear b3 b4' ox3
    go_wp2_with fail
    refine (toIntS_any _ a _ (ints_below HA.out b4) NA.out).mono ?_
    rintro e w5 ⟨t5, rfl, ot5, b5'⟩
    have b5 := b4.trans (b5'.mono b4.size)
    have ox5 := ownsN_below ox4 b5'
    clear b4 b5' ox4
    go_wp2_with fail
    refine (eqIntS_same x0 t5 _ _ (ownsN_ints ox5) (ownsN_ints ot5) NA.out).mono ?_
    rintro e w6 ⟨rfl, b6'⟩
    have b6 := b5.trans (b6'.mono b5.size)
    clear b5 b6' ox5 ot5
    go_wp2
    go_ret
    exact ⟨rfl, b6⟩
  · have hl : (1048576 : Int) < (a.length : Int) := by omega
    clear ha himpl
    subst hva
    generalize a.length = la at na hl
    go_enter Try.func7, Try.ntmps7
    go_wp2
    go_ret
    exact ⟨rfl, Below.refl _ _⟩
end Go.Proofs.Ytecfhgfjfnjagaa
