/-
  The program's functions on sets answer what the specification's do.
-/
import Derived.Test.YtededfficggkaaaMaskMem
namespace Go.Proofs.Ytededfficggkaaa
open Go.RowKit
set_option linter.unusedVariables false
theorem ownsN_base {w : World} {B C : Nat} {v : Value} {xs : List Int} (h : OwnsN w C v xs) (hb : B ≤ C) : OwnsN w B v xs := by
  refine ⟨h.1, ?_⟩
  rcases h.2 with hn | ⟨g, cap, cur, e, hb', rest⟩
  · exact .inl hn
  · exact .inr ⟨g, cap, cur, e, Nat.le_trans hb hb', rest⟩
set_option maxHeartbeats 2000000 in
set_option maxRecDepth 100000 in
theorem implUniteSets (va vb : Value) (a b : List Int) (w : World) (ha : Ints w va a) (hb : Ints w vb b) (na : a.length ≤ 1048576) (nb : b.length ≤ 1048576) :
    Calls Try.prog 8 #[va, vb] w (Fresh w (uniteL a b)) := by
  have H := Lib.hid (implMasksOf va vb a b w ha hb na nb)
  have HX := Lib.hid (maskA_lt a b)
  have HY := Lib.hid (maskB_lt a b)
  have HE := Lib.hid (unite_mask a b)
  clear ha hb na nb
  generalize uniteL a b = r at *
  generalize maskA a b = x at *
  generalize maskB a b = y at *
  go_enter Try.func8, Try.ntmps8
  go_wp2_with fail
  refine H.out.mono ?_
  rintro e w1 ⟨rfl, b1⟩
  go_wp2_with fail
  rw [or_u32 x y (by have := HX.out; omega) (by have := HY.out; omega)]
  refine (implMembers (x ||| y) _ (Nat.or_lt_two_pow (n := 24) HX.out HY.out)).mono ?_
  rw [HE.out]
  rintro e w2 ⟨v, rfl, o2, b2⟩
  go_wp2
  go_ret
  exact ⟨_, rfl, ownsN_base o2 b1.size, b1.trans (b2.mono b1.size)⟩
set_option maxHeartbeats 2000000 in
set_option maxRecDepth 100000 in
theorem implMeetSets (va vb : Value) (a b : List Int) (w : World) (ha : Ints w va a) (hb : Ints w vb b) (na : a.length ≤ 1048576) (nb : b.length ≤ 1048576) :
    Calls Try.prog 13 #[va, vb] w (Fresh w (meetL a b)) := by
  have H := Lib.hid (implMasksOf va vb a b w ha hb na nb)
  have HX := Lib.hid (maskA_lt a b)
  have HY := Lib.hid (maskB_lt a b)
  have HE := Lib.hid (meet_mask a b)
  clear ha hb na nb
  generalize meetL a b = r at *
  generalize maskA a b = x at *
  generalize maskB a b = y at *
  go_enter Try.func13, Try.ntmps13
  go_wp2_with fail
  refine H.out.mono ?_
  rintro e w1 ⟨rfl, b1⟩
  go_wp2_with fail
  rw [and_u32 x y (by have := HX.out; omega) (by have := HY.out; omega)]
  refine (implMembers (x &&& y) _ (Nat.and_lt_two_pow (n := 24) _ HY.out)).mono ?_
  rw [HE.out]
  rintro e w2 ⟨v, rfl, o2, b2⟩
  go_wp2
  go_ret
  exact ⟨_, rfl, ownsN_base o2 b1.size, b1.trans (b2.mono b1.size)⟩
set_option maxHeartbeats 2000000 in
set_option maxRecDepth 100000 in
theorem implSubtractSets (va vb : Value) (a b : List Int) (w : World) (ha : Ints w va a) (hb : Ints w vb b) (na : a.length ≤ 1048576) (nb : b.length ≤ 1048576) :
    Calls Try.prog 15 #[va, vb] w (Fresh w (subL a b)) := by
  have H := Lib.hid (implMasksOf va vb a b w ha hb na nb)
  have HX := Lib.hid (maskA_lt a b)
  have HY := Lib.hid (maskB_lt a b)
  have HE := Lib.hid (sub_mask a b)
  clear ha hb na nb
  generalize subL a b = r at *
  generalize maskA a b = x at *
  generalize maskB a b = y at *
  go_enter Try.func15, Try.ntmps15
  go_wp2_with fail
  refine H.out.mono ?_
  rintro e w1 ⟨rfl, b1⟩
  go_wp2_with fail
  rw [andNot_u32 x y (by have := HX.out; omega) (by have := HY.out; omega)]
  refine (implMembers (x &&& (4294967295 ^^^ y)) _ (andNot_lt _ HX.out)).mono ?_
  rw [HE.out]
  rintro e w2 ⟨v, rfl, o2, b2⟩
  go_wp2
  go_ret
  exact ⟨_, rfl, ownsN_base o2 b1.size, b1.trans (b2.mono b1.size)⟩
end Go.Proofs.Ytededfficggkaaa
