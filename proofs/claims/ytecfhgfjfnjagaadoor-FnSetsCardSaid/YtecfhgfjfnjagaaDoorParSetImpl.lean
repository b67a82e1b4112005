/-
  The walk of the program's ParseSet: it returns what 'parSet' computes.
-/
import Derived.Test.YtecfhgfjfnjagaaDoorParMsk
import Derived.Test.YtecfhgfjfnjagaaDoorParSet
namespace Go.Proofs.YtecfhgfjfnjagaaDoor
open Go.RowKit
set_option linter.unusedVariables false
theorem ownsN_base' {w : World} {B C : Nat} {v : Value} {xs : List Int} (h : OwnsN w C v xs) (hb : B ≤ C) : OwnsN w B v xs := by
  refine ⟨h.1, ?_⟩
  rcases h.2 with hn | ⟨g, cap, cur, e, hb', rest⟩
  · exact .inl hn
  · exact .inr ⟨g, cap, cur, e, Nat.le_trans hb hb', rest⟩
theorem mskAns_cases (l : List UInt8) : (mskAns l = .tuple #[.int .u32 0, .bool false] ∧ parSet l = ([], false)) ∨
    ∃ m : Nat, mskAns l = .tuple #[.int .u32 (m : Nat), .bool true] ∧ m < 16777216 ∧ (fmtRuns (memL m) = l → parSet l = (memL m, true)) ∧ (¬ fmtRuns (memL m) = l → parSet l = ([], false)) := by
  by_cases h : l = [110, 111, 110, 101]
  · refine Or.inr ⟨0, by unfold mskAns; rw [if_pos h]; rfl, by omega, fun _ => ?_, fun g => ?_⟩
    · rw [memL_zero]; exact parSet_none h
    · exact absurd (by rw [memL_zero, h]; rfl) g
  · rcases parSet_mask h with ⟨h1, h2⟩ | ⟨m, h1, h2, h3, h4⟩
    · exact Or.inl ⟨mskAns_no h h1, h2⟩
    · exact Or.inr ⟨m, mskAns_yes h h1, h2, h3, h4⟩
set_option maxHeartbeats 4000000 in
set_option maxRecDepth 100000 in
theorem implParSet (l : List UInt8) (w : World) (hl : l.length ≤ 1048576) (hT : Tab w) (hZ : TabZ w) :
    Calls Tryd.prog 18 #[.string (strB l)] w fun e w' => ∃ v, e = .returned (.tuple #[v, .bool (parSet l).2]) ∧ OwnsN w' w.heap.size v (parSet l).1 ∧ Below w.heap.size w w' := by
  have HM := Lib.hid (implParseMask l w hl hT)
  have HZ := Lib.hid hZ
  clear hT hZ hl
  rcases mskAns_cases l with ⟨h1, h2⟩ | ⟨m, h1, h2, h3, h4⟩
  · have HP := Lib.hid h2
    rw [h1] at HM
    clear h1 h2
    go_enter Tryd.func18, Tryd.ntmps18
    go_wp2_with fail
    refine HM.out.mono ?_
    rintro e w1 ⟨rfl, b1⟩
    go_wp2
    go_ret2
    exact ⟨_, ret_ps HP.out, own_ps HP.out (ownsN_nil _ _), b1⟩
  · have HF := Lib.hid (implFormat m h2)
    rw [h1] at HM
    by_cases he : fmtRuns (memL m) = l
    · have HP := Lib.hid (h3 he)
      have heq : ((strB (fmtRuns (memL m))).toList == (strB l).toList) = true := by rw [he]; simp
      have HE := Lib.hid heq
      have HMEM := Lib.hid (implMembers m)
      have HLT := Lib.hid h2
      clear h1 h2 h3 h4 he heq
      generalize strB (fmtRuns (memL m)) = y at *
      go_enter Tryd.func18, Tryd.ntmps18
      go_wp2_with fail
      refine HM.out.mono ?_
      rintro e w1 ⟨rfl, b1⟩
      go_wp2_with fail
      refine (HF.out _ (HZ.out.on b1)).mono ?_
      rintro e w2 ⟨rfl, b2⟩
      have b3 := b1.trans (b2.mono b1.size)
      have heq := HE.out
      clear b1 b2
      go_wp2_with fail
      refine (HMEM.out _ HLT.out).mono ?_
      rintro e w4 ⟨v, rfl, o4, b4⟩
      have b5 := b3.trans (b4.mono b3.size)
      have o5 := ownsN_base' o4 b3.size
      clear b3 b4 o4 heq
      go_wp2
      go_ret2
      exact ⟨_, ret_ps HP.out, own_ps HP.out o5, b5⟩
    · have HP := Lib.hid (h4 he)
      have heq : ((strB (fmtRuns (memL m))).toList == (strB l).toList) = false := by rw [beq_eq_false_iff_ne, strB_toList, strB_toList]; exact he
      have HE := Lib.hid heq
      clear h1 h2 h3 h4 he heq
      generalize strB (fmtRuns (memL m)) = y at *
      go_enter Tryd.func18, Tryd.ntmps18
      go_wp2_with fail
      refine HM.out.mono ?_
      rintro e w1 ⟨rfl, b1⟩
      go_wp2_with fail
      refine (HF.out _ (HZ.out.on b1)).mono ?_
      rintro e w2 ⟨rfl, b2⟩
      have b3 := b1.trans (b2.mono b1.size)
      have heq := HE.out
      clear b1 b2
      go_wp2
      go_ret2
      exact ⟨_, ret_ps HP.out, own_ps HP.out (ownsN_nil _ _), b3⟩
theorem parSet_len (l : List UInt8) : (parSet l).1.length ≤ 24 := by
  rcases mskAns_cases l with ⟨_, h2⟩ | ⟨m, _, _, h3, h4⟩
  · rw [h2]; simp
  · by_cases he : fmtRuns (memL m) = l
    · rw [h3 he]; exact memL_len m
    · rw [h4 he]; simp
end Go.Proofs.YtecfhgfjfnjagaaDoor
