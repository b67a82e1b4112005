/-
  Plain facts on union, meet and difference: their members, and their lengths together.
-/
import Derived.Test.YtecfhgfjfnjagaaDoorMaskMath
import Derived.Test.YtecfhgfjfnjagaaDoorParMask
namespace Go.Proofs.YtecfhgfjfnjagaaDoor
set_option linter.unusedVariables false
theorem mem_unite {a b : List Int} (ha : setB a = true) (hb : setB b = true) (i : Nat) (hi : i < 24) : decide ((i : Int) ∈ uniteL a b) = (decide ((i : Int) ∈ a) || decide ((i : Int) ∈ b)) := by
  unfold uniteL
  rw [ha, hb, Bool.and_self, if_pos rfl, Bool.eq_iff_iff]
  simp only [decide_eq_true_eq, List.mem_filter, List.mem_map, List.mem_range, Bool.or_eq_true]
  constructor
  · rintro ⟨_, h⟩; exact h
  · intro h; exact ⟨⟨i, hi, rfl⟩, h⟩
theorem mem_meet {a b : List Int} (ha : setB a = true) (hb : setB b = true) (x : Int) : decide (x ∈ meetL a b) = (decide (x ∈ a) && decide (x ∈ b)) := by
  unfold meetL
  rw [ha, hb, Bool.and_self, if_pos rfl, Bool.eq_iff_iff]
  simp [List.mem_filter]
theorem mem_sub {a b : List Int} (ha : setB a = true) (hb : setB b = true) (x : Int) : decide (x ∈ subL a b) = (decide (x ∈ a) && !decide (x ∈ b)) := by
  unfold subL
  rw [ha, hb, Bool.and_self, if_pos rfl, Bool.eq_iff_iff]
  simp [List.mem_filter]
theorem unite_set (a b : List Int) : setB (uniteL a b) = true := by
  rw [← unite_mask]
  exact (setB_iff _).2 (set_memL _)
theorem count_two (p q : Nat → Bool) : ∀ l : List Nat, (l.filter fun i => p i || q i).length + (l.filter fun i => p i && q i).length = (l.filter p).length + (l.filter q).length := by
  intro l
  induction l with
  | nil => rfl
  | cons x l ih =>
    simp only [List.filter_cons]
    cases p x <;> cases q x <;> simp <;> omega
theorem memL_count (m : Nat) : (memL m).length = ((List.range 24).filter fun i => m.testBit i).length := by
  unfold memL memTo
  rw [List.length_map]
theorem len_unite {a b : List Int} (ha : setB a = true) (hb : setB b = true) : (uniteL a b).length + (meetL a b).length = a.length + b.length := by
  have h1 := (setB_iff a).1 ha
  have h2 := (setB_iff b).1 hb
  have hA : maskA a b = maskL a := by unfold maskA; rw [ha, hb]; rfl
  have hB : maskB a b = maskL b := by unfold maskB; rw [ha, hb]; rfl
  have ea := congrArg List.length (memL_set h1)
  have eb := congrArg List.length (memL_set h2)
  rw [← unite_mask, ← meet_mask, hA, hB, ← ea, ← eb, memL_count, memL_count, memL_count, memL_count]
  have := count_two (fun i => (maskL a).testBit i) (fun i => (maskL b).testBit i) (List.range 24)
  simpa only [Nat.testBit_or, Nat.testBit_and] using this
theorem none_of {a b : List Int} (h : (setB a && setB b) = false) : uniteL a b = [] ∧ meetL a b = [] ∧ subL a b = [] := by
  refine ⟨?_, ?_, ?_⟩
  · unfold uniteL; rw [h]; rfl
  · unfold meetL; rw [h]; rfl
  · unfold subL; rw [h]; rfl
theorem fmtSet_len (a : List Int) : (fmtSet a).length ≤ 1048576 := by
  by_cases h : SetL a
  · rw [fmtSet_set h, ← memL_set h]
    unfold fmtRuns
    split
    · simp
    · have := memL_glue (maskL a); omega
  · rw [fmtSet_no (setB_no h)]; simp
theorem parSet_yes' {a : List Int} (h : setB a = true) : parSet (fmtSet a) = (a, true) := parSet_fmt ((setB_iff a).1 h)
theorem parSet_no' {a : List Int} (h : setB a = false) : parSet (fmtSet a) = ([], false) := by rw [fmtSet_no h]; exact parSet_empty
end Go.Proofs.YtecfhgfjfnjagaaDoor
