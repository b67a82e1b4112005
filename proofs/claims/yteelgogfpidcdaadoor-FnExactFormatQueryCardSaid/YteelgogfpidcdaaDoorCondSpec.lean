/-
  One condition: the specification's IsCond, and the law of IsCond; copying and comparing a condition.
-/
import Derived.Test.YteelgogfpidcdaaDoorCondVal
import Derived.Test.YteelgogfpidcdaaDoorSetSpec
import Derived.Test.YteelgogfpidcdaaDoorRowLaw1
namespace Go.Proofs.YteelgogfpidcdaaDoor
open Go.RowKit
set_option linter.unusedVariables false
set_option linter.unusedSimpArgs false
def condB (c : CondD) : Bool := decide (0 ≤ c.1 ∧ c.1 ≤ 2) && (decide (0 ≤ c.2.1 ∧ c.2.1 ≤ c.2.2) && decide (c.2.2 ≤ 99))
abbrev condV (f l h : Int) : Value := .agg #[.int .i64 f, .int .i64 l, .int .i64 h]
theorem box_cells3 {W w : World} {t : TypeId} {x y z : Value} {b : Nat} (h : W.heap[b]? = some (.cells #[x, y, z] t (0, 0))) (hb : Below W.heap.size W w) :
    w.cell? ⟨b, 0, none⟩ = some x ∧ w.cell? ⟨b, 1, none⟩ = some y ∧ w.cell? ⟨b, 2, none⟩ = some z := by
  have hlt := (Array.getElem?_eq_some_iff.1 h).1
  have h' := (hb.block b hlt).trans h
  exact ⟨(cell_of_row w b 0 _ _ _ h').trans rfl, (cell_of_row w b 1 _ _ _ h').trans rfl, (cell_of_row w b 2 _ _ _ h').trans rfl⟩
theorem eq_below {W w w' : World} (h : w' = w) (hb : Below W.heap.size W w) : Below W.heap.size W w' := by rw [h]; exact hb
set_option maxHeartbeats 4000000 in
set_option maxRecDepth 100000 in
theorem specIsCond (f l h : Int) (w : World) :
    Calls Tryd.prog 87 #[condV f l h] w fun e w' => e = .returned (.bool (condB (f, l, h))) ∧ Below w.heap.size w w' := by
  have hb : Below w.heap.size w (w.alloc (.cells #[.int .i64 f, .int .i64 l, .int .i64 h] 79)) := (Below.refl _ w).alloc (Nat.le_refl _) _
  by_cases h1 : 0 ≤ f ∧ f ≤ 2
  · have H1 := Lib.hid (fun w => in_yes f 0 2 w h1.1 h1.2)
    by_cases h2 : 0 ≤ l ∧ l ≤ h
    · have H2 := Lib.hid (fun w => in_yes l 0 h w h2.1 h2.2)
      have HF : Hid (condB (f, l, h) = decide (h ≤ 99)) := Lib.hid (by unfold condB; rw [decide_eq_true h1, decide_eq_true h2]; simp)
      by_cases h3 : h ≤ 99
      · have HT : Hid (condB (f, l, h) = true) := Lib.hid (by rw [HF.out]; exact decide_eq_true h3)
        clear h1 h2 HF
        go_enter Tryd.func87, Tryd.ntmps87
        go_wp2_with fail
        refine (H1.out _).mono ?_
        rintro e w1 ⟨rfl, rfl⟩
        go_wp2_with fail
        refine (H2.out _).mono ?_
        rintro e w2 ⟨rfl, rfl⟩
        go_wp2
        go_ret
        exact ⟨ret_b HT.out.symm, hb⟩
      · have HT : Hid (condB (f, l, h) = false) := Lib.hid (by rw [HF.out]; exact decide_eq_false h3)
        clear h1 h2 HT
        go_enter Tryd.func87, Tryd.ntmps87
        go_wp2_with fail
        refine (H1.out _).mono ?_
        rintro e w1 ⟨rfl, rfl⟩
        go_wp2_with fail
        refine (H2.out _).mono ?_
        rintro e w2 ⟨rfl, rfl⟩
        go_wp2
        go_ret
        exact ⟨ret_b HF.out.symm, hb⟩
    · have H2 := Lib.hid (fun w => in_no l 0 h w h2)
      have HT : Hid (condB (f, l, h) = false) := Lib.hid (by unfold condB; rw [decide_eq_false h2]; simp)
      clear h1 h2
      go_enter Tryd.func87, Tryd.ntmps87
      go_wp2_with fail
      refine (H1.out _).mono ?_
      rintro e w1 ⟨rfl, rfl⟩
      go_wp2_with fail
      refine (H2.out _).mono ?_
      rintro e w2 ⟨rfl, rfl⟩
      go_wp2
      go_ret
      exact ⟨ret_b HT.out.symm, hb⟩
  · have H1 := Lib.hid (fun w => in_no f 0 2 w h1)
    have HT : Hid (condB (f, l, h) = false) := Lib.hid (by unfold condB; rw [decide_eq_false h1]; simp)
    clear h1
    go_enter Tryd.func87, Tryd.ntmps87
    go_wp2_with fail
    refine (H1.out _).mono ?_
    rintro e w1 ⟨rfl, rfl⟩
    go_wp2
    go_ret
    exact ⟨ret_b HT.out.symm, hb⟩
set_option maxHeartbeats 4000000 in
set_option maxRecDepth 100000 in
theorem toCond_any (f l h : Int) (w : World) :
    Calls Tryd.prog 89 #[condV f l h] w fun e w' => e = .returned (condV f l h) ∧ Below w.heap.size w w' := by
  go_enter Tryd.func89, Tryd.ntmps89
  go_wp2
  refine bodyPost_ret (v := condV f l h) ?_ rfl ?_
  · simp [results, Tryd.f89, go_sem]
  · refine ⟨rfl, ?_⟩
    exact (((Below.refl _ w).alloc (Nat.le_refl _) _).alloc (by simp) _).alloc (by simp; omega) _
set_option maxHeartbeats 4000000 in
set_option maxRecDepth 100000 in
theorem eqCond_same (f l h : Int) (w : World) :
    Calls Tryd.prog 91 #[condV f l h, condV f l h] w fun e w' => e = .returned (.bool true) ∧ Below w.heap.size w w' := by
  have e1 : (f != f) = false := by simp
  have e2 : (l != l) = false := by simp
  have e3 : (h != h) = false := by simp
  go_enter Tryd.func91, Tryd.ntmps91
  go_wp2
  go_ret
  exact ⟨rfl, ((Below.refl _ w).alloc (Nat.le_refl _) _).alloc (by simp) _⟩
end Go.Proofs.YteelgogfpidcdaaDoor
