/-
  The walks of the specification's IsRow and of the comparison of two rows.
-/
import Derived.Test.YtidhmgboknffkaaRowVal
import Derived.Test.YtidhmgboknffkaaSetSpec
namespace Go.Proofs.Ytidhmgboknffkaa
open Go.RowKit
set_option linter.unusedVariables false
/-- Is it a row? -/
def rowB (r : RowD) : Bool := decide (0 ≤ r.1 ∧ r.1 ≤ 999) && (r.2.all (fun x => decide (0 ≤ x ∧ x ≤ 99)) && decide (r.2.length = 3))
theorem rowB_bad {id : Int} {xs : List Int} {k : Nat} (hk : k < xs.length) (h : ¬ (0 ≤ xs.getD k 0 ∧ xs.getD k 0 ≤ 99)) : rowB (id, xs) = false := by
  have e : xs.getD k 0 = xs[k] := by simp [List.getD, hk]
  rw [e] at h
  have : (xs.all fun x => decide (0 ≤ x ∧ x ≤ 99)) = false := by
    rw [Bool.eq_false_iff]
    intro g
    rw [List.all_eq_true] at g
    exact h (of_decide_eq_true (g _ (List.getElem_mem hk)))
  unfold rowB
  simp only [this]
  simp
theorem rowB_all {id : Int} {xs : List Int} (h : ∀ k, k < xs.length → 0 ≤ xs.getD k 0 ∧ xs.getD k 0 ≤ 99) : rowB (id, xs) = (decide (0 ≤ id ∧ id ≤ 999) && decide (xs.length = 3)) := by
  have : (xs.all fun x => decide (0 ≤ x ∧ x ≤ 99)) = true := by
    rw [List.all_eq_true]
    intro x hx
    obtain ⟨k, hk, rfl⟩ := List.getElem_of_mem hx
    have := h k hk
    have e : xs.getD k 0 = xs[k] := by simp [List.getD, hk]
    rw [e] at this
    exact decide_eq_true this
  unfold rowB
  simp only [this, Bool.true_and]
set_option maxHeartbeats 2000000 in
set_option maxRecDepth 100000 in
theorem eqRow_same (id : Int) (v u : Value) (xs : List Int) (w : World) (h : Ints w v xs) (g : Ints w u xs) (hn : xs.length ≤ 1048576) :
    Calls Try.prog 68 #[.agg #[.int .i64 id, v], .agg #[.int .i64 id, u]] w fun e w' => e = .returned (.bool true) ∧ Below w.heap.size w w' := by
  have H := Lib.hid (fun w h g => eqIntS_same v u xs w h g hn)
  have HV := Lib.hid h
  have HU := Lib.hid g
  clear h g hn
  have hid0 : (id == id) = true := by simp
  go_enter Try.func68, Try.ntmps68
  go_wp2_with fail
  have hb : Below w.heap.size w ((w.alloc (.cells #[.int .i64 id, v] 87)).alloc (.cells #[.int .i64 id, u] 87)) := ((Below.refl _ w).alloc (Nat.le_refl _) _).alloc (by simp) _
  refine (H.out _ (ints_below HV.out hb) (ints_below HU.out hb)).mono ?_
  rintro e w1 ⟨rfl, b1⟩
  have b2 := hb.trans (b1.mono hb.size)
  clear hb b1
  go_wp2
  go_ret
  exact ⟨rfl, b2⟩
end Go.Proofs.Ytidhmgboknffkaa
