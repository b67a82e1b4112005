/-
  The order of rows is total, and the specification's insertion sort gives the one sorted permutation.
-/
import Derived.Test.YtginjmnohnidiaaRowSort
import Derived.Lib.Small
namespace Go.Proofs.Ytginjmnohnidiaa
open Go.RowKit
set_option linter.unusedVariables false
theorem lessL_irr : ∀ xs : List Int, lessL xs xs = false
  | [] => rfl
  | x :: xs => by simp only [lessL, if_true]; exact lessL_irr xs
theorem lessL_tri : ∀ xs ys : List Int, lessL xs ys = false → lessL ys xs = false → xs = ys
  | [], [], _, _ => rfl
  | [], y :: ys, h, _ => by simp [lessL] at h
  | x :: xs, [], _, h => by simp [lessL] at h
  | x :: xs, y :: ys, h1, h2 => by
    by_cases e : x = y
    · subst e
      simp only [lessL, if_true] at h1 h2
      rw [lessL_tri xs ys h1 h2]
    · simp only [lessL, if_neg e, if_neg (fun g => e (Eq.symm g)), decide_eq_false_iff_not] at h1 h2
      omega
theorem lessL_trans : ∀ xs ys zs : List Int, lessL xs ys = true → lessL ys zs = true → lessL xs zs = true
  | _, _, [], _, h => by cases ‹List Int› <;> simp [lessL] at h
  | _, [], _ :: _, h, _ => by cases ‹List Int› <;> simp [lessL] at h
  | [], y :: ys, z :: zs, _, _ => rfl
  | x :: xs, y :: ys, z :: zs, h1, h2 => by
    by_cases e : x = y
    · subst e
      by_cases e2 : x = z
      · subst e2
        simp only [lessL, if_true] at h1 h2 ⊢
        exact lessL_trans xs ys zs h1 h2
      · simp only [lessL, if_neg e2] at h2 ⊢
        exact h2
    · by_cases e2 : y = z
      · subst e2
        simp only [lessL, if_neg e] at h1 ⊢
        exact h1
      · simp only [lessL, if_neg e, if_neg e2, decide_eq_true_eq] at h1 h2
        have e3 : ¬ x = z := by omega
        simp only [lessL, if_neg e3, decide_eq_true_eq]
        omega
theorem rowLess_irr (a : RowD) : rowLess a a = false := by unfold rowLess; rw [if_pos rfl]; exact lessL_irr _
theorem rowLess_tri (a b : RowD) (h1 : rowLess a b = false) (h2 : rowLess b a = false) : a = b := by
  unfold rowLess at h1 h2
  by_cases e : a.1 = b.1
  · rw [if_pos e] at h1
    rw [if_pos e.symm] at h2
    exact Prod.ext e (lessL_tri _ _ h1 h2)
  · rw [if_neg e, decide_eq_false_iff_not] at h1
    rw [if_neg (fun g => e g.symm), decide_eq_false_iff_not] at h2
    omega
theorem rowLess_trans (a b c : RowD) (h1 : rowLess a b = true) (h2 : rowLess b c = true) : rowLess a c = true := by
  unfold rowLess at *
  by_cases e : a.1 = b.1
  · rw [if_pos e] at h1
    by_cases e2 : b.1 = c.1
    · rw [if_pos e2] at h2
      rw [if_pos (e.trans e2)]
      exact lessL_trans _ _ _ h1 h2
    · rw [if_neg e2] at h2
      rw [if_neg (fun g => e2 (e.symm.trans g)), e]
      exact h2
  · rw [if_neg e, decide_eq_true_eq] at h1
    by_cases e2 : b.1 = c.1
    · rw [if_neg (fun g => e (g.trans e2.symm)), ← e2]
      exact decide_eq_true h1
    · rw [if_neg e2, decide_eq_true_eq] at h2
      rw [if_neg (by omega)]
      exact decide_eq_true (by omega)
theorem rowLess_asym {a b : RowD} (h : rowLess a b = true) : rowLess b a = false := by
  rw [Bool.eq_false_iff]
  intro g
  have := rowLess_trans a b a h g
  rw [rowLess_irr] at this
  exact Bool.noConfusion this
theorem rowLess_ntrans (a b c : RowD) (h1 : rowLess a b = false) (h2 : rowLess b c = false) : rowLess a c = false := by
  rw [Bool.eq_false_iff]
  intro g
  cases h3 : rowLess b a with
  | true => rw [rowLess_trans b a c h3 g] at h2; exact Bool.noConfusion h2
  | false => rw [rowLess_tri a b h1 h3] at g; rw [g] at h2; exact Bool.noConfusion h2
/-- Sorted: none before one that is less. -/
def SortedL (rs : List RowD) : Prop := rs.Pairwise (fun a b => rowLess b a = false)
theorem insAt_spec (rs : List RowD) (r : RowD) : ∀ k, (∀ i, insAt rs r k ≤ i → i < k → rowLess r (rs.getD i (0, [])) = true) ∧ (∀ p, insAt rs r k = p + 1 → rowLess r (rs.getD p (0, [])) = false)
  | 0 => ⟨fun i _ h => by omega, fun p h => by simp [insAt] at h⟩
  | k + 1 => by
    obtain ⟨h1, h2⟩ := insAt_spec rs r k
    cases h : rowLess r (rs.getD k (0, [])) with
    | true =>
      rw [insAt_down h]
      refine ⟨fun i hi hk => ?_, h2⟩
      by_cases e : i = k
      · rw [e]; exact h
      · exact h1 i hi (by omega)
    | false =>
      rw [insAt_stop h]
      refine ⟨fun i hi hk => by omega, fun p hp => ?_⟩
      rw [show p = k by omega]
      exact h
theorem sorted_at {rs : List RowD} (h : SortedL rs) {i j : Nat} (hij : i < j) (hj : j < rs.length) : rowLess (rs.getD j (0, [])) (rs.getD i (0, [])) = false := by
  have := List.pairwise_iff_getElem.1 h i j (by omega) hj hij
  have hi : i < rs.length := by omega
  simpa [List.getD, hi, hj] using this
theorem getD_at {rs : List RowD} {i : Nat} (hi : i < rs.length) : rs.getD i (0, []) = rs[i] := by simp [List.getD, hi]
theorem insL_sorted {rs : List RowD} {r : RowD} (h : SortedL rs) : SortedL (insL rs r) := by
  obtain ⟨h1, h2⟩ := insAt_spec rs r rs.length
  have hle := insAt_le rs r rs.length
  unfold insL SortedL
  generalize insAt rs r rs.length = p at *
  have hlow : ∀ x ∈ rs.take p, rowLess r x = false := by
    intro x hx
    obtain ⟨i, hi, rfl⟩ := List.getElem_of_mem hx
    rw [List.length_take] at hi
    obtain ⟨q, rfl⟩ : ∃ q, p = q + 1 := ⟨p - 1, by omega⟩
    have hq := h2 q rfl
    rw [List.getElem_take, ← getD_at (by omega)]
    by_cases e : i = q
    · rw [e]; exact hq
    · exact rowLess_ntrans _ _ _ hq (sorted_at h (by omega) (by omega))
  have hhigh : ∀ x ∈ rs.drop p, rowLess x r = false := by
    intro x hx
    obtain ⟨i, hi, rfl⟩ := List.getElem_of_mem hx
    rw [List.length_drop] at hi
    rw [List.getElem_drop, ← getD_at (by omega)]
    exact rowLess_asym (h1 (p + i) (by omega) (by omega))
  have hs : (rs.take p ++ rs.drop p).Pairwise (fun a b => rowLess b a = false) := by rw [List.take_append_drop]; exact h
  obtain ⟨s1, s2, s3⟩ := List.pairwise_append.1 hs
  refine List.pairwise_append.2 ⟨s1, List.pairwise_cons.2 ⟨hhigh, s2⟩, fun a ha b hb => ?_⟩
  rcases List.mem_cons.1 hb with rfl | hb
  · exact hlow a ha
  · exact s3 a ha b hb
theorem foldl_sorted (a : List RowD) : ∀ acc, SortedL acc → SortedL (a.foldl insL acc) := by
  induction a with
  | nil => intro acc h; exact h
  | cons r a ih => intro acc h; exact ih _ (insL_sorted h)
theorem sortL_sorted (a : List RowD) : SortedL (sortL a) := foldl_sorted a [] List.Pairwise.nil
/-- There is one sorted permutation. -/
theorem sortL_unique {a b : List RowD} (hp : b.Perm a) (hs : SortedL b) : b = sortL a :=
  List.Perm.eq_of_pairwise (le := fun x y => rowLess y x = false) (fun x y _ _ h1 h2 => rowLess_tri x y h2 h1) hs (sortL_sorted a) (hp.trans (sortL_perm a).symm)
/-! The program's comparison: a number below zero, zero, or above zero. -/
def cmpL : List Int → List Int → Int
  | [], [] => 0
  | [], _ :: _ => -1
  | _ :: _, [] => 1
  | x :: xs, y :: ys => if Lib.compareInt x y = 0 then cmpL xs ys else Lib.compareInt x y
def cmpR (a b : RowD) : Int := if Lib.compareInt a.1 b.1 = 0 then cmpL a.2 b.2 else Lib.compareInt a.1 b.1
theorem compareInt_zero (x y : Int) : Lib.compareInt x y = 0 ↔ x = y := by unfold Lib.compareInt; split <;> (try split) <;> omega
theorem compareInt_neg (x y : Int) : Lib.compareInt x y < 0 ↔ x < y := by unfold Lib.compareInt; split <;> (try split) <;> omega
theorem cmpL_less : ∀ xs ys : List Int, decide (cmpL xs ys < 0) = lessL xs ys
  | [], [] => by simp [cmpL, lessL]
  | [], _ :: _ => by simp [cmpL, lessL]
  | _ :: _, [] => by simp [cmpL, lessL]
  | x :: xs, y :: ys => by
    unfold cmpL lessL
    by_cases e : x = y
    · rw [if_pos ((compareInt_zero x y).2 e), if_pos e]
      exact cmpL_less xs ys
    · rw [if_neg (fun g => e ((compareInt_zero x y).1 g)), if_neg e]
      exact decide_eq_decide.2 (compareInt_neg x y)
theorem cmpR_less (a b : RowD) : decide (cmpR a b < 0) = rowLess a b := by
  unfold cmpR rowLess
  by_cases e : a.1 = b.1
  · rw [if_pos ((compareInt_zero _ _).2 e), if_pos e]
    exact cmpL_less _ _
  · rw [if_neg (fun g => e ((compareInt_zero _ _).1 g)), if_neg e]
    exact decide_eq_decide.2 (compareInt_neg _ _)
theorem cmpL_step {xs ys : List Int} {k : Nat} (hx : k < xs.length) (hy : k < ys.length) (h : Lib.compareInt (xs.getD k 0) (ys.getD k 0) = 0) : cmpL (xs.drop k) (ys.drop k) = cmpL (xs.drop (k + 1)) (ys.drop (k + 1)) := by
  rw [List.drop_eq_getElem_cons hx, List.drop_eq_getElem_cons hy]
  have e : Lib.compareInt xs[k] ys[k] = 0 := by simpa [List.getD, hx, hy] using h
  simp only [cmpL, e, if_true]
theorem cmpL_ne {xs ys : List Int} {k : Nat} (hx : k < xs.length) (hy : k < ys.length) (h : ¬ Lib.compareInt (xs.getD k 0) (ys.getD k 0) = 0) : cmpL (xs.drop k) (ys.drop k) = Lib.compareInt (xs.getD k 0) (ys.getD k 0) := by
  rw [List.drop_eq_getElem_cons hx, List.drop_eq_getElem_cons hy]
  have e : ¬ Lib.compareInt xs[k] ys[k] = 0 := by simpa [List.getD, hx, hy] using h
  simp only [cmpL, if_neg e]
  simp [List.getD, hx, hy]
theorem cmpL_long {xs ys : List Int} (hx : ys.length < xs.length) : cmpL (xs.drop ys.length) (ys.drop ys.length) = 1 := by
  rw [List.drop_length, List.drop_eq_getElem_cons hx]
  rfl
theorem cmpL_end {xs ys : List Int} (h : xs.length ≤ ys.length) : cmpL (xs.drop xs.length) (ys.drop xs.length) = if xs.length < ys.length then -1 else 0 := by
  rw [List.drop_length]
  by_cases e : xs.length < ys.length
  · rw [if_pos e, List.drop_eq_getElem_cons e]
    rfl
  · rw [if_neg e, List.drop_eq_nil_of_le (by omega)]
    rfl
end Go.Proofs.Ytginjmnohnidiaa
