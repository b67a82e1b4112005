/-
  Appending the numbers of a slice that came from anywhere to one that the call made.
-/
import Derived.Test.YtginjmnohnidiaaInts
import Derived.Deep.Upon
namespace Go.Proofs.Ytginjmnohnidiaa
open Go.RowKit
set_option linter.unusedVariables false
theorem ownsN_cap {w : World} {B : Nat} {v : Value} {xs : List Int} (h : OwnsN w B v xs) : ∃ a cap, v = .slice a xs.length cap ∧ xs.length ≤ cap := by
  rcases h.2 with ⟨rfl, h0⟩ | ⟨g, cap, cur, rfl, hb, hg, hn, _⟩
  · exact ⟨none, 0, by rw [h0], by rw [h0]; exact Nat.le_refl _⟩
  · exact ⟨_, cap, rfl, hn⟩
theorem run_append_ints {w : World} {B : Nat} {v u : Value} {xs ys : List Int} (ty : TypeId) (hown : OwnsN w B v xs) (hu : Ints w u ys) (hB : B ≤ w.heap.size) (h63 : xs.length + ys.length ≤ 17592186044416) :
    ∃ v' w', (Builtin.append_ #[31, 31] ty #[v, u]).run Try.prog w = .ok v' w' ∧ OwnsN w' B v' (xs ++ ys) ∧ Below B w w' := by
  obtain ⟨i0, hi, hz0, hz1, hz2⟩ := info_parts Try.infoI64
  rcases hu with ⟨rfl, a', cap', rfl⟩ | ⟨b, off, cap', rfl, hcap, hbl, hc⟩
  · obtain ⟨a, cap, rfl, hle⟩ := ownsN_cap hown
    have hs : Src Try.prog i0.size 31 (.slice a' 0 cap') 0 [] w := by
      cases a' with
      | none => exact Src.ofNil w Try.underlying31 cap'
      | some ad => exact Src.ofSlice w Try.underlying31 ad 0 cap' [] (by simp) (by simp) (by simp)
    exact ⟨_, _, run_append_nothing w 31 31 ty 3 i0 Try.underlying31 hi a xs.length cap hle _ hs, by simpa using hown, Below.refl B w⟩
  · obtain ⟨v', w', hr, h2, h3, h4⟩ := run_append_own (P := Try.prog) w B 31 ty 3 i0 (.int .i64 0) 1 8 Try.underlying31 hi hz0 hz1 hz2 rfl (by decide) v xs.length _ hown ⟨b, off, none⟩ ys.length cap' (ys.map (Value.int .i64)) (by simp) (by
        intro j q hj
        rw [Go.WideShapes.add_plain]
        rw [List.getElem?_map] at hj
        by_cases hlt : j < ys.length
        · rw [hc j hlt]
          rw [List.getElem?_eq_getElem hlt] at hj
          simpa [List.getD, hlt] using hj
        · rw [List.getElem?_eq_none (by omega)] at hj
          simp at hj) (by intro q hq; simp at hq; obtain ⟨y, _, rfl⟩ := hq; rfl) (by unfold maxLen; omega) (by omega) hB
    refine ⟨v', w', hr, ?_, ?_⟩
    · unfold OwnsN
      simpa using h2
    · exact (Below.refl B w).grown h3 hB (fun k hk => (hown.lt k hk).1)
/-- As a step of a region taken by hand. -/
theorem step_append_ints {w : World} {ops : Array Oper} {o : Oper} {a : Act} {K : Act → World → Prop} {Q : Exit → Act → World → Prop} {E : Prop} (hwa : Region.wanted o (yielded ops a.tmps) = true) (s x : Operand)
    (ho : o.op = .call { callee := .builtin .append, args := #[s, x], argTypes := #[31, 31] })
    (B : Nat) (v u : Value) (xs ys : List Int) (hs : a.eval s = v) (hx : a.eval x = u) (hown : OwnsN w B v xs) (hu : Ints w u ys) (hB : B ≤ w.heap.size) (h63 : xs.length + ys.length ≤ 17592186044416)
    (h : ∀ v' w', OwnsN w' B v' (xs ++ ys) → Below B w w' → K (a.put o.dst v') w') : if Region.wanted o (yielded ops a.tmps) = true then Oper.wp Try.prog o a w K Q else E := by
  rw [if_pos hwa]
  obtain ⟨v', w', hr, h2, h3⟩ := run_append_ints o.type hown hu hB h63
  unfold Oper.wp execOp
  simp only [ho, resolve, invoke, builtin, Sem.run_bind, Sem.run_pure, Result.andThen_ok, List.map_toArray, List.map_cons, List.map_nil, hs, hx, hr]
  exact h v' w' h2 h3
end Go.Proofs.Ytginjmnohnidiaa
