/-
  Appending the texts of a slice that came from anywhere to one that the call made.
-/
import Derived.Test.YteelgogfpidcdaaDoorStrs
import Derived.Deep.Upon
namespace Go.Proofs.YteelgogfpidcdaaDoor
open Go.RowKit
set_option linter.unusedVariables false
theorem ownsS_cap {w : World} {B : Nat} {v : Value} {xs : List ByteArray} (h : OwnsS w B v xs) : ∃ a cap, v = .slice a xs.length cap ∧ xs.length ≤ cap := by
  rcases h.2 with ⟨rfl, h0⟩ | ⟨g, cap, cur, rfl, hb, hg, hn, _⟩
  · exact ⟨none, 0, by rw [h0], by rw [h0]; exact Nat.le_refl _⟩
  · exact ⟨_, cap, rfl, hn⟩
theorem run_append_strs {w : World} {B : Nat} {v u : Value} {xs ys : List ByteArray} (ty : TypeId) (hown : OwnsS w B v xs) (hu : Strs w u ys) (hB : B ≤ w.heap.size) (h63 : xs.length + ys.length ≤ 8796093022208) :
    ∃ v' w', (Builtin.append_ #[65, 65] ty #[v, u]).run Tryd.prog w = .ok v' w' ∧ OwnsS w' B v' (xs ++ ys) ∧ Below B w w' ∧ w.grownBy w' v.ownBlock := by
  obtain ⟨i0, hi, hz0, hz1, hz2⟩ := info_parts Tryd.infoStr
  rcases hu with ⟨rfl, a', cap', rfl⟩ | ⟨b, off, cap', rfl, hcap, hbl, hc⟩
  · obtain ⟨a, cap, rfl, hle⟩ := ownsS_cap hown
    have hs : Src Tryd.prog i0.size 65 (.slice a' 0 cap') 0 [] w := by
      cases a' with
      | none => exact Src.ofNil w Tryd.underlying65 cap'
      | some ad => exact Src.ofSlice w Tryd.underlying65 ad 0 cap' [] (by simp) (by simp) (by simp)
    exact ⟨_, _, run_append_nothing w 65 65 ty 9 i0 Tryd.underlying65 hi a xs.length cap hle _ hs, by simpa using hown, Below.refl B w, ⟨rfl, rfl, rfl, Nat.le_refl _, fun _ _ _ => rfl⟩⟩
  · obtain ⟨v', w', hr, h2, h3, h4⟩ := run_append_own (P := Tryd.prog) w B 65 ty 9 i0 (.string ⟨#[]⟩) 1 16 Tryd.underlying65 hi hz0 hz1 hz2 rfl (by decide) v xs.length _ hown ⟨b, off, none⟩ ys.length cap' (ys.map Value.string) (by simp) (by
        intro j q hj
        rw [Go.WideShapes.add_plain]
        rw [List.getElem?_map] at hj
        by_cases hlt : j < ys.length
        · rw [hc j hlt]
          rw [List.getElem?_eq_getElem hlt] at hj
          simpa [List.getD, hlt] using hj
        · rw [List.getElem?_eq_none (by omega)] at hj
          simp at hj) (by intro q hq; simp at hq; obtain ⟨y, _, rfl⟩ := hq; rfl) (by unfold maxLen; omega) (by omega) hB
    refine ⟨v', w', hr, ?_, ?_, h3⟩
    · unfold OwnsS
      simpa using h2
    · exact (Below.refl B w).grown h3 hB (fun k hk => (hown.lt k hk).1)
/-- As a step of a region taken by hand. -/
theorem step_append_strs {w : World} {ops : Array Oper} {o : Oper} {a : Act} {K : Act → World → Prop} {Q : Exit → Act → World → Prop} {E : Prop} (hwa : Region.wanted o (yielded ops a.tmps) = true) (s x : Operand)
    (ho : o.op = .call { callee := .builtin .append, args := #[s, x], argTypes := #[65, 65] })
    (B : Nat) (v u : Value) (xs ys : List ByteArray) (hs : a.eval s = v) (hx : a.eval x = u) (hown : OwnsS w B v xs) (hu : Strs w u ys) (hB : B ≤ w.heap.size) (h63 : xs.length + ys.length ≤ 8796093022208)
    (h : ∀ v' w', OwnsS w' B v' (xs ++ ys) → Below B w w' → w.grownBy w' v.ownBlock → K (a.put o.dst v') w') : if Region.wanted o (yielded ops a.tmps) = true then Oper.wp Tryd.prog o a w K Q else E := by
  rw [if_pos hwa]
  obtain ⟨v', w', hr, h2, h3, h4⟩ := run_append_strs o.type hown hu hB h63
  unfold Oper.wp execOp
  simp only [ho, resolve, invoke, builtin, Sem.run_bind, Sem.run_pure, Result.andThen_ok, List.map_toArray, List.map_cons, List.map_nil, hs, hx, hr]
  exact h v' w' h2 h3 h4
/-- As a step of a region without draws. -/
theorem wpl_append_strs {w : World} {ops : Array Oper} {rest : List Oper} {o : Oper} {a : Act} {Q : Exit → Act → World → Prop} (hgd : o.guard = none) (s x : Operand)
    (ho : o.op = .call { callee := .builtin .append, args := #[s, x], argTypes := #[65, 65] })
    (B : Nat) (v u : Value) (xs ys : List ByteArray) (hs : a.eval s = v) (hx : a.eval x = u) (hown : OwnsS w B v xs) (hu : Strs w u ys) (hB : B ≤ w.heap.size) (h63 : xs.length + ys.length ≤ 8796093022208)
    (h : ∀ v' w', OwnsS w' B v' (xs ++ ys) → Below B w w' → w.grownBy w' v.ownBlock → wpList Tryd.prog ops Q rest (a.put o.dst v') w') : wpList Tryd.prog ops Q (o :: rest) a w := by
  refine wpList_plain hgd fun K hK => ?_
  obtain ⟨v', w', hr, h2, h3, h4⟩ := run_append_strs o.type hown hu hB h63
  unfold Oper.wp
  simp [execOp, ho, resolve, invoke, builtin, hs, hx, hr, Result.andThen]
  exact hK _ _ (h v' w' h2 h3 h4)
theorem strs_two {w : World} {h : Nat} {x y : ByteArray} (h0 : w.cell? ⟨h, 0, none⟩ = some (.string x)) (h1 : w.cell? ⟨h, 1, none⟩ = some (.string y)) (hl : h < w.heap.size) : Strs w (.slice (some ⟨h, 0, none⟩) 2 2) [x, y] :=
  Or.inr ⟨h, 0, 2, rfl, by simp, hl, fun j hj => by
    have : j = 0 ∨ j = 1 := by simp at hj; omega
    rcases this with rfl | rfl
    · simpa using h0
    · simpa using h1⟩
end Go.Proofs.YteelgogfpidcdaaDoor
