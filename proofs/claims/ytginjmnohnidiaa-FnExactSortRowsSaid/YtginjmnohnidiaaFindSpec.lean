/-
  The walk of the specification's FindSpan.
-/
import Derived.Test.YtginjmnohnidiaaSpanSl
import Derived.Test.YtginjmnohnidiaaTake
import Derived.Test.YtginjmnohnidiaaAppInts
namespace Go.Proofs.Ytginjmnohnidiaa
open Go.RowKit
set_option linter.unusedVariables false
set_option linter.unusedSimpArgs false
def hitB (v : Int) (r : SpanD) : Bool := decide (r.1 ≤ v ∧ v ≤ r.2.1)
/-- The set of the first span that contains the value. -/
def findL (rs : List SpanD) (v : Int) : List Int := ((rs.find? (hitB v)).getD p0D).2.2
theorem find_none {rs : List SpanD} {v : Int} (h : ∀ j, j < rs.length → hitB v (rs.getD j p0D) = false) : findL rs v = [] := by
  unfold findL
  have : rs.find? (hitB v) = none := by
    rw [List.find?_eq_none]
    intro r hr
    obtain ⟨j, hj, rfl⟩ := List.getElem_of_mem hr
    have := h j hj
    have e : rs.getD j p0D = rs[j] := by simp [List.getD, hj]
    rw [e] at this; simp [this]
  rw [this]; rfl
theorem find_at {rs : List SpanD} {v : Int} {k : Nat} (hk : k < rs.length) (h : ∀ j, j < k → hitB v (rs.getD j p0D) = false) (hh : hitB v (rs.getD k p0D) = true) : findL rs v = (rs.getD k p0D).2.2 := by
  unfold findL
  have e : rs.getD k p0D = rs[k] := by simp [List.getD, hk]
  have : rs.find? (hitB v) = some rs[k] := by
    rw [List.find?_eq_some_iff_getElem]
    refine ⟨by rw [← e]; exact hh, k, hk, rfl, fun j hj => ?_⟩
    have h2 := h j hj
    have e2 : rs.getD j p0D = rs[j] := by simp [List.getD, Nat.lt_trans hj hk]
    rw [e2] at h2; simp [h2]
  rw [this, e]; rfl
theorem wpl_app_ints {w : World} {ops : Array Oper} {rest : List Oper} {o : Oper} {a : Act} {Q : Exit → Act → World → Prop} (hgd : o.guard = none) (s x : Operand)
    (ho : o.op = .call { callee := .builtin .append, args := #[s, x], argTypes := #[31, 31] })
    (B : Nat) (v u : Value) (xs ys : List Int) (hs : a.eval s = v) (hx : a.eval x = u) (hown : OwnsN w B v xs) (hu : Ints w u ys) (hB : B ≤ w.heap.size) (h63 : xs.length + ys.length ≤ 17592186044416)
    (h : ∀ v' w', OwnsN w' B v' (xs ++ ys) → Below B w w' → wpList Try.prog ops Q rest (a.put o.dst v') w') : wpList Try.prog ops Q (o :: rest) a w := by
  refine wpList_plain hgd fun K hK => ?_
  obtain ⟨v', w', hr, h2, h3⟩ := run_append_ints o.type hown hu hB h63
  unfold Oper.wp
  simp [execOp, ho, resolve, invoke, builtin, hs, hx, hr, Result.andThen]
  exact hK _ _ (h v' w' h2 h3)
/-- A set in new memory is answered. -/
def FreshInts (w : World) (xs : List Int) (e : Ending) (w' : World) : Prop := ∃ u, e = .returned u ∧ OwnsN w' w.heap.size u xs ∧ Below w.heap.size w w'
end Go.Proofs.Ytginjmnohnidiaa
