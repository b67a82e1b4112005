/-
 Texts of the proof, merged: AppIntsW.
-/
import Derived.Test.YtcolddalajoheaaGreatDoorSO4
namespace Go.Proofs.YtcolddalajoheaaGreatDoor
open Go.RowKit
set_option linter.unusedVariables false
set_option linter.unusedSimpArgs false
theorem wpl_append_intsW {w : World} {ops : Array Oper} {rest : List Oper} {o : Oper} {a : Act} {Q : Exit → Act → World → Prop} (hgd : o.guard = none) (s x : Operand)
  (ho : o.op = .call { callee := .builtin .append, args := #[s, x], argTypes := #[25, 25] })
  (B : Nat) (v u : Value) (xs ys : List Int) (hs : a.eval s = v) (hx : a.eval x = u) (hown : Yz w B v xs) (hu : Yh w u ys) (hB : B ≤ w.heap.size) (h63 : xs.length + ys.length ≤ 17592186044416)
  (h : ∀ v' w', Yz w' B v' (xs ++ ys) → Below B w w' → wpList Tryz.prog ops Q rest (a.put o.dst v') w') : wpList Tryz.prog ops Q (o :: rest) a w := by
 refine wpList_plain hgd fun K hK => ?_
 obtain ⟨v', w', hr, h2, h3⟩ := run_append_ints o.type hown hu hB h63
 unfold Oper.wp
 simp [execOp, ho, resolve, invoke, builtin, hs, hx, hr, Result.andThen]
 exact hK _ _ (h v' w' h2 h3)
end Go.Proofs.YtcolddalajoheaaGreatDoor
