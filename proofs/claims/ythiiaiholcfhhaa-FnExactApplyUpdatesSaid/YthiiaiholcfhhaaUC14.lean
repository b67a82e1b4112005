/-
 Texts of the proof, merged: OUpdateS.
-/
import Derived.Test.YthiiaiholcfhhaaUC3
namespace Go.Proofs.Ythiiaiholcfhhaa
open Go.ChangeShapes Go.WideShapes Go.ChangeAt Go.WideMaps Go.WideElems Go.RowKit
set_option linter.unusedVariables false
theorem recT_UpdateS : Try.prog.readableRec 49 = true := by kernel_rfl
theorem rowT_UpdateS : 49 < Try.prog.types.size := of_decide_eq_true (by kernel_rfl)
theorem opn_UpdateS : Opn tUpdateS 49 := opn_slice tUpdate_law _ opn_Update Try.underlying49 (by kernel_rfl)
set_option maxRecDepth 100000 in
theorem shut_UpdateS {H : Type} {enc : TypeId × Value → H} {W W' : World} {v : Value} {d : DataW H} {ps : List MemPlace} (h : DataW.Trod enc Try.prog W 0 (fun _ => true) true 49 v d ps) (hb : Below W.heap.size W W') (hlt : ∀ x ∈ ps, x.block < W.heap.size) :
  DataW.Trod enc Try.prog W' 0 (fun b => decide (b < W.heap.size)) true 49 v d ps := Below.trod laidOutP recT_UpdateS rowT_UpdateS h hb hlt
end Go.Proofs.Ythiiaiholcfhhaa
