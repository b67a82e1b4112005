/-
  An argument that is a row, or a slice of rows, reads as rows, and reads so behind a call that changes nothing that was there.
-/
import Derived.Test.YtjmiihgaaagojaaDoorOpenInts
import Derived.Test.YtjmiihgaaagojaaDoorRowSl
import Derived.Lib.SmallJoins
import Derived.Deep.Slices
namespace Go.Proofs.YtjmiihgaaagojaaDoor
open Go.ChangeShapes Go.WideShapes Go.ChangeAt Go.WideMaps Go.WideElems Go.RowKit
set_option linter.unusedVariables false
theorem cInts : Tryd.prog.cellsOf 22 = 1 := by kernel_rfl
theorem cRowL : Tryd.prog.cellsOf 24 = 2 := by kernel_rfl
theorem recRowL : Tryd.prog.readableRec 24 = true := by kernel_rfl
theorem rowRowL : 24 < Tryd.prog.types.size := of_decide_eq_true (by kernel_rfl)
set_option maxRecDepth 100000 in
theorem ints_trod {H : Type} {enc : TypeId × Value → H} {W : World} {held : Bool} {fuel : Nat} {v : Value} {x : DataW H × List MemPlace} (h : DataW.trod enc Tryd.prog W 0 (fun _ => true) held fuel 22 [v] = some x) :
    ∃ xs, Ints W v xs ∧ (xs.length : Int) ≤ 9223372036854775807 := by
  rcases open_ints Tryd.underlying22 Tryd.underlying3 cI64 h with ⟨hcs, _⟩ | ⟨a', len', cap', zs, hcs, _, hl, hm, hz, _, hcell, hwz⟩
  · simp only [List.cons.injEq, and_true] at hcs
    subst hcs
    exact ⟨[], Or.inl ⟨rfl, none, 0, rfl⟩, by simp⟩
  · simp only [List.cons.injEq, and_true] at hcs
    subst hcs
    rw [if_pos rfl] at hz
    unfold maxLen at hm
    have hlen : (zs.take len').length = len' := by rw [List.length_take]; omega
    refine ⟨zs.take len', ?_, by rw [hlen]; omega⟩
    by_cases h0 : len' = 0
    · subst h0
      exact Or.inl ⟨rfl, some a', cap', rfl⟩
    · obtain ⟨b, off, rfl, hc⟩ := ints_at hcell (by omega)
      refine Or.inr ⟨b, off, cap', by rw [hlen], by omega, ?_, ?_⟩
      · exact World.block_lt_of_cell? W _ (hc 0 (by omega))
      · intro j hj
        rw [hlen] at hj
        rw [hc j (by omega)]
        simp [List.getD, hj]
theorem row_trod {H : Type} {enc : TypeId × Value → H} {W : World} {held : Bool} {fuel : Nat} {c0 c1 : Value} {x : DataW H × List MemPlace} (h : DataW.trod enc Tryd.prog W 0 (fun _ => true) held fuel 24 [c0, c1] = some x) :
    ∃ id xs, c0 = .int .i64 id ∧ Ints W c1 xs ∧ (xs.length : Int) ≤ 9223372036854775807 := by
  obtain ⟨y0, y1, n, _, _, h0, h1⟩ := trod_struct2 Tryd.underlying24 h
  simp only [cI64, cInts] at h0 h1
  obtain ⟨id, e, _, _⟩ := DataW.trod_int Tryd.underlying3 h0
  obtain ⟨xs, h2, h3⟩ := ints_trod (v := c1) h1
  simp only [List.drop_zero, List.take_succ_cons, List.take_zero, List.cons.injEq, and_true] at e
  exact ⟨id, xs, e, h2, h3⟩
set_option maxRecDepth 100000 in
theorem rowV_open {H : Type} {enc : TypeId × Value → H} {W : World} {r : Reach} {b0 : Nat} {v : Value} {d : DataW H} {p : List MemPlace} (hval : Value.okWide Tryd.prog W r b0 24 v) (h : DataW.Trod enc Tryd.prog W 0 (fun _ => true) true 24 v d p) :
    ∃ id vv xs, v = .agg #[.int .i64 id, vv] ∧ Ints W vv xs ∧ (xs.length : Int) ≤ 9223372036854775807 := by
  obtain ⟨v0, v1, y0, y1, n, rfl, _, _, h0, h1⟩ := Go.Joins.open_agg2 Tryd.underlying24 (by kernel_rfl) cRowL hval h
  obtain ⟨id, e, _, _⟩ := DataW.trod_int Tryd.underlying3 h0
  obtain ⟨xs, h2, h3⟩ := ints_trod h1
  simp only [List.cons.injEq, and_true] at e
  subst e
  exact ⟨id, v1, xs, rfl, h2, h3⟩
set_option maxRecDepth 100000 in
theorem rowV_shut {H : Type} {enc : TypeId × Value → H} {W W' : World} {v : Value} {d : DataW H} {ps : List MemPlace} (h : DataW.Trod enc Tryd.prog W 0 (fun _ => true) true 24 v d ps) (hb : Below W.heap.size W W') (hlt : ∀ x ∈ ps, x.block < W.heap.size) :
    DataW.Trod enc Tryd.prog W' 0 (fun b => decide (b < W.heap.size)) true 24 v d ps := Below.trod laidOutP recRowL rowRowL h hb hlt
end Go.Proofs.YtjmiihgaaagojaaDoor
