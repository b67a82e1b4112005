/-
  An argument that is a slice of queries reads as queries, and reads so behind a call that changes nothing that was there.
-/
import Derived.Test.YteelgogfpidcdaaOpenQuery
import Derived.Test.YteelgogfpidcdaaQuerySl
namespace Go.Proofs.Yteelgogfpidcdaa
open Go.ChangeShapes Go.WideShapes Go.ChangeAt Go.WideMaps Go.WideElems Go.RowKit
set_option linter.unusedVariables false
theorem recQueriesL : Try.prog.readableRec 40 = true := by kernel_rfl
theorem rowQueriesL : 40 < Try.prog.types.size := of_decide_eq_true (by kernel_rfl)
set_option maxRecDepth 100000 in
theorem queries_open {H : Type} {enc : TypeId × Value → H} {W : World} {r : Reach} {b0 : Nat} {v : Value} {d : DataW H} {p : List MemPlace} (hval : Value.okWide Try.prog W r b0 40 v) (h : DataW.Trod enc Try.prog W 0 (fun _ => true) true 40 v d p) :
    ∃ qs, QueriesR W v qs ∧ (qs.length : Int) ≤ 9223372036854775807 ∧ (∀ j, j < qs.length → ((qs.getD j q0D).2.2.1.length : Int) ≤ 9223372036854775807) ∧ ∀ j, j < qs.length → ((qs.getD j q0D).2.2.2.length : Int) ≤ 9223372036854775807 := by
  obtain ⟨a, len, cap, rfl⟩ := okWide_slice Try.underlying40 hval
  obtain ⟨fuel, hf⟩ := h
  rcases Go.Deep.open_slice Try.underlying40 hf with ⟨hcs, _⟩ | ⟨a', len', cap', m, n, D, Pl, hcs, _, hl, hm, hmm, _, hx⟩
  · simp [Value.cells] at hcs
    obtain ⟨rfl, rfl, rfl⟩ := hcs
    exact ⟨[], Or.inl ⟨rfl, none, 0, rfl⟩, by simp, fun j hj => by simp at hj, fun j hj => by simp at hj⟩
  · simp [Value.cells] at hcs
    obtain ⟨rfl, rfl, rfl⟩ := hcs
    rw [if_pos rfl] at hmm
    subst hmm
    unfold maxLen at hm
    obtain ⟨f, hf'⟩ := Go.Deep.choose_lt (α := QD × Value × Value) (n := len) (p := fun i q => W.cell? (a'.add (i * 4)) = some (.int .i64 q.1.1) ∧ W.cell? ((a'.add (i * 4)).add 1) = some (.int .i64 q.1.2.1) ∧ W.cell? ((a'.add (i * 4)).add 2) = some q.2.1 ∧ W.cell? ((a'.add (i * 4)).add 3) = some q.2.2 ∧ CondsR W q.2.1 q.1.2.2.1 ∧ Ints W q.2.2 q.1.2.2.2 ∧ (q.1.2.2.1.length : Int) ≤ 9223372036854775807 ∧ (q.1.2.2.2.length : Int) ≤ 9223372036854775807) (fun i hi => by
      obtain ⟨cs', h1, h2⟩ := hx i (by omega)
      rw [cQueryL] at h1
      obtain ⟨_, hlen, hc⟩ := World.cells?_some h1
      match cs', hlen with
      | [c0, c1, c2, c3], _ =>
        obtain ⟨id, tn, cs, os, rfl, rfl, h3, h4, h5, h6⟩ := query_trod h2
        have e0 := hc 0 (by omega)
        have e1 := hc 1 (by omega)
        have e2 := hc 2 (by omega)
        have e3 := hc 3 (by omega)
        exact ⟨((id, tn, cs, os), c2, c3), by simpa [Addr.add] using e0, by simpa using e1, by simpa using e2, by simpa using e3, h3, h4, h5, h6⟩)
    have hat : ∀ j, j < len → ((List.range len).map fun i => (f i).1).getD j q0D = (f j).1 := fun j hj => by simp [List.getD, hj]
    have hlen : ((List.range len).map fun i => (f i).1).length = len := by simp
    refine ⟨(List.range len).map fun i => (f i).1, ?_, by rw [hlen]; omega, fun j hj => by rw [hlen] at hj; rw [hat j hj]; exact (hf' j hj).2.2.2.2.2.2.1, fun j hj => by rw [hlen] at hj; rw [hat j hj]; exact (hf' j hj).2.2.2.2.2.2.2⟩
    by_cases h0 : len = 0
    · subst h0
      exact Or.inl ⟨rfl, some a', _, rfl⟩
    · obtain ⟨b, off, spot⟩ := a'
      have hspot : spot = none := by simpa [Addr.add] using World.cell?_spot (hf' 0 (by omega)).1
      subst hspot
      refine Or.inr ⟨b, off, _, fun i => (f i).2.1, fun i => (f i).2.2, by rw [hlen], by rw [hlen]; exact hl, ?_, ?_⟩
      · have := World.block_lt_of_cell? W _ (hf' 0 (by omega)).1
        simpa [Addr.add] using this
      · intro j hj
        rw [hlen] at hj
        obtain ⟨g1, g2, g3, g4, g5, g6, _⟩ := hf' j hj
        rw [hat j hj]
        rw [Go.WideShapes.add_plain] at g1 g2 g3 g4
        rw [Go.WideShapes.add_plain] at g2 g3 g4
        exact ⟨g1, g2, g3, g4, g5, g6⟩
set_option maxRecDepth 100000 in
theorem queries_shut {H : Type} {enc : TypeId × Value → H} {W W' : World} {v : Value} {d : DataW H} {ps : List MemPlace} (h : DataW.Trod enc Try.prog W 0 (fun _ => true) true 40 v d ps) (hb : Below W.heap.size W W') (hlt : ∀ x ∈ ps, x.block < W.heap.size) :
    DataW.Trod enc Try.prog W' 0 (fun b => decide (b < W.heap.size)) true 40 v d ps := Below.trod laidOutP recQueriesL rowQueriesL h hb hlt
end Go.Proofs.Yteelgogfpidcdaa
