/-
  An argument that is a slice of spans reads as spans, and reads so behind a call that changes nothing that was there.
-/
import Derived.Test.YtidhmgboknffkaaOpenRows
import Derived.Test.YtidhmgboknffkaaSpanSl
import Derived.Deep.Strs
namespace Go.Proofs.Ytidhmgboknffkaa
open Go.ChangeShapes Go.WideShapes Go.ChangeAt Go.WideMaps Go.WideElems Go.RowKit
set_option linter.unusedVariables false
theorem cSpanL : Try.prog.cellsOf 103 = 3 := by kernel_rfl
theorem recSpansL : Try.prog.readableRec 60 = true := by kernel_rfl
theorem rowSpansL : 60 < Try.prog.types.size := of_decide_eq_true (by kernel_rfl)
set_option maxRecDepth 100000 in
theorem span_trod {H : Type} {enc : TypeId × Value → H} {W : World} {held : Bool} {fuel : Nat} {c0 c1 c2 : Value} {x : DataW H × List MemPlace} (h : DataW.trod enc Try.prog W 0 (fun _ => true) held fuel 103 [c0, c1, c2] = some x) :
    ∃ f t xs, c0 = .int .i64 f ∧ c1 = .int .i64 t ∧ Ints W c2 xs ∧ (xs.length : Int) ≤ 9223372036854775807 := by
  obtain ⟨y0, y1, y2, n, _, _, h0, h1, h2⟩ := Go.Deep.trod_struct3 Try.underlying103 h
  simp only [cI64, cInts] at h0 h1 h2
  obtain ⟨f, e0, _, _⟩ := DataW.trod_int Try.underlying3 h0
  obtain ⟨t, e1, _, _⟩ := DataW.trod_int Try.underlying3 h1
  obtain ⟨xs, h3, h4⟩ := ints_trod (v := c2) h2
  simp only [List.drop_zero, List.drop_succ_cons, List.take_succ_cons, List.take_zero, List.cons.injEq, and_true] at e0 e1
  exact ⟨f, t, xs, e0, e1, h3, h4⟩
set_option maxRecDepth 100000 in
theorem spans_open {H : Type} {enc : TypeId × Value → H} {W : World} {r : Reach} {b0 : Nat} {v : Value} {d : DataW H} {p : List MemPlace} (hval : Value.okWide Try.prog W r b0 60 v) (h : DataW.Trod enc Try.prog W 0 (fun _ => true) true 60 v d p) :
    ∃ rs, SpansR W v rs ∧ (rs.length : Int) ≤ 9223372036854775807 ∧ ∀ j, j < rs.length → ((rs.getD j p0D).2.2.length : Int) ≤ 9223372036854775807 := by
  obtain ⟨a, len, cap, rfl⟩ := okWide_slice Try.underlying60 hval
  obtain ⟨fuel, hf⟩ := h
  rcases Go.Deep.open_slice Try.underlying60 hf with ⟨hcs, _⟩ | ⟨a', len', cap', m, n, D, Pl, hcs, _, hl, hm, hmm, _, hx⟩
  · simp [Value.cells] at hcs
    obtain ⟨rfl, rfl, rfl⟩ := hcs
    exact ⟨[], Or.inl ⟨rfl, none, 0, rfl⟩, by simp, fun j hj => by simp at hj⟩
  · simp [Value.cells] at hcs
    obtain ⟨rfl, rfl, rfl⟩ := hcs
    rw [if_pos rfl] at hmm
    subst hmm
    unfold maxLen at hm
    obtain ⟨f, hf'⟩ := Go.Deep.choose_lt (α := SpanD × Value) (n := len) (p := fun i q => W.cell? (a'.add (i * 3)) = some (.int .i64 q.1.1) ∧ W.cell? ((a'.add (i * 3)).add 1) = some (.int .i64 q.1.2.1) ∧ W.cell? ((a'.add (i * 3)).add 2) = some q.2 ∧ Ints W q.2 q.1.2.2 ∧ (q.1.2.2.length : Int) ≤ 9223372036854775807) (fun i hi => by
      obtain ⟨cs', h1, h2⟩ := hx i (by omega)
      rw [cSpanL] at h1
      obtain ⟨_, hlen, hc⟩ := World.cells?_some h1
      match cs', hlen with
      | [c0, c1, c2], _ =>
        obtain ⟨f, t, xs, rfl, rfl, h3, h4⟩ := span_trod h2
        have e0 := hc 0 (by omega)
        have e1 := hc 1 (by omega)
        have e2 := hc 2 (by omega)
        exact ⟨((f, t, xs), c2), by simpa [Addr.add] using e0, by simpa using e1, by simpa using e2, h3, h4⟩)
    have hat : ∀ j, j < len → ((List.range len).map fun i => (f i).1).getD j p0D = (f j).1 := fun j hj => by simp [List.getD, hj]
    have hlen : ((List.range len).map fun i => (f i).1).length = len := by simp
    refine ⟨(List.range len).map fun i => (f i).1, ?_, by rw [hlen]; omega, fun j hj => by rw [hlen] at hj; rw [hat j hj]; exact (hf' j hj).2.2.2.2⟩
    by_cases h0 : len = 0
    · subst h0
      exact Or.inl ⟨rfl, some a', _, rfl⟩
    · obtain ⟨b, off, spot⟩ := a'
      have hspot : spot = none := by simpa [Addr.add] using World.cell?_spot (hf' 0 (by omega)).1
      subst hspot
      refine Or.inr ⟨b, off, _, fun i => (f i).2, by rw [hlen], by rw [hlen]; exact hl, ?_, ?_⟩
      · have := World.block_lt_of_cell? W _ (hf' 0 (by omega)).1
        simpa [Addr.add] using this
      · intro j hj
        rw [hlen] at hj
        obtain ⟨g1, g2, g3, g4, _⟩ := hf' j hj
        rw [hat j hj]
        rw [Go.WideShapes.add_plain] at g1 g2 g3
        rw [Go.WideShapes.add_plain] at g2 g3
        exact ⟨g1, g2, g3, g4⟩
set_option maxRecDepth 100000 in
theorem spans_shut {H : Type} {enc : TypeId × Value → H} {W W' : World} {v : Value} {d : DataW H} {ps : List MemPlace} (h : DataW.Trod enc Try.prog W 0 (fun _ => true) true 60 v d ps) (hb : Below W.heap.size W W') (hlt : ∀ x ∈ ps, x.block < W.heap.size) :
    DataW.Trod enc Try.prog W' 0 (fun b => decide (b < W.heap.size)) true 60 v d ps := Below.trod laidOutP recSpansL rowSpansL h hb hlt
end Go.Proofs.Ytidhmgboknffkaa
