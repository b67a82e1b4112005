/-
  An argument that is a row, or a slice of rows, reads as rows, and reads so behind a call that changes nothing that was there.
-/
import Derived.Test.YtginjmnohnidiaaOpenInts
import Derived.Test.YtginjmnohnidiaaRowSl
import Derived.Lib.SmallJoins
import Derived.Deep.Slices
namespace Go.Proofs.Ytginjmnohnidiaa
open Go.ChangeShapes Go.WideShapes Go.ChangeAt Go.WideMaps Go.WideElems Go.RowKit
set_option linter.unusedVariables false
theorem cInts : Try.prog.cellsOf 31 = 1 := by kernel_rfl
theorem cRowL : Try.prog.cellsOf 74 = 2 := by kernel_rfl
theorem recRowL : Try.prog.readableRec 74 = true := by kernel_rfl
theorem rowRowL : 74 < Try.prog.types.size := of_decide_eq_true (by kernel_rfl)
theorem recRowsL : Try.prog.readableRec 22 = true := by kernel_rfl
theorem rowRowsL : 22 < Try.prog.types.size := of_decide_eq_true (by kernel_rfl)
set_option maxRecDepth 100000 in
theorem ints_trod {H : Type} {enc : TypeId × Value → H} {W : World} {held : Bool} {fuel : Nat} {v : Value} {x : DataW H × List MemPlace} (h : DataW.trod enc Try.prog W 0 (fun _ => true) held fuel 31 [v] = some x) :
    ∃ xs, Ints W v xs ∧ (xs.length : Int) ≤ 9223372036854775807 := by
  rcases open_ints Try.underlying31 Try.underlying3 cI64 h with ⟨hcs, _⟩ | ⟨a', len', cap', zs, hcs, _, hl, hm, hz, _, hcell, hwz⟩
  · simp only [List.cons.injEq, and_true] at hcs
    subst hcs
    exact ⟨[], Or.inl ⟨rfl, none, 0, rfl⟩, by simp⟩
  · simp only [List.cons.injEq, and_true] at hcs
    subst hcs
    rw [if_pos rfl] at hz
    unfold maxLen at hm
    have hlen : (zs.take len').length = len' := by rw [List.length_take]; omega
    refine ⟨zs.take len', ?_, by rw [hlen]; omega⟩
    by_cases h0 : len' = 0
    · subst h0
      exact Or.inl ⟨rfl, some a', cap', rfl⟩
    · obtain ⟨b, off, rfl, hc⟩ := ints_at hcell (by omega)
      refine Or.inr ⟨b, off, cap', by rw [hlen], by omega, ?_, ?_⟩
      · exact World.block_lt_of_cell? W _ (hc 0 (by omega))
      · intro j hj
        rw [hlen] at hj
        rw [hc j (by omega)]
        simp [List.getD, hj]
theorem row_trod {H : Type} {enc : TypeId × Value → H} {W : World} {held : Bool} {fuel : Nat} {c0 c1 : Value} {x : DataW H × List MemPlace} (h : DataW.trod enc Try.prog W 0 (fun _ => true) held fuel 74 [c0, c1] = some x) :
    ∃ id xs, c0 = .int .i64 id ∧ Ints W c1 xs ∧ (xs.length : Int) ≤ 9223372036854775807 := by
  obtain ⟨y0, y1, n, _, _, h0, h1⟩ := trod_struct2 Try.underlying74 h
  simp only [cI64, cInts] at h0 h1
  obtain ⟨id, e, _, _⟩ := DataW.trod_int Try.underlying3 h0
  obtain ⟨xs, h2, h3⟩ := ints_trod (v := c1) h1
  simp only [List.drop_zero, List.take_succ_cons, List.take_zero, List.cons.injEq, and_true] at e
  exact ⟨id, xs, e, h2, h3⟩
set_option maxRecDepth 100000 in
theorem rowV_open {H : Type} {enc : TypeId × Value → H} {W : World} {r : Reach} {b0 : Nat} {v : Value} {d : DataW H} {p : List MemPlace} (hval : Value.okWide Try.prog W r b0 74 v) (h : DataW.Trod enc Try.prog W 0 (fun _ => true) true 74 v d p) :
    ∃ id vv xs, v = .agg #[.int .i64 id, vv] ∧ Ints W vv xs ∧ (xs.length : Int) ≤ 9223372036854775807 := by
  obtain ⟨v0, v1, y0, y1, n, rfl, _, _, h0, h1⟩ := Go.Joins.open_agg2 Try.underlying74 (by kernel_rfl) cRowL hval h
  obtain ⟨id, e, _, _⟩ := DataW.trod_int Try.underlying3 h0
  obtain ⟨xs, h2, h3⟩ := ints_trod h1
  simp only [List.cons.injEq, and_true] at e
  subst e
  exact ⟨id, v1, xs, rfl, h2, h3⟩
set_option maxRecDepth 100000 in
theorem rows_open {H : Type} {enc : TypeId × Value → H} {W : World} {r : Reach} {b0 : Nat} {v : Value} {d : DataW H} {p : List MemPlace} (hval : Value.okWide Try.prog W r b0 22 v) (h : DataW.Trod enc Try.prog W 0 (fun _ => true) true 22 v d p) :
    ∃ rs, RowsR W v rs ∧ (rs.length : Int) ≤ 9223372036854775807 ∧ ∀ j, j < rs.length → ((rs.getD j (0, [])).2.length : Int) ≤ 9223372036854775807 := by
  obtain ⟨a, len, cap, rfl⟩ := okWide_slice Try.underlying22 hval
  obtain ⟨fuel, hf⟩ := h
  rcases Go.Deep.open_slice Try.underlying22 hf with ⟨hcs, _⟩ | ⟨a', len', cap', m, n, D, Pl, hcs, _, hl, hm, hmm, _, hx⟩
  · simp [Value.cells] at hcs
    obtain ⟨rfl, rfl, rfl⟩ := hcs
    exact ⟨[], Or.inl ⟨rfl, none, 0, rfl⟩, by simp, fun j hj => by simp at hj⟩
  · simp [Value.cells] at hcs
    obtain ⟨rfl, rfl, rfl⟩ := hcs
    rw [if_pos rfl] at hmm
    subst hmm
    unfold maxLen at hm
    obtain ⟨f, hf'⟩ := Go.Deep.choose_lt (α := RowD × Value) (n := len) (p := fun i q => W.cell? (a'.add (i * 2)) = some (.int .i64 q.1.1) ∧ W.cell? ((a'.add (i * 2)).add 1) = some q.2 ∧ Ints W q.2 q.1.2 ∧ (q.1.2.length : Int) ≤ 9223372036854775807) (fun i hi => by
      obtain ⟨cs', h1, h2⟩ := hx i (by omega)
      rw [cRowL] at h1
      obtain ⟨_, hlen, hc⟩ := World.cells?_some h1
      match cs', hlen with
      | [c0, c1], _ =>
        obtain ⟨id, xs, rfl, h3, h4⟩ := row_trod h2
        have e0 := hc 0 (by omega)
        have e1 := hc 1 (by omega)
        exact ⟨((id, xs), c1), by simpa [Addr.add] using e0, by simpa using e1, h3, h4⟩)
    have hat : ∀ j, j < len → ((List.range len).map fun i => (f i).1).getD j (0, []) = (f j).1 := fun j hj => by simp [List.getD, hj]
    have hlen : ((List.range len).map fun i => (f i).1).length = len := by simp
    refine ⟨(List.range len).map fun i => (f i).1, ?_, by rw [hlen]; omega, fun j hj => by rw [hlen] at hj; rw [hat j hj]; exact (hf' j hj).2.2.2⟩
    by_cases h0 : len = 0
    · subst h0
      exact Or.inl ⟨rfl, some a', _, rfl⟩
    · obtain ⟨b, off, spot⟩ := a'
      have hspot : spot = none := by simpa [Addr.add] using World.cell?_spot (hf' 0 (by omega)).1
      subst hspot
      refine Or.inr ⟨b, off, _, fun i => (f i).2, by rw [hlen], by rw [hlen]; exact hl, ?_, ?_⟩
      · have := World.block_lt_of_cell? W _ (hf' 0 (by omega)).1
        simpa [Addr.add] using this
      · intro j hj
        rw [hlen] at hj
        obtain ⟨g1, g2, g3, _⟩ := hf' j hj
        rw [hat j hj]
        rw [Go.WideShapes.add_plain] at g1 g2
        rw [Go.WideShapes.add_plain] at g2
        exact ⟨g1, g2, g3⟩
set_option maxRecDepth 100000 in
theorem rowV_shut {H : Type} {enc : TypeId × Value → H} {W W' : World} {v : Value} {d : DataW H} {ps : List MemPlace} (h : DataW.Trod enc Try.prog W 0 (fun _ => true) true 74 v d ps) (hb : Below W.heap.size W W') (hlt : ∀ x ∈ ps, x.block < W.heap.size) :
    DataW.Trod enc Try.prog W' 0 (fun b => decide (b < W.heap.size)) true 74 v d ps := Below.trod laidOutP recRowL rowRowL h hb hlt
set_option maxRecDepth 100000 in
theorem rows_shut {H : Type} {enc : TypeId × Value → H} {W W' : World} {v : Value} {d : DataW H} {ps : List MemPlace} (h : DataW.Trod enc Try.prog W 0 (fun _ => true) true 22 v d ps) (hb : Below W.heap.size W W') (hlt : ∀ x ∈ ps, x.block < W.heap.size) :
    DataW.Trod enc Try.prog W' 0 (fun b => decide (b < W.heap.size)) true 22 v d ps := Below.trod laidOutP recRowsL rowRowsL h hb hlt
end Go.Proofs.Ytginjmnohnidiaa
