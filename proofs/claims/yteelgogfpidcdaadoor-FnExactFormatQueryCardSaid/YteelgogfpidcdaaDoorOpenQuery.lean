/-
  An argument that is a condition, or a query, reads as one, and reads so behind a call that changes nothing that was there.
-/
import Derived.Test.YteelgogfpidcdaaDoorOpenRows
import Derived.Test.YteelgogfpidcdaaDoorQueryVal
import Derived.Deep.Strs
namespace Go.Proofs.YteelgogfpidcdaaDoor
open Go.ChangeShapes Go.WideShapes Go.ChangeAt Go.WideMaps Go.WideElems Go.RowKit
set_option linter.unusedVariables false
theorem cCondL : Tryd.prog.cellsOf 122 = 3 := by kernel_rfl
theorem cCondsL : Tryd.prog.cellsOf 39 = 1 := by kernel_rfl
theorem cQueryL : Tryd.prog.cellsOf 41 = 4 := by kernel_rfl
theorem recCondL : Tryd.prog.readableRec 122 = true := by kernel_rfl
theorem rowCondL : 122 < Tryd.prog.types.size := of_decide_eq_true (by kernel_rfl)
theorem recQueryL : Tryd.prog.readableRec 41 = true := by kernel_rfl
theorem rowQueryL : 41 < Tryd.prog.types.size := of_decide_eq_true (by kernel_rfl)
set_option maxRecDepth 100000 in
theorem condV_open {H : Type} {enc : TypeId × Value → H} {W : World} {r : Reach} {b0 : Nat} {v : Value} {d : DataW H} {p : List MemPlace} (hval : Value.okWide Tryd.prog W r b0 122 v) (h : DataW.Trod enc Tryd.prog W 0 (fun _ => true) true 122 v d p) :
    ∃ f l hh, v = condV f l hh := by
  obtain ⟨v0, v1, v2, y0, y1, y2, n, rfl, _, _, h0, h1, h2⟩ := Go.Joins.open_agg3 Tryd.underlying122 (by kernel_rfl) cCondL hval h
  obtain ⟨f, e0, _, _⟩ := DataW.trod_int Tryd.underlying3 h0
  obtain ⟨l, e1, _, _⟩ := DataW.trod_int Tryd.underlying3 h1
  obtain ⟨hh, e2, _, _⟩ := DataW.trod_int Tryd.underlying3 h2
  simp only [List.cons.injEq, and_true] at e0 e1 e2
  subst e0 e1 e2
  exact ⟨f, l, hh, rfl⟩
theorem cond_trod {H : Type} {enc : TypeId × Value → H} {W : World} {held : Bool} {fuel : Nat} {c0 c1 c2 : Value} {x : DataW H × List MemPlace} (h : DataW.trod enc Tryd.prog W 0 (fun _ => true) held fuel 122 [c0, c1, c2] = some x) :
    ∃ f l hh, c0 = .int .i64 f ∧ c1 = .int .i64 l ∧ c2 = .int .i64 hh := by
  obtain ⟨y0, y1, y2, n, _, _, h0, h1, h2⟩ := Go.Deep.trod_struct3 Tryd.underlying122 h
  simp only [cI64] at h0 h1 h2
  obtain ⟨f, e0, _, _⟩ := DataW.trod_int Tryd.underlying3 h0
  obtain ⟨l, e1, _, _⟩ := DataW.trod_int Tryd.underlying3 h1
  obtain ⟨hh, e2, _, _⟩ := DataW.trod_int Tryd.underlying3 h2
  simp only [List.drop_zero, List.drop_succ_cons, List.take_succ_cons, List.take_zero, List.cons.injEq, and_true] at e0 e1 e2
  exact ⟨f, l, hh, e0, e1, e2⟩
set_option maxRecDepth 100000 in
theorem conds_trod {H : Type} {enc : TypeId × Value → H} {W : World} {held : Bool} {fuel : Nat} {v : Value} {x : DataW H × List MemPlace} (hf : DataW.trod enc Tryd.prog W 0 (fun _ => true) held fuel 39 [v] = some x) :
    ∃ cs, CondsR W v cs ∧ (cs.length : Int) ≤ 9223372036854775807 := by
  rcases Go.Deep.open_slice Tryd.underlying39 hf with ⟨hcs, _⟩ | ⟨a', len, cap', m, n, D, Pl, hcs, _, hl, hm, hmm, _, hx⟩
  · simp only [List.cons.injEq, and_true] at hcs
    subst hcs
    exact ⟨[], Or.inl ⟨rfl, none, 0, rfl⟩, by simp⟩
  · simp only [List.cons.injEq, and_true] at hcs
    subst hcs
    rw [if_pos rfl] at hmm
    subst hmm
    unfold maxLen at hm
    obtain ⟨f, hf'⟩ := Go.Deep.choose_lt (α := CondD) (n := len) (p := fun i q => W.cell? (a'.add (i * 3)) = some (.int .i64 q.1) ∧ W.cell? ((a'.add (i * 3)).add 1) = some (.int .i64 q.2.1) ∧ W.cell? ((a'.add (i * 3)).add 2) = some (.int .i64 q.2.2)) (fun i hi => by
      obtain ⟨cs', h1, h2⟩ := hx i (by omega)
      rw [cCondL] at h1
      obtain ⟨_, hlen, hc⟩ := World.cells?_some h1
      match cs', hlen with
      | [c0, c1, c2], _ =>
        obtain ⟨f, l, hh, rfl, rfl, rfl⟩ := cond_trod h2
        have e0 := hc 0 (by omega)
        have e1 := hc 1 (by omega)
        have e2 := hc 2 (by omega)
        exact ⟨(f, l, hh), by simpa [Addr.add] using e0, by simpa using e1, by simpa using e2⟩)
    have hat : ∀ j, j < len → ((List.range len).map f).getD j (0, 0, 0) = f j := fun j hj => by simp [List.getD, hj]
    have hlen : ((List.range len).map f).length = len := by simp
    refine ⟨(List.range len).map f, ?_, by rw [hlen]; omega⟩
    by_cases h0 : len = 0
    · subst h0
      exact Or.inl ⟨rfl, some a', _, rfl⟩
    · obtain ⟨b, off, spot⟩ := a'
      have hspot : spot = none := by simpa [Addr.add] using World.cell?_spot (hf' 0 (by omega)).1
      subst hspot
      refine Or.inr ⟨b, off, _, by rw [hlen], by rw [hlen]; exact hl, ?_, ?_⟩
      · have := World.block_lt_of_cell? W _ (hf' 0 (by omega)).1
        simpa [Addr.add] using this
      · intro j hj
        rw [hlen] at hj
        obtain ⟨g1, g2, g3⟩ := hf' j hj
        rw [hat j hj]
        rw [Go.WideShapes.add_plain] at g1 g2 g3
        rw [Go.WideShapes.add_plain] at g2 g3
        exact ⟨g1, g2, g3⟩
set_option maxRecDepth 100000 in
theorem query_trod {H : Type} {enc : TypeId × Value → H} {W : World} {held : Bool} {fuel : Nat} {c0 c1 c2 c3 : Value} {x : DataW H × List MemPlace} (h : DataW.trod enc Tryd.prog W 0 (fun _ => true) held fuel 41 [c0, c1, c2, c3] = some x) :
    ∃ id tn cs os, c0 = .int .i64 id ∧ c1 = .int .i64 tn ∧ CondsR W c2 cs ∧ Ints W c3 os ∧ (cs.length : Int) ≤ 9223372036854775807 ∧ (os.length : Int) ≤ 9223372036854775807 := by
  obtain ⟨y0, y1, y2, y3, n, _, _, h0, h1, h2, h3⟩ := Go.Joins.trod_struct4 Tryd.underlying41 h
  simp only [cI64, cInts, cCondsL] at h0 h1 h2 h3
  obtain ⟨id, e0, _, _⟩ := DataW.trod_int Tryd.underlying3 h0
  obtain ⟨tn, e1, _, _⟩ := DataW.trod_int Tryd.underlying3 h1
  obtain ⟨cs, g2, g3⟩ := conds_trod (v := c2) h2
  obtain ⟨os, g4, g5⟩ := ints_trod (v := c3) h3
  simp only [List.drop_zero, List.drop_succ_cons, List.take_succ_cons, List.take_zero, List.cons.injEq, and_true] at e0 e1
  exact ⟨id, tn, cs, os, e0, e1, g2, g4, g3, g5⟩
set_option maxRecDepth 100000 in
theorem queryV_open {H : Type} {enc : TypeId × Value → H} {W : World} {r : Reach} {b0 : Nat} {v : Value} {d : DataW H} {p : List MemPlace} (hval : Value.okWide Tryd.prog W r b0 41 v) (h : DataW.Trod enc Tryd.prog W 0 (fun _ => true) true 41 v d p) :
    ∃ id tn cv ov cs os, v = qV id tn cv ov ∧ CondsR W cv cs ∧ Ints W ov os ∧ (cs.length : Int) ≤ 9223372036854775807 ∧ (os.length : Int) ≤ 9223372036854775807 := by
  obtain ⟨v0, v1, v2, v3, y0, y1, y2, y3, n, rfl, _, _, h0, h1, h2, h3⟩ := Go.Joins.open_agg4 Tryd.underlying41 (by kernel_rfl) cQueryL hval h
  obtain ⟨id, e0, _, _⟩ := DataW.trod_int Tryd.underlying3 h0
  obtain ⟨tn, e1, _, _⟩ := DataW.trod_int Tryd.underlying3 h1
  obtain ⟨cs, g2, g3⟩ := conds_trod h2
  obtain ⟨os, g4, g5⟩ := ints_trod h3
  simp only [List.cons.injEq, and_true] at e0 e1
  subst e0 e1
  exact ⟨id, tn, v2, v3, cs, os, rfl, g2, g4, g3, g5⟩
set_option maxRecDepth 100000 in
theorem condV_shut {H : Type} {enc : TypeId × Value → H} {W W' : World} {v : Value} {d : DataW H} {ps : List MemPlace} (h : DataW.Trod enc Tryd.prog W 0 (fun _ => true) true 122 v d ps) (hb : Below W.heap.size W W') (hlt : ∀ x ∈ ps, x.block < W.heap.size) :
    DataW.Trod enc Tryd.prog W' 0 (fun b => decide (b < W.heap.size)) true 122 v d ps := Below.trod laidOutP recCondL rowCondL h hb hlt
set_option maxRecDepth 100000 in
theorem queryV_shut {H : Type} {enc : TypeId × Value → H} {W W' : World} {v : Value} {d : DataW H} {ps : List MemPlace} (h : DataW.Trod enc Tryd.prog W 0 (fun _ => true) true 41 v d ps) (hb : Below W.heap.size W W') (hlt : ∀ x ∈ ps, x.block < W.heap.size) :
    DataW.Trod enc Tryd.prog W' 0 (fun b => decide (b < W.heap.size)) true 41 v d ps := Below.trod laidOutP recQueryL rowQueryL h hb hlt
end Go.Proofs.YteelgogfpidcdaaDoor
