/-
  Slices of spans that the call itself made: each span's set lies in a block of its own; store, read, copy of a slice that came in.
-/
import Derived.Test.YtidhmgboknffkaaSpanSl
import Derived.Test.YtidhmgboknffkaaRowOwn
namespace Go.Proofs.Ytidhmgboknffkaa
open Go.RowKit
set_option linter.unusedVariables false
theorem Try.infoSpan : (Try.prog.info? 100).map (fun i => (i.zero, i.size)) = some (some (.agg #[.int .i64 0, .int .i64 0, .slice none 0 0]), 3) := by kernel_rfl
theorem span_bytes : (Try.prog.info? 100).map (fun i => i.bytes) = some 40 := by kernel_rfl
/-- The slice v owns the spans rs, in blocks from B on, each block once. -/
def OwnsP (w : World) (B : Nat) (v : Value) (rs : List SpanD) : Prop :=
  ∃ (cs : List Value) (vs : Nat → Value), w.ownsRow B 100 3 v rs.length cs ∧
    (∀ j, j < rs.length → cs[j * 3]? = some (.int .i64 (rs.getD j p0D).1) ∧ cs[j * 3 + 1]? = some (.int .i64 (rs.getD j p0D).2.1) ∧ cs[j * 3 + 2]? = some (vs j) ∧ OwnsN w B (vs j) (rs.getD j p0D).2.2 ∧ ∀ b, (vs j).ownBlock = some b → v.ownBlock ≠ some b) ∧
    ∀ i j, i < rs.length → j < rs.length → i ≠ j → ∀ b, (vs i).ownBlock = some b → (vs j).ownBlock ≠ some b
theorem ownsP_len {w : World} {B : Nat} {v : Value} {rs : List SpanD} (h : OwnsP w B v rs) : ∃ a cap, v = .slice a rs.length cap := by
  obtain ⟨cs, vs, h1, _⟩ := h
  rcases h1.2 with ⟨rfl, h0⟩ | ⟨g, cap, cur, rfl, _⟩
  · exact ⟨none, 0, by rw [h0]⟩
  · exact ⟨_, cap, rfl⟩
theorem ownsP_spans {w : World} {B : Nat} {v : Value} {rs : List SpanD} (h : OwnsP w B v rs) : SpansR w v rs := by
  obtain ⟨cs, vs, h1, h2, _⟩ := h
  have h1' := h1
  rcases h1.2 with ⟨rfl, h0⟩ | ⟨g, cap, cur, rfl, hb, hg, hn, hm, hcs, htake⟩
  · exact Or.inl ⟨List.eq_nil_of_length_eq_zero h0, none, 0, rfl⟩
  · refine Or.inr ⟨g, 0, cap, vs, rfl, hn, (Array.getElem?_eq_some_iff.1 hg).1, fun j hj => ?_⟩
    obtain ⟨g1, g2, g3, g4, _⟩ := h2 j hj
    refine ⟨?_, ?_, ?_, ownsN_ints g4⟩
    · rw [Nat.zero_add, World.ownsRow.cellAt h1' (j * 3) (by omega)]; exact g1
    · rw [Nat.zero_add, World.ownsRow.cellAt h1' (j * 3 + 1) (by omega)]; exact g2
    · rw [Nat.zero_add, World.ownsRow.cellAt h1' (j * 3 + 2) (by omega)]; exact g3
theorem ownsP_below {w w' : World} {B : Nat} {v : Value} {rs : List SpanD} (h : OwnsP w B v rs) (hb : Below w.heap.size w w') : OwnsP w' B v rs := by
  obtain ⟨cs, vs, h1, h2, h3⟩ := h
  exact ⟨cs, vs, ownsRow_below h1 hb, fun j hj => ⟨(h2 j hj).1, (h2 j hj).2.1, (h2 j hj).2.2.1, ownsN_below (h2 j hj).2.2.2.1 hb, (h2 j hj).2.2.2.2⟩, h3⟩
theorem ownsP_up {w : World} {B C : Nat} {v : Value} {rs : List SpanD} (h : OwnsP w C v rs) (hb : B ≤ C) : OwnsP w B v rs := by
  obtain ⟨cs, vs, h1, h2, h3⟩ := h
  refine ⟨cs, vs, ⟨h1.1, ?_⟩, fun j hj => ⟨(h2 j hj).1, (h2 j hj).2.1, (h2 j hj).2.2.1, ownsN_up (h2 j hj).2.2.2.1 hb, (h2 j hj).2.2.2.2⟩, h3⟩
  rcases h1.2 with hn | ⟨g, cap, cur, e, hb', rest⟩
  · exact .inl hn
  · exact .inr ⟨g, cap, cur, e, Nat.le_trans hb hb', rest⟩
/-- A span whose set was made since w0 is stored at place k. -/
theorem ownsP_store {w0 w1 : World} {B g n cap : Nat} {rs : List SpanD} (h : OwnsP w0 B (.slice (some ⟨g, 0, none⟩) n cap) rs) (hb : Below w0.heap.size w0 w1) (hB : B ≤ w0.heap.size) {k : Nat} (hk : k < rs.length) (r : SpanD) {vv : Value} (hv : OwnsN w1 w0.heap.size vv r.2.2) :
    OwnsP (((w1.setCell ⟨g, k * 3, none⟩ (.int .i64 r.1)).setCell ⟨g, k * 3 + 1, none⟩ (.int .i64 r.2.1)).setCell ⟨g, k * 3 + 2, none⟩ vv) B (.slice (some ⟨g, 0, none⟩) n cap) (rs.set k r) := by
  obtain ⟨cs, vs, h1, h2, h3⟩ := h
  have hgl : g < w0.heap.size := (h1.lt g rfl).2
  have hn : n = rs.length := by
    rcases h1.2 with ⟨h', _⟩ | ⟨_, _, _, h', _⟩
    · simp at h'
    · simp only [Value.slice.injEq] at h'; exact h'.2.1
  subst hn
  have k1 := ownsRow_below h1 hb
  have s1 := (World.ownsRow.stored k1 (k * 3) (.int .i64 r.1)).1
  have s2 := (World.ownsRow.stored s1 (k * 3 + 1) (.int .i64 r.2.1)).1
  have s3 := (World.ownsRow.stored s2 (k * 3 + 2) vv).1
  have hcl : cs.length = rs.length * 3 := h1.1
  have hlow : ∀ (u : Value) (xs : List Int) (C : Nat), OwnsN w1 C u xs → (∀ b, u.ownBlock = some b → b ≠ g) → OwnsN (((w1.setCell ⟨g, k * 3, none⟩ (.int .i64 r.1)).setCell ⟨g, k * 3 + 1, none⟩ (.int .i64 r.2.1)).setCell ⟨g, k * 3 + 2, none⟩ vv) C u xs := by
    intro u xs C hu hne
    have hp : u.ownBlock = none ∨ u.ownBlock ≠ some g := by
      cases e : u.ownBlock with
      | none => exact Or.inl rfl
      | some b => exact Or.inr (fun q => hne b e (Option.some.inj q))
    exact ((World.ownsRow.kept hu (grow_set w1 g (k * 3) _) hp).kept (grow_set _ g (k * 3 + 1) _) hp).kept (grow_set _ g (k * 3 + 2) _) hp
  refine ⟨((cs.set (k * 3) (.int .i64 r.1)).set (k * 3 + 1) (.int .i64 r.2.1)).set (k * 3 + 2) vv, fun j => if j = k then vv else vs j, ?_, ?_, ?_⟩
  · rw [List.length_set]; exact s3
  · intro j hj
    rw [List.length_set] at hj
    by_cases e : j = k
    · subst e
      have er : (rs.set j r).getD j p0D = r := by simp [List.getD, hj]
      rw [er]
      simp only [if_true]
      refine ⟨?_, ?_, ?_, ?_, ?_⟩
      · rw [List.getElem?_set_ne (by omega), List.getElem?_set_ne (by omega), List.getElem?_set_self (by omega)]
      · rw [List.getElem?_set_ne (by omega), List.getElem?_set_self (by rw [List.length_set]; omega)]
      · rw [List.getElem?_set_self (by rw [List.length_set, List.length_set]; omega)]
      · exact ownsN_up (hlow vv r.2.2 _ hv (fun b eb => by have := (hv.lt b eb).1; omega)) hB
      · intro b eb
        have := (hv.lt b eb).1
        simp [Value.ownBlock]; omega
    · obtain ⟨g1, g2, g3, g4, g5⟩ := h2 j hj
      have er : (rs.set k r).getD j p0D = rs.getD j p0D := by simp [List.getD, List.getElem?_set_ne (Ne.symm e)]
      rw [er]
      simp only [if_neg e]
      refine ⟨?_, ?_, ?_, ?_, g5⟩
      · rw [List.getElem?_set_ne (by omega), List.getElem?_set_ne (by omega), List.getElem?_set_ne (by omega)]; exact g1
      · rw [List.getElem?_set_ne (by omega), List.getElem?_set_ne (by omega), List.getElem?_set_ne (by omega)]; exact g2
      · rw [List.getElem?_set_ne (by omega), List.getElem?_set_ne (by omega), List.getElem?_set_ne (by omega)]; exact g3
      · exact hlow _ _ _ (ownsN_below g4 hb) (fun b eb q => g5 b eb (by rw [q]; rfl))
  · intro i j hi hj hij b hbi
    rw [List.length_set] at hi hj
    by_cases ei : i = k
    · simp only [if_pos ei] at hbi
      have h5 := (hv.lt b hbi).1
      have ej : j ≠ k := by omega
      simp only [if_neg ej]
      intro q
      have := ((h2 j hj).2.2.2.1.lt b q).2
      omega
    · simp only [if_neg ei] at hbi
      by_cases ej : j = k
      · simp only [if_pos ej]
        intro q
        have h5 := (hv.lt b q).1
        have := ((h2 i hi).2.2.2.1.lt b hbi).2
        omega
      · simp only [if_neg ej]
        exact h3 i j hi hj hij b hbi
theorem madeSpan_at (n j : Nat) (hj : j < n) : (madeCells #[Value.int .i64 0, Value.int .i64 0, Value.slice none 0 0] (n * 3)).toList[j * 3]? = some (.int .i64 0) ∧ (madeCells #[Value.int .i64 0, Value.int .i64 0, Value.slice none 0 0] (n * 3)).toList[j * 3 + 1]? = some (.int .i64 0) ∧ (madeCells #[Value.int .i64 0, Value.int .i64 0, Value.slice none 0 0] (n * 3)).toList[j * 3 + 2]? = some (.slice none 0 0) := by
  have e0 : (j * 3) % 3 = 0 := by omega
  have e1 : (j * 3 + 1) % 3 = 1 := by omega
  have e2 : (j * 3 + 2) % 3 = 2 := by omega
  refine ⟨?_, ?_, ?_⟩
  · rw [Array.getElem?_toList]
    unfold madeCells
    rw [Array.getElem?_map, Array.getElem?_range]
    simp [e0, show j * 3 < n * 3 by omega]
  · rw [Array.getElem?_toList]
    unfold madeCells
    rw [Array.getElem?_map, Array.getElem?_range]
    simp [e1, show j * 3 + 1 < n * 3 by omega]
  · rw [Array.getElem?_toList]
    unfold madeCells
    rw [Array.getElem?_map, Array.getElem?_range]
    simp [e2, show j * 3 + 2 < n * 3 by omega]
theorem ownsP_made {w : World} {B g n : Nat} (h : w.ownsRow B 100 3 (.slice (some ⟨g, 0, none⟩) n n) n (madeCells #[Value.int .i64 0, Value.int .i64 0, Value.slice none 0 0] (n * 3)).toList) : OwnsP w B (.slice (some ⟨g, 0, none⟩) n n) (List.replicate n p0D) := by
  refine ⟨_, fun _ => .slice none 0 0, by rw [List.length_replicate]; exact h, fun j hj => ?_, fun i j _ _ _ b hb => by simp [Value.ownBlock] at hb⟩
  rw [List.length_replicate] at hj
  have er : (List.replicate n p0D).getD j p0D = p0D := by simp [List.getD, hj]
  rw [er]
  obtain ⟨m1, m2, m3⟩ := madeSpan_at n j hj
  exact ⟨m1, m2, m3, ownsN_nil w B, fun b hb => by simp [Value.ownBlock] at hb⟩
end Go.Proofs.Ytidhmgboknffkaa
