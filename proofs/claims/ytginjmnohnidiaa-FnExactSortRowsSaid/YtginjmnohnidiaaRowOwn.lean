/-
  Slices of rows that the call itself made: each row's values lie in a block of their own; store, read, copy of a slice that came in.
-/
import Derived.Test.YtginjmnohnidiaaRowSl
namespace Go.Proofs.Ytginjmnohnidiaa
open Go.RowKit
set_option linter.unusedVariables false
theorem Try.infoRow : (Try.prog.info? 76).map (fun i => (i.zero, i.size)) = some (some (.agg #[.int .i64 0, .slice none 0 0]), 2) := by kernel_rfl
theorem row_bytes : (Try.prog.info? 76).map (fun i => i.bytes) = some 32 := by kernel_rfl
/-- The slice v owns the rows rs, in blocks from B on, each block once. -/
def OwnsR (w : World) (B : Nat) (v : Value) (rs : List RowD) : Prop :=
  ∃ (cs : List Value) (vs : Nat → Value), w.ownsRow B 76 2 v rs.length cs ∧
    (∀ j, j < rs.length → cs[j * 2]? = some (.int .i64 (rs.getD j (0, [])).1) ∧ cs[j * 2 + 1]? = some (vs j) ∧ OwnsN w B (vs j) (rs.getD j (0, [])).2 ∧ ∀ b, (vs j).ownBlock = some b → v.ownBlock ≠ some b) ∧
    ∀ i j, i < rs.length → j < rs.length → i ≠ j → ∀ b, (vs i).ownBlock = some b → (vs j).ownBlock ≠ some b
theorem ownsR_len {w : World} {B : Nat} {v : Value} {rs : List RowD} (h : OwnsR w B v rs) : ∃ a cap, v = .slice a rs.length cap := by
  obtain ⟨cs, vs, h1, _⟩ := h
  rcases h1.2 with ⟨rfl, h0⟩ | ⟨g, cap, cur, rfl, _⟩
  · exact ⟨none, 0, by rw [h0]⟩
  · exact ⟨_, cap, rfl⟩
theorem ownsR_rows {w : World} {B : Nat} {v : Value} {rs : List RowD} (h : OwnsR w B v rs) : RowsR w v rs := by
  obtain ⟨cs, vs, h1, h2, _⟩ := h
  have h1' := h1
  rcases h1.2 with ⟨rfl, h0⟩ | ⟨g, cap, cur, rfl, hb, hg, hn, hm, hcs, htake⟩
  · exact Or.inl ⟨List.eq_nil_of_length_eq_zero h0, none, 0, rfl⟩
  · refine Or.inr ⟨g, 0, cap, vs, rfl, hn, (Array.getElem?_eq_some_iff.1 hg).1, fun j hj => ?_⟩
    obtain ⟨g1, g2, g3, _⟩ := h2 j hj
    refine ⟨?_, ?_, ownsN_ints g3⟩
    · rw [Nat.zero_add, World.ownsRow.cellAt h1' (j * 2) (by omega)]; exact g1
    · rw [Nat.zero_add, World.ownsRow.cellAt h1' (j * 2 + 1) (by omega)]; exact g2
theorem ownsRow_below {w w' : World} {B : Nat} {e : TypeId} {size : Nat} {v : Value} {n : Nat} {xs : List Value} (h : w.ownsRow B e size v n xs) (hb : Below w.heap.size w w') : w'.ownsRow B e size v n xs := by
  refine ⟨h.1, ?_⟩
  rcases h.2 with hn | ⟨g, cap, cur, rfl, hb', hg, rest⟩
  · exact .inl hn
  · refine .inr ⟨g, cap, cur, rfl, hb', ?_, rest⟩
    rw [hb.block g (Array.getElem?_eq_some_iff.1 hg).1]
    exact hg
theorem ownsR_below {w w' : World} {B : Nat} {v : Value} {rs : List RowD} (h : OwnsR w B v rs) (hb : Below w.heap.size w w') : OwnsR w' B v rs := by
  obtain ⟨cs, vs, h1, h2, h3⟩ := h
  exact ⟨cs, vs, ownsRow_below h1 hb, fun j hj => ⟨(h2 j hj).1, (h2 j hj).2.1, ownsN_below (h2 j hj).2.2.1 hb, (h2 j hj).2.2.2⟩, h3⟩
theorem ownsR_up {w : World} {B C : Nat} {v : Value} {rs : List RowD} (h : OwnsR w C v rs) (hb : B ≤ C) : OwnsR w B v rs := by
  obtain ⟨cs, vs, h1, h2, h3⟩ := h
  refine ⟨cs, vs, ⟨h1.1, ?_⟩, fun j hj => ⟨(h2 j hj).1, (h2 j hj).2.1, ownsN_up (h2 j hj).2.2.1 hb, (h2 j hj).2.2.2⟩, h3⟩
  rcases h1.2 with hn | ⟨g, cap, cur, e, hb', rest⟩
  · exact .inl hn
  · exact .inr ⟨g, cap, cur, e, Nat.le_trans hb hb', rest⟩
/-- A row whose values were made since w0 is stored at place k. -/
theorem ownsR_store {w0 w1 : World} {B g n cap : Nat} {rs : List RowD} (h : OwnsR w0 B (.slice (some ⟨g, 0, none⟩) n cap) rs) (hb : Below w0.heap.size w0 w1) (hB : B ≤ w0.heap.size) {k : Nat} (hk : k < rs.length) (r : RowD) {vv : Value} (hv : OwnsN w1 w0.heap.size vv r.2) :
    OwnsR ((w1.setCell ⟨g, k * 2, none⟩ (.int .i64 r.1)).setCell ⟨g, k * 2 + 1, none⟩ vv) B (.slice (some ⟨g, 0, none⟩) n cap) (rs.set k r) := by
  obtain ⟨cs, vs, h1, h2, h3⟩ := h
  have hgl : g < w0.heap.size := (h1.lt g rfl).2
  have hn : n = rs.length := by
    rcases h1.2 with ⟨h', _⟩ | ⟨_, _, _, h', _⟩
    · simp at h'
    · simp only [Value.slice.injEq] at h'; exact h'.2.1
  subst hn
  have k1 := ownsRow_below h1 hb
  have s1 := (World.ownsRow.stored k1 (k * 2) (.int .i64 r.1)).1
  have s2 := (World.ownsRow.stored s1 (k * 2 + 1) vv).1
  have hcl : cs.length = rs.length * 2 := h1.1
  have hlow : ∀ (u : Value) (xs : List Int) (C : Nat), OwnsN w1 C u xs → (∀ b, u.ownBlock = some b → b ≠ g) → OwnsN ((w1.setCell ⟨g, k * 2, none⟩ (.int .i64 r.1)).setCell ⟨g, k * 2 + 1, none⟩ vv) C u xs := by
    intro u xs C hu hne
    have hp : u.ownBlock = none ∨ u.ownBlock ≠ some g := by
      cases e : u.ownBlock with
      | none => exact Or.inl rfl
      | some b => exact Or.inr (fun q => hne b e (Option.some.inj q))
    exact (World.ownsRow.kept hu (grow_set w1 g (k * 2) _) hp).kept (grow_set _ g (k * 2 + 1) _) hp
  refine ⟨(cs.set (k * 2) (.int .i64 r.1)).set (k * 2 + 1) vv, fun j => if j = k then vv else vs j, ?_, ?_, ?_⟩
  · rw [List.length_set]; exact s2
  · intro j hj
    rw [List.length_set] at hj
    by_cases e : j = k
    · subst e
      have er : (rs.set j r).getD j (0, []) = r := by simp [List.getD, hj]
      rw [er]
      simp only [if_true]
      refine ⟨?_, ?_, ?_, ?_⟩
      · rw [List.getElem?_set_ne (by omega), List.getElem?_set_self (by omega)]
      · rw [List.getElem?_set_self (by rw [List.length_set]; omega)]
      · exact ownsN_up (hlow vv r.2 _ hv (fun b eb => by have := (hv.lt b eb).1; omega)) hB
      · intro b eb
        have := (hv.lt b eb).1
        simp [Value.ownBlock]; omega
    · obtain ⟨g1, g2, g3, g4⟩ := h2 j hj
      have er : (rs.set k r).getD j (0, []) = rs.getD j (0, []) := by simp [List.getD, List.getElem?_set_ne (Ne.symm e)]
      rw [er]
      simp only [if_neg e]
      refine ⟨?_, ?_, ?_, g4⟩
      · rw [List.getElem?_set_ne (by omega), List.getElem?_set_ne (by omega)]; exact g1
      · rw [List.getElem?_set_ne (by omega), List.getElem?_set_ne (by omega)]; exact g2
      · exact hlow _ _ _ (ownsN_below g3 hb) (fun b eb q => g4 b eb (by rw [q]; rfl))
  · intro i j hi hj hij b hbi
    rw [List.length_set] at hi hj
    by_cases ei : i = k
    · simp only [if_pos ei] at hbi
      have h5 := (hv.lt b hbi).1
      have ej : j ≠ k := by omega
      simp only [if_neg ej]
      intro q
      have := ((h2 j hj).2.2.1.lt b q).2
      omega
    · simp only [if_neg ei] at hbi
      by_cases ej : j = k
      · simp only [if_pos ej]
        intro q
        have h5 := (hv.lt b q).1
        have := ((h2 i hi).2.2.1.lt b hbi).2
        omega
      · simp only [if_neg ej]
        exact h3 i j hi hj hij b hbi
theorem madeRow_at (n j : Nat) (hj : j < n) : (madeCells #[Value.int .i64 0, Value.slice none 0 0] (n * 2)).toList[j * 2]? = some (.int .i64 0) ∧ (madeCells #[Value.int .i64 0, Value.slice none 0 0] (n * 2)).toList[j * 2 + 1]? = some (.slice none 0 0) := by
  have e1 : (j * 2) % 2 = 0 := by omega
  have e2 : (j * 2 + 1) % 2 = 1 := by omega
  constructor
  · rw [Array.getElem?_toList]
    unfold madeCells
    rw [Array.getElem?_map, Array.getElem?_range]
    simp [e1, show j * 2 < n * 2 by omega]
  · rw [Array.getElem?_toList]
    unfold madeCells
    rw [Array.getElem?_map, Array.getElem?_range]
    simp [e2, show j * 2 + 1 < n * 2 by omega]
theorem ownsR_made {w : World} {B g n : Nat} (h : w.ownsRow B 76 2 (.slice (some ⟨g, 0, none⟩) n n) n (madeCells #[Value.int .i64 0, Value.slice none 0 0] (n * 2)).toList) : OwnsR w B (.slice (some ⟨g, 0, none⟩) n n) (List.replicate n (0, [])) := by
  refine ⟨_, fun _ => .slice none 0 0, by rw [List.length_replicate]; exact h, fun j hj => ?_, fun i j _ _ _ b hb => by simp [Value.ownBlock] at hb⟩
  rw [List.length_replicate] at hj
  have er : (List.replicate n ((0, []) : RowD)).getD j (0, []) = (0, []) := by simp [List.getD, hj]
  rw [er]
  obtain ⟨m1, m2⟩ := madeRow_at n j hj
  exact ⟨m1, m2, ownsN_nil w B, fun b hb => by simp [Value.ownBlock] at hb⟩
end Go.Proofs.Ytginjmnohnidiaa
