/-
  Marking the spans of a slice that the call made: the mathematics, and one span's step.
-/
import Derived.Test.YtidhmgboknffkaaSpanEq
import Derived.Test.YtidhmgboknffkaaRowMark
namespace Go.Proofs.Ytidhmgboknffkaa
open Go.RowKit
set_option linter.unusedVariables false
/-- The slice v owns the spans rs, the set of span j in the slice vs j. -/
def OwnsPV (w : World) (B : Nat) (v : Value) (rs : List SpanD) (vs : Nat → Value) : Prop :=
  ∃ (cs : List Value), w.ownsRow B 100 3 v rs.length cs ∧
    (∀ j, j < rs.length → cs[j * 3]? = some (.int .i64 (rs.getD j p0D).1) ∧ cs[j * 3 + 1]? = some (.int .i64 (rs.getD j p0D).2.1) ∧ cs[j * 3 + 2]? = some (vs j) ∧ OwnsN w B (vs j) (rs.getD j p0D).2.2 ∧ ∀ b, (vs j).ownBlock = some b → v.ownBlock ≠ some b) ∧
    ∀ i j, i < rs.length → j < rs.length → i ≠ j → ∀ b, (vs i).ownBlock = some b → (vs j).ownBlock ≠ some b
theorem ownsPV_of {w : World} {B : Nat} {v : Value} {rs : List SpanD} (h : OwnsP w B v rs) : ∃ vs, OwnsPV w B v rs vs := by
  obtain ⟨cs, vs, h⟩ := h
  exact ⟨vs, cs, h⟩
theorem ownsP_of {w : World} {B : Nat} {v : Value} {rs : List SpanD} {vs : Nat → Value} (h : OwnsPV w B v rs vs) : OwnsP w B v rs := by
  obtain ⟨cs, h⟩ := h
  exact ⟨cs, vs, h⟩
/-- What is owned beside the range stays. -/
theorem ownsP_only {B hi C : Nat} {w w' : World} {v : Value} {rs : List SpanD} (h : OwnsP w C v rs) (k : Only B hi w w') (hc : hi ≤ C) : OwnsP w' C v rs := by
  obtain ⟨cs, vs, h1, h2, h3⟩ := h
  have hk : ∀ {e : TypeId} {size : Nat} {u : Value} {n : Nat} {xs : List Value}, w.ownsRow C e size u n xs → w'.ownsRow C e size u n xs := by
    intro e size u n xs hu
    refine ⟨hu.1, ?_⟩
    rcases hu.2 with hn | ⟨g, cap, cur, rfl, hb', hg, rest⟩
    · exact .inl hn
    · refine .inr ⟨g, cap, cur, rfl, hb', ?_, rest⟩
      rw [k.block g (Array.getElem?_eq_some_iff.1 hg).1 (Or.inr (by omega))]
      exact hg
  exact ⟨cs, vs, hk h1, fun j hj => ⟨(h2 j hj).1, (h2 j hj).2.1, (h2 j hj).2.2.1, hk (h2 j hj).2.2.2.1, (h2 j hj).2.2.2.2⟩, h3⟩
/-- What reads in blocks below B reads so. -/
theorem spansR_only {B hi : Nat} {W w w' : World} {v : Value} {rs : List SpanD} (h : SpansR W v rs) (hb : Below W.heap.size W w) (k : Only B hi w w') (hB : W.heap.size ≤ B) : SpansR w' v rs :=
  spansR_below h (only_below hb k hB hb.size)
/-- The mark of span j. -/
def pkAt (rs : List SpanD) (k : Int) (j : Nat) : Int := k + 2 * (j : Int) + ((((rs.take j).map fun r => r.2.2.length).sum : Nat) : Int)
def mSpan (rs : List SpanD) (k : Int) (j : Nat) : SpanD := (pkAt rs k j, pkAt rs k j + 1, marks (pkAt rs k j + 1 + 1) (rs.getD j p0D).2.2.length)
def pmarkTo (rs : List SpanD) (k : Int) (j : Nat) : List SpanD := (List.range j).map (mSpan rs k) ++ rs.drop j
def mSpans (rs : List SpanD) (k : Int) : List SpanD := (List.range rs.length).map (mSpan rs k)
theorem pkAt_zero (rs : List SpanD) (k : Int) : pkAt rs k 0 = k := by simp [pkAt]
theorem pkAt_step {rs : List SpanD} {k : Int} {j : Nat} (hj : j < rs.length) : pkAt rs k (j + 1) = pkAt rs k j + 2 + ((rs.getD j p0D).2.2.length : Int) := by
  unfold pkAt
  have e : rs.getD j p0D = rs[j] := by simp [List.getD, hj]
  rw [e, List.take_succ_eq_append_getElem hj, List.map_append, List.sum_append]
  simp; omega
theorem pkAt_range {rs : List SpanD} {k : Int} {j : Nat} (hs : zpL rs ≤ 1048576) (hj : j ≤ rs.length) : k ≤ pkAt rs k j ∧ pkAt rs k j ≤ k + 2097152 := by
  have h1 := zpTo_le hj
  unfold zpTo at h1
  unfold pkAt
  omega
theorem pmarkTo_len {rs : List SpanD} {k : Int} {j : Nat} (hj : j ≤ rs.length) : (pmarkTo rs k j).length = rs.length := by simp [pmarkTo]; omega
theorem pmarkTo_at {rs : List SpanD} {k : Int} {j : Nat} (hj : j < rs.length) : (pmarkTo rs k j).getD j p0D = rs.getD j p0D := by
  unfold pmarkTo
  simp only [List.getD]
  rw [List.getElem?_append_right (by simp), List.getElem?_drop]
  simp
theorem pmarkTo_step {rs : List SpanD} {k : Int} {j : Nat} (hj : j < rs.length) : (pmarkTo rs k j).set j (mSpan rs k j) = pmarkTo rs k (j + 1) := by
  unfold pmarkTo
  rw [List.set_append_right _ _ (by simp), List.drop_eq_getElem_cons hj, List.range_succ, List.map_append]
  simp only [List.length_map, List.length_range, Nat.sub_self, List.set_cons_zero, List.map_cons, List.map_nil, List.append_assoc, List.cons_append, List.nil_append]
theorem pmarkTo_all (rs : List SpanD) (k : Int) : pmarkTo rs k rs.length = mSpans rs k := by simp [pmarkTo, mSpans]
theorem pmarkTo_zero (rs : List SpanD) (k : Int) : pmarkTo rs k 0 = rs := by simp [pmarkTo]
/-- Span j is marked: its ends are stored, and its set is turned within its own block. -/
theorem ownsPV_mark {w w2 : World} {B g n cap : Nat} {rs : List SpanD} {vs : Nat → Value} (h : OwnsPV w B (.slice (some ⟨g, 0, none⟩) n cap) rs vs) {j : Nat} (hj : j < rs.length) (m m2 : Int) {ys : List Int}
    (hg : ((w.setCell ⟨g, j * 3, none⟩ (.int .i64 m)).setCell ⟨g, j * 3 + 1, none⟩ (.int .i64 m2)).grownBy w2 (vs j).ownBlock) (ho : OwnsN w2 B (vs j) ys) : OwnsPV w2 B (.slice (some ⟨g, 0, none⟩) n cap) (rs.set j (m, m2, ys)) vs := by
  obtain ⟨cs, h1, h2, h3⟩ := h
  have hn : n = rs.length := by
    rcases h1.2 with ⟨h', _⟩ | ⟨_, _, _, h', _⟩
    · simp at h'
    · simp only [Value.slice.injEq] at h'; exact h'.2.1
  subst hn
  have hcl : cs.length = rs.length * 3 := h1.1
  have s0 := (World.ownsRow.stored h1 (j * 3) (.int .i64 m)).1
  have s1 := (World.ownsRow.stored s0 (j * 3 + 1) (.int .i64 m2)).1
  have hgv : (Value.slice (some ⟨g, 0, none⟩) rs.length cap).ownBlock = some g := rfl
  have hne : (vs j).ownBlock ≠ some g := fun e => (h2 j hj).2.2.2.2 g e hgv
  have s2 := s1.kept hg (Or.inr (by rw [hgv]; exact fun e => hne e.symm))
  refine ⟨(cs.set (j * 3) (.int .i64 m)).set (j * 3 + 1) (.int .i64 m2), by rw [List.length_set]; exact s2, ?_, ?_⟩
  · intro i hi
    rw [List.length_set] at hi
    obtain ⟨g1, g2, g3, g4, g5⟩ := h2 i hi
    by_cases e : i = j
    · subst e
      have er : (rs.set i ((m, m2, ys) : SpanD)).getD i p0D = (m, m2, ys) := by simp [List.getD, hi]
      rw [er]
      exact ⟨by rw [List.getElem?_set_ne (by omega), List.getElem?_set_self (by omega)], by rw [List.getElem?_set_self (by rw [List.length_set]; omega)], by rw [List.getElem?_set_ne (by omega), List.getElem?_set_ne (by omega)]; exact g3, ho, g5⟩
    · have er : (rs.set j ((m, m2, ys) : SpanD)).getD i p0D = rs.getD i p0D := by simp [List.getD, List.getElem?_set_ne (Ne.symm e)]
      rw [er]
      refine ⟨by rw [List.getElem?_set_ne (by omega), List.getElem?_set_ne (by omega)]; exact g1, by rw [List.getElem?_set_ne (by omega), List.getElem?_set_ne (by omega)]; exact g2, by rw [List.getElem?_set_ne (by omega), List.getElem?_set_ne (by omega)]; exact g3, ?_, g5⟩
      have hp1 : (vs i).ownBlock = none ∨ (vs i).ownBlock ≠ some g := by
        cases eb : (vs i).ownBlock with
        | none => exact Or.inl rfl
        | some b => exact Or.inr (fun q => g5 b eb (by rw [hgv, q]))
      have hp2 : (vs i).ownBlock = none ∨ (vs i).ownBlock ≠ (vs j).ownBlock := by
        cases eb : (vs i).ownBlock with
        | none => exact Or.inl rfl
        | some b => exact Or.inr (fun q => h3 i j hi hj e b eb q.symm)
      exact ((World.ownsRow.kept g4 (grow_set w g (j * 3) _) hp1).kept (grow_set _ g (j * 3 + 1) _) hp1).kept hg hp2
  · intro i i' hi hi' hii b hb
    rw [List.length_set] at hi hi'
    exact h3 i i' hi hi' hii b hb
end Go.Proofs.Ytidhmgboknffkaa
