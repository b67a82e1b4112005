/-
  Marking the rows of a slice that the call made, and reading the marks back.
-/
import Derived.Test.YtginjmnohnidiaaRowEq
namespace Go.Proofs.Ytginjmnohnidiaa
open Go.RowKit
set_option linter.unusedVariables false
/-- The slice v owns the rows rs, the values of row j in the slice vs j. -/
def OwnsV (w : World) (B : Nat) (v : Value) (rs : List RowD) (vs : Nat → Value) : Prop :=
  ∃ (cs : List Value), w.ownsRow B 76 2 v rs.length cs ∧
    (∀ j, j < rs.length → cs[j * 2]? = some (.int .i64 (rs.getD j (0, [])).1) ∧ cs[j * 2 + 1]? = some (vs j) ∧ OwnsN w B (vs j) (rs.getD j (0, [])).2 ∧ ∀ b, (vs j).ownBlock = some b → v.ownBlock ≠ some b) ∧
    ∀ i j, i < rs.length → j < rs.length → i ≠ j → ∀ b, (vs i).ownBlock = some b → (vs j).ownBlock ≠ some b
theorem ownsV_of {w : World} {B : Nat} {v : Value} {rs : List RowD} (h : OwnsR w B v rs) : ∃ vs, OwnsV w B v rs vs := by
  obtain ⟨cs, vs, h⟩ := h
  exact ⟨vs, cs, h⟩
theorem ownsR_of {w : World} {B : Nat} {v : Value} {rs : List RowD} {vs : Nat → Value} (h : OwnsV w B v rs vs) : OwnsR w B v rs := by
  obtain ⟨cs, h⟩ := h
  exact ⟨cs, vs, h⟩
/-- Only blocks from B up to hi have turned. -/
structure Only (B hi : Nat) (w w' : World) : Prop where
  os : w'.os = w.os
  tape : w'.tape = w.tape
  output : w'.output = w.output
  size : w.heap.size ≤ w'.heap.size
  block : ∀ k, k < w.heap.size → (k < B ∨ hi ≤ k) → w'.heap[k]? = w.heap[k]?
theorem Only.refl (B hi : Nat) (w : World) : Only B hi w w := ⟨rfl, rfl, rfl, Nat.le_refl _, fun _ _ _ => rfl⟩
theorem Only.trans {B hi : Nat} {a b c : World} (h : Only B hi a b) (k : Only B hi b c) : Only B hi a c :=
  ⟨k.os.trans h.os, k.tape.trans h.tape, k.output.trans h.output, Nat.le_trans h.size k.size, fun i hi' hn => (k.block i (Nat.lt_of_lt_of_le hi' h.size) hn).trans (h.block i hi' hn)⟩
theorem only_grown {B hi : Nat} {w w' : World} {row : Option Nat} (h : w.grownBy w' row) (hr : ∀ b, row = some b → B ≤ b ∧ b < hi) : Only B hi w w' :=
  ⟨h.os, h.tape, h.output, h.size, fun k hk hn => h.block k hk (fun e => by have := hr k e.symm; omega)⟩
theorem only_below {B hi C : Nat} {a w w' : World} (h : Below C a w) (k : Only B hi w w') (hC : C ≤ B) (hs : C ≤ w.heap.size) : Below C a w' :=
  h.trans ⟨k.os, k.tape, k.output, k.size, fun i hi' => k.block i (by omega) (Or.inl (by omega))⟩
/-- What is owned beside the range stays. -/
theorem ownsR_only {B hi C : Nat} {w w' : World} {v : Value} {rs : List RowD} (h : OwnsR w C v rs) (k : Only B hi w w') (hc : hi ≤ C) : OwnsR w' C v rs := by
  obtain ⟨cs, vs, h1, h2, h3⟩ := h
  have hk : ∀ {e : TypeId} {size : Nat} {u : Value} {n : Nat} {xs : List Value}, w.ownsRow C e size u n xs → w'.ownsRow C e size u n xs := by
    intro e size u n xs hu
    refine ⟨hu.1, ?_⟩
    rcases hu.2 with hn | ⟨g, cap, cur, rfl, hb', hg, rest⟩
    · exact .inl hn
    · refine .inr ⟨g, cap, cur, rfl, hb', ?_, rest⟩
      rw [k.block g (Array.getElem?_eq_some_iff.1 hg).1 (Or.inr (by omega))]
      exact hg
  exact ⟨cs, vs, hk h1, fun j hj => ⟨(h2 j hj).1, (h2 j hj).2.1, hk (h2 j hj).2.2.1, (h2 j hj).2.2.2⟩, h3⟩
/-- What reads in blocks below B reads so. -/
theorem rowsR_only {B hi : Nat} {W w w' : World} {v : Value} {rs : List RowD} (h : RowsR W v rs) (hb : Below W.heap.size W w) (k : Only B hi w w') (hB : W.heap.size ≤ B) : RowsR w' v rs :=
  rowsR_below h (only_below hb k hB hb.size)
/-- The mark of row j. -/
def mkAt (rs : List RowD) (k : Int) (j : Nat) : Int := k + (j : Int) + ((((rs.take j).map fun r => r.2.length).sum : Nat) : Int)
def mRow (rs : List RowD) (k : Int) (j : Nat) : RowD := (mkAt rs k j, marks (mkAt rs k j + 1) (rs.getD j (0, [])).2.length)
def markTo (rs : List RowD) (k : Int) (j : Nat) : List RowD := (List.range j).map (mRow rs k) ++ rs.drop j
def mRows (rs : List RowD) (k : Int) : List RowD := (List.range rs.length).map (mRow rs k)
theorem mkAt_zero (rs : List RowD) (k : Int) : mkAt rs k 0 = k := by simp [mkAt]
theorem mkAt_step {rs : List RowD} {k : Int} {j : Nat} (hj : j < rs.length) : mkAt rs k (j + 1) = mkAt rs k j + 1 + ((rs.getD j (0, [])).2.length : Int) := by
  unfold mkAt
  have e : rs.getD j (0, []) = rs[j] := by simp [List.getD, hj]
  rw [e, List.take_succ_eq_append_getElem hj, List.map_append, List.sum_append]
  simp; omega
theorem mkAt_range {rs : List RowD} {k : Int} {j : Nat} (hs : szL rs ≤ 1048576) (hj : j ≤ rs.length) : k ≤ mkAt rs k j ∧ mkAt rs k j ≤ k + 1048576 := by
  have h1 := szTo_le hj
  unfold szTo at h1
  unfold mkAt
  omega
theorem markTo_len {rs : List RowD} {k : Int} {j : Nat} (hj : j ≤ rs.length) : (markTo rs k j).length = rs.length := by simp [markTo]; omega
theorem markTo_at {rs : List RowD} {k : Int} {j : Nat} (hj : j < rs.length) : (markTo rs k j).getD j (0, []) = rs.getD j (0, []) := by
  unfold markTo
  simp only [List.getD]
  rw [List.getElem?_append_right (by simp), List.getElem?_drop]
  simp
theorem markTo_step {rs : List RowD} {k : Int} {j : Nat} (hj : j < rs.length) : (markTo rs k j).set j (mRow rs k j) = markTo rs k (j + 1) := by
  unfold markTo
  rw [List.set_append_right _ _ (by simp), List.drop_eq_getElem_cons hj, List.range_succ, List.map_append]
  simp only [List.length_map, List.length_range, Nat.sub_self, List.set_cons_zero, List.map_cons, List.map_nil, List.append_assoc, List.cons_append, List.nil_append]
theorem markTo_all (rs : List RowD) (k : Int) : markTo rs k rs.length = mRows rs k := by simp [markTo, mRows]
theorem markTo_zero (rs : List RowD) (k : Int) : markTo rs k 0 = rs := by simp [markTo]
/-- Row j is marked: its number is stored, and its values are turned within their own block. -/
theorem ownsV_mark {w w2 : World} {B g n cap : Nat} {rs : List RowD} {vs : Nat → Value} (h : OwnsV w B (.slice (some ⟨g, 0, none⟩) n cap) rs vs) {j : Nat} (hj : j < rs.length) (m : Int) {ys : List Int}
    (hg : (w.setCell ⟨g, j * 2, none⟩ (.int .i64 m)).grownBy w2 (vs j).ownBlock) (ho : OwnsN w2 B (vs j) ys) : OwnsV w2 B (.slice (some ⟨g, 0, none⟩) n cap) (rs.set j (m, ys)) vs := by
  obtain ⟨cs, h1, h2, h3⟩ := h
  have hn : n = rs.length := by
    rcases h1.2 with ⟨h', _⟩ | ⟨_, _, _, h', _⟩
    · simp at h'
    · simp only [Value.slice.injEq] at h'; exact h'.2.1
  subst hn
  have hcl : cs.length = rs.length * 2 := h1.1
  have s1 := (World.ownsRow.stored h1 (j * 2) (.int .i64 m)).1
  have hgv : (Value.slice (some ⟨g, 0, none⟩) rs.length cap).ownBlock = some g := rfl
  have hne : (vs j).ownBlock ≠ some g := fun e => (h2 j hj).2.2.2 g e hgv
  have s2 := s1.kept hg (Or.inr (by rw [hgv]; exact fun e => hne e.symm))
  refine ⟨cs.set (j * 2) (.int .i64 m), by rw [List.length_set]; exact s2, ?_, ?_⟩
  · intro i hi
    rw [List.length_set] at hi
    obtain ⟨g1, g2, g3, g4⟩ := h2 i hi
    by_cases e : i = j
    · subst e
      have er : (rs.set i ((m, ys) : RowD)).getD i (0, []) = (m, ys) := by simp [List.getD, hi]
      rw [er]
      exact ⟨by rw [List.getElem?_set_self (by omega)], by rw [List.getElem?_set_ne (by omega)]; exact g2, ho, g4⟩
    · have er : (rs.set j ((m, ys) : RowD)).getD i (0, []) = rs.getD i (0, []) := by simp [List.getD, List.getElem?_set_ne (Ne.symm e)]
      rw [er]
      refine ⟨by rw [List.getElem?_set_ne (by omega)]; exact g1, by rw [List.getElem?_set_ne (by omega)]; exact g2, ?_, g4⟩
      have hp1 : (vs i).ownBlock = none ∨ (vs i).ownBlock ≠ some g := by
        cases eb : (vs i).ownBlock with
        | none => exact Or.inl rfl
        | some b => exact Or.inr (fun q => g4 b eb (by rw [hgv, q]))
      have hp2 : (vs i).ownBlock = none ∨ (vs i).ownBlock ≠ (vs j).ownBlock := by
        cases eb : (vs i).ownBlock with
        | none => exact Or.inl rfl
        | some b => exact Or.inr (fun q => h3 i j hi hj e b eb q.symm)
      exact (World.ownsRow.kept g3 (grow_set w g (j * 2) _) hp1).kept hg hp2
  · intro i i' hi hi' hii b hb
    rw [List.length_set] at hi hi'
    exact h3 i i' hi hi' hii b hb
end Go.Proofs.Ytginjmnohnidiaa
