/-
  Marking the queries of a slice that the call made: the mathematics, and one query's steps.
-/
import Derived.Test.YteelgogfpidcdaaQueryOwn
import Derived.Test.YteelgogfpidcdaaCondMark
namespace Go.Proofs.Yteelgogfpidcdaa
open Go.RowKit
set_option linter.unusedVariables false
set_option linter.unusedSimpArgs false
/-- The slice v owns the queries qs, the conditions of query j in vs (2 j), its fields in vs (2 j + 1). -/
def OwnsQV (w : World) (B : Nat) (v : Value) (qs : List QD) (vs : Nat → Value) : Prop :=
  ∃ (cs : List Value), w.ownsRow B 36 4 v qs.length cs ∧
    (∀ j, j < qs.length → cs[j * 4]? = some (.int .i64 (qs.getD j q0D).1) ∧ cs[j * 4 + 1]? = some (.int .i64 (qs.getD j q0D).2.1) ∧ cs[j * 4 + 2]? = some (vs (2 * j)) ∧ cs[j * 4 + 3]? = some (vs (2 * j + 1)) ∧
      OwnsC w B (vs (2 * j)) (qs.getD j q0D).2.2.1 ∧ OwnsN w B (vs (2 * j + 1)) (qs.getD j q0D).2.2.2) ∧
    (∀ i, i < 2 * qs.length → ∀ b, (vs i).ownBlock = some b → v.ownBlock ≠ some b) ∧
    ∀ i j, i < 2 * qs.length → j < 2 * qs.length → i ≠ j → ∀ b, (vs i).ownBlock = some b → (vs j).ownBlock ≠ some b
theorem ownsQV_of {w : World} {B : Nat} {v : Value} {qs : List QD} (h : OwnsQ w B v qs) : ∃ vs, OwnsQV w B v qs vs := by
  obtain ⟨cs, vs, h⟩ := h
  exact ⟨vs, cs, h⟩
theorem ownsQ_of {w : World} {B : Nat} {v : Value} {qs : List QD} {vs : Nat → Value} (h : OwnsQV w B v qs vs) : OwnsQ w B v qs := by
  obtain ⟨cs, h⟩ := h
  exact ⟨cs, vs, h⟩
theorem ownsQV_below {w w' : World} {B : Nat} {v : Value} {qs : List QD} {vs : Nat → Value} (h : OwnsQV w B v qs vs) (hb : Below w.heap.size w w') : OwnsQV w' B v qs vs := by
  obtain ⟨cs, h1, h2, h3⟩ := h
  exact ⟨cs, ownsRow_below h1 hb, fun j hj => by obtain ⟨g1, g2, g3, g4, g5, g6⟩ := h2 j hj; exact ⟨g1, g2, g3, g4, ownsC_below g5 hb, ownsN_below g6 hb⟩, h3⟩
/-- What reads in blocks below B reads so. -/
theorem queriesR_only {B hi : Nat} {W w w' : World} {v : Value} {qs : List QD} (h : QueriesR W v qs) (hb : Below W.heap.size W w) (k : Only B hi w w') (hB : W.heap.size ≤ B) : QueriesR w' v qs :=
  queriesR_below h (only_below hb k hB hb.size)
theorem ownsQ_only {B hi C : Nat} {w w' : World} {v : Value} {qs : List QD} (h : OwnsQ w C v qs) (k : Only B hi w w') (hc : hi ≤ C) : OwnsQ w' C v qs := by
  obtain ⟨cs, vs, h1, h2, h3⟩ := h
  have hk : ∀ {e : TypeId} {size : Nat} {u : Value} {n : Nat} {xs : List Value}, w.ownsRow C e size u n xs → w'.ownsRow C e size u n xs := by
    intro e size u n xs hu
    refine ⟨hu.1, ?_⟩
    rcases hu.2 with hn | ⟨g, cap, cur, rfl, hb', hg, rest⟩
    · exact .inl hn
    · refine .inr ⟨g, cap, cur, rfl, hb', ?_, rest⟩
      rw [k.block g (Array.getElem?_eq_some_iff.1 hg).1 (Or.inr (by omega))]
      exact hg
  exact ⟨cs, vs, hk h1, fun j hj => by obtain ⟨g1, g2, g3, g4, g5, g6⟩ := h2 j hj; exact ⟨g1, g2, g3, g4, hk g5, hk g6⟩, h3⟩
theorem ownsQV_cells {w : World} {B g n cap : Nat} {qs : List QD} {vs : Nat → Value} (h : OwnsQV w B (.slice (some ⟨g, 0, none⟩) n cap) qs vs) {j : Nat} (hj : j < qs.length) :
    w.cell? ⟨g, j * 4, none⟩ = some (.int .i64 (qs.getD j q0D).1) ∧ w.cell? ⟨g, j * 4 + 1, none⟩ = some (.int .i64 (qs.getD j q0D).2.1) ∧ w.cell? ⟨g, j * 4 + 2, none⟩ = some (vs (2 * j)) ∧ w.cell? ⟨g, j * 4 + 3, none⟩ = some (vs (2 * j + 1)) ∧
    w.frozen? ⟨g, j * 4, none⟩ = false ∧ w.frozen? ⟨g, j * 4 + 1, none⟩ = false ∧ OwnsC w B (vs (2 * j)) (qs.getD j q0D).2.2.1 ∧ OwnsN w B (vs (2 * j + 1)) (qs.getD j q0D).2.2.2 ∧ (vs (2 * j)).ownBlock ≠ some g ∧ (vs (2 * j + 1)).ownBlock ≠ some g := by
  obtain ⟨cs, h1, h2, h3, _⟩ := h
  obtain ⟨g1, g2, g3, g4, g5, g6⟩ := h2 j hj
  have hn : n = qs.length := by
    rcases h1.2 with ⟨h', _⟩ | ⟨_, _, _, h', _⟩
    · simp at h'
    · simp only [Value.slice.injEq] at h'; exact h'.2.1
  subst hn
  exact ⟨(World.ownsRow.cellAt h1 (j * 4) (by omega)).trans g1, (World.ownsRow.cellAt h1 (j * 4 + 1) (by omega)).trans g2, (World.ownsRow.cellAt h1 (j * 4 + 2) (by omega)).trans g3, (World.ownsRow.cellAt h1 (j * 4 + 3) (by omega)).trans g4,
    World.ownsRow.frozenAt h1 _, World.ownsRow.frozenAt h1 _, g5, g6, fun e => h3 (2 * j) (by omega) g e rfl, fun e => h3 (2 * j + 1) (by omega) g e rfl⟩
/-- The mark of query j. -/
def qkAt (qs : List QD) (k : Int) (j : Nat) : Int := k + 2 * (j : Int) + ((((qs.take j).map fun q => 3 * q.2.2.1.length + q.2.2.2.length).sum : Nat) : Int)
def mQuery (qs : List QD) (k : Int) (j : Nat) : QD := (qkAt qs k j, qkAt qs k j + 1, marksC (qkAt qs k j + 1 + 1) (qs.getD j q0D).2.2.1.length, marks (qkAt qs k j + 1 + 1 + 3 * ((qs.getD j q0D).2.2.1.length : Int)) (qs.getD j q0D).2.2.2.length)
def qmarkTo (qs : List QD) (k : Int) (j : Nat) : List QD := (List.range j).map (mQuery qs k) ++ qs.drop j
def mQueries (qs : List QD) (k : Int) : List QD := (List.range qs.length).map (mQuery qs k)
theorem qkAt_zero (qs : List QD) (k : Int) : qkAt qs k 0 = k := by simp [qkAt]
theorem qkAt_step {qs : List QD} {k : Int} {j : Nat} (hj : j < qs.length) : qkAt qs k (j + 1) = qkAt qs k j + 2 + 3 * ((qs.getD j q0D).2.2.1.length : Int) + ((qs.getD j q0D).2.2.2.length : Int) := by
  unfold qkAt
  have e : qs.getD j q0D = qs[j] := by simp [List.getD, hj]
  rw [e, List.take_succ_eq_append_getElem hj, List.map_append, List.sum_append]
  simp; omega
theorem sum3_le : ∀ (l : List QD), (l.map fun q => 3 * q.2.2.1.length + q.2.2.2.length).sum ≤ 3 * (l.map fun q => q.2.2.1.length + q.2.2.2.length).sum
  | [] => by simp
  | q :: l => by
    have := sum3_le l
    simp only [List.map_cons, List.sum_cons]
    omega
theorem qkAt_range {qs : List QD} {k : Int} {j : Nat} (hs : szQL qs ≤ 1048576) (hj : j ≤ qs.length) : k ≤ qkAt qs k j ∧ qkAt qs k j ≤ k + 3145728 := by
  have h1 := szQTo_le hj
  have h2 := sum3_le (qs.take j)
  unfold szQTo at h1
  unfold qkAt
  omega
theorem qmarkTo_len {qs : List QD} {k : Int} {j : Nat} (hj : j ≤ qs.length) : (qmarkTo qs k j).length = qs.length := by simp [qmarkTo]; omega
theorem qmarkTo_at {qs : List QD} {k : Int} {j : Nat} (hj : j < qs.length) : (qmarkTo qs k j).getD j q0D = qs.getD j q0D := by
  unfold qmarkTo
  simp only [List.getD]
  rw [List.getElem?_append_right (by simp), List.getElem?_drop]
  simp
theorem qmarkTo_step {qs : List QD} {k : Int} {j : Nat} (hj : j < qs.length) : (qmarkTo qs k j).set j (mQuery qs k j) = qmarkTo qs k (j + 1) := by
  unfold qmarkTo
  rw [List.set_append_right _ _ (by simp), List.drop_eq_getElem_cons hj, List.range_succ, List.map_append]
  simp only [List.length_map, List.length_range, Nat.sub_self, List.set_cons_zero, List.map_cons, List.map_nil, List.append_assoc, List.cons_append, List.nil_append]
theorem qmarkTo_all (qs : List QD) (k : Int) : qmarkTo qs k qs.length = mQueries qs k := by simp [qmarkTo, mQueries]
theorem qmarkTo_zero (qs : List QD) (k : Int) : qmarkTo qs k 0 = qs := by simp [qmarkTo]
theorem hne_of {v : Value} {r : Option Nat} (h : ∀ b, v.ownBlock = some b → r ≠ some b) : v.ownBlock = none ∨ v.ownBlock ≠ r := by
  cases e : v.ownBlock with
  | none => exact Or.inl rfl
  | some b => exact Or.inr (fun q => h b e q.symm)
/-- The two numbers of query j are stored. -/
theorem ownsQV_two {w : World} {B g n cap : Nat} {qs : List QD} {vs : Nat → Value} (h : OwnsQV w B (.slice (some ⟨g, 0, none⟩) n cap) qs vs) {j : Nat} (hj : j < qs.length) (m m2 : Int) :
    OwnsQV ((w.setCell ⟨g, j * 4, none⟩ (.int .i64 m)).setCell ⟨g, j * 4 + 1, none⟩ (.int .i64 m2)) B (.slice (some ⟨g, 0, none⟩) n cap) (qs.set j (m, m2, (qs.getD j q0D).2.2)) vs := by
  obtain ⟨cs, h1, h2, h3, h4⟩ := h
  have hn : n = qs.length := by
    rcases h1.2 with ⟨h', _⟩ | ⟨_, _, _, h', _⟩
    · simp at h'
    · simp only [Value.slice.injEq] at h'; exact h'.2.1
  subst hn
  have hcl : cs.length = qs.length * 4 := h1.1
  have s0 := (World.ownsRow.stored h1 (j * 4) (.int .i64 m)).1
  have s1 := (World.ownsRow.stored s0 (j * 4 + 1) (.int .i64 m2)).1
  have hp : ∀ i, i < 2 * qs.length → (vs i).ownBlock = none ∨ (vs i).ownBlock ≠ some g := fun i hi => hne_of (fun b eb q => h3 i hi b eb (by rw [← q]; rfl))
  refine ⟨(cs.set (j * 4) (.int .i64 m)).set (j * 4 + 1) (.int .i64 m2), by rw [List.length_set]; exact s1, ?_, by rw [List.length_set]; exact h3, by rw [List.length_set]; exact h4⟩
  intro i hi
  rw [List.length_set] at hi
  obtain ⟨g1, g2, g3, g4, g5, g6⟩ := h2 i hi
  have kc := World.ownsRow.kept (World.ownsRow.kept g5 (grow_set w g (j * 4) (.int .i64 m)) (hp (2 * i) (by omega))) (grow_set _ g (j * 4 + 1) (.int .i64 m2)) (hp (2 * i) (by omega))
  have kn := World.ownsRow.kept (World.ownsRow.kept g6 (grow_set w g (j * 4) (.int .i64 m)) (hp (2 * i + 1) (by omega))) (grow_set _ g (j * 4 + 1) (.int .i64 m2)) (hp (2 * i + 1) (by omega))
  by_cases e : i = j
  · subst e
    have er : (qs.set i ((m, m2, (qs.getD i q0D).2.2) : QD)).getD i q0D = (m, m2, (qs.getD i q0D).2.2) := by simp [List.getD, hi]
    rw [er]
    refine ⟨?_, ?_, ?_, ?_, kc, kn⟩
    · rw [List.getElem?_set_ne (by omega), List.getElem?_set_self (by omega)]
    · rw [List.getElem?_set_self (by rw [List.length_set]; omega)]
    · rw [List.getElem?_set_ne (by omega), List.getElem?_set_ne (by omega)]; exact g3
    · rw [List.getElem?_set_ne (by omega), List.getElem?_set_ne (by omega)]; exact g4
  · have er : (qs.set j ((m, m2, (qs.getD j q0D).2.2) : QD)).getD i q0D = qs.getD i q0D := by simp [List.getD, List.getElem?_set_ne (Ne.symm e)]
    rw [er]
    refine ⟨?_, ?_, ?_, ?_, kc, kn⟩
    · rw [List.getElem?_set_ne (by omega), List.getElem?_set_ne (by omega)]; exact g1
    · rw [List.getElem?_set_ne (by omega), List.getElem?_set_ne (by omega)]; exact g2
    · rw [List.getElem?_set_ne (by omega), List.getElem?_set_ne (by omega)]; exact g3
    · rw [List.getElem?_set_ne (by omega), List.getElem?_set_ne (by omega)]; exact g4
/-- The conditions of query j are turned within their own block. -/
theorem ownsQV_conds {w w2 : World} {B : Nat} {v : Value} {qs : List QD} {vs : Nat → Value} (h : OwnsQV w B v qs vs) {j : Nat} (hj : j < qs.length) {cs2 : List CondD} (hg : w.grownBy w2 (vs (2 * j)).ownBlock) (ho : OwnsC w2 B (vs (2 * j)) cs2) :
    OwnsQV w2 B v (qs.set j ((qs.getD j q0D).1, (qs.getD j q0D).2.1, cs2, (qs.getD j q0D).2.2.2)) vs := by
  obtain ⟨cs, h1, h2, h3, h4⟩ := h
  refine ⟨cs, by rw [List.length_set]; exact World.ownsRow.kept h1 hg (hne_of (fun b eb q => h3 (2 * j) (by omega) b q eb)), ?_, by rw [List.length_set]; exact h3, by rw [List.length_set]; exact h4⟩
  intro i hi
  rw [List.length_set] at hi
  obtain ⟨g1, g2, g3, g4, g5, g6⟩ := h2 i hi
  have kn : OwnsN w2 B (vs (2 * i + 1)) (qs.getD i q0D).2.2.2 := World.ownsRow.kept g6 hg (hne_of (fun b eb q => h4 (2 * i + 1) (2 * j) (by omega) (by omega) (by omega) b eb q))
  by_cases e : i = j
  · subst e
    have er : (qs.set i (((qs.getD i q0D).1, (qs.getD i q0D).2.1, cs2, (qs.getD i q0D).2.2.2) : QD)).getD i q0D = ((qs.getD i q0D).1, (qs.getD i q0D).2.1, cs2, (qs.getD i q0D).2.2.2) := by
      simp only [List.getD]
      rw [List.getElem?_set_self hi]
      rfl
    rw [er]
    exact ⟨g1, g2, g3, g4, ho, kn⟩
  · have er : (qs.set j (((qs.getD j q0D).1, (qs.getD j q0D).2.1, cs2, (qs.getD j q0D).2.2.2) : QD)).getD i q0D = qs.getD i q0D := by
      simp only [List.getD]
      rw [List.getElem?_set_ne (Ne.symm e)]
    rw [er]
    exact ⟨g1, g2, g3, g4, World.ownsRow.kept g5 hg (hne_of (fun b eb q => h4 (2 * i) (2 * j) (by omega) (by omega) (by omega) b eb q)), kn⟩
/-- The fields of query j are turned within their own block. -/
theorem ownsQV_outs {w w2 : World} {B : Nat} {v : Value} {qs : List QD} {vs : Nat → Value} (h : OwnsQV w B v qs vs) {j : Nat} (hj : j < qs.length) {os2 : List Int} (hg : w.grownBy w2 (vs (2 * j + 1)).ownBlock) (ho : OwnsN w2 B (vs (2 * j + 1)) os2) :
    OwnsQV w2 B v (qs.set j ((qs.getD j q0D).1, (qs.getD j q0D).2.1, (qs.getD j q0D).2.2.1, os2)) vs := by
  obtain ⟨cs, h1, h2, h3, h4⟩ := h
  refine ⟨cs, by rw [List.length_set]; exact World.ownsRow.kept h1 hg (hne_of (fun b eb q => h3 (2 * j + 1) (by omega) b q eb)), ?_, by rw [List.length_set]; exact h3, by rw [List.length_set]; exact h4⟩
  intro i hi
  rw [List.length_set] at hi
  obtain ⟨g1, g2, g3, g4, g5, g6⟩ := h2 i hi
  have kc : OwnsC w2 B (vs (2 * i)) (qs.getD i q0D).2.2.1 := World.ownsRow.kept g5 hg (hne_of (fun b eb q => h4 (2 * i) (2 * j + 1) (by omega) (by omega) (by omega) b eb q))
  by_cases e : i = j
  · subst e
    have er : (qs.set i (((qs.getD i q0D).1, (qs.getD i q0D).2.1, (qs.getD i q0D).2.2.1, os2) : QD)).getD i q0D = ((qs.getD i q0D).1, (qs.getD i q0D).2.1, (qs.getD i q0D).2.2.1, os2) := by
      simp only [List.getD]
      rw [List.getElem?_set_self hi]
      rfl
    rw [er]
    exact ⟨g1, g2, g3, g4, kc, ho⟩
  · have er : (qs.set j (((qs.getD j q0D).1, (qs.getD j q0D).2.1, (qs.getD j q0D).2.2.1, os2) : QD)).getD i q0D = qs.getD i q0D := by
      simp only [List.getD]
      rw [List.getElem?_set_ne (Ne.symm e)]
    rw [er]
    exact ⟨g1, g2, g3, g4, kc, World.ownsRow.kept g6 hg (hne_of (fun b eb q => h4 (2 * i + 1) (2 * j + 1) (by omega) (by omega) (by omega) b eb q))⟩
theorem ownsQV_bound {w : World} {B : Nat} {v : Value} {qs : List QD} {vs : Nat → Value} (h : OwnsQV w B v qs vs) : (∀ i, i < 2 * qs.length → ∀ b, (vs i).ownBlock = some b → B ≤ b ∧ b < w.heap.size) ∧ ∀ b, v.ownBlock = some b → B ≤ b ∧ b < w.heap.size := by
  obtain ⟨cs, h1, h2, _⟩ := h
  refine ⟨fun i hi b hb => ?_, fun b hb => h1.lt b hb⟩
  obtain ⟨_, _, _, _, g5, g6⟩ := h2 (i / 2) (by omega)
  rcases Nat.mod_two_eq_zero_or_one i with e | e
  · rw [show i = 2 * (i / 2) by omega] at hb
    exact g5.lt b hb
  · rw [show i = 2 * (i / 2) + 1 by omega] at hb
    exact g6.lt b hb
theorem ownsQV_form {w : World} {B : Nat} {v : Value} {qs : List QD} {vs : Nat → Value} (h : OwnsQV w B v qs vs) : (v = .slice none 0 0 ∧ qs = []) ∨ ∃ g cap, v = .slice (some ⟨g, 0, none⟩) qs.length cap ∧ B ≤ g ∧ g < w.heap.size := by
  obtain ⟨cs, h1, _⟩ := h
  rcases h1.2 with ⟨e, h0⟩ | ⟨g, cap, cur, e, hb, hg, rest⟩
  · exact Or.inl ⟨e, List.eq_nil_of_length_eq_zero h0⟩
  · exact Or.inr ⟨g, cap, e, hb, (Array.getElem?_eq_some_iff.1 hg).1⟩
end Go.Proofs.Yteelgogfpidcdaa
