/-
  A row put among the rows of a slice that the call made, in new memory.
-/
import Derived.Test.YtginjmnohnidiaaRowIns
namespace Go.Proofs.Ytginjmnohnidiaa
open Go.RowKit
set_option linter.unusedVariables false
theorem mid_low {α : Type} {cs : List α} {p i : Nat} {x y : α} (hp : p * 2 ≤ cs.length) (hi : i < p * 2) : (cs.take (p * 2) ++ [x, y] ++ cs.drop (p * 2))[i]? = cs[i]? := by
  have hl : (cs.take (p * 2)).length = p * 2 := by rw [List.length_take]; omega
  rw [List.append_assoc, List.getElem?_append_left (by omega), List.getElem?_take, if_pos hi]
theorem mid_at {α : Type} {cs : List α} {p : Nat} {x y : α} (hp : p * 2 ≤ cs.length) : (cs.take (p * 2) ++ [x, y] ++ cs.drop (p * 2))[p * 2]? = some x ∧ (cs.take (p * 2) ++ [x, y] ++ cs.drop (p * 2))[p * 2 + 1]? = some y := by
  have hl : (cs.take (p * 2)).length = p * 2 := by rw [List.length_take]; omega
  constructor
  · rw [List.append_assoc, List.getElem?_append_right (by omega), hl]
    simp
  · rw [List.append_assoc, List.getElem?_append_right (by omega), hl]
    simp
theorem mid_high {α : Type} {cs : List α} {p i : Nat} {x y : α} (hp : p * 2 ≤ cs.length) (hi : p * 2 + 2 ≤ i) : (cs.take (p * 2) ++ [x, y] ++ cs.drop (p * 2))[i]? = cs[i - 2]? := by
  have hl : (cs.take (p * 2)).length = p * 2 := by rw [List.length_take]; omega
  have hl2 : (cs.take (p * 2) ++ [x, y]).length = p * 2 + 2 := by rw [List.length_append, hl]; rfl
  rw [List.getElem?_append_right (by omega), hl2, List.getElem?_drop]
  congr 1
  omega
theorem rowIns_low {rs : List RowD} {p j : Nat} {r : RowD} (hp : p ≤ rs.length) (hj : j < p) : (rs.take p ++ r :: rs.drop p).getD j (0, []) = rs.getD j (0, []) := by
  have hl : (rs.take p).length = p := by rw [List.length_take]; omega
  simp only [List.getD]
  rw [List.getElem?_append_left (by omega), List.getElem?_take, if_pos hj]
theorem row_at {rs : List RowD} {p : Nat} {r : RowD} (hp : p ≤ rs.length) : (rs.take p ++ r :: rs.drop p).getD p (0, []) = r := by
  have hl : (rs.take p).length = p := by rw [List.length_take]; omega
  simp only [List.getD]
  rw [List.getElem?_append_right (by omega), hl, Nat.sub_self]
  rfl
theorem row_high {rs : List RowD} {p j : Nat} {r : RowD} (hp : p ≤ rs.length) (hj : p < j) : (rs.take p ++ r :: rs.drop p).getD j (0, []) = rs.getD (j - 1) (0, []) := by
  have hl : (rs.take p).length = p := by rw [List.length_take]; omega
  simp only [List.getD]
  rw [List.getElem?_append_right (by omega), hl, show j - p = (j - 1 - p) + 1 by omega, List.getElem?_cons_succ, List.getElem?_drop, show p + (j - 1 - p) = j - 1 by omega]
theorem insert_owns {W w : World} {B p : Nat} {v x3 vv : Value} {rs : List RowD} {vs : Nat → Value} {cs : List Value} {r : RowD} (hp : p ≤ rs.length)
    (h1 : W.ownsRow B 76 2 v rs.length cs)
    (h2 : ∀ j, j < rs.length → cs[j * 2]? = some (.int .i64 (rs.getD j (0, [])).1) ∧ cs[j * 2 + 1]? = some (vs j) ∧ OwnsN W B (vs j) (rs.getD j (0, [])).2 ∧ ∀ b, (vs j).ownBlock = some b → v.ownBlock ≠ some b)
    (h3 : ∀ i j, i < rs.length → j < rs.length → i ≠ j → ∀ b, (vs i).ownBlock = some b → (vs j).ownBlock ≠ some b)
    (hb : Below W.heap.size W w) (hB : B ≤ W.heap.size) (hx : RowsC w W.heap.size x3 (rs.length + 1) (cs.take (p * 2) ++ [.int .i64 r.1, vv] ++ cs.drop (p * 2)))
    (hv : OwnsN w W.heap.size vv r.2) (hne : ∀ b, vv.ownBlock = some b → x3.ownBlock ≠ some b) : OwnsR w B x3 (rs.take p ++ r :: rs.drop p) := by
  have hcl : cs.length = rs.length * 2 := h1.1
  have hlen : (rs.take p ++ r :: rs.drop p).length = rs.length + 1 := by simp; omega
  have hxlt : ∀ b, x3.ownBlock = some b → W.heap.size ≤ b := fun b e => (hx.lt b e).1
  have old : ∀ j, j < rs.length → ∀ b, (vs j).ownBlock = some b → b < W.heap.size := fun j hj b e => ((h2 j hj).2.2.1.lt b e).2
  have new : ∀ b, vv.ownBlock = some b → W.heap.size ≤ b := fun b e => (hv.lt b e).1
  refine ⟨cs.take (p * 2) ++ [.int .i64 r.1, vv] ++ cs.drop (p * 2), fun j => if j < p then vs j else if j = p then vv else vs (j - 1), ?_, ?_, ?_⟩
  · rw [hlen]
    refine ⟨hx.1, ?_⟩
    rcases hx.2 with hn | ⟨g, cap, cur, e, hb', rest⟩
    · exact .inl hn
    · exact .inr ⟨g, cap, cur, e, Nat.le_trans hB hb', rest⟩
  · intro j hj
    rw [hlen] at hj
    by_cases c1 : j < p
    · simp only [if_pos c1]
      obtain ⟨g1, g2, g3, _⟩ := h2 j (by omega)
      rw [rowIns_low hp c1, mid_low (by omega) (by omega), mid_low (by omega) (by omega)]
      exact ⟨g1, g2, ownsN_below g3 hb, fun b e q => by have := hxlt b q; have := old j (by omega) b e; omega⟩
    · by_cases c2 : j = p
      · subst c2
        simp only [Nat.lt_irrefl, if_false, if_true]
        rw [row_at hp]
        have := mid_at (cs := cs) (p := j) (x := Value.int .i64 r.1) (y := vv) (by omega)
        exact ⟨this.1, this.2, ownsN_up hv hB, hne⟩
      · simp only [if_neg c1, if_neg c2]
        obtain ⟨g1, g2, g3, _⟩ := h2 (j - 1) (by omega)
        rw [row_high hp (by omega), mid_high (by omega) (by omega), mid_high (by omega) (by omega), show j * 2 - 2 = (j - 1) * 2 by omega, show j * 2 + 1 - 2 = (j - 1) * 2 + 1 by omega]
        exact ⟨g1, g2, ownsN_below g3 hb, fun b e q => by have := hxlt b q; have := old (j - 1) (by omega) b e; omega⟩
  · intro i j hi hj hij b
    rw [hlen] at hi hj
    by_cases a1 : i < p
    · simp only [if_pos a1]
      intro e
      by_cases c1 : j < p
      · simp only [if_pos c1]; exact h3 i j (by omega) (by omega) hij b e
      · by_cases c2 : j = p
        · simp only [if_neg c1, if_pos c2]
          intro q
          have := new b q; have := old i (by omega) b e; omega
        · simp only [if_neg c1, if_neg c2]; exact h3 i (j - 1) (by omega) (by omega) (by omega) b e
    · by_cases a2 : i = p
      · simp only [if_neg a1, if_pos a2]
        intro e
        have hnb := new b e
        by_cases c1 : j < p
        · simp only [if_pos c1]; intro q; have := old j (by omega) b q; omega
        · by_cases c2 : j = p
          · omega
          · simp only [if_neg c1, if_neg c2]; intro q; have := old (j - 1) (by omega) b q; omega
      · simp only [if_neg a1, if_neg a2]
        intro e
        have hob := old (i - 1) (by omega) b e
        by_cases c1 : j < p
        · simp only [if_pos c1]; exact h3 (i - 1) j (by omega) (by omega) (by omega) b e
        · by_cases c2 : j = p
          · simp only [if_neg c1, if_pos c2]; intro q; have := new b q; omega
          · simp only [if_neg c1, if_neg c2]; exact h3 (i - 1) (j - 1) (by omega) (by omega) (by omega) b e
theorem rows_one {W : World} {B : Nat} {rs : List RowD} {vs : Nat → Value} {cs : List Value} (hl : cs.length = rs.length * 2)
    (h2 : ∀ j, j < rs.length → cs[j * 2]? = some (.int .i64 (rs.getD j (0, [])).1) ∧ cs[j * 2 + 1]? = some (vs j) ∧ OwnsN W B (vs j) (rs.getD j (0, [])).2) : ∀ u ∈ cs, u.oneCell' = true := by
  intro u hu
  obtain ⟨i, hi, rfl⟩ := List.getElem_of_mem hu
  obtain ⟨g1, g2, g3⟩ := h2 (i / 2) (by omega)
  rcases Nat.mod_two_eq_zero_or_one i with e | e
  · have : i / 2 * 2 = i := by omega
    rw [this, List.getElem?_eq_getElem hi] at g1
    rw [Option.some.inj g1]
    rfl
  · have : i / 2 * 2 + 1 = i := by omega
    rw [this, List.getElem?_eq_getElem hi] at g2
    rw [Option.some.inj g2]
    obtain ⟨a, c, e⟩ := ints_len (ownsN_ints g3)
    rw [e]
    rfl
theorem rows_cells {W w : World} {B g k cp : Nat} {cs : List Value} (h1 : W.ownsRow B 76 2 (.slice (some ⟨g, 0, none⟩) k cp) k cs) (hb : Below W.heap.size W w) : ∀ j u, cs[j]? = some u → w.cell? ((⟨g, 0, none⟩ : Addr).add j) = some u := by
  intro j u hj
  have hl := (List.getElem?_eq_some_iff.1 hj).1
  have hcl : cs.length = k * 2 := h1.1
  rw [Go.WideShapes.add_plain, Nat.zero_add]
  exact (hb.cell (p := ⟨g, j, none⟩) (h1.lt g rfl).2).trans ((World.ownsRow.cellAt h1 j (by omega)).trans hj)
end Go.Proofs.Ytginjmnohnidiaa
