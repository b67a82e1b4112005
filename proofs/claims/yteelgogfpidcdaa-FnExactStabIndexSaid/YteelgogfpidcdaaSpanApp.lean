/-
  A slice of spans that the call made: a span more, another end of the last one.
-/
import Derived.Test.YteelgogfpidcdaaSpanOwn
import Derived.Test.YteelgogfpidcdaaStabMath
namespace Go.Proofs.Yteelgogfpidcdaa
open Go.RowKit
set_option linter.unusedVariables false
set_option linter.unusedSimpArgs false
theorem info_span : ∃ i, Try.prog.info? 101 = some i ∧ i.zero = some (.agg #[.int .i64 0, .int .i64 0, .slice none 0 0]) ∧ i.size = 3 ∧ i.bytes = 40 := by
  have h1 := Try.infoSpan
  have h2 := span_bytes
  cases e : Try.prog.info? 101 with
  | none => rw [e] at h1; simp at h1
  | some i => rw [e] at h1 h2; simp at h1 h2; exact ⟨i, rfl, h1.1, h1.2, h2⟩
/-- The cells of a slice of spans that the call made. -/
def SpansC (w : World) (B : Nat) (v : Value) (n : Nat) (cs : List Value) : Prop := w.ownsRow B 101 3 v n cs
theorem spansC_kept {w w' : World} {B : Nat} {v : Value} {n : Nat} {cs : List Value} (h : SpansC w B v n cs) (hb : Below w.heap.size w w') : SpansC w' B v n cs := ownsRow_below h hb
/-- 'append(x, ..)' of m spans whose cells lie at ad. -/
theorem append_spans {w : World} {ops : Array Oper} {rest : List Oper} {o : Oper} {a : Act} {Q : Exit → Act → World → Prop} (hgd : o.guard = none) (s x : Operand)
    (ho : o.op = .call { callee := .builtin .append, args := #[s, x], argTypes := #[71, 71] })
    (B : Nat) (v : Value) (n : Nat) (cs : List Value) (hs : a.eval s = v) (hown : SpansC w B v n cs) (hB : B ≤ w.heap.size)
    (ad : Addr) (m c : Nat) (news : List Value) (hx : a.eval x = .slice (some ad) m c) (hl : news.length = m * 3) (hnews : ∀ j u, news[j]? = some u → w.cell? (ad.add j) = some u) (h1 : ∀ u ∈ news, u.oneCell' = true) (h63 : n + m ≤ 2097152)
    (h : ∀ v' w', SpansC w' B v' (n + m) (cs ++ news) → w.grownBy w' v.ownBlock → (v' = .slice none 0 0 ↔ v = .slice none 0 0 ∧ m = 0) → (v'.ownBlock = v.ownBlock ∨ v'.ownBlock = some w.heap.size) → wpList Try.prog ops Q rest (a.put o.dst v') w') : wpList Try.prog ops Q (o :: rest) a w := by
  obtain ⟨i0, hi, hz0, hz1, hz2⟩ := info_span
  exact wpList_append_own_at _ hgd s x 71 ho B 101 i0 (.agg #[.int .i64 0, .int .i64 0, .slice none 0 0]) 3 40 Try.underlying71 hi hz0 hz1 hz2 rfl (by decide) v n cs hs hown ad m c news hx hl hnews h1 (by unfold maxLen; omega) (by omega) hB h
/-- A span whose set lies in new memory is appended to a slice of spans that the call made. -/
theorem append_ownsP {w1 w2 w3 : World} {B D : Nat} {v v' vv : Value} {rs : List SpanD} {vs : Nat → Value} {cs : List Value} {r : SpanD}
    (h1 : w1.ownsRow B 101 3 v rs.length cs)
    (h2 : ∀ j, j < rs.length → cs[j * 3]? = some (.int .i64 (rs.getD j p0D).1) ∧ cs[j * 3 + 1]? = some (.int .i64 (rs.getD j p0D).2.1) ∧ cs[j * 3 + 2]? = some (vs j) ∧ OwnsN w1 B (vs j) (rs.getD j p0D).2.2 ∧ ∀ b, (vs j).ownBlock = some b → v.ownBlock ≠ some b)
    (h3 : ∀ i j, i < rs.length → j < rs.length → i ≠ j → ∀ b, (vs i).ownBlock = some b → (vs j).ownBlock ≠ some b)
    (hlow : ∀ j, j < rs.length → ∀ b, (vs j).ownBlock = some b → b < D) (hvlow : ∀ b, v.ownBlock = some b → b < D) (hBD : B ≤ D) (hv : OwnsN w1 D vv r.2.2)
    (h12 : Below w1.heap.size w1 w2) (hg : w2.grownBy w3 v.ownBlock) (hx : SpansC w3 B v' (rs.length + 1) (cs ++ [.int .i64 r.1, .int .i64 r.2.1, vv])) (hat : v'.ownBlock = v.ownBlock ∨ v'.ownBlock = some w2.heap.size) : OwnsP w3 B v' (rs ++ [r]) := by
  have hcl : cs.length = rs.length * 3 := h1.1
  have hlen : (rs ++ [r]).length = rs.length + 1 := by simp
  have old : ∀ j, j < rs.length → OwnsN w3 B (vs j) (rs.getD j p0D).2.2 := fun j hj => by
    refine World.ownsRow.kept (ownsN_below (h2 j hj).2.2.2.1 h12) hg ?_
    cases e : (vs j).ownBlock with
    | none => exact Or.inl rfl
    | some b => exact Or.inr (fun q => (h2 j hj).2.2.2.2 b e q.symm)
  have new : OwnsN w3 D vv r.2.2 := by
    refine World.ownsRow.kept (ownsN_below hv h12) hg ?_
    cases e : vv.ownBlock with
    | none => exact Or.inl rfl
    | some b => exact Or.inr (fun q => by have := hvlow b q.symm; have := (hv.lt b e).1; omega)
  have lt1 : ∀ j, j < rs.length → ∀ b, (vs j).ownBlock = some b → b < w2.heap.size := fun j hj b e => Nat.lt_of_lt_of_le ((h2 j hj).2.2.2.1.lt b e).2 h12.size
  have lt2 : ∀ b, vv.ownBlock = some b → b < w2.heap.size := fun b e => Nat.lt_of_lt_of_le (hv.lt b e).2 h12.size
  have get_old : ∀ j, j < rs.length → (rs ++ [r]).getD j p0D = rs.getD j p0D := fun j hj => by simp [List.getD, List.getElem?_append_left hj]
  have get_new : (rs ++ [r]).getD rs.length p0D = r := by simp [List.getD]
  refine ⟨cs ++ [.int .i64 r.1, .int .i64 r.2.1, vv], fun j => if j < rs.length then vs j else vv, by rw [hlen]; exact hx, fun j hj => ?_, fun i j hi hj hij b hb => ?_⟩
  · rw [hlen] at hj
    by_cases c : j < rs.length
    · simp only [if_pos c]
      obtain ⟨g1, g1b, g2, _, g4⟩ := h2 j c
      rw [get_old j c, List.getElem?_append_left (by omega), List.getElem?_append_left (by omega), List.getElem?_append_left (by omega)]
      refine ⟨g1, g1b, g2, old j c, fun b e q => ?_⟩
      rcases hat with h | h
      · rw [h] at q; exact g4 b e q
      · rw [h] at q; have := lt1 j c b e; have := Option.some.inj q; omega
    · obtain rfl : j = rs.length := by omega
      simp only [if_neg c]
      rw [get_new, List.getElem?_append_right (by omega), List.getElem?_append_right (by omega), List.getElem?_append_right (by omega), show rs.length * 3 - cs.length = 0 by omega, show rs.length * 3 + 1 - cs.length = 1 by omega, show rs.length * 3 + 2 - cs.length = 2 by omega]
      refine ⟨rfl, rfl, rfl, ownsN_up new hBD, fun b e q => ?_⟩
      rcases hat with h | h
      · rw [h] at q; have := hvlow b q; have := (hv.lt b e).1; omega
      · rw [h] at q; have := lt2 b e; have := Option.some.inj q; omega
  · rw [hlen] at hi hj
    by_cases ci : i < rs.length
    · by_cases cj : j < rs.length
      · simp only [if_pos ci, if_pos cj] at hb ⊢
        exact h3 i j ci cj hij b hb
      · simp only [if_pos ci, if_neg cj] at hb ⊢
        intro q
        have := hlow i ci b hb
        have := (hv.lt b q).1
        omega
    · have cj : j < rs.length := by omega
      simp only [if_neg ci, if_pos cj] at hb ⊢
      intro q
      have := hlow j cj b q
      have := (hv.lt b hb).1
      omega
/-- The last number of span k is stored. -/
theorem ownsP_to {w : World} {B g n cap : Nat} {rs : List SpanD} (h : OwnsP w B (.slice (some ⟨g, 0, none⟩) n cap) rs) {k : Nat} (hk : k < rs.length) (x : Int) :
    OwnsP (w.setCell ⟨g, k * 3 + 1, none⟩ (.int .i64 x)) B (.slice (some ⟨g, 0, none⟩) n cap) (rs.set k ((rs.getD k p0D).1, x, (rs.getD k p0D).2.2)) := by
  obtain ⟨cs, vs, h1, h2, h3⟩ := h
  have hn : n = rs.length := by
    rcases h1.2 with ⟨h', _⟩ | ⟨_, _, _, h', _⟩
    · simp at h'
    · simp only [Value.slice.injEq] at h'; exact h'.2.1
  subst hn
  have hcl : cs.length = rs.length * 3 := h1.1
  have s1 := (World.ownsRow.stored h1 (k * 3 + 1) (.int .i64 x)).1
  have hp : ∀ i, i < rs.length → (vs i).ownBlock = none ∨ (vs i).ownBlock ≠ some g := fun i hi => by
    cases e : (vs i).ownBlock with
    | none => exact Or.inl rfl
    | some b => exact Or.inr (fun q => (h2 i hi).2.2.2.2 b e (by rw [q]; rfl))
  refine ⟨cs.set (k * 3 + 1) (.int .i64 x), vs, by rw [List.length_set]; exact s1, ?_, by rw [List.length_set]; exact h3⟩
  intro i hi
  rw [List.length_set] at hi
  obtain ⟨g1, g2, g3, g4, g5⟩ := h2 i hi
  have kn := World.ownsRow.kept g4 (grow_set w g (k * 3 + 1) (.int .i64 x)) (hp i hi)
  by_cases e : i = k
  · subst e
    have er : (rs.set i (((rs.getD i p0D).1, x, (rs.getD i p0D).2.2) : SpanD)).getD i p0D = ((rs.getD i p0D).1, x, (rs.getD i p0D).2.2) := by
      simp only [List.getD]
      rw [List.getElem?_set_self hi]
      rfl
    rw [er]
    refine ⟨?_, ?_, ?_, kn, g5⟩
    · rw [List.getElem?_set_ne (by omega)]; exact g1
    · rw [List.getElem?_set_self (by omega)]
    · rw [List.getElem?_set_ne (by omega)]; exact g3
  · have er : (rs.set k (((rs.getD k p0D).1, x, (rs.getD k p0D).2.2) : SpanD)).getD i p0D = rs.getD i p0D := by
      simp only [List.getD]
      rw [List.getElem?_set_ne (Ne.symm e)]
    rw [er]
    refine ⟨?_, ?_, ?_, kn, g5⟩
    · rw [List.getElem?_set_ne (by omega)]; exact g1
    · rw [List.getElem?_set_ne (by omega)]; exact g2
    · rw [List.getElem?_set_ne (by omega)]; exact g3
theorem ownsP_empty (w : World) : OwnsP (w.alloc (.cells #[] 101)) w.heap.size (.slice (some ⟨w.heap.size, 0, none⟩) 0 0) [] := by
  refine ⟨[], fun _ => .slice none 0 0, ?_, fun j hj => by simp at hj, fun i j hi => by simp at hi⟩
  exact World.ownsRow_lit (e := 101) (size := 3) w #[] 0 (Nat.le_refl _) (by unfold maxLen; omega) rfl
theorem ownsP_none (w : World) (B : Nat) : OwnsP w B (.slice none 0 0) [] :=
  ⟨[], fun _ => .slice none 0 0, World.ownsRow_nil w B _ _, fun j hj => by simp at hj, fun i j hi => by simp at hi⟩
theorem ownsP_shape {w : World} {B : Nat} {v : Value} {rs : List SpanD} (h : OwnsP w B v rs) (hp : 0 < rs.length) : ∃ g cap, v = .slice (some ⟨g, 0, none⟩) rs.length cap ∧ B ≤ g ∧ g < w.heap.size ∧
    w.frozen? ⟨g, (rs.length - 1) * 3 + 1, none⟩ = false ∧ ∃ vv, w.cell? ⟨g, (rs.length - 1) * 3 + 2, none⟩ = some vv ∧ w.cell? ⟨g, (rs.length - 1) * 3 + 1, none⟩ = some (.int .i64 (rs.getD (rs.length - 1) p0D).2.1) ∧ Ints w vv (rs.getD (rs.length - 1) p0D).2.2 := by
  obtain ⟨cs, vs, h1, h2, _⟩ := h
  have h1' := h1
  rcases h1.2 with ⟨_, h0⟩ | ⟨g, cap, cur, rfl, hb, hg, _⟩
  · omega
  · have hl : rs.length - 1 < rs.length := by omega
    obtain ⟨g1, g2, g3, g4, _⟩ := h2 _ hl
    exact ⟨g, cap, rfl, hb, (Array.getElem?_eq_some_iff.1 hg).1, World.ownsRow.frozenAt h1' _, vs (rs.length - 1), (World.ownsRow.cellAt h1' _ (by omega)).trans g3, (World.ownsRow.cellAt h1' _ (by omega)).trans g2, ownsN_ints g4⟩
theorem stepP_set {acc : List SpanD} {v : Int} {s : List Int} (h0 : 0 < acc.length) (h : (acc.getD (acc.length - 1) p0D).2.2 = s) : acc.set (acc.length - 1) ((acc.getD (acc.length - 1) p0D).1, v, (acc.getD (acc.length - 1) p0D).2.2) = stepP acc v s := by
  unfold stepP; rw [if_pos ⟨h0, h⟩]
theorem stepP_app {acc : List SpanD} {v : Int} {s : List Int} (h : ¬ (0 < acc.length ∧ (acc.getD (acc.length - 1) p0D).2.2 = s)) : acc ++ [(v, v, s)] = stepP acc v s := by
  unfold stepP; rw [if_neg h]
theorem spansL_no {a : List QD} {f : Int} (h : (areQB a && okF f) = false) : spansL a f = [] := by
  unfold spansL; exact if_neg (by rw [h]; exact Bool.noConfusion)
theorem spansL_yes {a : List QD} {f : Int} (h : (areQB a && okF f) = true) : spansL a f = spansTo (stabL a f) 100 := by
  unfold spansL; exact if_pos h
end Go.Proofs.Yteelgogfpidcdaa
