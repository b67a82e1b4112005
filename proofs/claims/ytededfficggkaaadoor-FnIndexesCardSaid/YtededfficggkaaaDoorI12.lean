/-
 Texts of the proof, merged: BrQuery, SpanApp, SpanEq.
-/
import Derived.Test.YtededfficggkaaaDoorI2
import Derived.Test.YtededfficggkaaaDoorI4
import Derived.Test.YtededfficggkaaaDoorI5
import Derived.Test.YtededfficggkaaaDoorI10
import Derived.Test.YtededfficggkaaaDoorI11
namespace Go.Proofs.YtededfficggkaaaDoor
open Go.RowKit
set_option linter.unusedVariables false
set_option linter.unusedSimpArgs false
theorem conds_slR {w : World} {v : Value} {cs : List CondD} (h : CondsR w v cs) : SlR tCond w v cs := by
 rcases h with h | ⟨b, off, cap, h1, h2, h3, h4⟩
 ·
  exact Or.inl h
 ·
  refine Or.inr ⟨b, off, cap, fun j => [.int .i64 (cs.getD j (0, 0, 0)).1, .int .i64 (cs.getD j (0, 0, 0)).2.1, .int .i64 (cs.getD j (0, 0, 0)).2.2], h1, h2, h3, fun j hj => ⟨fun i hi => ?_, tCond_mkR⟩⟩
  have hi' : i < 3 := hi
  obtain ⟨g0, g1, g2⟩ := h4 j hj
  exact (match i, hi' with | 0, _ => g0 | 1, _ => g1 | 2, _ => g2)
theorem slR_conds {w : World} {v : Value} {cs : List CondD} (h : SlR tCond w v cs) : CondsR w v cs := by
 rcases h with h | ⟨b, off, cap, us, h1, h2, h3, h4⟩
 ·
  exact Or.inl h
 ·
  refine Or.inr ⟨b, off, cap, h1, h2, h3, fun j hj => ?_⟩
  obtain ⟨hc, hR⟩ := h4 j hj
  have e := tCond_R (a0 := (cs.getD j (0, 0, 0)).1) (a1 := (cs.getD j (0, 0, 0)).2.1) (a2 := (cs.getD j (0, 0, 0)).2.2) hR
  have c0 := hc 0 (by decide); have c1 := hc 1 (by decide); have c2 := hc 2 (by decide)
  simp only [e] at c0 c1 c2
  exact ⟨c0, c1, c2⟩
theorem zL_conds (cs : List CondD) : zL tCond cs = cs.length := zL_flat (fun _ => rfl) cs
theorem ownsC_slO {w : World} {B : Nat} {F : Nat → Prop} {v : Value} {cs : List CondD} (h : OwnsC w B v cs) (hF : ∀ b, v.ownBlock = some b → F b) : SlO 124 tCond w F v cs := by
 have hr := ownsC_conds h
 refine ⟨flatC cs, fun j => [.int .i64 (cs.getD j (0, 0, 0)).1, .int .i64 (cs.getD j (0, 0, 0)).2.1, .int .i64 (cs.getD j (0, 0, 0)).2.2], fun _ _ => False, row_low h (Nat.zero_le _), hF, fun j hj => ⟨fun i hi => ?_, tCond_mkO, fun b hb => False.elim hb⟩, fun i j _ _ _ b hb => False.elim hb⟩
 have hi' : i < 3 := hi
 have hlen : (flatC cs).length = cs.length * 3 := h.1
 rcases h.2 with ⟨_, h0⟩ | ⟨g, cap, cur, rfl, hb, hg, hn, hm, hcs, htake⟩
 ·
  omega
 ·
  rcases hr with ⟨e, _⟩ | ⟨b, off, cap', hv, _, _, h4⟩
  ·
   rw [e] at hj; simp at hj
  ·
   simp only [Value.slice.injEq, Option.some.injEq, Addr.mk.injEq] at hv
   obtain ⟨⟨rfl, rfl, _⟩, _, _⟩ := hv
   obtain ⟨g0, g1, g2⟩ := h4 j hj
   rw [Nat.zero_add] at g0 g1 g2
   have k0 := World.ownsRow.cellAt h (j * 3) (by omega); have k1 := World.ownsRow.cellAt h (j * 3 + 1) (by omega); have k2 := World.ownsRow.cellAt h (j * 3 + 2) (by omega)
   exact (match i, hi' with | 0, _ => k0.symm.trans g0 | 1, _ => k1.symm.trans g1 | 2, _ => k2.symm.trans g2)
theorem queries_slR {w : World} {v : Value} {qs : List QD} (h : QueriesR w v qs) : SlR tQuery w v qs := by
 rcases h with h | ⟨b, off, cap, vs, us, h1, h2, h3, h4⟩
 ·
  exact Or.inl h
 ·
  refine Or.inr ⟨b, off, cap, fun j => [.int .i64 (qs.getD j q0D).1, .int .i64 (qs.getD j q0D).2.1, vs j, us j], h1, h2, h3, fun j hj => ⟨fun i hi => ?_, tQuery_mkR (conds_slR (h4 j hj).2.2.2.2.1) (ints_slR (h4 j hj).2.2.2.2.2)⟩⟩
  have hi' : i < 4 := hi
  obtain ⟨g0, g1, g2, g3, _⟩ := h4 j hj
  exact (match i, hi' with | 0, _ => g0 | 1, _ => g1 | 2, _ => g2 | 3, _ => g3)
theorem slR_queries {w : World} {v : Value} {qs : List QD} (h : SlR tQuery w v qs) : QueriesR w v qs := by
 rcases h with h | ⟨b, off, cap, us, h1, h2, h3, h4⟩
 ·
  exact Or.inl h
 ·
  refine Or.inr ⟨b, off, cap, fun j => (us j).getD 2 (.slice none 0 0), fun j => (us j).getD 3 (.slice none 0 0), h1, h2, h3, fun j hj => ?_⟩
  obtain ⟨hc, hR⟩ := h4 j hj
  obtain ⟨v2, v3, e, g2, g3⟩ := tQuery_R (a0 := (qs.getD j q0D).1) (a1 := (qs.getD j q0D).2.1) (x2 := (qs.getD j q0D).2.2.1) (x3 := (qs.getD j q0D).2.2.2) hR
  have c0 := hc 0 (by decide); have c1 := hc 1 (by decide); have c2 := hc 2 (by decide); have c3 := hc 3 (by decide)
  simp only [e] at c0 c1 c2 c3 ⊢
  exact ⟨c0, c1, c2, c3, slR_conds g2, slR_ints g3⟩
theorem zL_queries (qs : List QD) : zL tQuery qs = szQL qs := by
 have hf : tQuery.sz = fun q : QD => q.2.2.1.length + q.2.2.2.length := by
  funext q; obtain ⟨a, b, x, y⟩ := q; rw [tQuery_sz, zL_ints, zL_conds]
 unfold zL zTo szQL szQTo sumN
 rw [hf]
theorem info_span : ∃ i, Tryd.prog.info? 43 = some i ∧ i.zero = some (.agg #[.int .i64 0, .int .i64 0, .slice none 0 0]) ∧ i.size = 3 ∧ i.bytes = 40 := by
 have h1 := Tryd.infoSpan
 have h2 := span_bytes
 cases e : Tryd.prog.info? 43 with
 | none => rw [e] at h1; simp at h1
 | some i => rw [e] at h1 h2; simp at h1 h2; exact ⟨i, rfl, h1.1, h1.2, h2⟩
/-- The cells of a slice of spans that the call made. -/
def SpansC (w : World) (B : Nat) (v : Value) (n : Nat) (cs : List Value) : Prop := w.ownsRow B 43 3 v n cs
theorem spansC_kept {w w' : World} {B : Nat} {v : Value} {n : Nat} {cs : List Value} (h : SpansC w B v n cs) (hb : Below w.heap.size w w') : SpansC w' B v n cs := ownsRow_below h hb
/-- 'append(x, ..)' of m spans whose cells lie at ad. -/
theorem append_spans {w : World} {ops : Array Oper} {rest : List Oper} {o : Oper} {a : Act} {Q : Exit → Act → World → Prop} (hgd : o.guard = none) (s x : Operand)
  (ho : o.op = .call { callee := .builtin .append, args := #[s, x], argTypes := #[37, 37] })
  (B : Nat) (v : Value) (n : Nat) (cs : List Value) (hs : a.eval s = v) (hown : SpansC w B v n cs) (hB : B ≤ w.heap.size)
  (ad : Addr) (m c : Nat) (news : List Value) (hx : a.eval x = .slice (some ad) m c) (hl : news.length = m * 3) (hnews : ∀ j u, news[j]? = some u → w.cell? (ad.add j) = some u) (h1 : ∀ u ∈ news, u.oneCell' = true) (h63 : n + m ≤ 2097152)
  (h : ∀ v' w', SpansC w' B v' (n + m) (cs ++ news) → w.grownBy w' v.ownBlock → (v' = .slice none 0 0 ↔ v = .slice none 0 0 ∧ m = 0) → (v'.ownBlock = v.ownBlock ∨ v'.ownBlock = some w.heap.size) → wpList Tryd.prog ops Q rest (a.put o.dst v') w') : wpList Tryd.prog ops Q (o :: rest) a w := by
 obtain ⟨i0, hi, hz0, hz1, hz2⟩ := info_span
 exact wpList_append_own_at _ hgd s x 37 ho B 43 i0 (.agg #[.int .i64 0, .int .i64 0, .slice none 0 0]) 3 40 Tryd.underlying37 hi hz0 hz1 hz2 rfl (by decide) v n cs hs hown ad m c news hx hl hnews h1 (by unfold maxLen; omega) (by omega) hB h
/-- A span whose set lies in new memory is appended to a slice of spans that the call made. -/
theorem append_ownsP {w1 w2 w3 : World} {B D : Nat} {v v' vv : Value} {rs : List SpanD} {vs : Nat → Value} {cs : List Value} {r : SpanD}
  (h1 : w1.ownsRow B 43 3 v rs.length cs)
  (h2 : ∀ j, j < rs.length → cs[j * 3]? = some (.int .i64 (rs.getD j p0D).1) ∧ cs[j * 3 + 1]? = some (.int .i64 (rs.getD j p0D).2.1) ∧ cs[j * 3 + 2]? = some (vs j) ∧ OwnsN w1 B (vs j) (rs.getD j p0D).2.2 ∧ ∀ b, (vs j).ownBlock = some b → v.ownBlock ≠ some b)
  (h3 : ∀ i j, i < rs.length → j < rs.length → i ≠ j → ∀ b, (vs i).ownBlock = some b → (vs j).ownBlock ≠ some b)
  (hlow : ∀ j, j < rs.length → ∀ b, (vs j).ownBlock = some b → b < D) (hvlow : ∀ b, v.ownBlock = some b → b < D) (hBD : B ≤ D) (hv : OwnsN w1 D vv r.2.2)
  (h12 : Below w1.heap.size w1 w2) (hg : w2.grownBy w3 v.ownBlock) (hx : SpansC w3 B v' (rs.length + 1) (cs ++ [.int .i64 r.1, .int .i64 r.2.1, vv])) (hat : v'.ownBlock = v.ownBlock ∨ v'.ownBlock = some w2.heap.size) : OwnsP w3 B v' (rs ++ [r]) := by
 have hcl : cs.length = rs.length * 3 := h1.1
 have hlen : (rs ++ [r]).length = rs.length + 1 := by simp
 have old : ∀ j, j < rs.length → OwnsN w3 B (vs j) (rs.getD j p0D).2.2 := fun j hj => by
  refine World.ownsRow.kept (ownsN_below (h2 j hj).2.2.2.1 h12) hg ?_
  cases e : (vs j).ownBlock with
  | none => exact Or.inl rfl
  | some b => exact Or.inr (fun q => (h2 j hj).2.2.2.2 b e q.symm)
 have new : OwnsN w3 D vv r.2.2 := by
  refine World.ownsRow.kept (ownsN_below hv h12) hg ?_
  cases e : vv.ownBlock with
  | none => exact Or.inl rfl
  | some b => exact Or.inr (fun q => by have := hvlow b q.symm; have := (hv.lt b e).1; omega)
 have lt1 : ∀ j, j < rs.length → ∀ b, (vs j).ownBlock = some b → b < w2.heap.size := fun j hj b e => Nat.lt_of_lt_of_le ((h2 j hj).2.2.2.1.lt b e).2 h12.size
 have lt2 : ∀ b, vv.ownBlock = some b → b < w2.heap.size := fun b e => Nat.lt_of_lt_of_le (hv.lt b e).2 h12.size
 have get_old : ∀ j, j < rs.length → (rs ++ [r]).getD j p0D = rs.getD j p0D := fun j hj => by simp [List.getD, List.getElem?_append_left hj]
 have get_new : (rs ++ [r]).getD rs.length p0D = r := by simp [List.getD]
 refine ⟨cs ++ [.int .i64 r.1, .int .i64 r.2.1, vv], fun j => if j < rs.length then vs j else vv, by rw [hlen]; exact hx, fun j hj => ?_, fun i j hi hj hij b hb => ?_⟩
 ·
  rw [hlen] at hj
  by_cases c : j < rs.length
  ·
   simp only [if_pos c]
   obtain ⟨g1, g1b, g2, _, g4⟩ := h2 j c
   rw [get_old j c, List.getElem?_append_left (by omega), List.getElem?_append_left (by omega), List.getElem?_append_left (by omega)]
   refine ⟨g1, g1b, g2, old j c, fun b e q => ?_⟩
   rcases hat with h | h
   ·
    rw [h] at q; exact g4 b e q
   ·
    rw [h] at q; have := lt1 j c b e; have := Option.some.inj q; omega
  ·
   obtain rfl : j = rs.length := by omega
   simp only [if_neg c]
   rw [get_new, List.getElem?_append_right (by omega), List.getElem?_append_right (by omega), List.getElem?_append_right (by omega), show rs.length * 3 - cs.length = 0 by omega, show rs.length * 3 + 1 - cs.length = 1 by omega, show rs.length * 3 + 2 - cs.length = 2 by omega]
   refine ⟨rfl, rfl, rfl, ownsN_up new hBD, fun b e q => ?_⟩
   rcases hat with h | h
   ·
    rw [h] at q; have := hvlow b q; have := (hv.lt b e).1; omega
   ·
    rw [h] at q; have := lt2 b e; have := Option.some.inj q; omega
 ·
  rw [hlen] at hi hj
  by_cases ci : i < rs.length
  ·
   by_cases cj : j < rs.length
   ·
    simp only [if_pos ci, if_pos cj] at hb ⊢
    exact h3 i j ci cj hij b hb
   ·
    simp only [if_pos ci, if_neg cj] at hb ⊢
    intro q
    have := hlow i ci b hb
    have := (hv.lt b q).1
    omega
  ·
   have cj : j < rs.length := by omega
   simp only [if_neg ci, if_pos cj] at hb ⊢
   intro q
   have := hlow j cj b q
   have := (hv.lt b hb).1
   omega
/-- The last number of span k is stored. -/
theorem ownsP_to {w : World} {B g n cap : Nat} {rs : List SpanD} (h : OwnsP w B (.slice (some ⟨g, 0, none⟩) n cap) rs) {k : Nat} (hk : k < rs.length) (x : Int) :
  OwnsP (w.setCell ⟨g, k * 3 + 1, none⟩ (.int .i64 x)) B (.slice (some ⟨g, 0, none⟩) n cap) (rs.set k ((rs.getD k p0D).1, x, (rs.getD k p0D).2.2)) := by
 obtain ⟨cs, vs, h1, h2, h3⟩ := h
 have hn : n = rs.length := by
  rcases h1.2 with ⟨h', _⟩ | ⟨_, _, _, h', _⟩
  ·
   simp at h'
  ·
   simp only [Value.slice.injEq] at h'; exact h'.2.1
 subst hn
 have hcl : cs.length = rs.length * 3 := h1.1
 have s1 := (World.ownsRow.stored h1 (k * 3 + 1) (.int .i64 x)).1
 have hp : ∀ i, i < rs.length → (vs i).ownBlock = none ∨ (vs i).ownBlock ≠ some g := fun i hi => by
  cases e : (vs i).ownBlock with
  | none => exact Or.inl rfl
  | some b => exact Or.inr (fun q => (h2 i hi).2.2.2.2 b e (by rw [q]; rfl))
 refine ⟨cs.set (k * 3 + 1) (.int .i64 x), vs, by rw [List.length_set]; exact s1, ?_, by rw [List.length_set]; exact h3⟩
 intro i hi
 rw [List.length_set] at hi
 obtain ⟨g1, g2, g3, g4, g5⟩ := h2 i hi
 have kn := World.ownsRow.kept g4 (grow_set w g (k * 3 + 1) (.int .i64 x)) (hp i hi)
 by_cases e : i = k
 ·
  subst e
  have er : (rs.set i (((rs.getD i p0D).1, x, (rs.getD i p0D).2.2) : SpanD)).getD i p0D = ((rs.getD i p0D).1, x, (rs.getD i p0D).2.2) := by
   simp only [List.getD]
   rw [List.getElem?_set_self hi]
   rfl
  rw [er]
  refine ⟨?_, ?_, ?_, kn, g5⟩
  ·
   rw [List.getElem?_set_ne (by omega)]; exact g1
  ·
   rw [List.getElem?_set_self (by omega)]
  ·
   rw [List.getElem?_set_ne (by omega)]; exact g3
 ·
  have er : (rs.set k (((rs.getD k p0D).1, x, (rs.getD k p0D).2.2) : SpanD)).getD i p0D = rs.getD i p0D := by
   simp only [List.getD]
   rw [List.getElem?_set_ne (Ne.symm e)]
  rw [er]
  refine ⟨?_, ?_, ?_, kn, g5⟩
  ·
   rw [List.getElem?_set_ne (by omega)]; exact g1
  ·
   rw [List.getElem?_set_ne (by omega)]; exact g2
  ·
   rw [List.getElem?_set_ne (by omega)]; exact g3
theorem ownsP_empty (w : World) : OwnsP (w.alloc (.cells #[] 43)) w.heap.size (.slice (some ⟨w.heap.size, 0, none⟩) 0 0) [] := by
 refine ⟨[], fun _ => .slice none 0 0, ?_, fun j hj => by simp at hj, fun i j hi => by simp at hi⟩
 exact World.ownsRow_lit (e := 43) (size := 3) w #[] 0 (Nat.le_refl _) (by unfold maxLen; omega) rfl
theorem ownsP_none (w : World) (B : Nat) : OwnsP w B (.slice none 0 0) [] :=
 ⟨[], fun _ => .slice none 0 0, World.ownsRow_nil w B _ _, fun j hj => by simp at hj, fun i j hi => by simp at hi⟩
theorem ownsP_shape {w : World} {B : Nat} {v : Value} {rs : List SpanD} (h : OwnsP w B v rs) (hp : 0 < rs.length) : ∃ g cap, v = .slice (some ⟨g, 0, none⟩) rs.length cap ∧ B ≤ g ∧ g < w.heap.size ∧
  w.frozen? ⟨g, (rs.length - 1) * 3 + 1, none⟩ = false ∧ ∃ vv, w.cell? ⟨g, (rs.length - 1) * 3 + 2, none⟩ = some vv ∧ w.cell? ⟨g, (rs.length - 1) * 3 + 1, none⟩ = some (.int .i64 (rs.getD (rs.length - 1) p0D).2.1) ∧ Ints w vv (rs.getD (rs.length - 1) p0D).2.2 := by
 obtain ⟨cs, vs, h1, h2, _⟩ := h
 have h1' := h1
 rcases h1.2 with ⟨_, h0⟩ | ⟨g, cap, cur, rfl, hb, hg, _⟩
 ·
  omega
 ·
  have hl : rs.length - 1 < rs.length := by omega
  obtain ⟨g1, g2, g3, g4, _⟩ := h2 _ hl
  exact ⟨g, cap, rfl, hb, (Array.getElem?_eq_some_iff.1 hg).1, World.ownsRow.frozenAt h1' _, vs (rs.length - 1), (World.ownsRow.cellAt h1' _ (by omega)).trans g3, (World.ownsRow.cellAt h1' _ (by omega)).trans g2, ownsN_ints g4⟩
theorem stepP_set {acc : List SpanD} {v : Int} {s : List Int} (h0 : 0 < acc.length) (h : (acc.getD (acc.length - 1) p0D).2.2 = s) : acc.set (acc.length - 1) ((acc.getD (acc.length - 1) p0D).1, v, (acc.getD (acc.length - 1) p0D).2.2) = stepP acc v s := by
 unfold stepP; rw [if_pos ⟨h0, h⟩]
theorem stepP_app {acc : List SpanD} {v : Int} {s : List Int} (h : ¬ (0 < acc.length ∧ (acc.getD (acc.length - 1) p0D).2.2 = s)) : acc ++ [(v, v, s)] = stepP acc v s := by
 unfold stepP; rw [if_neg h]
theorem spansL_no {a : List QD} {f : Int} (h : (areQB a && okF f) = false) : spansL a f = [] := by
 unfold spansL; exact if_neg (by rw [h]; exact Bool.noConfusion)
theorem spansL_yes {a : List QD} {f : Int} (h : (areQB a && okF f) = true) : spansL a f = spansTo (stabL a f) 100 := by
 unfold spansL; exact if_pos h
theorem zpL_len {rs : List SpanD} (hs : zpL rs ≤ 1048576) : rs.length ≤ 1048576 := by
 have := zpTo_le (rs := rs) (Nat.zero_le _); rw [zpTo_zero] at this; omega
theorem spans_ne_at {rs ss : List SpanD} {k : Nat} (h : ¬ rs.getD k p0D = ss.getD k p0D) : ¬ rs = ss := fun e => h (by rw [e])
theorem spans_eq_all {rs ss : List SpanD} (hl : rs.length = ss.length) (h : ∀ j, j < rs.length → rs.getD j p0D = ss.getD j p0D) : rs = ss := by
 apply List.ext_getElem hl
 intro i h1 h2
 have := h i h1
 simpa [List.getD, h1, h2] using this
set_option maxHeartbeats 16000000 in
set_option maxRecDepth 100000 in
theorem specEqSpans (v u : Value) (rs ss : List SpanD) (w : World) (h : SpansR w v rs) (g : SpansR w u ss) (hs : zpL rs ≤ 1048576) (ht : zpL ss ≤ 1048576) :
  Calls Tryd.prog 25 #[v, u] w fun e w' => e = .returned (.bool (decide (rs = ss))) ∧ Below w.heap.size w w' := by
 have H := Lib.hid h
 have G := Lib.hid g
 have HS := Lib.hid hs
 have HT := Lib.hid ht
 have hlen := zpL_len hs
 obtain ⟨a, cap, rfl⟩ := spansR_len h
 obtain ⟨a2, cap2, rfl⟩ := spansR_len g
 clear h g hs ht
 by_cases hl : rs.length = ss.length
 ·
  have HL := Lib.hid hl
  have hne : ((rs.length : Int) != (ss.length : Int)) = false := by rw [hl]; simp
  clear hl
  go_enter Tryd.func25, Tryd.ntmps25
  go_wp2
  clear hne
  go_loopw [5] (fun i wr => ∃ k : Nat, k ≤ rs.length ∧ i = .int .i64 k ∧ Hid (∀ j, j < k → rs.getD j p0D = ss.getD j p0D) ∧ Below w.heap.size w wr) (fun i _ => rs.length - (intOf i).toNat)
  case atStart => exact ⟨0, Nat.zero_le _, rfl, Lib.hid (fun j hj => by omega), Below.refl _ _⟩
  case round =>
   obtain ⟨k, hk, rfl, hall, hbel⟩ := hrel
   by_cases hlt : k < rs.length
   ·
    have hlt2 : k < ss.length := by have := HL.out; omega
    obtain ⟨b, off, cap', vv, hv, hbl, hc1, hc2, hc3, hI⟩ := spansR_at (spansR_below H.out hbel) hlt
    simp only [Value.slice.injEq] at hv
    obtain ⟨rfl, _, rfl⟩ := hv
    obtain ⟨b2, off2, cap2', uv, hv2, hbl2, hd1, hd2, hd3, hJ⟩ := spansR_at (spansR_below G.out hbel) hlt2
    simp only [Value.slice.injEq] at hv2
    obtain ⟨rfl, _, rfl⟩ := hv2
    have hxl := zpL_span HS.out hlt
    have hyl := zpL_span HT.out hlt2
    have i1 : (0 : Int) ≤ (k : Int) := by omega
    have i2 : (k : Int) < (rs.length : Int) := by omega
    have i3 : (k : Int) < (ss.length : Int) := by omega
    have HNE := Lib.hid (fun e => decide_eq_false (spans_ne_at (rs := rs) (ss := ss) (k := k) e))
    have HALL : Hid (rs.getD k p0D = ss.getD k p0D → ∀ j, j < k + 1 → rs.getD j p0D = ss.getD j p0D) := Lib.hid (fun he j hj => by
     by_cases e : j = k
     ·
      exact e ▸ he
     ·
      exact hall.out j (by omega))
    clear hall
    generalize rs.getD k p0D = r at *
    generalize ss.getD k p0D = q at *
    obtain ⟨sf, st, xs⟩ := r
    obtain ⟨tf, tt, ys⟩ := q
    simp only at hc1 hc2 hc3 hd1 hd2 hd3 hI hJ hxl hyl
    have HII := Lib.hid hI
    have HJJ := Lib.hid hJ
    have HSI := Lib.hid (fun w h g => specInts vv uv xs ys w h g hxl hyl)
    clear hI hJ hxl hyl
    by_cases hf : sf = tf
    ·
     subst hf
     have ef : (sf != sf) = false := by simp
     by_cases ht : st = tt
     ·
      subst ht
      have et : (st != st) = false := by simp
      by_cases hx : xs = ys
      ·
       have HA := Lib.hid (HALL.out (by rw [hx]))
       rw [decide_eq_true hx] at HSI
       clear hx HNE HALL
       go_wp2
       refine wp_region_held_drew (S := fun w' => w'.cell? ⟨b, off + k * 3, none⟩ = some (.int .i64 sf) ∧ w'.cell? ⟨b, off + k * 3 + 1, none⟩ = some (.int .i64 st) ∧ w'.cell? ⟨b, off + k * 3 + 2, none⟩ = some vv ∧ w'.cell? ⟨b2, off2 + k * 3, none⟩ = some (.int .i64 sf) ∧ w'.cell? ⟨b2, off2 + k * 3 + 1, none⟩ = some (.int .i64 st) ∧ w'.cell? ⟨b2, off2 + k * 3 + 2, none⟩ = some uv) (by kernel_rfl) ⟨hc1, hc2, hc3, hd1, hd2, hd3⟩ (fun hHeld => ?_)
       refine tR (i := 0) (v := ?_) ?_ ?_; rotate_left
       ·
        intro w hSw; (try dsimp only at hSw); go_simp; try (with_reducible rfl)
       try simp only [Act.put, lA, lB, lC]
       refine tR (i := 1) (v := ?_) ?_ ?_; rotate_left
       ·
        intro w hSw; (try dsimp only at hSw); go_simp; try (with_reducible rfl)
       try simp only [Act.put, lA, lB, lC]
       refine tR (i := 2) (v := ?_) ?_ ?_; rotate_left
       ·
        intro w hSw; (try dsimp only at hSw); go_simp; try (with_reducible rfl)
       try simp only [Act.put, lA, lB, lC]
       refine tR (i := 3) (v := ?_) ?_ ?_; rotate_left
       ·
        intro w hSw; (try dsimp only at hSw); go_simp; try (with_reducible rfl)
       try simp only [Act.put, lA, lB, lC]
       refine tR (i := 4) (v := ?_) ?_ ?_; rotate_left
       ·
        intro w hSw; (try dsimp only at hSw); go_simp; try (with_reducible rfl)
       try simp only [Act.put, lA, lB, lC]
       refine tR (i := 5) (v := ?_) ?_ ?_; rotate_left
       ·
        intro w hSw; (try dsimp only at hSw); go_simp; try (with_reducible rfl)
       try simp only [Act.put, lA, lB, lC]
       refine tR (i := 6) (v := ?_) ?_ ?_; rotate_left
       ·
        intro w hSw; (try dsimp only at hSw); go_simp; try (with_reducible rfl)
       try simp only [Act.put, lA, lB, lC]
       refine tR (i := 7) (v := ?_) ?_ ?_; rotate_left
       ·
        intro w hSw; (try dsimp only at hSw); go_simp; try (with_reducible rfl)
       try simp only [Act.put, lA, lB, lC]
       refine tR (i := 8) (v := ?_) ?_ ?_; rotate_left
       ·
        intro w hSw; (try dsimp only at hSw); go_simp; try (with_reducible rfl)
       try simp only [Act.put, lA, lB, lC]
       refine tR (i := 9) (v := ?_) ?_ ?_; rotate_left
       ·
        intro w hSw; (try dsimp only at hSw); go_simp; try (with_reducible rfl)
       try simp only [Act.put, lA, lB, lC]
       refine tR (i := 10) (v := ?_) ?_ ?_; rotate_left
       ·
        intro w hSw; (try dsimp only at hSw); go_simp; try (with_reducible rfl)
       try simp only [Act.put, lA, lB, lC]
       refine tR (i := 11) (v := ?_) ?_ ?_; rotate_left
       ·
        intro w hSw; (try dsimp only at hSw); go_simp; try (with_reducible rfl)
       try simp only [Act.put, lA, lB, lC]
       refine tR (i := 12) (v := ?_) ?_ ?_; rotate_left
       ·
        intro w hSw; (try dsimp only at hSw); go_simp; try (with_reducible rfl)
       try simp only [Act.put, lA, lB, lC]
       refine tR (i := 13) (v := ?_) ?_ ?_; rotate_left
       ·
        intro w hSw; (try dsimp only at hSw); go_simp; try (with_reducible rfl)
       try simp only [Act.put, lA, lB, lC]
       refine tR (i := 14) (v := ?_) ?_ ?_; rotate_left
       ·
        intro w hSw; (try dsimp only at hSw); go_simp; try (with_reducible rfl)
       try simp only [Act.put, lA, lB, lC]
       refine tR (i := 15) (v := ?_) ?_ ?_; rotate_left
       ·
        intro w hSw; (try dsimp only at hSw); go_simp; try (with_reducible rfl)
       try simp only [Act.put, lA, lB, lC]
       refine tR (i := 16) (v := ?_) ?_ ?_; rotate_left
       ·
        intro w hSw; (try dsimp only at hSw); go_simp; try (with_reducible rfl)
       try simp only [Act.put, lA, lB, lC]
       refine tR (i := 17) (v := ?_) ?_ ?_; rotate_left
       ·
        intro w hSw; (try dsimp only at hSw); go_simp; try (with_reducible rfl)
       try simp only [Act.put, lA, lB, lC]
       refine tR (i := 18) (v := ?_) ?_ ?_; rotate_left
       ·
        intro w hSw; (try dsimp only at hSw); go_simp; try (with_reducible rfl)
       try simp only [Act.put, lA, lB, lC]
       refine tR (i := 19) (v := ?_) ?_ ?_; rotate_left
       ·
        intro w hSw; (try dsimp only at hSw); go_simp; try (with_reducible rfl)
       try simp only [Act.put, lA, lB, lC]
       refine tR (i := 20) (v := ?_) ?_ ?_; rotate_left
       ·
        intro w hSw; (try dsimp only at hSw); go_simp; try (with_reducible rfl)
       try simp only [Act.put, lA, lB, lC]
       refine tR (i := 21) (v := ?_) ?_ ?_; rotate_left
       ·
        intro w hSw; (try dsimp only at hSw); go_simp; try (with_reducible rfl)
       try simp only [Act.put, lA, lB, lC]
       refine tR (i := 22) (v := ?_) ?_ ?_; rotate_left
       ·
        intro w hSw; (try dsimp only at hSw); go_simp; try (with_reducible rfl)
       try simp only [Act.put, lA, lB, lC]
       refine tR (i := 23) (v := ?_) ?_ ?_; rotate_left
       ·
        intro w hSw; (try dsimp only at hSw); go_simp; try (with_reducible rfl)
       try simp only [Act.put, lA, lB, lC]
       refine tR (i := 24) (v := ?_) ?_ ?_; rotate_left
       ·
        intro w hSw; (try dsimp only at hSw); go_simp; try (with_reducible rfl)
       try simp only [Act.put, lA, lB, lC]
       refine tR (i := 25) (v := ?_) ?_ ?_; rotate_left
       ·
        intro w hSw; (try dsimp only at hSw); go_simp; try (with_reducible rfl)
       try simp only [Act.put, lA, lB, lC]
       refine tR (i := 26) (v := ?_) ?_ ?_; rotate_left
       ·
        intro w hSw; (try dsimp only at hSw); go_simp; try (with_reducible rfl)
       try simp only [Act.put, lA, lB, lC]
       refine tR (i := 27) (v := ?_) ?_ ?_; rotate_left
       ·
        intro w hSw; (try dsimp only at hSw); go_simp; try (with_reducible rfl)
       try simp only [Act.put, lA, lB, lC]
       refine tR (i := 28) (v := ?_) ?_ ?_; rotate_left
       ·
        intro w hSw; (try dsimp only at hSw); go_simp; try (with_reducible rfl)
       try simp only [Act.put, lA, lB, lC]
       refine tR (i := 29) (v := ?_) ?_ ?_; rotate_left
       ·
        intro w hSw; (try dsimp only at hSw); go_simp; try (with_reducible rfl)
       try simp only [Act.put, lA, lB, lC]
       refine tR (i := 30) (v := ?_) ?_ ?_; rotate_left
       ·
        intro w hSw; (try dsimp only at hSw); go_simp; try (with_reducible rfl)
       try simp only [Act.put, lA, lB, lC]
       refine tR (i := 31) (v := ?_) ?_ ?_; rotate_left
       ·
        intro w hSw; (try dsimp only at hSw); go_simp; try (with_reducible rfl)
       try simp only [Act.put, lA, lB, lC]
       refine tR (i := 32) (v := ?_) ?_ ?_; rotate_left
       ·
        intro w hSw; (try dsimp only at hSw); go_simp; try (with_reducible rfl)
       try simp only [Act.put, lA, lB, lC]
       refine tR (i := 33) (v := ?_) ?_ ?_; rotate_left
       ·
        intro w hSw; (try dsimp only at hSw); go_simp; try (with_reducible rfl)
       try simp only [Act.put, lA, lB, lC]
       refine tR (i := 34) (v := ?_) ?_ ?_; rotate_left
       ·
        intro w hSw; (try dsimp only at hSw); go_simp; try (with_reducible rfl)
       try simp only [Act.put, lA, lB, lC]
       refine wpAnyH_ready (rs := [35]) (by kernel_rfl) (by simp) ?_
       refine AllReadyH.cons (o := _) (by simp only [hA, hB, hC]; rfl) (fun K hK => ?_) AllReadyH.nil
       go_simp
       refine (HSI.out _ (by exact ints_heap HII.out rfl) (by exact ints_heap HJJ.out rfl)).mono ?_
       rintro e w8 ⟨rfl, b9⟩
       have b10 : Below wr.heap.size wr w8 := ⟨b9.os, b9.tape, b9.output, b9.size, b9.block⟩
       have shc1 := (b10.cell (p := ⟨b, off + k * 3, none⟩) hbl).trans hc1
       have shc2 := (b10.cell (p := ⟨b, off + k * 3 + 1, none⟩) hbl).trans hc2
       have shc3 := (b10.cell (p := ⟨b, off + k * 3 + 2, none⟩) hbl).trans hc3
       have shd1 := (b10.cell (p := ⟨b2, off2 + k * 3, none⟩) hbl2).trans hd1
       have shd2 := (b10.cell (p := ⟨b2, off2 + k * 3 + 1, none⟩) hbl2).trans hd2
       have shd3 := (b10.cell (p := ⟨b2, off2 + k * 3 + 2, none⟩) hbl2).trans hd3
       refine hK.out _ _ ⟨shc1, shc2, shc3, shd1, shd2, shd3⟩ (fun hHeld => ?_)
       clear hK K
       try simp only [Act.put, lA, lB, lC]
       refine tR (i := 36) (v := ?_) ?_ ?_; rotate_left
       ·
        intro w hSw; (try dsimp only at hSw); go_simp; try (with_reducible rfl)
       try simp only [Act.put, lA, lB, lC]
       refine tR (i := 37) (v := ?_) ?_ ?_; rotate_left
       ·
        intro w hSw; (try dsimp only at hSw); go_simp; try (with_reducible rfl)
       try simp only [Act.put, lA, lB, lC]
       refine wpAnyH_done (by kernel_rfl) ?_ _
       have b11 := hbel.trans (b10.mono hbel.size)
       clear shc1 shc2 shc3 shd1 shd2 shd3 hHeld b9 b10
       go_wp2
       go_roundw
       case rel => exact ⟨k + 1, by omega, by go_num, HA, b11⟩
       case measure => simp [intOf]; omega
      ·
       have HF := Lib.hid (HNE.out (fun e => hx (Prod.mk.inj (Prod.mk.inj e).2).2))
       rw [decide_eq_false hx] at HSI
       clear hx HNE HALL
       go_wp2
       refine wp_region_held_drew (S := fun w' => w'.cell? ⟨b, off + k * 3, none⟩ = some (.int .i64 sf) ∧ w'.cell? ⟨b, off + k * 3 + 1, none⟩ = some (.int .i64 st) ∧ w'.cell? ⟨b, off + k * 3 + 2, none⟩ = some vv ∧ w'.cell? ⟨b2, off2 + k * 3, none⟩ = some (.int .i64 sf) ∧ w'.cell? ⟨b2, off2 + k * 3 + 1, none⟩ = some (.int .i64 st) ∧ w'.cell? ⟨b2, off2 + k * 3 + 2, none⟩ = some uv) (by kernel_rfl) ⟨hc1, hc2, hc3, hd1, hd2, hd3⟩ (fun hHeld => ?_)
       refine tR (i := 0) (v := ?_) ?_ ?_; rotate_left
       ·
        intro w hSw; (try dsimp only at hSw); go_simp; try (with_reducible rfl)
       try simp only [Act.put, lA, lB, lC]
       refine tR (i := 1) (v := ?_) ?_ ?_; rotate_left
       ·
        intro w hSw; (try dsimp only at hSw); go_simp; try (with_reducible rfl)
       try simp only [Act.put, lA, lB, lC]
       refine tR (i := 2) (v := ?_) ?_ ?_; rotate_left
       ·
        intro w hSw; (try dsimp only at hSw); go_simp; try (with_reducible rfl)
       try simp only [Act.put, lA, lB, lC]
       refine tR (i := 3) (v := ?_) ?_ ?_; rotate_left
       ·
        intro w hSw; (try dsimp only at hSw); go_simp; try (with_reducible rfl)
       try simp only [Act.put, lA, lB, lC]
       refine tR (i := 4) (v := ?_) ?_ ?_; rotate_left
       ·
        intro w hSw; (try dsimp only at hSw); go_simp; try (with_reducible rfl)
       try simp only [Act.put, lA, lB, lC]
       refine tR (i := 5) (v := ?_) ?_ ?_; rotate_left
       ·
        intro w hSw; (try dsimp only at hSw); go_simp; try (with_reducible rfl)
       try simp only [Act.put, lA, lB, lC]
       refine tR (i := 6) (v := ?_) ?_ ?_; rotate_left
       ·
        intro w hSw; (try dsimp only at hSw); go_simp; try (with_reducible rfl)
       try simp only [Act.put, lA, lB, lC]
       refine tR (i := 7) (v := ?_) ?_ ?_; rotate_left
       ·
        intro w hSw; (try dsimp only at hSw); go_simp; try (with_reducible rfl)
       try simp only [Act.put, lA, lB, lC]
       refine tR (i := 8) (v := ?_) ?_ ?_; rotate_left
       ·
        intro w hSw; (try dsimp only at hSw); go_simp; try (with_reducible rfl)
       try simp only [Act.put, lA, lB, lC]
       refine tR (i := 9) (v := ?_) ?_ ?_; rotate_left
       ·
        intro w hSw; (try dsimp only at hSw); go_simp; try (with_reducible rfl)
       try simp only [Act.put, lA, lB, lC]
       refine tR (i := 10) (v := ?_) ?_ ?_; rotate_left
       ·
        intro w hSw; (try dsimp only at hSw); go_simp; try (with_reducible rfl)
       try simp only [Act.put, lA, lB, lC]
       refine tR (i := 11) (v := ?_) ?_ ?_; rotate_left
       ·
        intro w hSw; (try dsimp only at hSw); go_simp; try (with_reducible rfl)
       try simp only [Act.put, lA, lB, lC]
       refine tR (i := 12) (v := ?_) ?_ ?_; rotate_left
       ·
        intro w hSw; (try dsimp only at hSw); go_simp; try (with_reducible rfl)
       try simp only [Act.put, lA, lB, lC]
       refine tR (i := 13) (v := ?_) ?_ ?_; rotate_left
       ·
        intro w hSw; (try dsimp only at hSw); go_simp; try (with_reducible rfl)
       try simp only [Act.put, lA, lB, lC]
       refine tR (i := 14) (v := ?_) ?_ ?_; rotate_left
       ·
        intro w hSw; (try dsimp only at hSw); go_simp; try (with_reducible rfl)
       try simp only [Act.put, lA, lB, lC]
       refine tR (i := 15) (v := ?_) ?_ ?_; rotate_left
       ·
        intro w hSw; (try dsimp only at hSw); go_simp; try (with_reducible rfl)
       try simp only [Act.put, lA, lB, lC]
       refine tR (i := 16) (v := ?_) ?_ ?_; rotate_left
       ·
        intro w hSw; (try dsimp only at hSw); go_simp; try (with_reducible rfl)
       try simp only [Act.put, lA, lB, lC]
       refine tR (i := 17) (v := ?_) ?_ ?_; rotate_left
       ·
        intro w hSw; (try dsimp only at hSw); go_simp; try (with_reducible rfl)
       try simp only [Act.put, lA, lB, lC]
       refine tR (i := 18) (v := ?_) ?_ ?_; rotate_left
       ·
        intro w hSw; (try dsimp only at hSw); go_simp; try (with_reducible rfl)
       try simp only [Act.put, lA, lB, lC]
       refine tR (i := 19) (v := ?_) ?_ ?_; rotate_left
       ·
        intro w hSw; (try dsimp only at hSw); go_simp; try (with_reducible rfl)
       try simp only [Act.put, lA, lB, lC]
       refine tR (i := 20) (v := ?_) ?_ ?_; rotate_left
       ·
        intro w hSw; (try dsimp only at hSw); go_simp; try (with_reducible rfl)
       try simp only [Act.put, lA, lB, lC]
       refine tR (i := 21) (v := ?_) ?_ ?_; rotate_left
       ·
        intro w hSw; (try dsimp only at hSw); go_simp; try (with_reducible rfl)
       try simp only [Act.put, lA, lB, lC]
       refine tR (i := 22) (v := ?_) ?_ ?_; rotate_left
       ·
        intro w hSw; (try dsimp only at hSw); go_simp; try (with_reducible rfl)
       try simp only [Act.put, lA, lB, lC]
       refine tR (i := 23) (v := ?_) ?_ ?_; rotate_left
       ·
        intro w hSw; (try dsimp only at hSw); go_simp; try (with_reducible rfl)
       try simp only [Act.put, lA, lB, lC]
       refine tR (i := 24) (v := ?_) ?_ ?_; rotate_left
       ·
        intro w hSw; (try dsimp only at hSw); go_simp; try (with_reducible rfl)
       try simp only [Act.put, lA, lB, lC]
       refine tR (i := 25) (v := ?_) ?_ ?_; rotate_left
       ·
        intro w hSw; (try dsimp only at hSw); go_simp; try (with_reducible rfl)
       try simp only [Act.put, lA, lB, lC]
       refine tR (i := 26) (v := ?_) ?_ ?_; rotate_left
       ·
        intro w hSw; (try dsimp only at hSw); go_simp; try (with_reducible rfl)
       try simp only [Act.put, lA, lB, lC]
       refine tR (i := 27) (v := ?_) ?_ ?_; rotate_left
       ·
        intro w hSw; (try dsimp only at hSw); go_simp; try (with_reducible rfl)
       try simp only [Act.put, lA, lB, lC]
       refine tR (i := 28) (v := ?_) ?_ ?_; rotate_left
       ·
        intro w hSw; (try dsimp only at hSw); go_simp; try (with_reducible rfl)
       try simp only [Act.put, lA, lB, lC]
       refine tR (i := 29) (v := ?_) ?_ ?_; rotate_left
       ·
        intro w hSw; (try dsimp only at hSw); go_simp; try (with_reducible rfl)
       try simp only [Act.put, lA, lB, lC]
       refine tR (i := 30) (v := ?_) ?_ ?_; rotate_left
       ·
        intro w hSw; (try dsimp only at hSw); go_simp; try (with_reducible rfl)
       try simp only [Act.put, lA, lB, lC]
       refine tR (i := 31) (v := ?_) ?_ ?_; rotate_left
       ·
        intro w hSw; (try dsimp only at hSw); go_simp; try (with_reducible rfl)
       try simp only [Act.put, lA, lB, lC]
       refine tR (i := 32) (v := ?_) ?_ ?_; rotate_left
       ·
        intro w hSw; (try dsimp only at hSw); go_simp; try (with_reducible rfl)
       try simp only [Act.put, lA, lB, lC]
       refine tR (i := 33) (v := ?_) ?_ ?_; rotate_left
       ·
        intro w hSw; (try dsimp only at hSw); go_simp; try (with_reducible rfl)
       try simp only [Act.put, lA, lB, lC]
       refine tR (i := 34) (v := ?_) ?_ ?_; rotate_left
       ·
        intro w hSw; (try dsimp only at hSw); go_simp; try (with_reducible rfl)
       try simp only [Act.put, lA, lB, lC]
       refine wpAnyH_ready (rs := [35]) (by kernel_rfl) (by simp) ?_
       refine AllReadyH.cons (o := _) (by simp only [hA, hB, hC]; rfl) (fun K hK => ?_) AllReadyH.nil
       go_simp
       refine (HSI.out _ (by exact ints_heap HII.out rfl) (by exact ints_heap HJJ.out rfl)).mono ?_
       rintro e w8 ⟨rfl, b9⟩
       have b10 : Below wr.heap.size wr w8 := ⟨b9.os, b9.tape, b9.output, b9.size, b9.block⟩
       have shc1 := (b10.cell (p := ⟨b, off + k * 3, none⟩) hbl).trans hc1
       have shc2 := (b10.cell (p := ⟨b, off + k * 3 + 1, none⟩) hbl).trans hc2
       have shc3 := (b10.cell (p := ⟨b, off + k * 3 + 2, none⟩) hbl).trans hc3
       have shd1 := (b10.cell (p := ⟨b2, off2 + k * 3, none⟩) hbl2).trans hd1
       have shd2 := (b10.cell (p := ⟨b2, off2 + k * 3 + 1, none⟩) hbl2).trans hd2
       have shd3 := (b10.cell (p := ⟨b2, off2 + k * 3 + 2, none⟩) hbl2).trans hd3
       refine hK.out _ _ ⟨shc1, shc2, shc3, shd1, shd2, shd3⟩ (fun hHeld => ?_)
       clear hK K
       try simp only [Act.put, lA, lB, lC]
       refine tR (i := 36) (v := ?_) ?_ ?_; rotate_left
       ·
        intro w hSw; (try dsimp only at hSw); go_simp; try (with_reducible rfl)
       try simp only [Act.put, lA, lB, lC]
       refine tR (i := 37) (v := ?_) ?_ ?_; rotate_left
       ·
        intro w hSw; (try dsimp only at hSw); go_simp; try (with_reducible rfl)
       try simp only [Act.put, lA, lB, lC]
       refine wpAnyH_done (by kernel_rfl) ?_ _
       have b11 := hbel.trans (b10.mono hbel.size)
       clear shc1 shc2 shc3 shd1 shd2 shd3 hHeld b9 b10
       go_wp2
       go_ret
       exact ⟨ret_b HF.out.symm, b11⟩
     ·
      have HF := Lib.hid (HNE.out (fun e => ht (Prod.mk.inj (Prod.mk.inj e).2).1))
      have et : (st != tt) = true := by rw [bne_iff_ne]; exact ht
      clear ht HNE HALL
      go_wp2
      go_quiet (fail)
      go_wp2
      go_ret
      exact ⟨ret_b HF.out.symm, below_dn hbel _⟩
    ·
     have HF := Lib.hid (HNE.out (fun e => hf (Prod.mk.inj e).1))
     have ef : (sf != tf) = true := by rw [bne_iff_ne]; exact hf
     clear hf HNE HALL
     go_wp2
     go_quiet (fail)
     go_wp2
     go_ret
     exact ⟨ret_b HF.out.symm, below_dn hbel _⟩
   ·
    obtain rfl : k = rs.length := by omega
    have HE := Lib.hid (decide_eq_true (spans_eq_all HL.out hall.out))
    clear hall
    go_wp2
    go_ret
    exact ⟨ret_b HE.out.symm, hbel⟩
 ·
  have HF := Lib.hid (decide_eq_false (show ¬ rs = ss from fun e => hl (by rw [e])))
  have hne : ((rs.length : Int) != (ss.length : Int)) = true := by rw [bne_iff_ne]; omega
  clear hl
  go_enter Tryd.func25, Tryd.ntmps25
  go_wp2
  go_ret
  exact ⟨ret_b HF.out.symm, Below.refl _ _⟩
end Go.Proofs.YtededfficggkaaaDoor
