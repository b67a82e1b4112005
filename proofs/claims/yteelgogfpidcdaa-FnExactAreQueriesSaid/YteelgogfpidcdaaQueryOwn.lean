/-
  Slices of queries that the call itself made: each query's conditions and fields lie in blocks of their own; store, copy of a slice that came in, comparison.
-/
import Derived.Test.YteelgogfpidcdaaQuerySl
import Derived.Test.YteelgogfpidcdaaRowOwn
namespace Go.Proofs.Yteelgogfpidcdaa
open Go.RowKit
set_option linter.unusedVariables false
set_option linter.unusedSimpArgs false
theorem Try.infoQuery : (Try.prog.info? 36).map (fun i => (i.zero, i.size, i.bytes)) = some (some (.agg #[.int .i64 0, .int .i64 0, .slice none 0 0, .slice none 0 0]), 4, 64) := by kernel_rfl
/-- The slice v owns the queries qs, in blocks from B on, each block once: the conditions of query j lie in vs (2 j), its fields in vs (2 j + 1). -/
def OwnsQ (w : World) (B : Nat) (v : Value) (qs : List QD) : Prop :=
  ∃ (cs : List Value) (vs : Nat → Value), w.ownsRow B 36 4 v qs.length cs ∧
    (∀ j, j < qs.length → cs[j * 4]? = some (.int .i64 (qs.getD j q0D).1) ∧ cs[j * 4 + 1]? = some (.int .i64 (qs.getD j q0D).2.1) ∧ cs[j * 4 + 2]? = some (vs (2 * j)) ∧ cs[j * 4 + 3]? = some (vs (2 * j + 1)) ∧
      OwnsC w B (vs (2 * j)) (qs.getD j q0D).2.2.1 ∧ OwnsN w B (vs (2 * j + 1)) (qs.getD j q0D).2.2.2) ∧
    (∀ i, i < 2 * qs.length → ∀ b, (vs i).ownBlock = some b → v.ownBlock ≠ some b) ∧
    ∀ i j, i < 2 * qs.length → j < 2 * qs.length → i ≠ j → ∀ b, (vs i).ownBlock = some b → (vs j).ownBlock ≠ some b
theorem ownsQ_len {w : World} {B : Nat} {v : Value} {qs : List QD} (h : OwnsQ w B v qs) : ∃ a cap, v = .slice a qs.length cap := by
  obtain ⟨cs, vs, h1, _⟩ := h
  rcases h1.2 with ⟨rfl, h0⟩ | ⟨g, cap, cur, rfl, _⟩
  · exact ⟨none, 0, by rw [h0]⟩
  · exact ⟨_, cap, rfl⟩
theorem ownsQ_queries {w : World} {B : Nat} {v : Value} {qs : List QD} (h : OwnsQ w B v qs) : QueriesR w v qs := by
  obtain ⟨cs, vs, h1, h2, _⟩ := h
  have h1' := h1
  rcases h1.2 with ⟨rfl, h0⟩ | ⟨g, cap, cur, rfl, hb, hg, hn, hm, hcs, htake⟩
  · exact Or.inl ⟨List.eq_nil_of_length_eq_zero h0, none, 0, rfl⟩
  · refine Or.inr ⟨g, 0, cap, fun j => vs (2 * j), fun j => vs (2 * j + 1), rfl, hn, (Array.getElem?_eq_some_iff.1 hg).1, fun j hj => ?_⟩
    obtain ⟨g1, g2, g3, g4, g5, g6⟩ := h2 j hj
    refine ⟨?_, ?_, ?_, ?_, ownsC_conds g5, ownsN_ints g6⟩
    · rw [Nat.zero_add, World.ownsRow.cellAt h1' (j * 4) (by omega)]; exact g1
    · rw [Nat.zero_add, World.ownsRow.cellAt h1' (j * 4 + 1) (by omega)]; exact g2
    · rw [Nat.zero_add, World.ownsRow.cellAt h1' (j * 4 + 2) (by omega)]; exact g3
    · rw [Nat.zero_add, World.ownsRow.cellAt h1' (j * 4 + 3) (by omega)]; exact g4
theorem ownsQ_below {w w' : World} {B : Nat} {v : Value} {qs : List QD} (h : OwnsQ w B v qs) (hb : Below w.heap.size w w') : OwnsQ w' B v qs := by
  obtain ⟨cs, vs, h1, h2, h3⟩ := h
  exact ⟨cs, vs, ownsRow_below h1 hb, fun j hj => by obtain ⟨g1, g2, g3, g4, g5, g6⟩ := h2 j hj; exact ⟨g1, g2, g3, g4, ownsC_below g5 hb, ownsN_below g6 hb⟩, h3⟩
theorem ownsQ_up {w : World} {B C : Nat} {v : Value} {qs : List QD} (h : OwnsQ w C v qs) (hb : B ≤ C) : OwnsQ w B v qs := by
  obtain ⟨cs, vs, h1, h2, h3⟩ := h
  refine ⟨cs, vs, ⟨h1.1, ?_⟩, fun j hj => by obtain ⟨g1, g2, g3, g4, g5, g6⟩ := h2 j hj; exact ⟨g1, g2, g3, g4, ownsC_up g5 hb, ownsN_up g6 hb⟩, h3⟩
  rcases h1.2 with hn | ⟨g, cap, cur, e, hb', rest⟩
  · exact .inl hn
  · exact .inr ⟨g, cap, cur, e, Nat.le_trans hb hb', rest⟩
/-- A query whose conditions and fields were made since w0 is stored at place k. -/
theorem ownsQ_store {w0 w1 : World} {B g n cap : Nat} {qs : List QD} (h : OwnsQ w0 B (.slice (some ⟨g, 0, none⟩) n cap) qs) (hb : Below w0.heap.size w0 w1) (hB : B ≤ w0.heap.size) {k : Nat} (hk : k < qs.length) (q : QD) {cv ov : Value}
    (hv : OwnsC w1 w0.heap.size cv q.2.2.1) (hu : OwnsN w1 w0.heap.size ov q.2.2.2) (hd : ∀ b, cv.ownBlock = some b → ov.ownBlock ≠ some b) :
    OwnsQ ((((w1.setCell ⟨g, k * 4, none⟩ (.int .i64 q.1)).setCell ⟨g, k * 4 + 1, none⟩ (.int .i64 q.2.1)).setCell ⟨g, k * 4 + 2, none⟩ cv).setCell ⟨g, k * 4 + 3, none⟩ ov) B (.slice (some ⟨g, 0, none⟩) n cap) (qs.set k q) := by
  obtain ⟨cs, vs, h1, h2, h3, h4⟩ := h
  have hgl : g < w0.heap.size := (h1.lt g rfl).2
  have hn : n = qs.length := by
    rcases h1.2 with ⟨h', _⟩ | ⟨_, _, _, h', _⟩
    · simp at h'
    · simp only [Value.slice.injEq] at h'; exact h'.2.1
  subst hn
  have k1 := ownsRow_below h1 hb
  have s1 := (World.ownsRow.stored k1 (k * 4) (.int .i64 q.1)).1
  have s2 := (World.ownsRow.stored s1 (k * 4 + 1) (.int .i64 q.2.1)).1
  have s3 := (World.ownsRow.stored s2 (k * 4 + 2) cv).1
  have s4 := (World.ownsRow.stored s3 (k * 4 + 3) ov).1
  have hcl : cs.length = qs.length * 4 := h1.1
  have hp : ∀ (u : Value), (∀ b, u.ownBlock = some b → b ≠ g) → u.ownBlock = none ∨ u.ownBlock ≠ some g := by
    intro u hne
    cases e : u.ownBlock with
    | none => exact Or.inl rfl
    | some b => exact Or.inr (fun q => hne b e (Option.some.inj q))
  have hlowN : ∀ (u : Value) (xs : List Int) (C : Nat), OwnsN w1 C u xs → (∀ b, u.ownBlock = some b → b ≠ g) → OwnsN ((((w1.setCell ⟨g, k * 4, none⟩ (.int .i64 q.1)).setCell ⟨g, k * 4 + 1, none⟩ (.int .i64 q.2.1)).setCell ⟨g, k * 4 + 2, none⟩ cv).setCell ⟨g, k * 4 + 3, none⟩ ov) C u xs := by
    intro u xs C hu hne
    have hp := hp u hne
    exact (((World.ownsRow.kept hu (grow_set w1 g (k * 4) _) hp).kept (grow_set _ g (k * 4 + 1) _) hp).kept (grow_set _ g (k * 4 + 2) _) hp).kept (grow_set _ g (k * 4 + 3) _) hp
  have hlowC : ∀ (u : Value) (xs : List CondD) (C : Nat), OwnsC w1 C u xs → (∀ b, u.ownBlock = some b → b ≠ g) → OwnsC ((((w1.setCell ⟨g, k * 4, none⟩ (.int .i64 q.1)).setCell ⟨g, k * 4 + 1, none⟩ (.int .i64 q.2.1)).setCell ⟨g, k * 4 + 2, none⟩ cv).setCell ⟨g, k * 4 + 3, none⟩ ov) C u xs := by
    intro u xs C hu hne
    have hp := hp u hne
    exact (((World.ownsRow.kept hu (grow_set w1 g (k * 4) _) hp).kept (grow_set _ g (k * 4 + 1) _) hp).kept (grow_set _ g (k * 4 + 2) _) hp).kept (grow_set _ g (k * 4 + 3) _) hp
  have hlt : ∀ i, i < 2 * qs.length → ∀ b, (vs i).ownBlock = some b → b < w0.heap.size := by
    intro i hi b hbi
    have hj : i / 2 < qs.length := by omega
    obtain ⟨_, _, _, _, g5, g6⟩ := h2 (i / 2) hj
    have : i = 2 * (i / 2) ∨ i = 2 * (i / 2) + 1 := by omega
    rcases this with e | e
    · rw [e] at hbi; exact (g5.lt b hbi).2
    · rw [e] at hbi; exact (g6.lt b hbi).2
  refine ⟨(((cs.set (k * 4) (.int .i64 q.1)).set (k * 4 + 1) (.int .i64 q.2.1)).set (k * 4 + 2) cv).set (k * 4 + 3) ov, fun i => if i = 2 * k then cv else if i = 2 * k + 1 then ov else vs i, ?_, ?_, ?_, ?_⟩
  · rw [List.length_set]; exact s4
  · intro j hj
    rw [List.length_set] at hj
    by_cases e : j = k
    · subst e
      have er : (qs.set j q).getD j q0D = q := by simp [List.getD, hj]
      rw [er]
      simp only [if_true, show ¬ 2 * j + 1 = 2 * j by omega, if_false]
      refine ⟨?_, ?_, ?_, ?_, ?_, ?_⟩
      · rw [List.getElem?_set_ne (by omega), List.getElem?_set_ne (by omega), List.getElem?_set_ne (by omega), List.getElem?_set_self (by omega)]
      · rw [List.getElem?_set_ne (by omega), List.getElem?_set_ne (by omega), List.getElem?_set_self (by simp; omega)]
      · rw [List.getElem?_set_ne (by omega), List.getElem?_set_self (by simp; omega)]
      · rw [List.getElem?_set_self (by simp; omega)]
      · exact ownsC_up (hlowC cv q.2.2.1 _ hv (fun b eb => by have := (hv.lt b eb).1; omega)) hB
      · exact ownsN_up (hlowN ov q.2.2.2 _ hu (fun b eb => by have := (hu.lt b eb).1; omega)) hB
    · obtain ⟨g1, g2, g3, g4, g5, g6⟩ := h2 j hj
      have er : (qs.set k q).getD j q0D = qs.getD j q0D := by simp [List.getD, List.getElem?_set_ne (Ne.symm e)]
      rw [er]
      simp only [show ¬ 2 * j = 2 * k by omega, show ¬ 2 * j = 2 * k + 1 by omega, show ¬ 2 * j + 1 = 2 * k by omega, show ¬ 2 * j + 1 = 2 * k + 1 by omega, if_false]
      refine ⟨?_, ?_, ?_, ?_, ?_, ?_⟩
      · rw [List.getElem?_set_ne (by omega), List.getElem?_set_ne (by omega), List.getElem?_set_ne (by omega), List.getElem?_set_ne (by omega)]; exact g1
      · rw [List.getElem?_set_ne (by omega), List.getElem?_set_ne (by omega), List.getElem?_set_ne (by omega), List.getElem?_set_ne (by omega)]; exact g2
      · rw [List.getElem?_set_ne (by omega), List.getElem?_set_ne (by omega), List.getElem?_set_ne (by omega), List.getElem?_set_ne (by omega)]; exact g3
      · rw [List.getElem?_set_ne (by omega), List.getElem?_set_ne (by omega), List.getElem?_set_ne (by omega), List.getElem?_set_ne (by omega)]; exact g4
      · exact hlowC _ _ _ (ownsC_below g5 hb) (fun b eb q => h3 (2 * j) (by omega) b eb (by rw [q]; rfl))
      · exact hlowN _ _ _ (ownsN_below g6 hb) (fun b eb q => h3 (2 * j + 1) (by omega) b eb (by rw [q]; rfl))
  · intro i hi b hbi
    rw [List.length_set] at hi
    by_cases e1 : i = 2 * k
    · simp only [if_pos e1] at hbi
      have := (hv.lt b hbi).1
      simp [Value.ownBlock]; omega
    · by_cases e2 : i = 2 * k + 1
      · simp only [if_neg e1, if_pos e2] at hbi
        have := (hu.lt b hbi).1
        simp [Value.ownBlock]; omega
      · simp only [if_neg e1, if_neg e2] at hbi
        exact h3 i hi b hbi
  · intro i j hi hj hij b hbi
    rw [List.length_set] at hi hj
    have hnew : ∀ u : Value, (∀ b, u.ownBlock = some b → w0.heap.size ≤ b) → ∀ j, j < 2 * qs.length → ∀ b, u.ownBlock = some b → (vs j).ownBlock ≠ some b := fun u hu j hj b hb q => by
      have := hu b hb; have := hlt j hj b q; omega
    have hcn := hnew cv (fun b hb => (hv.lt b hb).1)
    have hon := hnew ov (fun b hb => (hu.lt b hb).1)
    by_cases i1 : i = 2 * k
    · simp only [if_pos i1] at hbi
      by_cases j2 : j = 2 * k + 1
      · simp only [if_neg (show ¬ j = 2 * k by omega), if_pos j2]; exact hd b hbi
      · simp only [if_neg (show ¬ j = 2 * k by omega), if_neg j2]; exact hcn j hj b hbi
    · by_cases i2 : i = 2 * k + 1
      · simp only [if_neg i1, if_pos i2] at hbi
        by_cases j1 : j = 2 * k
        · simp only [if_pos j1]; exact fun q => hd b q hbi
        · simp only [if_neg j1, if_neg (show ¬ j = 2 * k + 1 by omega)]; exact hon j hj b hbi
      · simp only [if_neg i1, if_neg i2] at hbi
        by_cases j1 : j = 2 * k
        · simp only [if_pos j1]; exact fun q => hcn i hi b q hbi
        · by_cases j2 : j = 2 * k + 1
          · simp only [if_neg j1, if_pos j2]; exact fun q => hon i hi b q hbi
          · simp only [if_neg j1, if_neg j2]; exact h4 i j hi hj hij b hbi
theorem madeQ_at (n j : Nat) (hj : j < n) : (madeCells #[Value.int .i64 0, Value.int .i64 0, Value.slice none 0 0, Value.slice none 0 0] (n * 4)).toList[j * 4]? = some (.int .i64 0) ∧ (madeCells #[Value.int .i64 0, Value.int .i64 0, Value.slice none 0 0, Value.slice none 0 0] (n * 4)).toList[j * 4 + 1]? = some (.int .i64 0) ∧
    (madeCells #[Value.int .i64 0, Value.int .i64 0, Value.slice none 0 0, Value.slice none 0 0] (n * 4)).toList[j * 4 + 2]? = some (.slice none 0 0) ∧ (madeCells #[Value.int .i64 0, Value.int .i64 0, Value.slice none 0 0, Value.slice none 0 0] (n * 4)).toList[j * 4 + 3]? = some (.slice none 0 0) := by
  have e1 : (j * 4) % 4 = 0 := by omega
  have e2 : (j * 4 + 1) % 4 = 1 := by omega
  have e3 : (j * 4 + 2) % 4 = 2 := by omega
  have e4 : (j * 4 + 3) % 4 = 3 := by omega
  refine ⟨?_, ?_, ?_, ?_⟩
  · rw [Array.getElem?_toList]; unfold madeCells; rw [Array.getElem?_map, Array.getElem?_range]; simp [e1, show j * 4 < n * 4 by omega]
  · rw [Array.getElem?_toList]; unfold madeCells; rw [Array.getElem?_map, Array.getElem?_range]; simp [e2, show j * 4 + 1 < n * 4 by omega]
  · rw [Array.getElem?_toList]; unfold madeCells; rw [Array.getElem?_map, Array.getElem?_range]; simp [e3, show j * 4 + 2 < n * 4 by omega]
  · rw [Array.getElem?_toList]; unfold madeCells; rw [Array.getElem?_map, Array.getElem?_range]; simp [e4, show j * 4 + 3 < n * 4 by omega]
theorem ownsQ_made {w : World} {B g n : Nat} (h : w.ownsRow B 36 4 (.slice (some ⟨g, 0, none⟩) n n) n (madeCells #[Value.int .i64 0, Value.int .i64 0, Value.slice none 0 0, Value.slice none 0 0] (n * 4)).toList) : OwnsQ w B (.slice (some ⟨g, 0, none⟩) n n) (List.replicate n q0D) := by
  refine ⟨_, fun _ => .slice none 0 0, by rw [List.length_replicate]; exact h, fun j hj => ?_, fun i _ b hb => by simp [Value.ownBlock] at hb, fun i j _ _ _ b hb => by simp [Value.ownBlock] at hb⟩
  rw [List.length_replicate] at hj
  have er : (List.replicate n q0D).getD j q0D = q0D := by simp [List.getD, hj]
  rw [er]
  obtain ⟨m1, m2, m3, m4⟩ := madeQ_at n j hj
  exact ⟨m1, m2, m3, m4, ownsC_nil w B, ownsN_nil w B⟩
/-- A slice of queries in new memory is answered. -/
def FreshQs (w : World) (qs : List QD) (e : Ending) (w' : World) : Prop := ∃ v, e = .returned v ∧ OwnsQ w' w.heap.size v qs ∧ Below w.heap.size w w'
theorem queries_copied (qs : List QD) (k : Nat) (h : k < qs.length) : (qs.take k ++ List.replicate (qs.length - k) q0D).set k (qs.getD k q0D) = qs.take (k + 1) ++ List.replicate (qs.length - (k + 1)) q0D := by
  have hk : (qs.take k).length = k := by rw [List.length_take]; omega
  rw [List.set_append_right _ _ (by omega), hk, Nat.sub_self, show qs.length - k = (qs.length - (k + 1)) + 1 by omega, List.replicate_succ, List.set_cons_zero, List.take_succ_eq_append_getElem h, List.append_assoc]
  simp [List.getD, h]
set_option maxHeartbeats 8000000 in
set_option maxRecDepth 100000 in
theorem toQueryS_any (v : Value) (qs : List QD) (w : World) (h : QueriesR w v qs) (hs : szQL qs ≤ 1048576) :
    Calls Try.prog 21 #[v] w (FreshQs w qs) := by
  obtain ⟨i0, hi, hz0, hz1, hz2⟩ := info_parts Try.infoQuery
  have HI := Lib.hid hi; have HZ0 := Lib.hid hz0; have HZ1 := Lib.hid hz1; have HZ2 := Lib.hid hz2
  clear hi hz0 hz1 hz2
  have H := Lib.hid h
  have hlen := szQL_len hs
  have HS := Lib.hid hs
  obtain ⟨a, cap, rfl⟩ := queriesR_len h
  clear h hs
  go_enter Try.func21, Try.ntmps21
  go_wp2_with (at_make; refine wpList_make_full _ rfl (.tmp 6) (.tmp 6) 43 rfl w.heap.size 36 i0 (.agg #[.int .i64 0, .int .i64 0, .slice none 0 0, .slice none 0 0]) 4 Try.underlying43 HI.out HZ0.out HZ1.out _ _ _ _ qs.length rfl rfl rfl rfl (by rw [HZ2.out]; omega) (by unfold maxLen; omega) (Nat.le_refl _) ?_)
  intro w1 hown0 hg0
  have hown1 := ownsQ_made hown0
  have hbel1 := (Below.refl w.heap.size w).grown hg0 (Nat.le_refl _) (fun k hk => by cases hk)
  clear hown0 hg0
  go_wp2
  go_loopw [4] (fun i wr => ∃ k : Nat, k ≤ qs.length ∧ i = .int .i64 k ∧ OwnsQ wr w.heap.size (.slice (some ⟨w.heap.size, 0, none⟩) qs.length qs.length) (qs.take k ++ List.replicate (qs.length - k) q0D) ∧ Below w.heap.size w wr) (fun i _ => qs.length - (intOf i).toNat)
  case atStart => exact ⟨0, Nat.zero_le _, rfl, by simpa using hown1, hbel1⟩
  case round =>
    obtain ⟨k, hk, rfl, hown, hbel⟩ := hrel
    by_cases hlt : k < qs.length
    · obtain ⟨b, off, cap', cv, ov, hv, hbl, hc1, hc2, hc3, hc4, hC, hI⟩ := queriesR_at (queriesR_below H.out hbel) hlt
      simp only [Value.slice.injEq] at hv
      obtain ⟨rfl, _, rfl⟩ := hv
      obtain ⟨hxl, hyl⟩ := szQL_at HS.out hlt
      have HSET := Lib.hid (queries_copied qs k hlt)
      have HKL : Hid (k < (qs.take k ++ List.replicate (qs.length - k) q0D).length) := Lib.hid (by simp; omega)
      have i1 : (0 : Int) ≤ (k : Int) := by omega
      have i2 : (k : Int) < (qs.length : Int) := by omega
      clear hown1 hbel1
      generalize qs.getD k q0D = q at *
      obtain ⟨id, tn, cs, os⟩ := q
      simp only at hc1 hc2 hc3 hc4 hI hC hxl hyl
      go_wp2_with fail
      refine (toQuery_any id tn cv ov cs os _ hC hxl hI hyl).mono ?_
      rintro e w2 ⟨cu, ou, rfl, oc, on, hd, b2⟩
      have hst := Lib.hid (ownsQ_store hown b2 hbel.size HKL.out (id, tn, cs, os) oc on hd)
      rw [HSET.out] at hst
      have b3 := hbel.trans (b2.mono hbel.size)
      obtain ⟨ca, cc, rfl⟩ := ownsC_len oc
      obtain ⟨oa, occ, rfl⟩ := ints_len (ownsN_ints on)
      obtain ⟨⟨x0, q0⟩, ⟨x1, q1⟩, ⟨x2, q2⟩, ⟨x3, q3⟩, f0, f1, f2, f3⟩ : (∃ x, w2.cell? ⟨w.heap.size, k * 4, none⟩ = some x) ∧ (∃ x, w2.cell? ⟨w.heap.size, k * 4 + 1, none⟩ = some x) ∧ (∃ x, w2.cell? ⟨w.heap.size, k * 4 + 2, none⟩ = some x) ∧ (∃ x, w2.cell? ⟨w.heap.size, k * 4 + 3, none⟩ = some x) ∧
          w2.frozen? ⟨w.heap.size, k * 4, none⟩ = false ∧ w2.frozen? ⟨w.heap.size, k * 4 + 1, none⟩ = false ∧ w2.frozen? ⟨w.heap.size, k * 4 + 2, none⟩ = false ∧ w2.frozen? ⟨w.heap.size, k * 4 + 3, none⟩ = false := by
        obtain ⟨cs', vs, h1, h2, _⟩ := ownsQ_below hown b2
        have hl0 : (qs.take k ++ List.replicate (qs.length - k) q0D).length = qs.length := by simp; omega
        rw [hl0] at h1 h2
        obtain ⟨g1, g2, g3, g4, _, _⟩ := h2 k hlt
        exact ⟨⟨_, (World.ownsRow.cellAt h1 (k * 4) (by omega)).trans g1⟩, ⟨_, (World.ownsRow.cellAt h1 (k * 4 + 1) (by omega)).trans g2⟩, ⟨_, (World.ownsRow.cellAt h1 (k * 4 + 2) (by omega)).trans g3⟩, ⟨_, (World.ownsRow.cellAt h1 (k * 4 + 3) (by omega)).trans g4⟩,
          World.ownsRow.frozenAt h1 _, World.ownsRow.frozenAt h1 _, World.ownsRow.frozenAt h1 _, World.ownsRow.frozenAt h1 _⟩
      have B3 := Lib.hid ((((b3.setCell (p := ⟨w.heap.size, k * 4, none⟩) (Nat.le_refl _) (.int .i64 id)).setCell (p := ⟨w.heap.size, k * 4 + 1, none⟩) (Nat.le_refl _) (.int .i64 tn)).setCell (p := ⟨w.heap.size, k * 4 + 2, none⟩) (Nat.le_refl _) (.slice ca cs.length cc)).setCell (p := ⟨w.heap.size, k * 4 + 3, none⟩) (Nat.le_refl _) (.slice oa os.length occ))
      clear hown hbel b2 oc on hd hc1 hc2 hc3 hc4 hI hC b3
      go_wp2
      go_roundw
      case rel => exact ⟨k + 1, by omega, by go_num, hst.out, B3.out⟩
      case measure => simp [intOf]; omega
    · obtain rfl : k = qs.length := by omega
      have HE : Hid (qs.take qs.length ++ List.replicate (qs.length - qs.length) q0D = qs) := Lib.hid (by simp)
      rw [HE.out] at hown
      go_wp2
      go_ret
      exact ⟨_, rfl, hown, hbel⟩
end Go.Proofs.Yteelgogfpidcdaa
