/-
  The program's chapter 5: a field's range, the intervals of a batch, their values at a number, StabSet.
-/
import Derived.Test.YteelgogfpidcdaaStabMath
import Derived.Test.YteelgogfpidcdaaQueryAreP
import Derived.Test.YteelgogfpidcdaaFindSpec
namespace Go.Proofs.Yteelgogfpidcdaa
open Go.RowKit
set_option linter.unusedVariables false
set_option linter.unusedSimpArgs false
/-- The slice v owns the intervals cs (from, to, value), in a block from B on. -/
def OwnsI (w : World) (B : Nat) (v : Value) (cs : List CondD) : Prop := w.ownsRow B 114 3 v cs.length (flatC cs)
theorem ownsI_conds {w : World} {B : Nat} {v : Value} {cs : List CondD} (h : OwnsI w B v cs) : CondsR w v cs := by
  have h1' := h
  rcases h.2 with ⟨rfl, h0⟩ | ⟨g, cap, cur, rfl, hb, hg, hn, hm, hcs, htake⟩
  · exact Or.inl ⟨List.eq_nil_of_length_eq_zero h0, none, 0, rfl⟩
  · refine Or.inr ⟨g, 0, cap, rfl, hn, (Array.getElem?_eq_some_iff.1 hg).1, fun j hj => ?_⟩
    obtain ⟨f1, f2, f3⟩ := flatC_at cs j hj
    refine ⟨?_, ?_, ?_⟩
    · rw [Nat.zero_add, World.ownsRow.cellAt h1' (j * 3) (by omega)]; exact f1
    · rw [Nat.zero_add, World.ownsRow.cellAt h1' (j * 3 + 1) (by omega)]; exact f2
    · rw [Nat.zero_add, World.ownsRow.cellAt h1' (j * 3 + 2) (by omega)]; exact f3
theorem ownsI_below {w w' : World} {B : Nat} {v : Value} {cs : List CondD} (h : OwnsI w B v cs) (hb : Below w.heap.size w w') : OwnsI w' B v cs := ownsRow_below h hb
theorem ownsI_len {w : World} {B : Nat} {v : Value} {cs : List CondD} (h : OwnsI w B v cs) : ∃ a cap, v = .slice a cs.length cap := condsR_len (ownsI_conds h)
theorem ownsI_store {w : World} {B g n cap : Nat} {cs : List CondD} (h : OwnsI w B (.slice (some ⟨g, 0, none⟩) n cap) cs) {k : Nat} (hk : k < cs.length) (c : CondD) :
    OwnsI (((w.setCell ⟨g, k * 3, none⟩ (.int .i64 c.1)).setCell ⟨g, k * 3 + 1, none⟩ (.int .i64 c.2.1)).setCell ⟨g, k * 3 + 2, none⟩ (.int .i64 c.2.2)) B (.slice (some ⟨g, 0, none⟩) n cap) (cs.set k c) := by
  have hn : n = cs.length := by
    rcases h.2 with ⟨h', _⟩ | ⟨_, _, _, h', _⟩
    · simp at h'
    · simp only [Value.slice.injEq] at h'; exact h'.2.1
  subst hn
  have s1 := (World.ownsRow.stored h (k * 3) (.int .i64 c.1)).1
  have s2 := (World.ownsRow.stored s1 (k * 3 + 1) (.int .i64 c.2.1)).1
  have s3 := (World.ownsRow.stored s2 (k * 3 + 2) (.int .i64 c.2.2)).1
  rw [flatC_set cs k c hk] at s3
  unfold OwnsI
  rw [List.length_set]
  exact s3
theorem ownsI_cells {w : World} {B g n cap : Nat} {cs : List CondD} (h : OwnsI w B (.slice (some ⟨g, 0, none⟩) n cap) cs) {k : Nat} (hk : k < cs.length) :
    (∃ x, w.cell? ⟨g, k * 3, none⟩ = some x) ∧ (∃ x, w.cell? ⟨g, k * 3 + 1, none⟩ = some x) ∧ (∃ x, w.cell? ⟨g, k * 3 + 2, none⟩ = some x) ∧ w.frozen? ⟨g, k * 3, none⟩ = false ∧ w.frozen? ⟨g, k * 3 + 1, none⟩ = false ∧ w.frozen? ⟨g, k * 3 + 2, none⟩ = false := by
  have hn : n = cs.length := by
    rcases h.2 with ⟨h', _⟩ | ⟨_, _, _, h', _⟩
    · simp at h'
    · simp only [Value.slice.injEq] at h'; exact h'.2.1
  subst hn
  obtain ⟨f1, f2, f3⟩ := flatC_at cs k hk
  exact ⟨⟨_, (World.ownsRow.cellAt h (k * 3) (by omega)).trans f1⟩, ⟨_, (World.ownsRow.cellAt h (k * 3 + 1) (by omega)).trans f2⟩, ⟨_, (World.ownsRow.cellAt h (k * 3 + 2) (by omega)).trans f3⟩, World.ownsRow.frozenAt h _, World.ownsRow.frozenAt h _, World.ownsRow.frozenAt h _⟩
theorem ownsI_made {w : World} {B g n : Nat} (h : w.ownsRow B 114 3 (.slice (some ⟨g, 0, none⟩) n n) n (madeCells #[Value.int .i64 0, Value.int .i64 0, Value.int .i64 0] (n * 3)).toList) : OwnsI w B (.slice (some ⟨g, 0, none⟩) n n) (List.replicate n (0, 0, 0)) := by
  rw [flatC_zero] at h
  unfold OwnsI
  simpa using h
theorem Try.infoIv : (Try.prog.info? 114).map (fun i => (i.zero, i.size, i.bytes)) = some (some (.agg #[.int .i64 0, .int .i64 0, .int .i64 0]), 3, 24) := by kernel_rfl
theorem range_none {cs : List CondD} {f : Int} (h : ∀ j, j < cs.length → ¬ (cs.getD j (0, 0, 0)).1 = f) : rangeC cs f = (0, 99) := by
  unfold rangeC
  have : cs.find? (fun c => decide (c.1 = f)) = none := by
    rw [List.find?_eq_none]
    intro c hc
    obtain ⟨j, hj, rfl⟩ := List.getElem_of_mem hc
    have e : cs.getD j (0, 0, 0) = cs[j] := by simp [List.getD, hj]
    have := h j hj
    rw [e] at this
    simpa using this
  rw [this]
theorem range_at {cs : List CondD} {f : Int} {k : Nat} (hk : k < cs.length) (h : ∀ j, j < k → ¬ (cs.getD j (0, 0, 0)).1 = f) (he : (cs.getD k (0, 0, 0)).1 = f) : rangeC cs f = ((cs.getD k (0, 0, 0)).2.1, (cs.getD k (0, 0, 0)).2.2) := by
  unfold rangeC
  have e : cs.getD k (0, 0, 0) = cs[k] := by simp [List.getD, hk]
  have : cs.find? (fun c => decide (c.1 = f)) = some (cs.getD k (0, 0, 0)) := by
    rw [List.find?_eq_some_iff_getElem]
    refine ⟨by simpa using he, k, hk, e.symm, fun j hj => ?_⟩
    have e2 : cs.getD j (0, 0, 0) = cs[j] := by simp [List.getD, Nat.lt_trans hj hk]
    have := h j hj
    rw [e2] at this
    simpa using this
  rw [this]
theorem pair_ret {a b c d : Int} (h1 : a = b) (h2 : c = d) : Ending.returned (.tuple #[.int .i64 a, .int .i64 c]) = .returned (.tuple #[.int .i64 b, .int .i64 d]) := by rw [h1, h2]
set_option maxHeartbeats 4000000 in
set_option maxRecDepth 100000 in
theorem rangeOf_any (v : Value) (cs : List CondD) (f : Int) (w : World) (h : CondsR w v cs) (hn : cs.length ≤ 1048576) :
    Calls Try.prog 88 #[v, .int .i64 f] w fun e w' => e = .returned (.tuple #[.int .i64 (rangeC cs f).1, .int .i64 (rangeC cs f).2]) ∧ Below w.heap.size w w' := by
  have H := Lib.hid h
  obtain ⟨a, cap, rfl⟩ := condsR_len h
  clear h
  go_enter Try.func88, Try.ntmps88
  go_wp2
  go_loopw [10] (fun i wr => ∃ k : Nat, k ≤ cs.length ∧ i = .int .i64 k ∧ Hid (∀ j, j < k → ¬ (cs.getD j (0, 0, 0)).1 = f) ∧ Below w.heap.size w wr) (fun i _ => cs.length - (intOf i).toNat)
  case atStart => exact ⟨0, Nat.zero_le _, rfl, Lib.hid (fun j hj => by omega), Below.refl _ _⟩
  case round =>
    obtain ⟨k, hk, rfl, hall, hbel⟩ := hrel
    by_cases hlt : k < cs.length
    · obtain ⟨b, off, cap', hv, hbl, hc1, hc2, hc3⟩ := condsR_at (condsR_below H.out hbel) hlt
      simp only [Value.slice.injEq] at hv
      obtain ⟨rfl, _, rfl⟩ := hv
      have i1 : (0 : Int) ≤ (k : Int) := by omega
      have i2 : (k : Int) < (cs.length : Int) := by omega
      have HAT := Lib.hid (range_at (f := f) hlt hall.out)
      have HNX : Hid (¬ (cs.getD k (0, 0, 0)).1 = f → ∀ j, j < k + 1 → ¬ (cs.getD j (0, 0, 0)).1 = f) := Lib.hid (fun he j hj => by
        by_cases e : j = k
        · exact e ▸ he
        · exact hall.out j (by omega))
      clear hall
      generalize cs.getD k (0, 0, 0) = c at *
      obtain ⟨cf, lo, hi⟩ := c
      simp only at hc1 hc2 hc3 HAT HNX
      have b3 := hbel.alloc hbel.size (.cells #[.int .i64 cf, .int .i64 lo, .int .i64 hi] 25)
      by_cases he : cf = f
      · have HR := Lib.hid (HAT.out he)
        subst he
        clear HAT HNX
        go_wp2
        go_quiet (fail)
        go_wp2
        go_ret2
        exact ⟨by rw [HR.out]; rfl, below_dn b3 _⟩
      · have HN := Lib.hid (HNX.out he)
        have hne : (cf == f) = false := by simp [he]
        clear HAT HNX
        go_wp2
        go_roundw
        case rel => exact ⟨k + 1, by omega, by go_num, HN, b3⟩
        case measure => simp [intOf]; omega
    · obtain rfl : k = cs.length := by omega
      have HR := Lib.hid (range_none hall.out)
      clear hall
      go_wp2
      go_ret2
      exact ⟨by rw [HR.out]; rfl, hbel⟩
set_option maxHeartbeats 4000000 in
set_option maxRecDepth 100000 in
theorem contains_is (a b c v : Int) (w : World) : Calls Try.prog 89 #[.agg #[.int .i64 a, .int .i64 b, .int .i64 c], .int .i64 v] w fun e w' => e = .returned (.bool (decide (a ≤ v ∧ v ≤ b))) ∧ Below w.heap.size w w' := by
  have hb : Below w.heap.size w (w.alloc (.cells #[.int .i64 a, .int .i64 b, .int .i64 c] 114)) := (Below.refl _ w).alloc (Nat.le_refl _) _
  obtain ⟨r, hr⟩ : ∃ r, decide (a ≤ v ∧ v ≤ b) = r := ⟨_, rfl⟩
  rw [hr]
  by_cases h1 : a ≤ v
  · by_cases h2 : v ≤ b
    · have HT : Hid (r = true) := Lib.hid (by rw [← hr]; exact decide_eq_true ⟨h1, h2⟩)
      clear hr
      go_enter Try.func89, Try.ntmps89
      go_wp2
      go_ret
      exact ⟨ret_b HT.out.symm, hb⟩
    · have HT : Hid (r = false) := Lib.hid (by rw [← hr]; exact decide_eq_false (fun g => h2 g.2))
      clear hr
      go_enter Try.func89, Try.ntmps89
      go_wp2
      go_ret
      exact ⟨ret_b HT.out.symm, hb⟩
  · have HT : Hid (r = false) := Lib.hid (by rw [← hr]; exact decide_eq_false (fun g => h1 g.1))
    clear hr
    go_enter Try.func89, Try.ntmps89
    go_wp2
    go_ret
    exact ⟨ret_b HT.out.symm, hb⟩
def admV (f : Int) (q : QD) : CondD := ((rangeC q.2.2.1 f).1, (rangeC q.2.2.1 f).2, q.1)
def admL (a : List QD) (f : Int) : List CondD := a.map (admV f)
theorem adm_copied (a : List QD) (f : Int) (k : Nat) (h : k < a.length) : ((a.take k).map (admV f) ++ List.replicate (a.length - k) ((0, 0, 0) : CondD)).set k (admV f (a.getD k q0D)) = (a.take (k + 1)).map (admV f) ++ List.replicate (a.length - (k + 1)) (0, 0, 0) := by
  have e : a.getD k q0D = a[k] := by simp [List.getD, h]
  rw [e, List.take_succ_eq_append_getElem h, List.map_append, List.set_append_right _ _ (by simp; omega)]
  simp only [List.length_map, List.length_take, Nat.min_eq_left (Nat.le_of_lt h), Nat.sub_self]
  rw [show a.length - k = (a.length - (k + 1)) + 1 by omega, List.replicate_succ, List.set_cons_zero]
  simp
set_option maxHeartbeats 8000000 in
set_option maxRecDepth 100000 in
theorem admissions_any (v : Value) (a : List QD) (f : Int) (w : World) (h : QueriesR w v a) (hs : szQL a ≤ 1048576) :
    Calls Try.prog 75 #[v, .int .i64 f] w fun e w' => ∃ u, e = .returned u ∧ OwnsI w' w.heap.size u (admL a f) ∧ Below w.heap.size w w' := by
  obtain ⟨i0, hi, hz0, hz1, hz2⟩ := info_parts Try.infoIv
  have HI := Lib.hid hi; have HZ0 := Lib.hid hz0; have HZ1 := Lib.hid hz1; have HZ2 := Lib.hid hz2
  clear hi hz0 hz1 hz2
  have H := Lib.hid h
  have HS := Lib.hid hs
  have hn := szQL_len hs
  obtain ⟨ao, cap, rfl⟩ := queriesR_len h
  clear h hs
  go_enter Try.func75, Try.ntmps75
  go_wp2_with (at_make; refine wpList_make_full _ rfl (.tmp 11) (.tmp 11) 97 rfl w.heap.size 114 i0 (.agg #[.int .i64 0, .int .i64 0, .int .i64 0]) 3 Try.underlying97 HI.out HZ0.out HZ1.out _ _ _ _ a.length rfl rfl rfl rfl (by rw [HZ2.out]; omega) (by unfold maxLen; omega) (Nat.le_refl _) ?_)
  intro w1 hown0 hg0
  have hown1 := ownsI_made hown0
  have hbel1 := (Below.refl w.heap.size w).grown hg0 (Nat.le_refl _) (fun k hk => by cases hk)
  clear hown0 hg0
  go_wp2
  go_loopw [15] (fun i wr => ∃ k : Nat, k ≤ a.length ∧ i = .int .i64 k ∧ OwnsI wr w.heap.size (.slice (some ⟨w.heap.size, 0, none⟩) a.length a.length) ((a.take k).map (admV f) ++ List.replicate (a.length - k) (0, 0, 0)) ∧ Below w.heap.size w wr) (fun i _ => a.length - (intOf i).toNat)
  case atStart => exact ⟨0, Nat.zero_le _, rfl, by simpa using hown1, hbel1⟩
  case round =>
    obtain ⟨k, hk, rfl, hown, hbel⟩ := hrel
    by_cases hlt : k < a.length
    · obtain ⟨b, off, cap', cv, ov, hv, hbl, hc1, hc2, hc3, hc4, hC, hO⟩ := queriesR_at (queriesR_below H.out hbel) hlt
      simp only [Value.slice.injEq] at hv
      obtain ⟨rfl, _, rfl⟩ := hv
      have HSET := Lib.hid (adm_copied a f k hlt)
      have HKL : Hid (k < ((a.take k).map (admV f) ++ List.replicate (a.length - k) ((0, 0, 0) : CondD)).length) := Lib.hid (by simp; omega)
      have i1 : (0 : Int) ≤ (k : Int) := by omega
      have i2 : (k : Int) < (a.length : Int) := by omega
      have hcl := (szQL_at HS.out hlt).1
      clear hown1 hbel1
      generalize a.getD k q0D = q at *
      obtain ⟨qid, qtn, qc, qo⟩ := q
      simp only at hc1 hc2 hc3 hc4 hC hO hcl
      have hav : admV f (qid, qtn, qc, qo) = ((rangeC qc f).1, (rangeC qc f).2, qid) := rfl
      rw [hav] at HSET
      clear hav
      generalize (a.take k).map (admV f) ++ List.replicate (a.length - k) ((0, 0, 0) : CondD) = us at *
      have hal : Below wr.heap.size wr (wr.alloc (.cells #[.int .i64 qid, .int .i64 qtn, cv, ov] 36)) := (Below.refl _ _).alloc (Nat.le_refl _) _
      have g0 := heap_alloc_new wr (.cells #[.int .i64 qid, .int .i64 qtn, cv, ov] 36)
      have HZL : Hid (wr.heap.size < (wr.alloc (.cells #[.int .i64 qid, .int .i64 qtn, cv, ov] 36)).heap.size) := Lib.hid (by simp)
      obtain ⟨ca, ccap, rfl⟩ := condsR_len hC
      obtain ⟨oa, ocap, rfl⟩ := ints_len hO
      have HCW := Lib.hid (condsR_below hC hal)
      have HOW := Lib.hid (ownsI_below hown hal)
      have HBW := Lib.hid (hbel.trans (hal.mono hbel.size))
      clear hown hbel hC hO
      go_wp2_with fail
      generalize wr.alloc (.cells #[.int .i64 qid, .int .i64 qtn, .slice ca qc.length ccap, .slice oa qo.length ocap] 36) = W at *
      refine (rangeOf_any _ qc f _ HCW.out hcl).mono ?_
      rintro e w2 ⟨rfl, b2⟩
      have k2 := (b2.block _ HZL.out).trans g0
      have p0 := (cell_of_row w2 _ 0 _ _ _ k2).trans (show _ = some (Value.int .i64 qid) from rfl)
      have ho := ownsI_below HOW.out b2
      have hst := Lib.hid (ownsI_store ho HKL.out ((rangeC qc f).1, (rangeC qc f).2, qid))
      rw [HSET.out] at hst
      have b3 := HBW.out.trans (b2.mono HBW.out.size)
      generalize (rangeC qc f).1 = lo at *
      generalize (rangeC qc f).2 = hi at *
      have B3 := ((b3.setCell (p := ⟨w.heap.size, k * 3, none⟩) (Nat.le_refl _) (.int .i64 lo)).setCell (p := ⟨w.heap.size, k * 3 + 1, none⟩) (Nat.le_refl _) (.int .i64 hi)).setCell (p := ⟨w.heap.size, k * 3 + 2, none⟩) (Nat.le_refl _) (.int .i64 qid)
      obtain ⟨⟨x0, q0⟩, ⟨x1, q1⟩, ⟨x2, q2⟩, f0, f1, f2⟩ := ownsI_cells ho HKL.out
      clear b2 ho hc1 hc2 hc3 hc4 k2 HOW HCW HSET g0 hal
      go_wp2
      go_roundw
      case rel => exact ⟨k + 1, by omega, by go_num, hst.out, B3⟩
      case measure => simp [intOf]; omega
    · obtain rfl : k = a.length := by omega
      have HE : Hid ((a.take a.length).map (admV f) ++ List.replicate (a.length - a.length) ((0, 0, 0) : CondD) = admL a f) := Lib.hid (by simp [admL])
      rw [HE.out] at hown
      go_wp2
      go_ret
      exact ⟨_, rfl, hown, hbel⟩
def ivB (v : Int) (c : CondD) : Bool := decide (c.1 ≤ v ∧ v ≤ c.2.1)
def ivL (cs : List CondD) (v : Int) : List Int := (cs.filter (ivB v)).map (·.2.2)
theorem ivL_adm (a : List QD) (f v : Int) : ivL (admL a f) v = valsL a f v := by
  unfold ivL admL valsL
  rw [List.filter_map, List.map_map]
  rfl
theorem ivL_yes {cs : List CondD} {v : Int} {k : Nat} (hk : k < cs.length) (h : ivB v (cs.getD k (0, 0, 0)) = true) : ivL (cs.take k) v ++ [(cs.getD k (0, 0, 0)).2.2] = ivL (cs.take (k + 1)) v := by
  have e : cs.getD k (0, 0, 0) = cs[k] := by simp [List.getD, hk]
  rw [e] at h ⊢
  unfold ivL
  rw [List.take_succ_eq_append_getElem hk, List.filter_append, List.map_append]
  simp [List.filter_cons, h]
theorem ivL_no {cs : List CondD} {v : Int} {k : Nat} (hk : k < cs.length) (h : ivB v (cs.getD k (0, 0, 0)) = false) : ivL (cs.take k) v = ivL (cs.take (k + 1)) v := by
  have e : cs.getD k (0, 0, 0) = cs[k] := by simp [List.getD, hk]
  rw [e] at h
  unfold ivL
  rw [List.take_succ_eq_append_getElem hk, List.filter_append, List.map_append]
  simp [List.filter_cons, h]
theorem ivL_len (cs : List CondD) (v : Int) : (ivL cs v).length ≤ cs.length := by
  unfold ivL
  rw [List.length_map]
  exact List.length_filter_le _ _
set_option maxHeartbeats 8000000 in
set_option maxRecDepth 100000 in
theorem valuesAt_any (u : Value) (cs : List CondD) (v : Int) (w : World) (h : CondsR w u cs) (hn : cs.length ≤ 1048576) :
    Calls Try.prog 76 #[u, .int .i64 v] w (FreshInts w (ivL cs v)) := by
  have H := Lib.hid h
  have HN := Lib.hid hn
  obtain ⟨a, cap, rfl⟩ := condsR_len h
  clear h
  go_enter Try.func76, Try.ntmps76
  go_wp2
  go_loopw [5, 10] (fun o i wr => ∃ k : Nat, k ≤ cs.length ∧ i = .int .i64 k ∧ OwnsN wr w.heap.size o (ivL (cs.take k) v) ∧ Below w.heap.size w wr) (fun _ i _ => cs.length - (intOf i).toNat)
  case atStart => exact ⟨0, Nat.zero_le _, rfl, ownsN_nil _ _, Below.refl _ _⟩
  case round =>
    obtain ⟨k, hk, rfl, hown, hbel⟩ := hrel
    by_cases hlt : k < cs.length
    · obtain ⟨b, off, cap', hv, hbl, hc1, hc2, hc3⟩ := condsR_at (condsR_below H.out hbel) hlt
      simp only [Value.slice.injEq] at hv
      obtain ⟨rfl, _, rfl⟩ := hv
      have i1 : (0 : Int) ≤ (k : Int) := by omega
      have i2 : (k : Int) < (cs.length : Int) := by omega
      have HYES := Lib.hid (fun h => ivL_yes (v := v) hlt h)
      have HNO := Lib.hid (fun h => ivL_no (v := v) hlt h)
      have HL : Hid ((ivL (cs.take k) v).length ≤ 1048576) := Lib.hid (by have := ivL_len (cs.take k) v; rw [List.length_take] at this; omega)
      generalize cs.getD k (0, 0, 0) = c at *
      obtain ⟨lo, hi, x⟩ := c
      simp only at hc1 hc2 hc3 HYES HNO
      have hal : Below wr.heap.size wr (wr.alloc (.cells #[.int .i64 lo, .int .i64 hi, .int .i64 x] 114)) := (Below.refl _ _).alloc (Nat.le_refl _) _
      have g0 := heap_alloc_new wr (.cells #[.int .i64 lo, .int .i64 hi, .int .i64 x] 114)
      have HZL : Hid (wr.heap.size < (wr.alloc (.cells #[.int .i64 lo, .int .i64 hi, .int .i64 x] 114)).heap.size) := Lib.hid (by simp)
      have HOW := Lib.hid (ownsN_below hown hal)
      have HBW := Lib.hid (hbel.trans (hal.mono hbel.size))
      have HIV : Hid (ivB v (lo, hi, x) = decide (lo ≤ v ∧ v ≤ hi)) := Lib.hid rfl
      clear hown hbel
      go_wp2_with fail
      generalize wr.alloc (.cells #[.int .i64 lo, .int .i64 hi, .int .i64 x] 114) = W at *
      refine (contains_is lo hi x v _).mono ?_
      rintro e w2 ⟨rfl, b2⟩
      have k2 := (b2.block _ HZL.out).trans g0
      have p2 := (cell_of_row w2 _ 2 _ _ _ k2).trans (show _ = some (Value.int .i64 x) from rfl)
      have ho := ownsN_below HOW.out b2
      have b3 := HBW.out.trans (b2.mono HBW.out.size)
      have hB3 := b3.size
      rw [← HIV.out]
      clear b2 hc1 hc2 hc3 k2 HOW g0 hal
      cases hin : ivB v (lo, hi, x) with
      | true =>
        have HY := Lib.hid (HYES.out hin)
        clear HYES HNO hin
        generalize ivL (cs.take k) v = ac at *
        go_wp2_with (at_builtin; refine append_ints rfl (.tmp 17) (.tmp 20) rfl w.heap.size _ _ rfl ho hB3 _ [x] 1 _ rfl (by first | rfl | (simp; done)) rfl (by have := HL.out; simp; omega) ?_)
        intro v' w4 hown3 hb3
        rw [HY.out] at hown3
        have hb4 := b3.trans hb3
        clear ho b3 hb3 p2
        go_wp2
        go_roundw
        case rel => exact ⟨k + 1, by omega, by go_num, hown3, hb4⟩
        case measure => simp [intOf]; omega
      | false =>
        have HY := Lib.hid (HNO.out hin)
        clear HYES HNO hin
        rw [HY.out] at ho
        go_wp2
        go_roundw
        case rel => exact ⟨k + 1, by omega, by go_num, ho, b3⟩
        case measure => simp [intOf]; omega
    · obtain rfl : k = cs.length := by omega
      rw [List.take_length] at hown
      go_wp2
      go_ret
      exact ⟨_, rfl, hown, hbel⟩
theorem isFieldValue_is (v : Int) (w : World) : Calls Try.prog 74 #[.int .i64 v] w fun e w' => e = .returned (.bool (okV v)) ∧ w' = w := by
  by_cases h1 : 0 ≤ v
  · have hge : v ≥ 0 := h1
    by_cases h2 : v ≤ 99
    · have HT : Hid (okV v = true) := Lib.hid (by unfold okV; exact decide_eq_true ⟨h1, h2⟩)
      go_enter Try.func74, Try.ntmps74
      go_wp2
      go_ret
      exact ⟨ret_b HT.out.symm, rfl⟩
    · have HT : Hid (okV v = false) := Lib.hid (by unfold okV; exact decide_eq_false (fun g => h2 g.2))
      go_enter Try.func74, Try.ntmps74
      go_wp2
      go_ret
      exact ⟨ret_b HT.out.symm, rfl⟩
  · have hge : ¬ v ≥ 0 := h1
    have HT : Hid (okV v = false) := Lib.hid (by unfold okV; exact decide_eq_false (fun g => h1 g.1))
    go_enter Try.func74, Try.ntmps74
    go_wp2
    go_ret
    exact ⟨ret_b HT.out.symm, rfl⟩
theorem isField_is (f : Int) (w : World) : Calls Try.prog 52 #[.int .i64 f] w fun e w' => e = .returned (.bool (okF f)) ∧ w' = w := by
  by_cases h : 0 ≤ f ∧ f < 3
  · rw [show okF f = true by unfold okF; exact decide_eq_true ⟨h.1, by omega⟩]; exact isField_yes f w h.1 h.2
  · rw [show okF f = false by unfold okF; exact decide_eq_false (fun g => h ⟨g.1, by omega⟩)]; exact isField_no f w h
theorem stab_no {a : List QD} {f v : Int} (h : (areQB a && (okF f && okV v)) = false) : stabL a f v = [] := by unfold stabL; rw [h]; rfl
set_option maxHeartbeats 4000000 in
set_option maxRecDepth 100000 in
theorem implStabSet (va : Value) (a : List QD) (f v : Int) (w : World) (h : QueriesR w va a) (hs : szQL a ≤ 1048576) :
    Calls Try.prog 44 #[va, .int .i64 f, .int .i64 v] w (FreshInts w (stabL a f v)) := by
  have H := Lib.hid h
  have HA := Lib.hid (fun w h => implAreQueries va a w h hs)
  have HF := Lib.hid (fun w => isField_is f w)
  have HV := Lib.hid (fun w => isFieldValue_is v w)
  have HAD := Lib.hid (fun w h => admissions_any va a f w h hs)
  have HVL := Lib.hid (fun u w h => valuesAt_any u (admL a f) v w h (by unfold admL; rw [List.length_map]; exact szQL_len hs))
  clear h hs
  cases ha : areQB a with
  | false =>
    have HE : Hid (stabL a f v = []) := Lib.hid (stab_no (by rw [ha]; rfl))
    rw [ha] at HA
    rw [HE.out]
    clear HF HV HAD HVL HE ha
    go_enter Try.func44, Try.ntmps44
    go_wp2_with fail
    refine (HA.out _ H.out).mono ?_
    rintro e w1 ⟨rfl, b1⟩
    go_wp2
    go_ret
    exact ⟨_, rfl, ownsN_nil _ _, b1⟩
  | true =>
    rw [ha] at HA
    cases hf : okF f with
    | false =>
      have HE : Hid (stabL a f v = []) := Lib.hid (stab_no (by rw [ha, hf]; rfl))
      rw [hf] at HF
      rw [HE.out]
      clear HV HAD HVL HE ha hf
      go_enter Try.func44, Try.ntmps44
      go_wp2_with fail
      refine (HA.out _ H.out).mono ?_
      rintro e w1 ⟨rfl, b1⟩
      go_wp2_with fail
      refine (HF.out _).mono ?_
      rintro e w2 ⟨rfl, rfl⟩
      go_wp2
      go_ret
      exact ⟨_, rfl, ownsN_nil _ _, b1⟩
    | true =>
      rw [hf] at HF
      cases hv : okV v with
      | false =>
        have HE : Hid (stabL a f v = []) := Lib.hid (stab_no (by rw [ha, hf, hv]; rfl))
        rw [hv] at HV
        rw [HE.out]
        clear HAD HVL HE ha hf hv
        go_enter Try.func44, Try.ntmps44
        go_wp2_with fail
        refine (HA.out _ H.out).mono ?_
        rintro e w1 ⟨rfl, b1⟩
        go_wp2_with fail
        refine (HF.out _).mono ?_
        rintro e w2 ⟨rfl, rfl⟩
        go_wp2_with fail
        refine (HV.out _).mono ?_
        rintro e w2 ⟨rfl, rfl⟩
        go_wp2
        go_ret
        exact ⟨_, rfl, ownsN_nil _ _, b1⟩
      | true =>
        have HE : Hid (ivL (admL a f) v = stabL a f v) := Lib.hid (by
          rw [ivL_adm]
          refine valsL_eq ha ?_ ?_
          · unfold okF at hf; simpa using hf
          · unfold okV at hv; simpa using hv)
        rw [hv] at HV
        rw [HE.out] at HVL
        generalize stabL a f v = s at *
        generalize admL a f = rs at *
        clear HE ha hf hv
        go_enter Try.func44, Try.ntmps44
        go_wp2_with fail
        refine (HA.out _ H.out).mono ?_
        rintro e w1 ⟨rfl, b1⟩
        go_wp2_with fail
        refine (HF.out _).mono ?_
        rintro e w2 ⟨rfl, rfl⟩
        go_wp2_with fail
        refine (HV.out _).mono ?_
        rintro e w2 ⟨rfl, rfl⟩
        go_wp2_with fail
        refine (HAD.out _ (queriesR_below H.out b1)).mono ?_
        rintro e w3 ⟨u, rfl, ou, b3⟩
        have c3 := b1.trans (b3.mono b1.size)
        go_wp2_with fail
        refine (HVL.out _ _ (ownsI_conds ou)).mono ?_
        rintro e w4 ⟨r, rfl, or, b4⟩
        have c4 := c3.trans (b4.mono c3.size)
        have o4 := ownsN_up or c3.size
        clear ou or b3 b4 c3 b1
        go_wp2
        go_ret
        exact ⟨_, rfl, o4, c4⟩
end Go.Proofs.Yteelgogfpidcdaa
