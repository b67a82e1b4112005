/-
  Texts of the proof, merged: QueryImpl, OpenInts, OpenRows, OpenQuery.
-/
import Derived.Test.YtginjmnohnidiaaAA4
import Derived.ProofKit
import Derived.OpenShut
import Derived.Carry
import Derived.Lib.SmallJoins
import Derived.Deep.Slices
import Derived.Deep.Strs
namespace Go.Proofs.Ytginjmnohnidiaa
open Go.RowKit
set_option linter.unusedVariables false
set_option linter.unusedSimpArgs false
theorem ownsR_none (w : World) (B : Nat) : OwnsR w B (.slice none 0 0) [] := ⟨[], fun _ => undef, World.ownsRow_nil w B _ _, fun j hj => by simp at hj, fun i j hi => by simp at hi⟩
/-- A slice that the call made, whose rows came in. -/
def RowsAt (w0 w : World) (v : Value) (rs : List RowD) : Prop := ∃ (cs : List Value) (vs : Nat → Value), RowsC w w0.heap.size v rs.length cs ∧ ∀ j, j < rs.length → cs[j * 2]? = some (.int .i64 (rs.getD j (0, [])).1) ∧ cs[j * 2 + 1]? = some (vs j) ∧ Ints w0 (vs j) (rs.getD j (0, [])).2
theorem rowsAt_nil (w0 w : World) : RowsAt w0 w (.slice none 0 0) [] := ⟨[], fun _ => undef, World.ownsRow_nil w _ _ _, fun j hj => by simp at hj⟩
theorem rowsAt_below {w0 w w' : World} {v : Value} {rs : List RowD} (h : RowsAt w0 w v rs) (hb : Below w.heap.size w w') : RowsAt w0 w' v rs := by
  obtain ⟨cs, vs, h1, h2⟩ := h
  exact ⟨cs, vs, rowsC_kept h1 hb, h2⟩
theorem rowsAt_rows {w0 w : World} {v : Value} {rs : List RowD} (h : RowsAt w0 w v rs) (hb : Below w0.heap.size w0 w) : RowsR w v rs := by
  obtain ⟨cs, vs, h1, h2⟩ := h
  have h1' := h1
  rcases h1.2 with ⟨rfl, h0⟩ | ⟨g, cap, cur, rfl, hb', hg, hn, hm, hcs, htake⟩
  · exact Or.inl ⟨List.eq_nil_of_length_eq_zero h0, none, 0, rfl⟩
  · refine Or.inr ⟨g, 0, cap, vs, rfl, hn, (Array.getElem?_eq_some_iff.1 hg).1, fun j hj => ?_⟩
    obtain ⟨g1, g2, g3⟩ := h2 j hj
    refine ⟨?_, ?_, ints_below g3 hb⟩
    · rw [Nat.zero_add, World.ownsRow.cellAt h1' (j * 2) (by omega)]; exact g1
    · rw [Nat.zero_add, World.ownsRow.cellAt h1' (j * 2 + 1) (by omega)]; exact g2
theorem rowsAt_push {w0 w : World} {v : Value} {rs : List RowD} {cs : List Value} {vs : Nat → Value} {id : Int} {vv : Value} {xs : List Int} (hl : cs.length = rs.length * 2)
    (h2 : ∀ j, j < rs.length → cs[j * 2]? = some (.int .i64 (rs.getD j (0, [])).1) ∧ cs[j * 2 + 1]? = some (vs j) ∧ Ints w0 (vs j) (rs.getD j (0, [])).2)
    (h : RowsC w w0.heap.size v (rs.length + 1) (cs ++ [.int .i64 id, vv])) (g : Ints w0 vv xs) : RowsAt w0 w v (rs ++ [(id, xs)]) := by
  refine ⟨cs ++ [.int .i64 id, vv], fun j => if j < rs.length then vs j else vv, by simpa using h, fun j hj => ?_⟩
  by_cases e : j < rs.length
  · obtain ⟨g1, g2, g3⟩ := h2 j e
    rw [List.getElem?_append_left (by omega), List.getElem?_append_left (by omega)]
    simp only [if_pos e]
    rw [show (rs ++ [(id, xs)]).getD j (0, []) = rs.getD j (0, []) by simp [List.getD, List.getElem?_append_left e]]
    exact ⟨g1, g2, g3⟩
  · have ej : j = rs.length := by simp at hj; omega
    subst ej
    rw [List.getElem?_append_right (by omega), List.getElem?_append_right (by omega), hl, Nat.sub_self, show rs.length * 2 + 1 - rs.length * 2 = 1 by omega]
    simp only [if_neg e]
    rw [show (rs ++ [(id, xs)]).getD rs.length (0, []) = (id, xs) by simp [List.getD]]
    exact ⟨rfl, rfl, g⟩
set_option maxHeartbeats 8000000 in
set_option maxRecDepth 100000 in
theorem implAnswerAlone (id tn : Int) (cv ov v : Value) (cs : List CondD) (os : List Int) (rs : List RowD) (w : World) (h : CondsR w cv cs) (hn : cs.length ≤ 1048576) (g : Ints w ov os) (hm : os.length ≤ 1048576) (gr : RowsR w v rs) (hs : szL rs ≤ 1048576) :
    Calls Try.prog 22 #[qV id tn cv ov, v] w (FreshRows w (answerL (matchB id tn cs os) rs)) := by
  obtain ⟨ca, ccap, rfl⟩ := condsR_len h
  obtain ⟨oa, ocap, rfl⟩ := ints_len g
  obtain ⟨ra, rcap, rfl⟩ := rowsR_len gr
  have HLEN := Lib.hid (szL_len hs)
  have hb0 : Below w.heap.size w (w.alloc (.cells #[.int .i64 id, .int .i64 tn, .slice ca cs.length ccap, .slice oa os.length ocap] 38)) := (Below.refl _ w).alloc (Nat.le_refl _) _
  have HB0 := Lib.hid hb0
  have HC0 := Lib.hid h
  have HO0 := Lib.hid g
  have HR0 := Lib.hid gr
  have HS := Lib.hid hs
  cases hq : queryB id tn cs os with
  | false =>
    have HQ := Lib.hid (fun w h g => checkQuery_no id tn (.slice ca cs.length ccap) (.slice oa os.length ocap) cs os w h hn g hm hq)
    have hf : (rs.filter (matchB id tn cs os)) = [] := by
      rw [List.filter_eq_nil_iff]
      intro r _
      unfold matchB; rw [hq]; simp
    have HT : Hid (answerL (matchB id tn cs os) rs = []) := Lib.hid (by unfold answerL; rw [hf]; rfl)
    clear h g hn hm gr hs hb0 hq hf
    rw [HT.out]
    go_enter Try.func22, Try.ntmps22
    go_wp2_with fail
    generalize w.alloc (.cells #[.int .i64 id, .int .i64 tn, .slice ca cs.length ccap, .slice oa os.length ocap] 38) = W at *
    refine (HQ.out _ (condsR_below HC0.out HB0.out) (ints_below HO0.out HB0.out)).mono ?_
    rintro e w1 ⟨rfl, b1⟩
    have c1 := HB0.out.trans (b1.mono HB0.out.size)
    have c2 := c1.alloc c1.size (.cells #[.slice none 0 0, .slice none 0 0] 88)
    go_wp2
    go_ret
    exact ⟨_, rfl, ownsR_none _ _, c2⟩
  | true =>
    have HQ := Lib.hid (fun w h g => checkQuery_yes id tn (.slice ca cs.length ccap) (.slice oa os.length ocap) cs os w h hn g hm hq)
    have HMT : Hid (∀ (rid : Int) (vv : Value) (xs : List Int) (w : World), CondsR w (.slice ca cs.length ccap) cs → Ints w (.slice oa os.length ocap) os → Ints w vv xs → xs.length ≤ 1048576 → Calls Try.prog 63 #[.agg #[.slice ca cs.length ccap, .slice oa os.length ocap], .agg #[.int .i64 rid, vv]] w fun e w' => e = .returned (.bool (matchB id tn cs os (rid, xs))) ∧ Below w.heap.size w w') := Lib.hid (fun rid vv xs w h g gr hx => by
      have := matches_any rid (.slice ca cs.length ccap) (.slice oa os.length ocap) vv cs os xs w h hn g gr hx (fun k hk => query_conds hq hk)
      have e : matchB id tn cs os (rid, xs) = (rowB (rid, xs) && cs.all (okC xs)) := by unfold matchB; rw [hq]; simp
      rw [e]; exact this)
    clear h g hn hm gr hs hb0 hq
    obtain ⟨m, hmm⟩ : ∃ m, matchB id tn cs os = m := ⟨_, rfl⟩
    rw [hmm] at HMT ⊢
    clear hmm
    have HSORT : Hid (∀ v w, RowsR w v (rs.filter m) → Calls Try.prog 15 #[v] w (FreshRows w (answerL m rs))) := Lib.hid (fun v w h => implSortRows v (rs.filter m) w h (Nat.le_trans (szL_filter m rs) HS.out))
    go_enter Try.func22, Try.ntmps22
    go_wp2_with fail
    generalize w.alloc (.cells #[.int .i64 id, .int .i64 tn, .slice ca cs.length ccap, .slice oa os.length ocap] 38) = W at *
    refine (HQ.out _ (condsR_below HC0.out HB0.out) (ints_below HO0.out HB0.out)).mono ?_
    rintro e w1 ⟨rfl, b1⟩
    have c1 := HB0.out.trans (b1.mono HB0.out.size)
    have c2 := c1.alloc c1.size (.cells #[.slice ca cs.length ccap, .slice oa os.length ocap] 88)
    have HCQ := Lib.hid (heap_alloc_new w1 (.cells #[.slice ca cs.length ccap, .slice oa os.length ocap] 88))
    have HWR := Lib.hid c1.size
    clear c1 b1
    go_wp2
    obtain ⟨R, hR⟩ : ∃ R, w1.heap.size = R := ⟨_, rfl⟩
    rw [hR] at HCQ HWR ⊢
    generalize w1.alloc (.cells #[.slice ca cs.length ccap, .slice oa os.length ocap] 88) = W2 at *
    clear hR
    have HRL := Lib.hid (Array.getElem?_eq_some_iff.1 HCQ.out).1
    go_loopw [7, 19] (fun v i wr => ∃ k : Nat, k ≤ rs.length ∧ i = .int .i64 k ∧ RowsAt W2 wr v ((rs.take k).filter m) ∧ Below W2.heap.size W2 wr) (fun _ i _ => rs.length - (intOf i).toNat)
    case atStart => exact ⟨0, Nat.zero_le _, rfl, by rw [List.take_zero]; exact rowsAt_nil _ _, Below.refl _ _⟩
    case round =>
      obtain ⟨k, hk, rfl, hown, hbel⟩ := hrel
      by_cases hlt : k < rs.length
      · obtain ⟨b, off, cap', vv, hv, hbl, hc1, hc2, hI⟩ := rowsR_at (rowsR_below HR0.out c2) hlt
        simp only [Value.slice.injEq] at hv
        obtain ⟨rfl, _, rfl⟩ := hv
        have HI := Lib.hid hI
        obtain ⟨va, vcap, rfl⟩ := ints_len hI
        have d1 := (hbel.cell (p := ⟨b, off + k * 2, none⟩) hbl).trans hc1
        have d2 := (hbel.cell (p := ⟨b, off + k * 2 + 1, none⟩) hbl).trans hc2
        have hxl := szL_row HS.out hlt
        have i1 : (0 : Int) ≤ (k : Int) := by omega
        have i2 : (k : Int) < (rs.length : Int) := by omega
        have i5 : k ≤ 1048576 := by have := HLEN.out; omega
        have HY := Lib.hid (filter_yes (m := m) hlt)
        have HN := Lib.hid (filter_no (m := m) hlt)
        have HFL : Hid (((rs.take k).filter m).length ≤ 1048576) := Lib.hid (by have := List.length_filter_le m (rs.take k); rw [List.length_take] at this; have := HLEN.out; omega)
        have HM := Lib.hid (fun w h g gr => HMT.out (rs.getD k (0, [])).1 (.slice va (rs.getD k (0, [])).2.length vcap) (rs.getD k (0, [])).2 w h g gr hxl)
        have er : (((rs.getD k (0, [])).1, (rs.getD k (0, [])).2) : RowD) = rs.getD k (0, []) := rfl
        rw [er] at HM
        clear er hI hc1 hc2 hbl
        generalize rs.getD k (0, []) = r at *
        obtain ⟨rid, xs⟩ := r
        try simp only at d1 d2 HI HM hxl
        have hW : Below wr.heap.size wr (wr.alloc (.cells #[.int .i64 rid, .slice va xs.length vcap] 76)) := (Below.refl _ wr).alloc (Nat.le_refl _) _
        have HG3 := Lib.hid (heap_alloc_new wr (.cells #[.int .i64 rid, .slice va xs.length vcap] 76))
        have bW := hbel.trans (hW.mono hbel.size)
        obtain ⟨s0, s1⟩ := box_cells HCQ.out bW
        have own3 := rowsAt_below hown hW
        clear hown hbel hW
        go_wp2_with fail
        obtain ⟨R3, hR3⟩ : ∃ R3, wr.heap.size = R3 := ⟨_, rfl⟩
        rw [hR3] at HG3 ⊢
        generalize wr.alloc (.cells #[.int .i64 rid, .slice va xs.length vcap] 76) = W3 at *
        clear hR3 d1 d2
        refine (HM.out _ (condsR_below HC0.out (c2.trans (bW.mono c2.size))) (ints_below HO0.out (c2.trans (bW.mono c2.size))) (ints_below HI.out bW)).mono ?_
        rintro e w4 ⟨rfl, b4⟩
        have c4 := bW.trans (b4.mono bW.size)
        obtain ⟨t0, t1⟩ := box_cells HG3.out b4
        have own4 := rowsAt_below own3 b4
        clear own3 bW s0 s1 b4
        cases hmr : m (rid, xs) with
        | false =>
          have HNN := HN.out hmr
          rw [HNN] at own4
          clear hmr HY HN HNN
          go_wp2
          go_roundw
          case rel => exact ⟨k + 1, by omega, by go_num, own4, c4⟩
          case measure => simp [intOf]; omega
        | true =>
          have HYY := Lib.hid (HY.out hmr)
          clear hmr HY HN
          obtain ⟨rcs, rvs, o1, o2⟩ := own4
          have O2 := Lib.hid o2
          have hl2 : rcs.length = ((rs.take k).filter m).length * 2 := o1.1
          have HL2 := Lib.hid hl2
          clear o2 hl2
          generalize (rs.take k).filter m = ac at *
          have a5 : Below w4.heap.size w4 (w4.alloc (.cells #[.int .i64 rid, .slice va xs.length vcap] 76)) := (Below.refl _ _).alloc (Nat.le_refl _) _
          have o5 := rowsC_kept o1 a5
          have c5 := c4.trans (a5.mono c4.size)
          have hq5 : ∀ j u, ([Value.int .i64 rid, .slice va xs.length vcap] : List Value)[j]? = some u → (w4.alloc (.cells #[.int .i64 rid, .slice va xs.length vcap] 76)).cell? ((⟨w4.heap.size, 0, none⟩ : Addr).add j) = some u := fun j u hj => by
            have e : (⟨w4.heap.size, 0, none⟩ : Addr).add j = ⟨w4.heap.size, j, none⟩ := by unfold Addr.add; split <;> simp_all
            rw [e, cell_lit]
            simpa using hj
          have HQ5 := Lib.hid hq5
          clear hq5 o1 a5 c4
          go_wp2_with (at_builtin; refine append_rows rfl (.tmp 26) (.tmp 28) rfl W2.heap.size _ ac.length rcs rfl o5 c5.size ⟨w4.heap.size, 0, none⟩ 1 _ [.int .i64 rid, .slice va xs.length vcap] rfl rfl HQ5.out (by intro u hu; simp at hu; rcases hu with rfl | rfl <;> rfl) (by have := HFL.out; omega) ?_; intro u6 w6 o6 g6 _ _)
          have c6 := c5.grown g6 c5.size (fun b hb => (o5.lt b hb).1)
          have own6 := rowsAt_push HL2.out O2.out o6 HI.out
          rw [HYY.out] at own6
          go_roundw
          case rel => exact ⟨k + 1, by omega, by go_num, own6, c6⟩
          case measure => simp [intOf]; omega
      · obtain rfl : k = rs.length := by omega
        rw [List.take_length] at hown
        have c9 := c2.trans (hbel.mono c2.size)
        have HF := Lib.hid (rowsAt_rows hown hbel)
        clear hown hbel
        go_wp2_with fail
        refine (HSORT.out _ _ HF.out).mono ?_
        rintro e w10 ⟨sv, rfl, o10, b10⟩
        have c10 := c9.trans (b10.mono c9.size)
        have o11 := ownsR_up o10 c9.size
        go_wp2
        go_ret
        exact ⟨_, rfl, o11, c10⟩
end Go.Proofs.Ytginjmnohnidiaa
namespace Go.Proofs.Ytginjmnohnidiaa
open Go.ChangeShapes Go.WideShapes Go.ChangeAt Go.WideMaps Go.WideElems Go.RowKit
set_option linter.unusedVariables false
theorem cI64 : Try.prog.cellsOf 3 = 1 := by kernel_rfl
theorem laidOutP : laidOutB Try.prog = true := by kernel_rfl
end Go.Proofs.Ytginjmnohnidiaa
namespace Go.Proofs.Ytginjmnohnidiaa
open Go.ChangeShapes Go.WideShapes Go.ChangeAt Go.WideMaps Go.WideElems Go.RowKit
set_option linter.unusedVariables false
theorem cInts : Try.prog.cellsOf 31 = 1 := by kernel_rfl
theorem cRowL : Try.prog.cellsOf 74 = 2 := by kernel_rfl
theorem recRowsL : Try.prog.readableRec 22 = true := by kernel_rfl
theorem rowRowsL : 22 < Try.prog.types.size := of_decide_eq_true (by kernel_rfl)
set_option maxRecDepth 100000 in
theorem ints_trod {H : Type} {enc : TypeId × Value → H} {W : World} {held : Bool} {fuel : Nat} {v : Value} {x : DataW H × List MemPlace} (h : DataW.trod enc Try.prog W 0 (fun _ => true) held fuel 31 [v] = some x) :
    ∃ xs, Ints W v xs ∧ (xs.length : Int) ≤ 9223372036854775807 := by
  rcases open_ints Try.underlying31 Try.underlying3 cI64 h with ⟨hcs, _⟩ | ⟨a', len', cap', zs, hcs, _, hl, hm, hz, _, hcell, hwz⟩
  · simp only [List.cons.injEq, and_true] at hcs
    subst hcs
    exact ⟨[], Or.inl ⟨rfl, none, 0, rfl⟩, by simp⟩
  · simp only [List.cons.injEq, and_true] at hcs
    subst hcs
    rw [if_pos rfl] at hz
    unfold maxLen at hm
    have hlen : (zs.take len').length = len' := by rw [List.length_take]; omega
    refine ⟨zs.take len', ?_, by rw [hlen]; omega⟩
    by_cases h0 : len' = 0
    · subst h0
      exact Or.inl ⟨rfl, some a', cap', rfl⟩
    · obtain ⟨b, off, rfl, hc⟩ := ints_at hcell (by omega)
      refine Or.inr ⟨b, off, cap', by rw [hlen], by omega, ?_, ?_⟩
      · exact World.block_lt_of_cell? W _ (hc 0 (by omega))
      · intro j hj
        rw [hlen] at hj
        rw [hc j (by omega)]
        simp [List.getD, hj]
theorem row_trod {H : Type} {enc : TypeId × Value → H} {W : World} {held : Bool} {fuel : Nat} {c0 c1 : Value} {x : DataW H × List MemPlace} (h : DataW.trod enc Try.prog W 0 (fun _ => true) held fuel 74 [c0, c1] = some x) :
    ∃ id xs, c0 = .int .i64 id ∧ Ints W c1 xs ∧ (xs.length : Int) ≤ 9223372036854775807 := by
  obtain ⟨y0, y1, n, _, _, h0, h1⟩ := trod_struct2 Try.underlying74 h
  simp only [cI64, cInts] at h0 h1
  obtain ⟨id, e, _, _⟩ := DataW.trod_int Try.underlying3 h0
  obtain ⟨xs, h2, h3⟩ := ints_trod (v := c1) h1
  simp only [List.drop_zero, List.take_succ_cons, List.take_zero, List.cons.injEq, and_true] at e
  exact ⟨id, xs, e, h2, h3⟩
set_option maxRecDepth 100000 in
theorem rows_open {H : Type} {enc : TypeId × Value → H} {W : World} {r : Reach} {b0 : Nat} {v : Value} {d : DataW H} {p : List MemPlace} (hval : Value.okWide Try.prog W r b0 22 v) (h : DataW.Trod enc Try.prog W 0 (fun _ => true) true 22 v d p) :
    ∃ rs, RowsR W v rs ∧ (rs.length : Int) ≤ 9223372036854775807 ∧ ∀ j, j < rs.length → ((rs.getD j (0, [])).2.length : Int) ≤ 9223372036854775807 := by
  obtain ⟨a, len, cap, rfl⟩ := okWide_slice Try.underlying22 hval
  obtain ⟨fuel, hf⟩ := h
  rcases Go.Deep.open_slice Try.underlying22 hf with ⟨hcs, _⟩ | ⟨a', len', cap', m, n, D, Pl, hcs, _, hl, hm, hmm, _, hx⟩
  · simp [Value.cells] at hcs
    obtain ⟨rfl, rfl, rfl⟩ := hcs
    exact ⟨[], Or.inl ⟨rfl, none, 0, rfl⟩, by simp, fun j hj => by simp at hj⟩
  · simp [Value.cells] at hcs
    obtain ⟨rfl, rfl, rfl⟩ := hcs
    rw [if_pos rfl] at hmm
    subst hmm
    unfold maxLen at hm
    obtain ⟨f, hf'⟩ := Go.Deep.choose_lt (α := RowD × Value) (n := len) (p := fun i q => W.cell? (a'.add (i * 2)) = some (.int .i64 q.1.1) ∧ W.cell? ((a'.add (i * 2)).add 1) = some q.2 ∧ Ints W q.2 q.1.2 ∧ (q.1.2.length : Int) ≤ 9223372036854775807) (fun i hi => by
      obtain ⟨cs', h1, h2⟩ := hx i (by omega)
      rw [cRowL] at h1
      obtain ⟨_, hlen, hc⟩ := World.cells?_some h1
      match cs', hlen with
      | [c0, c1], _ =>
        obtain ⟨id, xs, rfl, h3, h4⟩ := row_trod h2
        have e0 := hc 0 (by omega)
        have e1 := hc 1 (by omega)
        exact ⟨((id, xs), c1), by simpa [Addr.add] using e0, by simpa using e1, h3, h4⟩)
    have hat : ∀ j, j < len → ((List.range len).map fun i => (f i).1).getD j (0, []) = (f j).1 := fun j hj => by simp [List.getD, hj]
    have hlen : ((List.range len).map fun i => (f i).1).length = len := by simp
    refine ⟨(List.range len).map fun i => (f i).1, ?_, by rw [hlen]; omega, fun j hj => by rw [hlen] at hj; rw [hat j hj]; exact (hf' j hj).2.2.2⟩
    by_cases h0 : len = 0
    · subst h0
      exact Or.inl ⟨rfl, some a', _, rfl⟩
    · obtain ⟨b, off, spot⟩ := a'
      have hspot : spot = none := by simpa [Addr.add] using World.cell?_spot (hf' 0 (by omega)).1
      subst hspot
      refine Or.inr ⟨b, off, _, fun i => (f i).2, by rw [hlen], by rw [hlen]; exact hl, ?_, ?_⟩
      · have := World.block_lt_of_cell? W _ (hf' 0 (by omega)).1
        simpa [Addr.add] using this
      · intro j hj
        rw [hlen] at hj
        obtain ⟨g1, g2, g3, _⟩ := hf' j hj
        rw [hat j hj]
        rw [Go.WideShapes.add_plain] at g1 g2
        rw [Go.WideShapes.add_plain] at g2
        exact ⟨g1, g2, g3⟩
set_option maxRecDepth 100000 in
theorem rows_shut {H : Type} {enc : TypeId × Value → H} {W W' : World} {v : Value} {d : DataW H} {ps : List MemPlace} (h : DataW.Trod enc Try.prog W 0 (fun _ => true) true 22 v d ps) (hb : Below W.heap.size W W') (hlt : ∀ x ∈ ps, x.block < W.heap.size) :
    DataW.Trod enc Try.prog W' 0 (fun b => decide (b < W.heap.size)) true 22 v d ps := Below.trod laidOutP recRowsL rowRowsL h hb hlt
end Go.Proofs.Ytginjmnohnidiaa
namespace Go.Proofs.Ytginjmnohnidiaa
open Go.ChangeShapes Go.WideShapes Go.ChangeAt Go.WideMaps Go.WideElems Go.RowKit
set_option linter.unusedVariables false
theorem cCondL : Try.prog.cellsOf 127 = 3 := by kernel_rfl
theorem cQueryL : Try.prog.cellsOf 33 = 4 := by kernel_rfl
theorem recQueryL : Try.prog.readableRec 33 = true := by kernel_rfl
theorem rowQueryL : 33 < Try.prog.types.size := of_decide_eq_true (by kernel_rfl)
theorem cond_trod {H : Type} {enc : TypeId × Value → H} {W : World} {held : Bool} {fuel : Nat} {c0 c1 c2 : Value} {x : DataW H × List MemPlace} (h : DataW.trod enc Try.prog W 0 (fun _ => true) held fuel 127 [c0, c1, c2] = some x) :
    ∃ f l hh, c0 = .int .i64 f ∧ c1 = .int .i64 l ∧ c2 = .int .i64 hh := by
  obtain ⟨y0, y1, y2, n, _, _, h0, h1, h2⟩ := Go.Deep.trod_struct3 Try.underlying127 h
  simp only [cI64] at h0 h1 h2
  obtain ⟨f, e0, _, _⟩ := DataW.trod_int Try.underlying3 h0
  obtain ⟨l, e1, _, _⟩ := DataW.trod_int Try.underlying3 h1
  obtain ⟨hh, e2, _, _⟩ := DataW.trod_int Try.underlying3 h2
  simp only [List.drop_zero, List.drop_succ_cons, List.take_succ_cons, List.take_zero, List.cons.injEq, and_true] at e0 e1 e2
  exact ⟨f, l, hh, e0, e1, e2⟩
set_option maxRecDepth 100000 in
theorem conds_trod {H : Type} {enc : TypeId × Value → H} {W : World} {held : Bool} {fuel : Nat} {v : Value} {x : DataW H × List MemPlace} (hf : DataW.trod enc Try.prog W 0 (fun _ => true) held fuel 30 [v] = some x) :
    ∃ cs, CondsR W v cs ∧ (cs.length : Int) ≤ 9223372036854775807 := by
  rcases Go.Deep.open_slice Try.underlying30 hf with ⟨hcs, _⟩ | ⟨a', len, cap', m, n, D, Pl, hcs, _, hl, hm, hmm, _, hx⟩
  · simp only [List.cons.injEq, and_true] at hcs
    subst hcs
    exact ⟨[], Or.inl ⟨rfl, none, 0, rfl⟩, by simp⟩
  · simp only [List.cons.injEq, and_true] at hcs
    subst hcs
    rw [if_pos rfl] at hmm
    subst hmm
    unfold maxLen at hm
    obtain ⟨f, hf'⟩ := Go.Deep.choose_lt (α := CondD) (n := len) (p := fun i q => W.cell? (a'.add (i * 3)) = some (.int .i64 q.1) ∧ W.cell? ((a'.add (i * 3)).add 1) = some (.int .i64 q.2.1) ∧ W.cell? ((a'.add (i * 3)).add 2) = some (.int .i64 q.2.2)) (fun i hi => by
      obtain ⟨cs', h1, h2⟩ := hx i (by omega)
      rw [cCondL] at h1
      obtain ⟨_, hlen, hc⟩ := World.cells?_some h1
      match cs', hlen with
      | [c0, c1, c2], _ =>
        obtain ⟨f, l, hh, rfl, rfl, rfl⟩ := cond_trod h2
        have e0 := hc 0 (by omega)
        have e1 := hc 1 (by omega)
        have e2 := hc 2 (by omega)
        exact ⟨(f, l, hh), by simpa [Addr.add] using e0, by simpa using e1, by simpa using e2⟩)
    have hat : ∀ j, j < len → ((List.range len).map f).getD j (0, 0, 0) = f j := fun j hj => by simp [List.getD, hj]
    have hlen : ((List.range len).map f).length = len := by simp
    refine ⟨(List.range len).map f, ?_, by rw [hlen]; omega⟩
    by_cases h0 : len = 0
    · subst h0
      exact Or.inl ⟨rfl, some a', _, rfl⟩
    · obtain ⟨b, off, spot⟩ := a'
      have hspot : spot = none := by simpa [Addr.add] using World.cell?_spot (hf' 0 (by omega)).1
      subst hspot
      refine Or.inr ⟨b, off, _, by rw [hlen], by rw [hlen]; exact hl, ?_, ?_⟩
      · have := World.block_lt_of_cell? W _ (hf' 0 (by omega)).1
        simpa [Addr.add] using this
      · intro j hj
        rw [hlen] at hj
        obtain ⟨g1, g2, g3⟩ := hf' j hj
        rw [hat j hj]
        rw [Go.WideShapes.add_plain] at g1 g2 g3
        rw [Go.WideShapes.add_plain] at g2 g3
        exact ⟨g1, g2, g3⟩
set_option maxRecDepth 100000 in
theorem queryV_open {H : Type} {enc : TypeId × Value → H} {W : World} {r : Reach} {b0 : Nat} {v : Value} {d : DataW H} {p : List MemPlace} (hval : Value.okWide Try.prog W r b0 33 v) (h : DataW.Trod enc Try.prog W 0 (fun _ => true) true 33 v d p) :
    ∃ id tn cv ov cs os, v = qV id tn cv ov ∧ CondsR W cv cs ∧ Ints W ov os ∧ (cs.length : Int) ≤ 9223372036854775807 ∧ (os.length : Int) ≤ 9223372036854775807 := by
  obtain ⟨v0, v1, v2, v3, y0, y1, y2, y3, n, rfl, _, _, h0, h1, h2, h3⟩ := Go.Joins.open_agg4 Try.underlying33 (by kernel_rfl) cQueryL hval h
  obtain ⟨id, e0, _, _⟩ := DataW.trod_int Try.underlying3 h0
  obtain ⟨tn, e1, _, _⟩ := DataW.trod_int Try.underlying3 h1
  obtain ⟨cs, g2, g3⟩ := conds_trod h2
  obtain ⟨os, g4, g5⟩ := ints_trod h3
  simp only [List.cons.injEq, and_true] at e0 e1
  subst e0 e1
  exact ⟨id, tn, v2, v3, cs, os, rfl, g2, g4, g3, g5⟩
set_option maxRecDepth 100000 in
theorem queryV_shut {H : Type} {enc : TypeId × Value → H} {W W' : World} {v : Value} {d : DataW H} {ps : List MemPlace} (h : DataW.Trod enc Try.prog W 0 (fun _ => true) true 33 v d ps) (hb : Below W.heap.size W W') (hlt : ∀ x ∈ ps, x.block < W.heap.size) :
    DataW.Trod enc Try.prog W' 0 (fun b => decide (b < W.heap.size)) true 33 v d ps := Below.trod laidOutP recQueryL rowQueryL h hb hlt
end Go.Proofs.Ytginjmnohnidiaa
