/-
  The program's copy of a row.
-/
import Derived.Test.YtginjmnohnidiaaRowCmp
import Derived.Test.YtginjmnohnidiaaAppInts
import Derived.Test.YtginjmnohnidiaaCopyP
namespace Go.Proofs.Ytginjmnohnidiaa
open Go.RowKit
set_option linter.unusedVariables false
set_option linter.unusedSimpArgs false
/-- 'append(out, xs...)' of the numbers of a slice that came from anywhere. -/
theorem wpl_append_ints {w : World} {ops : Array Oper} {rest : List Oper} {o : Oper} {a : Act} {Q : Exit → Act → World → Prop} (hgd : o.guard = none) (s x : Operand)
    (ho : o.op = .call { callee := .builtin .append, args := #[s, x], argTypes := #[31, 31] })
    (B : Nat) (v u : Value) (xs ys : List Int) (hs : a.eval s = v) (hx : a.eval x = u) (hown : OwnsN w B v xs) (hu : Ints w u ys) (hB : B ≤ w.heap.size) (h63 : xs.length + ys.length ≤ 17592186044416)
    (h : ∀ v' w', OwnsN w' B v' (xs ++ ys) → Below B w w' → wpList Try.prog ops Q rest (a.put o.dst v') w') : wpList Try.prog ops Q (o :: rest) a w := by
  refine wpList_plain hgd fun K hK => ?_
  obtain ⟨v', w', hr, h2, h3⟩ := run_append_ints o.type hown hu hB h63
  unfold Oper.wp
  simp [execOp, ho, resolve, invoke, builtin, hs, hx, hr, Result.andThen]
  exact hK _ _ (h v' w' h2 h3)
set_option maxHeartbeats 4000000 in
set_option maxRecDepth 100000 in
theorem copyRow_any (id : Int) (vv : Value) (xs : List Int) (w : World) (h : Ints w vv xs) (hn : xs.length ≤ 1048576) :
    Calls Try.prog 93 #[.agg #[.int .i64 id, vv]] w (FreshRow w (id, xs)) := by
  have H := Lib.hid h
  have HN := Lib.hid hn
  obtain ⟨va, vcap, rfl⟩ := ints_len h
  clear h hn
  have hb : Below w.heap.size w ((w.alloc (.cells #[.int .i64 id, .slice va xs.length vcap] 76)).alloc (.cells #[.int .i64 0, .slice none 0 0] 76)) := ((Below.refl _ w).alloc (Nat.le_refl _) _).alloc (by simp) _
  have g2 : ((w.alloc (.cells #[.int .i64 id, .slice va xs.length vcap] 76)).alloc (.cells #[.int .i64 0, .slice none 0 0] 76)).heap[w.heap.size + 1]? = some (.cells #[.int .i64 0, .slice none 0 0] 76 (0, 0)) := by
    have := heap_alloc_new (w.alloc (.cells #[.int .i64 id, .slice va xs.length vcap] 76)) (.cells #[.int .i64 0, .slice none 0 0] 76)
    simpa only [World.size_alloc] using this
  have g1 : ((w.alloc (.cells #[.int .i64 id, .slice va xs.length vcap] 76)).alloc (.cells #[.int .i64 0, .slice none 0 0] 76)).heap[w.heap.size]? = some (.cells #[.int .i64 id, .slice va xs.length vcap] 76 (0, 0)) := by
    rw [Below.heap_alloc _ _ _ (by simp)]
    exact heap_alloc_new w _
  have hs : ((w.alloc (.cells #[.int .i64 id, .slice va xs.length vcap] 76)).alloc (.cells #[.int .i64 0, .slice none 0 0] 76)).heap.size = w.heap.size + 2 := by simp [World.size_alloc]
  have HG := Lib.hid (And.intro g1 (And.intro g2 (And.intro hs hb)))
  clear g1 g2 hs hb
  go_enter Try.func93, Try.ntmps93
  go_wp2_with fail
  refine (copyInts_any (.slice va xs.length vcap) xs _ (ints_below H.out HG.out.2.2.2) HN.out).mono ?_
  rintro e W3 ⟨u, rfl, oB0, bB0⟩
  have hs := HG.out.2.2.1
  rw [hs] at oB0 bB0
  have oB := oB0
  have bB := bB0
  clear oB0 bB0 hs
  obtain ⟨ua, ucap, rfl⟩ := ints_len (ownsN_ints oB)
  have k1 := (bB.block w.heap.size (by omega)).trans HG.out.1
  have k2 := (bB.block (w.heap.size + 1) (by omega)).trans HG.out.2.1
  have c0 := cell_of_row W3 _ 0 _ _ _ k1
  have c1 := cell_of_row W3 _ 1 _ _ _ k1
  have f1 := frozen_of_row W3 _ 1 _ _ k1
  have d0 := cell_of_row W3 _ 0 _ _ _ k2
  have d1 := cell_of_row W3 _ 1 _ _ _ k2
  have e0 := frozen_of_row W3 _ 0 _ _ k2
  have e1 := frozen_of_row W3 _ 1 _ _ k2
  simp at c0 c1 d0 d1
  have HK := Lib.hid k2
  have bC := Lib.hid (HG.out.2.2.2.trans (bB.mono (by omega)))
  clear k1 k2 bB
  go_wp2
  have hne : (w.heap.size + 1 = w.heap.size) = False := by simp
  have m2 := (heap_setCell_other W3 ⟨w.heap.size, 1, none⟩ (w.heap.size + 1) (.slice ua xs.length ucap) (by simp)).trans HK.out
  have r1 := heap_setCell_same _ (w.heap.size + 1) 0 _ _ (.int .i64 id) m2
  have r2 := heap_setCell_same _ (w.heap.size + 1) 1 _ _ (.slice ua xs.length ucap) r1
  have o4 := ownsN_low (ownsN_low (ownsN_low oB (b := w.heap.size) (by omega) 1 (.slice ua xs.length ucap)) (b := w.heap.size + 1) (by omega) 0 (.int .i64 id)) (b := w.heap.size + 1) (by omega) 1 (.slice ua xs.length ucap)
  have B4 := ((bC.out.setCell (p := ⟨w.heap.size, 1, none⟩) (by simp) (.slice ua xs.length ucap)).setCell (p := ⟨w.heap.size + 1, 0, none⟩) (by simp) (.int .i64 id)).setCell (p := ⟨w.heap.size + 1, 1, none⟩) (by simp) (.slice ua xs.length ucap)
  have e0 := cell_of_row _ _ 0 _ _ _ r2
  have e1 := cell_of_row _ _ 1 _ _ _ r2
  simp at e0 e1
  refine bodyPost_ret (v := .agg #[.int .i64 id, .slice ua xs.length ucap]) ?_ rfl ?_
  · simp [results, Try.f93, go_sem, e0, e1]
  · exact ⟨_, rfl, ownsN_up o4 (by omega), B4⟩
set_option maxHeartbeats 4000000 in
set_option maxRecDepth 100000 in
theorem copyEachRow_any (v : Value) (rs : List RowD) (w : World) (h : RowsR w v rs) (hs : szL rs ≤ 1048576) :
    Calls Try.prog 92 #[v, .func (.func 93) #[] #[]] w (FreshRows w rs) := by
  obtain ⟨i0, hi, hz0, hz1⟩ : ∃ i, Try.prog.info? 76 = some i ∧ i.zero = some (.agg #[.int .i64 0, .slice none 0 0]) ∧ i.size = 2 := by
    have := Try.infoRow
    cases e : Try.prog.info? 76 with
    | none => rw [e] at this; simp at this
    | some i => rw [e] at this; simp at this; exact ⟨i, rfl, this.1, this.2⟩
  have hz2 : i0.bytes = 32 := by
    have := row_bytes
    rw [hi] at this; simpa using this
  have HI := Lib.hid hi; have HZ0 := Lib.hid hz0; have HZ1 := Lib.hid hz1; have HZ2 := Lib.hid hz2
  clear hi hz0 hz1 hz2
  have H := Lib.hid h
  have hlen : rs.length ≤ 1048576 := by have := szTo_le (rs := rs) (Nat.zero_le _); rw [szTo_zero] at this; omega
  have HS := Lib.hid hs
  obtain ⟨a, cap, rfl⟩ := rowsR_len h
  clear h hs
  go_enter Try.func92, Try.ntmps92
  go_wp2_with (at_make; refine wpList_make_full _ rfl (.tmp 9) (.tmp 9) 24 rfl w.heap.size 76 i0 (.agg #[.int .i64 0, .slice none 0 0]) 2 Try.underlying24 HI.out HZ0.out HZ1.out _ _ _ _ rs.length rfl rfl rfl rfl (by rw [HZ2.out]; omega) (by unfold maxLen; omega) (Nat.le_refl _) ?_)
  intro w1 hown0 hg0
  have hown1 := ownsR_made hown0
  have hbel1 := (Below.refl w.heap.size w).grown hg0 (Nat.le_refl _) (fun k hk => by cases hk)
  clear hown0 hg0
  go_wp2
  go_loopw [13] (fun i wr => ∃ k : Nat, k ≤ rs.length ∧ i = .int .i64 k ∧ OwnsR wr w.heap.size (.slice (some ⟨w.heap.size, 0, none⟩) rs.length rs.length) (rs.take k ++ List.replicate (rs.length - k) (0, [])) ∧ Below w.heap.size w wr) (fun i _ => rs.length - (intOf i).toNat)
  case atStart => exact ⟨0, Nat.zero_le _, rfl, by simpa using hown1, hbel1⟩
  case round =>
    obtain ⟨k, hk, rfl, hown, hbel⟩ := hrel
    by_cases hlt : k < rs.length
    · obtain ⟨b, off, cap', vv, hv, hbl, hc1, hc2, hI⟩ := rowsR_at (rowsR_below H.out hbel) hlt
      simp only [Value.slice.injEq] at hv
      obtain ⟨rfl, _, rfl⟩ := hv
      have hxl : (rs.getD k (0, [])).2.length ≤ 1048576 := by
        have h1 := szTo_step hlt
        have h2 := szTo_le (rs := rs) (k := k + 1) (by omega)
        have := HS.out
        omega
      have hset := rows_copied rs k hlt
      have hkl : k < (rs.take k ++ List.replicate (rs.length - k) ((0, []) : RowD)).length := by simp; omega
      have i1 : (0 : Int) ≤ (k : Int) := by omega
      have i2 : (k : Int) < (rs.length : Int) := by omega
      have HSET := Lib.hid hset
      have HKL := Lib.hid hkl
      clear hset hkl hown1 hbel1
      generalize rs.getD k (0, []) = r at *
      obtain ⟨id, xs⟩ := r
      simp only at hc1 hc2 hI hxl
      obtain ⟨va, vcap, rfl⟩ := ints_len hI
      have bb := (Below.refl wr.heap.size wr).alloc (Nat.le_refl _) (.cells #[.int .i64 id, .slice va xs.length vcap] 76)
      go_wp2_with fail
      refine (copyRow_any id (.slice va xs.length vcap) xs _ (ints_below hI bb) hxl).mono ?_
      rintro e w2 ⟨uv, rfl, ou, b2⟩
      replace ou := ownsN_up ou bb.size
      replace b2 := bb.trans (b2.mono bb.size)
      clear bb
      have hst := Lib.hid (ownsR_store hown b2 hbel.size HKL.out (id, xs) ou)
      rw [HSET.out] at hst
      have b3 := hbel.trans (b2.mono hbel.size)
      have hg : w.heap.size < w2.heap.size := by
        obtain ⟨cs, vs, h1, _⟩ := hown
        have := (h1.lt w.heap.size rfl).2
        have := b2.size
        omega
      obtain ⟨ua, uc, rfl⟩ := ints_len (ownsN_ints ou)
      obtain ⟨q0, q1, f0, f1⟩ : (∃ x, w2.cell? ⟨w.heap.size, k * 2, none⟩ = some x) ∧ (∃ x, w2.cell? ⟨w.heap.size, k * 2 + 1, none⟩ = some x) ∧ w2.frozen? ⟨w.heap.size, k * 2, none⟩ = false ∧ w2.frozen? ⟨w.heap.size, k * 2 + 1, none⟩ = false := by
        obtain ⟨cs, vs, h1, h2, _⟩ := ownsR_below hown b2
        have hl0 : (rs.take k ++ List.replicate (rs.length - k) ((0, []) : RowD)).length = rs.length := by simp; omega
        rw [hl0] at h1 h2
        obtain ⟨g1, g2, _, _⟩ := h2 k hlt
        exact ⟨⟨_, (World.ownsRow.cellAt h1 (k * 2) (by omega)).trans g1⟩, ⟨_, (World.ownsRow.cellAt h1 (k * 2 + 1) (by omega)).trans g2⟩, World.ownsRow.frozenAt h1 _, World.ownsRow.frozenAt h1 _⟩
      obtain ⟨x0, q0⟩ := q0
      obtain ⟨x1, q1⟩ := q1
      have B3 := (b3.setCell (p := ⟨w.heap.size, k * 2, none⟩) (Nat.le_refl _) (.int .i64 id)).setCell (p := ⟨w.heap.size, k * 2 + 1, none⟩) (Nat.le_refl _) (.slice ua xs.length uc)
      clear hown hbel b2 ou hc1 hc2 hI
      go_wp2
      go_roundw
      case rel => exact ⟨k + 1, by omega, by go_num, hst.out, B3⟩
      case measure => simp [intOf]; omega
    · obtain rfl : k = rs.length := by omega
      have HE : Hid (rs.take rs.length ++ List.replicate (rs.length - rs.length) ((0, []) : RowD) = rs) := Lib.hid (by simp)
      rw [HE.out] at hown
      go_wp2
      go_ret
      exact ⟨_, rfl, hown, hbel⟩
set_option maxHeartbeats 2000000 in
set_option maxRecDepth 100000 in
theorem copyRows_any (v : Value) (rs : List RowD) (w : World) (h : RowsR w v rs) (hs : szL rs ≤ 1048576) :
    Calls Try.prog 51 #[v] w (FreshRows w rs) := by
  have H := Lib.hid (fun w h => copyEachRow_any v rs w h hs)
  have HV := Lib.hid h
  clear h hs
  go_enter Try.func51, Try.ntmps51
  go_wp2_with fail
  refine (H.out _ HV.out).mono ?_
  rintro e w1 ⟨u, rfl, o1, b1⟩
  obtain ⟨ua, uc, rfl⟩ := rowsR_len (ownsR_rows o1)
  go_wp2
  go_ret
  exact ⟨_, rfl, o1, b1⟩
end Go.Proofs.Ytginjmnohnidiaa
