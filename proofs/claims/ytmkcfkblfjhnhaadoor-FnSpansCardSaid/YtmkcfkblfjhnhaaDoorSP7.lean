/-
  Texts of the proof, merged: QueryDraw2.
-/
import Derived.Test.YtmkcfkblfjhnhaaDoorSP6
namespace Go.Proofs.YtmkcfkblfjhnhaaDoor
open Go.RowKit
set_option linter.unusedVariables false
set_option linter.unusedSimpArgs false
def qids : List Int := [-1, 23, 24]
def qtns : List Int := [-1, 3, 4]
def qhis : List Int := [2, 3, 99, 100]
def qfls : List Int := [-1, 0, 3]
theorem owns_off {w : World} {B : Nat} {e : TypeId} {size : Nat} {v : Value} {n : Nat} {xs : List Value} (h : w.ownsRow B e size v n xs) {b : Nat} (hne : v.ownBlock ≠ some b) (j : Nat) (u : Value) : (w.setCell ⟨b, j, none⟩ u).ownsRow B e size v n xs := by
  refine ⟨h.1, ?_⟩
  rcases h.2 with hn | ⟨g, cap, cur, rfl, hb', hg, rest⟩
  · exact .inl hn
  · refine .inr ⟨g, cap, cur, rfl, hb', ?_, rest⟩
    have hgb : ¬ b = g := fun e => hne (by rw [e]; rfl)
    exact (heap_setCell_other w ⟨b, j, none⟩ g u (by simpa using fun e => hgb e.symm)).trans hg
theorem owns_apart {w : World} {B R : Nat} {e : TypeId} {size : Nat} {v : Value} {n : Nat} {xs : List Value} {vals : Array Value} {T : TypeId} {fr : Nat × Nat} (h : w.ownsRow B e size v n xs) (hb : w.heap[R]? = some (.cells vals T fr)) (hT : T ≠ e) : v.ownBlock ≠ some R := by
  intro q
  rcases h.2 with ⟨rfl, _⟩ | ⟨g, cap, cur, rfl, _, hg, _⟩
  · simp [Value.ownBlock] at q
  · have : g = R := by simpa [Value.ownBlock] using q
    subst this
    rw [hg] at hb
    simp only [Option.some.injEq, Obj.cells.injEq] at hb
    exact hT hb.2.1.symm
theorem info_cond : ∃ i, Tryd.prog.info? 92 = some i ∧ i.zero = some (.agg #[.int .i64 0, .int .i64 0, .int .i64 0]) ∧ i.size = 3 ∧ i.bytes = 24 := by
  have h1 := Tryd.infoCond
  cases e : Tryd.prog.info? 92 with
  | none => rw [e] at h1; simp at h1
  | some i => rw [e] at h1; simp at h1; exact ⟨i, rfl, h1.1, h1.2⟩
/-- One condition is appended; only the slice's own block turns. -/
theorem step_append_cond1 {w : World} {ops : Array Oper} {o : Oper} {a : Act} {K : Act → World → Prop} {Q : Exit → Act → World → Prop} {E : Prop} (hwa : Region.wanted o (yielded ops a.tmps) = true) (s x : Operand)
    (ho : o.op = .call { callee := .builtin .append, args := #[s, x], argTypes := #[57, 57] })
    (B : Nat) (v : Value) (cs : List CondD) (b : Nat) (f lo hi : Int) (hs : a.eval s = v) (hx : a.eval x = .slice (some ⟨b, 0, none⟩) 1 1) (hown : OwnsC w B v cs)
    (hu : w.cell? ⟨b, 0, none⟩ = some (.int .i64 f) ∧ w.cell? ⟨b, 1, none⟩ = some (.int .i64 lo) ∧ w.cell? ⟨b, 2, none⟩ = some (.int .i64 hi)) (hB : B ≤ w.heap.size) (h63 : cs.length ≤ 1048576)
    (h : ∀ v' w', OwnsC w' B v' (cs ++ [(f, lo, hi)]) → w.grownBy w' v.ownBlock → K (a.put o.dst v') w') : if Region.wanted o (yielded ops a.tmps) = true then Oper.wp Tryd.prog o a w K Q else E := by
  rw [if_pos hwa]
  obtain ⟨i0, hi0, hz0, hz1, hz2⟩ := info_cond
  obtain ⟨v', w', hr, h2, h3, _⟩ := run_append_own (P := Tryd.prog) w B 57 o.type 92 i0 (.agg #[.int .i64 0, .int .i64 0, .int .i64 0]) 3 24 Tryd.underlying57 hi0 hz0 hz1 hz2 rfl (by decide) v cs.length _ hown ⟨b, 0, none⟩ 1 1 [.int .i64 f, .int .i64 lo, .int .i64 hi] rfl (by
    intro j q hj
    rw [Go.WideShapes.add_plain, Nat.zero_add]
    match j, hj with
    | 0, hj => simp at hj; rw [← hj]; exact hu.1
    | 1, hj => simp at hj; rw [← hj]; exact hu.2.1
    | 2, hj => simp at hj; rw [← hj]; exact hu.2.2
    | j + 3, hj => simp at hj) (by intro q hq; simp at hq; rcases hq with rfl | rfl | rfl <;> rfl) (by unfold maxLen; omega) (by omega) hB
  unfold Oper.wp execOp
  simp only [ho, resolve, invoke, builtin, Sem.run_bind, Sem.run_pure, Result.andThen_ok, List.map_toArray, List.map_cons, List.map_nil, hs, hx, hr]
  refine h v' w' ?_ h3
  unfold OwnsC
  rw [flatC_app, List.length_append]
  exact h2
theorem step_append_one {w : World} {ops : Array Oper} {o : Oper} {a : Act} {K : Act → World → Prop} {Q : Exit → Act → World → Prop} {E : Prop} (hwa : Region.wanted o (yielded ops a.tmps) = true) (s x : Operand)
    (ho : o.op = .call { callee := .builtin .append, args := #[s, x], argTypes := #[32, 32] })
    (B : Nat) (v : Value) (xs : List Int) (b : Nat) (y : Int) (hs : a.eval s = v) (hx : a.eval x = .slice (some ⟨b, 0, none⟩) 1 1) (hown : OwnsN w B v xs) (hu : w.cell? ⟨b, 0, none⟩ = some (.int .i64 y)) (hB : B ≤ w.heap.size) (h63 : xs.length ≤ 1048576)
    (h : ∀ v' w', OwnsN w' B v' (xs ++ [y]) → w.grownBy w' v.ownBlock → K (a.put o.dst v') w') : if Region.wanted o (yielded ops a.tmps) = true then Oper.wp Tryd.prog o a w K Q else E := by
  rw [if_pos hwa]
  obtain ⟨i0, hi, hz0, hz1, hz2⟩ := info_parts Tryd.infoI64
  obtain ⟨v', w', hr, h2, h3, h4⟩ := run_append_own (P := Tryd.prog) w B 32 o.type 3 i0 (.int .i64 0) 1 8 Tryd.underlying32 hi hz0 hz1 hz2 rfl (by decide) v xs.length _ hown ⟨b, 0, none⟩ 1 1 [Value.int .i64 y] (by simp) (by
    intro j q hj
    rw [Go.WideShapes.add_plain]
    have : j = 0 := by
      by_cases e : j = 0
      · exact e
      · rw [List.getElem?_eq_none (by simp; omega)] at hj; simp at hj
    subst this
    simp at hj
    rw [← hj]; exact hu) (by intro q hq; simp at hq; rw [hq]; rfl) (by unfold maxLen; omega) (by omega) hB
  unfold Oper.wp execOp
  simp only [ho, resolve, invoke, builtin, Sem.run_bind, Sem.run_pure, Result.andThen_ok, List.map_toArray, List.map_cons, List.map_nil, hs, hx, hr]
  refine h v' w' ?_ h3
  unfold OwnsN
  simpa using h2
theorem apartN {a b : Value} (h : ∀ q, a.ownBlock = some q → b.ownBlock ≠ some q) : b.ownBlock = none ∨ b.ownBlock ≠ a.ownBlock := by
  cases hb : b.ownBlock with
  | none => exact Or.inl rfl
  | some q => exact Or.inr (fun e => h q e.symm hb)
theorem apartC {a b : Value} (h : ∀ q, a.ownBlock = some q → b.ownBlock ≠ some q) : a.ownBlock = none ∨ a.ownBlock ≠ b.ownBlock := by
  cases ha : a.ownBlock with
  | none => exact Or.inl rfl
  | some q => exact Or.inr (fun e => h q ha e.symm)
set_option maxHeartbeats 32000000 in
set_option maxRecDepth 100000 in
theorem anyQuery_any (w0 : World) (c : Nat) (v : Value) (xs : List Int) (w : World) (hC : Cur w0 c v xs w) :
    Calls Tryd.prog 60 #[.pointer (some ⟨c, 0, none⟩)] w (DrawnQ w0 c v xs w) := by
  have D0 := (Dr.start hC).alloc (.cells #[.int .i64 0, .int .i64 0, .slice none 0 0, .slice none 0 0] 59)
  have z0 := heap_alloc_new w (.cells #[.int .i64 0, .int .i64 0, .slice none 0 0, .slice none 0 0] 59)
  have s0 : (w.alloc (.cells #[.int .i64 0, .int .i64 0, .slice none 0 0, .slice none 0 0] 59)).heap.size = w.heap.size + 1 := by simp
  clear hC
  go_enter Tryd.func60, Tryd.ntmps60
  go_wp2_with fail
  generalize w.alloc (.cells #[.int .i64 0, .int .i64 0, .slice none 0 0, .slice none 0 0] 59) = W at *
  refine (below_any w0 c v xs _ D0.cur 9 (by omega) (by omega)).mono ?_
  rintro e w1 ⟨x, x0, x1, rfl, hC1, hg1⟩
  have D1 := D0.call hC1 hg1
  have z1 := keep hg1 (D0.ne (Nat.le_refl _)) z0
  have s1 : w.heap.size + 1 ≤ w1.heap.size := by rw [← s0]; exact hg1.size
  clear D0 z0 s0 hC1 hg1
  go_wp2_with fail
  refine (query_drawn w0 c v xs _ D1.cur x).mono ?_
  rintro e w2 ⟨id, tn, cs, os, cv, ov, rfl, oc2, on2, hcl, hol, hap, d2⟩
  obtain ⟨ca, ccap, rfl⟩ := ownsC_len oc2
  obtain ⟨oa, ocap, rfl⟩ := ints_len (ownsN_ints on2)
  have D2 := D1.call d2.cur d2.gr
  have z2 := keep d2.gr (D1.ne (Nat.le_refl _)) z1
  have s2 := Nat.le_trans s1 d2.size
  have HCB := Lib.hid (fun q (hq : (Value.slice ca cs.length ccap).ownBlock = some q) => oc2.lt q hq)
  have HOB := Lib.hid (fun q (hq : (Value.slice oa os.length ocap).ownBlock = some q) => on2.lt q hq)
  have HAP := Lib.hid hap
  have HCL := Lib.hid hcl
  have HOL := Lib.hid hol
  have HS1 := Lib.hid s1
  have HS2 := Lib.hid s2
  have D3 := D2.alloc (.cells #[.int .i64 id, .int .i64 tn, .slice ca cs.length ccap, .slice oa os.length ocap] 59)
  have z3 := keepA (.cells #[.int .i64 id, .int .i64 tn, .slice ca cs.length ccap, .slice oa os.length ocap] 59) z2
  have b3 := heap_alloc_new w2 (.cells #[.int .i64 id, .int .i64 tn, .slice ca cs.length ccap, .slice oa os.length ocap] 59)
  have oc3 : OwnsC _ w1.heap.size _ cs := oc2.alloc (.cells #[.int .i64 id, .int .i64 tn, .slice ca cs.length ccap, .slice oa os.length ocap] 59)
  have on3 : OwnsN _ w1.heap.size _ os := on2.alloc (.cells #[.int .i64 id, .int .i64 tn, .slice ca cs.length ccap, .slice oa os.length ocap] 59)
  have HD3 := Lib.hid D3
  have HZ3 := Lib.hid z3
  have HB3 := Lib.hid b3
  have HC3 := Lib.hid oc3
  have HN3 := Lib.hid on3
  have HRW0 := Lib.hid d2.size
  clear D1 z1 d2 D2 z2 D3 z3 b3 oc3 on3 oc2 on2 hap hcl hol s1 s2
  go_wp2_with fail
  generalize w2.alloc (.cells #[.int .i64 id, .int .i64 tn, .slice ca cs.length ccap, .slice oa os.length ocap] 59) = W3 at *
  refine (below_any w0 c v xs _ HD3.out.cur 10 (by omega) (by omega)).mono ?_
  rintro e w4 ⟨d, d0, d1, rfl, hC4, hg4⟩
  obtain ⟨R, hR⟩ : ∃ R, w2.heap.size = R := ⟨_, rfl⟩
  have D4 := HD3.out.call hC4 hg4
  have z4 := keep hg4 (HD3.out.ne (Nat.le_refl _)) HZ3.out
  have b4 := keep hg4 (HD3.out.ne (by have := HS2.out; omega)) HB3.out
  have oc4 : OwnsC w4 w1.heap.size _ cs := kept_low HC3.out hg4 (by have := HD3.out.lt; have := HS1.out; omega)
  have on4 := ownsN_grown HN3.out hg4 (by have := HD3.out.lt; have := HS1.out; omega)
  rw [hR] at b4 HS2 HCB HOB HRW0 ⊢
  have HW1 : Hid (w1.heap.size ≤ R) := HRW0
  have hn1 : ¬ R = w.heap.size := by have := HS2.out; omega
  have hn2 : ¬ w.heap.size = R := by have := HS2.out; omega
  have HR : Hid (w.heap.size ≤ R) := Lib.hid (by have := HS2.out; omega)
  have HCR : Hid ((Value.slice ca cs.length ccap).ownBlock ≠ some R) := Lib.hid (fun e => absurd (HCB.out _ e).2 (Nat.lt_irrefl _))
  have HOR : Hid ((Value.slice oa os.length ocap).ownBlock ≠ some R) := Lib.hid (fun e => absurd (HOB.out _ e).2 (Nat.lt_irrefl _))
  have HCZ : Hid ((Value.slice ca cs.length ccap).ownBlock ≠ some w.heap.size) := Lib.hid (fun e => by have := (HCB.out _ e).1; have := HS1.out; omega)
  have HOZ : Hid ((Value.slice oa os.length ocap).ownBlock ≠ some w.heap.size) := Lib.hid (fun e => by have := (HOB.out _ e).1; have := HS1.out; omega)
  clear HD3 HZ3 HB3 HC3 HN3 hC4 hg4 hR
  by_cases hd0 : d = 0
  · have t0 : (d == 0) = true := by rw [beq_iff_eq]; exact hd0
    clear hd0
    have HP := Lib.hid (pick_any w0 c v xs (w4.alloc (.cells (qids.map (Value.int .i64)).toArray 3 (0, 0))) (cur_alloc D4.cur _) w4.heap.size qids (-1) 24 (by decide) (by decide) (by decide) (heap_alloc_new w4 _) (D4.ne D4.size))
    have D5 := D4.alloc (.cells (qids.map (Value.int .i64)).toArray 3 (0, 0))
    have z5 := keepA (.cells (qids.map (Value.int .i64)).toArray 3 (0, 0)) z4
    have b5 := keepA (.cells (qids.map (Value.int .i64)).toArray 3 (0, 0)) b4
    have oc5 : OwnsC _ w1.heap.size _ cs := oc4.alloc (.cells (qids.map (Value.int .i64)).toArray 3 (0, 0))
    have on5 : OwnsN _ w1.heap.size _ os := on4.alloc (.cells (qids.map (Value.int .i64)).toArray 3 (0, 0))
    go_wp2_with fail
    refine Calls.mono HP.out ?_
    rintro e w6 ⟨y, yl, yh, rfl, hC6, hg6⟩
    have D6 := D5.call hC6 hg6
    have z6 := keep hg6 (D5.ne (Nat.le_refl _)) z5
    have b6 := keep hg6 (D5.ne HR.out) b5
    have oc6 : OwnsC w6 w1.heap.size _ cs := kept_low oc5 hg6 (by have := D5.lt; have := HS1.out; omega)
    have on6 := ownsN_grown on5 hg6 (by have := D5.lt; have := HS1.out; omega)
    have p0 := (cell_of_row w6 _ 0 _ _ _ b6).trans (show _ = some (Value.int .i64 id) from rfl)
    have g0 := frozen_of_row w6 _ 0 _ _ b6
    have b7 := heap_setCell_same w6 R 0 _ _ (.int .i64 y) b6
    have z7 := (heap_setCell_other w6 ⟨R, 0, none⟩ w.heap.size (.int .i64 y) (by simpa using hn2)).trans z6
    have D7 := D6.set (R := R) HR.out 0 (.int .i64 y)
    have oc7 : OwnsC (w6.setCell ⟨R, 0, none⟩ (.int .i64 y)) w1.heap.size _ cs := owns_off oc6 HCR.out 0 (.int .i64 y)
    have on7 : OwnsN (w6.setCell ⟨R, 0, none⟩ (.int .i64 y)) w1.heap.size _ os := owns_off on6 HOR.out 0 (.int .i64 y)
    clear D5 z5 b5 oc5 on5 D6 oc6 on6 HP D4 z4 b4 oc4 on4 hC6 hg6
    have h0 := (cell_of_row w6 _ 0 _ _ _ b6).trans (show _ = some (Value.int .i64 id) from rfl)
    have h1 := (cell_of_row w6 _ 1 _ _ _ b6).trans (show _ = some (Value.int .i64 tn) from rfl)
    have h2 := (cell_of_row w6 _ 2 _ _ _ b6).trans (show _ = some (Value.slice ca cs.length ccap) from rfl)
    have h3 := (cell_of_row w6 _ 3 _ _ _ b6).trans (show _ = some (Value.slice oa os.length ocap) from rfl)
    have q0 := (cell_of_row (w6.setCell ⟨R, 0, none⟩ (.int .i64 y)) _ 0 _ _ _ b7).trans (show _ = some (Value.int .i64 y) from rfl)
    have y0 := (cell_of_row (w6.setCell ⟨R, 0, none⟩ (.int .i64 y)) _ 0 _ _ _ z7).trans (show _ = some (Value.int .i64 0) from rfl)
    have f0 := frozen_of_row (w6.setCell ⟨R, 0, none⟩ (.int .i64 y)) _ 0 _ _ z7
    have q1 := (cell_of_row (w6.setCell ⟨R, 0, none⟩ (.int .i64 y)) _ 1 _ _ _ b7).trans (show _ = some (Value.int .i64 tn) from rfl)
    have y1 := (cell_of_row (w6.setCell ⟨R, 0, none⟩ (.int .i64 y)) _ 1 _ _ _ z7).trans (show _ = some (Value.int .i64 0) from rfl)
    have f1 := frozen_of_row (w6.setCell ⟨R, 0, none⟩ (.int .i64 y)) _ 1 _ _ z7
    have q2 := (cell_of_row (w6.setCell ⟨R, 0, none⟩ (.int .i64 y)) _ 2 _ _ _ b7).trans (show _ = some (Value.slice ca cs.length ccap) from rfl)
    have y2 := (cell_of_row (w6.setCell ⟨R, 0, none⟩ (.int .i64 y)) _ 2 _ _ _ z7).trans (show _ = some (Value.slice none 0 0) from rfl)
    have f2 := frozen_of_row (w6.setCell ⟨R, 0, none⟩ (.int .i64 y)) _ 2 _ _ z7
    have q3 := (cell_of_row (w6.setCell ⟨R, 0, none⟩ (.int .i64 y)) _ 3 _ _ _ b7).trans (show _ = some (Value.slice oa os.length ocap) from rfl)
    have y3 := (cell_of_row (w6.setCell ⟨R, 0, none⟩ (.int .i64 y)) _ 3 _ _ _ z7).trans (show _ = some (Value.slice none 0 0) from rfl)
    have f3 := frozen_of_row (w6.setCell ⟨R, 0, none⟩ (.int .i64 y)) _ 3 _ _ z7
    go_wp2
    have r1 := heap_setCell_same (w6.setCell ⟨R, 0, none⟩ (.int .i64 y)) w.heap.size 0 _ _ (.int .i64 y) z7
    have r2 := heap_setCell_same _ w.heap.size 1 _ _ (.int .i64 tn) r1
    have r3 := heap_setCell_same _ w.heap.size 2 _ _ (.slice ca cs.length ccap) r2
    have r4 := heap_setCell_same _ w.heap.size 3 _ _ (.slice oa os.length ocap) r3
    have D99 := ((((D7.set (R := w.heap.size) (Nat.le_refl _) 0 (.int .i64 y)).set (R := w.heap.size) (Nat.le_refl _) 1 (.int .i64 tn)).set (R := w.heap.size) (Nat.le_refl _) 2 (.slice ca cs.length ccap)).set (R := w.heap.size) (Nat.le_refl _) 3 (.slice oa os.length ocap))
    have oc99 := (ownsC_low (ownsC_low (ownsC_low (ownsC_low oc7 (b := w.heap.size) HS1.out 0 (.int .i64 y)) (b := w.heap.size) HS1.out 1 (.int .i64 tn)) (b := w.heap.size) HS1.out 2 (.slice ca cs.length ccap)) (b := w.heap.size) HS1.out 3 (.slice oa os.length ocap))
    have on99 := (ownsN_low (ownsN_low (ownsN_low (ownsN_low on7 (b := w.heap.size) HS1.out 0 (.int .i64 y)) (b := w.heap.size) HS1.out 1 (.int .i64 tn)) (b := w.heap.size) HS1.out 2 (.slice ca cs.length ccap)) (b := w.heap.size) HS1.out 3 (.slice oa os.length ocap))
    have e0 := cell_of_row _ _ 0 _ _ _ r4
    have e1 := cell_of_row _ _ 1 _ _ _ r4
    have e2 := cell_of_row _ _ 2 _ _ _ r4
    have e3 := cell_of_row _ _ 3 _ _ _ r4
    simp at e0 e1 e2 e3
    refine bodyPost_ret (v := qV y tn (.slice ca cs.length ccap) (.slice oa os.length ocap)) ?_ rfl ?_
    · simp [results, Tryd.f60, go_sem, e0, e1, e2, e3, qV]
    · exact ⟨y, tn, _, _, _, _, rfl, ownsC_up oc99 (by have := HS1.out; omega), ownsN_up on99 (by have := HS1.out; omega), by have := HCL.out; omega, by have := HOL.out; omega, D99⟩
  · by_cases hd1 : d = 1
    · have t0 : (d == 0) = false := by rw [beq_eq_false_iff_ne]; exact hd0
      have t1 : (d == 1) = true := by rw [beq_iff_eq]; exact hd1
      clear hd0 hd1
      have HP := Lib.hid (pick_any w0 c v xs (w4.alloc (.cells (qtns.map (Value.int .i64)).toArray 3 (0, 0))) (cur_alloc D4.cur _) w4.heap.size qtns (-1) 4 (by decide) (by decide) (by decide) (heap_alloc_new w4 _) (D4.ne D4.size))
      have D5 := D4.alloc (.cells (qtns.map (Value.int .i64)).toArray 3 (0, 0))
      have z5 := keepA (.cells (qtns.map (Value.int .i64)).toArray 3 (0, 0)) z4
      have b5 := keepA (.cells (qtns.map (Value.int .i64)).toArray 3 (0, 0)) b4
      have oc5 : OwnsC _ w1.heap.size _ cs := oc4.alloc (.cells (qtns.map (Value.int .i64)).toArray 3 (0, 0))
      have on5 : OwnsN _ w1.heap.size _ os := on4.alloc (.cells (qtns.map (Value.int .i64)).toArray 3 (0, 0))
      go_wp2_with fail
      refine Calls.mono HP.out ?_
      rintro e w6 ⟨y, yl, yh, rfl, hC6, hg6⟩
      have D6 := D5.call hC6 hg6
      have z6 := keep hg6 (D5.ne (Nat.le_refl _)) z5
      have b6 := keep hg6 (D5.ne HR.out) b5
      have oc6 : OwnsC w6 w1.heap.size _ cs := kept_low oc5 hg6 (by have := D5.lt; have := HS1.out; omega)
      have on6 := ownsN_grown on5 hg6 (by have := D5.lt; have := HS1.out; omega)
      have p0 := (cell_of_row w6 _ 1 _ _ _ b6).trans (show _ = some (Value.int .i64 tn) from rfl)
      have g0 := frozen_of_row w6 _ 1 _ _ b6
      have b7 := heap_setCell_same w6 R 1 _ _ (.int .i64 y) b6
      have z7 := (heap_setCell_other w6 ⟨R, 1, none⟩ w.heap.size (.int .i64 y) (by simpa using hn2)).trans z6
      have D7 := D6.set (R := R) HR.out 1 (.int .i64 y)
      have oc7 : OwnsC (w6.setCell ⟨R, 1, none⟩ (.int .i64 y)) w1.heap.size _ cs := owns_off oc6 HCR.out 1 (.int .i64 y)
      have on7 : OwnsN (w6.setCell ⟨R, 1, none⟩ (.int .i64 y)) w1.heap.size _ os := owns_off on6 HOR.out 1 (.int .i64 y)
      clear D5 z5 b5 oc5 on5 D6 oc6 on6 HP D4 z4 b4 oc4 on4 hC6 hg6
      have h0 := (cell_of_row w6 _ 0 _ _ _ b6).trans (show _ = some (Value.int .i64 id) from rfl)
      have h1 := (cell_of_row w6 _ 1 _ _ _ b6).trans (show _ = some (Value.int .i64 tn) from rfl)
      have h2 := (cell_of_row w6 _ 2 _ _ _ b6).trans (show _ = some (Value.slice ca cs.length ccap) from rfl)
      have h3 := (cell_of_row w6 _ 3 _ _ _ b6).trans (show _ = some (Value.slice oa os.length ocap) from rfl)
      have q0 := (cell_of_row (w6.setCell ⟨R, 1, none⟩ (.int .i64 y)) _ 0 _ _ _ b7).trans (show _ = some (Value.int .i64 id) from rfl)
      have y0 := (cell_of_row (w6.setCell ⟨R, 1, none⟩ (.int .i64 y)) _ 0 _ _ _ z7).trans (show _ = some (Value.int .i64 0) from rfl)
      have f0 := frozen_of_row (w6.setCell ⟨R, 1, none⟩ (.int .i64 y)) _ 0 _ _ z7
      have q1 := (cell_of_row (w6.setCell ⟨R, 1, none⟩ (.int .i64 y)) _ 1 _ _ _ b7).trans (show _ = some (Value.int .i64 y) from rfl)
      have y1 := (cell_of_row (w6.setCell ⟨R, 1, none⟩ (.int .i64 y)) _ 1 _ _ _ z7).trans (show _ = some (Value.int .i64 0) from rfl)
      have f1 := frozen_of_row (w6.setCell ⟨R, 1, none⟩ (.int .i64 y)) _ 1 _ _ z7
      have q2 := (cell_of_row (w6.setCell ⟨R, 1, none⟩ (.int .i64 y)) _ 2 _ _ _ b7).trans (show _ = some (Value.slice ca cs.length ccap) from rfl)
      have y2 := (cell_of_row (w6.setCell ⟨R, 1, none⟩ (.int .i64 y)) _ 2 _ _ _ z7).trans (show _ = some (Value.slice none 0 0) from rfl)
      have f2 := frozen_of_row (w6.setCell ⟨R, 1, none⟩ (.int .i64 y)) _ 2 _ _ z7
      have q3 := (cell_of_row (w6.setCell ⟨R, 1, none⟩ (.int .i64 y)) _ 3 _ _ _ b7).trans (show _ = some (Value.slice oa os.length ocap) from rfl)
      have y3 := (cell_of_row (w6.setCell ⟨R, 1, none⟩ (.int .i64 y)) _ 3 _ _ _ z7).trans (show _ = some (Value.slice none 0 0) from rfl)
      have f3 := frozen_of_row (w6.setCell ⟨R, 1, none⟩ (.int .i64 y)) _ 3 _ _ z7
      go_wp2
      have r1 := heap_setCell_same (w6.setCell ⟨R, 1, none⟩ (.int .i64 y)) w.heap.size 0 _ _ (.int .i64 id) z7
      have r2 := heap_setCell_same _ w.heap.size 1 _ _ (.int .i64 y) r1
      have r3 := heap_setCell_same _ w.heap.size 2 _ _ (.slice ca cs.length ccap) r2
      have r4 := heap_setCell_same _ w.heap.size 3 _ _ (.slice oa os.length ocap) r3
      have D99 := ((((D7.set (R := w.heap.size) (Nat.le_refl _) 0 (.int .i64 id)).set (R := w.heap.size) (Nat.le_refl _) 1 (.int .i64 y)).set (R := w.heap.size) (Nat.le_refl _) 2 (.slice ca cs.length ccap)).set (R := w.heap.size) (Nat.le_refl _) 3 (.slice oa os.length ocap))
      have oc99 := (ownsC_low (ownsC_low (ownsC_low (ownsC_low oc7 (b := w.heap.size) HS1.out 0 (.int .i64 id)) (b := w.heap.size) HS1.out 1 (.int .i64 y)) (b := w.heap.size) HS1.out 2 (.slice ca cs.length ccap)) (b := w.heap.size) HS1.out 3 (.slice oa os.length ocap))
      have on99 := (ownsN_low (ownsN_low (ownsN_low (ownsN_low on7 (b := w.heap.size) HS1.out 0 (.int .i64 id)) (b := w.heap.size) HS1.out 1 (.int .i64 y)) (b := w.heap.size) HS1.out 2 (.slice ca cs.length ccap)) (b := w.heap.size) HS1.out 3 (.slice oa os.length ocap))
      have e0 := cell_of_row _ _ 0 _ _ _ r4
      have e1 := cell_of_row _ _ 1 _ _ _ r4
      have e2 := cell_of_row _ _ 2 _ _ _ r4
      have e3 := cell_of_row _ _ 3 _ _ _ r4
      simp at e0 e1 e2 e3
      refine bodyPost_ret (v := qV id y (.slice ca cs.length ccap) (.slice oa os.length ocap)) ?_ rfl ?_
      · simp [results, Tryd.f60, go_sem, e0, e1, e2, e3, qV]
      · exact ⟨id, y, _, _, _, _, rfl, ownsC_up oc99 (by have := HS1.out; omega), ownsN_up on99 (by have := HS1.out; omega), by have := HCL.out; omega, by have := HOL.out; omega, D99⟩
    · by_cases hd2 : d = 2
      · have t0 : (d == 0) = false := by rw [beq_eq_false_iff_ne]; exact hd0
        have t1 : (d == 1) = false := by rw [beq_eq_false_iff_ne]; exact hd1
        have t2 : (d == 2) = true := by rw [beq_iff_eq]; exact hd2
        clear hd0 hd1 hd2
        have D5 : Dr w0 c v xs w w4.drew := D4.below (below_drew (Below.refl w4.heap.size w4)) D4.size
        have oc5 : OwnsC w4.drew w1.heap.size _ cs := ownsC_below oc4 (below_drew (Below.refl w4.heap.size w4))
        have on5 : OwnsN w4.drew w1.heap.size _ os := ownsN_below on4 (below_drew (Below.refl w4.heap.size w4))
        have z5 : w4.drew.heap[w.heap.size]? = some _ := z4
        have b5 : w4.drew.heap[R]? = some _ := b4
        have HX5 : Hid (w4.drew = w4.drew) := Lib.hid rfl
        clear D4 z4 b4 oc4 on4
        go_wp2
        refine wp_region_held_drew (S := fun _ => True) (by kernel_rfl) trivial (fun hHeld => ?_)
        clear HX5
        obtain ⟨w5, hw5⟩ : ∃ w5, w4.drew = w5 := ⟨_, rfl⟩
        rw [hw5] at D5 oc5 on5 z5 b5 ⊢
        clear hw5
        refine take_runs (i := 0) (v := ?_) (by simp only [List.getElem?_toArray, List.getElem?_cons_succ, List.getElem?_cons_zero]; rfl) (by kernel_rfl) (by kernel_rfl) (by kernel_rfl) rfl (by exact fun _ _ _ h => h) (by rfl) ?_ (by assumption) ?_
        rotate_left
        · intro w hSw; (try dsimp only at hSw); go_simp; try (with_reducible rfl)
        try simp only [Act.put, List.setIfInBounds_toArray, List.set_cons_zero, List.set_cons_succ]
        refine take_runs (i := 2) (v := ?_) (by simp only [List.getElem?_toArray, List.getElem?_cons_succ, List.getElem?_cons_zero]; rfl) (by kernel_rfl) (by kernel_rfl) (by kernel_rfl) rfl (by exact fun _ _ _ h => h) (by rfl) ?_ (by assumption) ?_
        rotate_left
        · intro w hSw; (try dsimp only at hSw); go_simp; try (with_reducible rfl)
        try simp only [Act.put, List.setIfInBounds_toArray, List.set_cons_zero, List.set_cons_succ]
        refine take_runs (i := 4) (v := ?_) (by simp only [List.getElem?_toArray, List.getElem?_cons_succ, List.getElem?_cons_zero]; rfl) (by kernel_rfl) (by kernel_rfl) (by kernel_rfl) rfl (by exact fun _ _ _ h => h) (by rfl) ?_ (by assumption) ?_
        rotate_left
        · intro w hSw; (try dsimp only at hSw); go_simp; try (with_reducible rfl)
        try simp only [Act.put, List.setIfInBounds_toArray, List.set_cons_zero, List.set_cons_succ]
        refine wpAnyH_ready (rs := [1, 3, 5]) (by kernel_rfl) (by simp) ?_
        refine (AllReadyH.cons (o := _) (by simp only [List.getElem?_toArray, List.getElem?_cons_succ, List.getElem?_cons_zero]; rfl) (fun K hK => ?_) (AllReadyH.cons (o := _) (by simp only [List.getElem?_toArray, List.getElem?_cons_succ, List.getElem?_cons_zero]; rfl) (fun K hK => ?_) (AllReadyH.cons (o := _) (by simp only [List.getElem?_toArray, List.getElem?_cons_succ, List.getElem?_cons_zero]; rfl) (fun K hK => ?_) AllReadyH.nil)))
        · have p5 := (cell_of_row w5 _ 2 _ _ _ b5).trans (show _ = some (Value.slice ca cs.length ccap) from rfl)
          go_simp
          refine hK.out _ _ trivial (fun hHeld => ?_)
          clear hK K
          try simp only [Act.put, List.setIfInBounds_toArray, List.set_cons_zero, List.set_cons_succ]
          refine wpAnyH_ready (rs := [3, 5]) (by kernel_rfl) (by simp) ?_
          refine (AllReadyH.cons (o := _) (by simp only [List.getElem?_toArray, List.getElem?_cons_succ, List.getElem?_cons_zero]; rfl) (fun K hK => ?_) (AllReadyH.cons (o := _) (by simp only [List.getElem?_toArray, List.getElem?_cons_succ, List.getElem?_cons_zero]; rfl) (fun K hK => ?_) AllReadyH.nil))
          · go_simp
            refine Calls.mono (below_any w0 c v xs _ D5.cur 4 (by omega) (by omega)) ?_
            rintro e w6 ⟨f, fl, fh, rfl, hC6, hg6⟩
            have D6 := D5.call hC6 hg6
            have z6 := keep hg6 (D5.ne (Nat.le_refl _)) z5
            have b6 := keep hg6 (D5.ne HR.out) b5
            have oc6 : OwnsC w6 w1.heap.size _ cs := kept_low oc5 hg6 (by have := D5.lt; have := HS1.out; omega)
            have on6 := ownsN_grown on5 hg6 (by have := D5.lt; have := HS1.out; omega)
            refine hK.out _ _ trivial (fun hHeld => ?_)
            clear hK K
            try simp only [Act.put, List.setIfInBounds_toArray, List.set_cons_zero, List.set_cons_succ]
            refine wpAnyH_ready (rs := [5]) (by kernel_rfl) (by simp) ?_
            refine (AllReadyH.cons (o := _) (by simp only [List.getElem?_toArray, List.getElem?_cons_succ, List.getElem?_cons_zero]; rfl) (fun K hK => ?_) AllReadyH.nil)
            go_simp
            have D7 := D6.alloc (.cells (qhis.map (Value.int .i64)).toArray 3 (0, 0))
            have z7 := keepA (.cells (qhis.map (Value.int .i64)).toArray 3 (0, 0)) z6
            have b7 := keepA (.cells (qhis.map (Value.int .i64)).toArray 3 (0, 0)) b6
            have oc7 : OwnsC _ w1.heap.size _ cs := oc6.alloc (.cells (qhis.map (Value.int .i64)).toArray 3 (0, 0))
            have on7 : OwnsN _ w1.heap.size _ os := on6.alloc (.cells (qhis.map (Value.int .i64)).toArray 3 (0, 0))
            have lst7 := heap_alloc_new w6 (.cells (qhis.map (Value.int .i64)).toArray 3 (0, 0))
            have HLC : Hid (w6.heap.size ≠ c) := Lib.hid (D6.ne D6.size)
            obtain ⟨lb, hlb⟩ : ∃ lb, w6.heap.size = lb := ⟨_, rfl⟩
            rw [hlb] at lst7 HLC ⊢
            clear hlb
            obtain ⟨w7, hW7⟩ : ∃ W, w6.alloc (.cells #[.int .i64 2, .int .i64 3, .int .i64 99, .int .i64 100] 3) = W := ⟨_, rfl⟩
            have hV7 : w6.alloc (.cells (qhis.map (Value.int .i64)).toArray 3 (0, 0)) = w7 := hW7
            rw [hW7]
            rw [hV7] at D7 z7 b7 oc7 on7 lst7
            clear hW7 hV7
            refine hK.out _ _ trivial (fun hHeld => ?_)
            clear hK K
            try simp only [Act.put, List.setIfInBounds_toArray, List.set_cons_zero, List.set_cons_succ]
            refine wpAnyH_ready (rs := [6]) (by kernel_rfl) (by simp) ?_
            refine (AllReadyH.cons (o := _) (by simp only [List.getElem?_toArray, List.getElem?_cons_succ, List.getElem?_cons_zero]; rfl) (fun K hK => ?_) AllReadyH.nil)
            go_simp
            refine Calls.mono (pick_any w0 c v xs _ D7.cur lb qhis 2 100 (by decide) (by decide) (by decide) lst7 HLC.out) ?_
            rintro e w8 ⟨y, yl, yh, rfl, hC8, hg8⟩
            have D8 := D7.call hC8 hg8
            have z8 := keep hg8 (D7.ne (Nat.le_refl _)) z7
            have b8 := keep hg8 (D7.ne HR.out) b7
            have oc8 : OwnsC w8 w1.heap.size _ cs := kept_low oc7 hg8 (by have := D7.lt; have := HS1.out; omega)
            have on8 := ownsN_grown on7 hg8 (by have := D7.lt; have := HS1.out; omega)
            refine hK.out _ _ trivial (fun hHeld => ?_)
            clear hK K
            try simp only [Act.put, List.setIfInBounds_toArray, List.set_cons_zero, List.set_cons_succ]
            refine take_runs (i := 7) (v := ?_) (by simp only [List.getElem?_toArray, List.getElem?_cons_succ, List.getElem?_cons_zero]; rfl) (by kernel_rfl) (by kernel_rfl) (by kernel_rfl) rfl (by exact fun _ _ _ h => h) (by rfl) ?_ (by assumption) ?_
            rotate_left
            · intro w hSw; (try dsimp only at hSw); go_simp; try (with_reducible rfl)
            try simp only [Act.put, List.setIfInBounds_toArray, List.set_cons_zero, List.set_cons_succ]
            refine wpAnyH_ready (rs := [8]) (by kernel_rfl) (by simp) ?_
            refine (AllReadyH.cons (o := _) (by simp only [List.getElem?_toArray, List.getElem?_cons_succ, List.getElem?_cons_zero]; rfl) (fun K hK => ?_) AllReadyH.nil)
            go_simp
            have D9 := D8.alloc (.cells #[.int .i64 f, .int .i64 3, .int .i64 y] 92)
            have z9 := keepA (.cells #[.int .i64 f, .int .i64 3, .int .i64 y] 92) z8
            have b9 := keepA (.cells #[.int .i64 f, .int .i64 3, .int .i64 y] 92) b8
            have oc9 : OwnsC _ w1.heap.size _ cs := oc8.alloc (.cells #[.int .i64 f, .int .i64 3, .int .i64 y] 92)
            have on9 : OwnsN _ w1.heap.size _ os := on8.alloc (.cells #[.int .i64 f, .int .i64 3, .int .i64 y] 92)
            have cc9 : (w8.alloc (.cells #[.int .i64 f, .int .i64 3, .int .i64 y] 92)).cell? ⟨w8.heap.size, 0, none⟩ = some (.int .i64 f) ∧ (w8.alloc (.cells #[.int .i64 f, .int .i64 3, .int .i64 y] 92)).cell? ⟨w8.heap.size, 1, none⟩ = some (.int .i64 3) ∧ (w8.alloc (.cells #[.int .i64 f, .int .i64 3, .int .i64 y] 92)).cell? ⟨w8.heap.size, 2, none⟩ = some (.int .i64 y) := ⟨(cell_lit w8 #[.int .i64 f, .int .i64 3, .int .i64 y] 92 0).trans rfl, (cell_lit w8 #[.int .i64 f, .int .i64 3, .int .i64 y] 92 1).trans rfl, (cell_lit w8 #[.int .i64 f, .int .i64 3, .int .i64 y] 92 2).trans rfl⟩
            obtain ⟨w9, hW9⟩ : ∃ W, w8.alloc (.cells #[.int .i64 f, .int .i64 3, .int .i64 y] 92) = W := ⟨_, rfl⟩
            have hV9 : w8.alloc (.cells #[.int .i64 f, .int .i64 3, .int .i64 y] 92) = w9 := hW9
            rw [hW9]
            rw [hV9] at D9 z9 b9 oc9 on9 cc9
            clear hW9 hV9
            refine hK.out _ _ trivial (fun hHeld => ?_)
            clear hK K
            try simp only [Act.put, List.setIfInBounds_toArray, List.set_cons_zero, List.set_cons_succ]
            refine wpAnyH_ready (rs := [9]) (by kernel_rfl) (by simp) ?_
            refine (AllReadyH.cons (o := _) (by simp only [List.getElem?_toArray, List.getElem?_cons_succ, List.getElem?_cons_zero]; rfl) (fun K hK => ?_) AllReadyH.nil)
            refine step_append_cond1 rfl (.tmp 25) (.tmp 32) rfl w1.heap.size (.slice ca cs.length ccap) cs w8.heap.size f 3 y rfl rfl oc9 cc9 (by have h1 := D9.size; have h2 := (Array.getElem?_eq_some_iff.1 b9).1; have := HW1.out; omega) (by have := HCL.out; omega) ?_
            intro u10 w10 o10 g10
            obtain ⟨ub, ubc, rfl⟩ := ownsC_len o10
            have oN10 : OwnsC w10 w1.heap.size (.slice ub (cs.length + 1) ubc) (cs ++ [(f, 3, y)]) := by simpa using o10
            have bl10 := (Below.refl w1.heap.size _).grown g10 (by have h2 := (Array.getElem?_eq_some_iff.1 b9).1; have := HW1.out; omega) (fun q hq => (oc9.lt q hq).1)
            have b10 := (g10.block R (Array.getElem?_eq_some_iff.1 b9).1 (fun e => HCR.out e.symm)).trans b9
            have z10 := (g10.block w.heap.size (Array.getElem?_eq_some_iff.1 z9).1 (fun e => HCZ.out e.symm)).trans z9
            have D10 := D9.below bl10 (by have := HS1.out; omega)
            have on10 : OwnsN w10 w1.heap.size _ os := World.ownsRow.kept on9 g10 (apartN HAP.out)
            simp only [List.length_append, List.length_cons, List.length_nil, Nat.zero_add]
            refine hK.out _ _ trivial (fun hHeld => ?_)
            clear hK K
            try simp only [Act.put, List.setIfInBounds_toArray, List.set_cons_zero, List.set_cons_succ]
            refine take_runs (i := 10) (v := ?_) (by simp only [List.getElem?_toArray, List.getElem?_cons_succ, List.getElem?_cons_zero]; rfl) (by kernel_rfl) (by kernel_rfl) (by kernel_rfl) rfl (by exact fun _ _ _ h => h) (by rfl) ?_ (by assumption) ?_
            rotate_left
            · intro w hSw; (try dsimp only at hSw); go_simp; try (with_reducible rfl)
            try simp only [Act.put, List.setIfInBounds_toArray, List.set_cons_zero, List.set_cons_succ]
            have h2 := (cell_of_row w10 _ 2 _ _ _ b10).trans (show _ = some (Value.slice ca cs.length ccap) from rfl)
            have k2 := frozen_of_row w10 _ 2 _ _ b10
            refine wpAnyH_ready (rs := [11]) (by kernel_rfl) (by simp) ?_
            refine (AllReadyH.cons (o := _) (by simp only [List.getElem?_toArray, List.getElem?_cons_succ, List.getElem?_cons_zero]; rfl) (fun K hK => ?_) AllReadyH.nil)
            go_simp
            have b50 := heap_setCell_same w10 R 2 _ _ (.slice ub (cs.length + 1) ubc) b10
            have z50 := (heap_setCell_other w10 ⟨R, 2, none⟩ w.heap.size (.slice ub (cs.length + 1) ubc) (by simpa using hn2)).trans z10
            have D50 := D10.set (R := R) HR.out 2 (.slice ub (cs.length + 1) ubc)
            have oc50 : OwnsC (w10.setCell ⟨R, 2, none⟩ (.slice ub (cs.length + 1) ubc)) w1.heap.size _ _ := owns_off oN10 (owns_apart oN10 b10 (by decide)) 2 _
            have on50 : OwnsN (w10.setCell ⟨R, 2, none⟩ (.slice ub (cs.length + 1) ubc)) w1.heap.size _ os := owns_off on10 HOR.out 2 _
            refine hK.out _ _ trivial (fun hHeld => ?_)
            clear hK K
            try simp only [Act.put, List.setIfInBounds_toArray, List.set_cons_zero, List.set_cons_succ]
            refine wpAnyH_done (by kernel_rfl) ?_ _
            obtain ⟨W50, hW50⟩ : ∃ W, (w10.setCell ⟨R, 2, none⟩ (.slice ub (cs.length + 1) ubc)) = W := ⟨_, rfl⟩
            rw [hW50] at b50 z50 D50 oc50 on50 ⊢
            clear hW50 hHeld
            simp only [List.setIfInBounds_toArray, List.set_cons_zero, List.set_cons_succ] at b50
            have q0 := (cell_of_row W50 _ 0 _ _ _ b50).trans (show _ = some (Value.int .i64 id) from rfl)
            have y0 := (cell_of_row W50 _ 0 _ _ _ z50).trans (show _ = some (Value.int .i64 0) from rfl)
            have f0 := frozen_of_row W50 _ 0 _ _ z50
            have q1 := (cell_of_row W50 _ 1 _ _ _ b50).trans (show _ = some (Value.int .i64 tn) from rfl)
            have y1 := (cell_of_row W50 _ 1 _ _ _ z50).trans (show _ = some (Value.int .i64 0) from rfl)
            have f1 := frozen_of_row W50 _ 1 _ _ z50
            have q2 := (cell_of_row W50 _ 2 _ _ _ b50).trans (show _ = some (Value.slice ub (cs.length + 1) ubc) from rfl)
            have y2 := (cell_of_row W50 _ 2 _ _ _ z50).trans (show _ = some (Value.slice none 0 0) from rfl)
            have f2 := frozen_of_row W50 _ 2 _ _ z50
            have q3 := (cell_of_row W50 _ 3 _ _ _ b50).trans (show _ = some (Value.slice oa os.length ocap) from rfl)
            have y3 := (cell_of_row W50 _ 3 _ _ _ z50).trans (show _ = some (Value.slice none 0 0) from rfl)
            have f3 := frozen_of_row W50 _ 3 _ _ z50
            go_wp2
            have r1 := heap_setCell_same W50 w.heap.size 0 _ _ (.int .i64 id) z50
            have r2 := heap_setCell_same _ w.heap.size 1 _ _ (.int .i64 tn) r1
            have r3 := heap_setCell_same _ w.heap.size 2 _ _ (.slice ub (cs.length + 1) ubc) r2
            have r4 := heap_setCell_same _ w.heap.size 3 _ _ (.slice oa os.length ocap) r3
            have D99 := ((((D50.set (R := w.heap.size) (Nat.le_refl _) 0 (.int .i64 id)).set (R := w.heap.size) (Nat.le_refl _) 1 (.int .i64 tn)).set (R := w.heap.size) (Nat.le_refl _) 2 (.slice ub (cs.length + 1) ubc)).set (R := w.heap.size) (Nat.le_refl _) 3 (.slice oa os.length ocap))
            have oc99 := (ownsC_low (ownsC_low (ownsC_low (ownsC_low oc50 (b := w.heap.size) HS1.out 0 (.int .i64 id)) (b := w.heap.size) HS1.out 1 (.int .i64 tn)) (b := w.heap.size) HS1.out 2 (.slice ub (cs.length + 1) ubc)) (b := w.heap.size) HS1.out 3 (.slice oa os.length ocap))
            have on99 := (ownsN_low (ownsN_low (ownsN_low (ownsN_low on50 (b := w.heap.size) HS1.out 0 (.int .i64 id)) (b := w.heap.size) HS1.out 1 (.int .i64 tn)) (b := w.heap.size) HS1.out 2 (.slice ub (cs.length + 1) ubc)) (b := w.heap.size) HS1.out 3 (.slice oa os.length ocap))
            have e0 := cell_of_row _ _ 0 _ _ _ r4
            have e1 := cell_of_row _ _ 1 _ _ _ r4
            have e2 := cell_of_row _ _ 2 _ _ _ r4
            have e3 := cell_of_row _ _ 3 _ _ _ r4
            simp at e0 e1 e2 e3
            refine bodyPost_ret (v := qV id tn (.slice ub (cs.length + 1) ubc) (.slice oa os.length ocap)) ?_ rfl ?_
            · simp [results, Tryd.f60, go_sem, e0, e1, e2, e3, qV]
            · exact ⟨id, tn, _, _, _, _, rfl, ownsC_up oc99 (by have := HS1.out; omega), ownsN_up on99 (by have := HS1.out; omega), by have := HCL.out; simp; omega, by have := HOL.out; omega, D99⟩
          · go_simp
            have D6 := D5.alloc (.cells (qhis.map (Value.int .i64)).toArray 3 (0, 0))
            have z6 := keepA (.cells (qhis.map (Value.int .i64)).toArray 3 (0, 0)) z5
            have b6 := keepA (.cells (qhis.map (Value.int .i64)).toArray 3 (0, 0)) b5
            have oc6 : OwnsC _ w1.heap.size _ cs := oc5.alloc (.cells (qhis.map (Value.int .i64)).toArray 3 (0, 0))
            have on6 : OwnsN _ w1.heap.size _ os := on5.alloc (.cells (qhis.map (Value.int .i64)).toArray 3 (0, 0))
            have lst6 := heap_alloc_new w5 (.cells (qhis.map (Value.int .i64)).toArray 3 (0, 0))
            have HLC : Hid (w5.heap.size ≠ c) := Lib.hid (D5.ne D5.size)
            obtain ⟨lb, hlb⟩ : ∃ lb, w5.heap.size = lb := ⟨_, rfl⟩
            rw [hlb] at lst6 HLC ⊢
            clear hlb
            obtain ⟨w6, hW6⟩ : ∃ W, w5.alloc (.cells #[.int .i64 2, .int .i64 3, .int .i64 99, .int .i64 100] 3) = W := ⟨_, rfl⟩
            have hV6 : w5.alloc (.cells (qhis.map (Value.int .i64)).toArray 3 (0, 0)) = w6 := hW6
            rw [hW6]
            rw [hV6] at D6 z6 b6 oc6 on6 lst6
            clear hW6 hV6
            refine hK.out _ _ trivial (fun hHeld => ?_)
            clear hK K
            try simp only [Act.put, List.setIfInBounds_toArray, List.set_cons_zero, List.set_cons_succ]
            refine wpAnyH_ready (rs := [3]) (by kernel_rfl) (by simp) ?_
            refine (AllReadyH.cons (o := _) (by simp only [List.getElem?_toArray, List.getElem?_cons_succ, List.getElem?_cons_zero]; rfl) (fun K hK => ?_) AllReadyH.nil)
            go_simp
            refine Calls.mono (below_any w0 c v xs _ D6.cur 4 (by omega) (by omega)) ?_
            rintro e w7 ⟨f, fl, fh, rfl, hC7, hg7⟩
            have D7 := D6.call hC7 hg7
            have z7 := keep hg7 (D6.ne (Nat.le_refl _)) z6
            have b7 := keep hg7 (D6.ne HR.out) b6
            have oc7 : OwnsC w7 w1.heap.size _ cs := kept_low oc6 hg7 (by have := D6.lt; have := HS1.out; omega)
            have on7 := ownsN_grown on6 hg7 (by have := D6.lt; have := HS1.out; omega)
            have lst7 := keep hg7 HLC.out lst6
            refine hK.out _ _ trivial (fun hHeld => ?_)
            clear hK K
            try simp only [Act.put, List.setIfInBounds_toArray, List.set_cons_zero, List.set_cons_succ]
            refine wpAnyH_ready (rs := [6]) (by kernel_rfl) (by simp) ?_
            refine (AllReadyH.cons (o := _) (by simp only [List.getElem?_toArray, List.getElem?_cons_succ, List.getElem?_cons_zero]; rfl) (fun K hK => ?_) AllReadyH.nil)
            go_simp
            refine Calls.mono (pick_any w0 c v xs _ D7.cur lb qhis 2 100 (by decide) (by decide) (by decide) lst7 HLC.out) ?_
            rintro e w8 ⟨y, yl, yh, rfl, hC8, hg8⟩
            have D8 := D7.call hC8 hg8
            have z8 := keep hg8 (D7.ne (Nat.le_refl _)) z7
            have b8 := keep hg8 (D7.ne HR.out) b7
            have oc8 : OwnsC w8 w1.heap.size _ cs := kept_low oc7 hg8 (by have := D7.lt; have := HS1.out; omega)
            have on8 := ownsN_grown on7 hg8 (by have := D7.lt; have := HS1.out; omega)
            refine hK.out _ _ trivial (fun hHeld => ?_)
            clear hK K
            try simp only [Act.put, List.setIfInBounds_toArray, List.set_cons_zero, List.set_cons_succ]
            refine take_runs (i := 7) (v := ?_) (by simp only [List.getElem?_toArray, List.getElem?_cons_succ, List.getElem?_cons_zero]; rfl) (by kernel_rfl) (by kernel_rfl) (by kernel_rfl) rfl (by exact fun _ _ _ h => h) (by rfl) ?_ (by assumption) ?_
            rotate_left
            · intro w hSw; (try dsimp only at hSw); go_simp; try (with_reducible rfl)
            try simp only [Act.put, List.setIfInBounds_toArray, List.set_cons_zero, List.set_cons_succ]
            refine wpAnyH_ready (rs := [8]) (by kernel_rfl) (by simp) ?_
            refine (AllReadyH.cons (o := _) (by simp only [List.getElem?_toArray, List.getElem?_cons_succ, List.getElem?_cons_zero]; rfl) (fun K hK => ?_) AllReadyH.nil)
            go_simp
            have D9 := D8.alloc (.cells #[.int .i64 f, .int .i64 3, .int .i64 y] 92)
            have z9 := keepA (.cells #[.int .i64 f, .int .i64 3, .int .i64 y] 92) z8
            have b9 := keepA (.cells #[.int .i64 f, .int .i64 3, .int .i64 y] 92) b8
            have oc9 : OwnsC _ w1.heap.size _ cs := oc8.alloc (.cells #[.int .i64 f, .int .i64 3, .int .i64 y] 92)
            have on9 : OwnsN _ w1.heap.size _ os := on8.alloc (.cells #[.int .i64 f, .int .i64 3, .int .i64 y] 92)
            have cc9 : (w8.alloc (.cells #[.int .i64 f, .int .i64 3, .int .i64 y] 92)).cell? ⟨w8.heap.size, 0, none⟩ = some (.int .i64 f) ∧ (w8.alloc (.cells #[.int .i64 f, .int .i64 3, .int .i64 y] 92)).cell? ⟨w8.heap.size, 1, none⟩ = some (.int .i64 3) ∧ (w8.alloc (.cells #[.int .i64 f, .int .i64 3, .int .i64 y] 92)).cell? ⟨w8.heap.size, 2, none⟩ = some (.int .i64 y) := ⟨(cell_lit w8 #[.int .i64 f, .int .i64 3, .int .i64 y] 92 0).trans rfl, (cell_lit w8 #[.int .i64 f, .int .i64 3, .int .i64 y] 92 1).trans rfl, (cell_lit w8 #[.int .i64 f, .int .i64 3, .int .i64 y] 92 2).trans rfl⟩
            obtain ⟨w9, hW9⟩ : ∃ W, w8.alloc (.cells #[.int .i64 f, .int .i64 3, .int .i64 y] 92) = W := ⟨_, rfl⟩
            have hV9 : w8.alloc (.cells #[.int .i64 f, .int .i64 3, .int .i64 y] 92) = w9 := hW9
            rw [hW9]
            rw [hV9] at D9 z9 b9 oc9 on9 cc9
            clear hW9 hV9
            refine hK.out _ _ trivial (fun hHeld => ?_)
            clear hK K
            try simp only [Act.put, List.setIfInBounds_toArray, List.set_cons_zero, List.set_cons_succ]
            refine wpAnyH_ready (rs := [9]) (by kernel_rfl) (by simp) ?_
            refine (AllReadyH.cons (o := _) (by simp only [List.getElem?_toArray, List.getElem?_cons_succ, List.getElem?_cons_zero]; rfl) (fun K hK => ?_) AllReadyH.nil)
            refine step_append_cond1 rfl (.tmp 25) (.tmp 32) rfl w1.heap.size (.slice ca cs.length ccap) cs w8.heap.size f 3 y rfl rfl oc9 cc9 (by have h1 := D9.size; have h2 := (Array.getElem?_eq_some_iff.1 b9).1; have := HW1.out; omega) (by have := HCL.out; omega) ?_
            intro u10 w10 o10 g10
            obtain ⟨ub, ubc, rfl⟩ := ownsC_len o10
            have oN10 : OwnsC w10 w1.heap.size (.slice ub (cs.length + 1) ubc) (cs ++ [(f, 3, y)]) := by simpa using o10
            have bl10 := (Below.refl w1.heap.size _).grown g10 (by have h2 := (Array.getElem?_eq_some_iff.1 b9).1; have := HW1.out; omega) (fun q hq => (oc9.lt q hq).1)
            have b10 := (g10.block R (Array.getElem?_eq_some_iff.1 b9).1 (fun e => HCR.out e.symm)).trans b9
            have z10 := (g10.block w.heap.size (Array.getElem?_eq_some_iff.1 z9).1 (fun e => HCZ.out e.symm)).trans z9
            have D10 := D9.below bl10 (by have := HS1.out; omega)
            have on10 : OwnsN w10 w1.heap.size _ os := World.ownsRow.kept on9 g10 (apartN HAP.out)
            simp only [List.length_append, List.length_cons, List.length_nil, Nat.zero_add]
            refine hK.out _ _ trivial (fun hHeld => ?_)
            clear hK K
            try simp only [Act.put, List.setIfInBounds_toArray, List.set_cons_zero, List.set_cons_succ]
            refine take_runs (i := 10) (v := ?_) (by simp only [List.getElem?_toArray, List.getElem?_cons_succ, List.getElem?_cons_zero]; rfl) (by kernel_rfl) (by kernel_rfl) (by kernel_rfl) rfl (by exact fun _ _ _ h => h) (by rfl) ?_ (by assumption) ?_
            rotate_left
            · intro w hSw; (try dsimp only at hSw); go_simp; try (with_reducible rfl)
            try simp only [Act.put, List.setIfInBounds_toArray, List.set_cons_zero, List.set_cons_succ]
            have h2 := (cell_of_row w10 _ 2 _ _ _ b10).trans (show _ = some (Value.slice ca cs.length ccap) from rfl)
            have k2 := frozen_of_row w10 _ 2 _ _ b10
            refine wpAnyH_ready (rs := [11]) (by kernel_rfl) (by simp) ?_
            refine (AllReadyH.cons (o := _) (by simp only [List.getElem?_toArray, List.getElem?_cons_succ, List.getElem?_cons_zero]; rfl) (fun K hK => ?_) AllReadyH.nil)
            go_simp
            have b50 := heap_setCell_same w10 R 2 _ _ (.slice ub (cs.length + 1) ubc) b10
            have z50 := (heap_setCell_other w10 ⟨R, 2, none⟩ w.heap.size (.slice ub (cs.length + 1) ubc) (by simpa using hn2)).trans z10
            have D50 := D10.set (R := R) HR.out 2 (.slice ub (cs.length + 1) ubc)
            have oc50 : OwnsC (w10.setCell ⟨R, 2, none⟩ (.slice ub (cs.length + 1) ubc)) w1.heap.size _ _ := owns_off oN10 (owns_apart oN10 b10 (by decide)) 2 _
            have on50 : OwnsN (w10.setCell ⟨R, 2, none⟩ (.slice ub (cs.length + 1) ubc)) w1.heap.size _ os := owns_off on10 HOR.out 2 _
            refine hK.out _ _ trivial (fun hHeld => ?_)
            clear hK K
            try simp only [Act.put, List.setIfInBounds_toArray, List.set_cons_zero, List.set_cons_succ]
            refine wpAnyH_done (by kernel_rfl) ?_ _
            obtain ⟨W50, hW50⟩ : ∃ W, (w10.setCell ⟨R, 2, none⟩ (.slice ub (cs.length + 1) ubc)) = W := ⟨_, rfl⟩
            rw [hW50] at b50 z50 D50 oc50 on50 ⊢
            clear hW50 hHeld
            simp only [List.setIfInBounds_toArray, List.set_cons_zero, List.set_cons_succ] at b50
            have q0 := (cell_of_row W50 _ 0 _ _ _ b50).trans (show _ = some (Value.int .i64 id) from rfl)
            have y0 := (cell_of_row W50 _ 0 _ _ _ z50).trans (show _ = some (Value.int .i64 0) from rfl)
            have f0 := frozen_of_row W50 _ 0 _ _ z50
            have q1 := (cell_of_row W50 _ 1 _ _ _ b50).trans (show _ = some (Value.int .i64 tn) from rfl)
            have y1 := (cell_of_row W50 _ 1 _ _ _ z50).trans (show _ = some (Value.int .i64 0) from rfl)
            have f1 := frozen_of_row W50 _ 1 _ _ z50
            have q2 := (cell_of_row W50 _ 2 _ _ _ b50).trans (show _ = some (Value.slice ub (cs.length + 1) ubc) from rfl)
            have y2 := (cell_of_row W50 _ 2 _ _ _ z50).trans (show _ = some (Value.slice none 0 0) from rfl)
            have f2 := frozen_of_row W50 _ 2 _ _ z50
            have q3 := (cell_of_row W50 _ 3 _ _ _ b50).trans (show _ = some (Value.slice oa os.length ocap) from rfl)
            have y3 := (cell_of_row W50 _ 3 _ _ _ z50).trans (show _ = some (Value.slice none 0 0) from rfl)
            have f3 := frozen_of_row W50 _ 3 _ _ z50
            go_wp2
            have r1 := heap_setCell_same W50 w.heap.size 0 _ _ (.int .i64 id) z50
            have r2 := heap_setCell_same _ w.heap.size 1 _ _ (.int .i64 tn) r1
            have r3 := heap_setCell_same _ w.heap.size 2 _ _ (.slice ub (cs.length + 1) ubc) r2
            have r4 := heap_setCell_same _ w.heap.size 3 _ _ (.slice oa os.length ocap) r3
            have D99 := ((((D50.set (R := w.heap.size) (Nat.le_refl _) 0 (.int .i64 id)).set (R := w.heap.size) (Nat.le_refl _) 1 (.int .i64 tn)).set (R := w.heap.size) (Nat.le_refl _) 2 (.slice ub (cs.length + 1) ubc)).set (R := w.heap.size) (Nat.le_refl _) 3 (.slice oa os.length ocap))
            have oc99 := (ownsC_low (ownsC_low (ownsC_low (ownsC_low oc50 (b := w.heap.size) HS1.out 0 (.int .i64 id)) (b := w.heap.size) HS1.out 1 (.int .i64 tn)) (b := w.heap.size) HS1.out 2 (.slice ub (cs.length + 1) ubc)) (b := w.heap.size) HS1.out 3 (.slice oa os.length ocap))
            have on99 := (ownsN_low (ownsN_low (ownsN_low (ownsN_low on50 (b := w.heap.size) HS1.out 0 (.int .i64 id)) (b := w.heap.size) HS1.out 1 (.int .i64 tn)) (b := w.heap.size) HS1.out 2 (.slice ub (cs.length + 1) ubc)) (b := w.heap.size) HS1.out 3 (.slice oa os.length ocap))
            have e0 := cell_of_row _ _ 0 _ _ _ r4
            have e1 := cell_of_row _ _ 1 _ _ _ r4
            have e2 := cell_of_row _ _ 2 _ _ _ r4
            have e3 := cell_of_row _ _ 3 _ _ _ r4
            simp at e0 e1 e2 e3
            refine bodyPost_ret (v := qV id tn (.slice ub (cs.length + 1) ubc) (.slice oa os.length ocap)) ?_ rfl ?_
            · simp [results, Tryd.f60, go_sem, e0, e1, e2, e3, qV]
            · exact ⟨id, tn, _, _, _, _, rfl, ownsC_up oc99 (by have := HS1.out; omega), ownsN_up on99 (by have := HS1.out; omega), by have := HCL.out; simp; omega, by have := HOL.out; omega, D99⟩
        · go_simp
          refine Calls.mono (below_any w0 c v xs _ D5.cur 4 (by omega) (by omega)) ?_
          rintro e w6 ⟨f, fl, fh, rfl, hC6, hg6⟩
          have D6 := D5.call hC6 hg6
          have z6 := keep hg6 (D5.ne (Nat.le_refl _)) z5
          have b6 := keep hg6 (D5.ne HR.out) b5
          have oc6 : OwnsC w6 w1.heap.size _ cs := kept_low oc5 hg6 (by have := D5.lt; have := HS1.out; omega)
          have on6 := ownsN_grown on5 hg6 (by have := D5.lt; have := HS1.out; omega)
          refine hK.out _ _ trivial (fun hHeld => ?_)
          clear hK K
          try simp only [Act.put, List.setIfInBounds_toArray, List.set_cons_zero, List.set_cons_succ]
          refine wpAnyH_ready (rs := [1, 5]) (by kernel_rfl) (by simp) ?_
          refine (AllReadyH.cons (o := _) (by simp only [List.getElem?_toArray, List.getElem?_cons_succ, List.getElem?_cons_zero]; rfl) (fun K hK => ?_) (AllReadyH.cons (o := _) (by simp only [List.getElem?_toArray, List.getElem?_cons_succ, List.getElem?_cons_zero]; rfl) (fun K hK => ?_) AllReadyH.nil))
          · have p6 := (cell_of_row w6 _ 2 _ _ _ b6).trans (show _ = some (Value.slice ca cs.length ccap) from rfl)
            go_simp
            refine hK.out _ _ trivial (fun hHeld => ?_)
            clear hK K
            try simp only [Act.put, List.setIfInBounds_toArray, List.set_cons_zero, List.set_cons_succ]
            refine wpAnyH_ready (rs := [5]) (by kernel_rfl) (by simp) ?_
            refine (AllReadyH.cons (o := _) (by simp only [List.getElem?_toArray, List.getElem?_cons_succ, List.getElem?_cons_zero]; rfl) (fun K hK => ?_) AllReadyH.nil)
            go_simp
            have D7 := D6.alloc (.cells (qhis.map (Value.int .i64)).toArray 3 (0, 0))
            have z7 := keepA (.cells (qhis.map (Value.int .i64)).toArray 3 (0, 0)) z6
            have b7 := keepA (.cells (qhis.map (Value.int .i64)).toArray 3 (0, 0)) b6
            have oc7 : OwnsC _ w1.heap.size _ cs := oc6.alloc (.cells (qhis.map (Value.int .i64)).toArray 3 (0, 0))
            have on7 : OwnsN _ w1.heap.size _ os := on6.alloc (.cells (qhis.map (Value.int .i64)).toArray 3 (0, 0))
            have lst7 := heap_alloc_new w6 (.cells (qhis.map (Value.int .i64)).toArray 3 (0, 0))
            have HLC : Hid (w6.heap.size ≠ c) := Lib.hid (D6.ne D6.size)
            obtain ⟨lb, hlb⟩ : ∃ lb, w6.heap.size = lb := ⟨_, rfl⟩
            rw [hlb] at lst7 HLC ⊢
            clear hlb
            obtain ⟨w7, hW7⟩ : ∃ W, w6.alloc (.cells #[.int .i64 2, .int .i64 3, .int .i64 99, .int .i64 100] 3) = W := ⟨_, rfl⟩
            have hV7 : w6.alloc (.cells (qhis.map (Value.int .i64)).toArray 3 (0, 0)) = w7 := hW7
            rw [hW7]
            rw [hV7] at D7 z7 b7 oc7 on7 lst7
            clear hW7 hV7
            refine hK.out _ _ trivial (fun hHeld => ?_)
            clear hK K
            try simp only [Act.put, List.setIfInBounds_toArray, List.set_cons_zero, List.set_cons_succ]
            refine wpAnyH_ready (rs := [6]) (by kernel_rfl) (by simp) ?_
            refine (AllReadyH.cons (o := _) (by simp only [List.getElem?_toArray, List.getElem?_cons_succ, List.getElem?_cons_zero]; rfl) (fun K hK => ?_) AllReadyH.nil)
            go_simp
            refine Calls.mono (pick_any w0 c v xs _ D7.cur lb qhis 2 100 (by decide) (by decide) (by decide) lst7 HLC.out) ?_
            rintro e w8 ⟨y, yl, yh, rfl, hC8, hg8⟩
            have D8 := D7.call hC8 hg8
            have z8 := keep hg8 (D7.ne (Nat.le_refl _)) z7
            have b8 := keep hg8 (D7.ne HR.out) b7
            have oc8 : OwnsC w8 w1.heap.size _ cs := kept_low oc7 hg8 (by have := D7.lt; have := HS1.out; omega)
            have on8 := ownsN_grown on7 hg8 (by have := D7.lt; have := HS1.out; omega)
            refine hK.out _ _ trivial (fun hHeld => ?_)
            clear hK K
            try simp only [Act.put, List.setIfInBounds_toArray, List.set_cons_zero, List.set_cons_succ]
            refine take_runs (i := 7) (v := ?_) (by simp only [List.getElem?_toArray, List.getElem?_cons_succ, List.getElem?_cons_zero]; rfl) (by kernel_rfl) (by kernel_rfl) (by kernel_rfl) rfl (by exact fun _ _ _ h => h) (by rfl) ?_ (by assumption) ?_
            rotate_left
            · intro w hSw; (try dsimp only at hSw); go_simp; try (with_reducible rfl)
            try simp only [Act.put, List.setIfInBounds_toArray, List.set_cons_zero, List.set_cons_succ]
            refine wpAnyH_ready (rs := [8]) (by kernel_rfl) (by simp) ?_
            refine (AllReadyH.cons (o := _) (by simp only [List.getElem?_toArray, List.getElem?_cons_succ, List.getElem?_cons_zero]; rfl) (fun K hK => ?_) AllReadyH.nil)
            go_simp
            have D9 := D8.alloc (.cells #[.int .i64 f, .int .i64 3, .int .i64 y] 92)
            have z9 := keepA (.cells #[.int .i64 f, .int .i64 3, .int .i64 y] 92) z8
            have b9 := keepA (.cells #[.int .i64 f, .int .i64 3, .int .i64 y] 92) b8
            have oc9 : OwnsC _ w1.heap.size _ cs := oc8.alloc (.cells #[.int .i64 f, .int .i64 3, .int .i64 y] 92)
            have on9 : OwnsN _ w1.heap.size _ os := on8.alloc (.cells #[.int .i64 f, .int .i64 3, .int .i64 y] 92)
            have cc9 : (w8.alloc (.cells #[.int .i64 f, .int .i64 3, .int .i64 y] 92)).cell? ⟨w8.heap.size, 0, none⟩ = some (.int .i64 f) ∧ (w8.alloc (.cells #[.int .i64 f, .int .i64 3, .int .i64 y] 92)).cell? ⟨w8.heap.size, 1, none⟩ = some (.int .i64 3) ∧ (w8.alloc (.cells #[.int .i64 f, .int .i64 3, .int .i64 y] 92)).cell? ⟨w8.heap.size, 2, none⟩ = some (.int .i64 y) := ⟨(cell_lit w8 #[.int .i64 f, .int .i64 3, .int .i64 y] 92 0).trans rfl, (cell_lit w8 #[.int .i64 f, .int .i64 3, .int .i64 y] 92 1).trans rfl, (cell_lit w8 #[.int .i64 f, .int .i64 3, .int .i64 y] 92 2).trans rfl⟩
            obtain ⟨w9, hW9⟩ : ∃ W, w8.alloc (.cells #[.int .i64 f, .int .i64 3, .int .i64 y] 92) = W := ⟨_, rfl⟩
            have hV9 : w8.alloc (.cells #[.int .i64 f, .int .i64 3, .int .i64 y] 92) = w9 := hW9
            rw [hW9]
            rw [hV9] at D9 z9 b9 oc9 on9 cc9
            clear hW9 hV9
            refine hK.out _ _ trivial (fun hHeld => ?_)
            clear hK K
            try simp only [Act.put, List.setIfInBounds_toArray, List.set_cons_zero, List.set_cons_succ]
            refine wpAnyH_ready (rs := [9]) (by kernel_rfl) (by simp) ?_
            refine (AllReadyH.cons (o := _) (by simp only [List.getElem?_toArray, List.getElem?_cons_succ, List.getElem?_cons_zero]; rfl) (fun K hK => ?_) AllReadyH.nil)
            refine step_append_cond1 rfl (.tmp 25) (.tmp 32) rfl w1.heap.size (.slice ca cs.length ccap) cs w8.heap.size f 3 y rfl rfl oc9 cc9 (by have h1 := D9.size; have h2 := (Array.getElem?_eq_some_iff.1 b9).1; have := HW1.out; omega) (by have := HCL.out; omega) ?_
            intro u10 w10 o10 g10
            obtain ⟨ub, ubc, rfl⟩ := ownsC_len o10
            have oN10 : OwnsC w10 w1.heap.size (.slice ub (cs.length + 1) ubc) (cs ++ [(f, 3, y)]) := by simpa using o10
            have bl10 := (Below.refl w1.heap.size _).grown g10 (by have h2 := (Array.getElem?_eq_some_iff.1 b9).1; have := HW1.out; omega) (fun q hq => (oc9.lt q hq).1)
            have b10 := (g10.block R (Array.getElem?_eq_some_iff.1 b9).1 (fun e => HCR.out e.symm)).trans b9
            have z10 := (g10.block w.heap.size (Array.getElem?_eq_some_iff.1 z9).1 (fun e => HCZ.out e.symm)).trans z9
            have D10 := D9.below bl10 (by have := HS1.out; omega)
            have on10 : OwnsN w10 w1.heap.size _ os := World.ownsRow.kept on9 g10 (apartN HAP.out)
            simp only [List.length_append, List.length_cons, List.length_nil, Nat.zero_add]
            refine hK.out _ _ trivial (fun hHeld => ?_)
            clear hK K
            try simp only [Act.put, List.setIfInBounds_toArray, List.set_cons_zero, List.set_cons_succ]
            refine take_runs (i := 10) (v := ?_) (by simp only [List.getElem?_toArray, List.getElem?_cons_succ, List.getElem?_cons_zero]; rfl) (by kernel_rfl) (by kernel_rfl) (by kernel_rfl) rfl (by exact fun _ _ _ h => h) (by rfl) ?_ (by assumption) ?_
            rotate_left
            · intro w hSw; (try dsimp only at hSw); go_simp; try (with_reducible rfl)
            try simp only [Act.put, List.setIfInBounds_toArray, List.set_cons_zero, List.set_cons_succ]
            have h2 := (cell_of_row w10 _ 2 _ _ _ b10).trans (show _ = some (Value.slice ca cs.length ccap) from rfl)
            have k2 := frozen_of_row w10 _ 2 _ _ b10
            refine wpAnyH_ready (rs := [11]) (by kernel_rfl) (by simp) ?_
            refine (AllReadyH.cons (o := _) (by simp only [List.getElem?_toArray, List.getElem?_cons_succ, List.getElem?_cons_zero]; rfl) (fun K hK => ?_) AllReadyH.nil)
            go_simp
            have b50 := heap_setCell_same w10 R 2 _ _ (.slice ub (cs.length + 1) ubc) b10
            have z50 := (heap_setCell_other w10 ⟨R, 2, none⟩ w.heap.size (.slice ub (cs.length + 1) ubc) (by simpa using hn2)).trans z10
            have D50 := D10.set (R := R) HR.out 2 (.slice ub (cs.length + 1) ubc)
            have oc50 : OwnsC (w10.setCell ⟨R, 2, none⟩ (.slice ub (cs.length + 1) ubc)) w1.heap.size _ _ := owns_off oN10 (owns_apart oN10 b10 (by decide)) 2 _
            have on50 : OwnsN (w10.setCell ⟨R, 2, none⟩ (.slice ub (cs.length + 1) ubc)) w1.heap.size _ os := owns_off on10 HOR.out 2 _
            refine hK.out _ _ trivial (fun hHeld => ?_)
            clear hK K
            try simp only [Act.put, List.setIfInBounds_toArray, List.set_cons_zero, List.set_cons_succ]
            refine wpAnyH_done (by kernel_rfl) ?_ _
            obtain ⟨W50, hW50⟩ : ∃ W, (w10.setCell ⟨R, 2, none⟩ (.slice ub (cs.length + 1) ubc)) = W := ⟨_, rfl⟩
            rw [hW50] at b50 z50 D50 oc50 on50 ⊢
            clear hW50 hHeld
            simp only [List.setIfInBounds_toArray, List.set_cons_zero, List.set_cons_succ] at b50
            have q0 := (cell_of_row W50 _ 0 _ _ _ b50).trans (show _ = some (Value.int .i64 id) from rfl)
            have y0 := (cell_of_row W50 _ 0 _ _ _ z50).trans (show _ = some (Value.int .i64 0) from rfl)
            have f0 := frozen_of_row W50 _ 0 _ _ z50
            have q1 := (cell_of_row W50 _ 1 _ _ _ b50).trans (show _ = some (Value.int .i64 tn) from rfl)
            have y1 := (cell_of_row W50 _ 1 _ _ _ z50).trans (show _ = some (Value.int .i64 0) from rfl)
            have f1 := frozen_of_row W50 _ 1 _ _ z50
            have q2 := (cell_of_row W50 _ 2 _ _ _ b50).trans (show _ = some (Value.slice ub (cs.length + 1) ubc) from rfl)
            have y2 := (cell_of_row W50 _ 2 _ _ _ z50).trans (show _ = some (Value.slice none 0 0) from rfl)
            have f2 := frozen_of_row W50 _ 2 _ _ z50
            have q3 := (cell_of_row W50 _ 3 _ _ _ b50).trans (show _ = some (Value.slice oa os.length ocap) from rfl)
            have y3 := (cell_of_row W50 _ 3 _ _ _ z50).trans (show _ = some (Value.slice none 0 0) from rfl)
            have f3 := frozen_of_row W50 _ 3 _ _ z50
            go_wp2
            have r1 := heap_setCell_same W50 w.heap.size 0 _ _ (.int .i64 id) z50
            have r2 := heap_setCell_same _ w.heap.size 1 _ _ (.int .i64 tn) r1
            have r3 := heap_setCell_same _ w.heap.size 2 _ _ (.slice ub (cs.length + 1) ubc) r2
            have r4 := heap_setCell_same _ w.heap.size 3 _ _ (.slice oa os.length ocap) r3
            have D99 := ((((D50.set (R := w.heap.size) (Nat.le_refl _) 0 (.int .i64 id)).set (R := w.heap.size) (Nat.le_refl _) 1 (.int .i64 tn)).set (R := w.heap.size) (Nat.le_refl _) 2 (.slice ub (cs.length + 1) ubc)).set (R := w.heap.size) (Nat.le_refl _) 3 (.slice oa os.length ocap))
            have oc99 := (ownsC_low (ownsC_low (ownsC_low (ownsC_low oc50 (b := w.heap.size) HS1.out 0 (.int .i64 id)) (b := w.heap.size) HS1.out 1 (.int .i64 tn)) (b := w.heap.size) HS1.out 2 (.slice ub (cs.length + 1) ubc)) (b := w.heap.size) HS1.out 3 (.slice oa os.length ocap))
            have on99 := (ownsN_low (ownsN_low (ownsN_low (ownsN_low on50 (b := w.heap.size) HS1.out 0 (.int .i64 id)) (b := w.heap.size) HS1.out 1 (.int .i64 tn)) (b := w.heap.size) HS1.out 2 (.slice ub (cs.length + 1) ubc)) (b := w.heap.size) HS1.out 3 (.slice oa os.length ocap))
            have e0 := cell_of_row _ _ 0 _ _ _ r4
            have e1 := cell_of_row _ _ 1 _ _ _ r4
            have e2 := cell_of_row _ _ 2 _ _ _ r4
            have e3 := cell_of_row _ _ 3 _ _ _ r4
            simp at e0 e1 e2 e3
            refine bodyPost_ret (v := qV id tn (.slice ub (cs.length + 1) ubc) (.slice oa os.length ocap)) ?_ rfl ?_
            · simp [results, Tryd.f60, go_sem, e0, e1, e2, e3, qV]
            · exact ⟨id, tn, _, _, _, _, rfl, ownsC_up oc99 (by have := HS1.out; omega), ownsN_up on99 (by have := HS1.out; omega), by have := HCL.out; simp; omega, by have := HOL.out; omega, D99⟩
          · go_simp
            have D7 := D6.alloc (.cells (qhis.map (Value.int .i64)).toArray 3 (0, 0))
            have z7 := keepA (.cells (qhis.map (Value.int .i64)).toArray 3 (0, 0)) z6
            have b7 := keepA (.cells (qhis.map (Value.int .i64)).toArray 3 (0, 0)) b6
            have oc7 : OwnsC _ w1.heap.size _ cs := oc6.alloc (.cells (qhis.map (Value.int .i64)).toArray 3 (0, 0))
            have on7 : OwnsN _ w1.heap.size _ os := on6.alloc (.cells (qhis.map (Value.int .i64)).toArray 3 (0, 0))
            have lst7 := heap_alloc_new w6 (.cells (qhis.map (Value.int .i64)).toArray 3 (0, 0))
            have HLC : Hid (w6.heap.size ≠ c) := Lib.hid (D6.ne D6.size)
            obtain ⟨lb, hlb⟩ : ∃ lb, w6.heap.size = lb := ⟨_, rfl⟩
            rw [hlb] at lst7 HLC ⊢
            clear hlb
            obtain ⟨w7, hW7⟩ : ∃ W, w6.alloc (.cells #[.int .i64 2, .int .i64 3, .int .i64 99, .int .i64 100] 3) = W := ⟨_, rfl⟩
            have hV7 : w6.alloc (.cells (qhis.map (Value.int .i64)).toArray 3 (0, 0)) = w7 := hW7
            rw [hW7]
            rw [hV7] at D7 z7 b7 oc7 on7 lst7
            clear hW7 hV7
            refine hK.out _ _ trivial (fun hHeld => ?_)
            clear hK K
            try simp only [Act.put, List.setIfInBounds_toArray, List.set_cons_zero, List.set_cons_succ]
            refine wpAnyH_ready (rs := [1, 6]) (by kernel_rfl) (by simp) ?_
            refine (AllReadyH.cons (o := _) (by simp only [List.getElem?_toArray, List.getElem?_cons_succ, List.getElem?_cons_zero]; rfl) (fun K hK => ?_) (AllReadyH.cons (o := _) (by simp only [List.getElem?_toArray, List.getElem?_cons_succ, List.getElem?_cons_zero]; rfl) (fun K hK => ?_) AllReadyH.nil))
            · have p7 := (cell_of_row w7 _ 2 _ _ _ b7).trans (show _ = some (Value.slice ca cs.length ccap) from rfl)
              go_simp
              refine hK.out _ _ trivial (fun hHeld => ?_)
              clear hK K
              try simp only [Act.put, List.setIfInBounds_toArray, List.set_cons_zero, List.set_cons_succ]
              refine wpAnyH_ready (rs := [6]) (by kernel_rfl) (by simp) ?_
              refine (AllReadyH.cons (o := _) (by simp only [List.getElem?_toArray, List.getElem?_cons_succ, List.getElem?_cons_zero]; rfl) (fun K hK => ?_) AllReadyH.nil)
              go_simp
              refine Calls.mono (pick_any w0 c v xs _ D7.cur lb qhis 2 100 (by decide) (by decide) (by decide) lst7 HLC.out) ?_
              rintro e w8 ⟨y, yl, yh, rfl, hC8, hg8⟩
              have D8 := D7.call hC8 hg8
              have z8 := keep hg8 (D7.ne (Nat.le_refl _)) z7
              have b8 := keep hg8 (D7.ne HR.out) b7
              have oc8 : OwnsC w8 w1.heap.size _ cs := kept_low oc7 hg8 (by have := D7.lt; have := HS1.out; omega)
              have on8 := ownsN_grown on7 hg8 (by have := D7.lt; have := HS1.out; omega)
              refine hK.out _ _ trivial (fun hHeld => ?_)
              clear hK K
              try simp only [Act.put, List.setIfInBounds_toArray, List.set_cons_zero, List.set_cons_succ]
              refine take_runs (i := 7) (v := ?_) (by simp only [List.getElem?_toArray, List.getElem?_cons_succ, List.getElem?_cons_zero]; rfl) (by kernel_rfl) (by kernel_rfl) (by kernel_rfl) rfl (by exact fun _ _ _ h => h) (by rfl) ?_ (by assumption) ?_
              rotate_left
              · intro w hSw; (try dsimp only at hSw); go_simp; try (with_reducible rfl)
              try simp only [Act.put, List.setIfInBounds_toArray, List.set_cons_zero, List.set_cons_succ]
              refine wpAnyH_ready (rs := [8]) (by kernel_rfl) (by simp) ?_
              refine (AllReadyH.cons (o := _) (by simp only [List.getElem?_toArray, List.getElem?_cons_succ, List.getElem?_cons_zero]; rfl) (fun K hK => ?_) AllReadyH.nil)
              go_simp
              have D9 := D8.alloc (.cells #[.int .i64 f, .int .i64 3, .int .i64 y] 92)
              have z9 := keepA (.cells #[.int .i64 f, .int .i64 3, .int .i64 y] 92) z8
              have b9 := keepA (.cells #[.int .i64 f, .int .i64 3, .int .i64 y] 92) b8
              have oc9 : OwnsC _ w1.heap.size _ cs := oc8.alloc (.cells #[.int .i64 f, .int .i64 3, .int .i64 y] 92)
              have on9 : OwnsN _ w1.heap.size _ os := on8.alloc (.cells #[.int .i64 f, .int .i64 3, .int .i64 y] 92)
              have cc9 : (w8.alloc (.cells #[.int .i64 f, .int .i64 3, .int .i64 y] 92)).cell? ⟨w8.heap.size, 0, none⟩ = some (.int .i64 f) ∧ (w8.alloc (.cells #[.int .i64 f, .int .i64 3, .int .i64 y] 92)).cell? ⟨w8.heap.size, 1, none⟩ = some (.int .i64 3) ∧ (w8.alloc (.cells #[.int .i64 f, .int .i64 3, .int .i64 y] 92)).cell? ⟨w8.heap.size, 2, none⟩ = some (.int .i64 y) := ⟨(cell_lit w8 #[.int .i64 f, .int .i64 3, .int .i64 y] 92 0).trans rfl, (cell_lit w8 #[.int .i64 f, .int .i64 3, .int .i64 y] 92 1).trans rfl, (cell_lit w8 #[.int .i64 f, .int .i64 3, .int .i64 y] 92 2).trans rfl⟩
              obtain ⟨w9, hW9⟩ : ∃ W, w8.alloc (.cells #[.int .i64 f, .int .i64 3, .int .i64 y] 92) = W := ⟨_, rfl⟩
              have hV9 : w8.alloc (.cells #[.int .i64 f, .int .i64 3, .int .i64 y] 92) = w9 := hW9
              rw [hW9]
              rw [hV9] at D9 z9 b9 oc9 on9 cc9
              clear hW9 hV9
              refine hK.out _ _ trivial (fun hHeld => ?_)
              clear hK K
              try simp only [Act.put, List.setIfInBounds_toArray, List.set_cons_zero, List.set_cons_succ]
              refine wpAnyH_ready (rs := [9]) (by kernel_rfl) (by simp) ?_
              refine (AllReadyH.cons (o := _) (by simp only [List.getElem?_toArray, List.getElem?_cons_succ, List.getElem?_cons_zero]; rfl) (fun K hK => ?_) AllReadyH.nil)
              refine step_append_cond1 rfl (.tmp 25) (.tmp 32) rfl w1.heap.size (.slice ca cs.length ccap) cs w8.heap.size f 3 y rfl rfl oc9 cc9 (by have h1 := D9.size; have h2 := (Array.getElem?_eq_some_iff.1 b9).1; have := HW1.out; omega) (by have := HCL.out; omega) ?_
              intro u10 w10 o10 g10
              obtain ⟨ub, ubc, rfl⟩ := ownsC_len o10
              have oN10 : OwnsC w10 w1.heap.size (.slice ub (cs.length + 1) ubc) (cs ++ [(f, 3, y)]) := by simpa using o10
              have bl10 := (Below.refl w1.heap.size _).grown g10 (by have h2 := (Array.getElem?_eq_some_iff.1 b9).1; have := HW1.out; omega) (fun q hq => (oc9.lt q hq).1)
              have b10 := (g10.block R (Array.getElem?_eq_some_iff.1 b9).1 (fun e => HCR.out e.symm)).trans b9
              have z10 := (g10.block w.heap.size (Array.getElem?_eq_some_iff.1 z9).1 (fun e => HCZ.out e.symm)).trans z9
              have D10 := D9.below bl10 (by have := HS1.out; omega)
              have on10 : OwnsN w10 w1.heap.size _ os := World.ownsRow.kept on9 g10 (apartN HAP.out)
              simp only [List.length_append, List.length_cons, List.length_nil, Nat.zero_add]
              refine hK.out _ _ trivial (fun hHeld => ?_)
              clear hK K
              try simp only [Act.put, List.setIfInBounds_toArray, List.set_cons_zero, List.set_cons_succ]
              refine take_runs (i := 10) (v := ?_) (by simp only [List.getElem?_toArray, List.getElem?_cons_succ, List.getElem?_cons_zero]; rfl) (by kernel_rfl) (by kernel_rfl) (by kernel_rfl) rfl (by exact fun _ _ _ h => h) (by rfl) ?_ (by assumption) ?_
              rotate_left
              · intro w hSw; (try dsimp only at hSw); go_simp; try (with_reducible rfl)
              try simp only [Act.put, List.setIfInBounds_toArray, List.set_cons_zero, List.set_cons_succ]
              have h2 := (cell_of_row w10 _ 2 _ _ _ b10).trans (show _ = some (Value.slice ca cs.length ccap) from rfl)
              have k2 := frozen_of_row w10 _ 2 _ _ b10
              refine wpAnyH_ready (rs := [11]) (by kernel_rfl) (by simp) ?_
              refine (AllReadyH.cons (o := _) (by simp only [List.getElem?_toArray, List.getElem?_cons_succ, List.getElem?_cons_zero]; rfl) (fun K hK => ?_) AllReadyH.nil)
              go_simp
              have b50 := heap_setCell_same w10 R 2 _ _ (.slice ub (cs.length + 1) ubc) b10
              have z50 := (heap_setCell_other w10 ⟨R, 2, none⟩ w.heap.size (.slice ub (cs.length + 1) ubc) (by simpa using hn2)).trans z10
              have D50 := D10.set (R := R) HR.out 2 (.slice ub (cs.length + 1) ubc)
              have oc50 : OwnsC (w10.setCell ⟨R, 2, none⟩ (.slice ub (cs.length + 1) ubc)) w1.heap.size _ _ := owns_off oN10 (owns_apart oN10 b10 (by decide)) 2 _
              have on50 : OwnsN (w10.setCell ⟨R, 2, none⟩ (.slice ub (cs.length + 1) ubc)) w1.heap.size _ os := owns_off on10 HOR.out 2 _
              refine hK.out _ _ trivial (fun hHeld => ?_)
              clear hK K
              try simp only [Act.put, List.setIfInBounds_toArray, List.set_cons_zero, List.set_cons_succ]
              refine wpAnyH_done (by kernel_rfl) ?_ _
              obtain ⟨W50, hW50⟩ : ∃ W, (w10.setCell ⟨R, 2, none⟩ (.slice ub (cs.length + 1) ubc)) = W := ⟨_, rfl⟩
              rw [hW50] at b50 z50 D50 oc50 on50 ⊢
              clear hW50 hHeld
              simp only [List.setIfInBounds_toArray, List.set_cons_zero, List.set_cons_succ] at b50
              have q0 := (cell_of_row W50 _ 0 _ _ _ b50).trans (show _ = some (Value.int .i64 id) from rfl)
              have y0 := (cell_of_row W50 _ 0 _ _ _ z50).trans (show _ = some (Value.int .i64 0) from rfl)
              have f0 := frozen_of_row W50 _ 0 _ _ z50
              have q1 := (cell_of_row W50 _ 1 _ _ _ b50).trans (show _ = some (Value.int .i64 tn) from rfl)
              have y1 := (cell_of_row W50 _ 1 _ _ _ z50).trans (show _ = some (Value.int .i64 0) from rfl)
              have f1 := frozen_of_row W50 _ 1 _ _ z50
              have q2 := (cell_of_row W50 _ 2 _ _ _ b50).trans (show _ = some (Value.slice ub (cs.length + 1) ubc) from rfl)
              have y2 := (cell_of_row W50 _ 2 _ _ _ z50).trans (show _ = some (Value.slice none 0 0) from rfl)
              have f2 := frozen_of_row W50 _ 2 _ _ z50
              have q3 := (cell_of_row W50 _ 3 _ _ _ b50).trans (show _ = some (Value.slice oa os.length ocap) from rfl)
              have y3 := (cell_of_row W50 _ 3 _ _ _ z50).trans (show _ = some (Value.slice none 0 0) from rfl)
              have f3 := frozen_of_row W50 _ 3 _ _ z50
              go_wp2
              have r1 := heap_setCell_same W50 w.heap.size 0 _ _ (.int .i64 id) z50
              have r2 := heap_setCell_same _ w.heap.size 1 _ _ (.int .i64 tn) r1
              have r3 := heap_setCell_same _ w.heap.size 2 _ _ (.slice ub (cs.length + 1) ubc) r2
              have r4 := heap_setCell_same _ w.heap.size 3 _ _ (.slice oa os.length ocap) r3
              have D99 := ((((D50.set (R := w.heap.size) (Nat.le_refl _) 0 (.int .i64 id)).set (R := w.heap.size) (Nat.le_refl _) 1 (.int .i64 tn)).set (R := w.heap.size) (Nat.le_refl _) 2 (.slice ub (cs.length + 1) ubc)).set (R := w.heap.size) (Nat.le_refl _) 3 (.slice oa os.length ocap))
              have oc99 := (ownsC_low (ownsC_low (ownsC_low (ownsC_low oc50 (b := w.heap.size) HS1.out 0 (.int .i64 id)) (b := w.heap.size) HS1.out 1 (.int .i64 tn)) (b := w.heap.size) HS1.out 2 (.slice ub (cs.length + 1) ubc)) (b := w.heap.size) HS1.out 3 (.slice oa os.length ocap))
              have on99 := (ownsN_low (ownsN_low (ownsN_low (ownsN_low on50 (b := w.heap.size) HS1.out 0 (.int .i64 id)) (b := w.heap.size) HS1.out 1 (.int .i64 tn)) (b := w.heap.size) HS1.out 2 (.slice ub (cs.length + 1) ubc)) (b := w.heap.size) HS1.out 3 (.slice oa os.length ocap))
              have e0 := cell_of_row _ _ 0 _ _ _ r4
              have e1 := cell_of_row _ _ 1 _ _ _ r4
              have e2 := cell_of_row _ _ 2 _ _ _ r4
              have e3 := cell_of_row _ _ 3 _ _ _ r4
              simp at e0 e1 e2 e3
              refine bodyPost_ret (v := qV id tn (.slice ub (cs.length + 1) ubc) (.slice oa os.length ocap)) ?_ rfl ?_
              · simp [results, Tryd.f60, go_sem, e0, e1, e2, e3, qV]
              · exact ⟨id, tn, _, _, _, _, rfl, ownsC_up oc99 (by have := HS1.out; omega), ownsN_up on99 (by have := HS1.out; omega), by have := HCL.out; simp; omega, by have := HOL.out; omega, D99⟩
            · go_simp
              refine Calls.mono (pick_any w0 c v xs _ D7.cur lb qhis 2 100 (by decide) (by decide) (by decide) lst7 HLC.out) ?_
              rintro e w8 ⟨y, yl, yh, rfl, hC8, hg8⟩
              have D8 := D7.call hC8 hg8
              have z8 := keep hg8 (D7.ne (Nat.le_refl _)) z7
              have b8 := keep hg8 (D7.ne HR.out) b7
              have oc8 : OwnsC w8 w1.heap.size _ cs := kept_low oc7 hg8 (by have := D7.lt; have := HS1.out; omega)
              have on8 := ownsN_grown on7 hg8 (by have := D7.lt; have := HS1.out; omega)
              refine hK.out _ _ trivial (fun hHeld => ?_)
              clear hK K
              try simp only [Act.put, List.setIfInBounds_toArray, List.set_cons_zero, List.set_cons_succ]
              refine take_runs (i := 7) (v := ?_) (by simp only [List.getElem?_toArray, List.getElem?_cons_succ, List.getElem?_cons_zero]; rfl) (by kernel_rfl) (by kernel_rfl) (by kernel_rfl) rfl (by exact fun _ _ _ h => h) (by rfl) ?_ (by assumption) ?_
              rotate_left
              · intro w hSw; (try dsimp only at hSw); go_simp; try (with_reducible rfl)
              try simp only [Act.put, List.setIfInBounds_toArray, List.set_cons_zero, List.set_cons_succ]
              refine wpAnyH_ready (rs := [1, 8]) (by kernel_rfl) (by simp) ?_
              refine (AllReadyH.cons (o := _) (by simp only [List.getElem?_toArray, List.getElem?_cons_succ, List.getElem?_cons_zero]; rfl) (fun K hK => ?_) (AllReadyH.cons (o := _) (by simp only [List.getElem?_toArray, List.getElem?_cons_succ, List.getElem?_cons_zero]; rfl) (fun K hK => ?_) AllReadyH.nil))
              · have p8 := (cell_of_row w8 _ 2 _ _ _ b8).trans (show _ = some (Value.slice ca cs.length ccap) from rfl)
                go_simp
                refine hK.out _ _ trivial (fun hHeld => ?_)
                clear hK K
                try simp only [Act.put, List.setIfInBounds_toArray, List.set_cons_zero, List.set_cons_succ]
                refine wpAnyH_ready (rs := [8]) (by kernel_rfl) (by simp) ?_
                refine (AllReadyH.cons (o := _) (by simp only [List.getElem?_toArray, List.getElem?_cons_succ, List.getElem?_cons_zero]; rfl) (fun K hK => ?_) AllReadyH.nil)
                go_simp
                have D9 := D8.alloc (.cells #[.int .i64 f, .int .i64 3, .int .i64 y] 92)
                have z9 := keepA (.cells #[.int .i64 f, .int .i64 3, .int .i64 y] 92) z8
                have b9 := keepA (.cells #[.int .i64 f, .int .i64 3, .int .i64 y] 92) b8
                have oc9 : OwnsC _ w1.heap.size _ cs := oc8.alloc (.cells #[.int .i64 f, .int .i64 3, .int .i64 y] 92)
                have on9 : OwnsN _ w1.heap.size _ os := on8.alloc (.cells #[.int .i64 f, .int .i64 3, .int .i64 y] 92)
                have cc9 : (w8.alloc (.cells #[.int .i64 f, .int .i64 3, .int .i64 y] 92)).cell? ⟨w8.heap.size, 0, none⟩ = some (.int .i64 f) ∧ (w8.alloc (.cells #[.int .i64 f, .int .i64 3, .int .i64 y] 92)).cell? ⟨w8.heap.size, 1, none⟩ = some (.int .i64 3) ∧ (w8.alloc (.cells #[.int .i64 f, .int .i64 3, .int .i64 y] 92)).cell? ⟨w8.heap.size, 2, none⟩ = some (.int .i64 y) := ⟨(cell_lit w8 #[.int .i64 f, .int .i64 3, .int .i64 y] 92 0).trans rfl, (cell_lit w8 #[.int .i64 f, .int .i64 3, .int .i64 y] 92 1).trans rfl, (cell_lit w8 #[.int .i64 f, .int .i64 3, .int .i64 y] 92 2).trans rfl⟩
                obtain ⟨w9, hW9⟩ : ∃ W, w8.alloc (.cells #[.int .i64 f, .int .i64 3, .int .i64 y] 92) = W := ⟨_, rfl⟩
                have hV9 : w8.alloc (.cells #[.int .i64 f, .int .i64 3, .int .i64 y] 92) = w9 := hW9
                rw [hW9]
                rw [hV9] at D9 z9 b9 oc9 on9 cc9
                clear hW9 hV9
                refine hK.out _ _ trivial (fun hHeld => ?_)
                clear hK K
                try simp only [Act.put, List.setIfInBounds_toArray, List.set_cons_zero, List.set_cons_succ]
                refine wpAnyH_ready (rs := [9]) (by kernel_rfl) (by simp) ?_
                refine (AllReadyH.cons (o := _) (by simp only [List.getElem?_toArray, List.getElem?_cons_succ, List.getElem?_cons_zero]; rfl) (fun K hK => ?_) AllReadyH.nil)
                refine step_append_cond1 rfl (.tmp 25) (.tmp 32) rfl w1.heap.size (.slice ca cs.length ccap) cs w8.heap.size f 3 y rfl rfl oc9 cc9 (by have h1 := D9.size; have h2 := (Array.getElem?_eq_some_iff.1 b9).1; have := HW1.out; omega) (by have := HCL.out; omega) ?_
                intro u10 w10 o10 g10
                obtain ⟨ub, ubc, rfl⟩ := ownsC_len o10
                have oN10 : OwnsC w10 w1.heap.size (.slice ub (cs.length + 1) ubc) (cs ++ [(f, 3, y)]) := by simpa using o10
                have bl10 := (Below.refl w1.heap.size _).grown g10 (by have h2 := (Array.getElem?_eq_some_iff.1 b9).1; have := HW1.out; omega) (fun q hq => (oc9.lt q hq).1)
                have b10 := (g10.block R (Array.getElem?_eq_some_iff.1 b9).1 (fun e => HCR.out e.symm)).trans b9
                have z10 := (g10.block w.heap.size (Array.getElem?_eq_some_iff.1 z9).1 (fun e => HCZ.out e.symm)).trans z9
                have D10 := D9.below bl10 (by have := HS1.out; omega)
                have on10 : OwnsN w10 w1.heap.size _ os := World.ownsRow.kept on9 g10 (apartN HAP.out)
                simp only [List.length_append, List.length_cons, List.length_nil, Nat.zero_add]
                refine hK.out _ _ trivial (fun hHeld => ?_)
                clear hK K
                try simp only [Act.put, List.setIfInBounds_toArray, List.set_cons_zero, List.set_cons_succ]
                refine take_runs (i := 10) (v := ?_) (by simp only [List.getElem?_toArray, List.getElem?_cons_succ, List.getElem?_cons_zero]; rfl) (by kernel_rfl) (by kernel_rfl) (by kernel_rfl) rfl (by exact fun _ _ _ h => h) (by rfl) ?_ (by assumption) ?_
                rotate_left
                · intro w hSw; (try dsimp only at hSw); go_simp; try (with_reducible rfl)
                try simp only [Act.put, List.setIfInBounds_toArray, List.set_cons_zero, List.set_cons_succ]
                have h2 := (cell_of_row w10 _ 2 _ _ _ b10).trans (show _ = some (Value.slice ca cs.length ccap) from rfl)
                have k2 := frozen_of_row w10 _ 2 _ _ b10
                refine wpAnyH_ready (rs := [11]) (by kernel_rfl) (by simp) ?_
                refine (AllReadyH.cons (o := _) (by simp only [List.getElem?_toArray, List.getElem?_cons_succ, List.getElem?_cons_zero]; rfl) (fun K hK => ?_) AllReadyH.nil)
                go_simp
                have b50 := heap_setCell_same w10 R 2 _ _ (.slice ub (cs.length + 1) ubc) b10
                have z50 := (heap_setCell_other w10 ⟨R, 2, none⟩ w.heap.size (.slice ub (cs.length + 1) ubc) (by simpa using hn2)).trans z10
                have D50 := D10.set (R := R) HR.out 2 (.slice ub (cs.length + 1) ubc)
                have oc50 : OwnsC (w10.setCell ⟨R, 2, none⟩ (.slice ub (cs.length + 1) ubc)) w1.heap.size _ _ := owns_off oN10 (owns_apart oN10 b10 (by decide)) 2 _
                have on50 : OwnsN (w10.setCell ⟨R, 2, none⟩ (.slice ub (cs.length + 1) ubc)) w1.heap.size _ os := owns_off on10 HOR.out 2 _
                refine hK.out _ _ trivial (fun hHeld => ?_)
                clear hK K
                try simp only [Act.put, List.setIfInBounds_toArray, List.set_cons_zero, List.set_cons_succ]
                refine wpAnyH_done (by kernel_rfl) ?_ _
                obtain ⟨W50, hW50⟩ : ∃ W, (w10.setCell ⟨R, 2, none⟩ (.slice ub (cs.length + 1) ubc)) = W := ⟨_, rfl⟩
                rw [hW50] at b50 z50 D50 oc50 on50 ⊢
                clear hW50 hHeld
                simp only [List.setIfInBounds_toArray, List.set_cons_zero, List.set_cons_succ] at b50
                have q0 := (cell_of_row W50 _ 0 _ _ _ b50).trans (show _ = some (Value.int .i64 id) from rfl)
                have y0 := (cell_of_row W50 _ 0 _ _ _ z50).trans (show _ = some (Value.int .i64 0) from rfl)
                have f0 := frozen_of_row W50 _ 0 _ _ z50
                have q1 := (cell_of_row W50 _ 1 _ _ _ b50).trans (show _ = some (Value.int .i64 tn) from rfl)
                have y1 := (cell_of_row W50 _ 1 _ _ _ z50).trans (show _ = some (Value.int .i64 0) from rfl)
                have f1 := frozen_of_row W50 _ 1 _ _ z50
                have q2 := (cell_of_row W50 _ 2 _ _ _ b50).trans (show _ = some (Value.slice ub (cs.length + 1) ubc) from rfl)
                have y2 := (cell_of_row W50 _ 2 _ _ _ z50).trans (show _ = some (Value.slice none 0 0) from rfl)
                have f2 := frozen_of_row W50 _ 2 _ _ z50
                have q3 := (cell_of_row W50 _ 3 _ _ _ b50).trans (show _ = some (Value.slice oa os.length ocap) from rfl)
                have y3 := (cell_of_row W50 _ 3 _ _ _ z50).trans (show _ = some (Value.slice none 0 0) from rfl)
                have f3 := frozen_of_row W50 _ 3 _ _ z50
                go_wp2
                have r1 := heap_setCell_same W50 w.heap.size 0 _ _ (.int .i64 id) z50
                have r2 := heap_setCell_same _ w.heap.size 1 _ _ (.int .i64 tn) r1
                have r3 := heap_setCell_same _ w.heap.size 2 _ _ (.slice ub (cs.length + 1) ubc) r2
                have r4 := heap_setCell_same _ w.heap.size 3 _ _ (.slice oa os.length ocap) r3
                have D99 := ((((D50.set (R := w.heap.size) (Nat.le_refl _) 0 (.int .i64 id)).set (R := w.heap.size) (Nat.le_refl _) 1 (.int .i64 tn)).set (R := w.heap.size) (Nat.le_refl _) 2 (.slice ub (cs.length + 1) ubc)).set (R := w.heap.size) (Nat.le_refl _) 3 (.slice oa os.length ocap))
                have oc99 := (ownsC_low (ownsC_low (ownsC_low (ownsC_low oc50 (b := w.heap.size) HS1.out 0 (.int .i64 id)) (b := w.heap.size) HS1.out 1 (.int .i64 tn)) (b := w.heap.size) HS1.out 2 (.slice ub (cs.length + 1) ubc)) (b := w.heap.size) HS1.out 3 (.slice oa os.length ocap))
                have on99 := (ownsN_low (ownsN_low (ownsN_low (ownsN_low on50 (b := w.heap.size) HS1.out 0 (.int .i64 id)) (b := w.heap.size) HS1.out 1 (.int .i64 tn)) (b := w.heap.size) HS1.out 2 (.slice ub (cs.length + 1) ubc)) (b := w.heap.size) HS1.out 3 (.slice oa os.length ocap))
                have e0 := cell_of_row _ _ 0 _ _ _ r4
                have e1 := cell_of_row _ _ 1 _ _ _ r4
                have e2 := cell_of_row _ _ 2 _ _ _ r4
                have e3 := cell_of_row _ _ 3 _ _ _ r4
                simp at e0 e1 e2 e3
                refine bodyPost_ret (v := qV id tn (.slice ub (cs.length + 1) ubc) (.slice oa os.length ocap)) ?_ rfl ?_
                · simp [results, Tryd.f60, go_sem, e0, e1, e2, e3, qV]
                · exact ⟨id, tn, _, _, _, _, rfl, ownsC_up oc99 (by have := HS1.out; omega), ownsN_up on99 (by have := HS1.out; omega), by have := HCL.out; simp; omega, by have := HOL.out; omega, D99⟩
              · go_simp
                have D9 := D8.alloc (.cells #[.int .i64 f, .int .i64 3, .int .i64 y] 92)
                have z9 := keepA (.cells #[.int .i64 f, .int .i64 3, .int .i64 y] 92) z8
                have b9 := keepA (.cells #[.int .i64 f, .int .i64 3, .int .i64 y] 92) b8
                have oc9 : OwnsC _ w1.heap.size _ cs := oc8.alloc (.cells #[.int .i64 f, .int .i64 3, .int .i64 y] 92)
                have on9 : OwnsN _ w1.heap.size _ os := on8.alloc (.cells #[.int .i64 f, .int .i64 3, .int .i64 y] 92)
                have cc9 : (w8.alloc (.cells #[.int .i64 f, .int .i64 3, .int .i64 y] 92)).cell? ⟨w8.heap.size, 0, none⟩ = some (.int .i64 f) ∧ (w8.alloc (.cells #[.int .i64 f, .int .i64 3, .int .i64 y] 92)).cell? ⟨w8.heap.size, 1, none⟩ = some (.int .i64 3) ∧ (w8.alloc (.cells #[.int .i64 f, .int .i64 3, .int .i64 y] 92)).cell? ⟨w8.heap.size, 2, none⟩ = some (.int .i64 y) := ⟨(cell_lit w8 #[.int .i64 f, .int .i64 3, .int .i64 y] 92 0).trans rfl, (cell_lit w8 #[.int .i64 f, .int .i64 3, .int .i64 y] 92 1).trans rfl, (cell_lit w8 #[.int .i64 f, .int .i64 3, .int .i64 y] 92 2).trans rfl⟩
                obtain ⟨w9, hW9⟩ : ∃ W, w8.alloc (.cells #[.int .i64 f, .int .i64 3, .int .i64 y] 92) = W := ⟨_, rfl⟩
                have hV9 : w8.alloc (.cells #[.int .i64 f, .int .i64 3, .int .i64 y] 92) = w9 := hW9
                rw [hW9]
                rw [hV9] at D9 z9 b9 oc9 on9 cc9
                clear hW9 hV9
                refine hK.out _ _ trivial (fun hHeld => ?_)
                clear hK K
                try simp only [Act.put, List.setIfInBounds_toArray, List.set_cons_zero, List.set_cons_succ]
                refine wpAnyH_ready (rs := [1]) (by kernel_rfl) (by simp) ?_
                refine (AllReadyH.cons (o := _) (by simp only [List.getElem?_toArray, List.getElem?_cons_succ, List.getElem?_cons_zero]; rfl) (fun K hK => ?_) AllReadyH.nil)
                have p9 := (cell_of_row w9 _ 2 _ _ _ b9).trans (show _ = some (Value.slice ca cs.length ccap) from rfl)
                go_simp
                refine hK.out _ _ trivial (fun hHeld => ?_)
                clear hK K
                try simp only [Act.put, List.setIfInBounds_toArray, List.set_cons_zero, List.set_cons_succ]
                refine wpAnyH_ready (rs := [9]) (by kernel_rfl) (by simp) ?_
                refine (AllReadyH.cons (o := _) (by simp only [List.getElem?_toArray, List.getElem?_cons_succ, List.getElem?_cons_zero]; rfl) (fun K hK => ?_) AllReadyH.nil)
                refine step_append_cond1 rfl (.tmp 25) (.tmp 32) rfl w1.heap.size (.slice ca cs.length ccap) cs w8.heap.size f 3 y rfl rfl oc9 cc9 (by have h1 := D9.size; have h2 := (Array.getElem?_eq_some_iff.1 b9).1; have := HW1.out; omega) (by have := HCL.out; omega) ?_
                intro u10 w10 o10 g10
                obtain ⟨ub, ubc, rfl⟩ := ownsC_len o10
                have oN10 : OwnsC w10 w1.heap.size (.slice ub (cs.length + 1) ubc) (cs ++ [(f, 3, y)]) := by simpa using o10
                have bl10 := (Below.refl w1.heap.size _).grown g10 (by have h2 := (Array.getElem?_eq_some_iff.1 b9).1; have := HW1.out; omega) (fun q hq => (oc9.lt q hq).1)
                have b10 := (g10.block R (Array.getElem?_eq_some_iff.1 b9).1 (fun e => HCR.out e.symm)).trans b9
                have z10 := (g10.block w.heap.size (Array.getElem?_eq_some_iff.1 z9).1 (fun e => HCZ.out e.symm)).trans z9
                have D10 := D9.below bl10 (by have := HS1.out; omega)
                have on10 : OwnsN w10 w1.heap.size _ os := World.ownsRow.kept on9 g10 (apartN HAP.out)
                simp only [List.length_append, List.length_cons, List.length_nil, Nat.zero_add]
                refine hK.out _ _ trivial (fun hHeld => ?_)
                clear hK K
                try simp only [Act.put, List.setIfInBounds_toArray, List.set_cons_zero, List.set_cons_succ]
                refine take_runs (i := 10) (v := ?_) (by simp only [List.getElem?_toArray, List.getElem?_cons_succ, List.getElem?_cons_zero]; rfl) (by kernel_rfl) (by kernel_rfl) (by kernel_rfl) rfl (by exact fun _ _ _ h => h) (by rfl) ?_ (by assumption) ?_
                rotate_left
                · intro w hSw; (try dsimp only at hSw); go_simp; try (with_reducible rfl)
                try simp only [Act.put, List.setIfInBounds_toArray, List.set_cons_zero, List.set_cons_succ]
                have h2 := (cell_of_row w10 _ 2 _ _ _ b10).trans (show _ = some (Value.slice ca cs.length ccap) from rfl)
                have k2 := frozen_of_row w10 _ 2 _ _ b10
                refine wpAnyH_ready (rs := [11]) (by kernel_rfl) (by simp) ?_
                refine (AllReadyH.cons (o := _) (by simp only [List.getElem?_toArray, List.getElem?_cons_succ, List.getElem?_cons_zero]; rfl) (fun K hK => ?_) AllReadyH.nil)
                go_simp
                have b50 := heap_setCell_same w10 R 2 _ _ (.slice ub (cs.length + 1) ubc) b10
                have z50 := (heap_setCell_other w10 ⟨R, 2, none⟩ w.heap.size (.slice ub (cs.length + 1) ubc) (by simpa using hn2)).trans z10
                have D50 := D10.set (R := R) HR.out 2 (.slice ub (cs.length + 1) ubc)
                have oc50 : OwnsC (w10.setCell ⟨R, 2, none⟩ (.slice ub (cs.length + 1) ubc)) w1.heap.size _ _ := owns_off oN10 (owns_apart oN10 b10 (by decide)) 2 _
                have on50 : OwnsN (w10.setCell ⟨R, 2, none⟩ (.slice ub (cs.length + 1) ubc)) w1.heap.size _ os := owns_off on10 HOR.out 2 _
                refine hK.out _ _ trivial (fun hHeld => ?_)
                clear hK K
                try simp only [Act.put, List.setIfInBounds_toArray, List.set_cons_zero, List.set_cons_succ]
                refine wpAnyH_done (by kernel_rfl) ?_ _
                obtain ⟨W50, hW50⟩ : ∃ W, (w10.setCell ⟨R, 2, none⟩ (.slice ub (cs.length + 1) ubc)) = W := ⟨_, rfl⟩
                rw [hW50] at b50 z50 D50 oc50 on50 ⊢
                clear hW50 hHeld
                simp only [List.setIfInBounds_toArray, List.set_cons_zero, List.set_cons_succ] at b50
                have q0 := (cell_of_row W50 _ 0 _ _ _ b50).trans (show _ = some (Value.int .i64 id) from rfl)
                have y0 := (cell_of_row W50 _ 0 _ _ _ z50).trans (show _ = some (Value.int .i64 0) from rfl)
                have f0 := frozen_of_row W50 _ 0 _ _ z50
                have q1 := (cell_of_row W50 _ 1 _ _ _ b50).trans (show _ = some (Value.int .i64 tn) from rfl)
                have y1 := (cell_of_row W50 _ 1 _ _ _ z50).trans (show _ = some (Value.int .i64 0) from rfl)
                have f1 := frozen_of_row W50 _ 1 _ _ z50
                have q2 := (cell_of_row W50 _ 2 _ _ _ b50).trans (show _ = some (Value.slice ub (cs.length + 1) ubc) from rfl)
                have y2 := (cell_of_row W50 _ 2 _ _ _ z50).trans (show _ = some (Value.slice none 0 0) from rfl)
                have f2 := frozen_of_row W50 _ 2 _ _ z50
                have q3 := (cell_of_row W50 _ 3 _ _ _ b50).trans (show _ = some (Value.slice oa os.length ocap) from rfl)
                have y3 := (cell_of_row W50 _ 3 _ _ _ z50).trans (show _ = some (Value.slice none 0 0) from rfl)
                have f3 := frozen_of_row W50 _ 3 _ _ z50
                go_wp2
                have r1 := heap_setCell_same W50 w.heap.size 0 _ _ (.int .i64 id) z50
                have r2 := heap_setCell_same _ w.heap.size 1 _ _ (.int .i64 tn) r1
                have r3 := heap_setCell_same _ w.heap.size 2 _ _ (.slice ub (cs.length + 1) ubc) r2
                have r4 := heap_setCell_same _ w.heap.size 3 _ _ (.slice oa os.length ocap) r3
                have D99 := ((((D50.set (R := w.heap.size) (Nat.le_refl _) 0 (.int .i64 id)).set (R := w.heap.size) (Nat.le_refl _) 1 (.int .i64 tn)).set (R := w.heap.size) (Nat.le_refl _) 2 (.slice ub (cs.length + 1) ubc)).set (R := w.heap.size) (Nat.le_refl _) 3 (.slice oa os.length ocap))
                have oc99 := (ownsC_low (ownsC_low (ownsC_low (ownsC_low oc50 (b := w.heap.size) HS1.out 0 (.int .i64 id)) (b := w.heap.size) HS1.out 1 (.int .i64 tn)) (b := w.heap.size) HS1.out 2 (.slice ub (cs.length + 1) ubc)) (b := w.heap.size) HS1.out 3 (.slice oa os.length ocap))
                have on99 := (ownsN_low (ownsN_low (ownsN_low (ownsN_low on50 (b := w.heap.size) HS1.out 0 (.int .i64 id)) (b := w.heap.size) HS1.out 1 (.int .i64 tn)) (b := w.heap.size) HS1.out 2 (.slice ub (cs.length + 1) ubc)) (b := w.heap.size) HS1.out 3 (.slice oa os.length ocap))
                have e0 := cell_of_row _ _ 0 _ _ _ r4
                have e1 := cell_of_row _ _ 1 _ _ _ r4
                have e2 := cell_of_row _ _ 2 _ _ _ r4
                have e3 := cell_of_row _ _ 3 _ _ _ r4
                simp at e0 e1 e2 e3
                refine bodyPost_ret (v := qV id tn (.slice ub (cs.length + 1) ubc) (.slice oa os.length ocap)) ?_ rfl ?_
                · simp [results, Tryd.f60, go_sem, e0, e1, e2, e3, qV]
                · exact ⟨id, tn, _, _, _, _, rfl, ownsC_up oc99 (by have := HS1.out; omega), ownsN_up on99 (by have := HS1.out; omega), by have := HCL.out; simp; omega, by have := HOL.out; omega, D99⟩
        · go_simp
          have D6 := D5.alloc (.cells (qhis.map (Value.int .i64)).toArray 3 (0, 0))
          have z6 := keepA (.cells (qhis.map (Value.int .i64)).toArray 3 (0, 0)) z5
          have b6 := keepA (.cells (qhis.map (Value.int .i64)).toArray 3 (0, 0)) b5
          have oc6 : OwnsC _ w1.heap.size _ cs := oc5.alloc (.cells (qhis.map (Value.int .i64)).toArray 3 (0, 0))
          have on6 : OwnsN _ w1.heap.size _ os := on5.alloc (.cells (qhis.map (Value.int .i64)).toArray 3 (0, 0))
          have lst6 := heap_alloc_new w5 (.cells (qhis.map (Value.int .i64)).toArray 3 (0, 0))
          have HLC : Hid (w5.heap.size ≠ c) := Lib.hid (D5.ne D5.size)
          obtain ⟨lb, hlb⟩ : ∃ lb, w5.heap.size = lb := ⟨_, rfl⟩
          rw [hlb] at lst6 HLC ⊢
          clear hlb
          obtain ⟨w6, hW6⟩ : ∃ W, w5.alloc (.cells #[.int .i64 2, .int .i64 3, .int .i64 99, .int .i64 100] 3) = W := ⟨_, rfl⟩
          have hV6 : w5.alloc (.cells (qhis.map (Value.int .i64)).toArray 3 (0, 0)) = w6 := hW6
          rw [hW6]
          rw [hV6] at D6 z6 b6 oc6 on6 lst6
          clear hW6 hV6
          refine hK.out _ _ trivial (fun hHeld => ?_)
          clear hK K
          try simp only [Act.put, List.setIfInBounds_toArray, List.set_cons_zero, List.set_cons_succ]
          refine wpAnyH_ready (rs := [1, 3]) (by kernel_rfl) (by simp) ?_
          refine (AllReadyH.cons (o := _) (by simp only [List.getElem?_toArray, List.getElem?_cons_succ, List.getElem?_cons_zero]; rfl) (fun K hK => ?_) (AllReadyH.cons (o := _) (by simp only [List.getElem?_toArray, List.getElem?_cons_succ, List.getElem?_cons_zero]; rfl) (fun K hK => ?_) AllReadyH.nil))
          · have p6 := (cell_of_row w6 _ 2 _ _ _ b6).trans (show _ = some (Value.slice ca cs.length ccap) from rfl)
            go_simp
            refine hK.out _ _ trivial (fun hHeld => ?_)
            clear hK K
            try simp only [Act.put, List.setIfInBounds_toArray, List.set_cons_zero, List.set_cons_succ]
            refine wpAnyH_ready (rs := [3]) (by kernel_rfl) (by simp) ?_
            refine (AllReadyH.cons (o := _) (by simp only [List.getElem?_toArray, List.getElem?_cons_succ, List.getElem?_cons_zero]; rfl) (fun K hK => ?_) AllReadyH.nil)
            go_simp
            refine Calls.mono (below_any w0 c v xs _ D6.cur 4 (by omega) (by omega)) ?_
            rintro e w7 ⟨f, fl, fh, rfl, hC7, hg7⟩
            have D7 := D6.call hC7 hg7
            have z7 := keep hg7 (D6.ne (Nat.le_refl _)) z6
            have b7 := keep hg7 (D6.ne HR.out) b6
            have oc7 : OwnsC w7 w1.heap.size _ cs := kept_low oc6 hg7 (by have := D6.lt; have := HS1.out; omega)
            have on7 := ownsN_grown on6 hg7 (by have := D6.lt; have := HS1.out; omega)
            have lst7 := keep hg7 HLC.out lst6
            refine hK.out _ _ trivial (fun hHeld => ?_)
            clear hK K
            try simp only [Act.put, List.setIfInBounds_toArray, List.set_cons_zero, List.set_cons_succ]
            refine wpAnyH_ready (rs := [6]) (by kernel_rfl) (by simp) ?_
            refine (AllReadyH.cons (o := _) (by simp only [List.getElem?_toArray, List.getElem?_cons_succ, List.getElem?_cons_zero]; rfl) (fun K hK => ?_) AllReadyH.nil)
            go_simp
            refine Calls.mono (pick_any w0 c v xs _ D7.cur lb qhis 2 100 (by decide) (by decide) (by decide) lst7 HLC.out) ?_
            rintro e w8 ⟨y, yl, yh, rfl, hC8, hg8⟩
            have D8 := D7.call hC8 hg8
            have z8 := keep hg8 (D7.ne (Nat.le_refl _)) z7
            have b8 := keep hg8 (D7.ne HR.out) b7
            have oc8 : OwnsC w8 w1.heap.size _ cs := kept_low oc7 hg8 (by have := D7.lt; have := HS1.out; omega)
            have on8 := ownsN_grown on7 hg8 (by have := D7.lt; have := HS1.out; omega)
            refine hK.out _ _ trivial (fun hHeld => ?_)
            clear hK K
            try simp only [Act.put, List.setIfInBounds_toArray, List.set_cons_zero, List.set_cons_succ]
            refine take_runs (i := 7) (v := ?_) (by simp only [List.getElem?_toArray, List.getElem?_cons_succ, List.getElem?_cons_zero]; rfl) (by kernel_rfl) (by kernel_rfl) (by kernel_rfl) rfl (by exact fun _ _ _ h => h) (by rfl) ?_ (by assumption) ?_
            rotate_left
            · intro w hSw; (try dsimp only at hSw); go_simp; try (with_reducible rfl)
            try simp only [Act.put, List.setIfInBounds_toArray, List.set_cons_zero, List.set_cons_succ]
            refine wpAnyH_ready (rs := [8]) (by kernel_rfl) (by simp) ?_
            refine (AllReadyH.cons (o := _) (by simp only [List.getElem?_toArray, List.getElem?_cons_succ, List.getElem?_cons_zero]; rfl) (fun K hK => ?_) AllReadyH.nil)
            go_simp
            have D9 := D8.alloc (.cells #[.int .i64 f, .int .i64 3, .int .i64 y] 92)
            have z9 := keepA (.cells #[.int .i64 f, .int .i64 3, .int .i64 y] 92) z8
            have b9 := keepA (.cells #[.int .i64 f, .int .i64 3, .int .i64 y] 92) b8
            have oc9 : OwnsC _ w1.heap.size _ cs := oc8.alloc (.cells #[.int .i64 f, .int .i64 3, .int .i64 y] 92)
            have on9 : OwnsN _ w1.heap.size _ os := on8.alloc (.cells #[.int .i64 f, .int .i64 3, .int .i64 y] 92)
            have cc9 : (w8.alloc (.cells #[.int .i64 f, .int .i64 3, .int .i64 y] 92)).cell? ⟨w8.heap.size, 0, none⟩ = some (.int .i64 f) ∧ (w8.alloc (.cells #[.int .i64 f, .int .i64 3, .int .i64 y] 92)).cell? ⟨w8.heap.size, 1, none⟩ = some (.int .i64 3) ∧ (w8.alloc (.cells #[.int .i64 f, .int .i64 3, .int .i64 y] 92)).cell? ⟨w8.heap.size, 2, none⟩ = some (.int .i64 y) := ⟨(cell_lit w8 #[.int .i64 f, .int .i64 3, .int .i64 y] 92 0).trans rfl, (cell_lit w8 #[.int .i64 f, .int .i64 3, .int .i64 y] 92 1).trans rfl, (cell_lit w8 #[.int .i64 f, .int .i64 3, .int .i64 y] 92 2).trans rfl⟩
            obtain ⟨w9, hW9⟩ : ∃ W, w8.alloc (.cells #[.int .i64 f, .int .i64 3, .int .i64 y] 92) = W := ⟨_, rfl⟩
            have hV9 : w8.alloc (.cells #[.int .i64 f, .int .i64 3, .int .i64 y] 92) = w9 := hW9
            rw [hW9]
            rw [hV9] at D9 z9 b9 oc9 on9 cc9
            clear hW9 hV9
            refine hK.out _ _ trivial (fun hHeld => ?_)
            clear hK K
            try simp only [Act.put, List.setIfInBounds_toArray, List.set_cons_zero, List.set_cons_succ]
            refine wpAnyH_ready (rs := [9]) (by kernel_rfl) (by simp) ?_
            refine (AllReadyH.cons (o := _) (by simp only [List.getElem?_toArray, List.getElem?_cons_succ, List.getElem?_cons_zero]; rfl) (fun K hK => ?_) AllReadyH.nil)
            refine step_append_cond1 rfl (.tmp 25) (.tmp 32) rfl w1.heap.size (.slice ca cs.length ccap) cs w8.heap.size f 3 y rfl rfl oc9 cc9 (by have h1 := D9.size; have h2 := (Array.getElem?_eq_some_iff.1 b9).1; have := HW1.out; omega) (by have := HCL.out; omega) ?_
            intro u10 w10 o10 g10
            obtain ⟨ub, ubc, rfl⟩ := ownsC_len o10
            have oN10 : OwnsC w10 w1.heap.size (.slice ub (cs.length + 1) ubc) (cs ++ [(f, 3, y)]) := by simpa using o10
            have bl10 := (Below.refl w1.heap.size _).grown g10 (by have h2 := (Array.getElem?_eq_some_iff.1 b9).1; have := HW1.out; omega) (fun q hq => (oc9.lt q hq).1)
            have b10 := (g10.block R (Array.getElem?_eq_some_iff.1 b9).1 (fun e => HCR.out e.symm)).trans b9
            have z10 := (g10.block w.heap.size (Array.getElem?_eq_some_iff.1 z9).1 (fun e => HCZ.out e.symm)).trans z9
            have D10 := D9.below bl10 (by have := HS1.out; omega)
            have on10 : OwnsN w10 w1.heap.size _ os := World.ownsRow.kept on9 g10 (apartN HAP.out)
            simp only [List.length_append, List.length_cons, List.length_nil, Nat.zero_add]
            refine hK.out _ _ trivial (fun hHeld => ?_)
            clear hK K
            try simp only [Act.put, List.setIfInBounds_toArray, List.set_cons_zero, List.set_cons_succ]
            refine take_runs (i := 10) (v := ?_) (by simp only [List.getElem?_toArray, List.getElem?_cons_succ, List.getElem?_cons_zero]; rfl) (by kernel_rfl) (by kernel_rfl) (by kernel_rfl) rfl (by exact fun _ _ _ h => h) (by rfl) ?_ (by assumption) ?_
            rotate_left
            · intro w hSw; (try dsimp only at hSw); go_simp; try (with_reducible rfl)
            try simp only [Act.put, List.setIfInBounds_toArray, List.set_cons_zero, List.set_cons_succ]
            have h2 := (cell_of_row w10 _ 2 _ _ _ b10).trans (show _ = some (Value.slice ca cs.length ccap) from rfl)
            have k2 := frozen_of_row w10 _ 2 _ _ b10
            refine wpAnyH_ready (rs := [11]) (by kernel_rfl) (by simp) ?_
            refine (AllReadyH.cons (o := _) (by simp only [List.getElem?_toArray, List.getElem?_cons_succ, List.getElem?_cons_zero]; rfl) (fun K hK => ?_) AllReadyH.nil)
            go_simp
            have b50 := heap_setCell_same w10 R 2 _ _ (.slice ub (cs.length + 1) ubc) b10
            have z50 := (heap_setCell_other w10 ⟨R, 2, none⟩ w.heap.size (.slice ub (cs.length + 1) ubc) (by simpa using hn2)).trans z10
            have D50 := D10.set (R := R) HR.out 2 (.slice ub (cs.length + 1) ubc)
            have oc50 : OwnsC (w10.setCell ⟨R, 2, none⟩ (.slice ub (cs.length + 1) ubc)) w1.heap.size _ _ := owns_off oN10 (owns_apart oN10 b10 (by decide)) 2 _
            have on50 : OwnsN (w10.setCell ⟨R, 2, none⟩ (.slice ub (cs.length + 1) ubc)) w1.heap.size _ os := owns_off on10 HOR.out 2 _
            refine hK.out _ _ trivial (fun hHeld => ?_)
            clear hK K
            try simp only [Act.put, List.setIfInBounds_toArray, List.set_cons_zero, List.set_cons_succ]
            refine wpAnyH_done (by kernel_rfl) ?_ _
            obtain ⟨W50, hW50⟩ : ∃ W, (w10.setCell ⟨R, 2, none⟩ (.slice ub (cs.length + 1) ubc)) = W := ⟨_, rfl⟩
            rw [hW50] at b50 z50 D50 oc50 on50 ⊢
            clear hW50 hHeld
            simp only [List.setIfInBounds_toArray, List.set_cons_zero, List.set_cons_succ] at b50
            have q0 := (cell_of_row W50 _ 0 _ _ _ b50).trans (show _ = some (Value.int .i64 id) from rfl)
            have y0 := (cell_of_row W50 _ 0 _ _ _ z50).trans (show _ = some (Value.int .i64 0) from rfl)
            have f0 := frozen_of_row W50 _ 0 _ _ z50
            have q1 := (cell_of_row W50 _ 1 _ _ _ b50).trans (show _ = some (Value.int .i64 tn) from rfl)
            have y1 := (cell_of_row W50 _ 1 _ _ _ z50).trans (show _ = some (Value.int .i64 0) from rfl)
            have f1 := frozen_of_row W50 _ 1 _ _ z50
            have q2 := (cell_of_row W50 _ 2 _ _ _ b50).trans (show _ = some (Value.slice ub (cs.length + 1) ubc) from rfl)
            have y2 := (cell_of_row W50 _ 2 _ _ _ z50).trans (show _ = some (Value.slice none 0 0) from rfl)
            have f2 := frozen_of_row W50 _ 2 _ _ z50
            have q3 := (cell_of_row W50 _ 3 _ _ _ b50).trans (show _ = some (Value.slice oa os.length ocap) from rfl)
            have y3 := (cell_of_row W50 _ 3 _ _ _ z50).trans (show _ = some (Value.slice none 0 0) from rfl)
            have f3 := frozen_of_row W50 _ 3 _ _ z50
            go_wp2
            have r1 := heap_setCell_same W50 w.heap.size 0 _ _ (.int .i64 id) z50
            have r2 := heap_setCell_same _ w.heap.size 1 _ _ (.int .i64 tn) r1
            have r3 := heap_setCell_same _ w.heap.size 2 _ _ (.slice ub (cs.length + 1) ubc) r2
            have r4 := heap_setCell_same _ w.heap.size 3 _ _ (.slice oa os.length ocap) r3
            have D99 := ((((D50.set (R := w.heap.size) (Nat.le_refl _) 0 (.int .i64 id)).set (R := w.heap.size) (Nat.le_refl _) 1 (.int .i64 tn)).set (R := w.heap.size) (Nat.le_refl _) 2 (.slice ub (cs.length + 1) ubc)).set (R := w.heap.size) (Nat.le_refl _) 3 (.slice oa os.length ocap))
            have oc99 := (ownsC_low (ownsC_low (ownsC_low (ownsC_low oc50 (b := w.heap.size) HS1.out 0 (.int .i64 id)) (b := w.heap.size) HS1.out 1 (.int .i64 tn)) (b := w.heap.size) HS1.out 2 (.slice ub (cs.length + 1) ubc)) (b := w.heap.size) HS1.out 3 (.slice oa os.length ocap))
            have on99 := (ownsN_low (ownsN_low (ownsN_low (ownsN_low on50 (b := w.heap.size) HS1.out 0 (.int .i64 id)) (b := w.heap.size) HS1.out 1 (.int .i64 tn)) (b := w.heap.size) HS1.out 2 (.slice ub (cs.length + 1) ubc)) (b := w.heap.size) HS1.out 3 (.slice oa os.length ocap))
            have e0 := cell_of_row _ _ 0 _ _ _ r4
            have e1 := cell_of_row _ _ 1 _ _ _ r4
            have e2 := cell_of_row _ _ 2 _ _ _ r4
            have e3 := cell_of_row _ _ 3 _ _ _ r4
            simp at e0 e1 e2 e3
            refine bodyPost_ret (v := qV id tn (.slice ub (cs.length + 1) ubc) (.slice oa os.length ocap)) ?_ rfl ?_
            · simp [results, Tryd.f60, go_sem, e0, e1, e2, e3, qV]
            · exact ⟨id, tn, _, _, _, _, rfl, ownsC_up oc99 (by have := HS1.out; omega), ownsN_up on99 (by have := HS1.out; omega), by have := HCL.out; simp; omega, by have := HOL.out; omega, D99⟩
          · go_simp
            refine Calls.mono (below_any w0 c v xs _ D6.cur 4 (by omega) (by omega)) ?_
            rintro e w7 ⟨f, fl, fh, rfl, hC7, hg7⟩
            have D7 := D6.call hC7 hg7
            have z7 := keep hg7 (D6.ne (Nat.le_refl _)) z6
            have b7 := keep hg7 (D6.ne HR.out) b6
            have oc7 : OwnsC w7 w1.heap.size _ cs := kept_low oc6 hg7 (by have := D6.lt; have := HS1.out; omega)
            have on7 := ownsN_grown on6 hg7 (by have := D6.lt; have := HS1.out; omega)
            have lst7 := keep hg7 HLC.out lst6
            refine hK.out _ _ trivial (fun hHeld => ?_)
            clear hK K
            try simp only [Act.put, List.setIfInBounds_toArray, List.set_cons_zero, List.set_cons_succ]
            refine wpAnyH_ready (rs := [1, 6]) (by kernel_rfl) (by simp) ?_
            refine (AllReadyH.cons (o := _) (by simp only [List.getElem?_toArray, List.getElem?_cons_succ, List.getElem?_cons_zero]; rfl) (fun K hK => ?_) (AllReadyH.cons (o := _) (by simp only [List.getElem?_toArray, List.getElem?_cons_succ, List.getElem?_cons_zero]; rfl) (fun K hK => ?_) AllReadyH.nil))
            · have p7 := (cell_of_row w7 _ 2 _ _ _ b7).trans (show _ = some (Value.slice ca cs.length ccap) from rfl)
              go_simp
              refine hK.out _ _ trivial (fun hHeld => ?_)
              clear hK K
              try simp only [Act.put, List.setIfInBounds_toArray, List.set_cons_zero, List.set_cons_succ]
              refine wpAnyH_ready (rs := [6]) (by kernel_rfl) (by simp) ?_
              refine (AllReadyH.cons (o := _) (by simp only [List.getElem?_toArray, List.getElem?_cons_succ, List.getElem?_cons_zero]; rfl) (fun K hK => ?_) AllReadyH.nil)
              go_simp
              refine Calls.mono (pick_any w0 c v xs _ D7.cur lb qhis 2 100 (by decide) (by decide) (by decide) lst7 HLC.out) ?_
              rintro e w8 ⟨y, yl, yh, rfl, hC8, hg8⟩
              have D8 := D7.call hC8 hg8
              have z8 := keep hg8 (D7.ne (Nat.le_refl _)) z7
              have b8 := keep hg8 (D7.ne HR.out) b7
              have oc8 : OwnsC w8 w1.heap.size _ cs := kept_low oc7 hg8 (by have := D7.lt; have := HS1.out; omega)
              have on8 := ownsN_grown on7 hg8 (by have := D7.lt; have := HS1.out; omega)
              refine hK.out _ _ trivial (fun hHeld => ?_)
              clear hK K
              try simp only [Act.put, List.setIfInBounds_toArray, List.set_cons_zero, List.set_cons_succ]
              refine take_runs (i := 7) (v := ?_) (by simp only [List.getElem?_toArray, List.getElem?_cons_succ, List.getElem?_cons_zero]; rfl) (by kernel_rfl) (by kernel_rfl) (by kernel_rfl) rfl (by exact fun _ _ _ h => h) (by rfl) ?_ (by assumption) ?_
              rotate_left
              · intro w hSw; (try dsimp only at hSw); go_simp; try (with_reducible rfl)
              try simp only [Act.put, List.setIfInBounds_toArray, List.set_cons_zero, List.set_cons_succ]
              refine wpAnyH_ready (rs := [8]) (by kernel_rfl) (by simp) ?_
              refine (AllReadyH.cons (o := _) (by simp only [List.getElem?_toArray, List.getElem?_cons_succ, List.getElem?_cons_zero]; rfl) (fun K hK => ?_) AllReadyH.nil)
              go_simp
              have D9 := D8.alloc (.cells #[.int .i64 f, .int .i64 3, .int .i64 y] 92)
              have z9 := keepA (.cells #[.int .i64 f, .int .i64 3, .int .i64 y] 92) z8
              have b9 := keepA (.cells #[.int .i64 f, .int .i64 3, .int .i64 y] 92) b8
              have oc9 : OwnsC _ w1.heap.size _ cs := oc8.alloc (.cells #[.int .i64 f, .int .i64 3, .int .i64 y] 92)
              have on9 : OwnsN _ w1.heap.size _ os := on8.alloc (.cells #[.int .i64 f, .int .i64 3, .int .i64 y] 92)
              have cc9 : (w8.alloc (.cells #[.int .i64 f, .int .i64 3, .int .i64 y] 92)).cell? ⟨w8.heap.size, 0, none⟩ = some (.int .i64 f) ∧ (w8.alloc (.cells #[.int .i64 f, .int .i64 3, .int .i64 y] 92)).cell? ⟨w8.heap.size, 1, none⟩ = some (.int .i64 3) ∧ (w8.alloc (.cells #[.int .i64 f, .int .i64 3, .int .i64 y] 92)).cell? ⟨w8.heap.size, 2, none⟩ = some (.int .i64 y) := ⟨(cell_lit w8 #[.int .i64 f, .int .i64 3, .int .i64 y] 92 0).trans rfl, (cell_lit w8 #[.int .i64 f, .int .i64 3, .int .i64 y] 92 1).trans rfl, (cell_lit w8 #[.int .i64 f, .int .i64 3, .int .i64 y] 92 2).trans rfl⟩
              obtain ⟨w9, hW9⟩ : ∃ W, w8.alloc (.cells #[.int .i64 f, .int .i64 3, .int .i64 y] 92) = W := ⟨_, rfl⟩
              have hV9 : w8.alloc (.cells #[.int .i64 f, .int .i64 3, .int .i64 y] 92) = w9 := hW9
              rw [hW9]
              rw [hV9] at D9 z9 b9 oc9 on9 cc9
              clear hW9 hV9
              refine hK.out _ _ trivial (fun hHeld => ?_)
              clear hK K
              try simp only [Act.put, List.setIfInBounds_toArray, List.set_cons_zero, List.set_cons_succ]
              refine wpAnyH_ready (rs := [9]) (by kernel_rfl) (by simp) ?_
              refine (AllReadyH.cons (o := _) (by simp only [List.getElem?_toArray, List.getElem?_cons_succ, List.getElem?_cons_zero]; rfl) (fun K hK => ?_) AllReadyH.nil)
              refine step_append_cond1 rfl (.tmp 25) (.tmp 32) rfl w1.heap.size (.slice ca cs.length ccap) cs w8.heap.size f 3 y rfl rfl oc9 cc9 (by have h1 := D9.size; have h2 := (Array.getElem?_eq_some_iff.1 b9).1; have := HW1.out; omega) (by have := HCL.out; omega) ?_
              intro u10 w10 o10 g10
              obtain ⟨ub, ubc, rfl⟩ := ownsC_len o10
              have oN10 : OwnsC w10 w1.heap.size (.slice ub (cs.length + 1) ubc) (cs ++ [(f, 3, y)]) := by simpa using o10
              have bl10 := (Below.refl w1.heap.size _).grown g10 (by have h2 := (Array.getElem?_eq_some_iff.1 b9).1; have := HW1.out; omega) (fun q hq => (oc9.lt q hq).1)
              have b10 := (g10.block R (Array.getElem?_eq_some_iff.1 b9).1 (fun e => HCR.out e.symm)).trans b9
              have z10 := (g10.block w.heap.size (Array.getElem?_eq_some_iff.1 z9).1 (fun e => HCZ.out e.symm)).trans z9
              have D10 := D9.below bl10 (by have := HS1.out; omega)
              have on10 : OwnsN w10 w1.heap.size _ os := World.ownsRow.kept on9 g10 (apartN HAP.out)
              simp only [List.length_append, List.length_cons, List.length_nil, Nat.zero_add]
              refine hK.out _ _ trivial (fun hHeld => ?_)
              clear hK K
              try simp only [Act.put, List.setIfInBounds_toArray, List.set_cons_zero, List.set_cons_succ]
              refine take_runs (i := 10) (v := ?_) (by simp only [List.getElem?_toArray, List.getElem?_cons_succ, List.getElem?_cons_zero]; rfl) (by kernel_rfl) (by kernel_rfl) (by kernel_rfl) rfl (by exact fun _ _ _ h => h) (by rfl) ?_ (by assumption) ?_
              rotate_left
              · intro w hSw; (try dsimp only at hSw); go_simp; try (with_reducible rfl)
              try simp only [Act.put, List.setIfInBounds_toArray, List.set_cons_zero, List.set_cons_succ]
              have h2 := (cell_of_row w10 _ 2 _ _ _ b10).trans (show _ = some (Value.slice ca cs.length ccap) from rfl)
              have k2 := frozen_of_row w10 _ 2 _ _ b10
              refine wpAnyH_ready (rs := [11]) (by kernel_rfl) (by simp) ?_
              refine (AllReadyH.cons (o := _) (by simp only [List.getElem?_toArray, List.getElem?_cons_succ, List.getElem?_cons_zero]; rfl) (fun K hK => ?_) AllReadyH.nil)
              go_simp
              have b50 := heap_setCell_same w10 R 2 _ _ (.slice ub (cs.length + 1) ubc) b10
              have z50 := (heap_setCell_other w10 ⟨R, 2, none⟩ w.heap.size (.slice ub (cs.length + 1) ubc) (by simpa using hn2)).trans z10
              have D50 := D10.set (R := R) HR.out 2 (.slice ub (cs.length + 1) ubc)
              have oc50 : OwnsC (w10.setCell ⟨R, 2, none⟩ (.slice ub (cs.length + 1) ubc)) w1.heap.size _ _ := owns_off oN10 (owns_apart oN10 b10 (by decide)) 2 _
              have on50 : OwnsN (w10.setCell ⟨R, 2, none⟩ (.slice ub (cs.length + 1) ubc)) w1.heap.size _ os := owns_off on10 HOR.out 2 _
              refine hK.out _ _ trivial (fun hHeld => ?_)
              clear hK K
              try simp only [Act.put, List.setIfInBounds_toArray, List.set_cons_zero, List.set_cons_succ]
              refine wpAnyH_done (by kernel_rfl) ?_ _
              obtain ⟨W50, hW50⟩ : ∃ W, (w10.setCell ⟨R, 2, none⟩ (.slice ub (cs.length + 1) ubc)) = W := ⟨_, rfl⟩
              rw [hW50] at b50 z50 D50 oc50 on50 ⊢
              clear hW50 hHeld
              simp only [List.setIfInBounds_toArray, List.set_cons_zero, List.set_cons_succ] at b50
              have q0 := (cell_of_row W50 _ 0 _ _ _ b50).trans (show _ = some (Value.int .i64 id) from rfl)
              have y0 := (cell_of_row W50 _ 0 _ _ _ z50).trans (show _ = some (Value.int .i64 0) from rfl)
              have f0 := frozen_of_row W50 _ 0 _ _ z50
              have q1 := (cell_of_row W50 _ 1 _ _ _ b50).trans (show _ = some (Value.int .i64 tn) from rfl)
              have y1 := (cell_of_row W50 _ 1 _ _ _ z50).trans (show _ = some (Value.int .i64 0) from rfl)
              have f1 := frozen_of_row W50 _ 1 _ _ z50
              have q2 := (cell_of_row W50 _ 2 _ _ _ b50).trans (show _ = some (Value.slice ub (cs.length + 1) ubc) from rfl)
              have y2 := (cell_of_row W50 _ 2 _ _ _ z50).trans (show _ = some (Value.slice none 0 0) from rfl)
              have f2 := frozen_of_row W50 _ 2 _ _ z50
              have q3 := (cell_of_row W50 _ 3 _ _ _ b50).trans (show _ = some (Value.slice oa os.length ocap) from rfl)
              have y3 := (cell_of_row W50 _ 3 _ _ _ z50).trans (show _ = some (Value.slice none 0 0) from rfl)
              have f3 := frozen_of_row W50 _ 3 _ _ z50
              go_wp2
              have r1 := heap_setCell_same W50 w.heap.size 0 _ _ (.int .i64 id) z50
              have r2 := heap_setCell_same _ w.heap.size 1 _ _ (.int .i64 tn) r1
              have r3 := heap_setCell_same _ w.heap.size 2 _ _ (.slice ub (cs.length + 1) ubc) r2
              have r4 := heap_setCell_same _ w.heap.size 3 _ _ (.slice oa os.length ocap) r3
              have D99 := ((((D50.set (R := w.heap.size) (Nat.le_refl _) 0 (.int .i64 id)).set (R := w.heap.size) (Nat.le_refl _) 1 (.int .i64 tn)).set (R := w.heap.size) (Nat.le_refl _) 2 (.slice ub (cs.length + 1) ubc)).set (R := w.heap.size) (Nat.le_refl _) 3 (.slice oa os.length ocap))
              have oc99 := (ownsC_low (ownsC_low (ownsC_low (ownsC_low oc50 (b := w.heap.size) HS1.out 0 (.int .i64 id)) (b := w.heap.size) HS1.out 1 (.int .i64 tn)) (b := w.heap.size) HS1.out 2 (.slice ub (cs.length + 1) ubc)) (b := w.heap.size) HS1.out 3 (.slice oa os.length ocap))
              have on99 := (ownsN_low (ownsN_low (ownsN_low (ownsN_low on50 (b := w.heap.size) HS1.out 0 (.int .i64 id)) (b := w.heap.size) HS1.out 1 (.int .i64 tn)) (b := w.heap.size) HS1.out 2 (.slice ub (cs.length + 1) ubc)) (b := w.heap.size) HS1.out 3 (.slice oa os.length ocap))
              have e0 := cell_of_row _ _ 0 _ _ _ r4
              have e1 := cell_of_row _ _ 1 _ _ _ r4
              have e2 := cell_of_row _ _ 2 _ _ _ r4
              have e3 := cell_of_row _ _ 3 _ _ _ r4
              simp at e0 e1 e2 e3
              refine bodyPost_ret (v := qV id tn (.slice ub (cs.length + 1) ubc) (.slice oa os.length ocap)) ?_ rfl ?_
              · simp [results, Tryd.f60, go_sem, e0, e1, e2, e3, qV]
              · exact ⟨id, tn, _, _, _, _, rfl, ownsC_up oc99 (by have := HS1.out; omega), ownsN_up on99 (by have := HS1.out; omega), by have := HCL.out; simp; omega, by have := HOL.out; omega, D99⟩
            · go_simp
              refine Calls.mono (pick_any w0 c v xs _ D7.cur lb qhis 2 100 (by decide) (by decide) (by decide) lst7 HLC.out) ?_
              rintro e w8 ⟨y, yl, yh, rfl, hC8, hg8⟩
              have D8 := D7.call hC8 hg8
              have z8 := keep hg8 (D7.ne (Nat.le_refl _)) z7
              have b8 := keep hg8 (D7.ne HR.out) b7
              have oc8 : OwnsC w8 w1.heap.size _ cs := kept_low oc7 hg8 (by have := D7.lt; have := HS1.out; omega)
              have on8 := ownsN_grown on7 hg8 (by have := D7.lt; have := HS1.out; omega)
              refine hK.out _ _ trivial (fun hHeld => ?_)
              clear hK K
              try simp only [Act.put, List.setIfInBounds_toArray, List.set_cons_zero, List.set_cons_succ]
              refine take_runs (i := 7) (v := ?_) (by simp only [List.getElem?_toArray, List.getElem?_cons_succ, List.getElem?_cons_zero]; rfl) (by kernel_rfl) (by kernel_rfl) (by kernel_rfl) rfl (by exact fun _ _ _ h => h) (by rfl) ?_ (by assumption) ?_
              rotate_left
              · intro w hSw; (try dsimp only at hSw); go_simp; try (with_reducible rfl)
              try simp only [Act.put, List.setIfInBounds_toArray, List.set_cons_zero, List.set_cons_succ]
              refine wpAnyH_ready (rs := [1, 8]) (by kernel_rfl) (by simp) ?_
              refine (AllReadyH.cons (o := _) (by simp only [List.getElem?_toArray, List.getElem?_cons_succ, List.getElem?_cons_zero]; rfl) (fun K hK => ?_) (AllReadyH.cons (o := _) (by simp only [List.getElem?_toArray, List.getElem?_cons_succ, List.getElem?_cons_zero]; rfl) (fun K hK => ?_) AllReadyH.nil))
              · have p8 := (cell_of_row w8 _ 2 _ _ _ b8).trans (show _ = some (Value.slice ca cs.length ccap) from rfl)
                go_simp
                refine hK.out _ _ trivial (fun hHeld => ?_)
                clear hK K
                try simp only [Act.put, List.setIfInBounds_toArray, List.set_cons_zero, List.set_cons_succ]
                refine wpAnyH_ready (rs := [8]) (by kernel_rfl) (by simp) ?_
                refine (AllReadyH.cons (o := _) (by simp only [List.getElem?_toArray, List.getElem?_cons_succ, List.getElem?_cons_zero]; rfl) (fun K hK => ?_) AllReadyH.nil)
                go_simp
                have D9 := D8.alloc (.cells #[.int .i64 f, .int .i64 3, .int .i64 y] 92)
                have z9 := keepA (.cells #[.int .i64 f, .int .i64 3, .int .i64 y] 92) z8
                have b9 := keepA (.cells #[.int .i64 f, .int .i64 3, .int .i64 y] 92) b8
                have oc9 : OwnsC _ w1.heap.size _ cs := oc8.alloc (.cells #[.int .i64 f, .int .i64 3, .int .i64 y] 92)
                have on9 : OwnsN _ w1.heap.size _ os := on8.alloc (.cells #[.int .i64 f, .int .i64 3, .int .i64 y] 92)
                have cc9 : (w8.alloc (.cells #[.int .i64 f, .int .i64 3, .int .i64 y] 92)).cell? ⟨w8.heap.size, 0, none⟩ = some (.int .i64 f) ∧ (w8.alloc (.cells #[.int .i64 f, .int .i64 3, .int .i64 y] 92)).cell? ⟨w8.heap.size, 1, none⟩ = some (.int .i64 3) ∧ (w8.alloc (.cells #[.int .i64 f, .int .i64 3, .int .i64 y] 92)).cell? ⟨w8.heap.size, 2, none⟩ = some (.int .i64 y) := ⟨(cell_lit w8 #[.int .i64 f, .int .i64 3, .int .i64 y] 92 0).trans rfl, (cell_lit w8 #[.int .i64 f, .int .i64 3, .int .i64 y] 92 1).trans rfl, (cell_lit w8 #[.int .i64 f, .int .i64 3, .int .i64 y] 92 2).trans rfl⟩
                obtain ⟨w9, hW9⟩ : ∃ W, w8.alloc (.cells #[.int .i64 f, .int .i64 3, .int .i64 y] 92) = W := ⟨_, rfl⟩
                have hV9 : w8.alloc (.cells #[.int .i64 f, .int .i64 3, .int .i64 y] 92) = w9 := hW9
                rw [hW9]
                rw [hV9] at D9 z9 b9 oc9 on9 cc9
                clear hW9 hV9
                refine hK.out _ _ trivial (fun hHeld => ?_)
                clear hK K
                try simp only [Act.put, List.setIfInBounds_toArray, List.set_cons_zero, List.set_cons_succ]
                refine wpAnyH_ready (rs := [9]) (by kernel_rfl) (by simp) ?_
                refine (AllReadyH.cons (o := _) (by simp only [List.getElem?_toArray, List.getElem?_cons_succ, List.getElem?_cons_zero]; rfl) (fun K hK => ?_) AllReadyH.nil)
                refine step_append_cond1 rfl (.tmp 25) (.tmp 32) rfl w1.heap.size (.slice ca cs.length ccap) cs w8.heap.size f 3 y rfl rfl oc9 cc9 (by have h1 := D9.size; have h2 := (Array.getElem?_eq_some_iff.1 b9).1; have := HW1.out; omega) (by have := HCL.out; omega) ?_
                intro u10 w10 o10 g10
                obtain ⟨ub, ubc, rfl⟩ := ownsC_len o10
                have oN10 : OwnsC w10 w1.heap.size (.slice ub (cs.length + 1) ubc) (cs ++ [(f, 3, y)]) := by simpa using o10
                have bl10 := (Below.refl w1.heap.size _).grown g10 (by have h2 := (Array.getElem?_eq_some_iff.1 b9).1; have := HW1.out; omega) (fun q hq => (oc9.lt q hq).1)
                have b10 := (g10.block R (Array.getElem?_eq_some_iff.1 b9).1 (fun e => HCR.out e.symm)).trans b9
                have z10 := (g10.block w.heap.size (Array.getElem?_eq_some_iff.1 z9).1 (fun e => HCZ.out e.symm)).trans z9
                have D10 := D9.below bl10 (by have := HS1.out; omega)
                have on10 : OwnsN w10 w1.heap.size _ os := World.ownsRow.kept on9 g10 (apartN HAP.out)
                simp only [List.length_append, List.length_cons, List.length_nil, Nat.zero_add]
                refine hK.out _ _ trivial (fun hHeld => ?_)
                clear hK K
                try simp only [Act.put, List.setIfInBounds_toArray, List.set_cons_zero, List.set_cons_succ]
                refine take_runs (i := 10) (v := ?_) (by simp only [List.getElem?_toArray, List.getElem?_cons_succ, List.getElem?_cons_zero]; rfl) (by kernel_rfl) (by kernel_rfl) (by kernel_rfl) rfl (by exact fun _ _ _ h => h) (by rfl) ?_ (by assumption) ?_
                rotate_left
                · intro w hSw; (try dsimp only at hSw); go_simp; try (with_reducible rfl)
                try simp only [Act.put, List.setIfInBounds_toArray, List.set_cons_zero, List.set_cons_succ]
                have h2 := (cell_of_row w10 _ 2 _ _ _ b10).trans (show _ = some (Value.slice ca cs.length ccap) from rfl)
                have k2 := frozen_of_row w10 _ 2 _ _ b10
                refine wpAnyH_ready (rs := [11]) (by kernel_rfl) (by simp) ?_
                refine (AllReadyH.cons (o := _) (by simp only [List.getElem?_toArray, List.getElem?_cons_succ, List.getElem?_cons_zero]; rfl) (fun K hK => ?_) AllReadyH.nil)
                go_simp
                have b50 := heap_setCell_same w10 R 2 _ _ (.slice ub (cs.length + 1) ubc) b10
                have z50 := (heap_setCell_other w10 ⟨R, 2, none⟩ w.heap.size (.slice ub (cs.length + 1) ubc) (by simpa using hn2)).trans z10
                have D50 := D10.set (R := R) HR.out 2 (.slice ub (cs.length + 1) ubc)
                have oc50 : OwnsC (w10.setCell ⟨R, 2, none⟩ (.slice ub (cs.length + 1) ubc)) w1.heap.size _ _ := owns_off oN10 (owns_apart oN10 b10 (by decide)) 2 _
                have on50 : OwnsN (w10.setCell ⟨R, 2, none⟩ (.slice ub (cs.length + 1) ubc)) w1.heap.size _ os := owns_off on10 HOR.out 2 _
                refine hK.out _ _ trivial (fun hHeld => ?_)
                clear hK K
                try simp only [Act.put, List.setIfInBounds_toArray, List.set_cons_zero, List.set_cons_succ]
                refine wpAnyH_done (by kernel_rfl) ?_ _
                obtain ⟨W50, hW50⟩ : ∃ W, (w10.setCell ⟨R, 2, none⟩ (.slice ub (cs.length + 1) ubc)) = W := ⟨_, rfl⟩
                rw [hW50] at b50 z50 D50 oc50 on50 ⊢
                clear hW50 hHeld
                simp only [List.setIfInBounds_toArray, List.set_cons_zero, List.set_cons_succ] at b50
                have q0 := (cell_of_row W50 _ 0 _ _ _ b50).trans (show _ = some (Value.int .i64 id) from rfl)
                have y0 := (cell_of_row W50 _ 0 _ _ _ z50).trans (show _ = some (Value.int .i64 0) from rfl)
                have f0 := frozen_of_row W50 _ 0 _ _ z50
                have q1 := (cell_of_row W50 _ 1 _ _ _ b50).trans (show _ = some (Value.int .i64 tn) from rfl)
                have y1 := (cell_of_row W50 _ 1 _ _ _ z50).trans (show _ = some (Value.int .i64 0) from rfl)
                have f1 := frozen_of_row W50 _ 1 _ _ z50
                have q2 := (cell_of_row W50 _ 2 _ _ _ b50).trans (show _ = some (Value.slice ub (cs.length + 1) ubc) from rfl)
                have y2 := (cell_of_row W50 _ 2 _ _ _ z50).trans (show _ = some (Value.slice none 0 0) from rfl)
                have f2 := frozen_of_row W50 _ 2 _ _ z50
                have q3 := (cell_of_row W50 _ 3 _ _ _ b50).trans (show _ = some (Value.slice oa os.length ocap) from rfl)
                have y3 := (cell_of_row W50 _ 3 _ _ _ z50).trans (show _ = some (Value.slice none 0 0) from rfl)
                have f3 := frozen_of_row W50 _ 3 _ _ z50
                go_wp2
                have r1 := heap_setCell_same W50 w.heap.size 0 _ _ (.int .i64 id) z50
                have r2 := heap_setCell_same _ w.heap.size 1 _ _ (.int .i64 tn) r1
                have r3 := heap_setCell_same _ w.heap.size 2 _ _ (.slice ub (cs.length + 1) ubc) r2
                have r4 := heap_setCell_same _ w.heap.size 3 _ _ (.slice oa os.length ocap) r3
                have D99 := ((((D50.set (R := w.heap.size) (Nat.le_refl _) 0 (.int .i64 id)).set (R := w.heap.size) (Nat.le_refl _) 1 (.int .i64 tn)).set (R := w.heap.size) (Nat.le_refl _) 2 (.slice ub (cs.length + 1) ubc)).set (R := w.heap.size) (Nat.le_refl _) 3 (.slice oa os.length ocap))
                have oc99 := (ownsC_low (ownsC_low (ownsC_low (ownsC_low oc50 (b := w.heap.size) HS1.out 0 (.int .i64 id)) (b := w.heap.size) HS1.out 1 (.int .i64 tn)) (b := w.heap.size) HS1.out 2 (.slice ub (cs.length + 1) ubc)) (b := w.heap.size) HS1.out 3 (.slice oa os.length ocap))
                have on99 := (ownsN_low (ownsN_low (ownsN_low (ownsN_low on50 (b := w.heap.size) HS1.out 0 (.int .i64 id)) (b := w.heap.size) HS1.out 1 (.int .i64 tn)) (b := w.heap.size) HS1.out 2 (.slice ub (cs.length + 1) ubc)) (b := w.heap.size) HS1.out 3 (.slice oa os.length ocap))
                have e0 := cell_of_row _ _ 0 _ _ _ r4
                have e1 := cell_of_row _ _ 1 _ _ _ r4
                have e2 := cell_of_row _ _ 2 _ _ _ r4
                have e3 := cell_of_row _ _ 3 _ _ _ r4
                simp at e0 e1 e2 e3
                refine bodyPost_ret (v := qV id tn (.slice ub (cs.length + 1) ubc) (.slice oa os.length ocap)) ?_ rfl ?_
                · simp [results, Tryd.f60, go_sem, e0, e1, e2, e3, qV]
                · exact ⟨id, tn, _, _, _, _, rfl, ownsC_up oc99 (by have := HS1.out; omega), ownsN_up on99 (by have := HS1.out; omega), by have := HCL.out; simp; omega, by have := HOL.out; omega, D99⟩
              · go_simp
                have D9 := D8.alloc (.cells #[.int .i64 f, .int .i64 3, .int .i64 y] 92)
                have z9 := keepA (.cells #[.int .i64 f, .int .i64 3, .int .i64 y] 92) z8
                have b9 := keepA (.cells #[.int .i64 f, .int .i64 3, .int .i64 y] 92) b8
                have oc9 : OwnsC _ w1.heap.size _ cs := oc8.alloc (.cells #[.int .i64 f, .int .i64 3, .int .i64 y] 92)
                have on9 : OwnsN _ w1.heap.size _ os := on8.alloc (.cells #[.int .i64 f, .int .i64 3, .int .i64 y] 92)
                have cc9 : (w8.alloc (.cells #[.int .i64 f, .int .i64 3, .int .i64 y] 92)).cell? ⟨w8.heap.size, 0, none⟩ = some (.int .i64 f) ∧ (w8.alloc (.cells #[.int .i64 f, .int .i64 3, .int .i64 y] 92)).cell? ⟨w8.heap.size, 1, none⟩ = some (.int .i64 3) ∧ (w8.alloc (.cells #[.int .i64 f, .int .i64 3, .int .i64 y] 92)).cell? ⟨w8.heap.size, 2, none⟩ = some (.int .i64 y) := ⟨(cell_lit w8 #[.int .i64 f, .int .i64 3, .int .i64 y] 92 0).trans rfl, (cell_lit w8 #[.int .i64 f, .int .i64 3, .int .i64 y] 92 1).trans rfl, (cell_lit w8 #[.int .i64 f, .int .i64 3, .int .i64 y] 92 2).trans rfl⟩
                obtain ⟨w9, hW9⟩ : ∃ W, w8.alloc (.cells #[.int .i64 f, .int .i64 3, .int .i64 y] 92) = W := ⟨_, rfl⟩
                have hV9 : w8.alloc (.cells #[.int .i64 f, .int .i64 3, .int .i64 y] 92) = w9 := hW9
                rw [hW9]
                rw [hV9] at D9 z9 b9 oc9 on9 cc9
                clear hW9 hV9
                refine hK.out _ _ trivial (fun hHeld => ?_)
                clear hK K
                try simp only [Act.put, List.setIfInBounds_toArray, List.set_cons_zero, List.set_cons_succ]
                refine wpAnyH_ready (rs := [1]) (by kernel_rfl) (by simp) ?_
                refine (AllReadyH.cons (o := _) (by simp only [List.getElem?_toArray, List.getElem?_cons_succ, List.getElem?_cons_zero]; rfl) (fun K hK => ?_) AllReadyH.nil)
                have p9 := (cell_of_row w9 _ 2 _ _ _ b9).trans (show _ = some (Value.slice ca cs.length ccap) from rfl)
                go_simp
                refine hK.out _ _ trivial (fun hHeld => ?_)
                clear hK K
                try simp only [Act.put, List.setIfInBounds_toArray, List.set_cons_zero, List.set_cons_succ]
                refine wpAnyH_ready (rs := [9]) (by kernel_rfl) (by simp) ?_
                refine (AllReadyH.cons (o := _) (by simp only [List.getElem?_toArray, List.getElem?_cons_succ, List.getElem?_cons_zero]; rfl) (fun K hK => ?_) AllReadyH.nil)
                refine step_append_cond1 rfl (.tmp 25) (.tmp 32) rfl w1.heap.size (.slice ca cs.length ccap) cs w8.heap.size f 3 y rfl rfl oc9 cc9 (by have h1 := D9.size; have h2 := (Array.getElem?_eq_some_iff.1 b9).1; have := HW1.out; omega) (by have := HCL.out; omega) ?_
                intro u10 w10 o10 g10
                obtain ⟨ub, ubc, rfl⟩ := ownsC_len o10
                have oN10 : OwnsC w10 w1.heap.size (.slice ub (cs.length + 1) ubc) (cs ++ [(f, 3, y)]) := by simpa using o10
                have bl10 := (Below.refl w1.heap.size _).grown g10 (by have h2 := (Array.getElem?_eq_some_iff.1 b9).1; have := HW1.out; omega) (fun q hq => (oc9.lt q hq).1)
                have b10 := (g10.block R (Array.getElem?_eq_some_iff.1 b9).1 (fun e => HCR.out e.symm)).trans b9
                have z10 := (g10.block w.heap.size (Array.getElem?_eq_some_iff.1 z9).1 (fun e => HCZ.out e.symm)).trans z9
                have D10 := D9.below bl10 (by have := HS1.out; omega)
                have on10 : OwnsN w10 w1.heap.size _ os := World.ownsRow.kept on9 g10 (apartN HAP.out)
                simp only [List.length_append, List.length_cons, List.length_nil, Nat.zero_add]
                refine hK.out _ _ trivial (fun hHeld => ?_)
                clear hK K
                try simp only [Act.put, List.setIfInBounds_toArray, List.set_cons_zero, List.set_cons_succ]
                refine take_runs (i := 10) (v := ?_) (by simp only [List.getElem?_toArray, List.getElem?_cons_succ, List.getElem?_cons_zero]; rfl) (by kernel_rfl) (by kernel_rfl) (by kernel_rfl) rfl (by exact fun _ _ _ h => h) (by rfl) ?_ (by assumption) ?_
                rotate_left
                · intro w hSw; (try dsimp only at hSw); go_simp; try (with_reducible rfl)
                try simp only [Act.put, List.setIfInBounds_toArray, List.set_cons_zero, List.set_cons_succ]
                have h2 := (cell_of_row w10 _ 2 _ _ _ b10).trans (show _ = some (Value.slice ca cs.length ccap) from rfl)
                have k2 := frozen_of_row w10 _ 2 _ _ b10
                refine wpAnyH_ready (rs := [11]) (by kernel_rfl) (by simp) ?_
                refine (AllReadyH.cons (o := _) (by simp only [List.getElem?_toArray, List.getElem?_cons_succ, List.getElem?_cons_zero]; rfl) (fun K hK => ?_) AllReadyH.nil)
                go_simp
                have b50 := heap_setCell_same w10 R 2 _ _ (.slice ub (cs.length + 1) ubc) b10
                have z50 := (heap_setCell_other w10 ⟨R, 2, none⟩ w.heap.size (.slice ub (cs.length + 1) ubc) (by simpa using hn2)).trans z10
                have D50 := D10.set (R := R) HR.out 2 (.slice ub (cs.length + 1) ubc)
                have oc50 : OwnsC (w10.setCell ⟨R, 2, none⟩ (.slice ub (cs.length + 1) ubc)) w1.heap.size _ _ := owns_off oN10 (owns_apart oN10 b10 (by decide)) 2 _
                have on50 : OwnsN (w10.setCell ⟨R, 2, none⟩ (.slice ub (cs.length + 1) ubc)) w1.heap.size _ os := owns_off on10 HOR.out 2 _
                refine hK.out _ _ trivial (fun hHeld => ?_)
                clear hK K
                try simp only [Act.put, List.setIfInBounds_toArray, List.set_cons_zero, List.set_cons_succ]
                refine wpAnyH_done (by kernel_rfl) ?_ _
                obtain ⟨W50, hW50⟩ : ∃ W, (w10.setCell ⟨R, 2, none⟩ (.slice ub (cs.length + 1) ubc)) = W := ⟨_, rfl⟩
                rw [hW50] at b50 z50 D50 oc50 on50 ⊢
                clear hW50 hHeld
                simp only [List.setIfInBounds_toArray, List.set_cons_zero, List.set_cons_succ] at b50
                have q0 := (cell_of_row W50 _ 0 _ _ _ b50).trans (show _ = some (Value.int .i64 id) from rfl)
                have y0 := (cell_of_row W50 _ 0 _ _ _ z50).trans (show _ = some (Value.int .i64 0) from rfl)
                have f0 := frozen_of_row W50 _ 0 _ _ z50
                have q1 := (cell_of_row W50 _ 1 _ _ _ b50).trans (show _ = some (Value.int .i64 tn) from rfl)
                have y1 := (cell_of_row W50 _ 1 _ _ _ z50).trans (show _ = some (Value.int .i64 0) from rfl)
                have f1 := frozen_of_row W50 _ 1 _ _ z50
                have q2 := (cell_of_row W50 _ 2 _ _ _ b50).trans (show _ = some (Value.slice ub (cs.length + 1) ubc) from rfl)
                have y2 := (cell_of_row W50 _ 2 _ _ _ z50).trans (show _ = some (Value.slice none 0 0) from rfl)
                have f2 := frozen_of_row W50 _ 2 _ _ z50
                have q3 := (cell_of_row W50 _ 3 _ _ _ b50).trans (show _ = some (Value.slice oa os.length ocap) from rfl)
                have y3 := (cell_of_row W50 _ 3 _ _ _ z50).trans (show _ = some (Value.slice none 0 0) from rfl)
                have f3 := frozen_of_row W50 _ 3 _ _ z50
                go_wp2
                have r1 := heap_setCell_same W50 w.heap.size 0 _ _ (.int .i64 id) z50
                have r2 := heap_setCell_same _ w.heap.size 1 _ _ (.int .i64 tn) r1
                have r3 := heap_setCell_same _ w.heap.size 2 _ _ (.slice ub (cs.length + 1) ubc) r2
                have r4 := heap_setCell_same _ w.heap.size 3 _ _ (.slice oa os.length ocap) r3
                have D99 := ((((D50.set (R := w.heap.size) (Nat.le_refl _) 0 (.int .i64 id)).set (R := w.heap.size) (Nat.le_refl _) 1 (.int .i64 tn)).set (R := w.heap.size) (Nat.le_refl _) 2 (.slice ub (cs.length + 1) ubc)).set (R := w.heap.size) (Nat.le_refl _) 3 (.slice oa os.length ocap))
                have oc99 := (ownsC_low (ownsC_low (ownsC_low (ownsC_low oc50 (b := w.heap.size) HS1.out 0 (.int .i64 id)) (b := w.heap.size) HS1.out 1 (.int .i64 tn)) (b := w.heap.size) HS1.out 2 (.slice ub (cs.length + 1) ubc)) (b := w.heap.size) HS1.out 3 (.slice oa os.length ocap))
                have on99 := (ownsN_low (ownsN_low (ownsN_low (ownsN_low on50 (b := w.heap.size) HS1.out 0 (.int .i64 id)) (b := w.heap.size) HS1.out 1 (.int .i64 tn)) (b := w.heap.size) HS1.out 2 (.slice ub (cs.length + 1) ubc)) (b := w.heap.size) HS1.out 3 (.slice oa os.length ocap))
                have e0 := cell_of_row _ _ 0 _ _ _ r4
                have e1 := cell_of_row _ _ 1 _ _ _ r4
                have e2 := cell_of_row _ _ 2 _ _ _ r4
                have e3 := cell_of_row _ _ 3 _ _ _ r4
                simp at e0 e1 e2 e3
                refine bodyPost_ret (v := qV id tn (.slice ub (cs.length + 1) ubc) (.slice oa os.length ocap)) ?_ rfl ?_
                · simp [results, Tryd.f60, go_sem, e0, e1, e2, e3, qV]
                · exact ⟨id, tn, _, _, _, _, rfl, ownsC_up oc99 (by have := HS1.out; omega), ownsN_up on99 (by have := HS1.out; omega), by have := HCL.out; simp; omega, by have := HOL.out; omega, D99⟩
      · by_cases hd3 : d = 3
        · have t0 : (d == 0) = false := by rw [beq_eq_false_iff_ne]; exact hd0
          have t1 : (d == 1) = false := by rw [beq_eq_false_iff_ne]; exact hd1
          have t2 : (d == 2) = false := by rw [beq_eq_false_iff_ne]; exact hd2
          have t3 : (d == 3) = true := by rw [beq_iff_eq]; exact hd3
          clear hd0 hd1 hd2 hd3
          have D5 : Dr w0 c v xs w w4.drew := D4.below (below_drew (Below.refl w4.heap.size w4)) D4.size
          have oc5 : OwnsC w4.drew w1.heap.size _ cs := ownsC_below oc4 (below_drew (Below.refl w4.heap.size w4))
          have on5 : OwnsN w4.drew w1.heap.size _ os := ownsN_below on4 (below_drew (Below.refl w4.heap.size w4))
          have z5 : w4.drew.heap[w.heap.size]? = some _ := z4
          have b5 : w4.drew.heap[R]? = some _ := b4
          have HX5 : Hid (w4.drew = w4.drew) := Lib.hid rfl
          clear D4 z4 b4 oc4 on4
          go_wp2
          refine wp_region_held_drew (S := fun _ => True) (by kernel_rfl) trivial (fun hHeld => ?_)
          clear HX5
          obtain ⟨w5, hw5⟩ : ∃ w5, w4.drew = w5 := ⟨_, rfl⟩
          rw [hw5] at D5 oc5 on5 z5 b5 ⊢
          clear hw5
          refine take_runs (i := 0) (v := ?_) (by simp only [List.getElem?_toArray, List.getElem?_cons_succ, List.getElem?_cons_zero]; rfl) (by kernel_rfl) (by kernel_rfl) (by kernel_rfl) rfl (by exact fun _ _ _ h => h) (by rfl) ?_ (by assumption) ?_
          rotate_left
          · intro w hSw; (try dsimp only at hSw); go_simp; try (with_reducible rfl)
          try simp only [Act.put, List.setIfInBounds_toArray, List.set_cons_zero, List.set_cons_succ]
          refine take_runs (i := 2) (v := ?_) (by simp only [List.getElem?_toArray, List.getElem?_cons_succ, List.getElem?_cons_zero]; rfl) (by kernel_rfl) (by kernel_rfl) (by kernel_rfl) rfl (by exact fun _ _ _ h => h) (by rfl) ?_ (by assumption) ?_
          rotate_left
          · intro w hSw; (try dsimp only at hSw); go_simp; try (with_reducible rfl)
          try simp only [Act.put, List.setIfInBounds_toArray, List.set_cons_zero, List.set_cons_succ]
          refine wpAnyH_ready (rs := [1, 3]) (by kernel_rfl) (by simp) ?_
          refine (AllReadyH.cons (o := _) (by simp only [List.getElem?_toArray, List.getElem?_cons_succ, List.getElem?_cons_zero]; rfl) (fun K hK => ?_) (AllReadyH.cons (o := _) (by simp only [List.getElem?_toArray, List.getElem?_cons_succ, List.getElem?_cons_zero]; rfl) (fun K hK => ?_) AllReadyH.nil))
          · have p5 := (cell_of_row w5 _ 3 _ _ _ b5).trans (show _ = some (Value.slice oa os.length ocap) from rfl)
            go_simp
            refine hK.out _ _ trivial (fun hHeld => ?_)
            clear hK K
            try simp only [Act.put, List.setIfInBounds_toArray, List.set_cons_zero, List.set_cons_succ]
            refine wpAnyH_ready (rs := [3]) (by kernel_rfl) (by simp) ?_
            refine (AllReadyH.cons (o := _) (by simp only [List.getElem?_toArray, List.getElem?_cons_succ, List.getElem?_cons_zero]; rfl) (fun K hK => ?_) AllReadyH.nil)
            go_simp
            have D6 := D5.alloc (.cells (qfls.map (Value.int .i64)).toArray 3 (0, 0))
            have z6 := keepA (.cells (qfls.map (Value.int .i64)).toArray 3 (0, 0)) z5
            have b6 := keepA (.cells (qfls.map (Value.int .i64)).toArray 3 (0, 0)) b5
            have oc6 : OwnsC _ w1.heap.size _ cs := oc5.alloc (.cells (qfls.map (Value.int .i64)).toArray 3 (0, 0))
            have on6 : OwnsN _ w1.heap.size _ os := on5.alloc (.cells (qfls.map (Value.int .i64)).toArray 3 (0, 0))
            have lst6 := heap_alloc_new w5 (.cells (qfls.map (Value.int .i64)).toArray 3 (0, 0))
            have HLC : Hid (w5.heap.size ≠ c) := Lib.hid (D5.ne D5.size)
            obtain ⟨lb, hlb⟩ : ∃ lb, w5.heap.size = lb := ⟨_, rfl⟩
            rw [hlb] at lst6 HLC ⊢
            clear hlb
            obtain ⟨w6, hW6⟩ : ∃ W, w5.alloc (.cells #[.int .i64 (-1), .int .i64 0, .int .i64 3] 3) = W := ⟨_, rfl⟩
            have hV6 : w5.alloc (.cells (qfls.map (Value.int .i64)).toArray 3 (0, 0)) = w6 := hW6
            rw [hW6]
            rw [hV6] at D6 z6 b6 oc6 on6 lst6
            clear hW6 hV6
            refine hK.out _ _ trivial (fun hHeld => ?_)
            clear hK K
            try simp only [Act.put, List.setIfInBounds_toArray, List.set_cons_zero, List.set_cons_succ]
            refine wpAnyH_ready (rs := [4]) (by kernel_rfl) (by simp) ?_
            refine (AllReadyH.cons (o := _) (by simp only [List.getElem?_toArray, List.getElem?_cons_succ, List.getElem?_cons_zero]; rfl) (fun K hK => ?_) AllReadyH.nil)
            go_simp
            refine Calls.mono (pick_any w0 c v xs _ D6.cur lb qfls (-1) 3 (by decide) (by decide) (by decide) lst6 HLC.out) ?_
            rintro e w7 ⟨y, yl, yh, rfl, hC7, hg7⟩
            have D7 := D6.call hC7 hg7
            have z7 := keep hg7 (D6.ne (Nat.le_refl _)) z6
            have b7 := keep hg7 (D6.ne HR.out) b6
            have oc7 : OwnsC w7 w1.heap.size _ cs := kept_low oc6 hg7 (by have := D6.lt; have := HS1.out; omega)
            have on7 := ownsN_grown on6 hg7 (by have := D6.lt; have := HS1.out; omega)
            refine hK.out _ _ trivial (fun hHeld => ?_)
            clear hK K
            try simp only [Act.put, List.setIfInBounds_toArray, List.set_cons_zero, List.set_cons_succ]
            refine wpAnyH_ready (rs := [5]) (by kernel_rfl) (by simp) ?_
            refine (AllReadyH.cons (o := _) (by simp only [List.getElem?_toArray, List.getElem?_cons_succ, List.getElem?_cons_zero]; rfl) (fun K hK => ?_) AllReadyH.nil)
            go_simp
            have D8 := D7.alloc (.cells #[.int .i64 y] 3)
            have z8 := keepA (.cells #[.int .i64 y] 3) z7
            have b8 := keepA (.cells #[.int .i64 y] 3) b7
            have oc8 : OwnsC _ w1.heap.size _ cs := oc7.alloc (.cells #[.int .i64 y] 3)
            have on8 : OwnsN _ w1.heap.size _ os := on7.alloc (.cells #[.int .i64 y] 3)
            have cc8 : (w7.alloc (.cells #[.int .i64 y] 3)).cell? ⟨w7.heap.size, 0, none⟩ = some (.int .i64 y) := (cell_lit w7 #[.int .i64 y] 3 0).trans rfl
            obtain ⟨w8, hW8⟩ : ∃ W, w7.alloc (.cells #[.int .i64 y] 3) = W := ⟨_, rfl⟩
            have hV8 : w7.alloc (.cells #[.int .i64 y] 3) = w8 := hW8
            rw [hW8]
            rw [hV8] at D8 z8 b8 oc8 on8 cc8
            clear hW8 hV8
            refine hK.out _ _ trivial (fun hHeld => ?_)
            clear hK K
            try simp only [Act.put, List.setIfInBounds_toArray, List.set_cons_zero, List.set_cons_succ]
            refine wpAnyH_ready (rs := [6]) (by kernel_rfl) (by simp) ?_
            refine (AllReadyH.cons (o := _) (by simp only [List.getElem?_toArray, List.getElem?_cons_succ, List.getElem?_cons_zero]; rfl) (fun K hK => ?_) AllReadyH.nil)
            refine step_append_one rfl (.tmp 38) (.tmp 42) rfl w1.heap.size (.slice oa os.length ocap) os w7.heap.size y rfl rfl on8 cc8 (by have h2 := (Array.getElem?_eq_some_iff.1 b8).1; have := HW1.out; omega) (by have := HOL.out; omega) ?_
            intro u9 w9 o9 g9
            obtain ⟨ub, ubc, rfl⟩ := ints_len (ownsN_ints o9)
            have oN9 : OwnsN w9 w1.heap.size (.slice ub (os.length + 1) ubc) (os ++ [y]) := by simpa using o9
            have bl9 := (Below.refl w1.heap.size _).grown g9 (by have h2 := (Array.getElem?_eq_some_iff.1 b8).1; have := HW1.out; omega) (fun q hq => (on8.lt q hq).1)
            have b9 := (g9.block R (Array.getElem?_eq_some_iff.1 b8).1 (fun e => HOR.out e.symm)).trans b8
            have z9 := (g9.block w.heap.size (Array.getElem?_eq_some_iff.1 z8).1 (fun e => HOZ.out e.symm)).trans z8
            have D9 := D8.below bl9 (by have := HS1.out; omega)
            have oc9 : OwnsC w9 w1.heap.size _ cs := World.ownsRow.kept oc8 g9 (apartC HAP.out)
            simp only [List.length_append, List.length_cons, List.length_nil, Nat.zero_add]
            refine hK.out _ _ trivial (fun hHeld => ?_)
            clear hK K
            try simp only [Act.put, List.setIfInBounds_toArray, List.set_cons_zero, List.set_cons_succ]
            refine take_runs (i := 7) (v := ?_) (by simp only [List.getElem?_toArray, List.getElem?_cons_succ, List.getElem?_cons_zero]; rfl) (by kernel_rfl) (by kernel_rfl) (by kernel_rfl) rfl (by exact fun _ _ _ h => h) (by rfl) ?_ (by assumption) ?_
            rotate_left
            · intro w hSw; (try dsimp only at hSw); go_simp; try (with_reducible rfl)
            try simp only [Act.put, List.setIfInBounds_toArray, List.set_cons_zero, List.set_cons_succ]
            have h2 := (cell_of_row w9 _ 3 _ _ _ b9).trans (show _ = some (Value.slice oa os.length ocap) from rfl)
            have k2 := frozen_of_row w9 _ 3 _ _ b9
            refine wpAnyH_ready (rs := [8]) (by kernel_rfl) (by simp) ?_
            refine (AllReadyH.cons (o := _) (by simp only [List.getElem?_toArray, List.getElem?_cons_succ, List.getElem?_cons_zero]; rfl) (fun K hK => ?_) AllReadyH.nil)
            go_simp
            have b50 := heap_setCell_same w9 R 3 _ _ (.slice ub (os.length + 1) ubc) b9
            have z50 := (heap_setCell_other w9 ⟨R, 3, none⟩ w.heap.size (.slice ub (os.length + 1) ubc) (by simpa using hn2)).trans z9
            have D50 := D9.set (R := R) HR.out 3 (.slice ub (os.length + 1) ubc)
            have on50 : OwnsN (w9.setCell ⟨R, 3, none⟩ (.slice ub (os.length + 1) ubc)) w1.heap.size _ _ := owns_off oN9 (owns_apart oN9 b9 (by decide)) 3 _
            have oc50 : OwnsC (w9.setCell ⟨R, 3, none⟩ (.slice ub (os.length + 1) ubc)) w1.heap.size _ cs := owns_off oc9 HCR.out 3 _
            refine hK.out _ _ trivial (fun hHeld => ?_)
            clear hK K
            try simp only [Act.put, List.setIfInBounds_toArray, List.set_cons_zero, List.set_cons_succ]
            refine wpAnyH_done (by kernel_rfl) ?_ _
            obtain ⟨W50, hW50⟩ : ∃ W, (w9.setCell ⟨R, 3, none⟩ (.slice ub (os.length + 1) ubc)) = W := ⟨_, rfl⟩
            rw [hW50] at b50 z50 D50 oc50 on50 ⊢
            clear hW50 hHeld
            simp only [List.setIfInBounds_toArray, List.set_cons_zero, List.set_cons_succ] at b50
            have q0 := (cell_of_row W50 _ 0 _ _ _ b50).trans (show _ = some (Value.int .i64 id) from rfl)
            have y0 := (cell_of_row W50 _ 0 _ _ _ z50).trans (show _ = some (Value.int .i64 0) from rfl)
            have f0 := frozen_of_row W50 _ 0 _ _ z50
            have q1 := (cell_of_row W50 _ 1 _ _ _ b50).trans (show _ = some (Value.int .i64 tn) from rfl)
            have y1 := (cell_of_row W50 _ 1 _ _ _ z50).trans (show _ = some (Value.int .i64 0) from rfl)
            have f1 := frozen_of_row W50 _ 1 _ _ z50
            have q2 := (cell_of_row W50 _ 2 _ _ _ b50).trans (show _ = some (Value.slice ca cs.length ccap) from rfl)
            have y2 := (cell_of_row W50 _ 2 _ _ _ z50).trans (show _ = some (Value.slice none 0 0) from rfl)
            have f2 := frozen_of_row W50 _ 2 _ _ z50
            have q3 := (cell_of_row W50 _ 3 _ _ _ b50).trans (show _ = some (Value.slice ub (os.length + 1) ubc) from rfl)
            have y3 := (cell_of_row W50 _ 3 _ _ _ z50).trans (show _ = some (Value.slice none 0 0) from rfl)
            have f3 := frozen_of_row W50 _ 3 _ _ z50
            go_wp2
            have r1 := heap_setCell_same W50 w.heap.size 0 _ _ (.int .i64 id) z50
            have r2 := heap_setCell_same _ w.heap.size 1 _ _ (.int .i64 tn) r1
            have r3 := heap_setCell_same _ w.heap.size 2 _ _ (.slice ca cs.length ccap) r2
            have r4 := heap_setCell_same _ w.heap.size 3 _ _ (.slice ub (os.length + 1) ubc) r3
            have D99 := ((((D50.set (R := w.heap.size) (Nat.le_refl _) 0 (.int .i64 id)).set (R := w.heap.size) (Nat.le_refl _) 1 (.int .i64 tn)).set (R := w.heap.size) (Nat.le_refl _) 2 (.slice ca cs.length ccap)).set (R := w.heap.size) (Nat.le_refl _) 3 (.slice ub (os.length + 1) ubc))
            have oc99 := (ownsC_low (ownsC_low (ownsC_low (ownsC_low oc50 (b := w.heap.size) HS1.out 0 (.int .i64 id)) (b := w.heap.size) HS1.out 1 (.int .i64 tn)) (b := w.heap.size) HS1.out 2 (.slice ca cs.length ccap)) (b := w.heap.size) HS1.out 3 (.slice ub (os.length + 1) ubc))
            have on99 := (ownsN_low (ownsN_low (ownsN_low (ownsN_low on50 (b := w.heap.size) HS1.out 0 (.int .i64 id)) (b := w.heap.size) HS1.out 1 (.int .i64 tn)) (b := w.heap.size) HS1.out 2 (.slice ca cs.length ccap)) (b := w.heap.size) HS1.out 3 (.slice ub (os.length + 1) ubc))
            have e0 := cell_of_row _ _ 0 _ _ _ r4
            have e1 := cell_of_row _ _ 1 _ _ _ r4
            have e2 := cell_of_row _ _ 2 _ _ _ r4
            have e3 := cell_of_row _ _ 3 _ _ _ r4
            simp at e0 e1 e2 e3
            refine bodyPost_ret (v := qV id tn (.slice ca cs.length ccap) (.slice ub (os.length + 1) ubc)) ?_ rfl ?_
            · simp [results, Tryd.f60, go_sem, e0, e1, e2, e3, qV]
            · exact ⟨id, tn, _, _, _, _, rfl, ownsC_up oc99 (by have := HS1.out; omega), ownsN_up on99 (by have := HS1.out; omega), by have := HCL.out; omega, by have := HOL.out; simp; omega, D99⟩
          · go_simp
            have D6 := D5.alloc (.cells (qfls.map (Value.int .i64)).toArray 3 (0, 0))
            have z6 := keepA (.cells (qfls.map (Value.int .i64)).toArray 3 (0, 0)) z5
            have b6 := keepA (.cells (qfls.map (Value.int .i64)).toArray 3 (0, 0)) b5
            have oc6 : OwnsC _ w1.heap.size _ cs := oc5.alloc (.cells (qfls.map (Value.int .i64)).toArray 3 (0, 0))
            have on6 : OwnsN _ w1.heap.size _ os := on5.alloc (.cells (qfls.map (Value.int .i64)).toArray 3 (0, 0))
            have lst6 := heap_alloc_new w5 (.cells (qfls.map (Value.int .i64)).toArray 3 (0, 0))
            have HLC : Hid (w5.heap.size ≠ c) := Lib.hid (D5.ne D5.size)
            obtain ⟨lb, hlb⟩ : ∃ lb, w5.heap.size = lb := ⟨_, rfl⟩
            rw [hlb] at lst6 HLC ⊢
            clear hlb
            obtain ⟨w6, hW6⟩ : ∃ W, w5.alloc (.cells #[.int .i64 (-1), .int .i64 0, .int .i64 3] 3) = W := ⟨_, rfl⟩
            have hV6 : w5.alloc (.cells (qfls.map (Value.int .i64)).toArray 3 (0, 0)) = w6 := hW6
            rw [hW6]
            rw [hV6] at D6 z6 b6 oc6 on6 lst6
            clear hW6 hV6
            refine hK.out _ _ trivial (fun hHeld => ?_)
            clear hK K
            try simp only [Act.put, List.setIfInBounds_toArray, List.set_cons_zero, List.set_cons_succ]
            refine wpAnyH_ready (rs := [1, 4]) (by kernel_rfl) (by simp) ?_
            refine (AllReadyH.cons (o := _) (by simp only [List.getElem?_toArray, List.getElem?_cons_succ, List.getElem?_cons_zero]; rfl) (fun K hK => ?_) (AllReadyH.cons (o := _) (by simp only [List.getElem?_toArray, List.getElem?_cons_succ, List.getElem?_cons_zero]; rfl) (fun K hK => ?_) AllReadyH.nil))
            · have p6 := (cell_of_row w6 _ 3 _ _ _ b6).trans (show _ = some (Value.slice oa os.length ocap) from rfl)
              go_simp
              refine hK.out _ _ trivial (fun hHeld => ?_)
              clear hK K
              try simp only [Act.put, List.setIfInBounds_toArray, List.set_cons_zero, List.set_cons_succ]
              refine wpAnyH_ready (rs := [4]) (by kernel_rfl) (by simp) ?_
              refine (AllReadyH.cons (o := _) (by simp only [List.getElem?_toArray, List.getElem?_cons_succ, List.getElem?_cons_zero]; rfl) (fun K hK => ?_) AllReadyH.nil)
              go_simp
              refine Calls.mono (pick_any w0 c v xs _ D6.cur lb qfls (-1) 3 (by decide) (by decide) (by decide) lst6 HLC.out) ?_
              rintro e w7 ⟨y, yl, yh, rfl, hC7, hg7⟩
              have D7 := D6.call hC7 hg7
              have z7 := keep hg7 (D6.ne (Nat.le_refl _)) z6
              have b7 := keep hg7 (D6.ne HR.out) b6
              have oc7 : OwnsC w7 w1.heap.size _ cs := kept_low oc6 hg7 (by have := D6.lt; have := HS1.out; omega)
              have on7 := ownsN_grown on6 hg7 (by have := D6.lt; have := HS1.out; omega)
              refine hK.out _ _ trivial (fun hHeld => ?_)
              clear hK K
              try simp only [Act.put, List.setIfInBounds_toArray, List.set_cons_zero, List.set_cons_succ]
              refine wpAnyH_ready (rs := [5]) (by kernel_rfl) (by simp) ?_
              refine (AllReadyH.cons (o := _) (by simp only [List.getElem?_toArray, List.getElem?_cons_succ, List.getElem?_cons_zero]; rfl) (fun K hK => ?_) AllReadyH.nil)
              go_simp
              have D8 := D7.alloc (.cells #[.int .i64 y] 3)
              have z8 := keepA (.cells #[.int .i64 y] 3) z7
              have b8 := keepA (.cells #[.int .i64 y] 3) b7
              have oc8 : OwnsC _ w1.heap.size _ cs := oc7.alloc (.cells #[.int .i64 y] 3)
              have on8 : OwnsN _ w1.heap.size _ os := on7.alloc (.cells #[.int .i64 y] 3)
              have cc8 : (w7.alloc (.cells #[.int .i64 y] 3)).cell? ⟨w7.heap.size, 0, none⟩ = some (.int .i64 y) := (cell_lit w7 #[.int .i64 y] 3 0).trans rfl
              obtain ⟨w8, hW8⟩ : ∃ W, w7.alloc (.cells #[.int .i64 y] 3) = W := ⟨_, rfl⟩
              have hV8 : w7.alloc (.cells #[.int .i64 y] 3) = w8 := hW8
              rw [hW8]
              rw [hV8] at D8 z8 b8 oc8 on8 cc8
              clear hW8 hV8
              refine hK.out _ _ trivial (fun hHeld => ?_)
              clear hK K
              try simp only [Act.put, List.setIfInBounds_toArray, List.set_cons_zero, List.set_cons_succ]
              refine wpAnyH_ready (rs := [6]) (by kernel_rfl) (by simp) ?_
              refine (AllReadyH.cons (o := _) (by simp only [List.getElem?_toArray, List.getElem?_cons_succ, List.getElem?_cons_zero]; rfl) (fun K hK => ?_) AllReadyH.nil)
              refine step_append_one rfl (.tmp 38) (.tmp 42) rfl w1.heap.size (.slice oa os.length ocap) os w7.heap.size y rfl rfl on8 cc8 (by have h2 := (Array.getElem?_eq_some_iff.1 b8).1; have := HW1.out; omega) (by have := HOL.out; omega) ?_
              intro u9 w9 o9 g9
              obtain ⟨ub, ubc, rfl⟩ := ints_len (ownsN_ints o9)
              have oN9 : OwnsN w9 w1.heap.size (.slice ub (os.length + 1) ubc) (os ++ [y]) := by simpa using o9
              have bl9 := (Below.refl w1.heap.size _).grown g9 (by have h2 := (Array.getElem?_eq_some_iff.1 b8).1; have := HW1.out; omega) (fun q hq => (on8.lt q hq).1)
              have b9 := (g9.block R (Array.getElem?_eq_some_iff.1 b8).1 (fun e => HOR.out e.symm)).trans b8
              have z9 := (g9.block w.heap.size (Array.getElem?_eq_some_iff.1 z8).1 (fun e => HOZ.out e.symm)).trans z8
              have D9 := D8.below bl9 (by have := HS1.out; omega)
              have oc9 : OwnsC w9 w1.heap.size _ cs := World.ownsRow.kept oc8 g9 (apartC HAP.out)
              simp only [List.length_append, List.length_cons, List.length_nil, Nat.zero_add]
              refine hK.out _ _ trivial (fun hHeld => ?_)
              clear hK K
              try simp only [Act.put, List.setIfInBounds_toArray, List.set_cons_zero, List.set_cons_succ]
              refine take_runs (i := 7) (v := ?_) (by simp only [List.getElem?_toArray, List.getElem?_cons_succ, List.getElem?_cons_zero]; rfl) (by kernel_rfl) (by kernel_rfl) (by kernel_rfl) rfl (by exact fun _ _ _ h => h) (by rfl) ?_ (by assumption) ?_
              rotate_left
              · intro w hSw; (try dsimp only at hSw); go_simp; try (with_reducible rfl)
              try simp only [Act.put, List.setIfInBounds_toArray, List.set_cons_zero, List.set_cons_succ]
              have h2 := (cell_of_row w9 _ 3 _ _ _ b9).trans (show _ = some (Value.slice oa os.length ocap) from rfl)
              have k2 := frozen_of_row w9 _ 3 _ _ b9
              refine wpAnyH_ready (rs := [8]) (by kernel_rfl) (by simp) ?_
              refine (AllReadyH.cons (o := _) (by simp only [List.getElem?_toArray, List.getElem?_cons_succ, List.getElem?_cons_zero]; rfl) (fun K hK => ?_) AllReadyH.nil)
              go_simp
              have b50 := heap_setCell_same w9 R 3 _ _ (.slice ub (os.length + 1) ubc) b9
              have z50 := (heap_setCell_other w9 ⟨R, 3, none⟩ w.heap.size (.slice ub (os.length + 1) ubc) (by simpa using hn2)).trans z9
              have D50 := D9.set (R := R) HR.out 3 (.slice ub (os.length + 1) ubc)
              have on50 : OwnsN (w9.setCell ⟨R, 3, none⟩ (.slice ub (os.length + 1) ubc)) w1.heap.size _ _ := owns_off oN9 (owns_apart oN9 b9 (by decide)) 3 _
              have oc50 : OwnsC (w9.setCell ⟨R, 3, none⟩ (.slice ub (os.length + 1) ubc)) w1.heap.size _ cs := owns_off oc9 HCR.out 3 _
              refine hK.out _ _ trivial (fun hHeld => ?_)
              clear hK K
              try simp only [Act.put, List.setIfInBounds_toArray, List.set_cons_zero, List.set_cons_succ]
              refine wpAnyH_done (by kernel_rfl) ?_ _
              obtain ⟨W50, hW50⟩ : ∃ W, (w9.setCell ⟨R, 3, none⟩ (.slice ub (os.length + 1) ubc)) = W := ⟨_, rfl⟩
              rw [hW50] at b50 z50 D50 oc50 on50 ⊢
              clear hW50 hHeld
              simp only [List.setIfInBounds_toArray, List.set_cons_zero, List.set_cons_succ] at b50
              have q0 := (cell_of_row W50 _ 0 _ _ _ b50).trans (show _ = some (Value.int .i64 id) from rfl)
              have y0 := (cell_of_row W50 _ 0 _ _ _ z50).trans (show _ = some (Value.int .i64 0) from rfl)
              have f0 := frozen_of_row W50 _ 0 _ _ z50
              have q1 := (cell_of_row W50 _ 1 _ _ _ b50).trans (show _ = some (Value.int .i64 tn) from rfl)
              have y1 := (cell_of_row W50 _ 1 _ _ _ z50).trans (show _ = some (Value.int .i64 0) from rfl)
              have f1 := frozen_of_row W50 _ 1 _ _ z50
              have q2 := (cell_of_row W50 _ 2 _ _ _ b50).trans (show _ = some (Value.slice ca cs.length ccap) from rfl)
              have y2 := (cell_of_row W50 _ 2 _ _ _ z50).trans (show _ = some (Value.slice none 0 0) from rfl)
              have f2 := frozen_of_row W50 _ 2 _ _ z50
              have q3 := (cell_of_row W50 _ 3 _ _ _ b50).trans (show _ = some (Value.slice ub (os.length + 1) ubc) from rfl)
              have y3 := (cell_of_row W50 _ 3 _ _ _ z50).trans (show _ = some (Value.slice none 0 0) from rfl)
              have f3 := frozen_of_row W50 _ 3 _ _ z50
              go_wp2
              have r1 := heap_setCell_same W50 w.heap.size 0 _ _ (.int .i64 id) z50
              have r2 := heap_setCell_same _ w.heap.size 1 _ _ (.int .i64 tn) r1
              have r3 := heap_setCell_same _ w.heap.size 2 _ _ (.slice ca cs.length ccap) r2
              have r4 := heap_setCell_same _ w.heap.size 3 _ _ (.slice ub (os.length + 1) ubc) r3
              have D99 := ((((D50.set (R := w.heap.size) (Nat.le_refl _) 0 (.int .i64 id)).set (R := w.heap.size) (Nat.le_refl _) 1 (.int .i64 tn)).set (R := w.heap.size) (Nat.le_refl _) 2 (.slice ca cs.length ccap)).set (R := w.heap.size) (Nat.le_refl _) 3 (.slice ub (os.length + 1) ubc))
              have oc99 := (ownsC_low (ownsC_low (ownsC_low (ownsC_low oc50 (b := w.heap.size) HS1.out 0 (.int .i64 id)) (b := w.heap.size) HS1.out 1 (.int .i64 tn)) (b := w.heap.size) HS1.out 2 (.slice ca cs.length ccap)) (b := w.heap.size) HS1.out 3 (.slice ub (os.length + 1) ubc))
              have on99 := (ownsN_low (ownsN_low (ownsN_low (ownsN_low on50 (b := w.heap.size) HS1.out 0 (.int .i64 id)) (b := w.heap.size) HS1.out 1 (.int .i64 tn)) (b := w.heap.size) HS1.out 2 (.slice ca cs.length ccap)) (b := w.heap.size) HS1.out 3 (.slice ub (os.length + 1) ubc))
              have e0 := cell_of_row _ _ 0 _ _ _ r4
              have e1 := cell_of_row _ _ 1 _ _ _ r4
              have e2 := cell_of_row _ _ 2 _ _ _ r4
              have e3 := cell_of_row _ _ 3 _ _ _ r4
              simp at e0 e1 e2 e3
              refine bodyPost_ret (v := qV id tn (.slice ca cs.length ccap) (.slice ub (os.length + 1) ubc)) ?_ rfl ?_
              · simp [results, Tryd.f60, go_sem, e0, e1, e2, e3, qV]
              · exact ⟨id, tn, _, _, _, _, rfl, ownsC_up oc99 (by have := HS1.out; omega), ownsN_up on99 (by have := HS1.out; omega), by have := HCL.out; omega, by have := HOL.out; simp; omega, D99⟩
            · go_simp
              refine Calls.mono (pick_any w0 c v xs _ D6.cur lb qfls (-1) 3 (by decide) (by decide) (by decide) lst6 HLC.out) ?_
              rintro e w7 ⟨y, yl, yh, rfl, hC7, hg7⟩
              have D7 := D6.call hC7 hg7
              have z7 := keep hg7 (D6.ne (Nat.le_refl _)) z6
              have b7 := keep hg7 (D6.ne HR.out) b6
              have oc7 : OwnsC w7 w1.heap.size _ cs := kept_low oc6 hg7 (by have := D6.lt; have := HS1.out; omega)
              have on7 := ownsN_grown on6 hg7 (by have := D6.lt; have := HS1.out; omega)
              refine hK.out _ _ trivial (fun hHeld => ?_)
              clear hK K
              try simp only [Act.put, List.setIfInBounds_toArray, List.set_cons_zero, List.set_cons_succ]
              refine wpAnyH_ready (rs := [1, 5]) (by kernel_rfl) (by simp) ?_
              refine (AllReadyH.cons (o := _) (by simp only [List.getElem?_toArray, List.getElem?_cons_succ, List.getElem?_cons_zero]; rfl) (fun K hK => ?_) (AllReadyH.cons (o := _) (by simp only [List.getElem?_toArray, List.getElem?_cons_succ, List.getElem?_cons_zero]; rfl) (fun K hK => ?_) AllReadyH.nil))
              · have p7 := (cell_of_row w7 _ 3 _ _ _ b7).trans (show _ = some (Value.slice oa os.length ocap) from rfl)
                go_simp
                refine hK.out _ _ trivial (fun hHeld => ?_)
                clear hK K
                try simp only [Act.put, List.setIfInBounds_toArray, List.set_cons_zero, List.set_cons_succ]
                refine wpAnyH_ready (rs := [5]) (by kernel_rfl) (by simp) ?_
                refine (AllReadyH.cons (o := _) (by simp only [List.getElem?_toArray, List.getElem?_cons_succ, List.getElem?_cons_zero]; rfl) (fun K hK => ?_) AllReadyH.nil)
                go_simp
                have D8 := D7.alloc (.cells #[.int .i64 y] 3)
                have z8 := keepA (.cells #[.int .i64 y] 3) z7
                have b8 := keepA (.cells #[.int .i64 y] 3) b7
                have oc8 : OwnsC _ w1.heap.size _ cs := oc7.alloc (.cells #[.int .i64 y] 3)
                have on8 : OwnsN _ w1.heap.size _ os := on7.alloc (.cells #[.int .i64 y] 3)
                have cc8 : (w7.alloc (.cells #[.int .i64 y] 3)).cell? ⟨w7.heap.size, 0, none⟩ = some (.int .i64 y) := (cell_lit w7 #[.int .i64 y] 3 0).trans rfl
                obtain ⟨w8, hW8⟩ : ∃ W, w7.alloc (.cells #[.int .i64 y] 3) = W := ⟨_, rfl⟩
                have hV8 : w7.alloc (.cells #[.int .i64 y] 3) = w8 := hW8
                rw [hW8]
                rw [hV8] at D8 z8 b8 oc8 on8 cc8
                clear hW8 hV8
                refine hK.out _ _ trivial (fun hHeld => ?_)
                clear hK K
                try simp only [Act.put, List.setIfInBounds_toArray, List.set_cons_zero, List.set_cons_succ]
                refine wpAnyH_ready (rs := [6]) (by kernel_rfl) (by simp) ?_
                refine (AllReadyH.cons (o := _) (by simp only [List.getElem?_toArray, List.getElem?_cons_succ, List.getElem?_cons_zero]; rfl) (fun K hK => ?_) AllReadyH.nil)
                refine step_append_one rfl (.tmp 38) (.tmp 42) rfl w1.heap.size (.slice oa os.length ocap) os w7.heap.size y rfl rfl on8 cc8 (by have h2 := (Array.getElem?_eq_some_iff.1 b8).1; have := HW1.out; omega) (by have := HOL.out; omega) ?_
                intro u9 w9 o9 g9
                obtain ⟨ub, ubc, rfl⟩ := ints_len (ownsN_ints o9)
                have oN9 : OwnsN w9 w1.heap.size (.slice ub (os.length + 1) ubc) (os ++ [y]) := by simpa using o9
                have bl9 := (Below.refl w1.heap.size _).grown g9 (by have h2 := (Array.getElem?_eq_some_iff.1 b8).1; have := HW1.out; omega) (fun q hq => (on8.lt q hq).1)
                have b9 := (g9.block R (Array.getElem?_eq_some_iff.1 b8).1 (fun e => HOR.out e.symm)).trans b8
                have z9 := (g9.block w.heap.size (Array.getElem?_eq_some_iff.1 z8).1 (fun e => HOZ.out e.symm)).trans z8
                have D9 := D8.below bl9 (by have := HS1.out; omega)
                have oc9 : OwnsC w9 w1.heap.size _ cs := World.ownsRow.kept oc8 g9 (apartC HAP.out)
                simp only [List.length_append, List.length_cons, List.length_nil, Nat.zero_add]
                refine hK.out _ _ trivial (fun hHeld => ?_)
                clear hK K
                try simp only [Act.put, List.setIfInBounds_toArray, List.set_cons_zero, List.set_cons_succ]
                refine take_runs (i := 7) (v := ?_) (by simp only [List.getElem?_toArray, List.getElem?_cons_succ, List.getElem?_cons_zero]; rfl) (by kernel_rfl) (by kernel_rfl) (by kernel_rfl) rfl (by exact fun _ _ _ h => h) (by rfl) ?_ (by assumption) ?_
                rotate_left
                · intro w hSw; (try dsimp only at hSw); go_simp; try (with_reducible rfl)
                try simp only [Act.put, List.setIfInBounds_toArray, List.set_cons_zero, List.set_cons_succ]
                have h2 := (cell_of_row w9 _ 3 _ _ _ b9).trans (show _ = some (Value.slice oa os.length ocap) from rfl)
                have k2 := frozen_of_row w9 _ 3 _ _ b9
                refine wpAnyH_ready (rs := [8]) (by kernel_rfl) (by simp) ?_
                refine (AllReadyH.cons (o := _) (by simp only [List.getElem?_toArray, List.getElem?_cons_succ, List.getElem?_cons_zero]; rfl) (fun K hK => ?_) AllReadyH.nil)
                go_simp
                have b50 := heap_setCell_same w9 R 3 _ _ (.slice ub (os.length + 1) ubc) b9
                have z50 := (heap_setCell_other w9 ⟨R, 3, none⟩ w.heap.size (.slice ub (os.length + 1) ubc) (by simpa using hn2)).trans z9
                have D50 := D9.set (R := R) HR.out 3 (.slice ub (os.length + 1) ubc)
                have on50 : OwnsN (w9.setCell ⟨R, 3, none⟩ (.slice ub (os.length + 1) ubc)) w1.heap.size _ _ := owns_off oN9 (owns_apart oN9 b9 (by decide)) 3 _
                have oc50 : OwnsC (w9.setCell ⟨R, 3, none⟩ (.slice ub (os.length + 1) ubc)) w1.heap.size _ cs := owns_off oc9 HCR.out 3 _
                refine hK.out _ _ trivial (fun hHeld => ?_)
                clear hK K
                try simp only [Act.put, List.setIfInBounds_toArray, List.set_cons_zero, List.set_cons_succ]
                refine wpAnyH_done (by kernel_rfl) ?_ _
                obtain ⟨W50, hW50⟩ : ∃ W, (w9.setCell ⟨R, 3, none⟩ (.slice ub (os.length + 1) ubc)) = W := ⟨_, rfl⟩
                rw [hW50] at b50 z50 D50 oc50 on50 ⊢
                clear hW50 hHeld
                simp only [List.setIfInBounds_toArray, List.set_cons_zero, List.set_cons_succ] at b50
                have q0 := (cell_of_row W50 _ 0 _ _ _ b50).trans (show _ = some (Value.int .i64 id) from rfl)
                have y0 := (cell_of_row W50 _ 0 _ _ _ z50).trans (show _ = some (Value.int .i64 0) from rfl)
                have f0 := frozen_of_row W50 _ 0 _ _ z50
                have q1 := (cell_of_row W50 _ 1 _ _ _ b50).trans (show _ = some (Value.int .i64 tn) from rfl)
                have y1 := (cell_of_row W50 _ 1 _ _ _ z50).trans (show _ = some (Value.int .i64 0) from rfl)
                have f1 := frozen_of_row W50 _ 1 _ _ z50
                have q2 := (cell_of_row W50 _ 2 _ _ _ b50).trans (show _ = some (Value.slice ca cs.length ccap) from rfl)
                have y2 := (cell_of_row W50 _ 2 _ _ _ z50).trans (show _ = some (Value.slice none 0 0) from rfl)
                have f2 := frozen_of_row W50 _ 2 _ _ z50
                have q3 := (cell_of_row W50 _ 3 _ _ _ b50).trans (show _ = some (Value.slice ub (os.length + 1) ubc) from rfl)
                have y3 := (cell_of_row W50 _ 3 _ _ _ z50).trans (show _ = some (Value.slice none 0 0) from rfl)
                have f3 := frozen_of_row W50 _ 3 _ _ z50
                go_wp2
                have r1 := heap_setCell_same W50 w.heap.size 0 _ _ (.int .i64 id) z50
                have r2 := heap_setCell_same _ w.heap.size 1 _ _ (.int .i64 tn) r1
                have r3 := heap_setCell_same _ w.heap.size 2 _ _ (.slice ca cs.length ccap) r2
                have r4 := heap_setCell_same _ w.heap.size 3 _ _ (.slice ub (os.length + 1) ubc) r3
                have D99 := ((((D50.set (R := w.heap.size) (Nat.le_refl _) 0 (.int .i64 id)).set (R := w.heap.size) (Nat.le_refl _) 1 (.int .i64 tn)).set (R := w.heap.size) (Nat.le_refl _) 2 (.slice ca cs.length ccap)).set (R := w.heap.size) (Nat.le_refl _) 3 (.slice ub (os.length + 1) ubc))
                have oc99 := (ownsC_low (ownsC_low (ownsC_low (ownsC_low oc50 (b := w.heap.size) HS1.out 0 (.int .i64 id)) (b := w.heap.size) HS1.out 1 (.int .i64 tn)) (b := w.heap.size) HS1.out 2 (.slice ca cs.length ccap)) (b := w.heap.size) HS1.out 3 (.slice ub (os.length + 1) ubc))
                have on99 := (ownsN_low (ownsN_low (ownsN_low (ownsN_low on50 (b := w.heap.size) HS1.out 0 (.int .i64 id)) (b := w.heap.size) HS1.out 1 (.int .i64 tn)) (b := w.heap.size) HS1.out 2 (.slice ca cs.length ccap)) (b := w.heap.size) HS1.out 3 (.slice ub (os.length + 1) ubc))
                have e0 := cell_of_row _ _ 0 _ _ _ r4
                have e1 := cell_of_row _ _ 1 _ _ _ r4
                have e2 := cell_of_row _ _ 2 _ _ _ r4
                have e3 := cell_of_row _ _ 3 _ _ _ r4
                simp at e0 e1 e2 e3
                refine bodyPost_ret (v := qV id tn (.slice ca cs.length ccap) (.slice ub (os.length + 1) ubc)) ?_ rfl ?_
                · simp [results, Tryd.f60, go_sem, e0, e1, e2, e3, qV]
                · exact ⟨id, tn, _, _, _, _, rfl, ownsC_up oc99 (by have := HS1.out; omega), ownsN_up on99 (by have := HS1.out; omega), by have := HCL.out; omega, by have := HOL.out; simp; omega, D99⟩
              · go_simp
                have D8 := D7.alloc (.cells #[.int .i64 y] 3)
                have z8 := keepA (.cells #[.int .i64 y] 3) z7
                have b8 := keepA (.cells #[.int .i64 y] 3) b7
                have oc8 : OwnsC _ w1.heap.size _ cs := oc7.alloc (.cells #[.int .i64 y] 3)
                have on8 : OwnsN _ w1.heap.size _ os := on7.alloc (.cells #[.int .i64 y] 3)
                have cc8 : (w7.alloc (.cells #[.int .i64 y] 3)).cell? ⟨w7.heap.size, 0, none⟩ = some (.int .i64 y) := (cell_lit w7 #[.int .i64 y] 3 0).trans rfl
                obtain ⟨w8, hW8⟩ : ∃ W, w7.alloc (.cells #[.int .i64 y] 3) = W := ⟨_, rfl⟩
                have hV8 : w7.alloc (.cells #[.int .i64 y] 3) = w8 := hW8
                rw [hW8]
                rw [hV8] at D8 z8 b8 oc8 on8 cc8
                clear hW8 hV8
                refine hK.out _ _ trivial (fun hHeld => ?_)
                clear hK K
                try simp only [Act.put, List.setIfInBounds_toArray, List.set_cons_zero, List.set_cons_succ]
                refine wpAnyH_ready (rs := [1]) (by kernel_rfl) (by simp) ?_
                refine (AllReadyH.cons (o := _) (by simp only [List.getElem?_toArray, List.getElem?_cons_succ, List.getElem?_cons_zero]; rfl) (fun K hK => ?_) AllReadyH.nil)
                have p8 := (cell_of_row w8 _ 3 _ _ _ b8).trans (show _ = some (Value.slice oa os.length ocap) from rfl)
                go_simp
                refine hK.out _ _ trivial (fun hHeld => ?_)
                clear hK K
                try simp only [Act.put, List.setIfInBounds_toArray, List.set_cons_zero, List.set_cons_succ]
                refine wpAnyH_ready (rs := [6]) (by kernel_rfl) (by simp) ?_
                refine (AllReadyH.cons (o := _) (by simp only [List.getElem?_toArray, List.getElem?_cons_succ, List.getElem?_cons_zero]; rfl) (fun K hK => ?_) AllReadyH.nil)
                refine step_append_one rfl (.tmp 38) (.tmp 42) rfl w1.heap.size (.slice oa os.length ocap) os w7.heap.size y rfl rfl on8 cc8 (by have h2 := (Array.getElem?_eq_some_iff.1 b8).1; have := HW1.out; omega) (by have := HOL.out; omega) ?_
                intro u9 w9 o9 g9
                obtain ⟨ub, ubc, rfl⟩ := ints_len (ownsN_ints o9)
                have oN9 : OwnsN w9 w1.heap.size (.slice ub (os.length + 1) ubc) (os ++ [y]) := by simpa using o9
                have bl9 := (Below.refl w1.heap.size _).grown g9 (by have h2 := (Array.getElem?_eq_some_iff.1 b8).1; have := HW1.out; omega) (fun q hq => (on8.lt q hq).1)
                have b9 := (g9.block R (Array.getElem?_eq_some_iff.1 b8).1 (fun e => HOR.out e.symm)).trans b8
                have z9 := (g9.block w.heap.size (Array.getElem?_eq_some_iff.1 z8).1 (fun e => HOZ.out e.symm)).trans z8
                have D9 := D8.below bl9 (by have := HS1.out; omega)
                have oc9 : OwnsC w9 w1.heap.size _ cs := World.ownsRow.kept oc8 g9 (apartC HAP.out)
                simp only [List.length_append, List.length_cons, List.length_nil, Nat.zero_add]
                refine hK.out _ _ trivial (fun hHeld => ?_)
                clear hK K
                try simp only [Act.put, List.setIfInBounds_toArray, List.set_cons_zero, List.set_cons_succ]
                refine take_runs (i := 7) (v := ?_) (by simp only [List.getElem?_toArray, List.getElem?_cons_succ, List.getElem?_cons_zero]; rfl) (by kernel_rfl) (by kernel_rfl) (by kernel_rfl) rfl (by exact fun _ _ _ h => h) (by rfl) ?_ (by assumption) ?_
                rotate_left
                · intro w hSw; (try dsimp only at hSw); go_simp; try (with_reducible rfl)
                try simp only [Act.put, List.setIfInBounds_toArray, List.set_cons_zero, List.set_cons_succ]
                have h2 := (cell_of_row w9 _ 3 _ _ _ b9).trans (show _ = some (Value.slice oa os.length ocap) from rfl)
                have k2 := frozen_of_row w9 _ 3 _ _ b9
                refine wpAnyH_ready (rs := [8]) (by kernel_rfl) (by simp) ?_
                refine (AllReadyH.cons (o := _) (by simp only [List.getElem?_toArray, List.getElem?_cons_succ, List.getElem?_cons_zero]; rfl) (fun K hK => ?_) AllReadyH.nil)
                go_simp
                have b50 := heap_setCell_same w9 R 3 _ _ (.slice ub (os.length + 1) ubc) b9
                have z50 := (heap_setCell_other w9 ⟨R, 3, none⟩ w.heap.size (.slice ub (os.length + 1) ubc) (by simpa using hn2)).trans z9
                have D50 := D9.set (R := R) HR.out 3 (.slice ub (os.length + 1) ubc)
                have on50 : OwnsN (w9.setCell ⟨R, 3, none⟩ (.slice ub (os.length + 1) ubc)) w1.heap.size _ _ := owns_off oN9 (owns_apart oN9 b9 (by decide)) 3 _
                have oc50 : OwnsC (w9.setCell ⟨R, 3, none⟩ (.slice ub (os.length + 1) ubc)) w1.heap.size _ cs := owns_off oc9 HCR.out 3 _
                refine hK.out _ _ trivial (fun hHeld => ?_)
                clear hK K
                try simp only [Act.put, List.setIfInBounds_toArray, List.set_cons_zero, List.set_cons_succ]
                refine wpAnyH_done (by kernel_rfl) ?_ _
                obtain ⟨W50, hW50⟩ : ∃ W, (w9.setCell ⟨R, 3, none⟩ (.slice ub (os.length + 1) ubc)) = W := ⟨_, rfl⟩
                rw [hW50] at b50 z50 D50 oc50 on50 ⊢
                clear hW50 hHeld
                simp only [List.setIfInBounds_toArray, List.set_cons_zero, List.set_cons_succ] at b50
                have q0 := (cell_of_row W50 _ 0 _ _ _ b50).trans (show _ = some (Value.int .i64 id) from rfl)
                have y0 := (cell_of_row W50 _ 0 _ _ _ z50).trans (show _ = some (Value.int .i64 0) from rfl)
                have f0 := frozen_of_row W50 _ 0 _ _ z50
                have q1 := (cell_of_row W50 _ 1 _ _ _ b50).trans (show _ = some (Value.int .i64 tn) from rfl)
                have y1 := (cell_of_row W50 _ 1 _ _ _ z50).trans (show _ = some (Value.int .i64 0) from rfl)
                have f1 := frozen_of_row W50 _ 1 _ _ z50
                have q2 := (cell_of_row W50 _ 2 _ _ _ b50).trans (show _ = some (Value.slice ca cs.length ccap) from rfl)
                have y2 := (cell_of_row W50 _ 2 _ _ _ z50).trans (show _ = some (Value.slice none 0 0) from rfl)
                have f2 := frozen_of_row W50 _ 2 _ _ z50
                have q3 := (cell_of_row W50 _ 3 _ _ _ b50).trans (show _ = some (Value.slice ub (os.length + 1) ubc) from rfl)
                have y3 := (cell_of_row W50 _ 3 _ _ _ z50).trans (show _ = some (Value.slice none 0 0) from rfl)
                have f3 := frozen_of_row W50 _ 3 _ _ z50
                go_wp2
                have r1 := heap_setCell_same W50 w.heap.size 0 _ _ (.int .i64 id) z50
                have r2 := heap_setCell_same _ w.heap.size 1 _ _ (.int .i64 tn) r1
                have r3 := heap_setCell_same _ w.heap.size 2 _ _ (.slice ca cs.length ccap) r2
                have r4 := heap_setCell_same _ w.heap.size 3 _ _ (.slice ub (os.length + 1) ubc) r3
                have D99 := ((((D50.set (R := w.heap.size) (Nat.le_refl _) 0 (.int .i64 id)).set (R := w.heap.size) (Nat.le_refl _) 1 (.int .i64 tn)).set (R := w.heap.size) (Nat.le_refl _) 2 (.slice ca cs.length ccap)).set (R := w.heap.size) (Nat.le_refl _) 3 (.slice ub (os.length + 1) ubc))
                have oc99 := (ownsC_low (ownsC_low (ownsC_low (ownsC_low oc50 (b := w.heap.size) HS1.out 0 (.int .i64 id)) (b := w.heap.size) HS1.out 1 (.int .i64 tn)) (b := w.heap.size) HS1.out 2 (.slice ca cs.length ccap)) (b := w.heap.size) HS1.out 3 (.slice ub (os.length + 1) ubc))
                have on99 := (ownsN_low (ownsN_low (ownsN_low (ownsN_low on50 (b := w.heap.size) HS1.out 0 (.int .i64 id)) (b := w.heap.size) HS1.out 1 (.int .i64 tn)) (b := w.heap.size) HS1.out 2 (.slice ca cs.length ccap)) (b := w.heap.size) HS1.out 3 (.slice ub (os.length + 1) ubc))
                have e0 := cell_of_row _ _ 0 _ _ _ r4
                have e1 := cell_of_row _ _ 1 _ _ _ r4
                have e2 := cell_of_row _ _ 2 _ _ _ r4
                have e3 := cell_of_row _ _ 3 _ _ _ r4
                simp at e0 e1 e2 e3
                refine bodyPost_ret (v := qV id tn (.slice ca cs.length ccap) (.slice ub (os.length + 1) ubc)) ?_ rfl ?_
                · simp [results, Tryd.f60, go_sem, e0, e1, e2, e3, qV]
                · exact ⟨id, tn, _, _, _, _, rfl, ownsC_up oc99 (by have := HS1.out; omega), ownsN_up on99 (by have := HS1.out; omega), by have := HCL.out; omega, by have := HOL.out; simp; omega, D99⟩
        · have t0 : (d == 0) = false := by rw [beq_eq_false_iff_ne]; exact hd0
          have t1 : (d == 1) = false := by rw [beq_eq_false_iff_ne]; exact hd1
          have t2 : (d == 2) = false := by rw [beq_eq_false_iff_ne]; exact hd2
          have t3 : (d == 3) = false := by rw [beq_eq_false_iff_ne]; exact hd3
          clear hd0 hd1 hd2 hd3
          have q0 := (cell_of_row w4 _ 0 _ _ _ b4).trans (show _ = some (Value.int .i64 id) from rfl)
          have y0 := (cell_of_row w4 _ 0 _ _ _ z4).trans (show _ = some (Value.int .i64 0) from rfl)
          have f0 := frozen_of_row w4 _ 0 _ _ z4
          have q1 := (cell_of_row w4 _ 1 _ _ _ b4).trans (show _ = some (Value.int .i64 tn) from rfl)
          have y1 := (cell_of_row w4 _ 1 _ _ _ z4).trans (show _ = some (Value.int .i64 0) from rfl)
          have f1 := frozen_of_row w4 _ 1 _ _ z4
          have q2 := (cell_of_row w4 _ 2 _ _ _ b4).trans (show _ = some (Value.slice ca cs.length ccap) from rfl)
          have y2 := (cell_of_row w4 _ 2 _ _ _ z4).trans (show _ = some (Value.slice none 0 0) from rfl)
          have f2 := frozen_of_row w4 _ 2 _ _ z4
          have q3 := (cell_of_row w4 _ 3 _ _ _ b4).trans (show _ = some (Value.slice oa os.length ocap) from rfl)
          have y3 := (cell_of_row w4 _ 3 _ _ _ z4).trans (show _ = some (Value.slice none 0 0) from rfl)
          have f3 := frozen_of_row w4 _ 3 _ _ z4
          go_wp2
          have r1 := heap_setCell_same w4 w.heap.size 0 _ _ (.int .i64 id) z4
          have r2 := heap_setCell_same _ w.heap.size 1 _ _ (.int .i64 tn) r1
          have r3 := heap_setCell_same _ w.heap.size 2 _ _ (.slice ca cs.length ccap) r2
          have r4 := heap_setCell_same _ w.heap.size 3 _ _ (.slice oa os.length ocap) r3
          have D99 := ((((D4.set (R := w.heap.size) (Nat.le_refl _) 0 (.int .i64 id)).set (R := w.heap.size) (Nat.le_refl _) 1 (.int .i64 tn)).set (R := w.heap.size) (Nat.le_refl _) 2 (.slice ca cs.length ccap)).set (R := w.heap.size) (Nat.le_refl _) 3 (.slice oa os.length ocap))
          have oc99 := (ownsC_low (ownsC_low (ownsC_low (ownsC_low oc4 (b := w.heap.size) HS1.out 0 (.int .i64 id)) (b := w.heap.size) HS1.out 1 (.int .i64 tn)) (b := w.heap.size) HS1.out 2 (.slice ca cs.length ccap)) (b := w.heap.size) HS1.out 3 (.slice oa os.length ocap))
          have on99 := (ownsN_low (ownsN_low (ownsN_low (ownsN_low on4 (b := w.heap.size) HS1.out 0 (.int .i64 id)) (b := w.heap.size) HS1.out 1 (.int .i64 tn)) (b := w.heap.size) HS1.out 2 (.slice ca cs.length ccap)) (b := w.heap.size) HS1.out 3 (.slice oa os.length ocap))
          have e0 := cell_of_row _ _ 0 _ _ _ r4
          have e1 := cell_of_row _ _ 1 _ _ _ r4
          have e2 := cell_of_row _ _ 2 _ _ _ r4
          have e3 := cell_of_row _ _ 3 _ _ _ r4
          simp at e0 e1 e2 e3
          refine bodyPost_ret (v := qV id tn (.slice ca cs.length ccap) (.slice oa os.length ocap)) ?_ rfl ?_
          · simp [results, Tryd.f60, go_sem, e0, e1, e2, e3, qV]
          · exact ⟨id, tn, _, _, _, _, rfl, ownsC_up oc99 (by have := HS1.out; omega), ownsN_up on99 (by have := HS1.out; omega), by have := HCL.out; omega, by have := HOL.out; omega, D99⟩
end Go.Proofs.YtmkcfkblfjhnhaaDoor
