/-
  Texts of the proof, merged: QueryDraw2, CodeOpen, QueryDraw3.
-/
import Derived.Test.YtijfnabglblimaaGreatDoorFQ4
import Derived.WalkKit
import Derived.ProofKit
import Derived.OpenShut
import Derived.Carry
namespace Go.Proofs.YtijfnabglblimaaGreatDoor
open Go.RowKit
set_option linter.unusedVariables false
set_option linter.unusedSimpArgs false
def qids : List Int := [-1, 23, 24]
def qtns : List Int := [-1, 3, 4]
def qhis : List Int := [2, 3, 99, 100]
def qfls : List Int := [-1, 0, 3]
theorem owns_off {w : World} {B : Nat} {e : TypeId} {size : Nat} {v : Value} {n : Nat} {xs : List Value} (h : w.ownsRow B e size v n xs) {b : Nat} (hne : v.ownBlock ≠ some b) (j : Nat) (u : Value) : (w.setCell ⟨b, j, none⟩ u).ownsRow B e size v n xs := by
  refine ⟨h.1, ?_⟩
  rcases h.2 with hn | ⟨g, cap, cur, rfl, hb', hg, rest⟩
  · exact .inl hn
  · refine .inr ⟨g, cap, cur, rfl, hb', ?_, rest⟩
    have hgb : ¬ b = g := fun e => hne (by rw [e]; rfl)
    exact (heap_setCell_other w ⟨b, j, none⟩ g u (by simpa using fun e => hgb e.symm)).trans hg
theorem owns_apart {w : World} {B R : Nat} {e : TypeId} {size : Nat} {v : Value} {n : Nat} {xs : List Value} {vals : Array Value} {T : TypeId} {fr : Nat × Nat} (h : w.ownsRow B e size v n xs) (hb : w.heap[R]? = some (.cells vals T fr)) (hT : T ≠ e) : v.ownBlock ≠ some R := by
  intro q
  rcases h.2 with ⟨rfl, _⟩ | ⟨g, cap, cur, rfl, _, hg, _⟩
  · simp [Value.ownBlock] at q
  · have : g = R := by simpa [Value.ownBlock] using q
    subst this
    rw [hg] at hb
    simp only [Option.some.injEq, Obj.cells.injEq] at hb
    exact hT hb.2.1.symm
theorem info_cond : ∃ i, Tryz.prog.info? 67 = some i ∧ i.zero = some (.agg #[.int .i64 0, .int .i64 0, .int .i64 0]) ∧ i.size = 3 ∧ i.bytes = 24 := by
  have h1 := Tryz.infoCond
  cases e : Tryz.prog.info? 67 with
  | none => rw [e] at h1; simp at h1
  | some i => rw [e] at h1; simp at h1; exact ⟨i, rfl, h1.1, h1.2⟩
/-- One condition is appended; only the slice's own block turns. -/
theorem step_append_cond1 {w : World} {ops : Array Oper} {o : Oper} {a : Act} {K : Act → World → Prop} {Q : Exit → Act → World → Prop} {E : Prop} (hwa : Region.wanted o (yielded ops a.tmps) = true) (s x : Operand)
    (ho : o.op = .call { callee := .builtin .append, args := #[s, x], argTypes := #[24, 24] })
    (B : Nat) (v : Value) (cs : List CondD) (b : Nat) (f lo hi : Int) (hs : a.eval s = v) (hx : a.eval x = .slice (some ⟨b, 0, none⟩) 1 1) (hown : OwnsC w B v cs)
    (hu : w.cell? ⟨b, 0, none⟩ = some (.int .i64 f) ∧ w.cell? ⟨b, 1, none⟩ = some (.int .i64 lo) ∧ w.cell? ⟨b, 2, none⟩ = some (.int .i64 hi)) (hB : B ≤ w.heap.size) (h63 : cs.length ≤ 1048576)
    (h : ∀ v' w', OwnsC w' B v' (cs ++ [(f, lo, hi)]) → w.grownBy w' v.ownBlock → K (a.put o.dst v') w') : if Region.wanted o (yielded ops a.tmps) = true then Oper.wp Tryz.prog o a w K Q else E := by
  rw [if_pos hwa]
  obtain ⟨i0, hi0, hz0, hz1, hz2⟩ := info_cond
  obtain ⟨v', w', hr, h2, h3, _⟩ := run_append_own (P := Tryz.prog) w B 24 o.type 67 i0 (.agg #[.int .i64 0, .int .i64 0, .int .i64 0]) 3 24 Tryz.underlying24 hi0 hz0 hz1 hz2 rfl (by decide) v cs.length _ hown ⟨b, 0, none⟩ 1 1 [.int .i64 f, .int .i64 lo, .int .i64 hi] rfl (by
    intro j q hj
    rw [Go.WideShapes.add_plain, Nat.zero_add]
    match j, hj with
    | 0, hj => simp at hj; rw [← hj]; exact hu.1
    | 1, hj => simp at hj; rw [← hj]; exact hu.2.1
    | 2, hj => simp at hj; rw [← hj]; exact hu.2.2
    | j + 3, hj => simp at hj) (by intro q hq; simp at hq; rcases hq with rfl | rfl | rfl <;> rfl) (by unfold maxLen; omega) (by omega) hB
  unfold Oper.wp execOp
  simp only [ho, resolve, invoke, builtin, Sem.run_bind, Sem.run_pure, Result.andThen_ok, List.map_toArray, List.map_cons, List.map_nil, hs, hx, hr]
  refine h v' w' ?_ h3
  unfold OwnsC
  rw [flatC_app, List.length_append]
  exact h2
theorem step_append_one {w : World} {ops : Array Oper} {o : Oper} {a : Act} {K : Act → World → Prop} {Q : Exit → Act → World → Prop} {E : Prop} (hwa : Region.wanted o (yielded ops a.tmps) = true) (s x : Operand)
    (ho : o.op = .call { callee := .builtin .append, args := #[s, x], argTypes := #[25, 25] })
    (B : Nat) (v : Value) (xs : List Int) (b : Nat) (y : Int) (hs : a.eval s = v) (hx : a.eval x = .slice (some ⟨b, 0, none⟩) 1 1) (hown : OwnsN w B v xs) (hu : w.cell? ⟨b, 0, none⟩ = some (.int .i64 y)) (hB : B ≤ w.heap.size) (h63 : xs.length ≤ 1048576)
    (h : ∀ v' w', OwnsN w' B v' (xs ++ [y]) → w.grownBy w' v.ownBlock → K (a.put o.dst v') w') : if Region.wanted o (yielded ops a.tmps) = true then Oper.wp Tryz.prog o a w K Q else E := by
  rw [if_pos hwa]
  obtain ⟨i0, hi, hz0, hz1, hz2⟩ := info_parts Tryz.infoI64
  obtain ⟨v', w', hr, h2, h3, h4⟩ := run_append_own (P := Tryz.prog) w B 25 o.type 3 i0 (.int .i64 0) 1 8 Tryz.underlying25 hi hz0 hz1 hz2 rfl (by decide) v xs.length _ hown ⟨b, 0, none⟩ 1 1 [Value.int .i64 y] (by simp) (by
    intro j q hj
    rw [Go.WideShapes.add_plain]
    have : j = 0 := by
      by_cases e : j = 0
      · exact e
      · rw [List.getElem?_eq_none (by simp; omega)] at hj; simp at hj
    subst this
    simp at hj
    rw [← hj]; exact hu) (by intro q hq; simp at hq; rw [hq]; rfl) (by unfold maxLen; omega) (by omega) hB
  unfold Oper.wp execOp
  simp only [ho, resolve, invoke, builtin, Sem.run_bind, Sem.run_pure, Result.andThen_ok, List.map_toArray, List.map_cons, List.map_nil, hs, hx, hr]
  refine h v' w' ?_ h3
  unfold OwnsN
  simpa using h2
theorem apartN {a b : Value} (h : ∀ q, a.ownBlock = some q → b.ownBlock ≠ some q) : b.ownBlock = none ∨ b.ownBlock ≠ a.ownBlock := by
  cases hb : b.ownBlock with
  | none => exact Or.inl rfl
  | some q => exact Or.inr (fun e => h q e.symm hb)
theorem apartC {a b : Value} (h : ∀ q, a.ownBlock = some q → b.ownBlock ≠ some q) : a.ownBlock = none ∨ a.ownBlock ≠ b.ownBlock := by
  cases ha : a.ownBlock with
  | none => exact Or.inl rfl
  | some q => exact Or.inr (fun e => h q ha e.symm)
set_option maxHeartbeats 32000000 in
set_option maxRecDepth 100000 in
theorem anyQuery_any (w0 : World) (c : Nat) (v : Value) (xs : List Int) (w : World) (hC : Cur w0 c v xs w) :
    Calls Tryz.prog 23 #[.pointer (some ⟨c, 0, none⟩)] w (DrawnQ w0 c v xs w) := by
  have D0 := (Dr.start hC).alloc (.cells #[.int .i64 0, .int .i64 0, .slice none 0 0, .slice none 0 0] 27)
  have z0 := heap_alloc_new w (.cells #[.int .i64 0, .int .i64 0, .slice none 0 0, .slice none 0 0] 27)
  have s0 : (w.alloc (.cells #[.int .i64 0, .int .i64 0, .slice none 0 0, .slice none 0 0] 27)).heap.size = w.heap.size + 1 := by simp
  clear hC
  go_enter Tryz.func23, Tryz.ntmps23
  go_wp2_with fail
  generalize w.alloc (.cells #[.int .i64 0, .int .i64 0, .slice none 0 0, .slice none 0 0] 27) = W at *
  refine (below_any w0 c v xs _ D0.cur 9 (by omega) (by omega)).mono ?_
  rintro e w1 ⟨x, x0, x1, rfl, hC1, hg1⟩
  have D1 := D0.call hC1 hg1
  have z1 := keep hg1 (D0.ne (Nat.le_refl _)) z0
  have s1 : w.heap.size + 1 ≤ w1.heap.size := by rw [← s0]; exact hg1.size
  clear D0 z0 s0 hC1 hg1
  go_wp2_with fail
  refine (query_drawn w0 c v xs _ D1.cur x).mono ?_
  rintro e w2 ⟨id, tn, cs, os, cv, ov, rfl, oc2, on2, hcl, hol, hap, d2⟩
  obtain ⟨ca, ccap, rfl⟩ := ownsC_len oc2
  obtain ⟨oa, ocap, rfl⟩ := ints_len (ownsN_ints on2)
  have D2 := D1.call d2.cur d2.gr
  have z2 := keep d2.gr (D1.ne (Nat.le_refl _)) z1
  have s2 := Nat.le_trans s1 d2.size
  have HCB := Lib.hid (fun q (hq : (Value.slice ca cs.length ccap).ownBlock = some q) => oc2.lt q hq)
  have HOB := Lib.hid (fun q (hq : (Value.slice oa os.length ocap).ownBlock = some q) => on2.lt q hq)
  have HAP := Lib.hid hap
  have HCL := Lib.hid hcl
  have HOL := Lib.hid hol
  have HS1 := Lib.hid s1
  have HS2 := Lib.hid s2
  have D3 := D2.alloc (.cells #[.int .i64 id, .int .i64 tn, .slice ca cs.length ccap, .slice oa os.length ocap] 27)
  have z3 := keepA (.cells #[.int .i64 id, .int .i64 tn, .slice ca cs.length ccap, .slice oa os.length ocap] 27) z2
  have b3 := heap_alloc_new w2 (.cells #[.int .i64 id, .int .i64 tn, .slice ca cs.length ccap, .slice oa os.length ocap] 27)
  have oc3 : OwnsC _ w1.heap.size _ cs := oc2.alloc (.cells #[.int .i64 id, .int .i64 tn, .slice ca cs.length ccap, .slice oa os.length ocap] 27)
  have on3 : OwnsN _ w1.heap.size _ os := on2.alloc (.cells #[.int .i64 id, .int .i64 tn, .slice ca cs.length ccap, .slice oa os.length ocap] 27)
  have HD3 := Lib.hid D3
  have HZ3 := Lib.hid z3
  have HB3 := Lib.hid b3
  have HC3 := Lib.hid oc3
  have HN3 := Lib.hid on3
  have HRW0 := Lib.hid d2.size
  clear D1 z1 d2 D2 z2 D3 z3 b3 oc3 on3 oc2 on2 hap hcl hol s1 s2
  go_wp2_with fail
  generalize w2.alloc (.cells #[.int .i64 id, .int .i64 tn, .slice ca cs.length ccap, .slice oa os.length ocap] 27) = W3 at *
  refine (below_any w0 c v xs _ HD3.out.cur 10 (by omega) (by omega)).mono ?_
  rintro e w4 ⟨d, d0, d1, rfl, hC4, hg4⟩
  obtain ⟨R, hR⟩ : ∃ R, w2.heap.size = R := ⟨_, rfl⟩
  have D4 := HD3.out.call hC4 hg4
  have z4 := keep hg4 (HD3.out.ne (Nat.le_refl _)) HZ3.out
  have b4 := keep hg4 (HD3.out.ne (by have := HS2.out; omega)) HB3.out
  have oc4 : OwnsC w4 w1.heap.size _ cs := kept_low HC3.out hg4 (by have := HD3.out.lt; have := HS1.out; omega)
  have on4 := ownsN_grown HN3.out hg4 (by have := HD3.out.lt; have := HS1.out; omega)
  rw [hR] at b4 HS2 HCB HOB HRW0 ⊢
  have HW1 : Hid (w1.heap.size ≤ R) := HRW0
  have hn1 : ¬ R = w.heap.size := by have := HS2.out; omega
  have hn2 : ¬ w.heap.size = R := by have := HS2.out; omega
  have HR : Hid (w.heap.size ≤ R) := Lib.hid (by have := HS2.out; omega)
  have HCR : Hid ((Value.slice ca cs.length ccap).ownBlock ≠ some R) := Lib.hid (fun e => absurd (HCB.out _ e).2 (Nat.lt_irrefl _))
  have HOR : Hid ((Value.slice oa os.length ocap).ownBlock ≠ some R) := Lib.hid (fun e => absurd (HOB.out _ e).2 (Nat.lt_irrefl _))
  have HCZ : Hid ((Value.slice ca cs.length ccap).ownBlock ≠ some w.heap.size) := Lib.hid (fun e => by have := (HCB.out _ e).1; have := HS1.out; omega)
  have HOZ : Hid ((Value.slice oa os.length ocap).ownBlock ≠ some w.heap.size) := Lib.hid (fun e => by have := (HOB.out _ e).1; have := HS1.out; omega)
  clear HD3 HZ3 HB3 HC3 HN3 hC4 hg4 hR
  by_cases hd0 : d = 0
  · have t0 : (d == 0) = true := by rw [beq_iff_eq]; exact hd0
    clear hd0
    have HP := Lib.hid (pick_any w0 c v xs (w4.alloc (.cells (qids.map (Value.int .i64)).toArray 3 (0, 0))) (cur_alloc D4.cur _) w4.heap.size qids (-1) 24 (by decide) (by decide) (by decide) (heap_alloc_new w4 _) (D4.ne D4.size))
    have D5 := D4.alloc (.cells (qids.map (Value.int .i64)).toArray 3 (0, 0))
    have z5 := keepA (.cells (qids.map (Value.int .i64)).toArray 3 (0, 0)) z4
    have b5 := keepA (.cells (qids.map (Value.int .i64)).toArray 3 (0, 0)) b4
    have oc5 : OwnsC _ w1.heap.size _ cs := oc4.alloc (.cells (qids.map (Value.int .i64)).toArray 3 (0, 0))
    have on5 : OwnsN _ w1.heap.size _ os := on4.alloc (.cells (qids.map (Value.int .i64)).toArray 3 (0, 0))
    go_wp2_with fail
    refine Calls.mono HP.out ?_
    rintro e w6 ⟨y, yl, yh, rfl, hC6, hg6⟩
    have D6 := D5.call hC6 hg6
    have z6 := keep hg6 (D5.ne (Nat.le_refl _)) z5
    have b6 := keep hg6 (D5.ne HR.out) b5
    have oc6 : OwnsC w6 w1.heap.size _ cs := kept_low oc5 hg6 (by have := D5.lt; have := HS1.out; omega)
    have on6 := ownsN_grown on5 hg6 (by have := D5.lt; have := HS1.out; omega)
    have p0 := (cell_of_row w6 _ 0 _ _ _ b6).trans (show _ = some (Value.int .i64 id) from rfl)
    have g0 := frozen_of_row w6 _ 0 _ _ b6
    have b7 := heap_setCell_same w6 R 0 _ _ (.int .i64 y) b6
    have z7 := (heap_setCell_other w6 ⟨R, 0, none⟩ w.heap.size (.int .i64 y) (by simpa using hn2)).trans z6
    have D7 := D6.set (R := R) HR.out 0 (.int .i64 y)
    have oc7 : OwnsC (w6.setCell ⟨R, 0, none⟩ (.int .i64 y)) w1.heap.size _ cs := owns_off oc6 HCR.out 0 (.int .i64 y)
    have on7 : OwnsN (w6.setCell ⟨R, 0, none⟩ (.int .i64 y)) w1.heap.size _ os := owns_off on6 HOR.out 0 (.int .i64 y)
    clear D5 z5 b5 oc5 on5 D6 oc6 on6 HP D4 z4 b4 oc4 on4 hC6 hg6
    have h0 := (cell_of_row w6 _ 0 _ _ _ b6).trans (show _ = some (Value.int .i64 id) from rfl)
    have h1 := (cell_of_row w6 _ 1 _ _ _ b6).trans (show _ = some (Value.int .i64 tn) from rfl)
    have h2 := (cell_of_row w6 _ 2 _ _ _ b6).trans (show _ = some (Value.slice ca cs.length ccap) from rfl)
    have h3 := (cell_of_row w6 _ 3 _ _ _ b6).trans (show _ = some (Value.slice oa os.length ocap) from rfl)
    have q0 := (cell_of_row (w6.setCell ⟨R, 0, none⟩ (.int .i64 y)) _ 0 _ _ _ b7).trans (show _ = some (Value.int .i64 y) from rfl)
    have y0 := (cell_of_row (w6.setCell ⟨R, 0, none⟩ (.int .i64 y)) _ 0 _ _ _ z7).trans (show _ = some (Value.int .i64 0) from rfl)
    have f0 := frozen_of_row (w6.setCell ⟨R, 0, none⟩ (.int .i64 y)) _ 0 _ _ z7
    have q1 := (cell_of_row (w6.setCell ⟨R, 0, none⟩ (.int .i64 y)) _ 1 _ _ _ b7).trans (show _ = some (Value.int .i64 tn) from rfl)
    have y1 := (cell_of_row (w6.setCell ⟨R, 0, none⟩ (.int .i64 y)) _ 1 _ _ _ z7).trans (show _ = some (Value.int .i64 0) from rfl)
    have f1 := frozen_of_row (w6.setCell ⟨R, 0, none⟩ (.int .i64 y)) _ 1 _ _ z7
    have q2 := (cell_of_row (w6.setCell ⟨R, 0, none⟩ (.int .i64 y)) _ 2 _ _ _ b7).trans (show _ = some (Value.slice ca cs.length ccap) from rfl)
    have y2 := (cell_of_row (w6.setCell ⟨R, 0, none⟩ (.int .i64 y)) _ 2 _ _ _ z7).trans (show _ = some (Value.slice none 0 0) from rfl)
    have f2 := frozen_of_row (w6.setCell ⟨R, 0, none⟩ (.int .i64 y)) _ 2 _ _ z7
    have q3 := (cell_of_row (w6.setCell ⟨R, 0, none⟩ (.int .i64 y)) _ 3 _ _ _ b7).trans (show _ = some (Value.slice oa os.length ocap) from rfl)
    have y3 := (cell_of_row (w6.setCell ⟨R, 0, none⟩ (.int .i64 y)) _ 3 _ _ _ z7).trans (show _ = some (Value.slice none 0 0) from rfl)
    have f3 := frozen_of_row (w6.setCell ⟨R, 0, none⟩ (.int .i64 y)) _ 3 _ _ z7
    go_wp2
    have r1 := heap_setCell_same (w6.setCell ⟨R, 0, none⟩ (.int .i64 y)) w.heap.size 0 _ _ (.int .i64 y) z7
    have r2 := heap_setCell_same _ w.heap.size 1 _ _ (.int .i64 tn) r1
    have r3 := heap_setCell_same _ w.heap.size 2 _ _ (.slice ca cs.length ccap) r2
    have r4 := heap_setCell_same _ w.heap.size 3 _ _ (.slice oa os.length ocap) r3
    have D99 := ((((D7.set (R := w.heap.size) (Nat.le_refl _) 0 (.int .i64 y)).set (R := w.heap.size) (Nat.le_refl _) 1 (.int .i64 tn)).set (R := w.heap.size) (Nat.le_refl _) 2 (.slice ca cs.length ccap)).set (R := w.heap.size) (Nat.le_refl _) 3 (.slice oa os.length ocap))
    have oc99 := (ownsC_low (ownsC_low (ownsC_low (ownsC_low oc7 (b := w.heap.size) HS1.out 0 (.int .i64 y)) (b := w.heap.size) HS1.out 1 (.int .i64 tn)) (b := w.heap.size) HS1.out 2 (.slice ca cs.length ccap)) (b := w.heap.size) HS1.out 3 (.slice oa os.length ocap))
    have on99 := (ownsN_low (ownsN_low (ownsN_low (ownsN_low on7 (b := w.heap.size) HS1.out 0 (.int .i64 y)) (b := w.heap.size) HS1.out 1 (.int .i64 tn)) (b := w.heap.size) HS1.out 2 (.slice ca cs.length ccap)) (b := w.heap.size) HS1.out 3 (.slice oa os.length ocap))
    have e0 := cell_of_row _ _ 0 _ _ _ r4
    have e1 := cell_of_row _ _ 1 _ _ _ r4
    have e2 := cell_of_row _ _ 2 _ _ _ r4
    have e3 := cell_of_row _ _ 3 _ _ _ r4
    simp at e0 e1 e2 e3
    refine bodyPost_ret (v := qV y tn (.slice ca cs.length ccap) (.slice oa os.length ocap)) ?_ rfl ?_
    · simp [results, Tryz.f23, go_sem, e0, e1, e2, e3, qV]
    · exact ⟨y, tn, _, _, _, _, rfl, ownsC_up oc99 (by have := HS1.out; omega), ownsN_up on99 (by have := HS1.out; omega), by have := HCL.out; omega, by have := HOL.out; omega, D99⟩
  · by_cases hd1 : d = 1
    · have t0 : (d == 0) = false := by rw [beq_eq_false_iff_ne]; exact hd0
      have t1 : (d == 1) = true := by rw [beq_iff_eq]; exact hd1
      clear hd0 hd1
      have HP := Lib.hid (pick_any w0 c v xs (w4.alloc (.cells (qtns.map (Value.int .i64)).toArray 3 (0, 0))) (cur_alloc D4.cur _) w4.heap.size qtns (-1) 4 (by decide) (by decide) (by decide) (heap_alloc_new w4 _) (D4.ne D4.size))
      have D5 := D4.alloc (.cells (qtns.map (Value.int .i64)).toArray 3 (0, 0))
      have z5 := keepA (.cells (qtns.map (Value.int .i64)).toArray 3 (0, 0)) z4
      have b5 := keepA (.cells (qtns.map (Value.int .i64)).toArray 3 (0, 0)) b4
      have oc5 : OwnsC _ w1.heap.size _ cs := oc4.alloc (.cells (qtns.map (Value.int .i64)).toArray 3 (0, 0))
      have on5 : OwnsN _ w1.heap.size _ os := on4.alloc (.cells (qtns.map (Value.int .i64)).toArray 3 (0, 0))
      go_wp2_with fail
      refine Calls.mono HP.out ?_
      rintro e w6 ⟨y, yl, yh, rfl, hC6, hg6⟩
      have D6 := D5.call hC6 hg6
      have z6 := keep hg6 (D5.ne (Nat.le_refl _)) z5
      have b6 := keep hg6 (D5.ne HR.out) b5
      have oc6 : OwnsC w6 w1.heap.size _ cs := kept_low oc5 hg6 (by have := D5.lt; have := HS1.out; omega)
      have on6 := ownsN_grown on5 hg6 (by have := D5.lt; have := HS1.out; omega)
      have p0 := (cell_of_row w6 _ 1 _ _ _ b6).trans (show _ = some (Value.int .i64 tn) from rfl)
      have g0 := frozen_of_row w6 _ 1 _ _ b6
      have b7 := heap_setCell_same w6 R 1 _ _ (.int .i64 y) b6
      have z7 := (heap_setCell_other w6 ⟨R, 1, none⟩ w.heap.size (.int .i64 y) (by simpa using hn2)).trans z6
      have D7 := D6.set (R := R) HR.out 1 (.int .i64 y)
      have oc7 : OwnsC (w6.setCell ⟨R, 1, none⟩ (.int .i64 y)) w1.heap.size _ cs := owns_off oc6 HCR.out 1 (.int .i64 y)
      have on7 : OwnsN (w6.setCell ⟨R, 1, none⟩ (.int .i64 y)) w1.heap.size _ os := owns_off on6 HOR.out 1 (.int .i64 y)
      clear D5 z5 b5 oc5 on5 D6 oc6 on6 HP D4 z4 b4 oc4 on4 hC6 hg6
      have h0 := (cell_of_row w6 _ 0 _ _ _ b6).trans (show _ = some (Value.int .i64 id) from rfl)
      have h1 := (cell_of_row w6 _ 1 _ _ _ b6).trans (show _ = some (Value.int .i64 tn) from rfl)
      have h2 := (cell_of_row w6 _ 2 _ _ _ b6).trans (show _ = some (Value.slice ca cs.length ccap) from rfl)
      have h3 := (cell_of_row w6 _ 3 _ _ _ b6).trans (show _ = some (Value.slice oa os.length ocap) from rfl)
      have q0 := (cell_of_row (w6.setCell ⟨R, 1, none⟩ (.int .i64 y)) _ 0 _ _ _ b7).trans (show _ = some (Value.int .i64 id) from rfl)
      have y0 := (cell_of_row (w6.setCell ⟨R, 1, none⟩ (.int .i64 y)) _ 0 _ _ _ z7).trans (show _ = some (Value.int .i64 0) from rfl)
      have f0 := frozen_of_row (w6.setCell ⟨R, 1, none⟩ (.int .i64 y)) _ 0 _ _ z7
      have q1 := (cell_of_row (w6.setCell ⟨R, 1, none⟩ (.int .i64 y)) _ 1 _ _ _ b7).trans (show _ = some (Value.int .i64 y) from rfl)
      have y1 := (cell_of_row (w6.setCell ⟨R, 1, none⟩ (.int .i64 y)) _ 1 _ _ _ z7).trans (show _ = some (Value.int .i64 0) from rfl)
      have f1 := frozen_of_row (w6.setCell ⟨R, 1, none⟩ (.int .i64 y)) _ 1 _ _ z7
      have q2 := (cell_of_row (w6.setCell ⟨R, 1, none⟩ (.int .i64 y)) _ 2 _ _ _ b7).trans (show _ = some (Value.slice ca cs.length ccap) from rfl)
      have y2 := (cell_of_row (w6.setCell ⟨R, 1, none⟩ (.int .i64 y)) _ 2 _ _ _ z7).trans (show _ = some (Value.slice none 0 0) from rfl)
      have f2 := frozen_of_row (w6.setCell ⟨R, 1, none⟩ (.int .i64 y)) _ 2 _ _ z7
      have q3 := (cell_of_row (w6.setCell ⟨R, 1, none⟩ (.int .i64 y)) _ 3 _ _ _ b7).trans (show _ = some (Value.slice oa os.length ocap) from rfl)
      have y3 := (cell_of_row (w6.setCell ⟨R, 1, none⟩ (.int .i64 y)) _ 3 _ _ _ z7).trans (show _ = some (Value.slice none 0 0) from rfl)
      have f3 := frozen_of_row (w6.setCell ⟨R, 1, none⟩ (.int .i64 y)) _ 3 _ _ z7
      go_wp2
      have r1 := heap_setCell_same (w6.setCell ⟨R, 1, none⟩ (.int .i64 y)) w.heap.size 0 _ _ (.int .i64 id) z7
      have r2 := heap_setCell_same _ w.heap.size 1 _ _ (.int .i64 y) r1
      have r3 := heap_setCell_same _ w.heap.size 2 _ _ (.slice ca cs.length ccap) r2
      have r4 := heap_setCell_same _ w.heap.size 3 _ _ (.slice oa os.length ocap) r3
      have D99 := ((((D7.set (R := w.heap.size) (Nat.le_refl _) 0 (.int .i64 id)).set (R := w.heap.size) (Nat.le_refl _) 1 (.int .i64 y)).set (R := w.heap.size) (Nat.le_refl _) 2 (.slice ca cs.length ccap)).set (R := w.heap.size) (Nat.le_refl _) 3 (.slice oa os.length ocap))
      have oc99 := (ownsC_low (ownsC_low (ownsC_low (ownsC_low oc7 (b := w.heap.size) HS1.out 0 (.int .i64 id)) (b := w.heap.size) HS1.out 1 (.int .i64 y)) (b := w.heap.size) HS1.out 2 (.slice ca cs.length ccap)) (b := w.heap.size) HS1.out 3 (.slice oa os.length ocap))
      have on99 := (ownsN_low (ownsN_low (ownsN_low (ownsN_low on7 (b := w.heap.size) HS1.out 0 (.int .i64 id)) (b := w.heap.size) HS1.out 1 (.int .i64 y)) (b := w.heap.size) HS1.out 2 (.slice ca cs.length ccap)) (b := w.heap.size) HS1.out 3 (.slice oa os.length ocap))
      have e0 := cell_of_row _ _ 0 _ _ _ r4
      have e1 := cell_of_row _ _ 1 _ _ _ r4
      have e2 := cell_of_row _ _ 2 _ _ _ r4
      have e3 := cell_of_row _ _ 3 _ _ _ r4
      simp at e0 e1 e2 e3
      refine bodyPost_ret (v := qV id y (.slice ca cs.length ccap) (.slice oa os.length ocap)) ?_ rfl ?_
      · simp [results, Tryz.f23, go_sem, e0, e1, e2, e3, qV]
      · exact ⟨id, y, _, _, _, _, rfl, ownsC_up oc99 (by have := HS1.out; omega), ownsN_up on99 (by have := HS1.out; omega), by have := HCL.out; omega, by have := HOL.out; omega, D99⟩
    · by_cases hd2 : d = 2
      · have t0 : (d == 0) = false := by rw [beq_eq_false_iff_ne]; exact hd0
        have t1 : (d == 1) = false := by rw [beq_eq_false_iff_ne]; exact hd1
        have t2 : (d == 2) = true := by rw [beq_iff_eq]; exact hd2
        clear hd0 hd1 hd2
        have D5 : Dr w0 c v xs w w4.drew := D4.below (below_drew (Below.refl w4.heap.size w4)) D4.size
        have oc5 : OwnsC w4.drew w1.heap.size _ cs := ownsC_below oc4 (below_drew (Below.refl w4.heap.size w4))
        have on5 : OwnsN w4.drew w1.heap.size _ os := ownsN_below on4 (below_drew (Below.refl w4.heap.size w4))
        have z5 : w4.drew.heap[w.heap.size]? = some _ := z4
        have b5 : w4.drew.heap[R]? = some _ := b4
        have HX5 : Hid (w4.drew = w4.drew) := Lib.hid rfl
        clear D4 z4 b4 oc4 on4
        go_wp2
        refine wp_region_held_drew (S := fun _ => True) (by kernel_rfl) trivial (fun hHeld => ?_)
        clear HX5
        obtain ⟨w5, hw5⟩ : ∃ w5, w4.drew = w5 := ⟨_, rfl⟩
        rw [hw5] at D5 oc5 on5 z5 b5 ⊢
        clear hw5
        refine take_runs (i := 0) (v := ?_) (by simp only [List.getElem?_toArray, List.getElem?_cons_succ, List.getElem?_cons_zero]; rfl) (by kernel_rfl) (by kernel_rfl) (by kernel_rfl) rfl (by exact fun _ _ _ h => h) (by rfl) ?_ (by assumption) ?_
        rotate_left
        · intro w hSw; (try dsimp only at hSw); go_simp; try (with_reducible rfl)
        try simp only [Act.put, List.setIfInBounds_toArray, List.set_cons_zero, List.set_cons_succ]
        refine take_runs (i := 2) (v := ?_) (by simp only [List.getElem?_toArray, List.getElem?_cons_succ, List.getElem?_cons_zero]; rfl) (by kernel_rfl) (by kernel_rfl) (by kernel_rfl) rfl (by exact fun _ _ _ h => h) (by rfl) ?_ (by assumption) ?_
        rotate_left
        · intro w hSw; (try dsimp only at hSw); go_simp; try (with_reducible rfl)
        try simp only [Act.put, List.setIfInBounds_toArray, List.set_cons_zero, List.set_cons_succ]
        refine take_runs (i := 4) (v := ?_) (by simp only [List.getElem?_toArray, List.getElem?_cons_succ, List.getElem?_cons_zero]; rfl) (by kernel_rfl) (by kernel_rfl) (by kernel_rfl) rfl (by exact fun _ _ _ h => h) (by rfl) ?_ (by assumption) ?_
        rotate_left
        · intro w hSw; (try dsimp only at hSw); go_simp; try (with_reducible rfl)
        try simp only [Act.put, List.setIfInBounds_toArray, List.set_cons_zero, List.set_cons_succ]
        refine wpAnyH_ready (rs := [1, 3, 5]) (by kernel_rfl) (by simp) ?_
        refine (AllReadyH.cons (o := _) (by simp only [List.getElem?_toArray, List.getElem?_cons_succ, List.getElem?_cons_zero]; rfl) (fun K hK => ?_) (AllReadyH.cons (o := _) (by simp only [List.getElem?_toArray, List.getElem?_cons_succ, List.getElem?_cons_zero]; rfl) (fun K hK => ?_) (AllReadyH.cons (o := _) (by simp only [List.getElem?_toArray, List.getElem?_cons_succ, List.getElem?_cons_zero]; rfl) (fun K hK => ?_) AllReadyH.nil)))
        · have p5 := (cell_of_row w5 _ 2 _ _ _ b5).trans (show _ = some (Value.slice ca cs.length ccap) from rfl)
          go_simp
          refine hK.out _ _ trivial (fun hHeld => ?_)
          clear hK K
          try simp only [Act.put, List.setIfInBounds_toArray, List.set_cons_zero, List.set_cons_succ]
          refine wpAnyH_ready (rs := [3, 5]) (by kernel_rfl) (by simp) ?_
          refine (AllReadyH.cons (o := _) (by simp only [List.getElem?_toArray, List.getElem?_cons_succ, List.getElem?_cons_zero]; rfl) (fun K hK => ?_) (AllReadyH.cons (o := _) (by simp only [List.getElem?_toArray, List.getElem?_cons_succ, List.getElem?_cons_zero]; rfl) (fun K hK => ?_) AllReadyH.nil))
          · go_simp
            refine Calls.mono (below_any w0 c v xs _ D5.cur 4 (by omega) (by omega)) ?_
            rintro e w6 ⟨f, fl, fh, rfl, hC6, hg6⟩
            have D6 := D5.call hC6 hg6
            have z6 := keep hg6 (D5.ne (Nat.le_refl _)) z5
            have b6 := keep hg6 (D5.ne HR.out) b5
            have oc6 : OwnsC w6 w1.heap.size _ cs := kept_low oc5 hg6 (by have := D5.lt; have := HS1.out; omega)
            have on6 := ownsN_grown on5 hg6 (by have := D5.lt; have := HS1.out; omega)
            refine hK.out _ _ trivial (fun hHeld => ?_)
            clear hK K
            try simp only [Act.put, List.setIfInBounds_toArray, List.set_cons_zero, List.set_cons_succ]
            refine wpAnyH_ready (rs := [5]) (by kernel_rfl) (by simp) ?_
            refine (AllReadyH.cons (o := _) (by simp only [List.getElem?_toArray, List.getElem?_cons_succ, List.getElem?_cons_zero]; rfl) (fun K hK => ?_) AllReadyH.nil)
            go_simp
            have D7 := D6.alloc (.cells (qhis.map (Value.int .i64)).toArray 3 (0, 0))
            have z7 := keepA (.cells (qhis.map (Value.int .i64)).toArray 3 (0, 0)) z6
            have b7 := keepA (.cells (qhis.map (Value.int .i64)).toArray 3 (0, 0)) b6
            have oc7 : OwnsC _ w1.heap.size _ cs := oc6.alloc (.cells (qhis.map (Value.int .i64)).toArray 3 (0, 0))
            have on7 : OwnsN _ w1.heap.size _ os := on6.alloc (.cells (qhis.map (Value.int .i64)).toArray 3 (0, 0))
            have lst7 := heap_alloc_new w6 (.cells (qhis.map (Value.int .i64)).toArray 3 (0, 0))
            have HLC : Hid (w6.heap.size ≠ c) := Lib.hid (D6.ne D6.size)
            obtain ⟨lb, hlb⟩ : ∃ lb, w6.heap.size = lb := ⟨_, rfl⟩
            rw [hlb] at lst7 HLC ⊢
            clear hlb
            obtain ⟨w7, hW7⟩ : ∃ W, w6.alloc (.cells #[.int .i64 2, .int .i64 3, .int .i64 99, .int .i64 100] 3) = W := ⟨_, rfl⟩
            have hV7 : w6.alloc (.cells (qhis.map (Value.int .i64)).toArray 3 (0, 0)) = w7 := hW7
            rw [hW7]
            rw [hV7] at D7 z7 b7 oc7 on7 lst7
            clear hW7 hV7
            refine hK.out _ _ trivial (fun hHeld => ?_)
            clear hK K
            try simp only [Act.put, List.setIfInBounds_toArray, List.set_cons_zero, List.set_cons_succ]
            refine wpAnyH_ready (rs := [6]) (by kernel_rfl) (by simp) ?_
            refine (AllReadyH.cons (o := _) (by simp only [List.getElem?_toArray, List.getElem?_cons_succ, List.getElem?_cons_zero]; rfl) (fun K hK => ?_) AllReadyH.nil)
            go_simp
            refine Calls.mono (pick_any w0 c v xs _ D7.cur lb qhis 2 100 (by decide) (by decide) (by decide) lst7 HLC.out) ?_
            rintro e w8 ⟨y, yl, yh, rfl, hC8, hg8⟩
            have D8 := D7.call hC8 hg8
            have z8 := keep hg8 (D7.ne (Nat.le_refl _)) z7
            have b8 := keep hg8 (D7.ne HR.out) b7
            have oc8 : OwnsC w8 w1.heap.size _ cs := kept_low oc7 hg8 (by have := D7.lt; have := HS1.out; omega)
            have on8 := ownsN_grown on7 hg8 (by have := D7.lt; have := HS1.out; omega)
            refine hK.out _ _ trivial (fun hHeld => ?_)
            clear hK K
            try simp only [Act.put, List.setIfInBounds_toArray, List.set_cons_zero, List.set_cons_succ]
            refine take_runs (i := 7) (v := ?_) (by simp only [List.getElem?_toArray, List.getElem?_cons_succ, List.getElem?_cons_zero]; rfl) (by kernel_rfl) (by kernel_rfl) (by kernel_rfl) rfl (by exact fun _ _ _ h => h) (by rfl) ?_ (by assumption) ?_
            rotate_left
            · intro w hSw; (try dsimp only at hSw); go_simp; try (with_reducible rfl)
            try simp only [Act.put, List.setIfInBounds_toArray, List.set_cons_zero, List.set_cons_succ]
            refine wpAnyH_ready (rs := [8]) (by kernel_rfl) (by simp) ?_
            refine (AllReadyH.cons (o := _) (by simp only [List.getElem?_toArray, List.getElem?_cons_succ, List.getElem?_cons_zero]; rfl) (fun K hK => ?_) AllReadyH.nil)
            go_simp
            have D9 := D8.alloc (.cells #[.int .i64 f, .int .i64 3, .int .i64 y] 67)
            have z9 := keepA (.cells #[.int .i64 f, .int .i64 3, .int .i64 y] 67) z8
            have b9 := keepA (.cells #[.int .i64 f, .int .i64 3, .int .i64 y] 67) b8
            have oc9 : OwnsC _ w1.heap.size _ cs := oc8.alloc (.cells #[.int .i64 f, .int .i64 3, .int .i64 y] 67)
            have on9 : OwnsN _ w1.heap.size _ os := on8.alloc (.cells #[.int .i64 f, .int .i64 3, .int .i64 y] 67)
            have cc9 : (w8.alloc (.cells #[.int .i64 f, .int .i64 3, .int .i64 y] 67)).cell? ⟨w8.heap.size, 0, none⟩ = some (.int .i64 f) ∧ (w8.alloc (.cells #[.int .i64 f, .int .i64 3, .int .i64 y] 67)).cell? ⟨w8.heap.size, 1, none⟩ = some (.int .i64 3) ∧ (w8.alloc (.cells #[.int .i64 f, .int .i64 3, .int .i64 y] 67)).cell? ⟨w8.heap.size, 2, none⟩ = some (.int .i64 y) := ⟨(cell_lit w8 #[.int .i64 f, .int .i64 3, .int .i64 y] 67 0).trans rfl, (cell_lit w8 #[.int .i64 f, .int .i64 3, .int .i64 y] 67 1).trans rfl, (cell_lit w8 #[.int .i64 f, .int .i64 3, .int .i64 y] 67 2).trans rfl⟩
            obtain ⟨w9, hW9⟩ : ∃ W, w8.alloc (.cells #[.int .i64 f, .int .i64 3, .int .i64 y] 67) = W := ⟨_, rfl⟩
            have hV9 : w8.alloc (.cells #[.int .i64 f, .int .i64 3, .int .i64 y] 67) = w9 := hW9
            rw [hW9]
            rw [hV9] at D9 z9 b9 oc9 on9 cc9
            clear hW9 hV9
            refine hK.out _ _ trivial (fun hHeld => ?_)
            clear hK K
            try simp only [Act.put, List.setIfInBounds_toArray, List.set_cons_zero, List.set_cons_succ]
            refine wpAnyH_ready (rs := [9]) (by kernel_rfl) (by simp) ?_
            refine (AllReadyH.cons (o := _) (by simp only [List.getElem?_toArray, List.getElem?_cons_succ, List.getElem?_cons_zero]; rfl) (fun K hK => ?_) AllReadyH.nil)
            refine step_append_cond1 rfl (.tmp 25) (.tmp 32) rfl w1.heap.size (.slice ca cs.length ccap) cs w8.heap.size f 3 y rfl rfl oc9 cc9 (by have h1 := D9.size; have h2 := (Array.getElem?_eq_some_iff.1 b9).1; have := HW1.out; omega) (by have := HCL.out; omega) ?_
            intro u10 w10 o10 g10
            obtain ⟨ub, ubc, rfl⟩ := ownsC_len o10
            have oN10 : OwnsC w10 w1.heap.size (.slice ub (cs.length + 1) ubc) (cs ++ [(f, 3, y)]) := by simpa using o10
            have bl10 := (Below.refl w1.heap.size _).grown g10 (by have h2 := (Array.getElem?_eq_some_iff.1 b9).1; have := HW1.out; omega) (fun q hq => (oc9.lt q hq).1)
            have b10 := (g10.block R (Array.getElem?_eq_some_iff.1 b9).1 (fun e => HCR.out e.symm)).trans b9
            have z10 := (g10.block w.heap.size (Array.getElem?_eq_some_iff.1 z9).1 (fun e => HCZ.out e.symm)).trans z9
            have D10 := D9.below bl10 (by have := HS1.out; omega)
            have on10 : OwnsN w10 w1.heap.size _ os := World.ownsRow.kept on9 g10 (apartN HAP.out)
            simp only [List.length_append, List.length_cons, List.length_nil, Nat.zero_add]
            refine hK.out _ _ trivial (fun hHeld => ?_)
            clear hK K
            try simp only [Act.put, List.setIfInBounds_toArray, List.set_cons_zero, List.set_cons_succ]
            refine take_runs (i := 10) (v := ?_) (by simp only [List.getElem?_toArray, List.getElem?_cons_succ, List.getElem?_cons_zero]; rfl) (by kernel_rfl) (by kernel_rfl) (by kernel_rfl) rfl (by exact fun _ _ _ h => h) (by rfl) ?_ (by assumption) ?_
            rotate_left
            · intro w hSw; (try dsimp only at hSw); go_simp; try (with_reducible rfl)
            try simp only [Act.put, List.setIfInBounds_toArray, List.set_cons_zero, List.set_cons_succ]
            have h2 := (cell_of_row w10 _ 2 _ _ _ b10).trans (show _ = some (Value.slice ca cs.length ccap) from rfl)
            have k2 := frozen_of_row w10 _ 2 _ _ b10
            refine wpAnyH_ready (rs := [11]) (by kernel_rfl) (by simp) ?_
            refine (AllReadyH.cons (o := _) (by simp only [List.getElem?_toArray, List.getElem?_cons_succ, List.getElem?_cons_zero]; rfl) (fun K hK => ?_) AllReadyH.nil)
            go_simp
            have b50 := heap_setCell_same w10 R 2 _ _ (.slice ub (cs.length + 1) ubc) b10
            have z50 := (heap_setCell_other w10 ⟨R, 2, none⟩ w.heap.size (.slice ub (cs.length + 1) ubc) (by simpa using hn2)).trans z10
            have D50 := D10.set (R := R) HR.out 2 (.slice ub (cs.length + 1) ubc)
            have oc50 : OwnsC (w10.setCell ⟨R, 2, none⟩ (.slice ub (cs.length + 1) ubc)) w1.heap.size _ _ := owns_off oN10 (owns_apart oN10 b10 (by decide)) 2 _
            have on50 : OwnsN (w10.setCell ⟨R, 2, none⟩ (.slice ub (cs.length + 1) ubc)) w1.heap.size _ os := owns_off on10 HOR.out 2 _
            refine hK.out _ _ trivial (fun hHeld => ?_)
            clear hK K
            try simp only [Act.put, List.setIfInBounds_toArray, List.set_cons_zero, List.set_cons_succ]
            refine wpAnyH_done (by kernel_rfl) ?_ _
            obtain ⟨W50, hW50⟩ : ∃ W, (w10.setCell ⟨R, 2, none⟩ (.slice ub (cs.length + 1) ubc)) = W := ⟨_, rfl⟩
            rw [hW50] at b50 z50 D50 oc50 on50 ⊢
            clear hW50 hHeld
            simp only [List.setIfInBounds_toArray, List.set_cons_zero, List.set_cons_succ] at b50
            have q0 := (cell_of_row W50 _ 0 _ _ _ b50).trans (show _ = some (Value.int .i64 id) from rfl)
            have y0 := (cell_of_row W50 _ 0 _ _ _ z50).trans (show _ = some (Value.int .i64 0) from rfl)
            have f0 := frozen_of_row W50 _ 0 _ _ z50
            have q1 := (cell_of_row W50 _ 1 _ _ _ b50).trans (show _ = some (Value.int .i64 tn) from rfl)
            have y1 := (cell_of_row W50 _ 1 _ _ _ z50).trans (show _ = some (Value.int .i64 0) from rfl)
            have f1 := frozen_of_row W50 _ 1 _ _ z50
            have q2 := (cell_of_row W50 _ 2 _ _ _ b50).trans (show _ = some (Value.slice ub (cs.length + 1) ubc) from rfl)
            have y2 := (cell_of_row W50 _ 2 _ _ _ z50).trans (show _ = some (Value.slice none 0 0) from rfl)
            have f2 := frozen_of_row W50 _ 2 _ _ z50
            have q3 := (cell_of_row W50 _ 3 _ _ _ b50).trans (show _ = some (Value.slice oa os.length ocap) from rfl)
            have y3 := (cell_of_row W50 _ 3 _ _ _ z50).trans (show _ = some (Value.slice none 0 0) from rfl)
            have f3 := frozen_of_row W50 _ 3 _ _ z50
            go_wp2
            have r1 := heap_setCell_same W50 w.heap.size 0 _ _ (.int .i64 id) z50
            have r2 := heap_setCell_same _ w.heap.size 1 _ _ (.int .i64 tn) r1
            have r3 := heap_setCell_same _ w.heap.size 2 _ _ (.slice ub (cs.length + 1) ubc) r2
            have r4 := heap_setCell_same _ w.heap.size 3 _ _ (.slice oa os.length ocap) r3
            have D99 := ((((D50.set (R := w.heap.size) (Nat.le_refl _) 0 (.int .i64 id)).set (R := w.heap.size) (Nat.le_refl _) 1 (.int .i64 tn)).set (R := w.heap.size) (Nat.le_refl _) 2 (.slice ub (cs.length + 1) ubc)).set (R := w.heap.size) (Nat.le_refl _) 3 (.slice oa os.length ocap))
            have oc99 := (ownsC_low (ownsC_low (ownsC_low (ownsC_low oc50 (b := w.heap.size) HS1.out 0 (.int .i64 id)) (b := w.heap.size) HS1.out 1 (.int .i64 tn)) (b := w.heap.size) HS1.out 2 (.slice ub (cs.length + 1) ubc)) (b := w.heap.size) HS1.out 3 (.slice oa os.length ocap))
            have on99 := (ownsN_low (ownsN_low (ownsN_low (ownsN_low on50 (b := w.heap.size) HS1.out 0 (.int .i64 id)) (b := w.heap.size) HS1.out 1 (.int .i64 tn)) (b := w.heap.size) HS1.out 2 (.slice ub (cs.length + 1) ubc)) (b := w.heap.size) HS1.out 3 (.slice oa os.length ocap))
            have e0 := cell_of_row _ _ 0 _ _ _ r4
            have e1 := cell_of_row _ _ 1 _ _ _ r4
            have e2 := cell_of_row _ _ 2 _ _ _ r4
            have e3 := cell_of_row _ _ 3 _ _ _ r4
            simp at e0 e1 e2 e3
            refine bodyPost_ret (v := qV id tn (.slice ub (cs.length + 1) ubc) (.slice oa os.length ocap)) ?_ rfl ?_
            · simp [results, Tryz.f23, go_sem, e0, e1, e2, e3, qV]
            · exact ⟨id, tn, _, _, _, _, rfl, ownsC_up oc99 (by have := HS1.out; omega), ownsN_up on99 (by have := HS1.out; omega), by have := HCL.out; simp; omega, by have := HOL.out; omega, D99⟩
          · go_simp
            have D6 := D5.alloc (.cells (qhis.map (Value.int .i64)).toArray 3 (0, 0))
            have z6 := keepA (.cells (qhis.map (Value.int .i64)).toArray 3 (0, 0)) z5
            have b6 := keepA (.cells (qhis.map (Value.int .i64)).toArray 3 (0, 0)) b5
            have oc6 : OwnsC _ w1.heap.size _ cs := oc5.alloc (.cells (qhis.map (Value.int .i64)).toArray 3 (0, 0))
            have on6 : OwnsN _ w1.heap.size _ os := on5.alloc (.cells (qhis.map (Value.int .i64)).toArray 3 (0, 0))
            have lst6 := heap_alloc_new w5 (.cells (qhis.map (Value.int .i64)).toArray 3 (0, 0))
            have HLC : Hid (w5.heap.size ≠ c) := Lib.hid (D5.ne D5.size)
            obtain ⟨lb, hlb⟩ : ∃ lb, w5.heap.size = lb := ⟨_, rfl⟩
            rw [hlb] at lst6 HLC ⊢
            clear hlb
            obtain ⟨w6, hW6⟩ : ∃ W, w5.alloc (.cells #[.int .i64 2, .int .i64 3, .int .i64 99, .int .i64 100] 3) = W := ⟨_, rfl⟩
            have hV6 : w5.alloc (.cells (qhis.map (Value.int .i64)).toArray 3 (0, 0)) = w6 := hW6
            rw [hW6]
            rw [hV6] at D6 z6 b6 oc6 on6 lst6
            clear hW6 hV6
            refine hK.out _ _ trivial (fun hHeld => ?_)
            clear hK K
            try simp only [Act.put, List.setIfInBounds_toArray, List.set_cons_zero, List.set_cons_succ]
            refine wpAnyH_ready (rs := [3]) (by kernel_rfl) (by simp) ?_
            refine (AllReadyH.cons (o := _) (by simp only [List.getElem?_toArray, List.getElem?_cons_succ, List.getElem?_cons_zero]; rfl) (fun K hK => ?_) AllReadyH.nil)
            go_simp
            refine Calls.mono (below_any w0 c v xs _ D6.cur 4 (by omega) (by omega)) ?_
            rintro e w7 ⟨f, fl, fh, rfl, hC7, hg7⟩
            have D7 := D6.call hC7 hg7
            have z7 := keep hg7 (D6.ne (Nat.le_refl _)) z6
            have b7 := keep hg7 (D6.ne HR.out) b6
            have oc7 : OwnsC w7 w1.heap.size _ cs := kept_low oc6 hg7 (by have := D6.lt; have := HS1.out; omega)
            have on7 := ownsN_grown on6 hg7 (by have := D6.lt; have := HS1.out; omega)
            have lst7 := keep hg7 HLC.out lst6
            refine hK.out _ _ trivial (fun hHeld => ?_)
            clear hK K
            try simp only [Act.put, List.setIfInBounds_toArray, List.set_cons_zero, List.set_cons_succ]
            refine wpAnyH_ready (rs := [6]) (by kernel_rfl) (by simp) ?_
            refine (AllReadyH.cons (o := _) (by simp only [List.getElem?_toArray, List.getElem?_cons_succ, List.getElem?_cons_zero]; rfl) (fun K hK => ?_) AllReadyH.nil)
            go_simp
            refine Calls.mono (pick_any w0 c v xs _ D7.cur lb qhis 2 100 (by decide) (by decide) (by decide) lst7 HLC.out) ?_
            rintro e w8 ⟨y, yl, yh, rfl, hC8, hg8⟩
            have D8 := D7.call hC8 hg8
            have z8 := keep hg8 (D7.ne (Nat.le_refl _)) z7
            have b8 := keep hg8 (D7.ne HR.out) b7
            have oc8 : OwnsC w8 w1.heap.size _ cs := kept_low oc7 hg8 (by have := D7.lt; have := HS1.out; omega)
            have on8 := ownsN_grown on7 hg8 (by have := D7.lt; have := HS1.out; omega)
            refine hK.out _ _ trivial (fun hHeld => ?_)
            clear hK K
            try simp only [Act.put, List.setIfInBounds_toArray, List.set_cons_zero, List.set_cons_succ]
            refine take_runs (i := 7) (v := ?_) (by simp only [List.getElem?_toArray, List.getElem?_cons_succ, List.getElem?_cons_zero]; rfl) (by kernel_rfl) (by kernel_rfl) (by kernel_rfl) rfl (by exact fun _ _ _ h => h) (by rfl) ?_ (by assumption) ?_
            rotate_left
            · intro w hSw; (try dsimp only at hSw); go_simp; try (with_reducible rfl)
            try simp only [Act.put, List.setIfInBounds_toArray, List.set_cons_zero, List.set_cons_succ]
            refine wpAnyH_ready (rs := [8]) (by kernel_rfl) (by simp) ?_
            refine (AllReadyH.cons (o := _) (by simp only [List.getElem?_toArray, List.getElem?_cons_succ, List.getElem?_cons_zero]; rfl) (fun K hK => ?_) AllReadyH.nil)
            go_simp
            have D9 := D8.alloc (.cells #[.int .i64 f, .int .i64 3, .int .i64 y] 67)
            have z9 := keepA (.cells #[.int .i64 f, .int .i64 3, .int .i64 y] 67) z8
            have b9 := keepA (.cells #[.int .i64 f, .int .i64 3, .int .i64 y] 67) b8
            have oc9 : OwnsC _ w1.heap.size _ cs := oc8.alloc (.cells #[.int .i64 f, .int .i64 3, .int .i64 y] 67)
            have on9 : OwnsN _ w1.heap.size _ os := on8.alloc (.cells #[.int .i64 f, .int .i64 3, .int .i64 y] 67)
            have cc9 : (w8.alloc (.cells #[.int .i64 f, .int .i64 3, .int .i64 y] 67)).cell? ⟨w8.heap.size, 0, none⟩ = some (.int .i64 f) ∧ (w8.alloc (.cells #[.int .i64 f, .int .i64 3, .int .i64 y] 67)).cell? ⟨w8.heap.size, 1, none⟩ = some (.int .i64 3) ∧ (w8.alloc (.cells #[.int .i64 f, .int .i64 3, .int .i64 y] 67)).cell? ⟨w8.heap.size, 2, none⟩ = some (.int .i64 y) := ⟨(cell_lit w8 #[.int .i64 f, .int .i64 3, .int .i64 y] 67 0).trans rfl, (cell_lit w8 #[.int .i64 f, .int .i64 3, .int .i64 y] 67 1).trans rfl, (cell_lit w8 #[.int .i64 f, .int .i64 3, .int .i64 y] 67 2).trans rfl⟩
            obtain ⟨w9, hW9⟩ : ∃ W, w8.alloc (.cells #[.int .i64 f, .int .i64 3, .int .i64 y] 67) = W := ⟨_, rfl⟩
            have hV9 : w8.alloc (.cells #[.int .i64 f, .int .i64 3, .int .i64 y] 67) = w9 := hW9
            rw [hW9]
            rw [hV9] at D9 z9 b9 oc9 on9 cc9
            clear hW9 hV9
            refine hK.out _ _ trivial (fun hHeld => ?_)
            clear hK K
            try simp only [Act.put, List.setIfInBounds_toArray, List.set_cons_zero, List.set_cons_succ]
            refine wpAnyH_ready (rs := [9]) (by kernel_rfl) (by simp) ?_
            refine (AllReadyH.cons (o := _) (by simp only [List.getElem?_toArray, List.getElem?_cons_succ, List.getElem?_cons_zero]; rfl) (fun K hK => ?_) AllReadyH.nil)
            refine step_append_cond1 rfl (.tmp 25) (.tmp 32) rfl w1.heap.size (.slice ca cs.length ccap) cs w8.heap.size f 3 y rfl rfl oc9 cc9 (by have h1 := D9.size; have h2 := (Array.getElem?_eq_some_iff.1 b9).1; have := HW1.out; omega) (by have := HCL.out; omega) ?_
            intro u10 w10 o10 g10
            obtain ⟨ub, ubc, rfl⟩ := ownsC_len o10
            have oN10 : OwnsC w10 w1.heap.size (.slice ub (cs.length + 1) ubc) (cs ++ [(f, 3, y)]) := by simpa using o10
            have bl10 := (Below.refl w1.heap.size _).grown g10 (by have h2 := (Array.getElem?_eq_some_iff.1 b9).1; have := HW1.out; omega) (fun q hq => (oc9.lt q hq).1)
            have b10 := (g10.block R (Array.getElem?_eq_some_iff.1 b9).1 (fun e => HCR.out e.symm)).trans b9
            have z10 := (g10.block w.heap.size (Array.getElem?_eq_some_iff.1 z9).1 (fun e => HCZ.out e.symm)).trans z9
            have D10 := D9.below bl10 (by have := HS1.out; omega)
            have on10 : OwnsN w10 w1.heap.size _ os := World.ownsRow.kept on9 g10 (apartN HAP.out)
            simp only [List.length_append, List.length_cons, List.length_nil, Nat.zero_add]
            refine hK.out _ _ trivial (fun hHeld => ?_)
            clear hK K
            try simp only [Act.put, List.setIfInBounds_toArray, List.set_cons_zero, List.set_cons_succ]
            refine take_runs (i := 10) (v := ?_) (by simp only [List.getElem?_toArray, List.getElem?_cons_succ, List.getElem?_cons_zero]; rfl) (by kernel_rfl) (by kernel_rfl) (by kernel_rfl) rfl (by exact fun _ _ _ h => h) (by rfl) ?_ (by assumption) ?_
            rotate_left
            · intro w hSw; (try dsimp only at hSw); go_simp; try (with_reducible rfl)
            try simp only [Act.put, List.setIfInBounds_toArray, List.set_cons_zero, List.set_cons_succ]
            have h2 := (cell_of_row w10 _ 2 _ _ _ b10).trans (show _ = some (Value.slice ca cs.length ccap) from rfl)
            have k2 := frozen_of_row w10 _ 2 _ _ b10
            refine wpAnyH_ready (rs := [11]) (by kernel_rfl) (by simp) ?_
            refine (AllReadyH.cons (o := _) (by simp only [List.getElem?_toArray, List.getElem?_cons_succ, List.getElem?_cons_zero]; rfl) (fun K hK => ?_) AllReadyH.nil)
            go_simp
            have b50 := heap_setCell_same w10 R 2 _ _ (.slice ub (cs.length + 1) ubc) b10
            have z50 := (heap_setCell_other w10 ⟨R, 2, none⟩ w.heap.size (.slice ub (cs.length + 1) ubc) (by simpa using hn2)).trans z10
            have D50 := D10.set (R := R) HR.out 2 (.slice ub (cs.length + 1) ubc)
            have oc50 : OwnsC (w10.setCell ⟨R, 2, none⟩ (.slice ub (cs.length + 1) ubc)) w1.heap.size _ _ := owns_off oN10 (owns_apart oN10 b10 (by decide)) 2 _
            have on50 : OwnsN (w10.setCell ⟨R, 2, none⟩ (.slice ub (cs.length + 1) ubc)) w1.heap.size _ os := owns_off on10 HOR.out 2 _
            refine hK.out _ _ trivial (fun hHeld => ?_)
            clear hK K
            try simp only [Act.put, List.setIfInBounds_toArray, List.set_cons_zero, List.set_cons_succ]
            refine wpAnyH_done (by kernel_rfl) ?_ _
            obtain ⟨W50, hW50⟩ : ∃ W, (w10.setCell ⟨R, 2, none⟩ (.slice ub (cs.length + 1) ubc)) = W := ⟨_, rfl⟩
            rw [hW50] at b50 z50 D50 oc50 on50 ⊢
            clear hW50 hHeld
            simp only [List.setIfInBounds_toArray, List.set_cons_zero, List.set_cons_succ] at b50
            have q0 := (cell_of_row W50 _ 0 _ _ _ b50).trans (show _ = some (Value.int .i64 id) from rfl)
            have y0 := (cell_of_row W50 _ 0 _ _ _ z50).trans (show _ = some (Value.int .i64 0) from rfl)
            have f0 := frozen_of_row W50 _ 0 _ _ z50
            have q1 := (cell_of_row W50 _ 1 _ _ _ b50).trans (show _ = some (Value.int .i64 tn) from rfl)
            have y1 := (cell_of_row W50 _ 1 _ _ _ z50).trans (show _ = some (Value.int .i64 0) from rfl)
            have f1 := frozen_of_row W50 _ 1 _ _ z50
            have q2 := (cell_of_row W50 _ 2 _ _ _ b50).trans (show _ = some (Value.slice ub (cs.length + 1) ubc) from rfl)
            have y2 := (cell_of_row W50 _ 2 _ _ _ z50).trans (show _ = some (Value.slice none 0 0) from rfl)
            have f2 := frozen_of_row W50 _ 2 _ _ z50
            have q3 := (cell_of_row W50 _ 3 _ _ _ b50).trans (show _ = some (Value.slice oa os.length ocap) from rfl)
            have y3 := (cell_of_row W50 _ 3 _ _ _ z50).trans (show _ = some (Value.slice none 0 0) from rfl)
            have f3 := frozen_of_row W50 _ 3 _ _ z50
            go_wp2
            have r1 := heap_setCell_same W50 w.heap.size 0 _ _ (.int .i64 id) z50
            have r2 := heap_setCell_same _ w.heap.size 1 _ _ (.int .i64 tn) r1
            have r3 := heap_setCell_same _ w.heap.size 2 _ _ (.slice ub (cs.length + 1) ubc) r2
            have r4 := heap_setCell_same _ w.heap.size 3 _ _ (.slice oa os.length ocap) r3
            have D99 := ((((D50.set (R := w.heap.size) (Nat.le_refl _) 0 (.int .i64 id)).set (R := w.heap.size) (Nat.le_refl _) 1 (.int .i64 tn)).set (R := w.heap.size) (Nat.le_refl _) 2 (.slice ub (cs.length + 1) ubc)).set (R := w.heap.size) (Nat.le_refl _) 3 (.slice oa os.length ocap))
            have oc99 := (ownsC_low (ownsC_low (ownsC_low (ownsC_low oc50 (b := w.heap.size) HS1.out 0 (.int .i64 id)) (b := w.heap.size) HS1.out 1 (.int .i64 tn)) (b := w.heap.size) HS1.out 2 (.slice ub (cs.length + 1) ubc)) (b := w.heap.size) HS1.out 3 (.slice oa os.length ocap))
            have on99 := (ownsN_low (ownsN_low (ownsN_low (ownsN_low on50 (b := w.heap.size) HS1.out 0 (.int .i64 id)) (b := w.heap.size) HS1.out 1 (.int .i64 tn)) (b := w.heap.size) HS1.out 2 (.slice ub (cs.length + 1) ubc)) (b := w.heap.size) HS1.out 3 (.slice oa os.length ocap))
            have e0 := cell_of_row _ _ 0 _ _ _ r4
            have e1 := cell_of_row _ _ 1 _ _ _ r4
            have e2 := cell_of_row _ _ 2 _ _ _ r4
            have e3 := cell_of_row _ _ 3 _ _ _ r4
            simp at e0 e1 e2 e3
            refine bodyPost_ret (v := qV id tn (.slice ub (cs.length + 1) ubc) (.slice oa os.length ocap)) ?_ rfl ?_
            · simp [results, Tryz.f23, go_sem, e0, e1, e2, e3, qV]
            · exact ⟨id, tn, _, _, _, _, rfl, ownsC_up oc99 (by have := HS1.out; omega), ownsN_up on99 (by have := HS1.out; omega), by have := HCL.out; simp; omega, by have := HOL.out; omega, D99⟩
        · go_simp
          refine Calls.mono (below_any w0 c v xs _ D5.cur 4 (by omega) (by omega)) ?_
          rintro e w6 ⟨f, fl, fh, rfl, hC6, hg6⟩
          have D6 := D5.call hC6 hg6
          have z6 := keep hg6 (D5.ne (Nat.le_refl _)) z5
          have b6 := keep hg6 (D5.ne HR.out) b5
          have oc6 : OwnsC w6 w1.heap.size _ cs := kept_low oc5 hg6 (by have := D5.lt; have := HS1.out; omega)
          have on6 := ownsN_grown on5 hg6 (by have := D5.lt; have := HS1.out; omega)
          refine hK.out _ _ trivial (fun hHeld => ?_)
          clear hK K
          try simp only [Act.put, List.setIfInBounds_toArray, List.set_cons_zero, List.set_cons_succ]
          refine wpAnyH_ready (rs := [1, 5]) (by kernel_rfl) (by simp) ?_
          refine (AllReadyH.cons (o := _) (by simp only [List.getElem?_toArray, List.getElem?_cons_succ, List.getElem?_cons_zero]; rfl) (fun K hK => ?_) (AllReadyH.cons (o := _) (by simp only [List.getElem?_toArray, List.getElem?_cons_succ, List.getElem?_cons_zero]; rfl) (fun K hK => ?_) AllReadyH.nil))
          · have p6 := (cell_of_row w6 _ 2 _ _ _ b6).trans (show _ = some (Value.slice ca cs.length ccap) from rfl)
            go_simp
            refine hK.out _ _ trivial (fun hHeld => ?_)
            clear hK K
            try simp only [Act.put, List.setIfInBounds_toArray, List.set_cons_zero, List.set_cons_succ]
            refine wpAnyH_ready (rs := [5]) (by kernel_rfl) (by simp) ?_
            refine (AllReadyH.cons (o := _) (by simp only [List.getElem?_toArray, List.getElem?_cons_succ, List.getElem?_cons_zero]; rfl) (fun K hK => ?_) AllReadyH.nil)
            go_simp
            have D7 := D6.alloc (.cells (qhis.map (Value.int .i64)).toArray 3 (0, 0))
            have z7 := keepA (.cells (qhis.map (Value.int .i64)).toArray 3 (0, 0)) z6
            have b7 := keepA (.cells (qhis.map (Value.int .i64)).toArray 3 (0, 0)) b6
            have oc7 : OwnsC _ w1.heap.size _ cs := oc6.alloc (.cells (qhis.map (Value.int .i64)).toArray 3 (0, 0))
            have on7 : OwnsN _ w1.heap.size _ os := on6.alloc (.cells (qhis.map (Value.int .i64)).toArray 3 (0, 0))
            have lst7 := heap_alloc_new w6 (.cells (qhis.map (Value.int .i64)).toArray 3 (0, 0))
            have HLC : Hid (w6.heap.size ≠ c) := Lib.hid (D6.ne D6.size)
            obtain ⟨lb, hlb⟩ : ∃ lb, w6.heap.size = lb := ⟨_, rfl⟩
            rw [hlb] at lst7 HLC ⊢
            clear hlb
            obtain ⟨w7, hW7⟩ : ∃ W, w6.alloc (.cells #[.int .i64 2, .int .i64 3, .int .i64 99, .int .i64 100] 3) = W := ⟨_, rfl⟩
            have hV7 : w6.alloc (.cells (qhis.map (Value.int .i64)).toArray 3 (0, 0)) = w7 := hW7
            rw [hW7]
            rw [hV7] at D7 z7 b7 oc7 on7 lst7
            clear hW7 hV7
            refine hK.out _ _ trivial (fun hHeld => ?_)
            clear hK K
            try simp only [Act.put, List.setIfInBounds_toArray, List.set_cons_zero, List.set_cons_succ]
            refine wpAnyH_ready (rs := [6]) (by kernel_rfl) (by simp) ?_
            refine (AllReadyH.cons (o := _) (by simp only [List.getElem?_toArray, List.getElem?_cons_succ, List.getElem?_cons_zero]; rfl) (fun K hK => ?_) AllReadyH.nil)
            go_simp
            refine Calls.mono (pick_any w0 c v xs _ D7.cur lb qhis 2 100 (by decide) (by decide) (by decide) lst7 HLC.out) ?_
            rintro e w8 ⟨y, yl, yh, rfl, hC8, hg8⟩
            have D8 := D7.call hC8 hg8
            have z8 := keep hg8 (D7.ne (Nat.le_refl _)) z7
            have b8 := keep hg8 (D7.ne HR.out) b7
            have oc8 : OwnsC w8 w1.heap.size _ cs := kept_low oc7 hg8 (by have := D7.lt; have := HS1.out; omega)
            have on8 := ownsN_grown on7 hg8 (by have := D7.lt; have := HS1.out; omega)
            refine hK.out _ _ trivial (fun hHeld => ?_)
            clear hK K
            try simp only [Act.put, List.setIfInBounds_toArray, List.set_cons_zero, List.set_cons_succ]
            refine take_runs (i := 7) (v := ?_) (by simp only [List.getElem?_toArray, List.getElem?_cons_succ, List.getElem?_cons_zero]; rfl) (by kernel_rfl) (by kernel_rfl) (by kernel_rfl) rfl (by exact fun _ _ _ h => h) (by rfl) ?_ (by assumption) ?_
            rotate_left
            · intro w hSw; (try dsimp only at hSw); go_simp; try (with_reducible rfl)
            try simp only [Act.put, List.setIfInBounds_toArray, List.set_cons_zero, List.set_cons_succ]
            refine wpAnyH_ready (rs := [8]) (by kernel_rfl) (by simp) ?_
            refine (AllReadyH.cons (o := _) (by simp only [List.getElem?_toArray, List.getElem?_cons_succ, List.getElem?_cons_zero]; rfl) (fun K hK => ?_) AllReadyH.nil)
            go_simp
            have D9 := D8.alloc (.cells #[.int .i64 f, .int .i64 3, .int .i64 y] 67)
            have z9 := keepA (.cells #[.int .i64 f, .int .i64 3, .int .i64 y] 67) z8
            have b9 := keepA (.cells #[.int .i64 f, .int .i64 3, .int .i64 y] 67) b8
            have oc9 : OwnsC _ w1.heap.size _ cs := oc8.alloc (.cells #[.int .i64 f, .int .i64 3, .int .i64 y] 67)
            have on9 : OwnsN _ w1.heap.size _ os := on8.alloc (.cells #[.int .i64 f, .int .i64 3, .int .i64 y] 67)
            have cc9 : (w8.alloc (.cells #[.int .i64 f, .int .i64 3, .int .i64 y] 67)).cell? ⟨w8.heap.size, 0, none⟩ = some (.int .i64 f) ∧ (w8.alloc (.cells #[.int .i64 f, .int .i64 3, .int .i64 y] 67)).cell? ⟨w8.heap.size, 1, none⟩ = some (.int .i64 3) ∧ (w8.alloc (.cells #[.int .i64 f, .int .i64 3, .int .i64 y] 67)).cell? ⟨w8.heap.size, 2, none⟩ = some (.int .i64 y) := ⟨(cell_lit w8 #[.int .i64 f, .int .i64 3, .int .i64 y] 67 0).trans rfl, (cell_lit w8 #[.int .i64 f, .int .i64 3, .int .i64 y] 67 1).trans rfl, (cell_lit w8 #[.int .i64 f, .int .i64 3, .int .i64 y] 67 2).trans rfl⟩
            obtain ⟨w9, hW9⟩ : ∃ W, w8.alloc (.cells #[.int .i64 f, .int .i64 3, .int .i64 y] 67) = W := ⟨_, rfl⟩
            have hV9 : w8.alloc (.cells #[.int .i64 f, .int .i64 3, .int .i64 y] 67) = w9 := hW9
            rw [hW9]
            rw [hV9] at D9 z9 b9 oc9 on9 cc9
            clear hW9 hV9
            refine hK.out _ _ trivial (fun hHeld => ?_)
            clear hK K
            try simp only [Act.put, List.setIfInBounds_toArray, List.set_cons_zero, List.set_cons_succ]
            refine wpAnyH_ready (rs := [9]) (by kernel_rfl) (by simp) ?_
            refine (AllReadyH.cons (o := _) (by simp only [List.getElem?_toArray, List.getElem?_cons_succ, List.getElem?_cons_zero]; rfl) (fun K hK => ?_) AllReadyH.nil)
            refine step_append_cond1 rfl (.tmp 25) (.tmp 32) rfl w1.heap.size (.slice ca cs.length ccap) cs w8.heap.size f 3 y rfl rfl oc9 cc9 (by have h1 := D9.size; have h2 := (Array.getElem?_eq_some_iff.1 b9).1; have := HW1.out; omega) (by have := HCL.out; omega) ?_
            intro u10 w10 o10 g10
            obtain ⟨ub, ubc, rfl⟩ := ownsC_len o10
            have oN10 : OwnsC w10 w1.heap.size (.slice ub (cs.length + 1) ubc) (cs ++ [(f, 3, y)]) := by simpa using o10
            have bl10 := (Below.refl w1.heap.size _).grown g10 (by have h2 := (Array.getElem?_eq_some_iff.1 b9).1; have := HW1.out; omega) (fun q hq => (oc9.lt q hq).1)
            have b10 := (g10.block R (Array.getElem?_eq_some_iff.1 b9).1 (fun e => HCR.out e.symm)).trans b9
            have z10 := (g10.block w.heap.size (Array.getElem?_eq_some_iff.1 z9).1 (fun e => HCZ.out e.symm)).trans z9
            have D10 := D9.below bl10 (by have := HS1.out; omega)
            have on10 : OwnsN w10 w1.heap.size _ os := World.ownsRow.kept on9 g10 (apartN HAP.out)
            simp only [List.length_append, List.length_cons, List.length_nil, Nat.zero_add]
            refine hK.out _ _ trivial (fun hHeld => ?_)
            clear hK K
            try simp only [Act.put, List.setIfInBounds_toArray, List.set_cons_zero, List.set_cons_succ]
            refine take_runs (i := 10) (v := ?_) (by simp only [List.getElem?_toArray, List.getElem?_cons_succ, List.getElem?_cons_zero]; rfl) (by kernel_rfl) (by kernel_rfl) (by kernel_rfl) rfl (by exact fun _ _ _ h => h) (by rfl) ?_ (by assumption) ?_
            rotate_left
            · intro w hSw; (try dsimp only at hSw); go_simp; try (with_reducible rfl)
            try simp only [Act.put, List.setIfInBounds_toArray, List.set_cons_zero, List.set_cons_succ]
            have h2 := (cell_of_row w10 _ 2 _ _ _ b10).trans (show _ = some (Value.slice ca cs.length ccap) from rfl)
            have k2 := frozen_of_row w10 _ 2 _ _ b10
            refine wpAnyH_ready (rs := [11]) (by kernel_rfl) (by simp) ?_
            refine (AllReadyH.cons (o := _) (by simp only [List.getElem?_toArray, List.getElem?_cons_succ, List.getElem?_cons_zero]; rfl) (fun K hK => ?_) AllReadyH.nil)
            go_simp
            have b50 := heap_setCell_same w10 R 2 _ _ (.slice ub (cs.length + 1) ubc) b10
            have z50 := (heap_setCell_other w10 ⟨R, 2, none⟩ w.heap.size (.slice ub (cs.length + 1) ubc) (by simpa using hn2)).trans z10
            have D50 := D10.set (R := R) HR.out 2 (.slice ub (cs.length + 1) ubc)
            have oc50 : OwnsC (w10.setCell ⟨R, 2, none⟩ (.slice ub (cs.length + 1) ubc)) w1.heap.size _ _ := owns_off oN10 (owns_apart oN10 b10 (by decide)) 2 _
            have on50 : OwnsN (w10.setCell ⟨R, 2, none⟩ (.slice ub (cs.length + 1) ubc)) w1.heap.size _ os := owns_off on10 HOR.out 2 _
            refine hK.out _ _ trivial (fun hHeld => ?_)
            clear hK K
            try simp only [Act.put, List.setIfInBounds_toArray, List.set_cons_zero, List.set_cons_succ]
            refine wpAnyH_done (by kernel_rfl) ?_ _
            obtain ⟨W50, hW50⟩ : ∃ W, (w10.setCell ⟨R, 2, none⟩ (.slice ub (cs.length + 1) ubc)) = W := ⟨_, rfl⟩
            rw [hW50] at b50 z50 D50 oc50 on50 ⊢
            clear hW50 hHeld
            simp only [List.setIfInBounds_toArray, List.set_cons_zero, List.set_cons_succ] at b50
            have q0 := (cell_of_row W50 _ 0 _ _ _ b50).trans (show _ = some (Value.int .i64 id) from rfl)
            have y0 := (cell_of_row W50 _ 0 _ _ _ z50).trans (show _ = some (Value.int .i64 0) from rfl)
            have f0 := frozen_of_row W50 _ 0 _ _ z50
            have q1 := (cell_of_row W50 _ 1 _ _ _ b50).trans (show _ = some (Value.int .i64 tn) from rfl)
            have y1 := (cell_of_row W50 _ 1 _ _ _ z50).trans (show _ = some (Value.int .i64 0) from rfl)
            have f1 := frozen_of_row W50 _ 1 _ _ z50
            have q2 := (cell_of_row W50 _ 2 _ _ _ b50).trans (show _ = some (Value.slice ub (cs.length + 1) ubc) from rfl)
            have y2 := (cell_of_row W50 _ 2 _ _ _ z50).trans (show _ = some (Value.slice none 0 0) from rfl)
            have f2 := frozen_of_row W50 _ 2 _ _ z50
            have q3 := (cell_of_row W50 _ 3 _ _ _ b50).trans (show _ = some (Value.slice oa os.length ocap) from rfl)
            have y3 := (cell_of_row W50 _ 3 _ _ _ z50).trans (show _ = some (Value.slice none 0 0) from rfl)
            have f3 := frozen_of_row W50 _ 3 _ _ z50
            go_wp2
            have r1 := heap_setCell_same W50 w.heap.size 0 _ _ (.int .i64 id) z50
            have r2 := heap_setCell_same _ w.heap.size 1 _ _ (.int .i64 tn) r1
            have r3 := heap_setCell_same _ w.heap.size 2 _ _ (.slice ub (cs.length + 1) ubc) r2
            have r4 := heap_setCell_same _ w.heap.size 3 _ _ (.slice oa os.length ocap) r3
            have D99 := ((((D50.set (R := w.heap.size) (Nat.le_refl _) 0 (.int .i64 id)).set (R := w.heap.size) (Nat.le_refl _) 1 (.int .i64 tn)).set (R := w.heap.size) (Nat.le_refl _) 2 (.slice ub (cs.length + 1) ubc)).set (R := w.heap.size) (Nat.le_refl _) 3 (.slice oa os.length ocap))
            have oc99 := (ownsC_low (ownsC_low (ownsC_low (ownsC_low oc50 (b := w.heap.size) HS1.out 0 (.int .i64 id)) (b := w.heap.size) HS1.out 1 (.int .i64 tn)) (b := w.heap.size) HS1.out 2 (.slice ub (cs.length + 1) ubc)) (b := w.heap.size) HS1.out 3 (.slice oa os.length ocap))
            have on99 := (ownsN_low (ownsN_low (ownsN_low (ownsN_low on50 (b := w.heap.size) HS1.out 0 (.int .i64 id)) (b := w.heap.size) HS1.out 1 (.int .i64 tn)) (b := w.heap.size) HS1.out 2 (.slice ub (cs.length + 1) ubc)) (b := w.heap.size) HS1.out 3 (.slice oa os.length ocap))
            have e0 := cell_of_row _ _ 0 _ _ _ r4
            have e1 := cell_of_row _ _ 1 _ _ _ r4
            have e2 := cell_of_row _ _ 2 _ _ _ r4
            have e3 := cell_of_row _ _ 3 _ _ _ r4
            simp at e0 e1 e2 e3
            refine bodyPost_ret (v := qV id tn (.slice ub (cs.length + 1) ubc) (.slice oa os.length ocap)) ?_ rfl ?_
            · simp [results, Tryz.f23, go_sem, e0, e1, e2, e3, qV]
            · exact ⟨id, tn, _, _, _, _, rfl, ownsC_up oc99 (by have := HS1.out; omega), ownsN_up on99 (by have := HS1.out; omega), by have := HCL.out; simp; omega, by have := HOL.out; omega, D99⟩
          · go_simp
            have D7 := D6.alloc (.cells (qhis.map (Value.int .i64)).toArray 3 (0, 0))
            have z7 := keepA (.cells (qhis.map (Value.int .i64)).toArray 3 (0, 0)) z6
            have b7 := keepA (.cells (qhis.map (Value.int .i64)).toArray 3 (0, 0)) b6
            have oc7 : OwnsC _ w1.heap.size _ cs := oc6.alloc (.cells (qhis.map (Value.int .i64)).toArray 3 (0, 0))
            have on7 : OwnsN _ w1.heap.size _ os := on6.alloc (.cells (qhis.map (Value.int .i64)).toArray 3 (0, 0))
            have lst7 := heap_alloc_new w6 (.cells (qhis.map (Value.int .i64)).toArray 3 (0, 0))
            have HLC : Hid (w6.heap.size ≠ c) := Lib.hid (D6.ne D6.size)
            obtain ⟨lb, hlb⟩ : ∃ lb, w6.heap.size = lb := ⟨_, rfl⟩
            rw [hlb] at lst7 HLC ⊢
            clear hlb
            obtain ⟨w7, hW7⟩ : ∃ W, w6.alloc (.cells #[.int .i64 2, .int .i64 3, .int .i64 99, .int .i64 100] 3) = W := ⟨_, rfl⟩
            have hV7 : w6.alloc (.cells (qhis.map (Value.int .i64)).toArray 3 (0, 0)) = w7 := hW7
            rw [hW7]
            rw [hV7] at D7 z7 b7 oc7 on7 lst7
            clear hW7 hV7
            refine hK.out _ _ trivial (fun hHeld => ?_)
            clear hK K
            try simp only [Act.put, List.setIfInBounds_toArray, List.set_cons_zero, List.set_cons_succ]
            refine wpAnyH_ready (rs := [1, 6]) (by kernel_rfl) (by simp) ?_
            refine (AllReadyH.cons (o := _) (by simp only [List.getElem?_toArray, List.getElem?_cons_succ, List.getElem?_cons_zero]; rfl) (fun K hK => ?_) (AllReadyH.cons (o := _) (by simp only [List.getElem?_toArray, List.getElem?_cons_succ, List.getElem?_cons_zero]; rfl) (fun K hK => ?_) AllReadyH.nil))
            · have p7 := (cell_of_row w7 _ 2 _ _ _ b7).trans (show _ = some (Value.slice ca cs.length ccap) from rfl)
              go_simp
              refine hK.out _ _ trivial (fun hHeld => ?_)
              clear hK K
              try simp only [Act.put, List.setIfInBounds_toArray, List.set_cons_zero, List.set_cons_succ]
              refine wpAnyH_ready (rs := [6]) (by kernel_rfl) (by simp) ?_
              refine (AllReadyH.cons (o := _) (by simp only [List.getElem?_toArray, List.getElem?_cons_succ, List.getElem?_cons_zero]; rfl) (fun K hK => ?_) AllReadyH.nil)
              go_simp
              refine Calls.mono (pick_any w0 c v xs _ D7.cur lb qhis 2 100 (by decide) (by decide) (by decide) lst7 HLC.out) ?_
              rintro e w8 ⟨y, yl, yh, rfl, hC8, hg8⟩
              have D8 := D7.call hC8 hg8
              have z8 := keep hg8 (D7.ne (Nat.le_refl _)) z7
              have b8 := keep hg8 (D7.ne HR.out) b7
              have oc8 : OwnsC w8 w1.heap.size _ cs := kept_low oc7 hg8 (by have := D7.lt; have := HS1.out; omega)
              have on8 := ownsN_grown on7 hg8 (by have := D7.lt; have := HS1.out; omega)
              refine hK.out _ _ trivial (fun hHeld => ?_)
              clear hK K
              try simp only [Act.put, List.setIfInBounds_toArray, List.set_cons_zero, List.set_cons_succ]
              refine take_runs (i := 7) (v := ?_) (by simp only [List.getElem?_toArray, List.getElem?_cons_succ, List.getElem?_cons_zero]; rfl) (by kernel_rfl) (by kernel_rfl) (by kernel_rfl) rfl (by exact fun _ _ _ h => h) (by rfl) ?_ (by assumption) ?_
              rotate_left
              · intro w hSw; (try dsimp only at hSw); go_simp; try (with_reducible rfl)
              try simp only [Act.put, List.setIfInBounds_toArray, List.set_cons_zero, List.set_cons_succ]
              refine wpAnyH_ready (rs := [8]) (by kernel_rfl) (by simp) ?_
              refine (AllReadyH.cons (o := _) (by simp only [List.getElem?_toArray, List.getElem?_cons_succ, List.getElem?_cons_zero]; rfl) (fun K hK => ?_) AllReadyH.nil)
              go_simp
              have D9 := D8.alloc (.cells #[.int .i64 f, .int .i64 3, .int .i64 y] 67)
              have z9 := keepA (.cells #[.int .i64 f, .int .i64 3, .int .i64 y] 67) z8
              have b9 := keepA (.cells #[.int .i64 f, .int .i64 3, .int .i64 y] 67) b8
              have oc9 : OwnsC _ w1.heap.size _ cs := oc8.alloc (.cells #[.int .i64 f, .int .i64 3, .int .i64 y] 67)
              have on9 : OwnsN _ w1.heap.size _ os := on8.alloc (.cells #[.int .i64 f, .int .i64 3, .int .i64 y] 67)
              have cc9 : (w8.alloc (.cells #[.int .i64 f, .int .i64 3, .int .i64 y] 67)).cell? ⟨w8.heap.size, 0, none⟩ = some (.int .i64 f) ∧ (w8.alloc (.cells #[.int .i64 f, .int .i64 3, .int .i64 y] 67)).cell? ⟨w8.heap.size, 1, none⟩ = some (.int .i64 3) ∧ (w8.alloc (.cells #[.int .i64 f, .int .i64 3, .int .i64 y] 67)).cell? ⟨w8.heap.size, 2, none⟩ = some (.int .i64 y) := ⟨(cell_lit w8 #[.int .i64 f, .int .i64 3, .int .i64 y] 67 0).trans rfl, (cell_lit w8 #[.int .i64 f, .int .i64 3, .int .i64 y] 67 1).trans rfl, (cell_lit w8 #[.int .i64 f, .int .i64 3, .int .i64 y] 67 2).trans rfl⟩
              obtain ⟨w9, hW9⟩ : ∃ W, w8.alloc (.cells #[.int .i64 f, .int .i64 3, .int .i64 y] 67) = W := ⟨_, rfl⟩
              have hV9 : w8.alloc (.cells #[.int .i64 f, .int .i64 3, .int .i64 y] 67) = w9 := hW9
              rw [hW9]
              rw [hV9] at D9 z9 b9 oc9 on9 cc9
              clear hW9 hV9
              refine hK.out _ _ trivial (fun hHeld => ?_)
              clear hK K
              try simp only [Act.put, List.setIfInBounds_toArray, List.set_cons_zero, List.set_cons_succ]
              refine wpAnyH_ready (rs := [9]) (by kernel_rfl) (by simp) ?_
              refine (AllReadyH.cons (o := _) (by simp only [List.getElem?_toArray, List.getElem?_cons_succ, List.getElem?_cons_zero]; rfl) (fun K hK => ?_) AllReadyH.nil)
              refine step_append_cond1 rfl (.tmp 25) (.tmp 32) rfl w1.heap.size (.slice ca cs.length ccap) cs w8.heap.size f 3 y rfl rfl oc9 cc9 (by have h1 := D9.size; have h2 := (Array.getElem?_eq_some_iff.1 b9).1; have := HW1.out; omega) (by have := HCL.out; omega) ?_
              intro u10 w10 o10 g10
              obtain ⟨ub, ubc, rfl⟩ := ownsC_len o10
              have oN10 : OwnsC w10 w1.heap.size (.slice ub (cs.length + 1) ubc) (cs ++ [(f, 3, y)]) := by simpa using o10
              have bl10 := (Below.refl w1.heap.size _).grown g10 (by have h2 := (Array.getElem?_eq_some_iff.1 b9).1; have := HW1.out; omega) (fun q hq => (oc9.lt q hq).1)
              have b10 := (g10.block R (Array.getElem?_eq_some_iff.1 b9).1 (fun e => HCR.out e.symm)).trans b9
              have z10 := (g10.block w.heap.size (Array.getElem?_eq_some_iff.1 z9).1 (fun e => HCZ.out e.symm)).trans z9
              have D10 := D9.below bl10 (by have := HS1.out; omega)
              have on10 : OwnsN w10 w1.heap.size _ os := World.ownsRow.kept on9 g10 (apartN HAP.out)
              simp only [List.length_append, List.length_cons, List.length_nil, Nat.zero_add]
              refine hK.out _ _ trivial (fun hHeld => ?_)
              clear hK K
              try simp only [Act.put, List.setIfInBounds_toArray, List.set_cons_zero, List.set_cons_succ]
              refine take_runs (i := 10) (v := ?_) (by simp only [List.getElem?_toArray, List.getElem?_cons_succ, List.getElem?_cons_zero]; rfl) (by kernel_rfl) (by kernel_rfl) (by kernel_rfl) rfl (by exact fun _ _ _ h => h) (by rfl) ?_ (by assumption) ?_
              rotate_left
              · intro w hSw; (try dsimp only at hSw); go_simp; try (with_reducible rfl)
              try simp only [Act.put, List.setIfInBounds_toArray, List.set_cons_zero, List.set_cons_succ]
              have h2 := (cell_of_row w10 _ 2 _ _ _ b10).trans (show _ = some (Value.slice ca cs.length ccap) from rfl)
              have k2 := frozen_of_row w10 _ 2 _ _ b10
              refine wpAnyH_ready (rs := [11]) (by kernel_rfl) (by simp) ?_
              refine (AllReadyH.cons (o := _) (by simp only [List.getElem?_toArray, List.getElem?_cons_succ, List.getElem?_cons_zero]; rfl) (fun K hK => ?_) AllReadyH.nil)
              go_simp
              have b50 := heap_setCell_same w10 R 2 _ _ (.slice ub (cs.length + 1) ubc) b10
              have z50 := (heap_setCell_other w10 ⟨R, 2, none⟩ w.heap.size (.slice ub (cs.length + 1) ubc) (by simpa using hn2)).trans z10
              have D50 := D10.set (R := R) HR.out 2 (.slice ub (cs.length + 1) ubc)
              have oc50 : OwnsC (w10.setCell ⟨R, 2, none⟩ (.slice ub (cs.length + 1) ubc)) w1.heap.size _ _ := owns_off oN10 (owns_apart oN10 b10 (by decide)) 2 _
              have on50 : OwnsN (w10.setCell ⟨R, 2, none⟩ (.slice ub (cs.length + 1) ubc)) w1.heap.size _ os := owns_off on10 HOR.out 2 _
              refine hK.out _ _ trivial (fun hHeld => ?_)
              clear hK K
              try simp only [Act.put, List.setIfInBounds_toArray, List.set_cons_zero, List.set_cons_succ]
              refine wpAnyH_done (by kernel_rfl) ?_ _
              obtain ⟨W50, hW50⟩ : ∃ W, (w10.setCell ⟨R, 2, none⟩ (.slice ub (cs.length + 1) ubc)) = W := ⟨_, rfl⟩
              rw [hW50] at b50 z50 D50 oc50 on50 ⊢
              clear hW50 hHeld
              simp only [List.setIfInBounds_toArray, List.set_cons_zero, List.set_cons_succ] at b50
              have q0 := (cell_of_row W50 _ 0 _ _ _ b50).trans (show _ = some (Value.int .i64 id) from rfl)
              have y0 := (cell_of_row W50 _ 0 _ _ _ z50).trans (show _ = some (Value.int .i64 0) from rfl)
              have f0 := frozen_of_row W50 _ 0 _ _ z50
              have q1 := (cell_of_row W50 _ 1 _ _ _ b50).trans (show _ = some (Value.int .i64 tn) from rfl)
              have y1 := (cell_of_row W50 _ 1 _ _ _ z50).trans (show _ = some (Value.int .i64 0) from rfl)
              have f1 := frozen_of_row W50 _ 1 _ _ z50
              have q2 := (cell_of_row W50 _ 2 _ _ _ b50).trans (show _ = some (Value.slice ub (cs.length + 1) ubc) from rfl)
              have y2 := (cell_of_row W50 _ 2 _ _ _ z50).trans (show _ = some (Value.slice none 0 0) from rfl)
              have f2 := frozen_of_row W50 _ 2 _ _ z50
              have q3 := (cell_of_row W50 _ 3 _ _ _ b50).trans (show _ = some (Value.slice oa os.length ocap) from rfl)
              have y3 := (cell_of_row W50 _ 3 _ _ _ z50).trans (show _ = some (Value.slice none 0 0) from rfl)
              have f3 := frozen_of_row W50 _ 3 _ _ z50
              go_wp2
              have r1 := heap_setCell_same W50 w.heap.size 0 _ _ (.int .i64 id) z50
              have r2 := heap_setCell_same _ w.heap.size 1 _ _ (.int .i64 tn) r1
              have r3 := heap_setCell_same _ w.heap.size 2 _ _ (.slice ub (cs.length + 1) ubc) r2
              have r4 := heap_setCell_same _ w.heap.size 3 _ _ (.slice oa os.length ocap) r3
              have D99 := ((((D50.set (R := w.heap.size) (Nat.le_refl _) 0 (.int .i64 id)).set (R := w.heap.size) (Nat.le_refl _) 1 (.int .i64 tn)).set (R := w.heap.size) (Nat.le_refl _) 2 (.slice ub (cs.length + 1) ubc)).set (R := w.heap.size) (Nat.le_refl _) 3 (.slice oa os.length ocap))
              have oc99 := (ownsC_low (ownsC_low (ownsC_low (ownsC_low oc50 (b := w.heap.size) HS1.out 0 (.int .i64 id)) (b := w.heap.size) HS1.out 1 (.int .i64 tn)) (b := w.heap.size) HS1.out 2 (.slice ub (cs.length + 1) ubc)) (b := w.heap.size) HS1.out 3 (.slice oa os.length ocap))
              have on99 := (ownsN_low (ownsN_low (ownsN_low (ownsN_low on50 (b := w.heap.size) HS1.out 0 (.int .i64 id)) (b := w.heap.size) HS1.out 1 (.int .i64 tn)) (b := w.heap.size) HS1.out 2 (.slice ub (cs.length + 1) ubc)) (b := w.heap.size) HS1.out 3 (.slice oa os.length ocap))
              have e0 := cell_of_row _ _ 0 _ _ _ r4
              have e1 := cell_of_row _ _ 1 _ _ _ r4
              have e2 := cell_of_row _ _ 2 _ _ _ r4
              have e3 := cell_of_row _ _ 3 _ _ _ r4
              simp at e0 e1 e2 e3
              refine bodyPost_ret (v := qV id tn (.slice ub (cs.length + 1) ubc) (.slice oa os.length ocap)) ?_ rfl ?_
              · simp [results, Tryz.f23, go_sem, e0, e1, e2, e3, qV]
              · exact ⟨id, tn, _, _, _, _, rfl, ownsC_up oc99 (by have := HS1.out; omega), ownsN_up on99 (by have := HS1.out; omega), by have := HCL.out; simp; omega, by have := HOL.out; omega, D99⟩
            · go_simp
              refine Calls.mono (pick_any w0 c v xs _ D7.cur lb qhis 2 100 (by decide) (by decide) (by decide) lst7 HLC.out) ?_
              rintro e w8 ⟨y, yl, yh, rfl, hC8, hg8⟩
              have D8 := D7.call hC8 hg8
              have z8 := keep hg8 (D7.ne (Nat.le_refl _)) z7
              have b8 := keep hg8 (D7.ne HR.out) b7
              have oc8 : OwnsC w8 w1.heap.size _ cs := kept_low oc7 hg8 (by have := D7.lt; have := HS1.out; omega)
              have on8 := ownsN_grown on7 hg8 (by have := D7.lt; have := HS1.out; omega)
              refine hK.out _ _ trivial (fun hHeld => ?_)
              clear hK K
              try simp only [Act.put, List.setIfInBounds_toArray, List.set_cons_zero, List.set_cons_succ]
              refine take_runs (i := 7) (v := ?_) (by simp only [List.getElem?_toArray, List.getElem?_cons_succ, List.getElem?_cons_zero]; rfl) (by kernel_rfl) (by kernel_rfl) (by kernel_rfl) rfl (by exact fun _ _ _ h => h) (by rfl) ?_ (by assumption) ?_
              rotate_left
              · intro w hSw; (try dsimp only at hSw); go_simp; try (with_reducible rfl)
              try simp only [Act.put, List.setIfInBounds_toArray, List.set_cons_zero, List.set_cons_succ]
              refine wpAnyH_ready (rs := [1, 8]) (by kernel_rfl) (by simp) ?_
              refine (AllReadyH.cons (o := _) (by simp only [List.getElem?_toArray, List.getElem?_cons_succ, List.getElem?_cons_zero]; rfl) (fun K hK => ?_) (AllReadyH.cons (o := _) (by simp only [List.getElem?_toArray, List.getElem?_cons_succ, List.getElem?_cons_zero]; rfl) (fun K hK => ?_) AllReadyH.nil))
              · have p8 := (cell_of_row w8 _ 2 _ _ _ b8).trans (show _ = some (Value.slice ca cs.length ccap) from rfl)
                go_simp
                refine hK.out _ _ trivial (fun hHeld => ?_)
                clear hK K
                try simp only [Act.put, List.setIfInBounds_toArray, List.set_cons_zero, List.set_cons_succ]
                refine wpAnyH_ready (rs := [8]) (by kernel_rfl) (by simp) ?_
                refine (AllReadyH.cons (o := _) (by simp only [List.getElem?_toArray, List.getElem?_cons_succ, List.getElem?_cons_zero]; rfl) (fun K hK => ?_) AllReadyH.nil)
                go_simp
                have D9 := D8.alloc (.cells #[.int .i64 f, .int .i64 3, .int .i64 y] 67)
                have z9 := keepA (.cells #[.int .i64 f, .int .i64 3, .int .i64 y] 67) z8
                have b9 := keepA (.cells #[.int .i64 f, .int .i64 3, .int .i64 y] 67) b8
                have oc9 : OwnsC _ w1.heap.size _ cs := oc8.alloc (.cells #[.int .i64 f, .int .i64 3, .int .i64 y] 67)
                have on9 : OwnsN _ w1.heap.size _ os := on8.alloc (.cells #[.int .i64 f, .int .i64 3, .int .i64 y] 67)
                have cc9 : (w8.alloc (.cells #[.int .i64 f, .int .i64 3, .int .i64 y] 67)).cell? ⟨w8.heap.size, 0, none⟩ = some (.int .i64 f) ∧ (w8.alloc (.cells #[.int .i64 f, .int .i64 3, .int .i64 y] 67)).cell? ⟨w8.heap.size, 1, none⟩ = some (.int .i64 3) ∧ (w8.alloc (.cells #[.int .i64 f, .int .i64 3, .int .i64 y] 67)).cell? ⟨w8.heap.size, 2, none⟩ = some (.int .i64 y) := ⟨(cell_lit w8 #[.int .i64 f, .int .i64 3, .int .i64 y] 67 0).trans rfl, (cell_lit w8 #[.int .i64 f, .int .i64 3, .int .i64 y] 67 1).trans rfl, (cell_lit w8 #[.int .i64 f, .int .i64 3, .int .i64 y] 67 2).trans rfl⟩
                obtain ⟨w9, hW9⟩ : ∃ W, w8.alloc (.cells #[.int .i64 f, .int .i64 3, .int .i64 y] 67) = W := ⟨_, rfl⟩
                have hV9 : w8.alloc (.cells #[.int .i64 f, .int .i64 3, .int .i64 y] 67) = w9 := hW9
                rw [hW9]
                rw [hV9] at D9 z9 b9 oc9 on9 cc9
                clear hW9 hV9
                refine hK.out _ _ trivial (fun hHeld => ?_)
                clear hK K
                try simp only [Act.put, List.setIfInBounds_toArray, List.set_cons_zero, List.set_cons_succ]
                refine wpAnyH_ready (rs := [9]) (by kernel_rfl) (by simp) ?_
                refine (AllReadyH.cons (o := _) (by simp only [List.getElem?_toArray, List.getElem?_cons_succ, List.getElem?_cons_zero]; rfl) (fun K hK => ?_) AllReadyH.nil)
                refine step_append_cond1 rfl (.tmp 25) (.tmp 32) rfl w1.heap.size (.slice ca cs.length ccap) cs w8.heap.size f 3 y rfl rfl oc9 cc9 (by have h1 := D9.size; have h2 := (Array.getElem?_eq_some_iff.1 b9).1; have := HW1.out; omega) (by have := HCL.out; omega) ?_
                intro u10 w10 o10 g10
                obtain ⟨ub, ubc, rfl⟩ := ownsC_len o10
                have oN10 : OwnsC w10 w1.heap.size (.slice ub (cs.length + 1) ubc) (cs ++ [(f, 3, y)]) := by simpa using o10
                have bl10 := (Below.refl w1.heap.size _).grown g10 (by have h2 := (Array.getElem?_eq_some_iff.1 b9).1; have := HW1.out; omega) (fun q hq => (oc9.lt q hq).1)
                have b10 := (g10.block R (Array.getElem?_eq_some_iff.1 b9).1 (fun e => HCR.out e.symm)).trans b9
                have z10 := (g10.block w.heap.size (Array.getElem?_eq_some_iff.1 z9).1 (fun e => HCZ.out e.symm)).trans z9
                have D10 := D9.below bl10 (by have := HS1.out; omega)
                have on10 : OwnsN w10 w1.heap.size _ os := World.ownsRow.kept on9 g10 (apartN HAP.out)
                simp only [List.length_append, List.length_cons, List.length_nil, Nat.zero_add]
                refine hK.out _ _ trivial (fun hHeld => ?_)
                clear hK K
                try simp only [Act.put, List.setIfInBounds_toArray, List.set_cons_zero, List.set_cons_succ]
                refine take_runs (i := 10) (v := ?_) (by simp only [List.getElem?_toArray, List.getElem?_cons_succ, List.getElem?_cons_zero]; rfl) (by kernel_rfl) (by kernel_rfl) (by kernel_rfl) rfl (by exact fun _ _ _ h => h) (by rfl) ?_ (by assumption) ?_
                rotate_left
                · intro w hSw; (try dsimp only at hSw); go_simp; try (with_reducible rfl)
                try simp only [Act.put, List.setIfInBounds_toArray, List.set_cons_zero, List.set_cons_succ]
                have h2 := (cell_of_row w10 _ 2 _ _ _ b10).trans (show _ = some (Value.slice ca cs.length ccap) from rfl)
                have k2 := frozen_of_row w10 _ 2 _ _ b10
                refine wpAnyH_ready (rs := [11]) (by kernel_rfl) (by simp) ?_
                refine (AllReadyH.cons (o := _) (by simp only [List.getElem?_toArray, List.getElem?_cons_succ, List.getElem?_cons_zero]; rfl) (fun K hK => ?_) AllReadyH.nil)
                go_simp
                have b50 := heap_setCell_same w10 R 2 _ _ (.slice ub (cs.length + 1) ubc) b10
                have z50 := (heap_setCell_other w10 ⟨R, 2, none⟩ w.heap.size (.slice ub (cs.length + 1) ubc) (by simpa using hn2)).trans z10
                have D50 := D10.set (R := R) HR.out 2 (.slice ub (cs.length + 1) ubc)
                have oc50 : OwnsC (w10.setCell ⟨R, 2, none⟩ (.slice ub (cs.length + 1) ubc)) w1.heap.size _ _ := owns_off oN10 (owns_apart oN10 b10 (by decide)) 2 _
                have on50 : OwnsN (w10.setCell ⟨R, 2, none⟩ (.slice ub (cs.length + 1) ubc)) w1.heap.size _ os := owns_off on10 HOR.out 2 _
                refine hK.out _ _ trivial (fun hHeld => ?_)
                clear hK K
                try simp only [Act.put, List.setIfInBounds_toArray, List.set_cons_zero, List.set_cons_succ]
                refine wpAnyH_done (by kernel_rfl) ?_ _
                obtain ⟨W50, hW50⟩ : ∃ W, (w10.setCell ⟨R, 2, none⟩ (.slice ub (cs.length + 1) ubc)) = W := ⟨_, rfl⟩
                rw [hW50] at b50 z50 D50 oc50 on50 ⊢
                clear hW50 hHeld
                simp only [List.setIfInBounds_toArray, List.set_cons_zero, List.set_cons_succ] at b50
                have q0 := (cell_of_row W50 _ 0 _ _ _ b50).trans (show _ = some (Value.int .i64 id) from rfl)
                have y0 := (cell_of_row W50 _ 0 _ _ _ z50).trans (show _ = some (Value.int .i64 0) from rfl)
                have f0 := frozen_of_row W50 _ 0 _ _ z50
                have q1 := (cell_of_row W50 _ 1 _ _ _ b50).trans (show _ = some (Value.int .i64 tn) from rfl)
                have y1 := (cell_of_row W50 _ 1 _ _ _ z50).trans (show _ = some (Value.int .i64 0) from rfl)
                have f1 := frozen_of_row W50 _ 1 _ _ z50
                have q2 := (cell_of_row W50 _ 2 _ _ _ b50).trans (show _ = some (Value.slice ub (cs.length + 1) ubc) from rfl)
                have y2 := (cell_of_row W50 _ 2 _ _ _ z50).trans (show _ = some (Value.slice none 0 0) from rfl)
                have f2 := frozen_of_row W50 _ 2 _ _ z50
                have q3 := (cell_of_row W50 _ 3 _ _ _ b50).trans (show _ = some (Value.slice oa os.length ocap) from rfl)
                have y3 := (cell_of_row W50 _ 3 _ _ _ z50).trans (show _ = some (Value.slice none 0 0) from rfl)
                have f3 := frozen_of_row W50 _ 3 _ _ z50
                go_wp2
                have r1 := heap_setCell_same W50 w.heap.size 0 _ _ (.int .i64 id) z50
                have r2 := heap_setCell_same _ w.heap.size 1 _ _ (.int .i64 tn) r1
                have r3 := heap_setCell_same _ w.heap.size 2 _ _ (.slice ub (cs.length + 1) ubc) r2
                have r4 := heap_setCell_same _ w.heap.size 3 _ _ (.slice oa os.length ocap) r3
                have D99 := ((((D50.set (R := w.heap.size) (Nat.le_refl _) 0 (.int .i64 id)).set (R := w.heap.size) (Nat.le_refl _) 1 (.int .i64 tn)).set (R := w.heap.size) (Nat.le_refl _) 2 (.slice ub (cs.length + 1) ubc)).set (R := w.heap.size) (Nat.le_refl _) 3 (.slice oa os.length ocap))
                have oc99 := (ownsC_low (ownsC_low (ownsC_low (ownsC_low oc50 (b := w.heap.size) HS1.out 0 (.int .i64 id)) (b := w.heap.size) HS1.out 1 (.int .i64 tn)) (b := w.heap.size) HS1.out 2 (.slice ub (cs.length + 1) ubc)) (b := w.heap.size) HS1.out 3 (.slice oa os.length ocap))
                have on99 := (ownsN_low (ownsN_low (ownsN_low (ownsN_low on50 (b := w.heap.size) HS1.out 0 (.int .i64 id)) (b := w.heap.size) HS1.out 1 (.int .i64 tn)) (b := w.heap.size) HS1.out 2 (.slice ub (cs.length + 1) ubc)) (b := w.heap.size) HS1.out 3 (.slice oa os.length ocap))
                have e0 := cell_of_row _ _ 0 _ _ _ r4
                have e1 := cell_of_row _ _ 1 _ _ _ r4
                have e2 := cell_of_row _ _ 2 _ _ _ r4
                have e3 := cell_of_row _ _ 3 _ _ _ r4
                simp at e0 e1 e2 e3
                refine bodyPost_ret (v := qV id tn (.slice ub (cs.length + 1) ubc) (.slice oa os.length ocap)) ?_ rfl ?_
                · simp [results, Tryz.f23, go_sem, e0, e1, e2, e3, qV]
                · exact ⟨id, tn, _, _, _, _, rfl, ownsC_up oc99 (by have := HS1.out; omega), ownsN_up on99 (by have := HS1.out; omega), by have := HCL.out; simp; omega, by have := HOL.out; omega, D99⟩
              · go_simp
                have D9 := D8.alloc (.cells #[.int .i64 f, .int .i64 3, .int .i64 y] 67)
                have z9 := keepA (.cells #[.int .i64 f, .int .i64 3, .int .i64 y] 67) z8
                have b9 := keepA (.cells #[.int .i64 f, .int .i64 3, .int .i64 y] 67) b8
                have oc9 : OwnsC _ w1.heap.size _ cs := oc8.alloc (.cells #[.int .i64 f, .int .i64 3, .int .i64 y] 67)
                have on9 : OwnsN _ w1.heap.size _ os := on8.alloc (.cells #[.int .i64 f, .int .i64 3, .int .i64 y] 67)
                have cc9 : (w8.alloc (.cells #[.int .i64 f, .int .i64 3, .int .i64 y] 67)).cell? ⟨w8.heap.size, 0, none⟩ = some (.int .i64 f) ∧ (w8.alloc (.cells #[.int .i64 f, .int .i64 3, .int .i64 y] 67)).cell? ⟨w8.heap.size, 1, none⟩ = some (.int .i64 3) ∧ (w8.alloc (.cells #[.int .i64 f, .int .i64 3, .int .i64 y] 67)).cell? ⟨w8.heap.size, 2, none⟩ = some (.int .i64 y) := ⟨(cell_lit w8 #[.int .i64 f, .int .i64 3, .int .i64 y] 67 0).trans rfl, (cell_lit w8 #[.int .i64 f, .int .i64 3, .int .i64 y] 67 1).trans rfl, (cell_lit w8 #[.int .i64 f, .int .i64 3, .int .i64 y] 67 2).trans rfl⟩
                obtain ⟨w9, hW9⟩ : ∃ W, w8.alloc (.cells #[.int .i64 f, .int .i64 3, .int .i64 y] 67) = W := ⟨_, rfl⟩
                have hV9 : w8.alloc (.cells #[.int .i64 f, .int .i64 3, .int .i64 y] 67) = w9 := hW9
                rw [hW9]
                rw [hV9] at D9 z9 b9 oc9 on9 cc9
                clear hW9 hV9
                refine hK.out _ _ trivial (fun hHeld => ?_)
                clear hK K
                try simp only [Act.put, List.setIfInBounds_toArray, List.set_cons_zero, List.set_cons_succ]
                refine wpAnyH_ready (rs := [1]) (by kernel_rfl) (by simp) ?_
                refine (AllReadyH.cons (o := _) (by simp only [List.getElem?_toArray, List.getElem?_cons_succ, List.getElem?_cons_zero]; rfl) (fun K hK => ?_) AllReadyH.nil)
                have p9 := (cell_of_row w9 _ 2 _ _ _ b9).trans (show _ = some (Value.slice ca cs.length ccap) from rfl)
                go_simp
                refine hK.out _ _ trivial (fun hHeld => ?_)
                clear hK K
                try simp only [Act.put, List.setIfInBounds_toArray, List.set_cons_zero, List.set_cons_succ]
                refine wpAnyH_ready (rs := [9]) (by kernel_rfl) (by simp) ?_
                refine (AllReadyH.cons (o := _) (by simp only [List.getElem?_toArray, List.getElem?_cons_succ, List.getElem?_cons_zero]; rfl) (fun K hK => ?_) AllReadyH.nil)
                refine step_append_cond1 rfl (.tmp 25) (.tmp 32) rfl w1.heap.size (.slice ca cs.length ccap) cs w8.heap.size f 3 y rfl rfl oc9 cc9 (by have h1 := D9.size; have h2 := (Array.getElem?_eq_some_iff.1 b9).1; have := HW1.out; omega) (by have := HCL.out; omega) ?_
                intro u10 w10 o10 g10
                obtain ⟨ub, ubc, rfl⟩ := ownsC_len o10
                have oN10 : OwnsC w10 w1.heap.size (.slice ub (cs.length + 1) ubc) (cs ++ [(f, 3, y)]) := by simpa using o10
                have bl10 := (Below.refl w1.heap.size _).grown g10 (by have h2 := (Array.getElem?_eq_some_iff.1 b9).1; have := HW1.out; omega) (fun q hq => (oc9.lt q hq).1)
                have b10 := (g10.block R (Array.getElem?_eq_some_iff.1 b9).1 (fun e => HCR.out e.symm)).trans b9
                have z10 := (g10.block w.heap.size (Array.getElem?_eq_some_iff.1 z9).1 (fun e => HCZ.out e.symm)).trans z9
                have D10 := D9.below bl10 (by have := HS1.out; omega)
                have on10 : OwnsN w10 w1.heap.size _ os := World.ownsRow.kept on9 g10 (apartN HAP.out)
                simp only [List.length_append, List.length_cons, List.length_nil, Nat.zero_add]
                refine hK.out _ _ trivial (fun hHeld => ?_)
                clear hK K
                try simp only [Act.put, List.setIfInBounds_toArray, List.set_cons_zero, List.set_cons_succ]
                refine take_runs (i := 10) (v := ?_) (by simp only [List.getElem?_toArray, List.getElem?_cons_succ, List.getElem?_cons_zero]; rfl) (by kernel_rfl) (by kernel_rfl) (by kernel_rfl) rfl (by exact fun _ _ _ h => h) (by rfl) ?_ (by assumption) ?_
                rotate_left
                · intro w hSw; (try dsimp only at hSw); go_simp; try (with_reducible rfl)
                try simp only [Act.put, List.setIfInBounds_toArray, List.set_cons_zero, List.set_cons_succ]
                have h2 := (cell_of_row w10 _ 2 _ _ _ b10).trans (show _ = some (Value.slice ca cs.length ccap) from rfl)
                have k2 := frozen_of_row w10 _ 2 _ _ b10
                refine wpAnyH_ready (rs := [11]) (by kernel_rfl) (by simp) ?_
                refine (AllReadyH.cons (o := _) (by simp only [List.getElem?_toArray, List.getElem?_cons_succ, List.getElem?_cons_zero]; rfl) (fun K hK => ?_) AllReadyH.nil)
                go_simp
                have b50 := heap_setCell_same w10 R 2 _ _ (.slice ub (cs.length + 1) ubc) b10
                have z50 := (heap_setCell_other w10 ⟨R, 2, none⟩ w.heap.size (.slice ub (cs.length + 1) ubc) (by simpa using hn2)).trans z10
                have D50 := D10.set (R := R) HR.out 2 (.slice ub (cs.length + 1) ubc)
                have oc50 : OwnsC (w10.setCell ⟨R, 2, none⟩ (.slice ub (cs.length + 1) ubc)) w1.heap.size _ _ := owns_off oN10 (owns_apart oN10 b10 (by decide)) 2 _
                have on50 : OwnsN (w10.setCell ⟨R, 2, none⟩ (.slice ub (cs.length + 1) ubc)) w1.heap.size _ os := owns_off on10 HOR.out 2 _
                refine hK.out _ _ trivial (fun hHeld => ?_)
                clear hK K
                try simp only [Act.put, List.setIfInBounds_toArray, List.set_cons_zero, List.set_cons_succ]
                refine wpAnyH_done (by kernel_rfl) ?_ _
                obtain ⟨W50, hW50⟩ : ∃ W, (w10.setCell ⟨R, 2, none⟩ (.slice ub (cs.length + 1) ubc)) = W := ⟨_, rfl⟩
                rw [hW50] at b50 z50 D50 oc50 on50 ⊢
                clear hW50 hHeld
                simp only [List.setIfInBounds_toArray, List.set_cons_zero, List.set_cons_succ] at b50
                have q0 := (cell_of_row W50 _ 0 _ _ _ b50).trans (show _ = some (Value.int .i64 id) from rfl)
                have y0 := (cell_of_row W50 _ 0 _ _ _ z50).trans (show _ = some (Value.int .i64 0) from rfl)
                have f0 := frozen_of_row W50 _ 0 _ _ z50
                have q1 := (cell_of_row W50 _ 1 _ _ _ b50).trans (show _ = some (Value.int .i64 tn) from rfl)
                have y1 := (cell_of_row W50 _ 1 _ _ _ z50).trans (show _ = some (Value.int .i64 0) from rfl)
                have f1 := frozen_of_row W50 _ 1 _ _ z50
                have q2 := (cell_of_row W50 _ 2 _ _ _ b50).trans (show _ = some (Value.slice ub (cs.length + 1) ubc) from rfl)
                have y2 := (cell_of_row W50 _ 2 _ _ _ z50).trans (show _ = some (Value.slice none 0 0) from rfl)
                have f2 := frozen_of_row W50 _ 2 _ _ z50
                have q3 := (cell_of_row W50 _ 3 _ _ _ b50).trans (show _ = some (Value.slice oa os.length ocap) from rfl)
                have y3 := (cell_of_row W50 _ 3 _ _ _ z50).trans (show _ = some (Value.slice none 0 0) from rfl)
                have f3 := frozen_of_row W50 _ 3 _ _ z50
                go_wp2
                have r1 := heap_setCell_same W50 w.heap.size 0 _ _ (.int .i64 id) z50
                have r2 := heap_setCell_same _ w.heap.size 1 _ _ (.int .i64 tn) r1
                have r3 := heap_setCell_same _ w.heap.size 2 _ _ (.slice ub (cs.length + 1) ubc) r2
                have r4 := heap_setCell_same _ w.heap.size 3 _ _ (.slice oa os.length ocap) r3
                have D99 := ((((D50.set (R := w.heap.size) (Nat.le_refl _) 0 (.int .i64 id)).set (R := w.heap.size) (Nat.le_refl _) 1 (.int .i64 tn)).set (R := w.heap.size) (Nat.le_refl _) 2 (.slice ub (cs.length + 1) ubc)).set (R := w.heap.size) (Nat.le_refl _) 3 (.slice oa os.length ocap))
                have oc99 := (ownsC_low (ownsC_low (ownsC_low (ownsC_low oc50 (b := w.heap.size) HS1.out 0 (.int .i64 id)) (b := w.heap.size) HS1.out 1 (.int .i64 tn)) (b := w.heap.size) HS1.out 2 (.slice ub (cs.length + 1) ubc)) (b := w.heap.size) HS1.out 3 (.slice oa os.length ocap))
                have on99 := (ownsN_low (ownsN_low (ownsN_low (ownsN_low on50 (b := w.heap.size) HS1.out 0 (.int .i64 id)) (b := w.heap.size) HS1.out 1 (.int .i64 tn)) (b := w.heap.size) HS1.out 2 (.slice ub (cs.length + 1) ubc)) (b := w.heap.size) HS1.out 3 (.slice oa os.length ocap))
                have e0 := cell_of_row _ _ 0 _ _ _ r4
                have e1 := cell_of_row _ _ 1 _ _ _ r4
                have e2 := cell_of_row _ _ 2 _ _ _ r4
                have e3 := cell_of_row _ _ 3 _ _ _ r4
                simp at e0 e1 e2 e3
                refine bodyPost_ret (v := qV id tn (.slice ub (cs.length + 1) ubc) (.slice oa os.length ocap)) ?_ rfl ?_
                · simp [results, Tryz.f23, go_sem, e0, e1, e2, e3, qV]
                · exact ⟨id, tn, _, _, _, _, rfl, ownsC_up oc99 (by have := HS1.out; omega), ownsN_up on99 (by have := HS1.out; omega), by have := HCL.out; simp; omega, by have := HOL.out; omega, D99⟩
        · go_simp
          have D6 := D5.alloc (.cells (qhis.map (Value.int .i64)).toArray 3 (0, 0))
          have z6 := keepA (.cells (qhis.map (Value.int .i64)).toArray 3 (0, 0)) z5
          have b6 := keepA (.cells (qhis.map (Value.int .i64)).toArray 3 (0, 0)) b5
          have oc6 : OwnsC _ w1.heap.size _ cs := oc5.alloc (.cells (qhis.map (Value.int .i64)).toArray 3 (0, 0))
          have on6 : OwnsN _ w1.heap.size _ os := on5.alloc (.cells (qhis.map (Value.int .i64)).toArray 3 (0, 0))
          have lst6 := heap_alloc_new w5 (.cells (qhis.map (Value.int .i64)).toArray 3 (0, 0))
          have HLC : Hid (w5.heap.size ≠ c) := Lib.hid (D5.ne D5.size)
          obtain ⟨lb, hlb⟩ : ∃ lb, w5.heap.size = lb := ⟨_, rfl⟩
          rw [hlb] at lst6 HLC ⊢
          clear hlb
          obtain ⟨w6, hW6⟩ : ∃ W, w5.alloc (.cells #[.int .i64 2, .int .i64 3, .int .i64 99, .int .i64 100] 3) = W := ⟨_, rfl⟩
          have hV6 : w5.alloc (.cells (qhis.map (Value.int .i64)).toArray 3 (0, 0)) = w6 := hW6
          rw [hW6]
          rw [hV6] at D6 z6 b6 oc6 on6 lst6
          clear hW6 hV6
          refine hK.out _ _ trivial (fun hHeld => ?_)
          clear hK K
          try simp only [Act.put, List.setIfInBounds_toArray, List.set_cons_zero, List.set_cons_succ]
          refine wpAnyH_ready (rs := [1, 3]) (by kernel_rfl) (by simp) ?_
          refine (AllReadyH.cons (o := _) (by simp only [List.getElem?_toArray, List.getElem?_cons_succ, List.getElem?_cons_zero]; rfl) (fun K hK => ?_) (AllReadyH.cons (o := _) (by simp only [List.getElem?_toArray, List.getElem?_cons_succ, List.getElem?_cons_zero]; rfl) (fun K hK => ?_) AllReadyH.nil))
          · have p6 := (cell_of_row w6 _ 2 _ _ _ b6).trans (show _ = some (Value.slice ca cs.length ccap) from rfl)
            go_simp
            refine hK.out _ _ trivial (fun hHeld => ?_)
            clear hK K
            try simp only [Act.put, List.setIfInBounds_toArray, List.set_cons_zero, List.set_cons_succ]
            refine wpAnyH_ready (rs := [3]) (by kernel_rfl) (by simp) ?_
            refine (AllReadyH.cons (o := _) (by simp only [List.getElem?_toArray, List.getElem?_cons_succ, List.getElem?_cons_zero]; rfl) (fun K hK => ?_) AllReadyH.nil)
            go_simp
            refine Calls.mono (below_any w0 c v xs _ D6.cur 4 (by omega) (by omega)) ?_
            rintro e w7 ⟨f, fl, fh, rfl, hC7, hg7⟩
            have D7 := D6.call hC7 hg7
            have z7 := keep hg7 (D6.ne (Nat.le_refl _)) z6
            have b7 := keep hg7 (D6.ne HR.out) b6
            have oc7 : OwnsC w7 w1.heap.size _ cs := kept_low oc6 hg7 (by have := D6.lt; have := HS1.out; omega)
            have on7 := ownsN_grown on6 hg7 (by have := D6.lt; have := HS1.out; omega)
            have lst7 := keep hg7 HLC.out lst6
            refine hK.out _ _ trivial (fun hHeld => ?_)
            clear hK K
            try simp only [Act.put, List.setIfInBounds_toArray, List.set_cons_zero, List.set_cons_succ]
            refine wpAnyH_ready (rs := [6]) (by kernel_rfl) (by simp) ?_
            refine (AllReadyH.cons (o := _) (by simp only [List.getElem?_toArray, List.getElem?_cons_succ, List.getElem?_cons_zero]; rfl) (fun K hK => ?_) AllReadyH.nil)
            go_simp
            refine Calls.mono (pick_any w0 c v xs _ D7.cur lb qhis 2 100 (by decide) (by decide) (by decide) lst7 HLC.out) ?_
            rintro e w8 ⟨y, yl, yh, rfl, hC8, hg8⟩
            have D8 := D7.call hC8 hg8
            have z8 := keep hg8 (D7.ne (Nat.le_refl _)) z7
            have b8 := keep hg8 (D7.ne HR.out) b7
            have oc8 : OwnsC w8 w1.heap.size _ cs := kept_low oc7 hg8 (by have := D7.lt; have := HS1.out; omega)
            have on8 := ownsN_grown on7 hg8 (by have := D7.lt; have := HS1.out; omega)
            refine hK.out _ _ trivial (fun hHeld => ?_)
            clear hK K
            try simp only [Act.put, List.setIfInBounds_toArray, List.set_cons_zero, List.set_cons_succ]
            refine take_runs (i := 7) (v := ?_) (by simp only [List.getElem?_toArray, List.getElem?_cons_succ, List.getElem?_cons_zero]; rfl) (by kernel_rfl) (by kernel_rfl) (by kernel_rfl) rfl (by exact fun _ _ _ h => h) (by rfl) ?_ (by assumption) ?_
            rotate_left
            · intro w hSw; (try dsimp only at hSw); go_simp; try (with_reducible rfl)
            try simp only [Act.put, List.setIfInBounds_toArray, List.set_cons_zero, List.set_cons_succ]
            refine wpAnyH_ready (rs := [8]) (by kernel_rfl) (by simp) ?_
            refine (AllReadyH.cons (o := _) (by simp only [List.getElem?_toArray, List.getElem?_cons_succ, List.getElem?_cons_zero]; rfl) (fun K hK => ?_) AllReadyH.nil)
            go_simp
            have D9 := D8.alloc (.cells #[.int .i64 f, .int .i64 3, .int .i64 y] 67)
            have z9 := keepA (.cells #[.int .i64 f, .int .i64 3, .int .i64 y] 67) z8
            have b9 := keepA (.cells #[.int .i64 f, .int .i64 3, .int .i64 y] 67) b8
            have oc9 : OwnsC _ w1.heap.size _ cs := oc8.alloc (.cells #[.int .i64 f, .int .i64 3, .int .i64 y] 67)
            have on9 : OwnsN _ w1.heap.size _ os := on8.alloc (.cells #[.int .i64 f, .int .i64 3, .int .i64 y] 67)
            have cc9 : (w8.alloc (.cells #[.int .i64 f, .int .i64 3, .int .i64 y] 67)).cell? ⟨w8.heap.size, 0, none⟩ = some (.int .i64 f) ∧ (w8.alloc (.cells #[.int .i64 f, .int .i64 3, .int .i64 y] 67)).cell? ⟨w8.heap.size, 1, none⟩ = some (.int .i64 3) ∧ (w8.alloc (.cells #[.int .i64 f, .int .i64 3, .int .i64 y] 67)).cell? ⟨w8.heap.size, 2, none⟩ = some (.int .i64 y) := ⟨(cell_lit w8 #[.int .i64 f, .int .i64 3, .int .i64 y] 67 0).trans rfl, (cell_lit w8 #[.int .i64 f, .int .i64 3, .int .i64 y] 67 1).trans rfl, (cell_lit w8 #[.int .i64 f, .int .i64 3, .int .i64 y] 67 2).trans rfl⟩
            obtain ⟨w9, hW9⟩ : ∃ W, w8.alloc (.cells #[.int .i64 f, .int .i64 3, .int .i64 y] 67) = W := ⟨_, rfl⟩
            have hV9 : w8.alloc (.cells #[.int .i64 f, .int .i64 3, .int .i64 y] 67) = w9 := hW9
            rw [hW9]
            rw [hV9] at D9 z9 b9 oc9 on9 cc9
            clear hW9 hV9
            refine hK.out _ _ trivial (fun hHeld => ?_)
            clear hK K
            try simp only [Act.put, List.setIfInBounds_toArray, List.set_cons_zero, List.set_cons_succ]
            refine wpAnyH_ready (rs := [9]) (by kernel_rfl) (by simp) ?_
            refine (AllReadyH.cons (o := _) (by simp only [List.getElem?_toArray, List.getElem?_cons_succ, List.getElem?_cons_zero]; rfl) (fun K hK => ?_) AllReadyH.nil)
            refine step_append_cond1 rfl (.tmp 25) (.tmp 32) rfl w1.heap.size (.slice ca cs.length ccap) cs w8.heap.size f 3 y rfl rfl oc9 cc9 (by have h1 := D9.size; have h2 := (Array.getElem?_eq_some_iff.1 b9).1; have := HW1.out; omega) (by have := HCL.out; omega) ?_
            intro u10 w10 o10 g10
            obtain ⟨ub, ubc, rfl⟩ := ownsC_len o10
            have oN10 : OwnsC w10 w1.heap.size (.slice ub (cs.length + 1) ubc) (cs ++ [(f, 3, y)]) := by simpa using o10
            have bl10 := (Below.refl w1.heap.size _).grown g10 (by have h2 := (Array.getElem?_eq_some_iff.1 b9).1; have := HW1.out; omega) (fun q hq => (oc9.lt q hq).1)
            have b10 := (g10.block R (Array.getElem?_eq_some_iff.1 b9).1 (fun e => HCR.out e.symm)).trans b9
            have z10 := (g10.block w.heap.size (Array.getElem?_eq_some_iff.1 z9).1 (fun e => HCZ.out e.symm)).trans z9
            have D10 := D9.below bl10 (by have := HS1.out; omega)
            have on10 : OwnsN w10 w1.heap.size _ os := World.ownsRow.kept on9 g10 (apartN HAP.out)
            simp only [List.length_append, List.length_cons, List.length_nil, Nat.zero_add]
            refine hK.out _ _ trivial (fun hHeld => ?_)
            clear hK K
            try simp only [Act.put, List.setIfInBounds_toArray, List.set_cons_zero, List.set_cons_succ]
            refine take_runs (i := 10) (v := ?_) (by simp only [List.getElem?_toArray, List.getElem?_cons_succ, List.getElem?_cons_zero]; rfl) (by kernel_rfl) (by kernel_rfl) (by kernel_rfl) rfl (by exact fun _ _ _ h => h) (by rfl) ?_ (by assumption) ?_
            rotate_left
            · intro w hSw; (try dsimp only at hSw); go_simp; try (with_reducible rfl)
            try simp only [Act.put, List.setIfInBounds_toArray, List.set_cons_zero, List.set_cons_succ]
            have h2 := (cell_of_row w10 _ 2 _ _ _ b10).trans (show _ = some (Value.slice ca cs.length ccap) from rfl)
            have k2 := frozen_of_row w10 _ 2 _ _ b10
            refine wpAnyH_ready (rs := [11]) (by kernel_rfl) (by simp) ?_
            refine (AllReadyH.cons (o := _) (by simp only [List.getElem?_toArray, List.getElem?_cons_succ, List.getElem?_cons_zero]; rfl) (fun K hK => ?_) AllReadyH.nil)
            go_simp
            have b50 := heap_setCell_same w10 R 2 _ _ (.slice ub (cs.length + 1) ubc) b10
            have z50 := (heap_setCell_other w10 ⟨R, 2, none⟩ w.heap.size (.slice ub (cs.length + 1) ubc) (by simpa using hn2)).trans z10
            have D50 := D10.set (R := R) HR.out 2 (.slice ub (cs.length + 1) ubc)
            have oc50 : OwnsC (w10.setCell ⟨R, 2, none⟩ (.slice ub (cs.length + 1) ubc)) w1.heap.size _ _ := owns_off oN10 (owns_apart oN10 b10 (by decide)) 2 _
            have on50 : OwnsN (w10.setCell ⟨R, 2, none⟩ (.slice ub (cs.length + 1) ubc)) w1.heap.size _ os := owns_off on10 HOR.out 2 _
            refine hK.out _ _ trivial (fun hHeld => ?_)
            clear hK K
            try simp only [Act.put, List.setIfInBounds_toArray, List.set_cons_zero, List.set_cons_succ]
            refine wpAnyH_done (by kernel_rfl) ?_ _
            obtain ⟨W50, hW50⟩ : ∃ W, (w10.setCell ⟨R, 2, none⟩ (.slice ub (cs.length + 1) ubc)) = W := ⟨_, rfl⟩
            rw [hW50] at b50 z50 D50 oc50 on50 ⊢
            clear hW50 hHeld
            simp only [List.setIfInBounds_toArray, List.set_cons_zero, List.set_cons_succ] at b50
            have q0 := (cell_of_row W50 _ 0 _ _ _ b50).trans (show _ = some (Value.int .i64 id) from rfl)
            have y0 := (cell_of_row W50 _ 0 _ _ _ z50).trans (show _ = some (Value.int .i64 0) from rfl)
            have f0 := frozen_of_row W50 _ 0 _ _ z50
            have q1 := (cell_of_row W50 _ 1 _ _ _ b50).trans (show _ = some (Value.int .i64 tn) from rfl)
            have y1 := (cell_of_row W50 _ 1 _ _ _ z50).trans (show _ = some (Value.int .i64 0) from rfl)
            have f1 := frozen_of_row W50 _ 1 _ _ z50
            have q2 := (cell_of_row W50 _ 2 _ _ _ b50).trans (show _ = some (Value.slice ub (cs.length + 1) ubc) from rfl)
            have y2 := (cell_of_row W50 _ 2 _ _ _ z50).trans (show _ = some (Value.slice none 0 0) from rfl)
            have f2 := frozen_of_row W50 _ 2 _ _ z50
            have q3 := (cell_of_row W50 _ 3 _ _ _ b50).trans (show _ = some (Value.slice oa os.length ocap) from rfl)
            have y3 := (cell_of_row W50 _ 3 _ _ _ z50).trans (show _ = some (Value.slice none 0 0) from rfl)
            have f3 := frozen_of_row W50 _ 3 _ _ z50
            go_wp2
            have r1 := heap_setCell_same W50 w.heap.size 0 _ _ (.int .i64 id) z50
            have r2 := heap_setCell_same _ w.heap.size 1 _ _ (.int .i64 tn) r1
            have r3 := heap_setCell_same _ w.heap.size 2 _ _ (.slice ub (cs.length + 1) ubc) r2
            have r4 := heap_setCell_same _ w.heap.size 3 _ _ (.slice oa os.length ocap) r3
            have D99 := ((((D50.set (R := w.heap.size) (Nat.le_refl _) 0 (.int .i64 id)).set (R := w.heap.size) (Nat.le_refl _) 1 (.int .i64 tn)).set (R := w.heap.size) (Nat.le_refl _) 2 (.slice ub (cs.length + 1) ubc)).set (R := w.heap.size) (Nat.le_refl _) 3 (.slice oa os.length ocap))
            have oc99 := (ownsC_low (ownsC_low (ownsC_low (ownsC_low oc50 (b := w.heap.size) HS1.out 0 (.int .i64 id)) (b := w.heap.size) HS1.out 1 (.int .i64 tn)) (b := w.heap.size) HS1.out 2 (.slice ub (cs.length + 1) ubc)) (b := w.heap.size) HS1.out 3 (.slice oa os.length ocap))
            have on99 := (ownsN_low (ownsN_low (ownsN_low (ownsN_low on50 (b := w.heap.size) HS1.out 0 (.int .i64 id)) (b := w.heap.size) HS1.out 1 (.int .i64 tn)) (b := w.heap.size) HS1.out 2 (.slice ub (cs.length + 1) ubc)) (b := w.heap.size) HS1.out 3 (.slice oa os.length ocap))
            have e0 := cell_of_row _ _ 0 _ _ _ r4
            have e1 := cell_of_row _ _ 1 _ _ _ r4
            have e2 := cell_of_row _ _ 2 _ _ _ r4
            have e3 := cell_of_row _ _ 3 _ _ _ r4
            simp at e0 e1 e2 e3
            refine bodyPost_ret (v := qV id tn (.slice ub (cs.length + 1) ubc) (.slice oa os.length ocap)) ?_ rfl ?_
            · simp [results, Tryz.f23, go_sem, e0, e1, e2, e3, qV]
            · exact ⟨id, tn, _, _, _, _, rfl, ownsC_up oc99 (by have := HS1.out; omega), ownsN_up on99 (by have := HS1.out; omega), by have := HCL.out; simp; omega, by have := HOL.out; omega, D99⟩
          · go_simp
            refine Calls.mono (below_any w0 c v xs _ D6.cur 4 (by omega) (by omega)) ?_
            rintro e w7 ⟨f, fl, fh, rfl, hC7, hg7⟩
            have D7 := D6.call hC7 hg7
            have z7 := keep hg7 (D6.ne (Nat.le_refl _)) z6
            have b7 := keep hg7 (D6.ne HR.out) b6
            have oc7 : OwnsC w7 w1.heap.size _ cs := kept_low oc6 hg7 (by have := D6.lt; have := HS1.out; omega)
            have on7 := ownsN_grown on6 hg7 (by have := D6.lt; have := HS1.out; omega)
            have lst7 := keep hg7 HLC.out lst6
            refine hK.out _ _ trivial (fun hHeld => ?_)
            clear hK K
            try simp only [Act.put, List.setIfInBounds_toArray, List.set_cons_zero, List.set_cons_succ]
            refine wpAnyH_ready (rs := [1, 6]) (by kernel_rfl) (by simp) ?_
            refine (AllReadyH.cons (o := _) (by simp only [List.getElem?_toArray, List.getElem?_cons_succ, List.getElem?_cons_zero]; rfl) (fun K hK => ?_) (AllReadyH.cons (o := _) (by simp only [List.getElem?_toArray, List.getElem?_cons_succ, List.getElem?_cons_zero]; rfl) (fun K hK => ?_) AllReadyH.nil))
            · have p7 := (cell_of_row w7 _ 2 _ _ _ b7).trans (show _ = some (Value.slice ca cs.length ccap) from rfl)
              go_simp
              refine hK.out _ _ trivial (fun hHeld => ?_)
              clear hK K
              try simp only [Act.put, List.setIfInBounds_toArray, List.set_cons_zero, List.set_cons_succ]
              refine wpAnyH_ready (rs := [6]) (by kernel_rfl) (by simp) ?_
              refine (AllReadyH.cons (o := _) (by simp only [List.getElem?_toArray, List.getElem?_cons_succ, List.getElem?_cons_zero]; rfl) (fun K hK => ?_) AllReadyH.nil)
              go_simp
              refine Calls.mono (pick_any w0 c v xs _ D7.cur lb qhis 2 100 (by decide) (by decide) (by decide) lst7 HLC.out) ?_
              rintro e w8 ⟨y, yl, yh, rfl, hC8, hg8⟩
              have D8 := D7.call hC8 hg8
              have z8 := keep hg8 (D7.ne (Nat.le_refl _)) z7
              have b8 := keep hg8 (D7.ne HR.out) b7
              have oc8 : OwnsC w8 w1.heap.size _ cs := kept_low oc7 hg8 (by have := D7.lt; have := HS1.out; omega)
              have on8 := ownsN_grown on7 hg8 (by have := D7.lt; have := HS1.out; omega)
              refine hK.out _ _ trivial (fun hHeld => ?_)
              clear hK K
              try simp only [Act.put, List.setIfInBounds_toArray, List.set_cons_zero, List.set_cons_succ]
              refine take_runs (i := 7) (v := ?_) (by simp only [List.getElem?_toArray, List.getElem?_cons_succ, List.getElem?_cons_zero]; rfl) (by kernel_rfl) (by kernel_rfl) (by kernel_rfl) rfl (by exact fun _ _ _ h => h) (by rfl) ?_ (by assumption) ?_
              rotate_left
              · intro w hSw; (try dsimp only at hSw); go_simp; try (with_reducible rfl)
              try simp only [Act.put, List.setIfInBounds_toArray, List.set_cons_zero, List.set_cons_succ]
              refine wpAnyH_ready (rs := [8]) (by kernel_rfl) (by simp) ?_
              refine (AllReadyH.cons (o := _) (by simp only [List.getElem?_toArray, List.getElem?_cons_succ, List.getElem?_cons_zero]; rfl) (fun K hK => ?_) AllReadyH.nil)
              go_simp
              have D9 := D8.alloc (.cells #[.int .i64 f, .int .i64 3, .int .i64 y] 67)
              have z9 := keepA (.cells #[.int .i64 f, .int .i64 3, .int .i64 y] 67) z8
              have b9 := keepA (.cells #[.int .i64 f, .int .i64 3, .int .i64 y] 67) b8
              have oc9 : OwnsC _ w1.heap.size _ cs := oc8.alloc (.cells #[.int .i64 f, .int .i64 3, .int .i64 y] 67)
              have on9 : OwnsN _ w1.heap.size _ os := on8.alloc (.cells #[.int .i64 f, .int .i64 3, .int .i64 y] 67)
              have cc9 : (w8.alloc (.cells #[.int .i64 f, .int .i64 3, .int .i64 y] 67)).cell? ⟨w8.heap.size, 0, none⟩ = some (.int .i64 f) ∧ (w8.alloc (.cells #[.int .i64 f, .int .i64 3, .int .i64 y] 67)).cell? ⟨w8.heap.size, 1, none⟩ = some (.int .i64 3) ∧ (w8.alloc (.cells #[.int .i64 f, .int .i64 3, .int .i64 y] 67)).cell? ⟨w8.heap.size, 2, none⟩ = some (.int .i64 y) := ⟨(cell_lit w8 #[.int .i64 f, .int .i64 3, .int .i64 y] 67 0).trans rfl, (cell_lit w8 #[.int .i64 f, .int .i64 3, .int .i64 y] 67 1).trans rfl, (cell_lit w8 #[.int .i64 f, .int .i64 3, .int .i64 y] 67 2).trans rfl⟩
              obtain ⟨w9, hW9⟩ : ∃ W, w8.alloc (.cells #[.int .i64 f, .int .i64 3, .int .i64 y] 67) = W := ⟨_, rfl⟩
              have hV9 : w8.alloc (.cells #[.int .i64 f, .int .i64 3, .int .i64 y] 67) = w9 := hW9
              rw [hW9]
              rw [hV9] at D9 z9 b9 oc9 on9 cc9
              clear hW9 hV9
              refine hK.out _ _ trivial (fun hHeld => ?_)
              clear hK K
              try simp only [Act.put, List.setIfInBounds_toArray, List.set_cons_zero, List.set_cons_succ]
              refine wpAnyH_ready (rs := [9]) (by kernel_rfl) (by simp) ?_
              refine (AllReadyH.cons (o := _) (by simp only [List.getElem?_toArray, List.getElem?_cons_succ, List.getElem?_cons_zero]; rfl) (fun K hK => ?_) AllReadyH.nil)
              refine step_append_cond1 rfl (.tmp 25) (.tmp 32) rfl w1.heap.size (.slice ca cs.length ccap) cs w8.heap.size f 3 y rfl rfl oc9 cc9 (by have h1 := D9.size; have h2 := (Array.getElem?_eq_some_iff.1 b9).1; have := HW1.out; omega) (by have := HCL.out; omega) ?_
              intro u10 w10 o10 g10
              obtain ⟨ub, ubc, rfl⟩ := ownsC_len o10
              have oN10 : OwnsC w10 w1.heap.size (.slice ub (cs.length + 1) ubc) (cs ++ [(f, 3, y)]) := by simpa using o10
              have bl10 := (Below.refl w1.heap.size _).grown g10 (by have h2 := (Array.getElem?_eq_some_iff.1 b9).1; have := HW1.out; omega) (fun q hq => (oc9.lt q hq).1)
              have b10 := (g10.block R (Array.getElem?_eq_some_iff.1 b9).1 (fun e => HCR.out e.symm)).trans b9
              have z10 := (g10.block w.heap.size (Array.getElem?_eq_some_iff.1 z9).1 (fun e => HCZ.out e.symm)).trans z9
              have D10 := D9.below bl10 (by have := HS1.out; omega)
              have on10 : OwnsN w10 w1.heap.size _ os := World.ownsRow.kept on9 g10 (apartN HAP.out)
              simp only [List.length_append, List.length_cons, List.length_nil, Nat.zero_add]
              refine hK.out _ _ trivial (fun hHeld => ?_)
              clear hK K
              try simp only [Act.put, List.setIfInBounds_toArray, List.set_cons_zero, List.set_cons_succ]
              refine take_runs (i := 10) (v := ?_) (by simp only [List.getElem?_toArray, List.getElem?_cons_succ, List.getElem?_cons_zero]; rfl) (by kernel_rfl) (by kernel_rfl) (by kernel_rfl) rfl (by exact fun _ _ _ h => h) (by rfl) ?_ (by assumption) ?_
              rotate_left
              · intro w hSw; (try dsimp only at hSw); go_simp; try (with_reducible rfl)
              try simp only [Act.put, List.setIfInBounds_toArray, List.set_cons_zero, List.set_cons_succ]
              have h2 := (cell_of_row w10 _ 2 _ _ _ b10).trans (show _ = some (Value.slice ca cs.length ccap) from rfl)
              have k2 := frozen_of_row w10 _ 2 _ _ b10
              refine wpAnyH_ready (rs := [11]) (by kernel_rfl) (by simp) ?_
              refine (AllReadyH.cons (o := _) (by simp only [List.getElem?_toArray, List.getElem?_cons_succ, List.getElem?_cons_zero]; rfl) (fun K hK => ?_) AllReadyH.nil)
              go_simp
              have b50 := heap_setCell_same w10 R 2 _ _ (.slice ub (cs.length + 1) ubc) b10
              have z50 := (heap_setCell_other w10 ⟨R, 2, none⟩ w.heap.size (.slice ub (cs.length + 1) ubc) (by simpa using hn2)).trans z10
              have D50 := D10.set (R := R) HR.out 2 (.slice ub (cs.length + 1) ubc)
              have oc50 : OwnsC (w10.setCell ⟨R, 2, none⟩ (.slice ub (cs.length + 1) ubc)) w1.heap.size _ _ := owns_off oN10 (owns_apart oN10 b10 (by decide)) 2 _
              have on50 : OwnsN (w10.setCell ⟨R, 2, none⟩ (.slice ub (cs.length + 1) ubc)) w1.heap.size _ os := owns_off on10 HOR.out 2 _
              refine hK.out _ _ trivial (fun hHeld => ?_)
              clear hK K
              try simp only [Act.put, List.setIfInBounds_toArray, List.set_cons_zero, List.set_cons_succ]
              refine wpAnyH_done (by kernel_rfl) ?_ _
              obtain ⟨W50, hW50⟩ : ∃ W, (w10.setCell ⟨R, 2, none⟩ (.slice ub (cs.length + 1) ubc)) = W := ⟨_, rfl⟩
              rw [hW50] at b50 z50 D50 oc50 on50 ⊢
              clear hW50 hHeld
              simp only [List.setIfInBounds_toArray, List.set_cons_zero, List.set_cons_succ] at b50
              have q0 := (cell_of_row W50 _ 0 _ _ _ b50).trans (show _ = some (Value.int .i64 id) from rfl)
              have y0 := (cell_of_row W50 _ 0 _ _ _ z50).trans (show _ = some (Value.int .i64 0) from rfl)
              have f0 := frozen_of_row W50 _ 0 _ _ z50
              have q1 := (cell_of_row W50 _ 1 _ _ _ b50).trans (show _ = some (Value.int .i64 tn) from rfl)
              have y1 := (cell_of_row W50 _ 1 _ _ _ z50).trans (show _ = some (Value.int .i64 0) from rfl)
              have f1 := frozen_of_row W50 _ 1 _ _ z50
              have q2 := (cell_of_row W50 _ 2 _ _ _ b50).trans (show _ = some (Value.slice ub (cs.length + 1) ubc) from rfl)
              have y2 := (cell_of_row W50 _ 2 _ _ _ z50).trans (show _ = some (Value.slice none 0 0) from rfl)
              have f2 := frozen_of_row W50 _ 2 _ _ z50
              have q3 := (cell_of_row W50 _ 3 _ _ _ b50).trans (show _ = some (Value.slice oa os.length ocap) from rfl)
              have y3 := (cell_of_row W50 _ 3 _ _ _ z50).trans (show _ = some (Value.slice none 0 0) from rfl)
              have f3 := frozen_of_row W50 _ 3 _ _ z50
              go_wp2
              have r1 := heap_setCell_same W50 w.heap.size 0 _ _ (.int .i64 id) z50
              have r2 := heap_setCell_same _ w.heap.size 1 _ _ (.int .i64 tn) r1
              have r3 := heap_setCell_same _ w.heap.size 2 _ _ (.slice ub (cs.length + 1) ubc) r2
              have r4 := heap_setCell_same _ w.heap.size 3 _ _ (.slice oa os.length ocap) r3
              have D99 := ((((D50.set (R := w.heap.size) (Nat.le_refl _) 0 (.int .i64 id)).set (R := w.heap.size) (Nat.le_refl _) 1 (.int .i64 tn)).set (R := w.heap.size) (Nat.le_refl _) 2 (.slice ub (cs.length + 1) ubc)).set (R := w.heap.size) (Nat.le_refl _) 3 (.slice oa os.length ocap))
              have oc99 := (ownsC_low (ownsC_low (ownsC_low (ownsC_low oc50 (b := w.heap.size) HS1.out 0 (.int .i64 id)) (b := w.heap.size) HS1.out 1 (.int .i64 tn)) (b := w.heap.size) HS1.out 2 (.slice ub (cs.length + 1) ubc)) (b := w.heap.size) HS1.out 3 (.slice oa os.length ocap))
              have on99 := (ownsN_low (ownsN_low (ownsN_low (ownsN_low on50 (b := w.heap.size) HS1.out 0 (.int .i64 id)) (b := w.heap.size) HS1.out 1 (.int .i64 tn)) (b := w.heap.size) HS1.out 2 (.slice ub (cs.length + 1) ubc)) (b := w.heap.size) HS1.out 3 (.slice oa os.length ocap))
              have e0 := cell_of_row _ _ 0 _ _ _ r4
              have e1 := cell_of_row _ _ 1 _ _ _ r4
              have e2 := cell_of_row _ _ 2 _ _ _ r4
              have e3 := cell_of_row _ _ 3 _ _ _ r4
              simp at e0 e1 e2 e3
              refine bodyPost_ret (v := qV id tn (.slice ub (cs.length + 1) ubc) (.slice oa os.length ocap)) ?_ rfl ?_
              · simp [results, Tryz.f23, go_sem, e0, e1, e2, e3, qV]
              · exact ⟨id, tn, _, _, _, _, rfl, ownsC_up oc99 (by have := HS1.out; omega), ownsN_up on99 (by have := HS1.out; omega), by have := HCL.out; simp; omega, by have := HOL.out; omega, D99⟩
            · go_simp
              refine Calls.mono (pick_any w0 c v xs _ D7.cur lb qhis 2 100 (by decide) (by decide) (by decide) lst7 HLC.out) ?_
              rintro e w8 ⟨y, yl, yh, rfl, hC8, hg8⟩
              have D8 := D7.call hC8 hg8
              have z8 := keep hg8 (D7.ne (Nat.le_refl _)) z7
              have b8 := keep hg8 (D7.ne HR.out) b7
              have oc8 : OwnsC w8 w1.heap.size _ cs := kept_low oc7 hg8 (by have := D7.lt; have := HS1.out; omega)
              have on8 := ownsN_grown on7 hg8 (by have := D7.lt; have := HS1.out; omega)
              refine hK.out _ _ trivial (fun hHeld => ?_)
              clear hK K
              try simp only [Act.put, List.setIfInBounds_toArray, List.set_cons_zero, List.set_cons_succ]
              refine take_runs (i := 7) (v := ?_) (by simp only [List.getElem?_toArray, List.getElem?_cons_succ, List.getElem?_cons_zero]; rfl) (by kernel_rfl) (by kernel_rfl) (by kernel_rfl) rfl (by exact fun _ _ _ h => h) (by rfl) ?_ (by assumption) ?_
              rotate_left
              · intro w hSw; (try dsimp only at hSw); go_simp; try (with_reducible rfl)
              try simp only [Act.put, List.setIfInBounds_toArray, List.set_cons_zero, List.set_cons_succ]
              refine wpAnyH_ready (rs := [1, 8]) (by kernel_rfl) (by simp) ?_
              refine (AllReadyH.cons (o := _) (by simp only [List.getElem?_toArray, List.getElem?_cons_succ, List.getElem?_cons_zero]; rfl) (fun K hK => ?_) (AllReadyH.cons (o := _) (by simp only [List.getElem?_toArray, List.getElem?_cons_succ, List.getElem?_cons_zero]; rfl) (fun K hK => ?_) AllReadyH.nil))
              · have p8 := (cell_of_row w8 _ 2 _ _ _ b8).trans (show _ = some (Value.slice ca cs.length ccap) from rfl)
                go_simp
                refine hK.out _ _ trivial (fun hHeld => ?_)
                clear hK K
                try simp only [Act.put, List.setIfInBounds_toArray, List.set_cons_zero, List.set_cons_succ]
                refine wpAnyH_ready (rs := [8]) (by kernel_rfl) (by simp) ?_
                refine (AllReadyH.cons (o := _) (by simp only [List.getElem?_toArray, List.getElem?_cons_succ, List.getElem?_cons_zero]; rfl) (fun K hK => ?_) AllReadyH.nil)
                go_simp
                have D9 := D8.alloc (.cells #[.int .i64 f, .int .i64 3, .int .i64 y] 67)
                have z9 := keepA (.cells #[.int .i64 f, .int .i64 3, .int .i64 y] 67) z8
                have b9 := keepA (.cells #[.int .i64 f, .int .i64 3, .int .i64 y] 67) b8
                have oc9 : OwnsC _ w1.heap.size _ cs := oc8.alloc (.cells #[.int .i64 f, .int .i64 3, .int .i64 y] 67)
                have on9 : OwnsN _ w1.heap.size _ os := on8.alloc (.cells #[.int .i64 f, .int .i64 3, .int .i64 y] 67)
                have cc9 : (w8.alloc (.cells #[.int .i64 f, .int .i64 3, .int .i64 y] 67)).cell? ⟨w8.heap.size, 0, none⟩ = some (.int .i64 f) ∧ (w8.alloc (.cells #[.int .i64 f, .int .i64 3, .int .i64 y] 67)).cell? ⟨w8.heap.size, 1, none⟩ = some (.int .i64 3) ∧ (w8.alloc (.cells #[.int .i64 f, .int .i64 3, .int .i64 y] 67)).cell? ⟨w8.heap.size, 2, none⟩ = some (.int .i64 y) := ⟨(cell_lit w8 #[.int .i64 f, .int .i64 3, .int .i64 y] 67 0).trans rfl, (cell_lit w8 #[.int .i64 f, .int .i64 3, .int .i64 y] 67 1).trans rfl, (cell_lit w8 #[.int .i64 f, .int .i64 3, .int .i64 y] 67 2).trans rfl⟩
                obtain ⟨w9, hW9⟩ : ∃ W, w8.alloc (.cells #[.int .i64 f, .int .i64 3, .int .i64 y] 67) = W := ⟨_, rfl⟩
                have hV9 : w8.alloc (.cells #[.int .i64 f, .int .i64 3, .int .i64 y] 67) = w9 := hW9
                rw [hW9]
                rw [hV9] at D9 z9 b9 oc9 on9 cc9
                clear hW9 hV9
                refine hK.out _ _ trivial (fun hHeld => ?_)
                clear hK K
                try simp only [Act.put, List.setIfInBounds_toArray, List.set_cons_zero, List.set_cons_succ]
                refine wpAnyH_ready (rs := [9]) (by kernel_rfl) (by simp) ?_
                refine (AllReadyH.cons (o := _) (by simp only [List.getElem?_toArray, List.getElem?_cons_succ, List.getElem?_cons_zero]; rfl) (fun K hK => ?_) AllReadyH.nil)
                refine step_append_cond1 rfl (.tmp 25) (.tmp 32) rfl w1.heap.size (.slice ca cs.length ccap) cs w8.heap.size f 3 y rfl rfl oc9 cc9 (by have h1 := D9.size; have h2 := (Array.getElem?_eq_some_iff.1 b9).1; have := HW1.out; omega) (by have := HCL.out; omega) ?_
                intro u10 w10 o10 g10
                obtain ⟨ub, ubc, rfl⟩ := ownsC_len o10
                have oN10 : OwnsC w10 w1.heap.size (.slice ub (cs.length + 1) ubc) (cs ++ [(f, 3, y)]) := by simpa using o10
                have bl10 := (Below.refl w1.heap.size _).grown g10 (by have h2 := (Array.getElem?_eq_some_iff.1 b9).1; have := HW1.out; omega) (fun q hq => (oc9.lt q hq).1)
                have b10 := (g10.block R (Array.getElem?_eq_some_iff.1 b9).1 (fun e => HCR.out e.symm)).trans b9
                have z10 := (g10.block w.heap.size (Array.getElem?_eq_some_iff.1 z9).1 (fun e => HCZ.out e.symm)).trans z9
                have D10 := D9.below bl10 (by have := HS1.out; omega)
                have on10 : OwnsN w10 w1.heap.size _ os := World.ownsRow.kept on9 g10 (apartN HAP.out)
                simp only [List.length_append, List.length_cons, List.length_nil, Nat.zero_add]
                refine hK.out _ _ trivial (fun hHeld => ?_)
                clear hK K
                try simp only [Act.put, List.setIfInBounds_toArray, List.set_cons_zero, List.set_cons_succ]
                refine take_runs (i := 10) (v := ?_) (by simp only [List.getElem?_toArray, List.getElem?_cons_succ, List.getElem?_cons_zero]; rfl) (by kernel_rfl) (by kernel_rfl) (by kernel_rfl) rfl (by exact fun _ _ _ h => h) (by rfl) ?_ (by assumption) ?_
                rotate_left
                · intro w hSw; (try dsimp only at hSw); go_simp; try (with_reducible rfl)
                try simp only [Act.put, List.setIfInBounds_toArray, List.set_cons_zero, List.set_cons_succ]
                have h2 := (cell_of_row w10 _ 2 _ _ _ b10).trans (show _ = some (Value.slice ca cs.length ccap) from rfl)
                have k2 := frozen_of_row w10 _ 2 _ _ b10
                refine wpAnyH_ready (rs := [11]) (by kernel_rfl) (by simp) ?_
                refine (AllReadyH.cons (o := _) (by simp only [List.getElem?_toArray, List.getElem?_cons_succ, List.getElem?_cons_zero]; rfl) (fun K hK => ?_) AllReadyH.nil)
                go_simp
                have b50 := heap_setCell_same w10 R 2 _ _ (.slice ub (cs.length + 1) ubc) b10
                have z50 := (heap_setCell_other w10 ⟨R, 2, none⟩ w.heap.size (.slice ub (cs.length + 1) ubc) (by simpa using hn2)).trans z10
                have D50 := D10.set (R := R) HR.out 2 (.slice ub (cs.length + 1) ubc)
                have oc50 : OwnsC (w10.setCell ⟨R, 2, none⟩ (.slice ub (cs.length + 1) ubc)) w1.heap.size _ _ := owns_off oN10 (owns_apart oN10 b10 (by decide)) 2 _
                have on50 : OwnsN (w10.setCell ⟨R, 2, none⟩ (.slice ub (cs.length + 1) ubc)) w1.heap.size _ os := owns_off on10 HOR.out 2 _
                refine hK.out _ _ trivial (fun hHeld => ?_)
                clear hK K
                try simp only [Act.put, List.setIfInBounds_toArray, List.set_cons_zero, List.set_cons_succ]
                refine wpAnyH_done (by kernel_rfl) ?_ _
                obtain ⟨W50, hW50⟩ : ∃ W, (w10.setCell ⟨R, 2, none⟩ (.slice ub (cs.length + 1) ubc)) = W := ⟨_, rfl⟩
                rw [hW50] at b50 z50 D50 oc50 on50 ⊢
                clear hW50 hHeld
                simp only [List.setIfInBounds_toArray, List.set_cons_zero, List.set_cons_succ] at b50
                have q0 := (cell_of_row W50 _ 0 _ _ _ b50).trans (show _ = some (Value.int .i64 id) from rfl)
                have y0 := (cell_of_row W50 _ 0 _ _ _ z50).trans (show _ = some (Value.int .i64 0) from rfl)
                have f0 := frozen_of_row W50 _ 0 _ _ z50
                have q1 := (cell_of_row W50 _ 1 _ _ _ b50).trans (show _ = some (Value.int .i64 tn) from rfl)
                have y1 := (cell_of_row W50 _ 1 _ _ _ z50).trans (show _ = some (Value.int .i64 0) from rfl)
                have f1 := frozen_of_row W50 _ 1 _ _ z50
                have q2 := (cell_of_row W50 _ 2 _ _ _ b50).trans (show _ = some (Value.slice ub (cs.length + 1) ubc) from rfl)
                have y2 := (cell_of_row W50 _ 2 _ _ _ z50).trans (show _ = some (Value.slice none 0 0) from rfl)
                have f2 := frozen_of_row W50 _ 2 _ _ z50
                have q3 := (cell_of_row W50 _ 3 _ _ _ b50).trans (show _ = some (Value.slice oa os.length ocap) from rfl)
                have y3 := (cell_of_row W50 _ 3 _ _ _ z50).trans (show _ = some (Value.slice none 0 0) from rfl)
                have f3 := frozen_of_row W50 _ 3 _ _ z50
                go_wp2
                have r1 := heap_setCell_same W50 w.heap.size 0 _ _ (.int .i64 id) z50
                have r2 := heap_setCell_same _ w.heap.size 1 _ _ (.int .i64 tn) r1
                have r3 := heap_setCell_same _ w.heap.size 2 _ _ (.slice ub (cs.length + 1) ubc) r2
                have r4 := heap_setCell_same _ w.heap.size 3 _ _ (.slice oa os.length ocap) r3
                have D99 := ((((D50.set (R := w.heap.size) (Nat.le_refl _) 0 (.int .i64 id)).set (R := w.heap.size) (Nat.le_refl _) 1 (.int .i64 tn)).set (R := w.heap.size) (Nat.le_refl _) 2 (.slice ub (cs.length + 1) ubc)).set (R := w.heap.size) (Nat.le_refl _) 3 (.slice oa os.length ocap))
                have oc99 := (ownsC_low (ownsC_low (ownsC_low (ownsC_low oc50 (b := w.heap.size) HS1.out 0 (.int .i64 id)) (b := w.heap.size) HS1.out 1 (.int .i64 tn)) (b := w.heap.size) HS1.out 2 (.slice ub (cs.length + 1) ubc)) (b := w.heap.size) HS1.out 3 (.slice oa os.length ocap))
                have on99 := (ownsN_low (ownsN_low (ownsN_low (ownsN_low on50 (b := w.heap.size) HS1.out 0 (.int .i64 id)) (b := w.heap.size) HS1.out 1 (.int .i64 tn)) (b := w.heap.size) HS1.out 2 (.slice ub (cs.length + 1) ubc)) (b := w.heap.size) HS1.out 3 (.slice oa os.length ocap))
                have e0 := cell_of_row _ _ 0 _ _ _ r4
                have e1 := cell_of_row _ _ 1 _ _ _ r4
                have e2 := cell_of_row _ _ 2 _ _ _ r4
                have e3 := cell_of_row _ _ 3 _ _ _ r4
                simp at e0 e1 e2 e3
                refine bodyPost_ret (v := qV id tn (.slice ub (cs.length + 1) ubc) (.slice oa os.length ocap)) ?_ rfl ?_
                · simp [results, Tryz.f23, go_sem, e0, e1, e2, e3, qV]
                · exact ⟨id, tn, _, _, _, _, rfl, ownsC_up oc99 (by have := HS1.out; omega), ownsN_up on99 (by have := HS1.out; omega), by have := HCL.out; simp; omega, by have := HOL.out; omega, D99⟩
              · go_simp
                have D9 := D8.alloc (.cells #[.int .i64 f, .int .i64 3, .int .i64 y] 67)
                have z9 := keepA (.cells #[.int .i64 f, .int .i64 3, .int .i64 y] 67) z8
                have b9 := keepA (.cells #[.int .i64 f, .int .i64 3, .int .i64 y] 67) b8
                have oc9 : OwnsC _ w1.heap.size _ cs := oc8.alloc (.cells #[.int .i64 f, .int .i64 3, .int .i64 y] 67)
                have on9 : OwnsN _ w1.heap.size _ os := on8.alloc (.cells #[.int .i64 f, .int .i64 3, .int .i64 y] 67)
                have cc9 : (w8.alloc (.cells #[.int .i64 f, .int .i64 3, .int .i64 y] 67)).cell? ⟨w8.heap.size, 0, none⟩ = some (.int .i64 f) ∧ (w8.alloc (.cells #[.int .i64 f, .int .i64 3, .int .i64 y] 67)).cell? ⟨w8.heap.size, 1, none⟩ = some (.int .i64 3) ∧ (w8.alloc (.cells #[.int .i64 f, .int .i64 3, .int .i64 y] 67)).cell? ⟨w8.heap.size, 2, none⟩ = some (.int .i64 y) := ⟨(cell_lit w8 #[.int .i64 f, .int .i64 3, .int .i64 y] 67 0).trans rfl, (cell_lit w8 #[.int .i64 f, .int .i64 3, .int .i64 y] 67 1).trans rfl, (cell_lit w8 #[.int .i64 f, .int .i64 3, .int .i64 y] 67 2).trans rfl⟩
                obtain ⟨w9, hW9⟩ : ∃ W, w8.alloc (.cells #[.int .i64 f, .int .i64 3, .int .i64 y] 67) = W := ⟨_, rfl⟩
                have hV9 : w8.alloc (.cells #[.int .i64 f, .int .i64 3, .int .i64 y] 67) = w9 := hW9
                rw [hW9]
                rw [hV9] at D9 z9 b9 oc9 on9 cc9
                clear hW9 hV9
                refine hK.out _ _ trivial (fun hHeld => ?_)
                clear hK K
                try simp only [Act.put, List.setIfInBounds_toArray, List.set_cons_zero, List.set_cons_succ]
                refine wpAnyH_ready (rs := [1]) (by kernel_rfl) (by simp) ?_
                refine (AllReadyH.cons (o := _) (by simp only [List.getElem?_toArray, List.getElem?_cons_succ, List.getElem?_cons_zero]; rfl) (fun K hK => ?_) AllReadyH.nil)
                have p9 := (cell_of_row w9 _ 2 _ _ _ b9).trans (show _ = some (Value.slice ca cs.length ccap) from rfl)
                go_simp
                refine hK.out _ _ trivial (fun hHeld => ?_)
                clear hK K
                try simp only [Act.put, List.setIfInBounds_toArray, List.set_cons_zero, List.set_cons_succ]
                refine wpAnyH_ready (rs := [9]) (by kernel_rfl) (by simp) ?_
                refine (AllReadyH.cons (o := _) (by simp only [List.getElem?_toArray, List.getElem?_cons_succ, List.getElem?_cons_zero]; rfl) (fun K hK => ?_) AllReadyH.nil)
                refine step_append_cond1 rfl (.tmp 25) (.tmp 32) rfl w1.heap.size (.slice ca cs.length ccap) cs w8.heap.size f 3 y rfl rfl oc9 cc9 (by have h1 := D9.size; have h2 := (Array.getElem?_eq_some_iff.1 b9).1; have := HW1.out; omega) (by have := HCL.out; omega) ?_
                intro u10 w10 o10 g10
                obtain ⟨ub, ubc, rfl⟩ := ownsC_len o10
                have oN10 : OwnsC w10 w1.heap.size (.slice ub (cs.length + 1) ubc) (cs ++ [(f, 3, y)]) := by simpa using o10
                have bl10 := (Below.refl w1.heap.size _).grown g10 (by have h2 := (Array.getElem?_eq_some_iff.1 b9).1; have := HW1.out; omega) (fun q hq => (oc9.lt q hq).1)
                have b10 := (g10.block R (Array.getElem?_eq_some_iff.1 b9).1 (fun e => HCR.out e.symm)).trans b9
                have z10 := (g10.block w.heap.size (Array.getElem?_eq_some_iff.1 z9).1 (fun e => HCZ.out e.symm)).trans z9
                have D10 := D9.below bl10 (by have := HS1.out; omega)
                have on10 : OwnsN w10 w1.heap.size _ os := World.ownsRow.kept on9 g10 (apartN HAP.out)
                simp only [List.length_append, List.length_cons, List.length_nil, Nat.zero_add]
                refine hK.out _ _ trivial (fun hHeld => ?_)
                clear hK K
                try simp only [Act.put, List.setIfInBounds_toArray, List.set_cons_zero, List.set_cons_succ]
                refine take_runs (i := 10) (v := ?_) (by simp only [List.getElem?_toArray, List.getElem?_cons_succ, List.getElem?_cons_zero]; rfl) (by kernel_rfl) (by kernel_rfl) (by kernel_rfl) rfl (by exact fun _ _ _ h => h) (by rfl) ?_ (by assumption) ?_
                rotate_left
                · intro w hSw; (try dsimp only at hSw); go_simp; try (with_reducible rfl)
                try simp only [Act.put, List.setIfInBounds_toArray, List.set_cons_zero, List.set_cons_succ]
                have h2 := (cell_of_row w10 _ 2 _ _ _ b10).trans (show _ = some (Value.slice ca cs.length ccap) from rfl)
                have k2 := frozen_of_row w10 _ 2 _ _ b10
                refine wpAnyH_ready (rs := [11]) (by kernel_rfl) (by simp) ?_
                refine (AllReadyH.cons (o := _) (by simp only [List.getElem?_toArray, List.getElem?_cons_succ, List.getElem?_cons_zero]; rfl) (fun K hK => ?_) AllReadyH.nil)
                go_simp
                have b50 := heap_setCell_same w10 R 2 _ _ (.slice ub (cs.length + 1) ubc) b10
                have z50 := (heap_setCell_other w10 ⟨R, 2, none⟩ w.heap.size (.slice ub (cs.length + 1) ubc) (by simpa using hn2)).trans z10
                have D50 := D10.set (R := R) HR.out 2 (.slice ub (cs.length + 1) ubc)
                have oc50 : OwnsC (w10.setCell ⟨R, 2, none⟩ (.slice ub (cs.length + 1) ubc)) w1.heap.size _ _ := owns_off oN10 (owns_apart oN10 b10 (by decide)) 2 _
                have on50 : OwnsN (w10.setCell ⟨R, 2, none⟩ (.slice ub (cs.length + 1) ubc)) w1.heap.size _ os := owns_off on10 HOR.out 2 _
                refine hK.out _ _ trivial (fun hHeld => ?_)
                clear hK K
                try simp only [Act.put, List.setIfInBounds_toArray, List.set_cons_zero, List.set_cons_succ]
                refine wpAnyH_done (by kernel_rfl) ?_ _
                obtain ⟨W50, hW50⟩ : ∃ W, (w10.setCell ⟨R, 2, none⟩ (.slice ub (cs.length + 1) ubc)) = W := ⟨_, rfl⟩
                rw [hW50] at b50 z50 D50 oc50 on50 ⊢
                clear hW50 hHeld
                simp only [List.setIfInBounds_toArray, List.set_cons_zero, List.set_cons_succ] at b50
                have q0 := (cell_of_row W50 _ 0 _ _ _ b50).trans (show _ = some (Value.int .i64 id) from rfl)
                have y0 := (cell_of_row W50 _ 0 _ _ _ z50).trans (show _ = some (Value.int .i64 0) from rfl)
                have f0 := frozen_of_row W50 _ 0 _ _ z50
                have q1 := (cell_of_row W50 _ 1 _ _ _ b50).trans (show _ = some (Value.int .i64 tn) from rfl)
                have y1 := (cell_of_row W50 _ 1 _ _ _ z50).trans (show _ = some (Value.int .i64 0) from rfl)
                have f1 := frozen_of_row W50 _ 1 _ _ z50
                have q2 := (cell_of_row W50 _ 2 _ _ _ b50).trans (show _ = some (Value.slice ub (cs.length + 1) ubc) from rfl)
                have y2 := (cell_of_row W50 _ 2 _ _ _ z50).trans (show _ = some (Value.slice none 0 0) from rfl)
                have f2 := frozen_of_row W50 _ 2 _ _ z50
                have q3 := (cell_of_row W50 _ 3 _ _ _ b50).trans (show _ = some (Value.slice oa os.length ocap) from rfl)
                have y3 := (cell_of_row W50 _ 3 _ _ _ z50).trans (show _ = some (Value.slice none 0 0) from rfl)
                have f3 := frozen_of_row W50 _ 3 _ _ z50
                go_wp2
                have r1 := heap_setCell_same W50 w.heap.size 0 _ _ (.int .i64 id) z50
                have r2 := heap_setCell_same _ w.heap.size 1 _ _ (.int .i64 tn) r1
                have r3 := heap_setCell_same _ w.heap.size 2 _ _ (.slice ub (cs.length + 1) ubc) r2
                have r4 := heap_setCell_same _ w.heap.size 3 _ _ (.slice oa os.length ocap) r3
                have D99 := ((((D50.set (R := w.heap.size) (Nat.le_refl _) 0 (.int .i64 id)).set (R := w.heap.size) (Nat.le_refl _) 1 (.int .i64 tn)).set (R := w.heap.size) (Nat.le_refl _) 2 (.slice ub (cs.length + 1) ubc)).set (R := w.heap.size) (Nat.le_refl _) 3 (.slice oa os.length ocap))
                have oc99 := (ownsC_low (ownsC_low (ownsC_low (ownsC_low oc50 (b := w.heap.size) HS1.out 0 (.int .i64 id)) (b := w.heap.size) HS1.out 1 (.int .i64 tn)) (b := w.heap.size) HS1.out 2 (.slice ub (cs.length + 1) ubc)) (b := w.heap.size) HS1.out 3 (.slice oa os.length ocap))
                have on99 := (ownsN_low (ownsN_low (ownsN_low (ownsN_low on50 (b := w.heap.size) HS1.out 0 (.int .i64 id)) (b := w.heap.size) HS1.out 1 (.int .i64 tn)) (b := w.heap.size) HS1.out 2 (.slice ub (cs.length + 1) ubc)) (b := w.heap.size) HS1.out 3 (.slice oa os.length ocap))
                have e0 := cell_of_row _ _ 0 _ _ _ r4
                have e1 := cell_of_row _ _ 1 _ _ _ r4
                have e2 := cell_of_row _ _ 2 _ _ _ r4
                have e3 := cell_of_row _ _ 3 _ _ _ r4
                simp at e0 e1 e2 e3
                refine bodyPost_ret (v := qV id tn (.slice ub (cs.length + 1) ubc) (.slice oa os.length ocap)) ?_ rfl ?_
                · simp [results, Tryz.f23, go_sem, e0, e1, e2, e3, qV]
                · exact ⟨id, tn, _, _, _, _, rfl, ownsC_up oc99 (by have := HS1.out; omega), ownsN_up on99 (by have := HS1.out; omega), by have := HCL.out; simp; omega, by have := HOL.out; omega, D99⟩
      · by_cases hd3 : d = 3
        · have t0 : (d == 0) = false := by rw [beq_eq_false_iff_ne]; exact hd0
          have t1 : (d == 1) = false := by rw [beq_eq_false_iff_ne]; exact hd1
          have t2 : (d == 2) = false := by rw [beq_eq_false_iff_ne]; exact hd2
          have t3 : (d == 3) = true := by rw [beq_iff_eq]; exact hd3
          clear hd0 hd1 hd2 hd3
          have D5 : Dr w0 c v xs w w4.drew := D4.below (below_drew (Below.refl w4.heap.size w4)) D4.size
          have oc5 : OwnsC w4.drew w1.heap.size _ cs := ownsC_below oc4 (below_drew (Below.refl w4.heap.size w4))
          have on5 : OwnsN w4.drew w1.heap.size _ os := ownsN_below on4 (below_drew (Below.refl w4.heap.size w4))
          have z5 : w4.drew.heap[w.heap.size]? = some _ := z4
          have b5 : w4.drew.heap[R]? = some _ := b4
          have HX5 : Hid (w4.drew = w4.drew) := Lib.hid rfl
          clear D4 z4 b4 oc4 on4
          go_wp2
          refine wp_region_held_drew (S := fun _ => True) (by kernel_rfl) trivial (fun hHeld => ?_)
          clear HX5
          obtain ⟨w5, hw5⟩ : ∃ w5, w4.drew = w5 := ⟨_, rfl⟩
          rw [hw5] at D5 oc5 on5 z5 b5 ⊢
          clear hw5
          refine take_runs (i := 0) (v := ?_) (by simp only [List.getElem?_toArray, List.getElem?_cons_succ, List.getElem?_cons_zero]; rfl) (by kernel_rfl) (by kernel_rfl) (by kernel_rfl) rfl (by exact fun _ _ _ h => h) (by rfl) ?_ (by assumption) ?_
          rotate_left
          · intro w hSw; (try dsimp only at hSw); go_simp; try (with_reducible rfl)
          try simp only [Act.put, List.setIfInBounds_toArray, List.set_cons_zero, List.set_cons_succ]
          refine take_runs (i := 2) (v := ?_) (by simp only [List.getElem?_toArray, List.getElem?_cons_succ, List.getElem?_cons_zero]; rfl) (by kernel_rfl) (by kernel_rfl) (by kernel_rfl) rfl (by exact fun _ _ _ h => h) (by rfl) ?_ (by assumption) ?_
          rotate_left
          · intro w hSw; (try dsimp only at hSw); go_simp; try (with_reducible rfl)
          try simp only [Act.put, List.setIfInBounds_toArray, List.set_cons_zero, List.set_cons_succ]
          refine wpAnyH_ready (rs := [1, 3]) (by kernel_rfl) (by simp) ?_
          refine (AllReadyH.cons (o := _) (by simp only [List.getElem?_toArray, List.getElem?_cons_succ, List.getElem?_cons_zero]; rfl) (fun K hK => ?_) (AllReadyH.cons (o := _) (by simp only [List.getElem?_toArray, List.getElem?_cons_succ, List.getElem?_cons_zero]; rfl) (fun K hK => ?_) AllReadyH.nil))
          · have p5 := (cell_of_row w5 _ 3 _ _ _ b5).trans (show _ = some (Value.slice oa os.length ocap) from rfl)
            go_simp
            refine hK.out _ _ trivial (fun hHeld => ?_)
            clear hK K
            try simp only [Act.put, List.setIfInBounds_toArray, List.set_cons_zero, List.set_cons_succ]
            refine wpAnyH_ready (rs := [3]) (by kernel_rfl) (by simp) ?_
            refine (AllReadyH.cons (o := _) (by simp only [List.getElem?_toArray, List.getElem?_cons_succ, List.getElem?_cons_zero]; rfl) (fun K hK => ?_) AllReadyH.nil)
            go_simp
            have D6 := D5.alloc (.cells (qfls.map (Value.int .i64)).toArray 3 (0, 0))
            have z6 := keepA (.cells (qfls.map (Value.int .i64)).toArray 3 (0, 0)) z5
            have b6 := keepA (.cells (qfls.map (Value.int .i64)).toArray 3 (0, 0)) b5
            have oc6 : OwnsC _ w1.heap.size _ cs := oc5.alloc (.cells (qfls.map (Value.int .i64)).toArray 3 (0, 0))
            have on6 : OwnsN _ w1.heap.size _ os := on5.alloc (.cells (qfls.map (Value.int .i64)).toArray 3 (0, 0))
            have lst6 := heap_alloc_new w5 (.cells (qfls.map (Value.int .i64)).toArray 3 (0, 0))
            have HLC : Hid (w5.heap.size ≠ c) := Lib.hid (D5.ne D5.size)
            obtain ⟨lb, hlb⟩ : ∃ lb, w5.heap.size = lb := ⟨_, rfl⟩
            rw [hlb] at lst6 HLC ⊢
            clear hlb
            obtain ⟨w6, hW6⟩ : ∃ W, w5.alloc (.cells #[.int .i64 (-1), .int .i64 0, .int .i64 3] 3) = W := ⟨_, rfl⟩
            have hV6 : w5.alloc (.cells (qfls.map (Value.int .i64)).toArray 3 (0, 0)) = w6 := hW6
            rw [hW6]
            rw [hV6] at D6 z6 b6 oc6 on6 lst6
            clear hW6 hV6
            refine hK.out _ _ trivial (fun hHeld => ?_)
            clear hK K
            try simp only [Act.put, List.setIfInBounds_toArray, List.set_cons_zero, List.set_cons_succ]
            refine wpAnyH_ready (rs := [4]) (by kernel_rfl) (by simp) ?_
            refine (AllReadyH.cons (o := _) (by simp only [List.getElem?_toArray, List.getElem?_cons_succ, List.getElem?_cons_zero]; rfl) (fun K hK => ?_) AllReadyH.nil)
            go_simp
            refine Calls.mono (pick_any w0 c v xs _ D6.cur lb qfls (-1) 3 (by decide) (by decide) (by decide) lst6 HLC.out) ?_
            rintro e w7 ⟨y, yl, yh, rfl, hC7, hg7⟩
            have D7 := D6.call hC7 hg7
            have z7 := keep hg7 (D6.ne (Nat.le_refl _)) z6
            have b7 := keep hg7 (D6.ne HR.out) b6
            have oc7 : OwnsC w7 w1.heap.size _ cs := kept_low oc6 hg7 (by have := D6.lt; have := HS1.out; omega)
            have on7 := ownsN_grown on6 hg7 (by have := D6.lt; have := HS1.out; omega)
            refine hK.out _ _ trivial (fun hHeld => ?_)
            clear hK K
            try simp only [Act.put, List.setIfInBounds_toArray, List.set_cons_zero, List.set_cons_succ]
            refine wpAnyH_ready (rs := [5]) (by kernel_rfl) (by simp) ?_
            refine (AllReadyH.cons (o := _) (by simp only [List.getElem?_toArray, List.getElem?_cons_succ, List.getElem?_cons_zero]; rfl) (fun K hK => ?_) AllReadyH.nil)
            go_simp
            have D8 := D7.alloc (.cells #[.int .i64 y] 3)
            have z8 := keepA (.cells #[.int .i64 y] 3) z7
            have b8 := keepA (.cells #[.int .i64 y] 3) b7
            have oc8 : OwnsC _ w1.heap.size _ cs := oc7.alloc (.cells #[.int .i64 y] 3)
            have on8 : OwnsN _ w1.heap.size _ os := on7.alloc (.cells #[.int .i64 y] 3)
            have cc8 : (w7.alloc (.cells #[.int .i64 y] 3)).cell? ⟨w7.heap.size, 0, none⟩ = some (.int .i64 y) := (cell_lit w7 #[.int .i64 y] 3 0).trans rfl
            obtain ⟨w8, hW8⟩ : ∃ W, w7.alloc (.cells #[.int .i64 y] 3) = W := ⟨_, rfl⟩
            have hV8 : w7.alloc (.cells #[.int .i64 y] 3) = w8 := hW8
            rw [hW8]
            rw [hV8] at D8 z8 b8 oc8 on8 cc8
            clear hW8 hV8
            refine hK.out _ _ trivial (fun hHeld => ?_)
            clear hK K
            try simp only [Act.put, List.setIfInBounds_toArray, List.set_cons_zero, List.set_cons_succ]
            refine wpAnyH_ready (rs := [6]) (by kernel_rfl) (by simp) ?_
            refine (AllReadyH.cons (o := _) (by simp only [List.getElem?_toArray, List.getElem?_cons_succ, List.getElem?_cons_zero]; rfl) (fun K hK => ?_) AllReadyH.nil)
            refine step_append_one rfl (.tmp 38) (.tmp 42) rfl w1.heap.size (.slice oa os.length ocap) os w7.heap.size y rfl rfl on8 cc8 (by have h2 := (Array.getElem?_eq_some_iff.1 b8).1; have := HW1.out; omega) (by have := HOL.out; omega) ?_
            intro u9 w9 o9 g9
            obtain ⟨ub, ubc, rfl⟩ := ints_len (ownsN_ints o9)
            have oN9 : OwnsN w9 w1.heap.size (.slice ub (os.length + 1) ubc) (os ++ [y]) := by simpa using o9
            have bl9 := (Below.refl w1.heap.size _).grown g9 (by have h2 := (Array.getElem?_eq_some_iff.1 b8).1; have := HW1.out; omega) (fun q hq => (on8.lt q hq).1)
            have b9 := (g9.block R (Array.getElem?_eq_some_iff.1 b8).1 (fun e => HOR.out e.symm)).trans b8
            have z9 := (g9.block w.heap.size (Array.getElem?_eq_some_iff.1 z8).1 (fun e => HOZ.out e.symm)).trans z8
            have D9 := D8.below bl9 (by have := HS1.out; omega)
            have oc9 : OwnsC w9 w1.heap.size _ cs := World.ownsRow.kept oc8 g9 (apartC HAP.out)
            simp only [List.length_append, List.length_cons, List.length_nil, Nat.zero_add]
            refine hK.out _ _ trivial (fun hHeld => ?_)
            clear hK K
            try simp only [Act.put, List.setIfInBounds_toArray, List.set_cons_zero, List.set_cons_succ]
            refine take_runs (i := 7) (v := ?_) (by simp only [List.getElem?_toArray, List.getElem?_cons_succ, List.getElem?_cons_zero]; rfl) (by kernel_rfl) (by kernel_rfl) (by kernel_rfl) rfl (by exact fun _ _ _ h => h) (by rfl) ?_ (by assumption) ?_
            rotate_left
            · intro w hSw; (try dsimp only at hSw); go_simp; try (with_reducible rfl)
            try simp only [Act.put, List.setIfInBounds_toArray, List.set_cons_zero, List.set_cons_succ]
            have h2 := (cell_of_row w9 _ 3 _ _ _ b9).trans (show _ = some (Value.slice oa os.length ocap) from rfl)
            have k2 := frozen_of_row w9 _ 3 _ _ b9
            refine wpAnyH_ready (rs := [8]) (by kernel_rfl) (by simp) ?_
            refine (AllReadyH.cons (o := _) (by simp only [List.getElem?_toArray, List.getElem?_cons_succ, List.getElem?_cons_zero]; rfl) (fun K hK => ?_) AllReadyH.nil)
            go_simp
            have b50 := heap_setCell_same w9 R 3 _ _ (.slice ub (os.length + 1) ubc) b9
            have z50 := (heap_setCell_other w9 ⟨R, 3, none⟩ w.heap.size (.slice ub (os.length + 1) ubc) (by simpa using hn2)).trans z9
            have D50 := D9.set (R := R) HR.out 3 (.slice ub (os.length + 1) ubc)
            have on50 : OwnsN (w9.setCell ⟨R, 3, none⟩ (.slice ub (os.length + 1) ubc)) w1.heap.size _ _ := owns_off oN9 (owns_apart oN9 b9 (by decide)) 3 _
            have oc50 : OwnsC (w9.setCell ⟨R, 3, none⟩ (.slice ub (os.length + 1) ubc)) w1.heap.size _ cs := owns_off oc9 HCR.out 3 _
            refine hK.out _ _ trivial (fun hHeld => ?_)
            clear hK K
            try simp only [Act.put, List.setIfInBounds_toArray, List.set_cons_zero, List.set_cons_succ]
            refine wpAnyH_done (by kernel_rfl) ?_ _
            obtain ⟨W50, hW50⟩ : ∃ W, (w9.setCell ⟨R, 3, none⟩ (.slice ub (os.length + 1) ubc)) = W := ⟨_, rfl⟩
            rw [hW50] at b50 z50 D50 oc50 on50 ⊢
            clear hW50 hHeld
            simp only [List.setIfInBounds_toArray, List.set_cons_zero, List.set_cons_succ] at b50
            have q0 := (cell_of_row W50 _ 0 _ _ _ b50).trans (show _ = some (Value.int .i64 id) from rfl)
            have y0 := (cell_of_row W50 _ 0 _ _ _ z50).trans (show _ = some (Value.int .i64 0) from rfl)
            have f0 := frozen_of_row W50 _ 0 _ _ z50
            have q1 := (cell_of_row W50 _ 1 _ _ _ b50).trans (show _ = some (Value.int .i64 tn) from rfl)
            have y1 := (cell_of_row W50 _ 1 _ _ _ z50).trans (show _ = some (Value.int .i64 0) from rfl)
            have f1 := frozen_of_row W50 _ 1 _ _ z50
            have q2 := (cell_of_row W50 _ 2 _ _ _ b50).trans (show _ = some (Value.slice ca cs.length ccap) from rfl)
            have y2 := (cell_of_row W50 _ 2 _ _ _ z50).trans (show _ = some (Value.slice none 0 0) from rfl)
            have f2 := frozen_of_row W50 _ 2 _ _ z50
            have q3 := (cell_of_row W50 _ 3 _ _ _ b50).trans (show _ = some (Value.slice ub (os.length + 1) ubc) from rfl)
            have y3 := (cell_of_row W50 _ 3 _ _ _ z50).trans (show _ = some (Value.slice none 0 0) from rfl)
            have f3 := frozen_of_row W50 _ 3 _ _ z50
            go_wp2
            have r1 := heap_setCell_same W50 w.heap.size 0 _ _ (.int .i64 id) z50
            have r2 := heap_setCell_same _ w.heap.size 1 _ _ (.int .i64 tn) r1
            have r3 := heap_setCell_same _ w.heap.size 2 _ _ (.slice ca cs.length ccap) r2
            have r4 := heap_setCell_same _ w.heap.size 3 _ _ (.slice ub (os.length + 1) ubc) r3
            have D99 := ((((D50.set (R := w.heap.size) (Nat.le_refl _) 0 (.int .i64 id)).set (R := w.heap.size) (Nat.le_refl _) 1 (.int .i64 tn)).set (R := w.heap.size) (Nat.le_refl _) 2 (.slice ca cs.length ccap)).set (R := w.heap.size) (Nat.le_refl _) 3 (.slice ub (os.length + 1) ubc))
            have oc99 := (ownsC_low (ownsC_low (ownsC_low (ownsC_low oc50 (b := w.heap.size) HS1.out 0 (.int .i64 id)) (b := w.heap.size) HS1.out 1 (.int .i64 tn)) (b := w.heap.size) HS1.out 2 (.slice ca cs.length ccap)) (b := w.heap.size) HS1.out 3 (.slice ub (os.length + 1) ubc))
            have on99 := (ownsN_low (ownsN_low (ownsN_low (ownsN_low on50 (b := w.heap.size) HS1.out 0 (.int .i64 id)) (b := w.heap.size) HS1.out 1 (.int .i64 tn)) (b := w.heap.size) HS1.out 2 (.slice ca cs.length ccap)) (b := w.heap.size) HS1.out 3 (.slice ub (os.length + 1) ubc))
            have e0 := cell_of_row _ _ 0 _ _ _ r4
            have e1 := cell_of_row _ _ 1 _ _ _ r4
            have e2 := cell_of_row _ _ 2 _ _ _ r4
            have e3 := cell_of_row _ _ 3 _ _ _ r4
            simp at e0 e1 e2 e3
            refine bodyPost_ret (v := qV id tn (.slice ca cs.length ccap) (.slice ub (os.length + 1) ubc)) ?_ rfl ?_
            · simp [results, Tryz.f23, go_sem, e0, e1, e2, e3, qV]
            · exact ⟨id, tn, _, _, _, _, rfl, ownsC_up oc99 (by have := HS1.out; omega), ownsN_up on99 (by have := HS1.out; omega), by have := HCL.out; omega, by have := HOL.out; simp; omega, D99⟩
          · go_simp
            have D6 := D5.alloc (.cells (qfls.map (Value.int .i64)).toArray 3 (0, 0))
            have z6 := keepA (.cells (qfls.map (Value.int .i64)).toArray 3 (0, 0)) z5
            have b6 := keepA (.cells (qfls.map (Value.int .i64)).toArray 3 (0, 0)) b5
            have oc6 : OwnsC _ w1.heap.size _ cs := oc5.alloc (.cells (qfls.map (Value.int .i64)).toArray 3 (0, 0))
            have on6 : OwnsN _ w1.heap.size _ os := on5.alloc (.cells (qfls.map (Value.int .i64)).toArray 3 (0, 0))
            have lst6 := heap_alloc_new w5 (.cells (qfls.map (Value.int .i64)).toArray 3 (0, 0))
            have HLC : Hid (w5.heap.size ≠ c) := Lib.hid (D5.ne D5.size)
            obtain ⟨lb, hlb⟩ : ∃ lb, w5.heap.size = lb := ⟨_, rfl⟩
            rw [hlb] at lst6 HLC ⊢
            clear hlb
            obtain ⟨w6, hW6⟩ : ∃ W, w5.alloc (.cells #[.int .i64 (-1), .int .i64 0, .int .i64 3] 3) = W := ⟨_, rfl⟩
            have hV6 : w5.alloc (.cells (qfls.map (Value.int .i64)).toArray 3 (0, 0)) = w6 := hW6
            rw [hW6]
            rw [hV6] at D6 z6 b6 oc6 on6 lst6
            clear hW6 hV6
            refine hK.out _ _ trivial (fun hHeld => ?_)
            clear hK K
            try simp only [Act.put, List.setIfInBounds_toArray, List.set_cons_zero, List.set_cons_succ]
            refine wpAnyH_ready (rs := [1, 4]) (by kernel_rfl) (by simp) ?_
            refine (AllReadyH.cons (o := _) (by simp only [List.getElem?_toArray, List.getElem?_cons_succ, List.getElem?_cons_zero]; rfl) (fun K hK => ?_) (AllReadyH.cons (o := _) (by simp only [List.getElem?_toArray, List.getElem?_cons_succ, List.getElem?_cons_zero]; rfl) (fun K hK => ?_) AllReadyH.nil))
            · have p6 := (cell_of_row w6 _ 3 _ _ _ b6).trans (show _ = some (Value.slice oa os.length ocap) from rfl)
              go_simp
              refine hK.out _ _ trivial (fun hHeld => ?_)
              clear hK K
              try simp only [Act.put, List.setIfInBounds_toArray, List.set_cons_zero, List.set_cons_succ]
              refine wpAnyH_ready (rs := [4]) (by kernel_rfl) (by simp) ?_
              refine (AllReadyH.cons (o := _) (by simp only [List.getElem?_toArray, List.getElem?_cons_succ, List.getElem?_cons_zero]; rfl) (fun K hK => ?_) AllReadyH.nil)
              go_simp
              refine Calls.mono (pick_any w0 c v xs _ D6.cur lb qfls (-1) 3 (by decide) (by decide) (by decide) lst6 HLC.out) ?_
              rintro e w7 ⟨y, yl, yh, rfl, hC7, hg7⟩
              have D7 := D6.call hC7 hg7
              have z7 := keep hg7 (D6.ne (Nat.le_refl _)) z6
              have b7 := keep hg7 (D6.ne HR.out) b6
              have oc7 : OwnsC w7 w1.heap.size _ cs := kept_low oc6 hg7 (by have := D6.lt; have := HS1.out; omega)
              have on7 := ownsN_grown on6 hg7 (by have := D6.lt; have := HS1.out; omega)
              refine hK.out _ _ trivial (fun hHeld => ?_)
              clear hK K
              try simp only [Act.put, List.setIfInBounds_toArray, List.set_cons_zero, List.set_cons_succ]
              refine wpAnyH_ready (rs := [5]) (by kernel_rfl) (by simp) ?_
              refine (AllReadyH.cons (o := _) (by simp only [List.getElem?_toArray, List.getElem?_cons_succ, List.getElem?_cons_zero]; rfl) (fun K hK => ?_) AllReadyH.nil)
              go_simp
              have D8 := D7.alloc (.cells #[.int .i64 y] 3)
              have z8 := keepA (.cells #[.int .i64 y] 3) z7
              have b8 := keepA (.cells #[.int .i64 y] 3) b7
              have oc8 : OwnsC _ w1.heap.size _ cs := oc7.alloc (.cells #[.int .i64 y] 3)
              have on8 : OwnsN _ w1.heap.size _ os := on7.alloc (.cells #[.int .i64 y] 3)
              have cc8 : (w7.alloc (.cells #[.int .i64 y] 3)).cell? ⟨w7.heap.size, 0, none⟩ = some (.int .i64 y) := (cell_lit w7 #[.int .i64 y] 3 0).trans rfl
              obtain ⟨w8, hW8⟩ : ∃ W, w7.alloc (.cells #[.int .i64 y] 3) = W := ⟨_, rfl⟩
              have hV8 : w7.alloc (.cells #[.int .i64 y] 3) = w8 := hW8
              rw [hW8]
              rw [hV8] at D8 z8 b8 oc8 on8 cc8
              clear hW8 hV8
              refine hK.out _ _ trivial (fun hHeld => ?_)
              clear hK K
              try simp only [Act.put, List.setIfInBounds_toArray, List.set_cons_zero, List.set_cons_succ]
              refine wpAnyH_ready (rs := [6]) (by kernel_rfl) (by simp) ?_
              refine (AllReadyH.cons (o := _) (by simp only [List.getElem?_toArray, List.getElem?_cons_succ, List.getElem?_cons_zero]; rfl) (fun K hK => ?_) AllReadyH.nil)
              refine step_append_one rfl (.tmp 38) (.tmp 42) rfl w1.heap.size (.slice oa os.length ocap) os w7.heap.size y rfl rfl on8 cc8 (by have h2 := (Array.getElem?_eq_some_iff.1 b8).1; have := HW1.out; omega) (by have := HOL.out; omega) ?_
              intro u9 w9 o9 g9
              obtain ⟨ub, ubc, rfl⟩ := ints_len (ownsN_ints o9)
              have oN9 : OwnsN w9 w1.heap.size (.slice ub (os.length + 1) ubc) (os ++ [y]) := by simpa using o9
              have bl9 := (Below.refl w1.heap.size _).grown g9 (by have h2 := (Array.getElem?_eq_some_iff.1 b8).1; have := HW1.out; omega) (fun q hq => (on8.lt q hq).1)
              have b9 := (g9.block R (Array.getElem?_eq_some_iff.1 b8).1 (fun e => HOR.out e.symm)).trans b8
              have z9 := (g9.block w.heap.size (Array.getElem?_eq_some_iff.1 z8).1 (fun e => HOZ.out e.symm)).trans z8
              have D9 := D8.below bl9 (by have := HS1.out; omega)
              have oc9 : OwnsC w9 w1.heap.size _ cs := World.ownsRow.kept oc8 g9 (apartC HAP.out)
              simp only [List.length_append, List.length_cons, List.length_nil, Nat.zero_add]
              refine hK.out _ _ trivial (fun hHeld => ?_)
              clear hK K
              try simp only [Act.put, List.setIfInBounds_toArray, List.set_cons_zero, List.set_cons_succ]
              refine take_runs (i := 7) (v := ?_) (by simp only [List.getElem?_toArray, List.getElem?_cons_succ, List.getElem?_cons_zero]; rfl) (by kernel_rfl) (by kernel_rfl) (by kernel_rfl) rfl (by exact fun _ _ _ h => h) (by rfl) ?_ (by assumption) ?_
              rotate_left
              · intro w hSw; (try dsimp only at hSw); go_simp; try (with_reducible rfl)
              try simp only [Act.put, List.setIfInBounds_toArray, List.set_cons_zero, List.set_cons_succ]
              have h2 := (cell_of_row w9 _ 3 _ _ _ b9).trans (show _ = some (Value.slice oa os.length ocap) from rfl)
              have k2 := frozen_of_row w9 _ 3 _ _ b9
              refine wpAnyH_ready (rs := [8]) (by kernel_rfl) (by simp) ?_
              refine (AllReadyH.cons (o := _) (by simp only [List.getElem?_toArray, List.getElem?_cons_succ, List.getElem?_cons_zero]; rfl) (fun K hK => ?_) AllReadyH.nil)
              go_simp
              have b50 := heap_setCell_same w9 R 3 _ _ (.slice ub (os.length + 1) ubc) b9
              have z50 := (heap_setCell_other w9 ⟨R, 3, none⟩ w.heap.size (.slice ub (os.length + 1) ubc) (by simpa using hn2)).trans z9
              have D50 := D9.set (R := R) HR.out 3 (.slice ub (os.length + 1) ubc)
              have on50 : OwnsN (w9.setCell ⟨R, 3, none⟩ (.slice ub (os.length + 1) ubc)) w1.heap.size _ _ := owns_off oN9 (owns_apart oN9 b9 (by decide)) 3 _
              have oc50 : OwnsC (w9.setCell ⟨R, 3, none⟩ (.slice ub (os.length + 1) ubc)) w1.heap.size _ cs := owns_off oc9 HCR.out 3 _
              refine hK.out _ _ trivial (fun hHeld => ?_)
              clear hK K
              try simp only [Act.put, List.setIfInBounds_toArray, List.set_cons_zero, List.set_cons_succ]
              refine wpAnyH_done (by kernel_rfl) ?_ _
              obtain ⟨W50, hW50⟩ : ∃ W, (w9.setCell ⟨R, 3, none⟩ (.slice ub (os.length + 1) ubc)) = W := ⟨_, rfl⟩
              rw [hW50] at b50 z50 D50 oc50 on50 ⊢
              clear hW50 hHeld
              simp only [List.setIfInBounds_toArray, List.set_cons_zero, List.set_cons_succ] at b50
              have q0 := (cell_of_row W50 _ 0 _ _ _ b50).trans (show _ = some (Value.int .i64 id) from rfl)
              have y0 := (cell_of_row W50 _ 0 _ _ _ z50).trans (show _ = some (Value.int .i64 0) from rfl)
              have f0 := frozen_of_row W50 _ 0 _ _ z50
              have q1 := (cell_of_row W50 _ 1 _ _ _ b50).trans (show _ = some (Value.int .i64 tn) from rfl)
              have y1 := (cell_of_row W50 _ 1 _ _ _ z50).trans (show _ = some (Value.int .i64 0) from rfl)
              have f1 := frozen_of_row W50 _ 1 _ _ z50
              have q2 := (cell_of_row W50 _ 2 _ _ _ b50).trans (show _ = some (Value.slice ca cs.length ccap) from rfl)
              have y2 := (cell_of_row W50 _ 2 _ _ _ z50).trans (show _ = some (Value.slice none 0 0) from rfl)
              have f2 := frozen_of_row W50 _ 2 _ _ z50
              have q3 := (cell_of_row W50 _ 3 _ _ _ b50).trans (show _ = some (Value.slice ub (os.length + 1) ubc) from rfl)
              have y3 := (cell_of_row W50 _ 3 _ _ _ z50).trans (show _ = some (Value.slice none 0 0) from rfl)
              have f3 := frozen_of_row W50 _ 3 _ _ z50
              go_wp2
              have r1 := heap_setCell_same W50 w.heap.size 0 _ _ (.int .i64 id) z50
              have r2 := heap_setCell_same _ w.heap.size 1 _ _ (.int .i64 tn) r1
              have r3 := heap_setCell_same _ w.heap.size 2 _ _ (.slice ca cs.length ccap) r2
              have r4 := heap_setCell_same _ w.heap.size 3 _ _ (.slice ub (os.length + 1) ubc) r3
              have D99 := ((((D50.set (R := w.heap.size) (Nat.le_refl _) 0 (.int .i64 id)).set (R := w.heap.size) (Nat.le_refl _) 1 (.int .i64 tn)).set (R := w.heap.size) (Nat.le_refl _) 2 (.slice ca cs.length ccap)).set (R := w.heap.size) (Nat.le_refl _) 3 (.slice ub (os.length + 1) ubc))
              have oc99 := (ownsC_low (ownsC_low (ownsC_low (ownsC_low oc50 (b := w.heap.size) HS1.out 0 (.int .i64 id)) (b := w.heap.size) HS1.out 1 (.int .i64 tn)) (b := w.heap.size) HS1.out 2 (.slice ca cs.length ccap)) (b := w.heap.size) HS1.out 3 (.slice ub (os.length + 1) ubc))
              have on99 := (ownsN_low (ownsN_low (ownsN_low (ownsN_low on50 (b := w.heap.size) HS1.out 0 (.int .i64 id)) (b := w.heap.size) HS1.out 1 (.int .i64 tn)) (b := w.heap.size) HS1.out 2 (.slice ca cs.length ccap)) (b := w.heap.size) HS1.out 3 (.slice ub (os.length + 1) ubc))
              have e0 := cell_of_row _ _ 0 _ _ _ r4
              have e1 := cell_of_row _ _ 1 _ _ _ r4
              have e2 := cell_of_row _ _ 2 _ _ _ r4
              have e3 := cell_of_row _ _ 3 _ _ _ r4
              simp at e0 e1 e2 e3
              refine bodyPost_ret (v := qV id tn (.slice ca cs.length ccap) (.slice ub (os.length + 1) ubc)) ?_ rfl ?_
              · simp [results, Tryz.f23, go_sem, e0, e1, e2, e3, qV]
              · exact ⟨id, tn, _, _, _, _, rfl, ownsC_up oc99 (by have := HS1.out; omega), ownsN_up on99 (by have := HS1.out; omega), by have := HCL.out; omega, by have := HOL.out; simp; omega, D99⟩
            · go_simp
              refine Calls.mono (pick_any w0 c v xs _ D6.cur lb qfls (-1) 3 (by decide) (by decide) (by decide) lst6 HLC.out) ?_
              rintro e w7 ⟨y, yl, yh, rfl, hC7, hg7⟩
              have D7 := D6.call hC7 hg7
              have z7 := keep hg7 (D6.ne (Nat.le_refl _)) z6
              have b7 := keep hg7 (D6.ne HR.out) b6
              have oc7 : OwnsC w7 w1.heap.size _ cs := kept_low oc6 hg7 (by have := D6.lt; have := HS1.out; omega)
              have on7 := ownsN_grown on6 hg7 (by have := D6.lt; have := HS1.out; omega)
              refine hK.out _ _ trivial (fun hHeld => ?_)
              clear hK K
              try simp only [Act.put, List.setIfInBounds_toArray, List.set_cons_zero, List.set_cons_succ]
              refine wpAnyH_ready (rs := [1, 5]) (by kernel_rfl) (by simp) ?_
              refine (AllReadyH.cons (o := _) (by simp only [List.getElem?_toArray, List.getElem?_cons_succ, List.getElem?_cons_zero]; rfl) (fun K hK => ?_) (AllReadyH.cons (o := _) (by simp only [List.getElem?_toArray, List.getElem?_cons_succ, List.getElem?_cons_zero]; rfl) (fun K hK => ?_) AllReadyH.nil))
              · have p7 := (cell_of_row w7 _ 3 _ _ _ b7).trans (show _ = some (Value.slice oa os.length ocap) from rfl)
                go_simp
                refine hK.out _ _ trivial (fun hHeld => ?_)
                clear hK K
                try simp only [Act.put, List.setIfInBounds_toArray, List.set_cons_zero, List.set_cons_succ]
                refine wpAnyH_ready (rs := [5]) (by kernel_rfl) (by simp) ?_
                refine (AllReadyH.cons (o := _) (by simp only [List.getElem?_toArray, List.getElem?_cons_succ, List.getElem?_cons_zero]; rfl) (fun K hK => ?_) AllReadyH.nil)
                go_simp
                have D8 := D7.alloc (.cells #[.int .i64 y] 3)
                have z8 := keepA (.cells #[.int .i64 y] 3) z7
                have b8 := keepA (.cells #[.int .i64 y] 3) b7
                have oc8 : OwnsC _ w1.heap.size _ cs := oc7.alloc (.cells #[.int .i64 y] 3)
                have on8 : OwnsN _ w1.heap.size _ os := on7.alloc (.cells #[.int .i64 y] 3)
                have cc8 : (w7.alloc (.cells #[.int .i64 y] 3)).cell? ⟨w7.heap.size, 0, none⟩ = some (.int .i64 y) := (cell_lit w7 #[.int .i64 y] 3 0).trans rfl
                obtain ⟨w8, hW8⟩ : ∃ W, w7.alloc (.cells #[.int .i64 y] 3) = W := ⟨_, rfl⟩
                have hV8 : w7.alloc (.cells #[.int .i64 y] 3) = w8 := hW8
                rw [hW8]
                rw [hV8] at D8 z8 b8 oc8 on8 cc8
                clear hW8 hV8
                refine hK.out _ _ trivial (fun hHeld => ?_)
                clear hK K
                try simp only [Act.put, List.setIfInBounds_toArray, List.set_cons_zero, List.set_cons_succ]
                refine wpAnyH_ready (rs := [6]) (by kernel_rfl) (by simp) ?_
                refine (AllReadyH.cons (o := _) (by simp only [List.getElem?_toArray, List.getElem?_cons_succ, List.getElem?_cons_zero]; rfl) (fun K hK => ?_) AllReadyH.nil)
                refine step_append_one rfl (.tmp 38) (.tmp 42) rfl w1.heap.size (.slice oa os.length ocap) os w7.heap.size y rfl rfl on8 cc8 (by have h2 := (Array.getElem?_eq_some_iff.1 b8).1; have := HW1.out; omega) (by have := HOL.out; omega) ?_
                intro u9 w9 o9 g9
                obtain ⟨ub, ubc, rfl⟩ := ints_len (ownsN_ints o9)
                have oN9 : OwnsN w9 w1.heap.size (.slice ub (os.length + 1) ubc) (os ++ [y]) := by simpa using o9
                have bl9 := (Below.refl w1.heap.size _).grown g9 (by have h2 := (Array.getElem?_eq_some_iff.1 b8).1; have := HW1.out; omega) (fun q hq => (on8.lt q hq).1)
                have b9 := (g9.block R (Array.getElem?_eq_some_iff.1 b8).1 (fun e => HOR.out e.symm)).trans b8
                have z9 := (g9.block w.heap.size (Array.getElem?_eq_some_iff.1 z8).1 (fun e => HOZ.out e.symm)).trans z8
                have D9 := D8.below bl9 (by have := HS1.out; omega)
                have oc9 : OwnsC w9 w1.heap.size _ cs := World.ownsRow.kept oc8 g9 (apartC HAP.out)
                simp only [List.length_append, List.length_cons, List.length_nil, Nat.zero_add]
                refine hK.out _ _ trivial (fun hHeld => ?_)
                clear hK K
                try simp only [Act.put, List.setIfInBounds_toArray, List.set_cons_zero, List.set_cons_succ]
                refine take_runs (i := 7) (v := ?_) (by simp only [List.getElem?_toArray, List.getElem?_cons_succ, List.getElem?_cons_zero]; rfl) (by kernel_rfl) (by kernel_rfl) (by kernel_rfl) rfl (by exact fun _ _ _ h => h) (by rfl) ?_ (by assumption) ?_
                rotate_left
                · intro w hSw; (try dsimp only at hSw); go_simp; try (with_reducible rfl)
                try simp only [Act.put, List.setIfInBounds_toArray, List.set_cons_zero, List.set_cons_succ]
                have h2 := (cell_of_row w9 _ 3 _ _ _ b9).trans (show _ = some (Value.slice oa os.length ocap) from rfl)
                have k2 := frozen_of_row w9 _ 3 _ _ b9
                refine wpAnyH_ready (rs := [8]) (by kernel_rfl) (by simp) ?_
                refine (AllReadyH.cons (o := _) (by simp only [List.getElem?_toArray, List.getElem?_cons_succ, List.getElem?_cons_zero]; rfl) (fun K hK => ?_) AllReadyH.nil)
                go_simp
                have b50 := heap_setCell_same w9 R 3 _ _ (.slice ub (os.length + 1) ubc) b9
                have z50 := (heap_setCell_other w9 ⟨R, 3, none⟩ w.heap.size (.slice ub (os.length + 1) ubc) (by simpa using hn2)).trans z9
                have D50 := D9.set (R := R) HR.out 3 (.slice ub (os.length + 1) ubc)
                have on50 : OwnsN (w9.setCell ⟨R, 3, none⟩ (.slice ub (os.length + 1) ubc)) w1.heap.size _ _ := owns_off oN9 (owns_apart oN9 b9 (by decide)) 3 _
                have oc50 : OwnsC (w9.setCell ⟨R, 3, none⟩ (.slice ub (os.length + 1) ubc)) w1.heap.size _ cs := owns_off oc9 HCR.out 3 _
                refine hK.out _ _ trivial (fun hHeld => ?_)
                clear hK K
                try simp only [Act.put, List.setIfInBounds_toArray, List.set_cons_zero, List.set_cons_succ]
                refine wpAnyH_done (by kernel_rfl) ?_ _
                obtain ⟨W50, hW50⟩ : ∃ W, (w9.setCell ⟨R, 3, none⟩ (.slice ub (os.length + 1) ubc)) = W := ⟨_, rfl⟩
                rw [hW50] at b50 z50 D50 oc50 on50 ⊢
                clear hW50 hHeld
                simp only [List.setIfInBounds_toArray, List.set_cons_zero, List.set_cons_succ] at b50
                have q0 := (cell_of_row W50 _ 0 _ _ _ b50).trans (show _ = some (Value.int .i64 id) from rfl)
                have y0 := (cell_of_row W50 _ 0 _ _ _ z50).trans (show _ = some (Value.int .i64 0) from rfl)
                have f0 := frozen_of_row W50 _ 0 _ _ z50
                have q1 := (cell_of_row W50 _ 1 _ _ _ b50).trans (show _ = some (Value.int .i64 tn) from rfl)
                have y1 := (cell_of_row W50 _ 1 _ _ _ z50).trans (show _ = some (Value.int .i64 0) from rfl)
                have f1 := frozen_of_row W50 _ 1 _ _ z50
                have q2 := (cell_of_row W50 _ 2 _ _ _ b50).trans (show _ = some (Value.slice ca cs.length ccap) from rfl)
                have y2 := (cell_of_row W50 _ 2 _ _ _ z50).trans (show _ = some (Value.slice none 0 0) from rfl)
                have f2 := frozen_of_row W50 _ 2 _ _ z50
                have q3 := (cell_of_row W50 _ 3 _ _ _ b50).trans (show _ = some (Value.slice ub (os.length + 1) ubc) from rfl)
                have y3 := (cell_of_row W50 _ 3 _ _ _ z50).trans (show _ = some (Value.slice none 0 0) from rfl)
                have f3 := frozen_of_row W50 _ 3 _ _ z50
                go_wp2
                have r1 := heap_setCell_same W50 w.heap.size 0 _ _ (.int .i64 id) z50
                have r2 := heap_setCell_same _ w.heap.size 1 _ _ (.int .i64 tn) r1
                have r3 := heap_setCell_same _ w.heap.size 2 _ _ (.slice ca cs.length ccap) r2
                have r4 := heap_setCell_same _ w.heap.size 3 _ _ (.slice ub (os.length + 1) ubc) r3
                have D99 := ((((D50.set (R := w.heap.size) (Nat.le_refl _) 0 (.int .i64 id)).set (R := w.heap.size) (Nat.le_refl _) 1 (.int .i64 tn)).set (R := w.heap.size) (Nat.le_refl _) 2 (.slice ca cs.length ccap)).set (R := w.heap.size) (Nat.le_refl _) 3 (.slice ub (os.length + 1) ubc))
                have oc99 := (ownsC_low (ownsC_low (ownsC_low (ownsC_low oc50 (b := w.heap.size) HS1.out 0 (.int .i64 id)) (b := w.heap.size) HS1.out 1 (.int .i64 tn)) (b := w.heap.size) HS1.out 2 (.slice ca cs.length ccap)) (b := w.heap.size) HS1.out 3 (.slice ub (os.length + 1) ubc))
                have on99 := (ownsN_low (ownsN_low (ownsN_low (ownsN_low on50 (b := w.heap.size) HS1.out 0 (.int .i64 id)) (b := w.heap.size) HS1.out 1 (.int .i64 tn)) (b := w.heap.size) HS1.out 2 (.slice ca cs.length ccap)) (b := w.heap.size) HS1.out 3 (.slice ub (os.length + 1) ubc))
                have e0 := cell_of_row _ _ 0 _ _ _ r4
                have e1 := cell_of_row _ _ 1 _ _ _ r4
                have e2 := cell_of_row _ _ 2 _ _ _ r4
                have e3 := cell_of_row _ _ 3 _ _ _ r4
                simp at e0 e1 e2 e3
                refine bodyPost_ret (v := qV id tn (.slice ca cs.length ccap) (.slice ub (os.length + 1) ubc)) ?_ rfl ?_
                · simp [results, Tryz.f23, go_sem, e0, e1, e2, e3, qV]
                · exact ⟨id, tn, _, _, _, _, rfl, ownsC_up oc99 (by have := HS1.out; omega), ownsN_up on99 (by have := HS1.out; omega), by have := HCL.out; omega, by have := HOL.out; simp; omega, D99⟩
              · go_simp
                have D8 := D7.alloc (.cells #[.int .i64 y] 3)
                have z8 := keepA (.cells #[.int .i64 y] 3) z7
                have b8 := keepA (.cells #[.int .i64 y] 3) b7
                have oc8 : OwnsC _ w1.heap.size _ cs := oc7.alloc (.cells #[.int .i64 y] 3)
                have on8 : OwnsN _ w1.heap.size _ os := on7.alloc (.cells #[.int .i64 y] 3)
                have cc8 : (w7.alloc (.cells #[.int .i64 y] 3)).cell? ⟨w7.heap.size, 0, none⟩ = some (.int .i64 y) := (cell_lit w7 #[.int .i64 y] 3 0).trans rfl
                obtain ⟨w8, hW8⟩ : ∃ W, w7.alloc (.cells #[.int .i64 y] 3) = W := ⟨_, rfl⟩
                have hV8 : w7.alloc (.cells #[.int .i64 y] 3) = w8 := hW8
                rw [hW8]
                rw [hV8] at D8 z8 b8 oc8 on8 cc8
                clear hW8 hV8
                refine hK.out _ _ trivial (fun hHeld => ?_)
                clear hK K
                try simp only [Act.put, List.setIfInBounds_toArray, List.set_cons_zero, List.set_cons_succ]
                refine wpAnyH_ready (rs := [1]) (by kernel_rfl) (by simp) ?_
                refine (AllReadyH.cons (o := _) (by simp only [List.getElem?_toArray, List.getElem?_cons_succ, List.getElem?_cons_zero]; rfl) (fun K hK => ?_) AllReadyH.nil)
                have p8 := (cell_of_row w8 _ 3 _ _ _ b8).trans (show _ = some (Value.slice oa os.length ocap) from rfl)
                go_simp
                refine hK.out _ _ trivial (fun hHeld => ?_)
                clear hK K
                try simp only [Act.put, List.setIfInBounds_toArray, List.set_cons_zero, List.set_cons_succ]
                refine wpAnyH_ready (rs := [6]) (by kernel_rfl) (by simp) ?_
                refine (AllReadyH.cons (o := _) (by simp only [List.getElem?_toArray, List.getElem?_cons_succ, List.getElem?_cons_zero]; rfl) (fun K hK => ?_) AllReadyH.nil)
                refine step_append_one rfl (.tmp 38) (.tmp 42) rfl w1.heap.size (.slice oa os.length ocap) os w7.heap.size y rfl rfl on8 cc8 (by have h2 := (Array.getElem?_eq_some_iff.1 b8).1; have := HW1.out; omega) (by have := HOL.out; omega) ?_
                intro u9 w9 o9 g9
                obtain ⟨ub, ubc, rfl⟩ := ints_len (ownsN_ints o9)
                have oN9 : OwnsN w9 w1.heap.size (.slice ub (os.length + 1) ubc) (os ++ [y]) := by simpa using o9
                have bl9 := (Below.refl w1.heap.size _).grown g9 (by have h2 := (Array.getElem?_eq_some_iff.1 b8).1; have := HW1.out; omega) (fun q hq => (on8.lt q hq).1)
                have b9 := (g9.block R (Array.getElem?_eq_some_iff.1 b8).1 (fun e => HOR.out e.symm)).trans b8
                have z9 := (g9.block w.heap.size (Array.getElem?_eq_some_iff.1 z8).1 (fun e => HOZ.out e.symm)).trans z8
                have D9 := D8.below bl9 (by have := HS1.out; omega)
                have oc9 : OwnsC w9 w1.heap.size _ cs := World.ownsRow.kept oc8 g9 (apartC HAP.out)
                simp only [List.length_append, List.length_cons, List.length_nil, Nat.zero_add]
                refine hK.out _ _ trivial (fun hHeld => ?_)
                clear hK K
                try simp only [Act.put, List.setIfInBounds_toArray, List.set_cons_zero, List.set_cons_succ]
                refine take_runs (i := 7) (v := ?_) (by simp only [List.getElem?_toArray, List.getElem?_cons_succ, List.getElem?_cons_zero]; rfl) (by kernel_rfl) (by kernel_rfl) (by kernel_rfl) rfl (by exact fun _ _ _ h => h) (by rfl) ?_ (by assumption) ?_
                rotate_left
                · intro w hSw; (try dsimp only at hSw); go_simp; try (with_reducible rfl)
                try simp only [Act.put, List.setIfInBounds_toArray, List.set_cons_zero, List.set_cons_succ]
                have h2 := (cell_of_row w9 _ 3 _ _ _ b9).trans (show _ = some (Value.slice oa os.length ocap) from rfl)
                have k2 := frozen_of_row w9 _ 3 _ _ b9
                refine wpAnyH_ready (rs := [8]) (by kernel_rfl) (by simp) ?_
                refine (AllReadyH.cons (o := _) (by simp only [List.getElem?_toArray, List.getElem?_cons_succ, List.getElem?_cons_zero]; rfl) (fun K hK => ?_) AllReadyH.nil)
                go_simp
                have b50 := heap_setCell_same w9 R 3 _ _ (.slice ub (os.length + 1) ubc) b9
                have z50 := (heap_setCell_other w9 ⟨R, 3, none⟩ w.heap.size (.slice ub (os.length + 1) ubc) (by simpa using hn2)).trans z9
                have D50 := D9.set (R := R) HR.out 3 (.slice ub (os.length + 1) ubc)
                have on50 : OwnsN (w9.setCell ⟨R, 3, none⟩ (.slice ub (os.length + 1) ubc)) w1.heap.size _ _ := owns_off oN9 (owns_apart oN9 b9 (by decide)) 3 _
                have oc50 : OwnsC (w9.setCell ⟨R, 3, none⟩ (.slice ub (os.length + 1) ubc)) w1.heap.size _ cs := owns_off oc9 HCR.out 3 _
                refine hK.out _ _ trivial (fun hHeld => ?_)
                clear hK K
                try simp only [Act.put, List.setIfInBounds_toArray, List.set_cons_zero, List.set_cons_succ]
                refine wpAnyH_done (by kernel_rfl) ?_ _
                obtain ⟨W50, hW50⟩ : ∃ W, (w9.setCell ⟨R, 3, none⟩ (.slice ub (os.length + 1) ubc)) = W := ⟨_, rfl⟩
                rw [hW50] at b50 z50 D50 oc50 on50 ⊢
                clear hW50 hHeld
                simp only [List.setIfInBounds_toArray, List.set_cons_zero, List.set_cons_succ] at b50
                have q0 := (cell_of_row W50 _ 0 _ _ _ b50).trans (show _ = some (Value.int .i64 id) from rfl)
                have y0 := (cell_of_row W50 _ 0 _ _ _ z50).trans (show _ = some (Value.int .i64 0) from rfl)
                have f0 := frozen_of_row W50 _ 0 _ _ z50
                have q1 := (cell_of_row W50 _ 1 _ _ _ b50).trans (show _ = some (Value.int .i64 tn) from rfl)
                have y1 := (cell_of_row W50 _ 1 _ _ _ z50).trans (show _ = some (Value.int .i64 0) from rfl)
                have f1 := frozen_of_row W50 _ 1 _ _ z50
                have q2 := (cell_of_row W50 _ 2 _ _ _ b50).trans (show _ = some (Value.slice ca cs.length ccap) from rfl)
                have y2 := (cell_of_row W50 _ 2 _ _ _ z50).trans (show _ = some (Value.slice none 0 0) from rfl)
                have f2 := frozen_of_row W50 _ 2 _ _ z50
                have q3 := (cell_of_row W50 _ 3 _ _ _ b50).trans (show _ = some (Value.slice ub (os.length + 1) ubc) from rfl)
                have y3 := (cell_of_row W50 _ 3 _ _ _ z50).trans (show _ = some (Value.slice none 0 0) from rfl)
                have f3 := frozen_of_row W50 _ 3 _ _ z50
                go_wp2
                have r1 := heap_setCell_same W50 w.heap.size 0 _ _ (.int .i64 id) z50
                have r2 := heap_setCell_same _ w.heap.size 1 _ _ (.int .i64 tn) r1
                have r3 := heap_setCell_same _ w.heap.size 2 _ _ (.slice ca cs.length ccap) r2
                have r4 := heap_setCell_same _ w.heap.size 3 _ _ (.slice ub (os.length + 1) ubc) r3
                have D99 := ((((D50.set (R := w.heap.size) (Nat.le_refl _) 0 (.int .i64 id)).set (R := w.heap.size) (Nat.le_refl _) 1 (.int .i64 tn)).set (R := w.heap.size) (Nat.le_refl _) 2 (.slice ca cs.length ccap)).set (R := w.heap.size) (Nat.le_refl _) 3 (.slice ub (os.length + 1) ubc))
                have oc99 := (ownsC_low (ownsC_low (ownsC_low (ownsC_low oc50 (b := w.heap.size) HS1.out 0 (.int .i64 id)) (b := w.heap.size) HS1.out 1 (.int .i64 tn)) (b := w.heap.size) HS1.out 2 (.slice ca cs.length ccap)) (b := w.heap.size) HS1.out 3 (.slice ub (os.length + 1) ubc))
                have on99 := (ownsN_low (ownsN_low (ownsN_low (ownsN_low on50 (b := w.heap.size) HS1.out 0 (.int .i64 id)) (b := w.heap.size) HS1.out 1 (.int .i64 tn)) (b := w.heap.size) HS1.out 2 (.slice ca cs.length ccap)) (b := w.heap.size) HS1.out 3 (.slice ub (os.length + 1) ubc))
                have e0 := cell_of_row _ _ 0 _ _ _ r4
                have e1 := cell_of_row _ _ 1 _ _ _ r4
                have e2 := cell_of_row _ _ 2 _ _ _ r4
                have e3 := cell_of_row _ _ 3 _ _ _ r4
                simp at e0 e1 e2 e3
                refine bodyPost_ret (v := qV id tn (.slice ca cs.length ccap) (.slice ub (os.length + 1) ubc)) ?_ rfl ?_
                · simp [results, Tryz.f23, go_sem, e0, e1, e2, e3, qV]
                · exact ⟨id, tn, _, _, _, _, rfl, ownsC_up oc99 (by have := HS1.out; omega), ownsN_up on99 (by have := HS1.out; omega), by have := HCL.out; omega, by have := HOL.out; simp; omega, D99⟩
        · have t0 : (d == 0) = false := by rw [beq_eq_false_iff_ne]; exact hd0
          have t1 : (d == 1) = false := by rw [beq_eq_false_iff_ne]; exact hd1
          have t2 : (d == 2) = false := by rw [beq_eq_false_iff_ne]; exact hd2
          have t3 : (d == 3) = false := by rw [beq_eq_false_iff_ne]; exact hd3
          clear hd0 hd1 hd2 hd3
          have q0 := (cell_of_row w4 _ 0 _ _ _ b4).trans (show _ = some (Value.int .i64 id) from rfl)
          have y0 := (cell_of_row w4 _ 0 _ _ _ z4).trans (show _ = some (Value.int .i64 0) from rfl)
          have f0 := frozen_of_row w4 _ 0 _ _ z4
          have q1 := (cell_of_row w4 _ 1 _ _ _ b4).trans (show _ = some (Value.int .i64 tn) from rfl)
          have y1 := (cell_of_row w4 _ 1 _ _ _ z4).trans (show _ = some (Value.int .i64 0) from rfl)
          have f1 := frozen_of_row w4 _ 1 _ _ z4
          have q2 := (cell_of_row w4 _ 2 _ _ _ b4).trans (show _ = some (Value.slice ca cs.length ccap) from rfl)
          have y2 := (cell_of_row w4 _ 2 _ _ _ z4).trans (show _ = some (Value.slice none 0 0) from rfl)
          have f2 := frozen_of_row w4 _ 2 _ _ z4
          have q3 := (cell_of_row w4 _ 3 _ _ _ b4).trans (show _ = some (Value.slice oa os.length ocap) from rfl)
          have y3 := (cell_of_row w4 _ 3 _ _ _ z4).trans (show _ = some (Value.slice none 0 0) from rfl)
          have f3 := frozen_of_row w4 _ 3 _ _ z4
          go_wp2
          have r1 := heap_setCell_same w4 w.heap.size 0 _ _ (.int .i64 id) z4
          have r2 := heap_setCell_same _ w.heap.size 1 _ _ (.int .i64 tn) r1
          have r3 := heap_setCell_same _ w.heap.size 2 _ _ (.slice ca cs.length ccap) r2
          have r4 := heap_setCell_same _ w.heap.size 3 _ _ (.slice oa os.length ocap) r3
          have D99 := ((((D4.set (R := w.heap.size) (Nat.le_refl _) 0 (.int .i64 id)).set (R := w.heap.size) (Nat.le_refl _) 1 (.int .i64 tn)).set (R := w.heap.size) (Nat.le_refl _) 2 (.slice ca cs.length ccap)).set (R := w.heap.size) (Nat.le_refl _) 3 (.slice oa os.length ocap))
          have oc99 := (ownsC_low (ownsC_low (ownsC_low (ownsC_low oc4 (b := w.heap.size) HS1.out 0 (.int .i64 id)) (b := w.heap.size) HS1.out 1 (.int .i64 tn)) (b := w.heap.size) HS1.out 2 (.slice ca cs.length ccap)) (b := w.heap.size) HS1.out 3 (.slice oa os.length ocap))
          have on99 := (ownsN_low (ownsN_low (ownsN_low (ownsN_low on4 (b := w.heap.size) HS1.out 0 (.int .i64 id)) (b := w.heap.size) HS1.out 1 (.int .i64 tn)) (b := w.heap.size) HS1.out 2 (.slice ca cs.length ccap)) (b := w.heap.size) HS1.out 3 (.slice oa os.length ocap))
          have e0 := cell_of_row _ _ 0 _ _ _ r4
          have e1 := cell_of_row _ _ 1 _ _ _ r4
          have e2 := cell_of_row _ _ 2 _ _ _ r4
          have e3 := cell_of_row _ _ 3 _ _ _ r4
          simp at e0 e1 e2 e3
          refine bodyPost_ret (v := qV id tn (.slice ca cs.length ccap) (.slice oa os.length ocap)) ?_ rfl ?_
          · simp [results, Tryz.f23, go_sem, e0, e1, e2, e3, qV]
          · exact ⟨id, tn, _, _, _, _, rfl, ownsC_up oc99 (by have := HS1.out; omega), ownsN_up on99 (by have := HS1.out; omega), by have := HCL.out; omega, by have := HOL.out; omega, D99⟩
end Go.Proofs.YtijfnabglblimaaGreatDoor
namespace Go.Proofs.YtijfnabglblimaaGreatDoor
open Go.ChangeShapes Go.WideShapes Go.ChangeAt Go.WideMaps Go.WideElems Go.RowKit
set_option linter.unusedVariables false
theorem cU8c : Tryz.prog.cellsOf 5 = 1 := by kernel_rfl
theorem laidOut : laidOutB Tryz.prog = true := by kernel_rfl
theorem recCode : Tryz.prog.readableRec 22 = true := by kernel_rfl
theorem rowCode : 22 < Tryz.prog.types.size := of_decide_eq_true (by kernel_rfl)
set_option maxRecDepth 100000 in
/-- A slice of bytes that came in reads as bytes. -/
theorem code_open {H : Type} {enc : TypeId × Value → H} {W : World} {r : Reach} {b0 : Nat} {v : Value} {d : DataW H} {p : List MemPlace} (hval : Value.okWide Tryz.prog W r b0 22 v) (h : DataW.Trod enc Tryz.prog W 0 (fun _ => true) true 22 v d p) :
    ∃ a xs cap, v = .slice a xs.length cap ∧ Code W v xs ∧ ∀ x ∈ xs, 0 ≤ x ∧ x ≤ 255 := by
  obtain ⟨a, len, cap, rfl⟩ := okWide_slice Tryz.underlying22 hval
  obtain ⟨fuel, hf⟩ := h
  rcases open_ints Tryz.underlying22 Tryz.underlying5 cU8c hf with ⟨hcs, _⟩ | ⟨a', len', cap', zs, hcs, _, hl, hm, hz, _, hcell, hwz⟩
  · simp [Value.cells] at hcs
    obtain ⟨rfl, rfl, rfl⟩ := hcs
    exact ⟨none, [], 0, rfl, Or.inl ⟨rfl, none, 0, rfl⟩, by simp⟩
  · simp [Value.cells] at hcs
    obtain ⟨rfl, rfl, rfl⟩ := hcs
    rw [if_pos rfl] at hz
    have hb : ∀ x ∈ zs.take len, 0 ≤ x ∧ x ≤ 255 := fun x hx => by
      have h1 := hwz x (List.mem_of_mem_take hx)
      have e0 : IntKind.u8.min = 0 := by decide
      have e1 : IntKind.u8.max = 255 := by decide
      simp [Lit.wf] at h1; omega
    have hlen : (zs.take len).length = len := by rw [List.length_take]; omega
    refine ⟨some a', zs.take len, cap, by rw [hlen], ?_, hb⟩
    by_cases h0 : len = 0
    · subst h0
      exact Or.inl ⟨rfl, some a', cap, rfl⟩
    · obtain ⟨b, off, rfl, hc⟩ := ints_at hcell (by omega)
      refine Or.inr ⟨b, off, cap, by rw [hlen], by omega, ?_, ?_⟩
      · exact World.block_lt_of_cell? W _ (hc 0 (by omega))
      · intro j hj
        rw [hlen] at hj
        rw [hc j (by omega)]
        simp [List.getD, hj]
end Go.Proofs.YtijfnabglblimaaGreatDoor
namespace Go.Proofs.YtijfnabglblimaaGreatDoor
open Go.RowKit
set_option linter.unusedVariables false
set_option linter.unusedSimpArgs false
theorem ownsR_low {w : World} {C : Nat} {v : Value} {rs : List RowD} (h : OwnsR w C v rs) {b : Nat} (hb : b < C) (j : Nat) (u : Value) : OwnsR (w.setCell ⟨b, j, none⟩ u) C v rs := by
  obtain ⟨cs, vs, h1, h2, h3⟩ := h
  exact ⟨cs, vs, owns_off h1 (fun e => by have := (h1.lt b e).1; omega) j u, fun k hk => ⟨(h2 k hk).1, (h2 k hk).2.1, ownsN_low (h2 k hk).2.2.1 hb j u, (h2 k hk).2.2.2⟩, h3⟩
theorem cur_set {w0 : World} {c : Nat} {v : Value} {xs : List Int} {w : World} (h : Cur w0 c v xs w) {b : Nat} (hb : w0.heap.size ≤ b) (hne : b ≠ c) (j : Nat) (u : Value) : Cur w0 c v xs (w.setCell ⟨b, j, none⟩ u) := by
  obtain ⟨h1, h2, h3, h4, ⟨i, hh, h5, h6⟩, h7⟩ := h
  exact ⟨h1, h2, h3, h4, ⟨i, hh, h5, (heap_setCell_other w ⟨b, j, none⟩ c u (by simpa using fun e => hne e.symm)).trans h6⟩, h7.setCell (p := ⟨b, j, none⟩) hb u⟩
theorem szL_few {rs : List RowD} (h : ∀ r ∈ rs, r.2.length ≤ 4) : szL rs ≤ 5 * rs.length := by
  have : ∀ k, k ≤ rs.length → szTo rs k ≤ rs.length + 4 * k := by
    intro k
    induction k with
    | zero => intro _; rw [szTo_zero]; omega
    | succ k ih =>
      intro hk
      rw [szTo_step (by omega : k < rs.length)]
      have h1 := ih (by omega)
      have h2 := h (rs.getD k (0, [])) (by rw [show rs.getD k (0, []) = rs[k] by simp [List.getD, (by omega : k < rs.length)]]; exact List.getElem_mem _)
      omega
  have := this rs.length (Nat.le_refl _)
  unfold szL; omega
/-- A query and rows. -/
def GotQR (w : World) (e : Ending) (w' : World) : Prop :=
  ∃ (id tn : Int) (cs : List CondD) (os : List Int) (cv ov u : Value) (rs : List RowD), e = .returned (.tuple #[qV id tn cv ov, u]) ∧ CondsR w' cv cs ∧ Ints w' ov os ∧ RowsR w' u rs ∧ cs.length ≤ 4 ∧ os.length ≤ 4 ∧ rs.length ≤ 9 ∧ szL rs ≤ 1048576 ∧ Below w.heap.size w w'
/-- A query and a row. -/
def GotQr (w : World) (e : Ending) (w' : World) : Prop :=
  ∃ (id tn rid : Int) (cs : List CondD) (os ys : List Int) (cv ov u : Value), e = .returned (.tuple #[qV id tn cv ov, .agg #[.int .i64 rid, u]]) ∧ CondsR w' cv cs ∧ Ints w' ov os ∧ Ints w' u ys ∧ cs.length ≤ 4 ∧ os.length ≤ 4 ∧ ys.length ≤ 4 ∧ Below w.heap.size w w'
set_option maxHeartbeats 16000000 in
set_option maxRecDepth 100000 in
theorem drawAnswer (v : Value) (xs : List Int) (w : World) (hcode : Code w v xs) (hsm : xs.length ≤ 1048576) (hby : ∀ x ∈ xs, 0 ≤ x ∧ x ≤ 255) :
    Calls Tryz.prog 5 #[v] w (GotQR w) := by
  have hb0 : Below w.heap.size w (w.alloc (.cells #[.int .i64 0, .int .i64 0, .slice none 0 0, .slice none 0 0] 27)) := (Below.refl _ w).alloc (Nat.le_refl _) _
  have HN := Lib.hid (new_any v xs _ (code_below hcode hb0) hsm hby)
  have z0 := heap_alloc_new w (.cells #[.int .i64 0, .int .i64 0, .slice none 0 0, .slice none 0 0] 27)
  have s0 : w.heap.size + 1 ≤ (w.alloc (.cells #[.int .i64 0, .int .i64 0, .slice none 0 0, .slice none 0 0] 27)).heap.size := by simp
  have HC0 := Lib.hid hcode
  clear hcode hby
  go_enter Tryz.func5, Tryz.ntmps5
  go_wp2_with fail
  generalize (w.alloc (.cells #[.int .i64 0, .int .i64 0, .slice none 0 0, .slice none 0 0] 27)) = W at *
  refine HN.out.mono ?_
  rintro e w1 ⟨rfl, hCW⟩
  have hC : Cur w W.heap.size v xs w1 := ⟨HC0.out, hCW.small, hCW.bytes, hb0.size, hCW.cells, hb0.trans (hCW.old.mono hb0.size)⟩
  have z1 := keepB hCW.old (by omega) z0
  have s1 : W.heap.size < w1.heap.size := cur_lt hC
  have HLOW := Lib.hid hb0.size
  clear HN hCW z0  HC0 hb0
  obtain ⟨c, hc⟩ : ∃ c, W.heap.size = c := ⟨_, rfl⟩
  rw [hc] at hC s0 s1 HLOW ⊢
  clear hc
  go_wp2_with fail
  refine (anyQuery_any w c v xs _ hC).mono ?_
  rintro e w2 ⟨id, tn, cs, os, cv, ov, rfl, oc2, on2, hcl, hol, D2⟩
  obtain ⟨ca, ccap, rfl⟩ := ownsC_len oc2
  obtain ⟨oa, ocap, rfl⟩ := ints_len (ownsN_ints on2)
  have z2 := keep D2.gr (by omega) z1
  have C3 := cur_alloc D2.cur (.cells #[.int .i64 id, .int .i64 tn, .slice ca cs.length ccap, .slice oa os.length ocap] 27)
  have z3 := keepA (.cells #[.int .i64 id, .int .i64 tn, .slice ca cs.length ccap, .slice oa os.length ocap] 27) z2
  have b3 := heap_alloc_new w2 (.cells #[.int .i64 id, .int .i64 tn, .slice ca cs.length ccap, .slice oa os.length ocap] 27)
  have oc3 : OwnsC _ w1.heap.size _ cs := oc2.alloc (.cells #[.int .i64 id, .int .i64 tn, .slice ca cs.length ccap, .slice oa os.length ocap] 27)
  have on3 : OwnsN _ w1.heap.size _ os := on2.alloc (.cells #[.int .i64 id, .int .i64 tn, .slice ca cs.length ccap, .slice oa os.length ocap] 27)
  have s3 : w1.heap.size ≤ w2.heap.size := D2.size
  have HCL := Lib.hid hcl
  have HOL := Lib.hid hol
  clear D2 z1 z2  oc2 on2 hcl hol hC
  go_wp2
  obtain ⟨R, hR⟩ : ∃ R, w2.heap.size = R := ⟨_, rfl⟩
  rw [hR] at b3 s3 ⊢
  clear hR
  have hRl := (Array.getElem?_eq_some_iff.1 b3).1
  obtain ⟨W3, hW3⟩ : ∃ W3, w2.alloc (.cells #[.int .i64 id, .int .i64 tn, .slice ca cs.length ccap, .slice oa os.length ocap] 27) = W3 := ⟨_, rfl⟩
  rw [hW3] at C3 z3  b3 oc3 on3 hRl ⊢
  clear hW3
  have p0 := (cell_of_row W3 _ 0 _ _ _ b3).trans (show _ = some (Value.int .i64 id) from rfl)
  have p1 := (cell_of_row W3 _ 1 _ _ _ b3).trans (show _ = some (Value.int .i64 tn) from rfl)
  have p2 := (cell_of_row W3 _ 2 _ _ _ b3).trans (show _ = some (Value.slice ca cs.length ccap) from rfl)
  have p3 := (cell_of_row W3 _ 3 _ _ _ b3).trans (show _ = some (Value.slice oa os.length ocap) from rfl)
  refine wp_region_held_drew (S := fun w' => w'.cell? ⟨R, 0, none⟩ = some (.int .i64 id) ∧ w'.cell? ⟨R, 1, none⟩ = some (.int .i64 tn) ∧ w'.cell? ⟨R, 2, none⟩ = some (.slice ca cs.length ccap) ∧ w'.cell? ⟨R, 3, none⟩ = some (.slice oa os.length ocap)) (by kernel_rfl) ⟨p0, p1, p2, p3⟩ (fun hHeld => ?_)
  have C4 : Cur w c v xs W3.drew := cur_below C3 (by omega) (by omega) (below_drew (Below.refl W3.heap.size W3))
  have z4 : W3.drew.heap[w.heap.size]? = some _ := z3
  have b4 : W3.drew.heap[R]? = some _ := b3
  have oc4 : OwnsC W3.drew w1.heap.size _ cs := ownsC_below oc3 (below_drew (Below.refl W3.heap.size W3))
  have on4 : OwnsN W3.drew w1.heap.size _ os := ownsN_below on3 (below_drew (Below.refl W3.heap.size W3))
  have hRl4 : R < W3.drew.heap.size := hRl
  obtain ⟨w4, hw4⟩ : ∃ w4, W3.drew = w4 := ⟨_, rfl⟩
  rw [hw4] at C4 z4  b4 oc4 on4 hRl4 hHeld ⊢
  clear hw4 C3 z3 b3 oc3 on3 p0 p1 p2 p3 hRl 
  refine take_runs (i := 0) (v := ?_) (by simp only [List.getElem?_toArray, List.getElem?_cons_succ, List.getElem?_cons_zero]; rfl) (by kernel_rfl) (by kernel_rfl) (by kernel_rfl) rfl (by exact fun _ _ _ h => h) (by rfl) ?_ (by assumption) ?_
  rotate_left
  · intro w hSw; (try dsimp only at hSw); go_simp; try (with_reducible rfl)
  try simp only [Act.put, List.setIfInBounds_toArray, List.set_cons_zero, List.set_cons_succ]
  refine take_runs (i := 1) (v := ?_) (by simp only [List.getElem?_toArray, List.getElem?_cons_succ, List.getElem?_cons_zero]; rfl) (by kernel_rfl) (by kernel_rfl) (by kernel_rfl) rfl (by exact fun _ _ _ h => h) (by rfl) ?_ (by assumption) ?_
  rotate_left
  · intro w hSw; (try dsimp only at hSw); go_simp; try (with_reducible rfl)
  try simp only [Act.put, List.setIfInBounds_toArray, List.set_cons_zero, List.set_cons_succ]
  refine wpAnyH_ready (rs := [2]) (by kernel_rfl) (by simp) ?_
  refine (AllReadyH.cons (o := _) (by simp only [List.getElem?_toArray, List.getElem?_cons_succ, List.getElem?_cons_zero]; rfl) (fun K hK => ?_) AllReadyH.nil)
  go_simp
  refine Calls.mono (anyRows_any w c v xs _ C4) ?_
  rintro e w5 ⟨u, rs, rfl, orr, hrl, hrall, DD⟩
  obtain ⟨ra, rcap, rfl⟩ := rowsR_len (ownsR_rows orr)
  have C5 := DD.cur
  have z5 := keep DD.gr (by omega) z4
  have b5 := keep DD.gr (by omega) b4
  have oc5 : OwnsC w5 w1.heap.size _ cs := kept_low oc4 DD.gr (by omega)
  have on5 := ownsN_grown on4 DD.gr (by omega)
  have hRl5 := Nat.lt_of_lt_of_le hRl4 DD.size
  have or5 := ownsR_up orr (Nat.le_of_lt hRl4)
  clear DD orr
  refine hK.out _ _ ⟨(cell_of_row w5 _ 0 _ _ _ b5).trans rfl, (cell_of_row w5 _ 1 _ _ _ b5).trans rfl, (cell_of_row w5 _ 2 _ _ _ b5).trans rfl, (cell_of_row w5 _ 3 _ _ _ b5).trans rfl⟩ (fun hHeld => ?_)
  clear hK K
  try simp only [Act.put, List.setIfInBounds_toArray, List.set_cons_zero, List.set_cons_succ]
  refine wpAnyH_ready (rs := [3]) (by kernel_rfl) (by simp) ?_
  refine (AllReadyH.cons (o := _) (by simp only [List.getElem?_toArray, List.getElem?_cons_succ, List.getElem?_cons_zero]; rfl) (fun K hK => ?_) AllReadyH.nil)
  have h0 := (cell_of_row w5 _ 0 _ _ _ z5).trans (show _ = some (Value.int .i64 0) from rfl)
  have h1 := (cell_of_row w5 _ 1 _ _ _ z5).trans (show _ = some (Value.int .i64 0) from rfl)
  have h2 := (cell_of_row w5 _ 2 _ _ _ z5).trans (show _ = some (Value.slice none 0 0) from rfl)
  have h3 := (cell_of_row w5 _ 3 _ _ _ z5).trans (show _ = some (Value.slice none 0 0) from rfl)
  have k0 := frozen_of_row w5 _ 0 _ _ z5
  have k1 := frozen_of_row w5 _ 1 _ _ z5
  have k2 := frozen_of_row w5 _ 2 _ _ z5
  have k3 := frozen_of_row w5 _ 3 _ _ z5
  go_simp
  have r1 := heap_setCell_same w5 (w.heap.size) 0 _ _ (.int .i64 id) z5
  have r2 := heap_setCell_same _ (w.heap.size) 1 _ _ (.int .i64 tn) r1
  have r3 := heap_setCell_same _ (w.heap.size) 2 _ _ (.slice ca cs.length ccap) r2
  have r4 := heap_setCell_same _ (w.heap.size) 3 _ _ (.slice oa os.length ocap) r3
  have z6 := r4
  simp only [List.setIfInBounds_toArray, List.set_cons_zero, List.set_cons_succ] at z6
  have b6 := ((heap_setCell_other _ ⟨w.heap.size, 3, none⟩ (R) (.slice oa os.length ocap) (by first | (simp; done) | (simp; omega))).trans ((heap_setCell_other _ ⟨w.heap.size, 2, none⟩ (R) (.slice ca cs.length ccap) (by first | (simp; done) | (simp; omega))).trans ((heap_setCell_other _ ⟨w.heap.size, 1, none⟩ (R) (.int .i64 tn) (by first | (simp; done) | (simp; omega))).trans ((heap_setCell_other _ ⟨w.heap.size, 0, none⟩ (R) (.int .i64 id) (by first | (simp; done) | (simp; omega))).trans b5))))
  have C6 := (cur_set (cur_set (cur_set (cur_set C5 (b := w.heap.size) (by omega) (by omega) 0 (.int .i64 id)) (b := w.heap.size) (by omega) (by omega) 1 (.int .i64 tn)) (b := w.heap.size) (by omega) (by omega) 2 (.slice ca cs.length ccap)) (b := w.heap.size) (by omega) (by omega) 3 (.slice oa os.length ocap))
  have oc6 := (ownsC_low (ownsC_low (ownsC_low (ownsC_low oc5 (b := w.heap.size) (by omega) 0 (.int .i64 id)) (b := w.heap.size) (by omega) 1 (.int .i64 tn)) (b := w.heap.size) (by omega) 2 (.slice ca cs.length ccap)) (b := w.heap.size) (by omega) 3 (.slice oa os.length ocap))
  have on6 := (ownsN_low (ownsN_low (ownsN_low (ownsN_low on5 (b := w.heap.size) (by omega) 0 (.int .i64 id)) (b := w.heap.size) (by omega) 1 (.int .i64 tn)) (b := w.heap.size) (by omega) 2 (.slice ca cs.length ccap)) (b := w.heap.size) (by omega) 3 (.slice oa os.length ocap))
  have or6 := (ownsR_low (ownsR_low (ownsR_low (ownsR_low or5 (b := w.heap.size) (by omega) 0 (.int .i64 id)) (b := w.heap.size) (by omega) 1 (.int .i64 tn)) (b := w.heap.size) (by omega) 2 (.slice ca cs.length ccap)) (b := w.heap.size) (by omega) 3 (.slice oa os.length ocap))
  have hRl6 : R < ((((w5.setCell ⟨w.heap.size, 0, none⟩ (.int .i64 id)).setCell ⟨w.heap.size, 1, none⟩ (.int .i64 tn)).setCell ⟨w.heap.size, 2, none⟩ (.slice ca cs.length ccap)).setCell ⟨w.heap.size, 3, none⟩ (.slice oa os.length ocap)).heap.size := by simpa [World.setCell] using hRl5
  obtain ⟨w6, hw6⟩ : ∃ W, ((((w5.setCell ⟨w.heap.size, 0, none⟩ (.int .i64 id)).setCell ⟨w.heap.size, 1, none⟩ (.int .i64 tn)).setCell ⟨w.heap.size, 2, none⟩ (.slice ca cs.length ccap)).setCell ⟨w.heap.size, 3, none⟩ (.slice oa os.length ocap)) = W := ⟨_, rfl⟩
  rw [hw6] at z6  b6 C6 oc6 on6 hRl6 or6 ⊢
  clear hw6 h0 h1 h2 h3 k0 k1 k2 k3
  refine hK.out _ _ ⟨(cell_of_row w6 _ 0 _ _ _ b6).trans rfl, (cell_of_row w6 _ 1 _ _ _ b6).trans rfl, (cell_of_row w6 _ 2 _ _ _ b6).trans rfl, (cell_of_row w6 _ 3 _ _ _ b6).trans rfl⟩ (fun hHeld => ?_)
  clear hK K
  try simp only [Act.put, List.setIfInBounds_toArray, List.set_cons_zero, List.set_cons_succ]
  refine take_runs (i := 4) (v := ?_) (by simp only [List.getElem?_toArray, List.getElem?_cons_succ, List.getElem?_cons_zero]; rfl) (by kernel_rfl) (by kernel_rfl) (by kernel_rfl) rfl (by exact fun _ _ _ h => h) (by rfl) ?_ (by assumption) ?_
  rotate_left
  · intro w hSw; (try dsimp only at hSw); go_simp; try (with_reducible rfl)
  try simp only [Act.put, List.setIfInBounds_toArray, List.set_cons_zero, List.set_cons_succ]
  refine wpAnyH_done (by kernel_rfl) ?_ _
  clear hHeld
  have e0 := (cell_of_row w6 _ 0 _ _ _ z6).trans (show _ = some (Value.int .i64 id) from rfl)
  have e1 := (cell_of_row w6 _ 1 _ _ _ z6).trans (show _ = some (Value.int .i64 tn) from rfl)
  have e2 := (cell_of_row w6 _ 2 _ _ _ z6).trans (show _ = some (Value.slice ca cs.length ccap) from rfl)
  have e3 := (cell_of_row w6 _ 3 _ _ _ z6).trans (show _ = some (Value.slice oa os.length ocap) from rfl)
  go_wp2
  refine bodyPost_ret (v := .tuple #[qV id tn (.slice ca cs.length ccap) (.slice oa os.length ocap), .slice ra rs.length rcap]) ?_ rfl ?_
  · simp [results, Tryz.f5, go_sem, e0, e1, e2, e3, qV]
  · exact ⟨id, tn, cs, os, _, _, _, rs, rfl, ownsC_conds oc6, ownsN_ints on6, ownsR_rows or6, HCL.out, HOL.out, hrl, by have := szL_few hrall; omega, C6.old⟩
set_option maxHeartbeats 16000000 in
set_option maxRecDepth 100000 in
theorem drawProject (v : Value) (xs : List Int) (w : World) (hcode : Code w v xs) (hsm : xs.length ≤ 1048576) (hby : ∀ x ∈ xs, 0 ≤ x ∧ x ≤ 255) :
    Calls Tryz.prog 13 #[v] w (GotQr w) := by
  have hb0 : Below w.heap.size w ((w.alloc (.cells #[.int .i64 0, .int .i64 0, .slice none 0 0, .slice none 0 0] 27)).alloc (.cells #[.int .i64 0, .slice none 0 0] 36)) := ((Below.refl _ w).alloc (Nat.le_refl _) _).alloc (by simp) _
  have HN := Lib.hid (new_any v xs _ (code_below hcode hb0) hsm hby)
  have z0 := keepA (.cells #[.int .i64 0, .slice none 0 0] 36) (heap_alloc_new w (.cells #[.int .i64 0, .int .i64 0, .slice none 0 0, .slice none 0 0] 27))
  have y0 := heap_alloc_new (w.alloc (.cells #[.int .i64 0, .int .i64 0, .slice none 0 0, .slice none 0 0] 27)) (.cells #[.int .i64 0, .slice none 0 0] 36)
  simp only [World.size_alloc] at y0
  have s0 : w.heap.size + 1 + 1 ≤ ((w.alloc (.cells #[.int .i64 0, .int .i64 0, .slice none 0 0, .slice none 0 0] 27)).alloc (.cells #[.int .i64 0, .slice none 0 0] 36)).heap.size := by simp
  have HC0 := Lib.hid hcode
  clear hcode hby
  go_enter Tryz.func13, Tryz.ntmps13
  go_wp2_with fail
  generalize ((w.alloc (.cells #[.int .i64 0, .int .i64 0, .slice none 0 0, .slice none 0 0] 27)).alloc (.cells #[.int .i64 0, .slice none 0 0] 36)) = W at *
  refine HN.out.mono ?_
  rintro e w1 ⟨rfl, hCW⟩
  have hC : Cur w W.heap.size v xs w1 := ⟨HC0.out, hCW.small, hCW.bytes, hb0.size, hCW.cells, hb0.trans (hCW.old.mono hb0.size)⟩
  have z1 := keepB hCW.old (by omega) z0
  have y1 := keepB hCW.old (by omega) y0
  have s1 : W.heap.size < w1.heap.size := cur_lt hC
  have HLOW := Lib.hid hb0.size
  clear HN hCW z0 y0 HC0 hb0
  obtain ⟨c, hc⟩ : ∃ c, W.heap.size = c := ⟨_, rfl⟩
  rw [hc] at hC s0 s1 HLOW ⊢
  clear hc
  go_wp2_with fail
  refine (anyQuery_any w c v xs _ hC).mono ?_
  rintro e w2 ⟨id, tn, cs, os, cv, ov, rfl, oc2, on2, hcl, hol, D2⟩
  obtain ⟨ca, ccap, rfl⟩ := ownsC_len oc2
  obtain ⟨oa, ocap, rfl⟩ := ints_len (ownsN_ints on2)
  have z2 := keep D2.gr (by omega) z1
  have y2 := keep D2.gr (by omega) y1
  have C3 := cur_alloc D2.cur (.cells #[.int .i64 id, .int .i64 tn, .slice ca cs.length ccap, .slice oa os.length ocap] 27)
  have z3 := keepA (.cells #[.int .i64 id, .int .i64 tn, .slice ca cs.length ccap, .slice oa os.length ocap] 27) z2
  have y3 := keepA (.cells #[.int .i64 id, .int .i64 tn, .slice ca cs.length ccap, .slice oa os.length ocap] 27) y2
  have b3 := heap_alloc_new w2 (.cells #[.int .i64 id, .int .i64 tn, .slice ca cs.length ccap, .slice oa os.length ocap] 27)
  have oc3 : OwnsC _ w1.heap.size _ cs := oc2.alloc (.cells #[.int .i64 id, .int .i64 tn, .slice ca cs.length ccap, .slice oa os.length ocap] 27)
  have on3 : OwnsN _ w1.heap.size _ os := on2.alloc (.cells #[.int .i64 id, .int .i64 tn, .slice ca cs.length ccap, .slice oa os.length ocap] 27)
  have s3 : w1.heap.size ≤ w2.heap.size := D2.size
  have HCL := Lib.hid hcl
  have HOL := Lib.hid hol
  clear D2 z1 z2 y1 y2 oc2 on2 hcl hol hC
  go_wp2
  obtain ⟨R, hR⟩ : ∃ R, w2.heap.size = R := ⟨_, rfl⟩
  rw [hR] at b3 s3 ⊢
  clear hR
  have hRl := (Array.getElem?_eq_some_iff.1 b3).1
  obtain ⟨W3, hW3⟩ : ∃ W3, w2.alloc (.cells #[.int .i64 id, .int .i64 tn, .slice ca cs.length ccap, .slice oa os.length ocap] 27) = W3 := ⟨_, rfl⟩
  rw [hW3] at C3 z3 y3 b3 oc3 on3 hRl ⊢
  clear hW3
  have p0 := (cell_of_row W3 _ 0 _ _ _ b3).trans (show _ = some (Value.int .i64 id) from rfl)
  have p1 := (cell_of_row W3 _ 1 _ _ _ b3).trans (show _ = some (Value.int .i64 tn) from rfl)
  have p2 := (cell_of_row W3 _ 2 _ _ _ b3).trans (show _ = some (Value.slice ca cs.length ccap) from rfl)
  have p3 := (cell_of_row W3 _ 3 _ _ _ b3).trans (show _ = some (Value.slice oa os.length ocap) from rfl)
  refine wp_region_held_drew (S := fun w' => w'.cell? ⟨R, 0, none⟩ = some (.int .i64 id) ∧ w'.cell? ⟨R, 1, none⟩ = some (.int .i64 tn) ∧ w'.cell? ⟨R, 2, none⟩ = some (.slice ca cs.length ccap) ∧ w'.cell? ⟨R, 3, none⟩ = some (.slice oa os.length ocap)) (by kernel_rfl) ⟨p0, p1, p2, p3⟩ (fun hHeld => ?_)
  have C4 : Cur w c v xs W3.drew := cur_below C3 (by omega) (by omega) (below_drew (Below.refl W3.heap.size W3))
  have z4 : W3.drew.heap[w.heap.size]? = some _ := z3
  have y4 : W3.drew.heap[w.heap.size + 1]? = some _ := y3
  have b4 : W3.drew.heap[R]? = some _ := b3
  have oc4 : OwnsC W3.drew w1.heap.size _ cs := ownsC_below oc3 (below_drew (Below.refl W3.heap.size W3))
  have on4 : OwnsN W3.drew w1.heap.size _ os := ownsN_below on3 (below_drew (Below.refl W3.heap.size W3))
  have hRl4 : R < W3.drew.heap.size := hRl
  obtain ⟨w4, hw4⟩ : ∃ w4, W3.drew = w4 := ⟨_, rfl⟩
  rw [hw4] at C4 z4 y4 b4 oc4 on4 hRl4 hHeld ⊢
  clear hw4 C3 z3 b3 oc3 on3 p0 p1 p2 p3 hRl y3
  refine take_runs (i := 0) (v := ?_) (by simp only [List.getElem?_toArray, List.getElem?_cons_succ, List.getElem?_cons_zero]; rfl) (by kernel_rfl) (by kernel_rfl) (by kernel_rfl) rfl (by exact fun _ _ _ h => h) (by rfl) ?_ (by assumption) ?_
  rotate_left
  · intro w hSw; (try dsimp only at hSw); go_simp; try (with_reducible rfl)
  try simp only [Act.put, List.setIfInBounds_toArray, List.set_cons_zero, List.set_cons_succ]
  refine take_runs (i := 1) (v := ?_) (by simp only [List.getElem?_toArray, List.getElem?_cons_succ, List.getElem?_cons_zero]; rfl) (by kernel_rfl) (by kernel_rfl) (by kernel_rfl) rfl (by exact fun _ _ _ h => h) (by rfl) ?_ (by assumption) ?_
  rotate_left
  · intro w hSw; (try dsimp only at hSw); go_simp; try (with_reducible rfl)
  try simp only [Act.put, List.setIfInBounds_toArray, List.set_cons_zero, List.set_cons_succ]
  refine wpAnyH_ready (rs := [2]) (by kernel_rfl) (by simp) ?_
  refine (AllReadyH.cons (o := _) (by simp only [List.getElem?_toArray, List.getElem?_cons_succ, List.getElem?_cons_zero]; rfl) (fun K hK => ?_) AllReadyH.nil)
  go_simp
  refine Calls.mono (rowAny_any w c v xs _ C4) ?_
  rintro e w5 ⟨rid, u, ys, rfl, orr, hrl, DD⟩
  obtain ⟨ra, rcap, rfl⟩ := ints_len (ownsN_ints orr)
  have C5 := DD.cur
  have z5 := keep DD.gr (by omega) z4
  have y5 := keep DD.gr (by omega) y4
  have b5 := keep DD.gr (by omega) b4
  have oc5 : OwnsC w5 w1.heap.size _ cs := kept_low oc4 DD.gr (by omega)
  have on5 := ownsN_grown on4 DD.gr (by omega)
  have hRl5 := Nat.lt_of_lt_of_le hRl4 DD.size
  have or5 := ownsN_up orr (Nat.le_of_lt hRl4)
  clear DD orr
  refine hK.out _ _ ⟨(cell_of_row w5 _ 0 _ _ _ b5).trans rfl, (cell_of_row w5 _ 1 _ _ _ b5).trans rfl, (cell_of_row w5 _ 2 _ _ _ b5).trans rfl, (cell_of_row w5 _ 3 _ _ _ b5).trans rfl⟩ (fun hHeld => ?_)
  clear hK K
  try simp only [Act.put, List.setIfInBounds_toArray, List.set_cons_zero, List.set_cons_succ]
  refine wpAnyH_ready (rs := [3]) (by kernel_rfl) (by simp) ?_
  refine (AllReadyH.cons (o := _) (by simp only [List.getElem?_toArray, List.getElem?_cons_succ, List.getElem?_cons_zero]; rfl) (fun K hK => ?_) AllReadyH.nil)
  have h0 := (cell_of_row w5 _ 0 _ _ _ z5).trans (show _ = some (Value.int .i64 0) from rfl)
  have h1 := (cell_of_row w5 _ 1 _ _ _ z5).trans (show _ = some (Value.int .i64 0) from rfl)
  have h2 := (cell_of_row w5 _ 2 _ _ _ z5).trans (show _ = some (Value.slice none 0 0) from rfl)
  have h3 := (cell_of_row w5 _ 3 _ _ _ z5).trans (show _ = some (Value.slice none 0 0) from rfl)
  have k0 := frozen_of_row w5 _ 0 _ _ z5
  have k1 := frozen_of_row w5 _ 1 _ _ z5
  have k2 := frozen_of_row w5 _ 2 _ _ z5
  have k3 := frozen_of_row w5 _ 3 _ _ z5
  go_simp
  have r1 := heap_setCell_same w5 (w.heap.size) 0 _ _ (.int .i64 id) z5
  have r2 := heap_setCell_same _ (w.heap.size) 1 _ _ (.int .i64 tn) r1
  have r3 := heap_setCell_same _ (w.heap.size) 2 _ _ (.slice ca cs.length ccap) r2
  have r4 := heap_setCell_same _ (w.heap.size) 3 _ _ (.slice oa os.length ocap) r3
  have z6 := r4
  simp only [List.setIfInBounds_toArray, List.set_cons_zero, List.set_cons_succ] at z6
  have b6 := ((heap_setCell_other _ ⟨w.heap.size, 3, none⟩ (R) (.slice oa os.length ocap) (by first | (simp; done) | (simp; omega))).trans ((heap_setCell_other _ ⟨w.heap.size, 2, none⟩ (R) (.slice ca cs.length ccap) (by first | (simp; done) | (simp; omega))).trans ((heap_setCell_other _ ⟨w.heap.size, 1, none⟩ (R) (.int .i64 tn) (by first | (simp; done) | (simp; omega))).trans ((heap_setCell_other _ ⟨w.heap.size, 0, none⟩ (R) (.int .i64 id) (by first | (simp; done) | (simp; omega))).trans b5))))
  have y6 := ((heap_setCell_other _ ⟨w.heap.size, 3, none⟩ (w.heap.size + 1) (.slice oa os.length ocap) (by first | (simp; done) | (simp; omega))).trans ((heap_setCell_other _ ⟨w.heap.size, 2, none⟩ (w.heap.size + 1) (.slice ca cs.length ccap) (by first | (simp; done) | (simp; omega))).trans ((heap_setCell_other _ ⟨w.heap.size, 1, none⟩ (w.heap.size + 1) (.int .i64 tn) (by first | (simp; done) | (simp; omega))).trans ((heap_setCell_other _ ⟨w.heap.size, 0, none⟩ (w.heap.size + 1) (.int .i64 id) (by first | (simp; done) | (simp; omega))).trans y5))))
  have C6 := (cur_set (cur_set (cur_set (cur_set C5 (b := w.heap.size) (by omega) (by omega) 0 (.int .i64 id)) (b := w.heap.size) (by omega) (by omega) 1 (.int .i64 tn)) (b := w.heap.size) (by omega) (by omega) 2 (.slice ca cs.length ccap)) (b := w.heap.size) (by omega) (by omega) 3 (.slice oa os.length ocap))
  have oc6 := (ownsC_low (ownsC_low (ownsC_low (ownsC_low oc5 (b := w.heap.size) (by omega) 0 (.int .i64 id)) (b := w.heap.size) (by omega) 1 (.int .i64 tn)) (b := w.heap.size) (by omega) 2 (.slice ca cs.length ccap)) (b := w.heap.size) (by omega) 3 (.slice oa os.length ocap))
  have on6 := (ownsN_low (ownsN_low (ownsN_low (ownsN_low on5 (b := w.heap.size) (by omega) 0 (.int .i64 id)) (b := w.heap.size) (by omega) 1 (.int .i64 tn)) (b := w.heap.size) (by omega) 2 (.slice ca cs.length ccap)) (b := w.heap.size) (by omega) 3 (.slice oa os.length ocap))
  have or6 := (ownsN_low (ownsN_low (ownsN_low (ownsN_low or5 (b := w.heap.size) (by omega) 0 (.int .i64 id)) (b := w.heap.size) (by omega) 1 (.int .i64 tn)) (b := w.heap.size) (by omega) 2 (.slice ca cs.length ccap)) (b := w.heap.size) (by omega) 3 (.slice oa os.length ocap))
  have hRl6 : R < ((((w5.setCell ⟨w.heap.size, 0, none⟩ (.int .i64 id)).setCell ⟨w.heap.size, 1, none⟩ (.int .i64 tn)).setCell ⟨w.heap.size, 2, none⟩ (.slice ca cs.length ccap)).setCell ⟨w.heap.size, 3, none⟩ (.slice oa os.length ocap)).heap.size := by simpa [World.setCell] using hRl5
  obtain ⟨w6, hw6⟩ : ∃ W, ((((w5.setCell ⟨w.heap.size, 0, none⟩ (.int .i64 id)).setCell ⟨w.heap.size, 1, none⟩ (.int .i64 tn)).setCell ⟨w.heap.size, 2, none⟩ (.slice ca cs.length ccap)).setCell ⟨w.heap.size, 3, none⟩ (.slice oa os.length ocap)) = W := ⟨_, rfl⟩
  rw [hw6] at z6 y6 b6 C6 oc6 on6 hRl6 or6 ⊢
  clear hw6 h0 h1 h2 h3 k0 k1 k2 k3
  refine hK.out _ _ ⟨(cell_of_row w6 _ 0 _ _ _ b6).trans rfl, (cell_of_row w6 _ 1 _ _ _ b6).trans rfl, (cell_of_row w6 _ 2 _ _ _ b6).trans rfl, (cell_of_row w6 _ 3 _ _ _ b6).trans rfl⟩ (fun hHeld => ?_)
  clear hK K
  try simp only [Act.put, List.setIfInBounds_toArray, List.set_cons_zero, List.set_cons_succ]
  refine wpAnyH_ready (rs := [4]) (by kernel_rfl) (by simp) ?_
  refine (AllReadyH.cons (o := _) (by simp only [List.getElem?_toArray, List.getElem?_cons_succ, List.getElem?_cons_zero]; rfl) (fun K hK => ?_) AllReadyH.nil)
  have h0 := (cell_of_row w6 _ 0 _ _ _ y6).trans (show _ = some (Value.int .i64 0) from rfl)
  have h1 := (cell_of_row w6 _ 1 _ _ _ y6).trans (show _ = some (Value.slice none 0 0) from rfl)
  have k0 := frozen_of_row w6 _ 0 _ _ y6
  have k1 := frozen_of_row w6 _ 1 _ _ y6
  go_simp
  have r1 := heap_setCell_same w6 (w.heap.size + 1) 0 _ _ (.int .i64 rid) y6
  have r2 := heap_setCell_same _ (w.heap.size + 1) 1 _ _ (.slice ra ys.length rcap) r1
  have y7 := r2
  simp only [List.setIfInBounds_toArray, List.set_cons_zero, List.set_cons_succ] at y7
  have b7 := ((heap_setCell_other _ ⟨w.heap.size + 1, 1, none⟩ (R) (.slice ra ys.length rcap) (by first | (simp; done) | (simp; omega))).trans ((heap_setCell_other _ ⟨w.heap.size + 1, 0, none⟩ (R) (.int .i64 rid) (by first | (simp; done) | (simp; omega))).trans b6))
  have z7 := ((heap_setCell_other _ ⟨w.heap.size + 1, 1, none⟩ (w.heap.size) (.slice ra ys.length rcap) (by first | (simp; done) | (simp; omega))).trans ((heap_setCell_other _ ⟨w.heap.size + 1, 0, none⟩ (w.heap.size) (.int .i64 rid) (by first | (simp; done) | (simp; omega))).trans z6))
  have C7 := (cur_set (cur_set C6 (b := w.heap.size + 1) (by omega) (by omega) 0 (.int .i64 rid)) (b := w.heap.size + 1) (by omega) (by omega) 1 (.slice ra ys.length rcap))
  have oc7 := (ownsC_low (ownsC_low oc6 (b := w.heap.size + 1) (by omega) 0 (.int .i64 rid)) (b := w.heap.size + 1) (by omega) 1 (.slice ra ys.length rcap))
  have on7 := (ownsN_low (ownsN_low on6 (b := w.heap.size + 1) (by omega) 0 (.int .i64 rid)) (b := w.heap.size + 1) (by omega) 1 (.slice ra ys.length rcap))
  have or7 := (ownsN_low (ownsN_low or6 (b := w.heap.size + 1) (by omega) 0 (.int .i64 rid)) (b := w.heap.size + 1) (by omega) 1 (.slice ra ys.length rcap))
  have hRl7 : R < ((w6.setCell ⟨w.heap.size + 1, 0, none⟩ (.int .i64 rid)).setCell ⟨w.heap.size + 1, 1, none⟩ (.slice ra ys.length rcap)).heap.size := by simpa [World.setCell] using hRl6
  obtain ⟨w7, hw7⟩ : ∃ W, ((w6.setCell ⟨w.heap.size + 1, 0, none⟩ (.int .i64 rid)).setCell ⟨w.heap.size + 1, 1, none⟩ (.slice ra ys.length rcap)) = W := ⟨_, rfl⟩
  rw [hw7] at z7 y7 b7 C7 oc7 on7 hRl7 or7 ⊢
  clear hw7 h0 h1 k0 k1
  refine hK.out _ _ ⟨(cell_of_row w7 _ 0 _ _ _ b7).trans rfl, (cell_of_row w7 _ 1 _ _ _ b7).trans rfl, (cell_of_row w7 _ 2 _ _ _ b7).trans rfl, (cell_of_row w7 _ 3 _ _ _ b7).trans rfl⟩ (fun hHeld => ?_)
  clear hK K
  try simp only [Act.put, List.setIfInBounds_toArray, List.set_cons_zero, List.set_cons_succ]
  refine wpAnyH_done (by kernel_rfl) ?_ _
  clear hHeld
  have e0 := (cell_of_row w7 _ 0 _ _ _ z7).trans (show _ = some (Value.int .i64 id) from rfl)
  have e1 := (cell_of_row w7 _ 1 _ _ _ z7).trans (show _ = some (Value.int .i64 tn) from rfl)
  have e2 := (cell_of_row w7 _ 2 _ _ _ z7).trans (show _ = some (Value.slice ca cs.length ccap) from rfl)
  have e3 := (cell_of_row w7 _ 3 _ _ _ z7).trans (show _ = some (Value.slice oa os.length ocap) from rfl)
  have e4 := (cell_of_row w7 _ 0 _ _ _ y7).trans (show _ = some (Value.int .i64 rid) from rfl)
  have e5 := (cell_of_row w7 _ 1 _ _ _ y7).trans (show _ = some (Value.slice ra ys.length rcap) from rfl)
  go_wp2
  refine bodyPost_ret (v := .tuple #[qV id tn (.slice ca cs.length ccap) (.slice oa os.length ocap), .agg #[.int .i64 rid, .slice ra ys.length rcap]]) ?_ rfl ?_
  · simp [results, Tryz.f13, go_sem, e0, e1, e2, e3, e4, e5, qV]
  · exact ⟨id, tn, rid, cs, os, ys, _, _, _, rfl, ownsC_conds oc7, ownsN_ints on7, ownsN_ints or7, HCL.out, HOL.out, hrl, C7.old⟩
end Go.Proofs.YtijfnabglblimaaGreatDoor
