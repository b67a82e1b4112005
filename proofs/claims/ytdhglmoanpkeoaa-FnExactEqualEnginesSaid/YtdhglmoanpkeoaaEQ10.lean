/-
 Texts of the proof, merged: EngEq2.
-/
import Derived.Test.YtdhglmoanpkeoaaEQ7
import Derived.Test.YtdhglmoanpkeoaaEQ9
namespace Go.Proofs.Ytdhglmoanpkeoaa
open Go.RowKit
set_option linter.unusedVariables false
set_option linter.unusedSimpArgs false
noncomputable instance decEngD : DecidableEq EngD := fun _ _ => Classical.propDecidable _
set_option maxHeartbeats 8000000 in
set_option maxRecDepth 100000 in
theorem eqFuncActive (v u : Value) (xs ys : List ActD) (w : World) (h : SlR tActive w v xs) (g : SlR tActive w u ys) (hs : zL tActive xs ≤ 1048576) (ht : zL tActive ys ≤ 1048576) :
  Calls Try.prog 72 #[v, u, .func (.func 73) #[] #[]] w (fun e w' => e = .returned (.bool (decide (xs = ys))) ∧ Below w.heap.size w w') := by
 have hn := zL_len hs
 have hm := zL_len ht
 obtain ⟨a, cap, rfl⟩ := slR_len h
 obtain ⟨a2, cap2', rfl⟩ := slR_len g
 have H := Lib.hid h
 have G := Lib.hid g
 have HS := Lib.hid hs
 have HT := Lib.hid ht
 clear h g hs ht
 by_cases hl : xs.length = ys.length
 rotate_left
 ·
  have HF := Lib.hid (decide_eq_false (show ¬ xs = ys from fun e => hl (by rw [e])))
  have hne : ((xs.length : Int) != (ys.length : Int)) = true := by rw [bne_iff_ne]; omega
  clear hl
  go_enter Try.func72, Try.ntmps72
  go_wp2
  go_ret
  exact ⟨ret_b HF.out.symm, Below.refl _ _⟩
 have HL := Lib.hid hl
 have hne : ((xs.length : Int) != (ys.length : Int)) = false := by rw [bne_eq_false_iff_eq]; omega
 have d : Hid (Below w.heap.size w w) := Lib.hid (Below.refl _ _)
 clear hl
 go_enter Try.func72, Try.ntmps72
 go_wp2
 clear hne
 go_loopw [17] (fun i wr => ∃ k : Nat, k ≤ xs.length ∧ i = .int .i64 k ∧ Hid (∀ j, j < k → xs.getD j a0D = ys.getD j a0D) ∧ Below w.heap.size w wr) (fun i _ => xs.length - (intOf i).toNat)
 case atStart => exact ⟨0, Nat.zero_le _, rfl, Lib.hid (fun j hj => absurd hj (Nat.not_lt_zero j)), Below.refl _ _⟩
 case round =>
  obtain ⟨k, hk, rfl, hno, c⟩ := hrel
  have cw := Lib.hid c
  replace d := Lib.hid (d.out.trans (c.mono d.out.size))
  clear c
  by_cases hlt : k < xs.length
  ·
   have hlt2 : k < ys.length := by have := HL.out; omega
   have i1 : (0 : Int) ≤ (k : Int) := by omega
   have i2 : (k : Int) < (xs.length : Int) := by omega
   have i3 : (k : Int) < (ys.length : Int) := by omega
   have hz := zL_at HS.out hlt
   have hz2 := zL_at HT.out hlt2
   change tActive.sz (xs.getD k a0D) ≤ 1048576 at hz
   change tActive.sz (ys.getD k a0D) ≤ 1048576 at hz2
   obtain ⟨b, off, cap', p2, c2, p3, c3, p5, c5, p9, c9, hv, hbl, q0, q1, q2, q3, q4, q5, q6, q7, q8, q9, sx2, sx3, sx5, sx9⟩ := act_at (slR_below tActive_law H.out cw.out) hlt
   simp only [Value.slice.injEq] at hv
   obtain ⟨rfl, _, rfl⟩ := hv
   obtain ⟨b2, off2, cap2, r2, e2, r3, e3, r5, e5, r9, e9, hv, hbl2, z0, z1, z2, z3, z4, z5, z6, z7, z8, z9, sy2, sy3, sy5, sy9⟩ := act_at (slR_below tActive_law G.out cw.out) hlt2
   simp only [Value.slice.injEq] at hv
   obtain ⟨rfl, _, rfl⟩ := hv
   have HST : Hid (decide (xs.getD k a0D = ys.getD k a0D) = true → ∀ j, j < k + 1 → xs.getD j a0D = ys.getD j a0D) := Lib.hid (fun g j hj => by
    by_cases e : j = k
    ·
     rw [e]; exact of_decide_eq_true g
    ·
     exact hno.out j (by omega))
   have HNO : Hid (decide (xs.getD k a0D = ys.getD k a0D) = false → ¬ xs = ys) := Lib.hid (fun g => list_neq a0D (of_decide_eq_false g))
   generalize xs.getD k a0D = x at *
   generalize ys.getD k a0D = y at *
   obtain ⟨⟨a0, a1, x2, x3⟩, a4, x5, a6, a7, a8, x9⟩ := x
   obtain ⟨⟨b0, b1, y2, y3⟩, b4, y5, b6, b7, b8, y9⟩ := y
   rw [tActive_sz] at hz hz2
   dsimp only at *
   have hal : Below wr.heap.size wr ((wr.alloc (.cells #[.int .i64 a0, .int .i64 a1, .slice p2 x2.length c2, .slice p3 x3.length c3, .int .i64 a4, .slice p5 x5.length c5, .int .i64 a6, .int .i64 a7, .int .i64 a8, .slice p9 x9.length c9] 92)).alloc (.cells #[.int .i64 b0, .int .i64 b1, .slice r2 y2.length e2, .slice r3 y3.length e3, .int .i64 b4, .slice r5 y5.length e5, .int .i64 b6, .int .i64 b7, .int .i64 b8, .slice r9 y9.length e9] 92)) := ((Below.refl _ _).alloc (Nat.le_refl _) _).alloc (by simp) _
   have HC0 := implActiveEq a0 a1 a4 a6 a7 a8 b0 b1 b4 b6 b7 b8 (.slice p2 x2.length c2) (.slice p3 x3.length c3) (.slice p5 x5.length c5) (.slice p9 x9.length c9) (.slice r2 y2.length e2) (.slice r3 y3.length e3) (.slice r5 y5.length e5) (.slice r9 y9.length e9) x2 y2 x3 y3 x5 y5 x9 y9 _ (slR_below tCond_law sx2 hal) (slR_below tInt_law sx3 hal) (slR_below tInt_law sx5 hal) (slR_below tRow_law sx9 hal) (slR_below tCond_law sy2 hal) (slR_below tInt_law sy3 hal) (slR_below tInt_law sy5 hal) (slR_below tRow_law sy9 hal) (by omega) (by omega) (by omega) (by omega) (by omega) (by omega) (by omega) (by omega)
   have HC := Lib.hid (HC0.mono (fun e w' hh => (⟨hh.1, hal.trans (hh.2.mono hal.size)⟩ : e = .returned (.bool (decide ((((a0, a1, x2, x3), a4, x5, a6, a7, a8, x9) : ActD) = ((b0, b1, y2, y3), b4, y5, b6, b7, b8, y9)))) ∧ Below wr.heap.size wr w')))
   clear HC0 hal sx2 sy2 sx3 sy3 sx5 sy5 sx9 sy9 hz hz2 hbl hno hlt hlt2
   obtain ⟨bv, hbv⟩ : ∃ bv, bv = decide ((((a0, a1, x2, x3), a4, x5, a6, a7, a8, x9) : ActD) = ((b0, b1, y2, y3), b4, y5, b6, b7, b8, y9)) := ⟨_, rfl⟩
   rw [← hbv] at HC HST HNO
   clear hbv
   have zz0 := (((Below.refl wr.heap.size wr).alloc (Nat.le_refl _) (.cells #[.int .i64 a0, .int .i64 a1, .slice p2 x2.length c2, .slice p3 x3.length c3, .int .i64 a4, .slice p5 x5.length c5, .int .i64 a6, .int .i64 a7, .int .i64 a8, .slice p9 x9.length c9] 92)).cell (p := ⟨b2, off2 + k * 10, none⟩) hbl2).trans z0
   have zz1 := (((Below.refl wr.heap.size wr).alloc (Nat.le_refl _) (.cells #[.int .i64 a0, .int .i64 a1, .slice p2 x2.length c2, .slice p3 x3.length c3, .int .i64 a4, .slice p5 x5.length c5, .int .i64 a6, .int .i64 a7, .int .i64 a8, .slice p9 x9.length c9] 92)).cell (p := ⟨b2, off2 + k * 10 + 1, none⟩) hbl2).trans z1
   have zz2 := (((Below.refl wr.heap.size wr).alloc (Nat.le_refl _) (.cells #[.int .i64 a0, .int .i64 a1, .slice p2 x2.length c2, .slice p3 x3.length c3, .int .i64 a4, .slice p5 x5.length c5, .int .i64 a6, .int .i64 a7, .int .i64 a8, .slice p9 x9.length c9] 92)).cell (p := ⟨b2, off2 + k * 10 + 2, none⟩) hbl2).trans z2
   have zz3 := (((Below.refl wr.heap.size wr).alloc (Nat.le_refl _) (.cells #[.int .i64 a0, .int .i64 a1, .slice p2 x2.length c2, .slice p3 x3.length c3, .int .i64 a4, .slice p5 x5.length c5, .int .i64 a6, .int .i64 a7, .int .i64 a8, .slice p9 x9.length c9] 92)).cell (p := ⟨b2, off2 + k * 10 + 3, none⟩) hbl2).trans z3
   have zz4 := (((Below.refl wr.heap.size wr).alloc (Nat.le_refl _) (.cells #[.int .i64 a0, .int .i64 a1, .slice p2 x2.length c2, .slice p3 x3.length c3, .int .i64 a4, .slice p5 x5.length c5, .int .i64 a6, .int .i64 a7, .int .i64 a8, .slice p9 x9.length c9] 92)).cell (p := ⟨b2, off2 + k * 10 + 4, none⟩) hbl2).trans z4
   have zz5 := (((Below.refl wr.heap.size wr).alloc (Nat.le_refl _) (.cells #[.int .i64 a0, .int .i64 a1, .slice p2 x2.length c2, .slice p3 x3.length c3, .int .i64 a4, .slice p5 x5.length c5, .int .i64 a6, .int .i64 a7, .int .i64 a8, .slice p9 x9.length c9] 92)).cell (p := ⟨b2, off2 + k * 10 + 5, none⟩) hbl2).trans z5
   have zz6 := (((Below.refl wr.heap.size wr).alloc (Nat.le_refl _) (.cells #[.int .i64 a0, .int .i64 a1, .slice p2 x2.length c2, .slice p3 x3.length c3, .int .i64 a4, .slice p5 x5.length c5, .int .i64 a6, .int .i64 a7, .int .i64 a8, .slice p9 x9.length c9] 92)).cell (p := ⟨b2, off2 + k * 10 + 6, none⟩) hbl2).trans z6
   have zz7 := (((Below.refl wr.heap.size wr).alloc (Nat.le_refl _) (.cells #[.int .i64 a0, .int .i64 a1, .slice p2 x2.length c2, .slice p3 x3.length c3, .int .i64 a4, .slice p5 x5.length c5, .int .i64 a6, .int .i64 a7, .int .i64 a8, .slice p9 x9.length c9] 92)).cell (p := ⟨b2, off2 + k * 10 + 7, none⟩) hbl2).trans z7
   have zz8 := (((Below.refl wr.heap.size wr).alloc (Nat.le_refl _) (.cells #[.int .i64 a0, .int .i64 a1, .slice p2 x2.length c2, .slice p3 x3.length c3, .int .i64 a4, .slice p5 x5.length c5, .int .i64 a6, .int .i64 a7, .int .i64 a8, .slice p9 x9.length c9] 92)).cell (p := ⟨b2, off2 + k * 10 + 8, none⟩) hbl2).trans z8
   have zz9 := (((Below.refl wr.heap.size wr).alloc (Nat.le_refl _) (.cells #[.int .i64 a0, .int .i64 a1, .slice p2 x2.length c2, .slice p3 x3.length c3, .int .i64 a4, .slice p5 x5.length c5, .int .i64 a6, .int .i64 a7, .int .i64 a8, .slice p9 x9.length c9] 92)).cell (p := ⟨b2, off2 + k * 10 + 9, none⟩) hbl2).trans z9
   clear hbl2
   cases bv with
   | true =>
    have HA := Lib.hid (HST.out rfl)
    clear HST HNO
    go_wp2_with fail
    refine HC.out.mono ?_
    rintro e w2 ⟨rfl, c2⟩
    have cw2 := Lib.hid (cw.out.trans (c2.mono cw.out.size))
    clear c2 HC q0 z0 zz0 q1 z1 zz1 q2 z2 zz2 q3 z3 zz3 q4 z4 zz4 q5 z5 zz5 q6 z6 zz6 q7 z7 zz7 q8 z8 zz8 q9 z9 zz9
    go_wp2
    go_roundw
    case rel => exact ⟨k + 1, by omega, by go_num, HA, cw2.out⟩
    case measure => simp [intOf]; omega
   | false =>
    have HF := Lib.hid (HNO.out rfl)
    clear HST HNO
    go_wp2_with fail
    refine HC.out.mono ?_
    rintro e w2 ⟨rfl, c2⟩
    have cw2 := Lib.hid (cw.out.trans (c2.mono cw.out.size))
    clear c2 HC q0 z0 zz0 q1 z1 zz1 q2 z2 zz2 q3 z3 zz3 q4 z4 zz4 q5 z5 zz5 q6 z6 zz6 q7 z7 zz7 q8 z8 zz8 q9 z9 zz9
    go_wp2
    go_ret
    exact ⟨ret_b (decide_eq_false HF.out).symm, cw2.out⟩
  ·
   obtain rfl : k = xs.length := by omega
   have HE := Lib.hid (list_eqs a0D HL.out hno.out)
   clear hno
   go_wp2
   go_ret
   exact ⟨ret_b (decide_eq_true HE.out).symm, cw.out⟩
set_option maxHeartbeats 8000000 in
set_option maxRecDepth 100000 in
theorem eqFuncFinished (v u : Value) (xs ys : List FinD) (w : World) (h : SlR tFinished w v xs) (g : SlR tFinished w u ys) (hs : zL tFinished xs ≤ 1048576) (ht : zL tFinished ys ≤ 1048576) :
  Calls Try.prog 74 #[v, u, .func (.func 75) #[] #[]] w (fun e w' => e = .returned (.bool (decide (xs = ys))) ∧ Below w.heap.size w w') := by
 have hn := zL_len hs
 have hm := zL_len ht
 obtain ⟨a, cap, rfl⟩ := slR_len h
 obtain ⟨a2, cap2', rfl⟩ := slR_len g
 have H := Lib.hid h
 have G := Lib.hid g
 have HS := Lib.hid hs
 have HT := Lib.hid ht
 clear h g hs ht
 by_cases hl : xs.length = ys.length
 rotate_left
 ·
  have HF := Lib.hid (decide_eq_false (show ¬ xs = ys from fun e => hl (by rw [e])))
  have hne : ((xs.length : Int) != (ys.length : Int)) = true := by rw [bne_iff_ne]; omega
  clear hl
  go_enter Try.func74, Try.ntmps74
  go_wp2
  go_ret
  exact ⟨ret_b HF.out.symm, Below.refl _ _⟩
 have HL := Lib.hid hl
 have hne : ((xs.length : Int) != (ys.length : Int)) = false := by rw [bne_eq_false_iff_eq]; omega
 have d : Hid (Below w.heap.size w w) := Lib.hid (Below.refl _ _)
 clear hl
 go_enter Try.func74, Try.ntmps74
 go_wp2
 clear hne
 go_loopw [17] (fun i wr => ∃ k : Nat, k ≤ xs.length ∧ i = .int .i64 k ∧ Hid (∀ j, j < k → xs.getD j f0D = ys.getD j f0D) ∧ Below w.heap.size w wr) (fun i _ => xs.length - (intOf i).toNat)
 case atStart => exact ⟨0, Nat.zero_le _, rfl, Lib.hid (fun j hj => absurd hj (Nat.not_lt_zero j)), Below.refl _ _⟩
 case round =>
  obtain ⟨k, hk, rfl, hno, c⟩ := hrel
  have cw := Lib.hid c
  replace d := Lib.hid (d.out.trans (c.mono d.out.size))
  clear c
  by_cases hlt : k < xs.length
  ·
   have hlt2 : k < ys.length := by have := HL.out; omega
   have i1 : (0 : Int) ≤ (k : Int) := by omega
   have i2 : (k : Int) < (xs.length : Int) := by omega
   have i3 : (k : Int) < (ys.length : Int) := by omega
   have hz := zL_at HS.out hlt
   have hz2 := zL_at HT.out hlt2
   change tFinished.sz (xs.getD k f0D) ≤ 1048576 at hz
   change tFinished.sz (ys.getD k f0D) ≤ 1048576 at hz2
   obtain ⟨b, off, cap', p2, c2, p3, c3, p6, c6, hv, hbl, q0, q1, q2, q3, q4, q5, q6, sx2, sx3, sx6⟩ := fin_at (slR_below tFinished_law H.out cw.out) hlt
   simp only [Value.slice.injEq] at hv
   obtain ⟨rfl, _, rfl⟩ := hv
   obtain ⟨b2, off2, cap2, r2, e2, r3, e3, r6, e6, hv, hbl2, z0, z1, z2, z3, z4, z5, z6, sy2, sy3, sy6⟩ := fin_at (slR_below tFinished_law G.out cw.out) hlt2
   simp only [Value.slice.injEq] at hv
   obtain ⟨rfl, _, rfl⟩ := hv
   have HST : Hid (decide (xs.getD k f0D = ys.getD k f0D) = true → ∀ j, j < k + 1 → xs.getD j f0D = ys.getD j f0D) := Lib.hid (fun g j hj => by
    by_cases e : j = k
    ·
     rw [e]; exact of_decide_eq_true g
    ·
     exact hno.out j (by omega))
   have HNO : Hid (decide (xs.getD k f0D = ys.getD k f0D) = false → ¬ xs = ys) := Lib.hid (fun g => list_neq f0D (of_decide_eq_false g))
   generalize xs.getD k f0D = x at *
   generalize ys.getD k f0D = y at *
   obtain ⟨⟨a0, a1, x2, x3⟩, a4, a5, x6⟩ := x
   obtain ⟨⟨b0, b1, y2, y3⟩, b4, b5, y6⟩ := y
   rw [tFinished_sz] at hz hz2
   dsimp only at *
   have hal : Below wr.heap.size wr ((wr.alloc (.cells #[.int .i64 a0, .int .i64 a1, .slice p2 x2.length c2, .slice p3 x3.length c3, .int .i64 a4, .int .i64 a5, .slice p6 x6.length c6] 101)).alloc (.cells #[.int .i64 b0, .int .i64 b1, .slice r2 y2.length e2, .slice r3 y3.length e3, .int .i64 b4, .int .i64 b5, .slice r6 y6.length e6] 101)) := ((Below.refl _ _).alloc (Nat.le_refl _) _).alloc (by simp) _
   have HC0 := implFinishedEq a0 a1 a4 a5 b0 b1 b4 b5 (.slice p2 x2.length c2) (.slice p3 x3.length c3) (.slice p6 x6.length c6) (.slice r2 y2.length e2) (.slice r3 y3.length e3) (.slice r6 y6.length e6) x2 y2 x3 y3 x6 y6 _ (slR_below tCond_law sx2 hal) (slR_below tInt_law sx3 hal) (slR_below tRow_law sx6 hal) (slR_below tCond_law sy2 hal) (slR_below tInt_law sy3 hal) (slR_below tRow_law sy6 hal) (by omega) (by omega) (by omega) (by omega) (by omega) (by omega)
   have HC := Lib.hid (HC0.mono (fun e w' hh => (⟨hh.1, hal.trans (hh.2.mono hal.size)⟩ : e = .returned (.bool (decide ((((a0, a1, x2, x3), a4, a5, x6) : FinD) = ((b0, b1, y2, y3), b4, b5, y6)))) ∧ Below wr.heap.size wr w')))
   clear HC0 hal sx2 sy2 sx3 sy3 sx6 sy6 hz hz2 hbl hno hlt hlt2
   obtain ⟨bv, hbv⟩ : ∃ bv, bv = decide ((((a0, a1, x2, x3), a4, a5, x6) : FinD) = ((b0, b1, y2, y3), b4, b5, y6)) := ⟨_, rfl⟩
   rw [← hbv] at HC HST HNO
   clear hbv
   have zz0 := (((Below.refl wr.heap.size wr).alloc (Nat.le_refl _) (.cells #[.int .i64 a0, .int .i64 a1, .slice p2 x2.length c2, .slice p3 x3.length c3, .int .i64 a4, .int .i64 a5, .slice p6 x6.length c6] 101)).cell (p := ⟨b2, off2 + k * 7, none⟩) hbl2).trans z0
   have zz1 := (((Below.refl wr.heap.size wr).alloc (Nat.le_refl _) (.cells #[.int .i64 a0, .int .i64 a1, .slice p2 x2.length c2, .slice p3 x3.length c3, .int .i64 a4, .int .i64 a5, .slice p6 x6.length c6] 101)).cell (p := ⟨b2, off2 + k * 7 + 1, none⟩) hbl2).trans z1
   have zz2 := (((Below.refl wr.heap.size wr).alloc (Nat.le_refl _) (.cells #[.int .i64 a0, .int .i64 a1, .slice p2 x2.length c2, .slice p3 x3.length c3, .int .i64 a4, .int .i64 a5, .slice p6 x6.length c6] 101)).cell (p := ⟨b2, off2 + k * 7 + 2, none⟩) hbl2).trans z2
   have zz3 := (((Below.refl wr.heap.size wr).alloc (Nat.le_refl _) (.cells #[.int .i64 a0, .int .i64 a1, .slice p2 x2.length c2, .slice p3 x3.length c3, .int .i64 a4, .int .i64 a5, .slice p6 x6.length c6] 101)).cell (p := ⟨b2, off2 + k * 7 + 3, none⟩) hbl2).trans z3
   have zz4 := (((Below.refl wr.heap.size wr).alloc (Nat.le_refl _) (.cells #[.int .i64 a0, .int .i64 a1, .slice p2 x2.length c2, .slice p3 x3.length c3, .int .i64 a4, .int .i64 a5, .slice p6 x6.length c6] 101)).cell (p := ⟨b2, off2 + k * 7 + 4, none⟩) hbl2).trans z4
   have zz5 := (((Below.refl wr.heap.size wr).alloc (Nat.le_refl _) (.cells #[.int .i64 a0, .int .i64 a1, .slice p2 x2.length c2, .slice p3 x3.length c3, .int .i64 a4, .int .i64 a5, .slice p6 x6.length c6] 101)).cell (p := ⟨b2, off2 + k * 7 + 5, none⟩) hbl2).trans z5
   have zz6 := (((Below.refl wr.heap.size wr).alloc (Nat.le_refl _) (.cells #[.int .i64 a0, .int .i64 a1, .slice p2 x2.length c2, .slice p3 x3.length c3, .int .i64 a4, .int .i64 a5, .slice p6 x6.length c6] 101)).cell (p := ⟨b2, off2 + k * 7 + 6, none⟩) hbl2).trans z6
   clear hbl2
   cases bv with
   | true =>
    have HA := Lib.hid (HST.out rfl)
    clear HST HNO
    go_wp2_with fail
    refine HC.out.mono ?_
    rintro e w2 ⟨rfl, c2⟩
    have cw2 := Lib.hid (cw.out.trans (c2.mono cw.out.size))
    clear c2 HC q0 z0 zz0 q1 z1 zz1 q2 z2 zz2 q3 z3 zz3 q4 z4 zz4 q5 z5 zz5 q6 z6 zz6
    go_wp2
    go_roundw
    case rel => exact ⟨k + 1, by omega, by go_num, HA, cw2.out⟩
    case measure => simp [intOf]; omega
   | false =>
    have HF := Lib.hid (HNO.out rfl)
    clear HST HNO
    go_wp2_with fail
    refine HC.out.mono ?_
    rintro e w2 ⟨rfl, c2⟩
    have cw2 := Lib.hid (cw.out.trans (c2.mono cw.out.size))
    clear c2 HC q0 z0 zz0 q1 z1 zz1 q2 z2 zz2 q3 z3 zz3 q4 z4 zz4 q5 z5 zz5 q6 z6 zz6
    go_wp2
    go_ret
    exact ⟨ret_b (decide_eq_false HF.out).symm, cw2.out⟩
  ·
   obtain rfl : k = xs.length := by omega
   have HE := Lib.hid (list_eqs f0D HL.out hno.out)
   clear hno
   go_wp2
   go_ret
   exact ⟨ret_b (decide_eq_true HE.out).symm, cw.out⟩
set_option maxHeartbeats 8000000 in
set_option maxRecDepth 100000 in
theorem eqFuncCharge (v u : Value) (xs ys : List ChargeD) (w : World) (h : SlR tCharge w v xs) (g : SlR tCharge w u ys) (hs : zL tCharge xs ≤ 1048576) (ht : zL tCharge ys ≤ 1048576) :
  Calls Try.prog 76 #[v, u, .func (.func 77) #[] #[]] w (fun e w' => e = .returned (.bool (decide (xs = ys))) ∧ Below w.heap.size w w') := by
 have hn := zL_len hs
 have hm := zL_len ht
 obtain ⟨a, cap, rfl⟩ := slR_len h
 obtain ⟨a2, cap2', rfl⟩ := slR_len g
 have H := Lib.hid h
 have G := Lib.hid g
 have HS := Lib.hid hs
 have HT := Lib.hid ht
 clear h g hs ht
 by_cases hl : xs.length = ys.length
 rotate_left
 ·
  have HF := Lib.hid (decide_eq_false (show ¬ xs = ys from fun e => hl (by rw [e])))
  have hne : ((xs.length : Int) != (ys.length : Int)) = true := by rw [bne_iff_ne]; omega
  clear hl
  go_enter Try.func76, Try.ntmps76
  go_wp2
  go_ret
  exact ⟨ret_b HF.out.symm, Below.refl _ _⟩
 have HL := Lib.hid hl
 have hne : ((xs.length : Int) != (ys.length : Int)) = false := by rw [bne_eq_false_iff_eq]; omega
 have d : Hid (Below w.heap.size w w) := Lib.hid (Below.refl _ _)
 clear hl
 go_enter Try.func76, Try.ntmps76
 go_wp2
 clear hne
 go_loopw [17] (fun i wr => ∃ k : Nat, k ≤ xs.length ∧ i = .int .i64 k ∧ Hid (∀ j, j < k → xs.getD j x0D = ys.getD j x0D) ∧ Below w.heap.size w wr) (fun i _ => xs.length - (intOf i).toNat)
 case atStart => exact ⟨0, Nat.zero_le _, rfl, Lib.hid (fun j hj => absurd hj (Nat.not_lt_zero j)), Below.refl _ _⟩
 case round =>
  obtain ⟨k, hk, rfl, hno, c⟩ := hrel
  have cw := Lib.hid c
  replace d := Lib.hid (d.out.trans (c.mono d.out.size))
  clear c
  by_cases hlt : k < xs.length
  ·
   have hlt2 : k < ys.length := by have := HL.out; omega
   have i1 : (0 : Int) ≤ (k : Int) := by omega
   have i2 : (k : Int) < (xs.length : Int) := by omega
   have i3 : (k : Int) < (ys.length : Int) := by omega
   have hz := zL_at HS.out hlt
   have hz2 := zL_at HT.out hlt2
   change tCharge.sz (xs.getD k x0D) ≤ 1048576 at hz
   change tCharge.sz (ys.getD k x0D) ≤ 1048576 at hz2
   obtain ⟨b, off, cap', p2, c2, p3, c3, p4, c4, hv, hbl, q0, q1, q2, q3, q4, sx2, sx3, sx4⟩ := chg_at (slR_below tCharge_law H.out cw.out) hlt
   simp only [Value.slice.injEq] at hv
   obtain ⟨rfl, _, rfl⟩ := hv
   obtain ⟨b2, off2, cap2, r2, e2, r3, e3, r4, e4, hv, hbl2, z0, z1, z2, z3, z4, sy2, sy3, sy4⟩ := chg_at (slR_below tCharge_law G.out cw.out) hlt2
   simp only [Value.slice.injEq] at hv
   obtain ⟨rfl, _, rfl⟩ := hv
   have HST : Hid (decide (xs.getD k x0D = ys.getD k x0D) = true → ∀ j, j < k + 1 → xs.getD j x0D = ys.getD j x0D) := Lib.hid (fun g j hj => by
    by_cases e : j = k
    ·
     rw [e]; exact of_decide_eq_true g
    ·
     exact hno.out j (by omega))
   have HNO : Hid (decide (xs.getD k x0D = ys.getD k x0D) = false → ¬ xs = ys) := Lib.hid (fun g => list_neq x0D (of_decide_eq_false g))
   generalize xs.getD k x0D = x at *
   generalize ys.getD k x0D = y at *
   obtain ⟨a0, a1, x2, x3, x4⟩ := x
   obtain ⟨b0, b1, y2, y3, y4⟩ := y
   rw [tCharge_sz] at hz hz2
   dsimp only at *
   have hal : Below wr.heap.size wr ((wr.alloc (.cells #[.int .i64 a0, .int .i64 a1, .slice p2 x2.length c2, .slice p3 x3.length c3, .slice p4 x4.length c4] 105)).alloc (.cells #[.int .i64 b0, .int .i64 b1, .slice r2 y2.length e2, .slice r3 y3.length e3, .slice r4 y4.length e4] 105)) := ((Below.refl _ _).alloc (Nat.le_refl _) _).alloc (by simp) _
   have HC0 := implChargeEq a0 a1 b0 b1 (.slice p2 x2.length c2) (.slice p3 x3.length c3) (.slice p4 x4.length c4) (.slice r2 y2.length e2) (.slice r3 y3.length e3) (.slice r4 y4.length e4) x2 y2 x3 y3 x4 y4 _ (slR_below tInt_law sx2 hal) (slR_below tInt_law sx3 hal) (slR_below tInt_law sx4 hal) (slR_below tInt_law sy2 hal) (slR_below tInt_law sy3 hal) (slR_below tInt_law sy4 hal) (by omega) (by omega) (by omega) (by omega) (by omega) (by omega)
   have HC := Lib.hid (HC0.mono (fun e w' hh => (⟨hh.1, hal.trans (hh.2.mono hal.size)⟩ : e = .returned (.bool (decide (((a0, a1, x2, x3, x4) : ChargeD) = (b0, b1, y2, y3, y4)))) ∧ Below wr.heap.size wr w')))
   clear HC0 hal sx2 sy2 sx3 sy3 sx4 sy4 hz hz2 hbl hno hlt hlt2
   obtain ⟨bv, hbv⟩ : ∃ bv, bv = decide (((a0, a1, x2, x3, x4) : ChargeD) = (b0, b1, y2, y3, y4)) := ⟨_, rfl⟩
   rw [← hbv] at HC HST HNO
   clear hbv
   have zz0 := (((Below.refl wr.heap.size wr).alloc (Nat.le_refl _) (.cells #[.int .i64 a0, .int .i64 a1, .slice p2 x2.length c2, .slice p3 x3.length c3, .slice p4 x4.length c4] 105)).cell (p := ⟨b2, off2 + k * 5, none⟩) hbl2).trans z0
   have zz1 := (((Below.refl wr.heap.size wr).alloc (Nat.le_refl _) (.cells #[.int .i64 a0, .int .i64 a1, .slice p2 x2.length c2, .slice p3 x3.length c3, .slice p4 x4.length c4] 105)).cell (p := ⟨b2, off2 + k * 5 + 1, none⟩) hbl2).trans z1
   have zz2 := (((Below.refl wr.heap.size wr).alloc (Nat.le_refl _) (.cells #[.int .i64 a0, .int .i64 a1, .slice p2 x2.length c2, .slice p3 x3.length c3, .slice p4 x4.length c4] 105)).cell (p := ⟨b2, off2 + k * 5 + 2, none⟩) hbl2).trans z2
   have zz3 := (((Below.refl wr.heap.size wr).alloc (Nat.le_refl _) (.cells #[.int .i64 a0, .int .i64 a1, .slice p2 x2.length c2, .slice p3 x3.length c3, .slice p4 x4.length c4] 105)).cell (p := ⟨b2, off2 + k * 5 + 3, none⟩) hbl2).trans z3
   have zz4 := (((Below.refl wr.heap.size wr).alloc (Nat.le_refl _) (.cells #[.int .i64 a0, .int .i64 a1, .slice p2 x2.length c2, .slice p3 x3.length c3, .slice p4 x4.length c4] 105)).cell (p := ⟨b2, off2 + k * 5 + 4, none⟩) hbl2).trans z4
   clear hbl2
   cases bv with
   | true =>
    have HA := Lib.hid (HST.out rfl)
    clear HST HNO
    go_wp2_with fail
    refine HC.out.mono ?_
    rintro e w2 ⟨rfl, c2⟩
    have cw2 := Lib.hid (cw.out.trans (c2.mono cw.out.size))
    clear c2 HC q0 z0 zz0 q1 z1 zz1 q2 z2 zz2 q3 z3 zz3 q4 z4 zz4
    go_wp2
    go_roundw
    case rel => exact ⟨k + 1, by omega, by go_num, HA, cw2.out⟩
    case measure => simp [intOf]; omega
   | false =>
    have HF := Lib.hid (HNO.out rfl)
    clear HST HNO
    go_wp2_with fail
    refine HC.out.mono ?_
    rintro e w2 ⟨rfl, c2⟩
    have cw2 := Lib.hid (cw.out.trans (c2.mono cw.out.size))
    clear c2 HC q0 z0 zz0 q1 z1 zz1 q2 z2 zz2 q3 z3 zz3 q4 z4 zz4
    go_wp2
    go_ret
    exact ⟨ret_b (decide_eq_false HF.out).symm, cw2.out⟩
  ·
   obtain rfl : k = xs.length := by omega
   have HE := Lib.hid (list_eqs x0D HL.out hno.out)
   clear hno
   go_wp2
   go_ret
   exact ⟨ret_b (decide_eq_true HE.out).symm, cw.out⟩
set_option maxHeartbeats 16000000 in
set_option maxRecDepth 100000 in
theorem implEqualEngines (now cu st now2 cu2 st2 : Int) (sv ov av dv lv su ou au du lu : Value) (ss tt : List (List VerD)) (os ot : List Int) (qs qt : List ActD) (ds dt : List FinD) (ls lt : List ChargeD) (w : World) (h0 : SlR tVersionS w sv ss) (h3 : SlR tInt w ov os) (h4 : SlR tActive w av qs) (h5 : SlR tFinished w dv ds) (h6 : SlR tCharge w lv ls) (hs : zL tVersionS ss + zL tInt os + zL tActive qs + zL tFinished ds + zL tCharge ls ≤ 1048576) (g0 : SlR tVersionS w su tt) (g3 : SlR tInt w ou ot) (g4 : SlR tActive w au qt) (g5 : SlR tFinished w du dt) (g6 : SlR tCharge w lu lt) (ht : zL tVersionS tt + zL tInt ot + zL tActive qt + zL tFinished dt + zL tCharge lt ≤ 1048576) :
  Calls Try.prog 26 #[.agg #[sv, .int .i64 now, .int .i64 cu, ov, av, dv, lv, .int .i64 st], .agg #[su, .int .i64 now2, .int .i64 cu2, ou, au, du, lu, .int .i64 st2]] w (fun e w' => e = .returned (.bool (decide ((((ss, now), cu, os, qs, ds, ls, st) : EngD) = ((tt, now2), cu2, ot, qt, dt, lt, st2)))) ∧ Below w.heap.size w w') := by
 have S0 : Hid (zL tVersionS ss ≤ 1048576) := Lib.hid (by omega)
 have T0 : Hid (zL tVersionS tt ≤ 1048576) := Lib.hid (by omega)
 have S3 : Hid (zL tInt os ≤ 1048576) := Lib.hid (by omega)
 have T3 : Hid (zL tInt ot ≤ 1048576) := Lib.hid (by omega)
 have S4 : Hid (zL tActive qs ≤ 1048576) := Lib.hid (by omega)
 have T4 : Hid (zL tActive qt ≤ 1048576) := Lib.hid (by omega)
 have S5 : Hid (zL tFinished ds ≤ 1048576) := Lib.hid (by omega)
 have T5 : Hid (zL tFinished dt ≤ 1048576) := Lib.hid (by omega)
 have S6 : Hid (zL tCharge ls ≤ 1048576) := Lib.hid (by omega)
 have T6 : Hid (zL tCharge lt ≤ 1048576) := Lib.hid (by omega)
 clear hs ht
 obtain ⟨s1, sc, rfl⟩ := slR_len h0
 obtain ⟨s2, tc, rfl⟩ := slR_len g0
 have H0 := Lib.hid h0; have G0 := Lib.hid g0; have n0 := zL_len S0.out; have m0 := zL_len T0.out
 obtain ⟨o1, oc, rfl⟩ := slR_len h3
 obtain ⟨o2, oc2, rfl⟩ := slR_len g3
 have H3 := Lib.hid h3; have G3 := Lib.hid g3; have n3 := zL_len S3.out; have m3 := zL_len T3.out
 obtain ⟨l1, lc, rfl⟩ := slR_len h4
 obtain ⟨l2, lc2, rfl⟩ := slR_len g4
 have H4 := Lib.hid h4; have G4 := Lib.hid g4; have n4 := zL_len S4.out; have m4 := zL_len T4.out
 obtain ⟨f1, fc, rfl⟩ := slR_len h5
 obtain ⟨f2, fc2, rfl⟩ := slR_len g5
 have H5 := Lib.hid h5; have G5 := Lib.hid g5; have n5 := zL_len S5.out; have m5 := zL_len T5.out
 obtain ⟨k1, kc, rfl⟩ := slR_len h6
 obtain ⟨k2, kc2, rfl⟩ := slR_len g6
 have H6 := Lib.hid h6; have G6 := Lib.hid g6; have n6 := zL_len S6.out; have m6 := zL_len T6.out
 clear h0 h3 h4 h5 h6 g0 g3 g4 g5 g6
 have d := Lib.hid (show Below w.heap.size w ((w.alloc (.cells #[.slice s1 ss.length sc, .int .i64 now, .int .i64 cu, .slice o1 os.length oc, .slice l1 qs.length lc, .slice f1 ds.length fc, .slice k1 ls.length kc, .int .i64 st] 42)).alloc (.cells #[.slice s2 tt.length tc, .int .i64 now2, .int .i64 cu2, .slice o2 ot.length oc2, .slice l2 qt.length lc2, .slice f2 dt.length fc2, .slice k2 lt.length kc2, .int .i64 st2] 42)) from (((Below.refl _ w).alloc (Nat.le_refl _) _).alloc (by simp) _))
 have B0 : Hid (((w.alloc (.cells #[.slice s1 ss.length sc, .int .i64 now, .int .i64 cu, .slice o1 os.length oc, .slice l1 qs.length lc, .slice f1 ds.length fc, .slice k1 ls.length kc, .int .i64 st] 42)).alloc (.cells #[.slice s2 tt.length tc, .int .i64 now2, .int .i64 cu2, .slice o2 ot.length oc2, .slice l2 qt.length lc2, .slice f2 dt.length fc2, .slice k2 lt.length kc2, .int .i64 st2] 42)).heap[w.heap.size]? = some (.cells #[.slice s1 ss.length sc, .int .i64 now, .int .i64 cu, .slice o1 os.length oc, .slice l1 qs.length lc, .slice f1 ds.length fc, .slice k1 ls.length kc, .int .i64 st] 42 (0, 0))) := Lib.hid (by
  rw [Below.heap_alloc _ _ _ (by simp)]
  exact heap_alloc_new w _)
 have B1 : Hid (((w.alloc (.cells #[.slice s1 ss.length sc, .int .i64 now, .int .i64 cu, .slice o1 os.length oc, .slice l1 qs.length lc, .slice f1 ds.length fc, .slice k1 ls.length kc, .int .i64 st] 42)).alloc (.cells #[.slice s2 tt.length tc, .int .i64 now2, .int .i64 cu2, .slice o2 ot.length oc2, .slice l2 qt.length lc2, .slice f2 dt.length fc2, .slice k2 lt.length kc2, .int .i64 st2] 42)).heap[(w.heap.size + 1)]? = some (.cells #[.slice s2 tt.length tc, .int .i64 now2, .int .i64 cu2, .slice o2 ot.length oc2, .slice l2 qt.length lc2, .slice f2 dt.length fc2, .slice k2 lt.length kc2, .int .i64 st2] 42 (0, 0))) := Lib.hid (by
  have := heap_alloc_new (w.alloc (.cells #[.slice s1 ss.length sc, .int .i64 now, .int .i64 cu, .slice o1 os.length oc, .slice l1 qs.length lc, .slice f1 ds.length fc, .slice k1 ls.length kc, .int .i64 st] 42)) (.cells #[.slice s2 tt.length tc, .int .i64 now2, .int .i64 cu2, .slice o2 ot.length oc2, .slice l2 qt.length lc2, .slice f2 dt.length fc2, .slice k2 lt.length kc2, .int .i64 st2] 42)
  simpa only [World.size_alloc] using this)
 have YW : Hid (w.heap.size + 2 ≤ ((w.alloc (.cells #[.slice s1 ss.length sc, .int .i64 now, .int .i64 cu, .slice o1 os.length oc, .slice l1 qs.length lc, .slice f1 ds.length fc, .slice k1 ls.length kc, .int .i64 st] 42)).alloc (.cells #[.slice s2 tt.length tc, .int .i64 now2, .int .i64 cu2, .slice o2 ot.length oc2, .slice l2 qt.length lc2, .slice f2 dt.length fc2, .slice k2 lt.length kc2, .int .i64 st2] 42)).heap.size) := Lib.hid (by simp [World.size_alloc])
 go_enter Try.func26, Try.ntmps26
 go_wp2_with fail
 generalize ((w.alloc (.cells #[.slice s1 ss.length sc, .int .i64 now, .int .i64 cu, .slice o1 os.length oc, .slice l1 qs.length lc, .slice f1 ds.length fc, .slice k1 ls.length kc, .int .i64 st] 42)).alloc (.cells #[.slice s2 tt.length tc, .int .i64 now2, .int .i64 cu2, .slice o2 ot.length oc2, .slice l2 qt.length lc2, .slice f2 dt.length fc2, .slice k2 lt.length kc2, .int .i64 st2] 42)) = W at *
 refine (implEqualStores (.slice s1 ss.length sc) (.slice s2 tt.length tc) ss tt now now2 W (slR_below tVersionS_law H0.out d.out) (slR_below tVersionS_law G0.out d.out) S0.out T0.out).mono ?_
 rintro e W1 ⟨rfl, c⟩
 replace B0 := Lib.hid ((c.block w.heap.size (Array.getElem?_eq_some_iff.1 B0.out).1).trans B0.out)
 replace B1 := Lib.hid ((c.block (w.heap.size + 1) (Array.getElem?_eq_some_iff.1 B1.out).1).trans B1.out)
 replace d := Lib.hid (d.out.trans (c.mono d.out.size))
 have Z_W1 := Lib.hid (show W.heap.size ≤ W1.heap.size from c.size)
 clear c
 rcases Bool.eq_false_or_eq_true (decide (((ss, now) : StoreD) = (tt, now2))) with hy0 | hy0
 rotate_left
 ·
  rw [hy0]
  have HF := Lib.hid (decide_eq_false (show ¬ ((((ss, now), cu, os, qs, ds, ls, st) : EngD) = ((tt, now2), cu2, ot, qt, dt, lt, st2)) from fun g => of_decide_eq_false hy0 (congrArg (fun z : EngD => z.1) g)))
  clear hy0
  obtain ⟨p_B0_0, p_B0_1, p_B0_2, p_B0_3, p_B0_4, p_B0_5, p_B0_6, p_B0_7⟩ := cls8 B0.out
  obtain ⟨p_B1_0, p_B1_1, p_B1_2, p_B1_3, p_B1_4, p_B1_5, p_B1_6, p_B1_7⟩ := cls8 B1.out
  go_wp2
  clear p_B0_0 p_B0_1 p_B0_2 p_B0_3 p_B0_4 p_B0_5 p_B0_6 p_B0_7 p_B1_0 p_B1_1 p_B1_2 p_B1_3 p_B1_4 p_B1_5 p_B1_6 p_B1_7
  go_ret
  exact ⟨ret_b HF.out.symm, d.out⟩
 rw [hy0]
 have HY0 := Lib.hid hy0
 clear hy0
 by_cases hh0 : cu = cu2
 rotate_left
 ·
  have HF := Lib.hid (decide_eq_false (show ¬ ((((ss, now), cu, os, qs, ds, ls, st) : EngD) = ((tt, now2), cu2, ot, qt, dt, lt, st2)) from fun g => hh0 (congrArg (fun z : EngD => z.2.1) g)))
  have f0a : (cu == cu2) = false := by rw [beq_eq_false_iff_ne]; exact hh0
  have f0b : (cu != cu2) = true := by rw [bne_iff_ne]; exact hh0
  clear hh0
  obtain ⟨p_B0_0, p_B0_1, p_B0_2, p_B0_3, p_B0_4, p_B0_5, p_B0_6, p_B0_7⟩ := cls8 B0.out
  obtain ⟨p_B1_0, p_B1_1, p_B1_2, p_B1_3, p_B1_4, p_B1_5, p_B1_6, p_B1_7⟩ := cls8 B1.out
  go_wp2
  clear p_B0_0 p_B0_1 p_B0_2 p_B0_3 p_B0_4 p_B0_5 p_B0_6 p_B0_7 p_B1_0 p_B1_1 p_B1_2 p_B1_3 p_B1_4 p_B1_5 p_B1_6 p_B1_7
  go_ret
  exact ⟨ret_b HF.out.symm, d.out⟩
 have f0a : (cu == cu2) = true := by rw [beq_iff_eq]; exact hh0
 have f0b : (cu != cu2) = false := by rw [bne_eq_false_iff_eq]; exact hh0
 have HH0 := Lib.hid hh0
 clear hh0
 obtain ⟨p_B0_0, p_B0_1, p_B0_2, p_B0_3, p_B0_4, p_B0_5, p_B0_6, p_B0_7⟩ := cls8 B0.out
 obtain ⟨p_B1_0, p_B1_1, p_B1_2, p_B1_3, p_B1_4, p_B1_5, p_B1_6, p_B1_7⟩ := cls8 B1.out
 go_wp2_with fail
 clear p_B0_0 p_B0_1 p_B0_2 p_B0_3 p_B0_4 p_B0_5 p_B0_6 p_B0_7 p_B1_0 p_B1_1 p_B1_2 p_B1_3 p_B1_4 p_B1_5 p_B1_6 p_B1_7 f0a f0b
 refine (equalInts_any (.slice o1 os.length oc) (.slice o2 ot.length oc2) os ot W1 (slR_ints (slR_below tInt_law H3.out d.out)) (slR_ints (slR_below tInt_law G3.out d.out)) n3 m3).mono ?_
 rintro e W2 ⟨rfl, c⟩
 replace B0 := Lib.hid ((c.block w.heap.size (Array.getElem?_eq_some_iff.1 B0.out).1).trans B0.out)
 replace B1 := Lib.hid ((c.block (w.heap.size + 1) (Array.getElem?_eq_some_iff.1 B1.out).1).trans B1.out)
 replace d := Lib.hid (d.out.trans (c.mono d.out.size))
 have Z_W2 := Lib.hid (show W1.heap.size ≤ W2.heap.size from c.size)
 clear c
 rcases Bool.eq_false_or_eq_true (decide (os = ot)) with hh1 | hh1
 rotate_left
 ·
  rw [hh1]
  have HF := Lib.hid (decide_eq_false (show ¬ ((((ss, now), cu, os, qs, ds, ls, st) : EngD) = ((tt, now2), cu2, ot, qt, dt, lt, st2)) from fun g => of_decide_eq_false hh1 (congrArg (fun z : EngD => z.2.2.1) g)))
  clear hh1
  obtain ⟨p_B0_0, p_B0_1, p_B0_2, p_B0_3, p_B0_4, p_B0_5, p_B0_6, p_B0_7⟩ := cls8 B0.out
  obtain ⟨p_B1_0, p_B1_1, p_B1_2, p_B1_3, p_B1_4, p_B1_5, p_B1_6, p_B1_7⟩ := cls8 B1.out
  go_wp2
  clear p_B0_0 p_B0_1 p_B0_2 p_B0_3 p_B0_4 p_B0_5 p_B0_6 p_B0_7 p_B1_0 p_B1_1 p_B1_2 p_B1_3 p_B1_4 p_B1_5 p_B1_6 p_B1_7
  go_ret
  exact ⟨ret_b HF.out.symm, d.out⟩
 rw [hh1]
 have HH1 := Lib.hid hh1
 clear hh1
 obtain ⟨p_B0_0, p_B0_1, p_B0_2, p_B0_3, p_B0_4, p_B0_5, p_B0_6, p_B0_7⟩ := cls8 B0.out
 obtain ⟨p_B1_0, p_B1_1, p_B1_2, p_B1_3, p_B1_4, p_B1_5, p_B1_6, p_B1_7⟩ := cls8 B1.out
 go_wp2_with fail
 clear p_B0_0 p_B0_1 p_B0_2 p_B0_3 p_B0_4 p_B0_5 p_B0_6 p_B0_7 p_B1_0 p_B1_1 p_B1_2 p_B1_3 p_B1_4 p_B1_5 p_B1_6 p_B1_7
 refine (eqFuncActive (.slice l1 qs.length lc) (.slice l2 qt.length lc2) qs qt W2 (slR_below tActive_law H4.out d.out) (slR_below tActive_law G4.out d.out) S4.out T4.out).mono ?_
 rintro e W3 ⟨rfl, c⟩
 replace B0 := Lib.hid ((c.block w.heap.size (Array.getElem?_eq_some_iff.1 B0.out).1).trans B0.out)
 replace B1 := Lib.hid ((c.block (w.heap.size + 1) (Array.getElem?_eq_some_iff.1 B1.out).1).trans B1.out)
 replace d := Lib.hid (d.out.trans (c.mono d.out.size))
 have Z_W3 := Lib.hid (show W2.heap.size ≤ W3.heap.size from c.size)
 clear c
 rcases Bool.eq_false_or_eq_true (decide (qs = qt)) with hh2 | hh2
 rotate_left
 ·
  rw [hh2]
  have HF := Lib.hid (decide_eq_false (show ¬ ((((ss, now), cu, os, qs, ds, ls, st) : EngD) = ((tt, now2), cu2, ot, qt, dt, lt, st2)) from fun g => of_decide_eq_false hh2 (congrArg (fun z : EngD => z.2.2.2.1) g)))
  clear hh2
  obtain ⟨p_B0_0, p_B0_1, p_B0_2, p_B0_3, p_B0_4, p_B0_5, p_B0_6, p_B0_7⟩ := cls8 B0.out
  obtain ⟨p_B1_0, p_B1_1, p_B1_2, p_B1_3, p_B1_4, p_B1_5, p_B1_6, p_B1_7⟩ := cls8 B1.out
  go_wp2
  clear p_B0_0 p_B0_1 p_B0_2 p_B0_3 p_B0_4 p_B0_5 p_B0_6 p_B0_7 p_B1_0 p_B1_1 p_B1_2 p_B1_3 p_B1_4 p_B1_5 p_B1_6 p_B1_7
  go_ret
  exact ⟨ret_b HF.out.symm, d.out⟩
 rw [hh2]
 have HH2 := Lib.hid hh2
 clear hh2
 obtain ⟨p_B0_0, p_B0_1, p_B0_2, p_B0_3, p_B0_4, p_B0_5, p_B0_6, p_B0_7⟩ := cls8 B0.out
 obtain ⟨p_B1_0, p_B1_1, p_B1_2, p_B1_3, p_B1_4, p_B1_5, p_B1_6, p_B1_7⟩ := cls8 B1.out
 go_wp2_with fail
 clear p_B0_0 p_B0_1 p_B0_2 p_B0_3 p_B0_4 p_B0_5 p_B0_6 p_B0_7 p_B1_0 p_B1_1 p_B1_2 p_B1_3 p_B1_4 p_B1_5 p_B1_6 p_B1_7
 refine (eqFuncFinished (.slice f1 ds.length fc) (.slice f2 dt.length fc2) ds dt W3 (slR_below tFinished_law H5.out d.out) (slR_below tFinished_law G5.out d.out) S5.out T5.out).mono ?_
 rintro e W4 ⟨rfl, c⟩
 replace B0 := Lib.hid ((c.block w.heap.size (Array.getElem?_eq_some_iff.1 B0.out).1).trans B0.out)
 replace B1 := Lib.hid ((c.block (w.heap.size + 1) (Array.getElem?_eq_some_iff.1 B1.out).1).trans B1.out)
 replace d := Lib.hid (d.out.trans (c.mono d.out.size))
 have Z_W4 := Lib.hid (show W3.heap.size ≤ W4.heap.size from c.size)
 clear c
 rcases Bool.eq_false_or_eq_true (decide (ds = dt)) with hh3 | hh3
 rotate_left
 ·
  rw [hh3]
  have HF := Lib.hid (decide_eq_false (show ¬ ((((ss, now), cu, os, qs, ds, ls, st) : EngD) = ((tt, now2), cu2, ot, qt, dt, lt, st2)) from fun g => of_decide_eq_false hh3 (congrArg (fun z : EngD => z.2.2.2.2.1) g)))
  clear hh3
  obtain ⟨p_B0_0, p_B0_1, p_B0_2, p_B0_3, p_B0_4, p_B0_5, p_B0_6, p_B0_7⟩ := cls8 B0.out
  obtain ⟨p_B1_0, p_B1_1, p_B1_2, p_B1_3, p_B1_4, p_B1_5, p_B1_6, p_B1_7⟩ := cls8 B1.out
  go_wp2
  clear p_B0_0 p_B0_1 p_B0_2 p_B0_3 p_B0_4 p_B0_5 p_B0_6 p_B0_7 p_B1_0 p_B1_1 p_B1_2 p_B1_3 p_B1_4 p_B1_5 p_B1_6 p_B1_7
  go_ret
  exact ⟨ret_b HF.out.symm, d.out⟩
 rw [hh3]
 have HH3 := Lib.hid hh3
 clear hh3
 obtain ⟨p_B0_0, p_B0_1, p_B0_2, p_B0_3, p_B0_4, p_B0_5, p_B0_6, p_B0_7⟩ := cls8 B0.out
 obtain ⟨p_B1_0, p_B1_1, p_B1_2, p_B1_3, p_B1_4, p_B1_5, p_B1_6, p_B1_7⟩ := cls8 B1.out
 go_wp2_with fail
 clear p_B0_0 p_B0_1 p_B0_2 p_B0_3 p_B0_4 p_B0_5 p_B0_6 p_B0_7 p_B1_0 p_B1_1 p_B1_2 p_B1_3 p_B1_4 p_B1_5 p_B1_6 p_B1_7
 refine (eqFuncCharge (.slice k1 ls.length kc) (.slice k2 lt.length kc2) ls lt W4 (slR_below tCharge_law H6.out d.out) (slR_below tCharge_law G6.out d.out) S6.out T6.out).mono ?_
 rintro e W5 ⟨rfl, c⟩
 replace B0 := Lib.hid ((c.block w.heap.size (Array.getElem?_eq_some_iff.1 B0.out).1).trans B0.out)
 replace B1 := Lib.hid ((c.block (w.heap.size + 1) (Array.getElem?_eq_some_iff.1 B1.out).1).trans B1.out)
 replace d := Lib.hid (d.out.trans (c.mono d.out.size))
 have Z_W5 := Lib.hid (show W4.heap.size ≤ W5.heap.size from c.size)
 clear c
 rcases Bool.eq_false_or_eq_true (decide (ls = lt)) with hh4 | hh4
 rotate_left
 ·
  rw [hh4]
  have HF := Lib.hid (decide_eq_false (show ¬ ((((ss, now), cu, os, qs, ds, ls, st) : EngD) = ((tt, now2), cu2, ot, qt, dt, lt, st2)) from fun g => of_decide_eq_false hh4 (congrArg (fun z : EngD => z.2.2.2.2.2.1) g)))
  clear hh4
  obtain ⟨p_B0_0, p_B0_1, p_B0_2, p_B0_3, p_B0_4, p_B0_5, p_B0_6, p_B0_7⟩ := cls8 B0.out
  obtain ⟨p_B1_0, p_B1_1, p_B1_2, p_B1_3, p_B1_4, p_B1_5, p_B1_6, p_B1_7⟩ := cls8 B1.out
  go_wp2
  clear p_B0_0 p_B0_1 p_B0_2 p_B0_3 p_B0_4 p_B0_5 p_B0_6 p_B0_7 p_B1_0 p_B1_1 p_B1_2 p_B1_3 p_B1_4 p_B1_5 p_B1_6 p_B1_7
  go_ret
  exact ⟨ret_b HF.out.symm, d.out⟩
 rw [hh4]
 have HH4 := Lib.hid hh4
 clear hh4
 by_cases hh5 : st = st2
 rotate_left
 ·
  have HF := Lib.hid (decide_eq_false (show ¬ ((((ss, now), cu, os, qs, ds, ls, st) : EngD) = ((tt, now2), cu2, ot, qt, dt, lt, st2)) from fun g => hh5 (congrArg (fun z : EngD => z.2.2.2.2.2.2) g)))
  have f5a : (st == st2) = false := by rw [beq_eq_false_iff_ne]; exact hh5
  have f5b : (st != st2) = true := by rw [bne_iff_ne]; exact hh5
  clear hh5
  obtain ⟨p_B0_0, p_B0_1, p_B0_2, p_B0_3, p_B0_4, p_B0_5, p_B0_6, p_B0_7⟩ := cls8 B0.out
  obtain ⟨p_B1_0, p_B1_1, p_B1_2, p_B1_3, p_B1_4, p_B1_5, p_B1_6, p_B1_7⟩ := cls8 B1.out
  go_wp2
  clear p_B0_0 p_B0_1 p_B0_2 p_B0_3 p_B0_4 p_B0_5 p_B0_6 p_B0_7 p_B1_0 p_B1_1 p_B1_2 p_B1_3 p_B1_4 p_B1_5 p_B1_6 p_B1_7
  go_ret
  exact ⟨ret_b HF.out.symm, d.out⟩
 have f5a : (st == st2) = true := by rw [beq_iff_eq]; exact hh5
 have f5b : (st != st2) = false := by rw [bne_eq_false_iff_eq]; exact hh5
 have HH5 := Lib.hid hh5
 clear hh5
 have HT : Hid (decide ((((ss, now), cu, os, qs, ds, ls, st) : EngD) = ((tt, now2), cu2, ot, qt, dt, lt, st2)) = true) := Lib.hid (decide_eq_true (by rw [of_decide_eq_true HY0.out, HH0.out, of_decide_eq_true HH1.out, of_decide_eq_true HH2.out, of_decide_eq_true HH3.out, of_decide_eq_true HH4.out, HH5.out]))
 obtain ⟨p_B0_0, p_B0_1, p_B0_2, p_B0_3, p_B0_4, p_B0_5, p_B0_6, p_B0_7⟩ := cls8 B0.out
 obtain ⟨p_B1_0, p_B1_1, p_B1_2, p_B1_3, p_B1_4, p_B1_5, p_B1_6, p_B1_7⟩ := cls8 B1.out
 go_wp2
 clear p_B0_0 p_B0_1 p_B0_2 p_B0_3 p_B0_4 p_B0_5 p_B0_6 p_B0_7 p_B1_0 p_B1_1 p_B1_2 p_B1_3 p_B1_4 p_B1_5 p_B1_6 p_B1_7
 go_ret
 exact ⟨ret_b HT.out.symm, d.out⟩
set_option maxHeartbeats 16000000 in
set_option maxRecDepth 100000 in
theorem specEqualEngines (now cu st now2 cu2 st2 : Int) (sv ov av dv lv su ou au du lu : Value) (ss tt : List (List VerD)) (os ot : List Int) (qs qt : List ActD) (ds dt : List FinD) (ls lt : List ChargeD) (w : World) (h0 : SlR tVersionS w sv ss) (h3 : SlR tInt w ov os) (h4 : SlR tActive w av qs) (h5 : SlR tFinished w dv ds) (h6 : SlR tCharge w lv ls) (hs : zL tVersionS ss + zL tInt os + zL tActive qs + zL tFinished ds + zL tCharge ls ≤ 1048576) (g0 : SlR tVersionS w su tt) (g3 : SlR tInt w ou ot) (g4 : SlR tActive w au qt) (g5 : SlR tFinished w du dt) (g6 : SlR tCharge w lu lt) (ht : zL tVersionS tt + zL tInt ot + zL tActive qt + zL tFinished dt + zL tCharge lt ≤ 1048576) :
  Calls Try.prog 25 #[.agg #[sv, .int .i64 now, .int .i64 cu, ov, av, dv, lv, .int .i64 st], .agg #[su, .int .i64 now2, .int .i64 cu2, ou, au, du, lu, .int .i64 st2]] w (fun e w' => e = .returned (.bool (decide ((((ss, now), cu, os, qs, ds, ls, st) : EngD) = ((tt, now2), cu2, ot, qt, dt, lt, st2)))) ∧ Below w.heap.size w w') := by
 have S0 : Hid (zL tVersionS ss ≤ 1048576) := Lib.hid (by omega)
 have T0 : Hid (zL tVersionS tt ≤ 1048576) := Lib.hid (by omega)
 have S3 : Hid (zL tInt os ≤ 1048576) := Lib.hid (by omega)
 have T3 : Hid (zL tInt ot ≤ 1048576) := Lib.hid (by omega)
 have S4 : Hid (zL tActive qs ≤ 1048576) := Lib.hid (by omega)
 have T4 : Hid (zL tActive qt ≤ 1048576) := Lib.hid (by omega)
 have S5 : Hid (zL tFinished ds ≤ 1048576) := Lib.hid (by omega)
 have T5 : Hid (zL tFinished dt ≤ 1048576) := Lib.hid (by omega)
 have S6 : Hid (zL tCharge ls ≤ 1048576) := Lib.hid (by omega)
 have T6 : Hid (zL tCharge lt ≤ 1048576) := Lib.hid (by omega)
 clear hs ht
 obtain ⟨s1, sc, rfl⟩ := slR_len h0
 obtain ⟨s2, tc, rfl⟩ := slR_len g0
 have H0 := Lib.hid h0; have G0 := Lib.hid g0; have n0 := zL_len S0.out; have m0 := zL_len T0.out
 obtain ⟨o1, oc, rfl⟩ := slR_len h3
 obtain ⟨o2, oc2, rfl⟩ := slR_len g3
 have H3 := Lib.hid h3; have G3 := Lib.hid g3; have n3 := zL_len S3.out; have m3 := zL_len T3.out
 obtain ⟨l1, lc, rfl⟩ := slR_len h4
 obtain ⟨l2, lc2, rfl⟩ := slR_len g4
 have H4 := Lib.hid h4; have G4 := Lib.hid g4; have n4 := zL_len S4.out; have m4 := zL_len T4.out
 obtain ⟨f1, fc, rfl⟩ := slR_len h5
 obtain ⟨f2, fc2, rfl⟩ := slR_len g5
 have H5 := Lib.hid h5; have G5 := Lib.hid g5; have n5 := zL_len S5.out; have m5 := zL_len T5.out
 obtain ⟨k1, kc, rfl⟩ := slR_len h6
 obtain ⟨k2, kc2, rfl⟩ := slR_len g6
 have H6 := Lib.hid h6; have G6 := Lib.hid g6; have n6 := zL_len S6.out; have m6 := zL_len T6.out
 clear h0 h3 h4 h5 h6 g0 g3 g4 g5 g6
 have d := Lib.hid (show Below w.heap.size w ((w.alloc (.cells #[.slice s1 ss.length sc, .int .i64 now, .int .i64 cu, .slice o1 os.length oc, .slice l1 qs.length lc, .slice f1 ds.length fc, .slice k1 ls.length kc, .int .i64 st] 42)).alloc (.cells #[.slice s2 tt.length tc, .int .i64 now2, .int .i64 cu2, .slice o2 ot.length oc2, .slice l2 qt.length lc2, .slice f2 dt.length fc2, .slice k2 lt.length kc2, .int .i64 st2] 42)) from (((Below.refl _ w).alloc (Nat.le_refl _) _).alloc (by simp) _))
 have B0 : Hid (((w.alloc (.cells #[.slice s1 ss.length sc, .int .i64 now, .int .i64 cu, .slice o1 os.length oc, .slice l1 qs.length lc, .slice f1 ds.length fc, .slice k1 ls.length kc, .int .i64 st] 42)).alloc (.cells #[.slice s2 tt.length tc, .int .i64 now2, .int .i64 cu2, .slice o2 ot.length oc2, .slice l2 qt.length lc2, .slice f2 dt.length fc2, .slice k2 lt.length kc2, .int .i64 st2] 42)).heap[w.heap.size]? = some (.cells #[.slice s1 ss.length sc, .int .i64 now, .int .i64 cu, .slice o1 os.length oc, .slice l1 qs.length lc, .slice f1 ds.length fc, .slice k1 ls.length kc, .int .i64 st] 42 (0, 0))) := Lib.hid (by
  rw [Below.heap_alloc _ _ _ (by simp)]
  exact heap_alloc_new w _)
 have B1 : Hid (((w.alloc (.cells #[.slice s1 ss.length sc, .int .i64 now, .int .i64 cu, .slice o1 os.length oc, .slice l1 qs.length lc, .slice f1 ds.length fc, .slice k1 ls.length kc, .int .i64 st] 42)).alloc (.cells #[.slice s2 tt.length tc, .int .i64 now2, .int .i64 cu2, .slice o2 ot.length oc2, .slice l2 qt.length lc2, .slice f2 dt.length fc2, .slice k2 lt.length kc2, .int .i64 st2] 42)).heap[(w.heap.size + 1)]? = some (.cells #[.slice s2 tt.length tc, .int .i64 now2, .int .i64 cu2, .slice o2 ot.length oc2, .slice l2 qt.length lc2, .slice f2 dt.length fc2, .slice k2 lt.length kc2, .int .i64 st2] 42 (0, 0))) := Lib.hid (by
  have := heap_alloc_new (w.alloc (.cells #[.slice s1 ss.length sc, .int .i64 now, .int .i64 cu, .slice o1 os.length oc, .slice l1 qs.length lc, .slice f1 ds.length fc, .slice k1 ls.length kc, .int .i64 st] 42)) (.cells #[.slice s2 tt.length tc, .int .i64 now2, .int .i64 cu2, .slice o2 ot.length oc2, .slice l2 qt.length lc2, .slice f2 dt.length fc2, .slice k2 lt.length kc2, .int .i64 st2] 42)
  simpa only [World.size_alloc] using this)
 have YW : Hid (w.heap.size + 2 ≤ ((w.alloc (.cells #[.slice s1 ss.length sc, .int .i64 now, .int .i64 cu, .slice o1 os.length oc, .slice l1 qs.length lc, .slice f1 ds.length fc, .slice k1 ls.length kc, .int .i64 st] 42)).alloc (.cells #[.slice s2 tt.length tc, .int .i64 now2, .int .i64 cu2, .slice o2 ot.length oc2, .slice l2 qt.length lc2, .slice f2 dt.length fc2, .slice k2 lt.length kc2, .int .i64 st2] 42)).heap.size) := Lib.hid (by simp [World.size_alloc])
 go_enter Try.func25, Try.ntmps25
 go_wp2_with fail
 generalize ((w.alloc (.cells #[.slice s1 ss.length sc, .int .i64 now, .int .i64 cu, .slice o1 os.length oc, .slice l1 qs.length lc, .slice f1 ds.length fc, .slice k1 ls.length kc, .int .i64 st] 42)).alloc (.cells #[.slice s2 tt.length tc, .int .i64 now2, .int .i64 cu2, .slice o2 ot.length oc2, .slice l2 qt.length lc2, .slice f2 dt.length fc2, .slice k2 lt.length kc2, .int .i64 st2] 42)) = W at *
 refine (specEqualStores (.slice s1 ss.length sc) (.slice s2 tt.length tc) ss tt now now2 W (slR_below tVersionS_law H0.out d.out) (slR_below tVersionS_law G0.out d.out) S0.out T0.out).mono ?_
 rintro e W1 ⟨rfl, c⟩
 replace B0 := Lib.hid ((c.block w.heap.size (Array.getElem?_eq_some_iff.1 B0.out).1).trans B0.out)
 replace B1 := Lib.hid ((c.block (w.heap.size + 1) (Array.getElem?_eq_some_iff.1 B1.out).1).trans B1.out)
 replace d := Lib.hid (d.out.trans (c.mono d.out.size))
 have Z_W1 := Lib.hid (show W.heap.size ≤ W1.heap.size from c.size)
 clear c
 rcases Bool.eq_false_or_eq_true (decide (((ss, now) : StoreD) = (tt, now2))) with hy0 | hy0
 rotate_left
 ·
  rw [hy0]
  have HF := Lib.hid (decide_eq_false (show ¬ ((((ss, now), cu, os, qs, ds, ls, st) : EngD) = ((tt, now2), cu2, ot, qt, dt, lt, st2)) from fun g => of_decide_eq_false hy0 (congrArg (fun z : EngD => z.1) g)))
  clear hy0
  obtain ⟨p_B0_0, p_B0_1, p_B0_2, p_B0_3, p_B0_4, p_B0_5, p_B0_6, p_B0_7⟩ := cls8 B0.out
  obtain ⟨p_B1_0, p_B1_1, p_B1_2, p_B1_3, p_B1_4, p_B1_5, p_B1_6, p_B1_7⟩ := cls8 B1.out
  go_wp2
  clear p_B0_0 p_B0_1 p_B0_2 p_B0_3 p_B0_4 p_B0_5 p_B0_6 p_B0_7 p_B1_0 p_B1_1 p_B1_2 p_B1_3 p_B1_4 p_B1_5 p_B1_6 p_B1_7
  go_ret
  exact ⟨ret_b HF.out.symm, d.out⟩
 rw [hy0]
 have HY0 := Lib.hid hy0
 clear hy0
 by_cases hh0 : cu = cu2
 rotate_left
 ·
  have HF := Lib.hid (decide_eq_false (show ¬ ((((ss, now), cu, os, qs, ds, ls, st) : EngD) = ((tt, now2), cu2, ot, qt, dt, lt, st2)) from fun g => hh0 (congrArg (fun z : EngD => z.2.1) g)))
  have f0a : (cu == cu2) = false := by rw [beq_eq_false_iff_ne]; exact hh0
  have f0b : (cu != cu2) = true := by rw [bne_iff_ne]; exact hh0
  clear hh0
  obtain ⟨p_B0_0, p_B0_1, p_B0_2, p_B0_3, p_B0_4, p_B0_5, p_B0_6, p_B0_7⟩ := cls8 B0.out
  obtain ⟨p_B1_0, p_B1_1, p_B1_2, p_B1_3, p_B1_4, p_B1_5, p_B1_6, p_B1_7⟩ := cls8 B1.out
  go_wp2
  clear p_B0_0 p_B0_1 p_B0_2 p_B0_3 p_B0_4 p_B0_5 p_B0_6 p_B0_7 p_B1_0 p_B1_1 p_B1_2 p_B1_3 p_B1_4 p_B1_5 p_B1_6 p_B1_7
  go_ret
  exact ⟨ret_b HF.out.symm, d.out⟩
 have f0a : (cu == cu2) = true := by rw [beq_iff_eq]; exact hh0
 have f0b : (cu != cu2) = false := by rw [bne_eq_false_iff_eq]; exact hh0
 have HH0 := Lib.hid hh0
 clear hh0
 obtain ⟨p_B0_0, p_B0_1, p_B0_2, p_B0_3, p_B0_4, p_B0_5, p_B0_6, p_B0_7⟩ := cls8 B0.out
 obtain ⟨p_B1_0, p_B1_1, p_B1_2, p_B1_3, p_B1_4, p_B1_5, p_B1_6, p_B1_7⟩ := cls8 B1.out
 go_wp2_with fail
 clear p_B0_0 p_B0_1 p_B0_2 p_B0_3 p_B0_4 p_B0_5 p_B0_6 p_B0_7 p_B1_0 p_B1_1 p_B1_2 p_B1_3 p_B1_4 p_B1_5 p_B1_6 p_B1_7 f0a f0b
 refine (specInts (.slice o1 os.length oc) (.slice o2 ot.length oc2) os ot W1 (slR_ints (slR_below tInt_law H3.out d.out)) (slR_ints (slR_below tInt_law G3.out d.out)) n3 m3).mono ?_
 rintro e W2 ⟨rfl, c⟩
 replace B0 := Lib.hid ((c.block w.heap.size (Array.getElem?_eq_some_iff.1 B0.out).1).trans B0.out)
 replace B1 := Lib.hid ((c.block (w.heap.size + 1) (Array.getElem?_eq_some_iff.1 B1.out).1).trans B1.out)
 replace d := Lib.hid (d.out.trans (c.mono d.out.size))
 have Z_W2 := Lib.hid (show W1.heap.size ≤ W2.heap.size from c.size)
 clear c
 rcases Bool.eq_false_or_eq_true (decide (os = ot)) with hh1 | hh1
 rotate_left
 ·
  rw [hh1]
  have HF := Lib.hid (decide_eq_false (show ¬ ((((ss, now), cu, os, qs, ds, ls, st) : EngD) = ((tt, now2), cu2, ot, qt, dt, lt, st2)) from fun g => of_decide_eq_false hh1 (congrArg (fun z : EngD => z.2.2.1) g)))
  clear hh1
  obtain ⟨p_B0_0, p_B0_1, p_B0_2, p_B0_3, p_B0_4, p_B0_5, p_B0_6, p_B0_7⟩ := cls8 B0.out
  obtain ⟨p_B1_0, p_B1_1, p_B1_2, p_B1_3, p_B1_4, p_B1_5, p_B1_6, p_B1_7⟩ := cls8 B1.out
  go_wp2
  clear p_B0_0 p_B0_1 p_B0_2 p_B0_3 p_B0_4 p_B0_5 p_B0_6 p_B0_7 p_B1_0 p_B1_1 p_B1_2 p_B1_3 p_B1_4 p_B1_5 p_B1_6 p_B1_7
  go_ret
  exact ⟨ret_b HF.out.symm, d.out⟩
 rw [hh1]
 have HH1 := Lib.hid hh1
 clear hh1
 by_cases hh2 : qs.length = qt.length
 rotate_left
 ·
  have HF := Lib.hid (decide_eq_false (show ¬ ((((ss, now), cu, os, qs, ds, ls, st) : EngD) = ((tt, now2), cu2, ot, qt, dt, lt, st2)) from fun g => hh2 (by have q := congrArg (fun z : EngD => z.2.2.2.1) g; simp only at q; rw [q])))
  have f2b : ((qs.length : Int) != (qt.length : Int)) = true := by rw [bne_iff_ne]; omega
  clear hh2
  obtain ⟨p_B0_0, p_B0_1, p_B0_2, p_B0_3, p_B0_4, p_B0_5, p_B0_6, p_B0_7⟩ := cls8 B0.out
  obtain ⟨p_B1_0, p_B1_1, p_B1_2, p_B1_3, p_B1_4, p_B1_5, p_B1_6, p_B1_7⟩ := cls8 B1.out
  go_wp2
  clear p_B0_0 p_B0_1 p_B0_2 p_B0_3 p_B0_4 p_B0_5 p_B0_6 p_B0_7 p_B1_0 p_B1_1 p_B1_2 p_B1_3 p_B1_4 p_B1_5 p_B1_6 p_B1_7
  go_ret
  exact ⟨ret_b HF.out.symm, d.out⟩
 have f2b : ((qs.length : Int) != (qt.length : Int)) = false := by rw [bne_eq_false_iff_eq]; omega
 have HH2 := Lib.hid hh2
 clear hh2
 by_cases hh3 : ds.length = dt.length
 rotate_left
 ·
  have HF := Lib.hid (decide_eq_false (show ¬ ((((ss, now), cu, os, qs, ds, ls, st) : EngD) = ((tt, now2), cu2, ot, qt, dt, lt, st2)) from fun g => hh3 (by have q := congrArg (fun z : EngD => z.2.2.2.2.1) g; simp only at q; rw [q])))
  have f3b : ((ds.length : Int) != (dt.length : Int)) = true := by rw [bne_iff_ne]; omega
  clear hh3
  obtain ⟨p_B0_0, p_B0_1, p_B0_2, p_B0_3, p_B0_4, p_B0_5, p_B0_6, p_B0_7⟩ := cls8 B0.out
  obtain ⟨p_B1_0, p_B1_1, p_B1_2, p_B1_3, p_B1_4, p_B1_5, p_B1_6, p_B1_7⟩ := cls8 B1.out
  go_wp2
  clear p_B0_0 p_B0_1 p_B0_2 p_B0_3 p_B0_4 p_B0_5 p_B0_6 p_B0_7 p_B1_0 p_B1_1 p_B1_2 p_B1_3 p_B1_4 p_B1_5 p_B1_6 p_B1_7
  go_ret
  exact ⟨ret_b HF.out.symm, d.out⟩
 have f3b : ((ds.length : Int) != (dt.length : Int)) = false := by rw [bne_eq_false_iff_eq]; omega
 have HH3 := Lib.hid hh3
 clear hh3
 by_cases hh4 : ls.length = lt.length
 rotate_left
 ·
  have HF := Lib.hid (decide_eq_false (show ¬ ((((ss, now), cu, os, qs, ds, ls, st) : EngD) = ((tt, now2), cu2, ot, qt, dt, lt, st2)) from fun g => hh4 (by have q := congrArg (fun z : EngD => z.2.2.2.2.2.1) g; simp only at q; rw [q])))
  have f4b : ((ls.length : Int) != (lt.length : Int)) = true := by rw [bne_iff_ne]; omega
  clear hh4
  obtain ⟨p_B0_0, p_B0_1, p_B0_2, p_B0_3, p_B0_4, p_B0_5, p_B0_6, p_B0_7⟩ := cls8 B0.out
  obtain ⟨p_B1_0, p_B1_1, p_B1_2, p_B1_3, p_B1_4, p_B1_5, p_B1_6, p_B1_7⟩ := cls8 B1.out
  go_wp2
  clear p_B0_0 p_B0_1 p_B0_2 p_B0_3 p_B0_4 p_B0_5 p_B0_6 p_B0_7 p_B1_0 p_B1_1 p_B1_2 p_B1_3 p_B1_4 p_B1_5 p_B1_6 p_B1_7
  go_ret
  exact ⟨ret_b HF.out.symm, d.out⟩
 have f4b : ((ls.length : Int) != (lt.length : Int)) = false := by rw [bne_eq_false_iff_eq]; omega
 have HH4 := Lib.hid hh4
 clear hh4
 by_cases hh5 : st = st2
 rotate_left
 ·
  have HF := Lib.hid (decide_eq_false (show ¬ ((((ss, now), cu, os, qs, ds, ls, st) : EngD) = ((tt, now2), cu2, ot, qt, dt, lt, st2)) from fun g => hh5 (congrArg (fun z : EngD => z.2.2.2.2.2.2) g)))
  have f5a : (st == st2) = false := by rw [beq_eq_false_iff_ne]; exact hh5
  have f5b : (st != st2) = true := by rw [bne_iff_ne]; exact hh5
  clear hh5
  obtain ⟨p_B0_0, p_B0_1, p_B0_2, p_B0_3, p_B0_4, p_B0_5, p_B0_6, p_B0_7⟩ := cls8 B0.out
  obtain ⟨p_B1_0, p_B1_1, p_B1_2, p_B1_3, p_B1_4, p_B1_5, p_B1_6, p_B1_7⟩ := cls8 B1.out
  go_wp2
  clear p_B0_0 p_B0_1 p_B0_2 p_B0_3 p_B0_4 p_B0_5 p_B0_6 p_B0_7 p_B1_0 p_B1_1 p_B1_2 p_B1_3 p_B1_4 p_B1_5 p_B1_6 p_B1_7
  go_ret
  exact ⟨ret_b HF.out.symm, d.out⟩
 have f5a : (st == st2) = true := by rw [beq_iff_eq]; exact hh5
 have f5b : (st != st2) = false := by rw [bne_eq_false_iff_eq]; exact hh5
 have HH5 := Lib.hid hh5
 clear hh5
 obtain ⟨p_B0_0, p_B0_1, p_B0_2, p_B0_3, p_B0_4, p_B0_5, p_B0_6, p_B0_7⟩ := cls8 B0.out
 obtain ⟨p_B1_0, p_B1_1, p_B1_2, p_B1_3, p_B1_4, p_B1_5, p_B1_6, p_B1_7⟩ := cls8 B1.out
 go_wp2
 clear p_B0_0 p_B0_1 p_B0_2 p_B0_3 p_B0_4 p_B0_5 p_B0_6 p_B0_7 p_B1_0 p_B1_1 p_B1_2 p_B1_3 p_B1_4 p_B1_5 p_B1_6 p_B1_7
 clear f2b f3b f4b f5a f5b
 go_loopw [5] (fun i wr => ∃ k : Nat, k ≤ qs.length ∧ i = .int .i64 k ∧ Hid (∀ j, j < k → qs.getD j a0D = qt.getD j a0D) ∧ Below W2.heap.size W2 wr) (fun i _ => qs.length - (intOf i).toNat)
 case atStart => exact ⟨0, Nat.zero_le _, rfl, Lib.hid (fun j hj => absurd hj (Nat.not_lt_zero j)), Below.refl _ _⟩
 case round =>
  obtain ⟨k, hk, rfl, hno, c⟩ := hrel
  have cw := Lib.hid c
  replace B0 := Lib.hid ((c.block w.heap.size (Array.getElem?_eq_some_iff.1 B0.out).1).trans B0.out)
  replace d := Lib.hid (d.out.trans (c.mono d.out.size))
  clear c
  replace B1 := Lib.hid ((cw.out.block (w.heap.size + 1) (Array.getElem?_eq_some_iff.1 B1.out).1).trans B1.out)
  by_cases hlt : k < qs.length
  ·
   have hlt2 : k < qt.length := by have := HH2.out; omega
   have i1 : (0 : Int) ≤ (k : Int) := by omega
   have i2 : (k : Int) < (qs.length : Int) := by omega
   have i3 : (k : Int) < (qt.length : Int) := by omega
   have hz := zL_at S4.out hlt
   have hz2 := zL_at T4.out hlt2
   change tActive.sz (qs.getD k a0D) ≤ 1048576 at hz
   change tActive.sz (qt.getD k a0D) ≤ 1048576 at hz2
   obtain ⟨b, off, cap', p2, c2, p3, c3, p5, c5, p9, c9, hv, hbl, q0, q1, q2, q3, q4, q5, q6, q7, q8, q9, sx2, sx3, sx5, sx9⟩ := act_at H4.out hlt
   simp only [Value.slice.injEq] at hv
   obtain ⟨rfl, _, rfl⟩ := hv
   obtain ⟨b2, off2, cap2, r2, e2, r3, e3, r5, e5, r9, e9, hv, hbl2, z0, z1, z2, z3, z4, z5, z6, z7, z8, z9, sy2, sy3, sy5, sy9⟩ := act_at G4.out hlt2
   simp only [Value.slice.injEq] at hv
   obtain ⟨rfl, _, rfl⟩ := hv
   have HST : Hid (decide (qs.getD k a0D = qt.getD k a0D) = true → ∀ j, j < k + 1 → qs.getD j a0D = qt.getD j a0D) := Lib.hid (fun g j hj => by
    by_cases e : j = k
    ·
     rw [e]; exact of_decide_eq_true g
    ·
     exact hno.out j (by omega))
   have HNO : Hid (decide (qs.getD k a0D = qt.getD k a0D) = false → ¬ qs = qt) := Lib.hid (fun g => list_neq a0D (of_decide_eq_false g))
   generalize qs.getD k a0D = x at *
   generalize qt.getD k a0D = y at *
   obtain ⟨⟨a0, a1, x2, x3⟩, a4, x5, a6, a7, a8, x9⟩ := x
   obtain ⟨⟨b0, b1, y2, y3⟩, b4, y5, b6, b7, b8, y9⟩ := y
   rw [tActive_sz] at hz hz2
   dsimp only at *
   have BL := Lib.hid hbl; have BL2 := Lib.hid hbl2
   have X0 := Lib.hid q0; have Y0 := Lib.hid z0
   have X1 := Lib.hid q1; have Y1 := Lib.hid z1
   have X2 := Lib.hid q2; have Y2 := Lib.hid z2
   have X3 := Lib.hid q3; have Y3 := Lib.hid z3
   have X4 := Lib.hid q4; have Y4 := Lib.hid z4
   have X5 := Lib.hid q5; have Y5 := Lib.hid z5
   have X6 := Lib.hid q6; have Y6 := Lib.hid z6
   have X7 := Lib.hid q7; have Y7 := Lib.hid z7
   have X8 := Lib.hid q8; have Y8 := Lib.hid z8
   have X9 := Lib.hid q9; have Y9 := Lib.hid z9
   have HC := Lib.hid (fun W k2 k3 k5 k9 j2 j3 j5 j9 => specActiveEq a0 a1 a4 a6 a7 a8 b0 b1 b4 b6 b7 b8 (.slice p2 x2.length c2) (.slice p3 x3.length c3) (.slice p5 x5.length c5) (.slice p9 x9.length c9) (.slice r2 y2.length e2) (.slice r3 y3.length e3) (.slice r5 y5.length e5) (.slice r9 y9.length e9) x2 y2 x3 y3 x5 y5 x9 y9 W k2 k3 k5 k9 j2 j3 j5 j9 (by omega) (by omega) (by omega) (by omega) (by omega) (by omega) (by omega) (by omega))
   have U2 := Lib.hid sx2; have V2 := Lib.hid sy2
   have U3 := Lib.hid sx3; have V3 := Lib.hid sy3
   have U5 := Lib.hid sx5; have V5 := Lib.hid sy5
   have U9 := Lib.hid sx9; have V9 := Lib.hid sy9
   clear sx2 sy2 sx3 sy3 sx5 sy5 sx9 sy9 q0 z0 q1 z1 q2 z2 q3 z3 q4 z4 q5 z5 q6 z6 q7 z7 q8 z8 q9 z9 hz hz2 hbl hbl2 hno hlt hlt2
   obtain ⟨bv, hbv⟩ : ∃ bv, bv = decide ((((a0, a1, x2, x3), a4, x5, a6, a7, a8, x9) : ActD) = ((b0, b1, y2, y3), b4, y5, b6, b7, b8, y9)) := ⟨_, rfl⟩
   rw [← hbv] at HST HNO
   have HBV := Lib.hid hbv
   clear hbv
   obtain ⟨p_B0_0, p_B0_1, p_B0_2, p_B0_3, p_B0_4, p_B0_5, p_B0_6, p_B0_7⟩ := cls8 B0.out
   obtain ⟨p_B1_0, p_B1_1, p_B1_2, p_B1_3, p_B1_4, p_B1_5, p_B1_6, p_B1_7⟩ := cls8 B1.out
   go_wp2
   clear p_B0_0 p_B0_1 p_B0_2 p_B0_3 p_B0_4 p_B0_5 p_B0_6 p_B0_7 p_B1_0 p_B1_1 p_B1_2 p_B1_3 p_B1_4 p_B1_5 p_B1_6 p_B1_7
   cases bv with
   | true =>
    have HA := Lib.hid (HST.out rfl)
    clear HST HNO
    obtain ⟨p_B0_0, p_B0_1, p_B0_2, p_B0_3, p_B0_4, p_B0_5, p_B0_6, p_B0_7⟩ := cls8 B0.out
    obtain ⟨p_B1_0, p_B1_1, p_B1_2, p_B1_3, p_B1_4, p_B1_5, p_B1_6, p_B1_7⟩ := cls8 B1.out
    have p_X0 := (d.out.cell (p := ⟨b, off + k * 10, none⟩) BL.out).trans X0.out
    have p_X1 := (d.out.cell (p := ⟨b, off + k * 10 + 1, none⟩) BL.out).trans X1.out
    have p_X2 := (d.out.cell (p := ⟨b, off + k * 10 + 2, none⟩) BL.out).trans X2.out
    have p_X3 := (d.out.cell (p := ⟨b, off + k * 10 + 3, none⟩) BL.out).trans X3.out
    have p_X4 := (d.out.cell (p := ⟨b, off + k * 10 + 4, none⟩) BL.out).trans X4.out
    have p_X5 := (d.out.cell (p := ⟨b, off + k * 10 + 5, none⟩) BL.out).trans X5.out
    have p_X6 := (d.out.cell (p := ⟨b, off + k * 10 + 6, none⟩) BL.out).trans X6.out
    have p_X7 := (d.out.cell (p := ⟨b, off + k * 10 + 7, none⟩) BL.out).trans X7.out
    have p_X8 := (d.out.cell (p := ⟨b, off + k * 10 + 8, none⟩) BL.out).trans X8.out
    have p_X9 := (d.out.cell (p := ⟨b, off + k * 10 + 9, none⟩) BL.out).trans X9.out
    have p_Y0 := (d.out.cell (p := ⟨b2, off2 + k * 10, none⟩) BL2.out).trans Y0.out
    have p_Y1 := (d.out.cell (p := ⟨b2, off2 + k * 10 + 1, none⟩) BL2.out).trans Y1.out
    have p_Y2 := (d.out.cell (p := ⟨b2, off2 + k * 10 + 2, none⟩) BL2.out).trans Y2.out
    have p_Y3 := (d.out.cell (p := ⟨b2, off2 + k * 10 + 3, none⟩) BL2.out).trans Y3.out
    have p_Y4 := (d.out.cell (p := ⟨b2, off2 + k * 10 + 4, none⟩) BL2.out).trans Y4.out
    have p_Y5 := (d.out.cell (p := ⟨b2, off2 + k * 10 + 5, none⟩) BL2.out).trans Y5.out
    have p_Y6 := (d.out.cell (p := ⟨b2, off2 + k * 10 + 6, none⟩) BL2.out).trans Y6.out
    have p_Y7 := (d.out.cell (p := ⟨b2, off2 + k * 10 + 7, none⟩) BL2.out).trans Y7.out
    have p_Y8 := (d.out.cell (p := ⟨b2, off2 + k * 10 + 8, none⟩) BL2.out).trans Y8.out
    have p_Y9 := (d.out.cell (p := ⟨b2, off2 + k * 10 + 9, none⟩) BL2.out).trans Y9.out
    refine wp_region_held_drew (S := fun w' => w'.cell? ⟨w.heap.size, 0, none⟩ = some (Value.slice s1 ss.length sc) ∧ w'.cell? ⟨w.heap.size, 1, none⟩ = some (Value.int .i64 now) ∧ w'.cell? ⟨w.heap.size, 2, none⟩ = some (Value.int .i64 cu) ∧ w'.cell? ⟨w.heap.size, 3, none⟩ = some (Value.slice o1 os.length oc) ∧ w'.cell? ⟨w.heap.size, 4, none⟩ = some (Value.slice (some ⟨b, off, none⟩) qs.length lc) ∧ w'.cell? ⟨w.heap.size, 5, none⟩ = some (Value.slice f1 ds.length fc) ∧ w'.cell? ⟨w.heap.size, 6, none⟩ = some (Value.slice k1 ls.length kc) ∧ w'.cell? ⟨w.heap.size, 7, none⟩ = some (Value.int .i64 st) ∧ w'.cell? ⟨(w.heap.size + 1), 0, none⟩ = some (Value.slice s2 tt.length tc) ∧ w'.cell? ⟨(w.heap.size + 1), 1, none⟩ = some (Value.int .i64 now2) ∧ w'.cell? ⟨(w.heap.size + 1), 2, none⟩ = some (Value.int .i64 cu2) ∧ w'.cell? ⟨(w.heap.size + 1), 3, none⟩ = some (Value.slice o2 ot.length oc2) ∧ w'.cell? ⟨(w.heap.size + 1), 4, none⟩ = some (Value.slice (some ⟨b2, off2, none⟩) qt.length lc2) ∧ w'.cell? ⟨(w.heap.size + 1), 5, none⟩ = some (Value.slice f2 dt.length fc2) ∧ w'.cell? ⟨(w.heap.size + 1), 6, none⟩ = some (Value.slice k2 lt.length kc2) ∧ w'.cell? ⟨(w.heap.size + 1), 7, none⟩ = some (Value.int .i64 st2) ∧ w'.cell? ⟨b, off + k * 10, none⟩ = some (Value.int .i64 a0) ∧ w'.cell? ⟨b, off + k * 10 + 1, none⟩ = some (Value.int .i64 a1) ∧ w'.cell? ⟨b, off + k * 10 + 2, none⟩ = some (Value.slice p2 x2.length c2) ∧ w'.cell? ⟨b, off + k * 10 + 3, none⟩ = some (Value.slice p3 x3.length c3) ∧ w'.cell? ⟨b, off + k * 10 + 4, none⟩ = some (Value.int .i64 a4) ∧ w'.cell? ⟨b, off + k * 10 + 5, none⟩ = some (Value.slice p5 x5.length c5) ∧ w'.cell? ⟨b, off + k * 10 + 6, none⟩ = some (Value.int .i64 a6) ∧ w'.cell? ⟨b, off + k * 10 + 7, none⟩ = some (Value.int .i64 a7) ∧ w'.cell? ⟨b, off + k * 10 + 8, none⟩ = some (Value.int .i64 a8) ∧ w'.cell? ⟨b, off + k * 10 + 9, none⟩ = some (Value.slice p9 x9.length c9) ∧ w'.cell? ⟨b2, off2 + k * 10, none⟩ = some (Value.int .i64 b0) ∧ w'.cell? ⟨b2, off2 + k * 10 + 1, none⟩ = some (Value.int .i64 b1) ∧ w'.cell? ⟨b2, off2 + k * 10 + 2, none⟩ = some (Value.slice r2 y2.length e2) ∧ w'.cell? ⟨b2, off2 + k * 10 + 3, none⟩ = some (Value.slice r3 y3.length e3) ∧ w'.cell? ⟨b2, off2 + k * 10 + 4, none⟩ = some (Value.int .i64 b4) ∧ w'.cell? ⟨b2, off2 + k * 10 + 5, none⟩ = some (Value.slice r5 y5.length e5) ∧ w'.cell? ⟨b2, off2 + k * 10 + 6, none⟩ = some (Value.int .i64 b6) ∧ w'.cell? ⟨b2, off2 + k * 10 + 7, none⟩ = some (Value.int .i64 b7) ∧ w'.cell? ⟨b2, off2 + k * 10 + 8, none⟩ = some (Value.int .i64 b8) ∧ w'.cell? ⟨b2, off2 + k * 10 + 9, none⟩ = some (Value.slice r9 y9.length e9)) (by kernel_rfl) ⟨p_B0_0, p_B0_1, p_B0_2, p_B0_3, p_B0_4, p_B0_5, p_B0_6, p_B0_7, p_B1_0, p_B1_1, p_B1_2, p_B1_3, p_B1_4, p_B1_5, p_B1_6, p_B1_7, p_X0, p_X1, p_X2, p_X3, p_X4, p_X5, p_X6, p_X7, p_X8, p_X9, p_Y0, p_Y1, p_Y2, p_Y3, p_Y4, p_Y5, p_Y6, p_Y7, p_Y8, p_Y9⟩ (fun hHeld => ?_)
    clear p_B0_0 p_B0_1 p_B0_2 p_B0_3 p_B0_4 p_B0_5 p_B0_6 p_B0_7 p_B1_0 p_B1_1 p_B1_2 p_B1_3 p_B1_4 p_B1_5 p_B1_6 p_B1_7 p_X0 p_X1 p_X2 p_X3 p_X4 p_X5 p_X6 p_X7 p_X8 p_X9 p_Y0 p_Y1 p_Y2 p_Y3 p_Y4 p_Y5 p_Y6 p_Y7 p_Y8 p_Y9
    have cdr : Below wr.heap.size wr wr.drew := below_drew (Below.refl _ _)
    replace B0 := Lib.hid ((cdr.block w.heap.size (Array.getElem?_eq_some_iff.1 B0.out).1).trans B0.out)
    replace B1 := Lib.hid ((cdr.block (w.heap.size + 1) (Array.getElem?_eq_some_iff.1 B1.out).1).trans B1.out)
    replace d := Lib.hid (d.out.trans (cdr.mono d.out.size))
    clear cdr
    refine tR (i := 0) (v := ?_) ?_ ?_; rotate_left
    ·
     intro w hSw; (try dsimp only at hSw); go_simp; try (with_reducible rfl)
    try simp only [Act.put, lA, lB, lC]
    refine tR (i := 1) (v := ?_) ?_ ?_; rotate_left
    ·
     intro w hSw; (try dsimp only at hSw); go_simp; try (with_reducible rfl)
    try simp only [Act.put, lA, lB, lC]
    refine tR (i := 2) (v := ?_) ?_ ?_; rotate_left
    ·
     intro w hSw; (try dsimp only at hSw); go_simp; try (with_reducible rfl)
    try simp only [Act.put, lA, lB, lC]
    refine tR (i := 3) (v := ?_) ?_ ?_; rotate_left
    ·
     intro w hSw; (try dsimp only at hSw); go_simp; try (with_reducible rfl)
    try simp only [Act.put, lA, lB, lC]
    refine tR (i := 4) (v := ?_) ?_ ?_; rotate_left
    ·
     intro w hSw; (try dsimp only at hSw); go_simp; try (with_reducible rfl)
    try simp only [Act.put, lA, lB, lC]
    refine tR (i := 5) (v := ?_) ?_ ?_; rotate_left
    ·
     intro w hSw; (try dsimp only at hSw); go_simp; try (with_reducible rfl)
    try simp only [Act.put, lA, lB, lC]
    refine tR (i := 6) (v := ?_) ?_ ?_; rotate_left
    ·
     intro w hSw; (try dsimp only at hSw); go_simp; try (with_reducible rfl)
    try simp only [Act.put, lA, lB, lC]
    refine tR (i := 7) (v := ?_) ?_ ?_; rotate_left
    ·
     intro w hSw; (try dsimp only at hSw); go_simp; try (with_reducible rfl)
    try simp only [Act.put, lA, lB, lC]
    refine tR (i := 8) (v := ?_) ?_ ?_; rotate_left
    ·
     intro w hSw; (try dsimp only at hSw); go_simp; try (with_reducible rfl)
    try simp only [Act.put, lA, lB, lC]
    refine tR (i := 9) (v := ?_) ?_ ?_; rotate_left
    ·
     intro w hSw; (try dsimp only at hSw); go_simp; try (with_reducible rfl)
    try simp only [Act.put, lA, lB, lC]
    refine wpAnyH_ready (rs := [10]) (by kernel_rfl) (by simp) ?_
    refine (AllReadyH.cons (o := _) (by simp only [hA, hB, hC]; rfl) (fun K hK => ?_) AllReadyH.nil)
    go_simp
    refine (HC.out (wr.drew) (slR_below tCond_law U2.out d.out) (slR_below tInt_law U3.out d.out) (slR_below tInt_law U5.out d.out) (slR_below tRow_law U9.out d.out) (slR_below tCond_law V2.out d.out) (slR_below tInt_law V3.out d.out) (slR_below tInt_law V5.out d.out) (slR_below tRow_law V9.out d.out)).mono ?_
    rintro e w5 ⟨rfl, c5⟩
    rw [← HBV.out]
    have d2 := Lib.hid (show Below wr.heap.size wr w5 from (below_drew (Below.refl wr.heap.size wr)).trans c5)
    replace B0 := Lib.hid ((c5.block w.heap.size (Array.getElem?_eq_some_iff.1 B0.out).1).trans B0.out)
    replace B1 := Lib.hid ((c5.block (w.heap.size + 1) (Array.getElem?_eq_some_iff.1 B1.out).1).trans B1.out)
    replace d := Lib.hid (d.out.trans (c5.mono d.out.size))
    clear c5
    obtain ⟨p_B0_0, p_B0_1, p_B0_2, p_B0_3, p_B0_4, p_B0_5, p_B0_6, p_B0_7⟩ := cls8 B0.out
    obtain ⟨p_B1_0, p_B1_1, p_B1_2, p_B1_3, p_B1_4, p_B1_5, p_B1_6, p_B1_7⟩ := cls8 B1.out
    have p_X0 := (d.out.cell (p := ⟨b, off + k * 10, none⟩) BL.out).trans X0.out
    have p_X1 := (d.out.cell (p := ⟨b, off + k * 10 + 1, none⟩) BL.out).trans X1.out
    have p_X2 := (d.out.cell (p := ⟨b, off + k * 10 + 2, none⟩) BL.out).trans X2.out
    have p_X3 := (d.out.cell (p := ⟨b, off + k * 10 + 3, none⟩) BL.out).trans X3.out
    have p_X4 := (d.out.cell (p := ⟨b, off + k * 10 + 4, none⟩) BL.out).trans X4.out
    have p_X5 := (d.out.cell (p := ⟨b, off + k * 10 + 5, none⟩) BL.out).trans X5.out
    have p_X6 := (d.out.cell (p := ⟨b, off + k * 10 + 6, none⟩) BL.out).trans X6.out
    have p_X7 := (d.out.cell (p := ⟨b, off + k * 10 + 7, none⟩) BL.out).trans X7.out
    have p_X8 := (d.out.cell (p := ⟨b, off + k * 10 + 8, none⟩) BL.out).trans X8.out
    have p_X9 := (d.out.cell (p := ⟨b, off + k * 10 + 9, none⟩) BL.out).trans X9.out
    have p_Y0 := (d.out.cell (p := ⟨b2, off2 + k * 10, none⟩) BL2.out).trans Y0.out
    have p_Y1 := (d.out.cell (p := ⟨b2, off2 + k * 10 + 1, none⟩) BL2.out).trans Y1.out
    have p_Y2 := (d.out.cell (p := ⟨b2, off2 + k * 10 + 2, none⟩) BL2.out).trans Y2.out
    have p_Y3 := (d.out.cell (p := ⟨b2, off2 + k * 10 + 3, none⟩) BL2.out).trans Y3.out
    have p_Y4 := (d.out.cell (p := ⟨b2, off2 + k * 10 + 4, none⟩) BL2.out).trans Y4.out
    have p_Y5 := (d.out.cell (p := ⟨b2, off2 + k * 10 + 5, none⟩) BL2.out).trans Y5.out
    have p_Y6 := (d.out.cell (p := ⟨b2, off2 + k * 10 + 6, none⟩) BL2.out).trans Y6.out
    have p_Y7 := (d.out.cell (p := ⟨b2, off2 + k * 10 + 7, none⟩) BL2.out).trans Y7.out
    have p_Y8 := (d.out.cell (p := ⟨b2, off2 + k * 10 + 8, none⟩) BL2.out).trans Y8.out
    have p_Y9 := (d.out.cell (p := ⟨b2, off2 + k * 10 + 9, none⟩) BL2.out).trans Y9.out
    refine hK.out _ _ ⟨p_B0_0, p_B0_1, p_B0_2, p_B0_3, p_B0_4, p_B0_5, p_B0_6, p_B0_7, p_B1_0, p_B1_1, p_B1_2, p_B1_3, p_B1_4, p_B1_5, p_B1_6, p_B1_7, p_X0, p_X1, p_X2, p_X3, p_X4, p_X5, p_X6, p_X7, p_X8, p_X9, p_Y0, p_Y1, p_Y2, p_Y3, p_Y4, p_Y5, p_Y6, p_Y7, p_Y8, p_Y9⟩ (fun hHeld => ?_)
    clear p_B0_0 p_B0_1 p_B0_2 p_B0_3 p_B0_4 p_B0_5 p_B0_6 p_B0_7 p_B1_0 p_B1_1 p_B1_2 p_B1_3 p_B1_4 p_B1_5 p_B1_6 p_B1_7 p_X0 p_X1 p_X2 p_X3 p_X4 p_X5 p_X6 p_X7 p_X8 p_X9 p_Y0 p_Y1 p_Y2 p_Y3 p_Y4 p_Y5 p_Y6 p_Y7 p_Y8 p_Y9
    clear hK K
    try simp only [Act.put, lA, lB, lC]
    refine tR (i := 11) (v := ?_) ?_ ?_; rotate_left
    ·
     intro w hSw; (try dsimp only at hSw); go_simp; try (with_reducible rfl)
    try simp only [Act.put, lA, lB, lC]
    refine wpAnyH_done (by kernel_rfl) ?_ _
    clear hHeld
    go_wp2
    go_roundw
    case rel => exact ⟨k + 1, by omega, by go_num, HA, cw.out.trans (d2.out.mono cw.out.size)⟩
    case measure => simp [intOf]; omega
   | false =>
    have HF : Hid (decide ((((ss, now), cu, os, qs, ds, ls, st) : EngD) = ((tt, now2), cu2, ot, qt, dt, lt, st2)) = false) := Lib.hid (decide_eq_false (show ¬ ((((ss, now), cu, os, qs, ds, ls, st) : EngD) = ((tt, now2), cu2, ot, qt, dt, lt, st2)) from fun g => HNO.out rfl (congrArg (fun z : EngD => z.2.2.2.1) g)))
    clear HST HNO
    obtain ⟨p_B0_0, p_B0_1, p_B0_2, p_B0_3, p_B0_4, p_B0_5, p_B0_6, p_B0_7⟩ := cls8 B0.out
    obtain ⟨p_B1_0, p_B1_1, p_B1_2, p_B1_3, p_B1_4, p_B1_5, p_B1_6, p_B1_7⟩ := cls8 B1.out
    have p_X0 := (d.out.cell (p := ⟨b, off + k * 10, none⟩) BL.out).trans X0.out
    have p_X1 := (d.out.cell (p := ⟨b, off + k * 10 + 1, none⟩) BL.out).trans X1.out
    have p_X2 := (d.out.cell (p := ⟨b, off + k * 10 + 2, none⟩) BL.out).trans X2.out
    have p_X3 := (d.out.cell (p := ⟨b, off + k * 10 + 3, none⟩) BL.out).trans X3.out
    have p_X4 := (d.out.cell (p := ⟨b, off + k * 10 + 4, none⟩) BL.out).trans X4.out
    have p_X5 := (d.out.cell (p := ⟨b, off + k * 10 + 5, none⟩) BL.out).trans X5.out
    have p_X6 := (d.out.cell (p := ⟨b, off + k * 10 + 6, none⟩) BL.out).trans X6.out
    have p_X7 := (d.out.cell (p := ⟨b, off + k * 10 + 7, none⟩) BL.out).trans X7.out
    have p_X8 := (d.out.cell (p := ⟨b, off + k * 10 + 8, none⟩) BL.out).trans X8.out
    have p_X9 := (d.out.cell (p := ⟨b, off + k * 10 + 9, none⟩) BL.out).trans X9.out
    have p_Y0 := (d.out.cell (p := ⟨b2, off2 + k * 10, none⟩) BL2.out).trans Y0.out
    have p_Y1 := (d.out.cell (p := ⟨b2, off2 + k * 10 + 1, none⟩) BL2.out).trans Y1.out
    have p_Y2 := (d.out.cell (p := ⟨b2, off2 + k * 10 + 2, none⟩) BL2.out).trans Y2.out
    have p_Y3 := (d.out.cell (p := ⟨b2, off2 + k * 10 + 3, none⟩) BL2.out).trans Y3.out
    have p_Y4 := (d.out.cell (p := ⟨b2, off2 + k * 10 + 4, none⟩) BL2.out).trans Y4.out
    have p_Y5 := (d.out.cell (p := ⟨b2, off2 + k * 10 + 5, none⟩) BL2.out).trans Y5.out
    have p_Y6 := (d.out.cell (p := ⟨b2, off2 + k * 10 + 6, none⟩) BL2.out).trans Y6.out
    have p_Y7 := (d.out.cell (p := ⟨b2, off2 + k * 10 + 7, none⟩) BL2.out).trans Y7.out
    have p_Y8 := (d.out.cell (p := ⟨b2, off2 + k * 10 + 8, none⟩) BL2.out).trans Y8.out
    have p_Y9 := (d.out.cell (p := ⟨b2, off2 + k * 10 + 9, none⟩) BL2.out).trans Y9.out
    refine wp_region_held_drew (S := fun w' => w'.cell? ⟨w.heap.size, 0, none⟩ = some (Value.slice s1 ss.length sc) ∧ w'.cell? ⟨w.heap.size, 1, none⟩ = some (Value.int .i64 now) ∧ w'.cell? ⟨w.heap.size, 2, none⟩ = some (Value.int .i64 cu) ∧ w'.cell? ⟨w.heap.size, 3, none⟩ = some (Value.slice o1 os.length oc) ∧ w'.cell? ⟨w.heap.size, 4, none⟩ = some (Value.slice (some ⟨b, off, none⟩) qs.length lc) ∧ w'.cell? ⟨w.heap.size, 5, none⟩ = some (Value.slice f1 ds.length fc) ∧ w'.cell? ⟨w.heap.size, 6, none⟩ = some (Value.slice k1 ls.length kc) ∧ w'.cell? ⟨w.heap.size, 7, none⟩ = some (Value.int .i64 st) ∧ w'.cell? ⟨(w.heap.size + 1), 0, none⟩ = some (Value.slice s2 tt.length tc) ∧ w'.cell? ⟨(w.heap.size + 1), 1, none⟩ = some (Value.int .i64 now2) ∧ w'.cell? ⟨(w.heap.size + 1), 2, none⟩ = some (Value.int .i64 cu2) ∧ w'.cell? ⟨(w.heap.size + 1), 3, none⟩ = some (Value.slice o2 ot.length oc2) ∧ w'.cell? ⟨(w.heap.size + 1), 4, none⟩ = some (Value.slice (some ⟨b2, off2, none⟩) qt.length lc2) ∧ w'.cell? ⟨(w.heap.size + 1), 5, none⟩ = some (Value.slice f2 dt.length fc2) ∧ w'.cell? ⟨(w.heap.size + 1), 6, none⟩ = some (Value.slice k2 lt.length kc2) ∧ w'.cell? ⟨(w.heap.size + 1), 7, none⟩ = some (Value.int .i64 st2) ∧ w'.cell? ⟨b, off + k * 10, none⟩ = some (Value.int .i64 a0) ∧ w'.cell? ⟨b, off + k * 10 + 1, none⟩ = some (Value.int .i64 a1) ∧ w'.cell? ⟨b, off + k * 10 + 2, none⟩ = some (Value.slice p2 x2.length c2) ∧ w'.cell? ⟨b, off + k * 10 + 3, none⟩ = some (Value.slice p3 x3.length c3) ∧ w'.cell? ⟨b, off + k * 10 + 4, none⟩ = some (Value.int .i64 a4) ∧ w'.cell? ⟨b, off + k * 10 + 5, none⟩ = some (Value.slice p5 x5.length c5) ∧ w'.cell? ⟨b, off + k * 10 + 6, none⟩ = some (Value.int .i64 a6) ∧ w'.cell? ⟨b, off + k * 10 + 7, none⟩ = some (Value.int .i64 a7) ∧ w'.cell? ⟨b, off + k * 10 + 8, none⟩ = some (Value.int .i64 a8) ∧ w'.cell? ⟨b, off + k * 10 + 9, none⟩ = some (Value.slice p9 x9.length c9) ∧ w'.cell? ⟨b2, off2 + k * 10, none⟩ = some (Value.int .i64 b0) ∧ w'.cell? ⟨b2, off2 + k * 10 + 1, none⟩ = some (Value.int .i64 b1) ∧ w'.cell? ⟨b2, off2 + k * 10 + 2, none⟩ = some (Value.slice r2 y2.length e2) ∧ w'.cell? ⟨b2, off2 + k * 10 + 3, none⟩ = some (Value.slice r3 y3.length e3) ∧ w'.cell? ⟨b2, off2 + k * 10 + 4, none⟩ = some (Value.int .i64 b4) ∧ w'.cell? ⟨b2, off2 + k * 10 + 5, none⟩ = some (Value.slice r5 y5.length e5) ∧ w'.cell? ⟨b2, off2 + k * 10 + 6, none⟩ = some (Value.int .i64 b6) ∧ w'.cell? ⟨b2, off2 + k * 10 + 7, none⟩ = some (Value.int .i64 b7) ∧ w'.cell? ⟨b2, off2 + k * 10 + 8, none⟩ = some (Value.int .i64 b8) ∧ w'.cell? ⟨b2, off2 + k * 10 + 9, none⟩ = some (Value.slice r9 y9.length e9)) (by kernel_rfl) ⟨p_B0_0, p_B0_1, p_B0_2, p_B0_3, p_B0_4, p_B0_5, p_B0_6, p_B0_7, p_B1_0, p_B1_1, p_B1_2, p_B1_3, p_B1_4, p_B1_5, p_B1_6, p_B1_7, p_X0, p_X1, p_X2, p_X3, p_X4, p_X5, p_X6, p_X7, p_X8, p_X9, p_Y0, p_Y1, p_Y2, p_Y3, p_Y4, p_Y5, p_Y6, p_Y7, p_Y8, p_Y9⟩ (fun hHeld => ?_)
    clear p_B0_0 p_B0_1 p_B0_2 p_B0_3 p_B0_4 p_B0_5 p_B0_6 p_B0_7 p_B1_0 p_B1_1 p_B1_2 p_B1_3 p_B1_4 p_B1_5 p_B1_6 p_B1_7 p_X0 p_X1 p_X2 p_X3 p_X4 p_X5 p_X6 p_X7 p_X8 p_X9 p_Y0 p_Y1 p_Y2 p_Y3 p_Y4 p_Y5 p_Y6 p_Y7 p_Y8 p_Y9
    have cdr : Below wr.heap.size wr wr.drew := below_drew (Below.refl _ _)
    replace B0 := Lib.hid ((cdr.block w.heap.size (Array.getElem?_eq_some_iff.1 B0.out).1).trans B0.out)
    replace B1 := Lib.hid ((cdr.block (w.heap.size + 1) (Array.getElem?_eq_some_iff.1 B1.out).1).trans B1.out)
    replace d := Lib.hid (d.out.trans (cdr.mono d.out.size))
    clear cdr
    refine tR (i := 0) (v := ?_) ?_ ?_; rotate_left
    ·
     intro w hSw; (try dsimp only at hSw); go_simp; try (with_reducible rfl)
    try simp only [Act.put, lA, lB, lC]
    refine tR (i := 1) (v := ?_) ?_ ?_; rotate_left
    ·
     intro w hSw; (try dsimp only at hSw); go_simp; try (with_reducible rfl)
    try simp only [Act.put, lA, lB, lC]
    refine tR (i := 2) (v := ?_) ?_ ?_; rotate_left
    ·
     intro w hSw; (try dsimp only at hSw); go_simp; try (with_reducible rfl)
    try simp only [Act.put, lA, lB, lC]
    refine tR (i := 3) (v := ?_) ?_ ?_; rotate_left
    ·
     intro w hSw; (try dsimp only at hSw); go_simp; try (with_reducible rfl)
    try simp only [Act.put, lA, lB, lC]
    refine tR (i := 4) (v := ?_) ?_ ?_; rotate_left
    ·
     intro w hSw; (try dsimp only at hSw); go_simp; try (with_reducible rfl)
    try simp only [Act.put, lA, lB, lC]
    refine tR (i := 5) (v := ?_) ?_ ?_; rotate_left
    ·
     intro w hSw; (try dsimp only at hSw); go_simp; try (with_reducible rfl)
    try simp only [Act.put, lA, lB, lC]
    refine tR (i := 6) (v := ?_) ?_ ?_; rotate_left
    ·
     intro w hSw; (try dsimp only at hSw); go_simp; try (with_reducible rfl)
    try simp only [Act.put, lA, lB, lC]
    refine tR (i := 7) (v := ?_) ?_ ?_; rotate_left
    ·
     intro w hSw; (try dsimp only at hSw); go_simp; try (with_reducible rfl)
    try simp only [Act.put, lA, lB, lC]
    refine tR (i := 8) (v := ?_) ?_ ?_; rotate_left
    ·
     intro w hSw; (try dsimp only at hSw); go_simp; try (with_reducible rfl)
    try simp only [Act.put, lA, lB, lC]
    refine tR (i := 9) (v := ?_) ?_ ?_; rotate_left
    ·
     intro w hSw; (try dsimp only at hSw); go_simp; try (with_reducible rfl)
    try simp only [Act.put, lA, lB, lC]
    refine wpAnyH_ready (rs := [10]) (by kernel_rfl) (by simp) ?_
    refine (AllReadyH.cons (o := _) (by simp only [hA, hB, hC]; rfl) (fun K hK => ?_) AllReadyH.nil)
    go_simp
    refine (HC.out (wr.drew) (slR_below tCond_law U2.out d.out) (slR_below tInt_law U3.out d.out) (slR_below tInt_law U5.out d.out) (slR_below tRow_law U9.out d.out) (slR_below tCond_law V2.out d.out) (slR_below tInt_law V3.out d.out) (slR_below tInt_law V5.out d.out) (slR_below tRow_law V9.out d.out)).mono ?_
    rintro e w5 ⟨rfl, c5⟩
    rw [← HBV.out]
    have d2 := Lib.hid (show Below wr.heap.size wr w5 from (below_drew (Below.refl wr.heap.size wr)).trans c5)
    replace B0 := Lib.hid ((c5.block w.heap.size (Array.getElem?_eq_some_iff.1 B0.out).1).trans B0.out)
    replace B1 := Lib.hid ((c5.block (w.heap.size + 1) (Array.getElem?_eq_some_iff.1 B1.out).1).trans B1.out)
    replace d := Lib.hid (d.out.trans (c5.mono d.out.size))
    clear c5
    obtain ⟨p_B0_0, p_B0_1, p_B0_2, p_B0_3, p_B0_4, p_B0_5, p_B0_6, p_B0_7⟩ := cls8 B0.out
    obtain ⟨p_B1_0, p_B1_1, p_B1_2, p_B1_3, p_B1_4, p_B1_5, p_B1_6, p_B1_7⟩ := cls8 B1.out
    have p_X0 := (d.out.cell (p := ⟨b, off + k * 10, none⟩) BL.out).trans X0.out
    have p_X1 := (d.out.cell (p := ⟨b, off + k * 10 + 1, none⟩) BL.out).trans X1.out
    have p_X2 := (d.out.cell (p := ⟨b, off + k * 10 + 2, none⟩) BL.out).trans X2.out
    have p_X3 := (d.out.cell (p := ⟨b, off + k * 10 + 3, none⟩) BL.out).trans X3.out
    have p_X4 := (d.out.cell (p := ⟨b, off + k * 10 + 4, none⟩) BL.out).trans X4.out
    have p_X5 := (d.out.cell (p := ⟨b, off + k * 10 + 5, none⟩) BL.out).trans X5.out
    have p_X6 := (d.out.cell (p := ⟨b, off + k * 10 + 6, none⟩) BL.out).trans X6.out
    have p_X7 := (d.out.cell (p := ⟨b, off + k * 10 + 7, none⟩) BL.out).trans X7.out
    have p_X8 := (d.out.cell (p := ⟨b, off + k * 10 + 8, none⟩) BL.out).trans X8.out
    have p_X9 := (d.out.cell (p := ⟨b, off + k * 10 + 9, none⟩) BL.out).trans X9.out
    have p_Y0 := (d.out.cell (p := ⟨b2, off2 + k * 10, none⟩) BL2.out).trans Y0.out
    have p_Y1 := (d.out.cell (p := ⟨b2, off2 + k * 10 + 1, none⟩) BL2.out).trans Y1.out
    have p_Y2 := (d.out.cell (p := ⟨b2, off2 + k * 10 + 2, none⟩) BL2.out).trans Y2.out
    have p_Y3 := (d.out.cell (p := ⟨b2, off2 + k * 10 + 3, none⟩) BL2.out).trans Y3.out
    have p_Y4 := (d.out.cell (p := ⟨b2, off2 + k * 10 + 4, none⟩) BL2.out).trans Y4.out
    have p_Y5 := (d.out.cell (p := ⟨b2, off2 + k * 10 + 5, none⟩) BL2.out).trans Y5.out
    have p_Y6 := (d.out.cell (p := ⟨b2, off2 + k * 10 + 6, none⟩) BL2.out).trans Y6.out
    have p_Y7 := (d.out.cell (p := ⟨b2, off2 + k * 10 + 7, none⟩) BL2.out).trans Y7.out
    have p_Y8 := (d.out.cell (p := ⟨b2, off2 + k * 10 + 8, none⟩) BL2.out).trans Y8.out
    have p_Y9 := (d.out.cell (p := ⟨b2, off2 + k * 10 + 9, none⟩) BL2.out).trans Y9.out
    refine hK.out _ _ ⟨p_B0_0, p_B0_1, p_B0_2, p_B0_3, p_B0_4, p_B0_5, p_B0_6, p_B0_7, p_B1_0, p_B1_1, p_B1_2, p_B1_3, p_B1_4, p_B1_5, p_B1_6, p_B1_7, p_X0, p_X1, p_X2, p_X3, p_X4, p_X5, p_X6, p_X7, p_X8, p_X9, p_Y0, p_Y1, p_Y2, p_Y3, p_Y4, p_Y5, p_Y6, p_Y7, p_Y8, p_Y9⟩ (fun hHeld => ?_)
    clear p_B0_0 p_B0_1 p_B0_2 p_B0_3 p_B0_4 p_B0_5 p_B0_6 p_B0_7 p_B1_0 p_B1_1 p_B1_2 p_B1_3 p_B1_4 p_B1_5 p_B1_6 p_B1_7 p_X0 p_X1 p_X2 p_X3 p_X4 p_X5 p_X6 p_X7 p_X8 p_X9 p_Y0 p_Y1 p_Y2 p_Y3 p_Y4 p_Y5 p_Y6 p_Y7 p_Y8 p_Y9
    clear hK K
    try simp only [Act.put, lA, lB, lC]
    refine tR (i := 11) (v := ?_) ?_ ?_; rotate_left
    ·
     intro w hSw; (try dsimp only at hSw); go_simp; try (with_reducible rfl)
    try simp only [Act.put, lA, lB, lC]
    refine wpAnyH_done (by kernel_rfl) ?_ _
    clear hHeld
    go_wp2
    go_ret
    exact ⟨ret_b HF.out.symm, d.out⟩
  ·
   obtain rfl : k = qs.length := by omega
   have HEA := Lib.hid (list_eqs a0D HH2.out hno.out)
   clear hno
   obtain ⟨p_B0_0, p_B0_1, p_B0_2, p_B0_3, p_B0_4, p_B0_5, p_B0_6, p_B0_7⟩ := cls8 B0.out
   obtain ⟨p_B1_0, p_B1_1, p_B1_2, p_B1_3, p_B1_4, p_B1_5, p_B1_6, p_B1_7⟩ := cls8 B1.out
   go_wp2
   clear p_B0_0 p_B0_1 p_B0_2 p_B0_3 p_B0_4 p_B0_5 p_B0_6 p_B0_7 p_B1_0 p_B1_1 p_B1_2 p_B1_3 p_B1_4 p_B1_5 p_B1_6 p_B1_7
   generalize wr = Wa at *
   go_loopw [6] (fun i wr => ∃ k : Nat, k ≤ ds.length ∧ i = .int .i64 k ∧ Hid (∀ j, j < k → ds.getD j f0D = dt.getD j f0D) ∧ Below Wa.heap.size Wa wr) (fun i _ => ds.length - (intOf i).toNat)
   case atStart => exact ⟨0, Nat.zero_le _, rfl, Lib.hid (fun j hj => absurd hj (Nat.not_lt_zero j)), Below.refl _ _⟩
   case round =>
    obtain ⟨k, hk, rfl, hno, c⟩ := hrel
    have cw := Lib.hid c
    replace B0 := Lib.hid ((c.block w.heap.size (Array.getElem?_eq_some_iff.1 B0.out).1).trans B0.out)
    replace d := Lib.hid (d.out.trans (c.mono d.out.size))
    clear c
    replace B1 := Lib.hid ((cw.out.block (w.heap.size + 1) (Array.getElem?_eq_some_iff.1 B1.out).1).trans B1.out)
    by_cases hlt : k < ds.length
    ·
     have hlt2 : k < dt.length := by have := HH3.out; omega
     have i1 : (0 : Int) ≤ (k : Int) := by omega
     have i2 : (k : Int) < (ds.length : Int) := by omega
     have i3 : (k : Int) < (dt.length : Int) := by omega
     have hz := zL_at S5.out hlt
     have hz2 := zL_at T5.out hlt2
     change tFinished.sz (ds.getD k f0D) ≤ 1048576 at hz
     change tFinished.sz (dt.getD k f0D) ≤ 1048576 at hz2
     obtain ⟨b, off, cap', p2, c2, p3, c3, p6, c6, hv, hbl, q0, q1, q2, q3, q4, q5, q6, sx2, sx3, sx6⟩ := fin_at (slR_below tFinished_law H5.out d.out) hlt
     simp only [Value.slice.injEq] at hv
     obtain ⟨rfl, _, rfl⟩ := hv
     obtain ⟨b2, off2, cap2, r2, e2, r3, e3, r6, e6, hv, hbl2, z0, z1, z2, z3, z4, z5, z6, sy2, sy3, sy6⟩ := fin_at (slR_below tFinished_law G5.out d.out) hlt2
     simp only [Value.slice.injEq] at hv
     obtain ⟨rfl, _, rfl⟩ := hv
     have HST : Hid (decide (ds.getD k f0D = dt.getD k f0D) = true → ∀ j, j < k + 1 → ds.getD j f0D = dt.getD j f0D) := Lib.hid (fun g j hj => by
      by_cases e : j = k
      ·
       rw [e]; exact of_decide_eq_true g
      ·
       exact hno.out j (by omega))
     have HNO : Hid (decide (ds.getD k f0D = dt.getD k f0D) = false → ¬ ds = dt) := Lib.hid (fun g => list_neq f0D (of_decide_eq_false g))
     generalize ds.getD k f0D = x at *
     generalize dt.getD k f0D = y at *
     obtain ⟨⟨a0, a1, x2, x3⟩, a4, a5, x6⟩ := x
     obtain ⟨⟨b0, b1, y2, y3⟩, b4, b5, y6⟩ := y
     rw [tFinished_sz] at hz hz2
     dsimp only at *
     have cal : Below wr.heap.size wr ((wr.alloc (.cells #[.int .i64 a0, .int .i64 a1, .slice p2 x2.length c2, .slice p3 x3.length c3, .int .i64 a4, .int .i64 a5, .slice p6 x6.length c6] 101)).alloc (.cells #[.int .i64 b0, .int .i64 b1, .slice r2 y2.length e2, .slice r3 y3.length e3, .int .i64 b4, .int .i64 b5, .slice r6 y6.length e6] 101)) := ((Below.refl _ _).alloc (Nat.le_refl _) _).alloc (by simp) _
     have B2 : Hid (((wr.alloc (.cells #[.int .i64 a0, .int .i64 a1, .slice p2 x2.length c2, .slice p3 x3.length c3, .int .i64 a4, .int .i64 a5, .slice p6 x6.length c6] 101)).alloc (.cells #[.int .i64 b0, .int .i64 b1, .slice r2 y2.length e2, .slice r3 y3.length e3, .int .i64 b4, .int .i64 b5, .slice r6 y6.length e6] 101)).heap[wr.heap.size]? = some (.cells #[.int .i64 a0, .int .i64 a1, .slice p2 x2.length c2, .slice p3 x3.length c3, .int .i64 a4, .int .i64 a5, .slice p6 x6.length c6] 101 (0, 0))) := Lib.hid (by
      rw [Below.heap_alloc _ _ _ (by simp)]
      exact heap_alloc_new wr _)
     have B3 : Hid (((wr.alloc (.cells #[.int .i64 a0, .int .i64 a1, .slice p2 x2.length c2, .slice p3 x3.length c3, .int .i64 a4, .int .i64 a5, .slice p6 x6.length c6] 101)).alloc (.cells #[.int .i64 b0, .int .i64 b1, .slice r2 y2.length e2, .slice r3 y3.length e3, .int .i64 b4, .int .i64 b5, .slice r6 y6.length e6] 101)).heap[(wr.heap.size + 1)]? = some (.cells #[.int .i64 b0, .int .i64 b1, .slice r2 y2.length e2, .slice r3 y3.length e3, .int .i64 b4, .int .i64 b5, .slice r6 y6.length e6] 101 (0, 0))) := Lib.hid (by
      have := heap_alloc_new (wr.alloc (.cells #[.int .i64 a0, .int .i64 a1, .slice p2 x2.length c2, .slice p3 x3.length c3, .int .i64 a4, .int .i64 a5, .slice p6 x6.length c6] 101)) (.cells #[.int .i64 b0, .int .i64 b1, .slice r2 y2.length e2, .slice r3 y3.length e3, .int .i64 b4, .int .i64 b5, .slice r6 y6.length e6] 101)
      simpa only [World.size_alloc] using this)
     obtain ⟨p_B0_0, p_B0_1, p_B0_2, p_B0_3, p_B0_4, p_B0_5, p_B0_6, p_B0_7⟩ := cls8 B0.out
     obtain ⟨p_B1_0, p_B1_1, p_B1_2, p_B1_3, p_B1_4, p_B1_5, p_B1_6, p_B1_7⟩ := cls8 B1.out
     have KB1 := ((Below.refl wr.heap.size wr).alloc (Nat.le_refl _) (.cells #[.int .i64 a0, .int .i64 a1, .slice p2 x2.length c2, .slice p3 x3.length c3, .int .i64 a4, .int .i64 a5, .slice p6 x6.length c6] 101)).block (w.heap.size + 1) (Array.getElem?_eq_some_iff.1 B1.out).1
     have kb := (cell_of_row _ _ 5 _ _ _ (KB1.trans B1.out)).trans (show _ = some (Value.slice (some ⟨b2, off2, none⟩) dt.length fc2) from rfl)
     have zz0 := (((Below.refl wr.heap.size wr).alloc (Nat.le_refl _) (.cells #[.int .i64 a0, .int .i64 a1, .slice p2 x2.length c2, .slice p3 x3.length c3, .int .i64 a4, .int .i64 a5, .slice p6 x6.length c6] 101)).cell (p := ⟨b2, off2 + k * 7, none⟩) hbl2).trans z0
     have zz1 := (((Below.refl wr.heap.size wr).alloc (Nat.le_refl _) (.cells #[.int .i64 a0, .int .i64 a1, .slice p2 x2.length c2, .slice p3 x3.length c3, .int .i64 a4, .int .i64 a5, .slice p6 x6.length c6] 101)).cell (p := ⟨b2, off2 + k * 7 + 1, none⟩) hbl2).trans z1
     have zz2 := (((Below.refl wr.heap.size wr).alloc (Nat.le_refl _) (.cells #[.int .i64 a0, .int .i64 a1, .slice p2 x2.length c2, .slice p3 x3.length c3, .int .i64 a4, .int .i64 a5, .slice p6 x6.length c6] 101)).cell (p := ⟨b2, off2 + k * 7 + 2, none⟩) hbl2).trans z2
     have zz3 := (((Below.refl wr.heap.size wr).alloc (Nat.le_refl _) (.cells #[.int .i64 a0, .int .i64 a1, .slice p2 x2.length c2, .slice p3 x3.length c3, .int .i64 a4, .int .i64 a5, .slice p6 x6.length c6] 101)).cell (p := ⟨b2, off2 + k * 7 + 3, none⟩) hbl2).trans z3
     have zz4 := (((Below.refl wr.heap.size wr).alloc (Nat.le_refl _) (.cells #[.int .i64 a0, .int .i64 a1, .slice p2 x2.length c2, .slice p3 x3.length c3, .int .i64 a4, .int .i64 a5, .slice p6 x6.length c6] 101)).cell (p := ⟨b2, off2 + k * 7 + 4, none⟩) hbl2).trans z4
     have zz5 := (((Below.refl wr.heap.size wr).alloc (Nat.le_refl _) (.cells #[.int .i64 a0, .int .i64 a1, .slice p2 x2.length c2, .slice p3 x3.length c3, .int .i64 a4, .int .i64 a5, .slice p6 x6.length c6] 101)).cell (p := ⟨b2, off2 + k * 7 + 5, none⟩) hbl2).trans z5
     have zz6 := (((Below.refl wr.heap.size wr).alloc (Nat.le_refl _) (.cells #[.int .i64 a0, .int .i64 a1, .slice p2 x2.length c2, .slice p3 x3.length c3, .int .i64 a4, .int .i64 a5, .slice p6 x6.length c6] 101)).cell (p := ⟨b2, off2 + k * 7 + 6, none⟩) hbl2).trans z6
     have U2 := Lib.hid sx2; have V2 := Lib.hid sy2
     have U3 := Lib.hid sx3; have V3 := Lib.hid sy3
     have U6 := Lib.hid sx6; have V6 := Lib.hid sy6
     go_wp2_with fail
     clear p_B0_0 p_B0_1 p_B0_2 p_B0_3 p_B0_4 p_B0_5 p_B0_6 p_B0_7 p_B1_0 p_B1_1 p_B1_2 p_B1_3 p_B1_4 p_B1_5 p_B1_6 p_B1_7 KB1 kb zz0 q0 z0 zz1 q1 z1 zz2 q2 z2 zz3 q3 z3 zz4 q4 z4 zz5 q5 z5 zz6 q6 z6 hbl hbl2 hno hlt hlt2 sx2 sy2 sx3 sy3 sx6 sy6
     generalize hWq : ((wr.alloc (.cells #[.int .i64 a0, .int .i64 a1, .slice p2 x2.length c2, .slice p3 x3.length c3, .int .i64 a4, .int .i64 a5, .slice p6 x6.length c6] 101)).alloc (.cells #[.int .i64 b0, .int .i64 b1, .slice r2 y2.length e2, .slice r3 y3.length e3, .int .i64 b4, .int .i64 b5, .slice r6 y6.length e6] 101)) = Wq at *
     clear hWq
     have dq := Lib.hid cal
     have ZQ := Lib.hid (Array.getElem?_eq_some_iff.1 B3.out).1
     replace B0 := Lib.hid ((cal.block w.heap.size (Array.getElem?_eq_some_iff.1 B0.out).1).trans B0.out)
     replace B1 := Lib.hid ((cal.block (w.heap.size + 1) (Array.getElem?_eq_some_iff.1 B1.out).1).trans B1.out)
     replace d := Lib.hid (d.out.trans (cal.mono d.out.size))
     clear cal
     have DQ := Lib.hid cw
     refine (specQueryEq a0 a1 b0 b1 (.slice p2 x2.length c2) (.slice p3 x3.length c3) (.slice r2 y2.length e2) (.slice r3 y3.length e3) x2 y2 x3 y3 Wq (slR_below tCond_law U2.out dq.out) (slR_below tInt_law U3.out dq.out) (slR_below tCond_law V2.out dq.out) (slR_below tInt_law V3.out dq.out) (by omega) (by omega) (by omega) (by omega)).mono ?_
     rintro e Wp ⟨rfl, c⟩
     have dp := Lib.hid (dq.out.trans (c.mono dq.out.size))
     replace B0 := Lib.hid ((c.block w.heap.size (Array.getElem?_eq_some_iff.1 B0.out).1).trans B0.out)
     replace B1 := Lib.hid ((c.block (w.heap.size + 1) (Array.getElem?_eq_some_iff.1 B1.out).1).trans B1.out)
     replace B2 := Lib.hid ((c.block wr.heap.size (Array.getElem?_eq_some_iff.1 B2.out).1).trans B2.out)
     replace B3 := Lib.hid ((c.block (wr.heap.size + 1) (Array.getElem?_eq_some_iff.1 B3.out).1).trans B3.out)
     replace d := Lib.hid (d.out.trans (c.mono d.out.size))
     clear c
     rcases Bool.eq_false_or_eq_true (decide (((a0, a1, x2, x3) : QD) = (b0, b1, y2, y3))) with hq | hq
     rotate_left
     ·
      rw [hq]
      have HF := Lib.hid (HNO.out (decide_eq_false (show ¬ ((((a0, a1, x2, x3), a4, a5, x6) : FinD) = ((b0, b1, y2, y3), b4, b5, y6)) from fun g => of_decide_eq_false hq (congrArg (fun z : FinD => z.1) g))))
      clear hq HNO HST
      obtain ⟨p_B0_0, p_B0_1, p_B0_2, p_B0_3, p_B0_4, p_B0_5, p_B0_6, p_B0_7⟩ := cls8 B0.out
      obtain ⟨p_B1_0, p_B1_1, p_B1_2, p_B1_3, p_B1_4, p_B1_5, p_B1_6, p_B1_7⟩ := cls8 B1.out
      obtain ⟨p_B2_0, p_B2_1, p_B2_2, p_B2_3, p_B2_4, p_B2_5, p_B2_6⟩ := cls7 B2.out
      obtain ⟨p_B3_0, p_B3_1, p_B3_2, p_B3_3, p_B3_4, p_B3_5, p_B3_6⟩ := cls7 B3.out
      go_wp2
      clear p_B0_0 p_B0_1 p_B0_2 p_B0_3 p_B0_4 p_B0_5 p_B0_6 p_B0_7 p_B1_0 p_B1_1 p_B1_2 p_B1_3 p_B1_4 p_B1_5 p_B1_6 p_B1_7 p_B2_0 p_B2_1 p_B2_2 p_B2_3 p_B2_4 p_B2_5 p_B2_6 p_B3_0 p_B3_1 p_B3_2 p_B3_3 p_B3_4 p_B3_5 p_B3_6
      go_ret
      exact ⟨ret_b (decide_eq_false (show ¬ ((((ss, now), cu, os, qs, ds, ls, st) : EngD) = ((tt, now2), cu2, ot, qt, dt, lt, st2)) from fun g => HF.out (congrArg (fun z : EngD => z.2.2.2.2.1) g))).symm, d.out⟩
     rw [hq]
     have HQ := Lib.hid hq
     clear hq
     by_cases hta : a4 = b4
     rotate_left
     ·
      have HF := Lib.hid (HNO.out (decide_eq_false (show ¬ ((((a0, a1, x2, x3), a4, a5, x6) : FinD) = ((b0, b1, y2, y3), b4, b5, y6)) from fun g => hta (congrArg (fun z : FinD => z.2.1) g))))
      have ff : (a4 != b4) = true := by rw [bne_iff_ne]; exact hta
      clear hta HNO HST
      obtain ⟨p_B0_0, p_B0_1, p_B0_2, p_B0_3, p_B0_4, p_B0_5, p_B0_6, p_B0_7⟩ := cls8 B0.out
      obtain ⟨p_B1_0, p_B1_1, p_B1_2, p_B1_3, p_B1_4, p_B1_5, p_B1_6, p_B1_7⟩ := cls8 B1.out
      obtain ⟨p_B2_0, p_B2_1, p_B2_2, p_B2_3, p_B2_4, p_B2_5, p_B2_6⟩ := cls7 B2.out
      obtain ⟨p_B3_0, p_B3_1, p_B3_2, p_B3_3, p_B3_4, p_B3_5, p_B3_6⟩ := cls7 B3.out
      go_wp2
      clear p_B0_0 p_B0_1 p_B0_2 p_B0_3 p_B0_4 p_B0_5 p_B0_6 p_B0_7 p_B1_0 p_B1_1 p_B1_2 p_B1_3 p_B1_4 p_B1_5 p_B1_6 p_B1_7 p_B2_0 p_B2_1 p_B2_2 p_B2_3 p_B2_4 p_B2_5 p_B2_6 p_B3_0 p_B3_1 p_B3_2 p_B3_3 p_B3_4 p_B3_5 p_B3_6
      go_ret
      exact ⟨ret_b (decide_eq_false (show ¬ ((((ss, now), cu, os, qs, ds, ls, st) : EngD) = ((tt, now2), cu2, ot, qt, dt, lt, st2)) from fun g => HF.out (congrArg (fun z : EngD => z.2.2.2.2.1) g))).symm, d.out⟩
     have fhta : (a4 != b4) = false := by rw [bne_eq_false_iff_eq]; exact hta
     have HTA := Lib.hid hta
     clear hta
     by_cases htb : a5 = b5
     rotate_left
     ·
      have HF := Lib.hid (HNO.out (decide_eq_false (show ¬ ((((a0, a1, x2, x3), a4, a5, x6) : FinD) = ((b0, b1, y2, y3), b4, b5, y6)) from fun g => htb (congrArg (fun z : FinD => z.2.2.1) g))))
      have ff : (a5 != b5) = true := by rw [bne_iff_ne]; exact htb
      clear htb HNO HST
      obtain ⟨p_B0_0, p_B0_1, p_B0_2, p_B0_3, p_B0_4, p_B0_5, p_B0_6, p_B0_7⟩ := cls8 B0.out
      obtain ⟨p_B1_0, p_B1_1, p_B1_2, p_B1_3, p_B1_4, p_B1_5, p_B1_6, p_B1_7⟩ := cls8 B1.out
      obtain ⟨p_B2_0, p_B2_1, p_B2_2, p_B2_3, p_B2_4, p_B2_5, p_B2_6⟩ := cls7 B2.out
      obtain ⟨p_B3_0, p_B3_1, p_B3_2, p_B3_3, p_B3_4, p_B3_5, p_B3_6⟩ := cls7 B3.out
      go_wp2
      clear p_B0_0 p_B0_1 p_B0_2 p_B0_3 p_B0_4 p_B0_5 p_B0_6 p_B0_7 p_B1_0 p_B1_1 p_B1_2 p_B1_3 p_B1_4 p_B1_5 p_B1_6 p_B1_7 p_B2_0 p_B2_1 p_B2_2 p_B2_3 p_B2_4 p_B2_5 p_B2_6 p_B3_0 p_B3_1 p_B3_2 p_B3_3 p_B3_4 p_B3_5 p_B3_6
      go_ret
      exact ⟨ret_b (decide_eq_false (show ¬ ((((ss, now), cu, os, qs, ds, ls, st) : EngD) = ((tt, now2), cu2, ot, qt, dt, lt, st2)) from fun g => HF.out (congrArg (fun z : EngD => z.2.2.2.2.1) g))).symm, d.out⟩
     have fhtb : (a5 != b5) = false := by rw [bne_eq_false_iff_eq]; exact htb
     have HTB := Lib.hid htb
     clear htb
     obtain ⟨p_B0_0, p_B0_1, p_B0_2, p_B0_3, p_B0_4, p_B0_5, p_B0_6, p_B0_7⟩ := cls8 B0.out
     obtain ⟨p_B1_0, p_B1_1, p_B1_2, p_B1_3, p_B1_4, p_B1_5, p_B1_6, p_B1_7⟩ := cls8 B1.out
     obtain ⟨p_B2_0, p_B2_1, p_B2_2, p_B2_3, p_B2_4, p_B2_5, p_B2_6⟩ := cls7 B2.out
     obtain ⟨p_B3_0, p_B3_1, p_B3_2, p_B3_3, p_B3_4, p_B3_5, p_B3_6⟩ := cls7 B3.out
     go_wp2_with fail
     clear p_B0_0 p_B0_1 p_B0_2 p_B0_3 p_B0_4 p_B0_5 p_B0_6 p_B0_7 p_B1_0 p_B1_1 p_B1_2 p_B1_3 p_B1_4 p_B1_5 p_B1_6 p_B1_7 p_B2_0 p_B2_1 p_B2_2 p_B2_3 p_B2_4 p_B2_5 p_B2_6 p_B3_0 p_B3_1 p_B3_2 p_B3_3 p_B3_4 p_B3_5 p_B3_6 fhta fhtb
     refine (specEqRows (.slice p6 x6.length c6) (.slice r6 y6.length e6) x6 y6 Wp (slR_rows (slR_below tRow_law U6.out dp.out)) (slR_rows (slR_below tRow_law V6.out dp.out)) (by rw [← zL_rows]; omega) (by rw [← zL_rows]; omega)).mono ?_
     rintro e Wl ⟨rfl, c⟩
     have dl := Lib.hid (dp.out.trans (c.mono dp.out.size))
     replace B0 := Lib.hid ((c.block w.heap.size (Array.getElem?_eq_some_iff.1 B0.out).1).trans B0.out)
     replace B1 := Lib.hid ((c.block (w.heap.size + 1) (Array.getElem?_eq_some_iff.1 B1.out).1).trans B1.out)
     replace B2 := Lib.hid ((c.block wr.heap.size (Array.getElem?_eq_some_iff.1 B2.out).1).trans B2.out)
     replace B3 := Lib.hid ((c.block (wr.heap.size + 1) (Array.getElem?_eq_some_iff.1 B3.out).1).trans B3.out)
     replace d := Lib.hid (d.out.trans (c.mono d.out.size))
     clear c
     rcases Bool.eq_false_or_eq_true (decide (x6 = y6)) with hr | hr
     rotate_left
     ·
      rw [hr]
      have HF := Lib.hid (HNO.out (decide_eq_false (show ¬ ((((a0, a1, x2, x3), a4, a5, x6) : FinD) = ((b0, b1, y2, y3), b4, b5, y6)) from fun g => of_decide_eq_false hr (congrArg (fun z : FinD => z.2.2.2) g))))
      clear hr HNO HST
      obtain ⟨p_B0_0, p_B0_1, p_B0_2, p_B0_3, p_B0_4, p_B0_5, p_B0_6, p_B0_7⟩ := cls8 B0.out
      obtain ⟨p_B1_0, p_B1_1, p_B1_2, p_B1_3, p_B1_4, p_B1_5, p_B1_6, p_B1_7⟩ := cls8 B1.out
      obtain ⟨p_B2_0, p_B2_1, p_B2_2, p_B2_3, p_B2_4, p_B2_5, p_B2_6⟩ := cls7 B2.out
      obtain ⟨p_B3_0, p_B3_1, p_B3_2, p_B3_3, p_B3_4, p_B3_5, p_B3_6⟩ := cls7 B3.out
      go_wp2
      clear p_B0_0 p_B0_1 p_B0_2 p_B0_3 p_B0_4 p_B0_5 p_B0_6 p_B0_7 p_B1_0 p_B1_1 p_B1_2 p_B1_3 p_B1_4 p_B1_5 p_B1_6 p_B1_7 p_B2_0 p_B2_1 p_B2_2 p_B2_3 p_B2_4 p_B2_5 p_B2_6 p_B3_0 p_B3_1 p_B3_2 p_B3_3 p_B3_4 p_B3_5 p_B3_6
      go_ret
      exact ⟨ret_b (decide_eq_false (show ¬ ((((ss, now), cu, os, qs, ds, ls, st) : EngD) = ((tt, now2), cu2, ot, qt, dt, lt, st2)) from fun g => HF.out (congrArg (fun z : EngD => z.2.2.2.2.1) g))).symm, d.out⟩
     rw [hr]
     have HR := Lib.hid hr
     clear hr
     have HA := Lib.hid (HST.out (decide_eq_true (show (((a0, a1, x2, x3), a4, a5, x6) : FinD) = ((b0, b1, y2, y3), b4, b5, y6) by rw [of_decide_eq_true HQ.out, HTA.out, HTB.out, of_decide_eq_true HR.out])))
     clear HNO HST
     obtain ⟨p_B0_0, p_B0_1, p_B0_2, p_B0_3, p_B0_4, p_B0_5, p_B0_6, p_B0_7⟩ := cls8 B0.out
     obtain ⟨p_B1_0, p_B1_1, p_B1_2, p_B1_3, p_B1_4, p_B1_5, p_B1_6, p_B1_7⟩ := cls8 B1.out
     obtain ⟨p_B2_0, p_B2_1, p_B2_2, p_B2_3, p_B2_4, p_B2_5, p_B2_6⟩ := cls7 B2.out
     obtain ⟨p_B3_0, p_B3_1, p_B3_2, p_B3_3, p_B3_4, p_B3_5, p_B3_6⟩ := cls7 B3.out
     go_wp2
     clear p_B0_0 p_B0_1 p_B0_2 p_B0_3 p_B0_4 p_B0_5 p_B0_6 p_B0_7 p_B1_0 p_B1_1 p_B1_2 p_B1_3 p_B1_4 p_B1_5 p_B1_6 p_B1_7 p_B2_0 p_B2_1 p_B2_2 p_B2_3 p_B2_4 p_B2_5 p_B2_6 p_B3_0 p_B3_1 p_B3_2 p_B3_3 p_B3_4 p_B3_5 p_B3_6
     go_roundw
     case rel => exact ⟨k + 1, by omega, by go_num, HA, cw.out.trans (dl.out.mono cw.out.size)⟩
     case measure => simp [intOf]; omega
    ·
     obtain rfl : k = ds.length := by omega
     have HED := Lib.hid (list_eqs f0D HH3.out hno.out)
     clear hno
     obtain ⟨p_B0_0, p_B0_1, p_B0_2, p_B0_3, p_B0_4, p_B0_5, p_B0_6, p_B0_7⟩ := cls8 B0.out
     obtain ⟨p_B1_0, p_B1_1, p_B1_2, p_B1_3, p_B1_4, p_B1_5, p_B1_6, p_B1_7⟩ := cls8 B1.out
     go_wp2
     clear p_B0_0 p_B0_1 p_B0_2 p_B0_3 p_B0_4 p_B0_5 p_B0_6 p_B0_7 p_B1_0 p_B1_1 p_B1_2 p_B1_3 p_B1_4 p_B1_5 p_B1_6 p_B1_7
     generalize wr = Wb at *
     go_loopw [9] (fun i wr => ∃ k : Nat, k ≤ ls.length ∧ i = .int .i64 k ∧ Hid (∀ j, j < k → ls.getD j x0D = lt.getD j x0D) ∧ Below Wb.heap.size Wb wr) (fun i _ => ls.length - (intOf i).toNat)
     case atStart => exact ⟨0, Nat.zero_le _, rfl, Lib.hid (fun j hj => absurd hj (Nat.not_lt_zero j)), Below.refl _ _⟩
     case round =>
      obtain ⟨k, hk, rfl, hno, c⟩ := hrel
      have cw := Lib.hid c
      replace B0 := Lib.hid ((c.block w.heap.size (Array.getElem?_eq_some_iff.1 B0.out).1).trans B0.out)
      replace d := Lib.hid (d.out.trans (c.mono d.out.size))
      clear c
      replace B1 := Lib.hid ((cw.out.block (w.heap.size + 1) (Array.getElem?_eq_some_iff.1 B1.out).1).trans B1.out)
      by_cases hlt : k < ls.length
      ·
       have hlt2 : k < lt.length := by have := HH4.out; omega
       have i1 : (0 : Int) ≤ (k : Int) := by omega
       have i2 : (k : Int) < (ls.length : Int) := by omega
       have i3 : (k : Int) < (lt.length : Int) := by omega
       have hz := zL_at S6.out hlt
       have hz2 := zL_at T6.out hlt2
       change tCharge.sz (ls.getD k x0D) ≤ 1048576 at hz
       change tCharge.sz (lt.getD k x0D) ≤ 1048576 at hz2
       obtain ⟨b, off, cap', p2, c2, p3, c3, p4, c4, hv, hbl, q0, q1, q2, q3, q4, sx2, sx3, sx4⟩ := chg_at H6.out hlt
       simp only [Value.slice.injEq] at hv
       obtain ⟨rfl, _, rfl⟩ := hv
       obtain ⟨b2, off2, cap2, r2, e2, r3, e3, r4, e4, hv, hbl2, z0, z1, z2, z3, z4, sy2, sy3, sy4⟩ := chg_at G6.out hlt2
       simp only [Value.slice.injEq] at hv
       obtain ⟨rfl, _, rfl⟩ := hv
       have HST : Hid (decide (ls.getD k x0D = lt.getD k x0D) = true → ∀ j, j < k + 1 → ls.getD j x0D = lt.getD j x0D) := Lib.hid (fun g j hj => by
        by_cases e : j = k
        ·
         rw [e]; exact of_decide_eq_true g
        ·
         exact hno.out j (by omega))
       have HNO : Hid (decide (ls.getD k x0D = lt.getD k x0D) = false → ¬ ls = lt) := Lib.hid (fun g => list_neq x0D (of_decide_eq_false g))
       generalize ls.getD k x0D = x at *
       generalize lt.getD k x0D = y at *
       obtain ⟨a0, a1, x2, x3, x4⟩ := x
       obtain ⟨b0, b1, y2, y3, y4⟩ := y
       rw [tCharge_sz] at hz hz2
       dsimp only at *
       have BL := Lib.hid hbl; have BL2 := Lib.hid hbl2
       have X0 := Lib.hid q0; have Y0 := Lib.hid z0
       have X1 := Lib.hid q1; have Y1 := Lib.hid z1
       have X2 := Lib.hid q2; have Y2 := Lib.hid z2
       have X3 := Lib.hid q3; have Y3 := Lib.hid z3
       have X4 := Lib.hid q4; have Y4 := Lib.hid z4
       have HC := Lib.hid (fun W k2 k3 k4 j2 j3 j4 => specChargeEq a0 a1 b0 b1 (.slice p2 x2.length c2) (.slice p3 x3.length c3) (.slice p4 x4.length c4) (.slice r2 y2.length e2) (.slice r3 y3.length e3) (.slice r4 y4.length e4) x2 y2 x3 y3 x4 y4 W k2 k3 k4 j2 j3 j4 (by omega) (by omega) (by omega) (by omega) (by omega) (by omega))
       have U2 := Lib.hid sx2; have V2 := Lib.hid sy2
       have U3 := Lib.hid sx3; have V3 := Lib.hid sy3
       have U4 := Lib.hid sx4; have V4 := Lib.hid sy4
       clear sx2 sy2 sx3 sy3 sx4 sy4 q0 z0 q1 z1 q2 z2 q3 z3 q4 z4 hz hz2 hbl hbl2 hno hlt hlt2
       obtain ⟨bv, hbv⟩ : ∃ bv, bv = decide (((a0, a1, x2, x3, x4) : ChargeD) = (b0, b1, y2, y3, y4)) := ⟨_, rfl⟩
       rw [← hbv] at HST HNO
       have HBV := Lib.hid hbv
       clear hbv
       obtain ⟨p_B0_0, p_B0_1, p_B0_2, p_B0_3, p_B0_4, p_B0_5, p_B0_6, p_B0_7⟩ := cls8 B0.out
       obtain ⟨p_B1_0, p_B1_1, p_B1_2, p_B1_3, p_B1_4, p_B1_5, p_B1_6, p_B1_7⟩ := cls8 B1.out
       go_wp2
       clear p_B0_0 p_B0_1 p_B0_2 p_B0_3 p_B0_4 p_B0_5 p_B0_6 p_B0_7 p_B1_0 p_B1_1 p_B1_2 p_B1_3 p_B1_4 p_B1_5 p_B1_6 p_B1_7
       cases bv with
       | true =>
        have HA := Lib.hid (HST.out rfl)
        clear HST HNO
        obtain ⟨p_B0_0, p_B0_1, p_B0_2, p_B0_3, p_B0_4, p_B0_5, p_B0_6, p_B0_7⟩ := cls8 B0.out
        obtain ⟨p_B1_0, p_B1_1, p_B1_2, p_B1_3, p_B1_4, p_B1_5, p_B1_6, p_B1_7⟩ := cls8 B1.out
        have p_X0 := (d.out.cell (p := ⟨b, off + k * 5, none⟩) BL.out).trans X0.out
        have p_X1 := (d.out.cell (p := ⟨b, off + k * 5 + 1, none⟩) BL.out).trans X1.out
        have p_X2 := (d.out.cell (p := ⟨b, off + k * 5 + 2, none⟩) BL.out).trans X2.out
        have p_X3 := (d.out.cell (p := ⟨b, off + k * 5 + 3, none⟩) BL.out).trans X3.out
        have p_X4 := (d.out.cell (p := ⟨b, off + k * 5 + 4, none⟩) BL.out).trans X4.out
        have p_Y0 := (d.out.cell (p := ⟨b2, off2 + k * 5, none⟩) BL2.out).trans Y0.out
        have p_Y1 := (d.out.cell (p := ⟨b2, off2 + k * 5 + 1, none⟩) BL2.out).trans Y1.out
        have p_Y2 := (d.out.cell (p := ⟨b2, off2 + k * 5 + 2, none⟩) BL2.out).trans Y2.out
        have p_Y3 := (d.out.cell (p := ⟨b2, off2 + k * 5 + 3, none⟩) BL2.out).trans Y3.out
        have p_Y4 := (d.out.cell (p := ⟨b2, off2 + k * 5 + 4, none⟩) BL2.out).trans Y4.out
        refine wp_region_held_drew (S := fun w' => w'.cell? ⟨w.heap.size, 0, none⟩ = some (Value.slice s1 ss.length sc) ∧ w'.cell? ⟨w.heap.size, 1, none⟩ = some (Value.int .i64 now) ∧ w'.cell? ⟨w.heap.size, 2, none⟩ = some (Value.int .i64 cu) ∧ w'.cell? ⟨w.heap.size, 3, none⟩ = some (Value.slice o1 os.length oc) ∧ w'.cell? ⟨w.heap.size, 4, none⟩ = some (Value.slice l1 qs.length lc) ∧ w'.cell? ⟨w.heap.size, 5, none⟩ = some (Value.slice f1 ds.length fc) ∧ w'.cell? ⟨w.heap.size, 6, none⟩ = some (Value.slice (some ⟨b, off, none⟩) ls.length kc) ∧ w'.cell? ⟨w.heap.size, 7, none⟩ = some (Value.int .i64 st) ∧ w'.cell? ⟨(w.heap.size + 1), 0, none⟩ = some (Value.slice s2 tt.length tc) ∧ w'.cell? ⟨(w.heap.size + 1), 1, none⟩ = some (Value.int .i64 now2) ∧ w'.cell? ⟨(w.heap.size + 1), 2, none⟩ = some (Value.int .i64 cu2) ∧ w'.cell? ⟨(w.heap.size + 1), 3, none⟩ = some (Value.slice o2 ot.length oc2) ∧ w'.cell? ⟨(w.heap.size + 1), 4, none⟩ = some (Value.slice l2 qt.length lc2) ∧ w'.cell? ⟨(w.heap.size + 1), 5, none⟩ = some (Value.slice f2 dt.length fc2) ∧ w'.cell? ⟨(w.heap.size + 1), 6, none⟩ = some (Value.slice (some ⟨b2, off2, none⟩) lt.length kc2) ∧ w'.cell? ⟨(w.heap.size + 1), 7, none⟩ = some (Value.int .i64 st2) ∧ w'.cell? ⟨b, off + k * 5, none⟩ = some (Value.int .i64 a0) ∧ w'.cell? ⟨b, off + k * 5 + 1, none⟩ = some (Value.int .i64 a1) ∧ w'.cell? ⟨b, off + k * 5 + 2, none⟩ = some (Value.slice p2 x2.length c2) ∧ w'.cell? ⟨b, off + k * 5 + 3, none⟩ = some (Value.slice p3 x3.length c3) ∧ w'.cell? ⟨b, off + k * 5 + 4, none⟩ = some (Value.slice p4 x4.length c4) ∧ w'.cell? ⟨b2, off2 + k * 5, none⟩ = some (Value.int .i64 b0) ∧ w'.cell? ⟨b2, off2 + k * 5 + 1, none⟩ = some (Value.int .i64 b1) ∧ w'.cell? ⟨b2, off2 + k * 5 + 2, none⟩ = some (Value.slice r2 y2.length e2) ∧ w'.cell? ⟨b2, off2 + k * 5 + 3, none⟩ = some (Value.slice r3 y3.length e3) ∧ w'.cell? ⟨b2, off2 + k * 5 + 4, none⟩ = some (Value.slice r4 y4.length e4)) (by kernel_rfl) ⟨p_B0_0, p_B0_1, p_B0_2, p_B0_3, p_B0_4, p_B0_5, p_B0_6, p_B0_7, p_B1_0, p_B1_1, p_B1_2, p_B1_3, p_B1_4, p_B1_5, p_B1_6, p_B1_7, p_X0, p_X1, p_X2, p_X3, p_X4, p_Y0, p_Y1, p_Y2, p_Y3, p_Y4⟩ (fun hHeld => ?_)
        clear p_B0_0 p_B0_1 p_B0_2 p_B0_3 p_B0_4 p_B0_5 p_B0_6 p_B0_7 p_B1_0 p_B1_1 p_B1_2 p_B1_3 p_B1_4 p_B1_5 p_B1_6 p_B1_7 p_X0 p_X1 p_X2 p_X3 p_X4 p_Y0 p_Y1 p_Y2 p_Y3 p_Y4
        have cdr : Below wr.heap.size wr wr.drew := below_drew (Below.refl _ _)
        replace B0 := Lib.hid ((cdr.block w.heap.size (Array.getElem?_eq_some_iff.1 B0.out).1).trans B0.out)
        replace B1 := Lib.hid ((cdr.block (w.heap.size + 1) (Array.getElem?_eq_some_iff.1 B1.out).1).trans B1.out)
        replace d := Lib.hid (d.out.trans (cdr.mono d.out.size))
        clear cdr
        refine tR (i := 0) (v := ?_) ?_ ?_; rotate_left
        ·
         intro w hSw; (try dsimp only at hSw); go_simp; try (with_reducible rfl)
        try simp only [Act.put, lA, lB, lC]
        refine tR (i := 1) (v := ?_) ?_ ?_; rotate_left
        ·
         intro w hSw; (try dsimp only at hSw); go_simp; try (with_reducible rfl)
        try simp only [Act.put, lA, lB, lC]
        refine tR (i := 2) (v := ?_) ?_ ?_; rotate_left
        ·
         intro w hSw; (try dsimp only at hSw); go_simp; try (with_reducible rfl)
        try simp only [Act.put, lA, lB, lC]
        refine tR (i := 3) (v := ?_) ?_ ?_; rotate_left
        ·
         intro w hSw; (try dsimp only at hSw); go_simp; try (with_reducible rfl)
        try simp only [Act.put, lA, lB, lC]
        refine tR (i := 4) (v := ?_) ?_ ?_; rotate_left
        ·
         intro w hSw; (try dsimp only at hSw); go_simp; try (with_reducible rfl)
        try simp only [Act.put, lA, lB, lC]
        refine tR (i := 5) (v := ?_) ?_ ?_; rotate_left
        ·
         intro w hSw; (try dsimp only at hSw); go_simp; try (with_reducible rfl)
        try simp only [Act.put, lA, lB, lC]
        refine tR (i := 6) (v := ?_) ?_ ?_; rotate_left
        ·
         intro w hSw; (try dsimp only at hSw); go_simp; try (with_reducible rfl)
        try simp only [Act.put, lA, lB, lC]
        refine tR (i := 7) (v := ?_) ?_ ?_; rotate_left
        ·
         intro w hSw; (try dsimp only at hSw); go_simp; try (with_reducible rfl)
        try simp only [Act.put, lA, lB, lC]
        refine tR (i := 8) (v := ?_) ?_ ?_; rotate_left
        ·
         intro w hSw; (try dsimp only at hSw); go_simp; try (with_reducible rfl)
        try simp only [Act.put, lA, lB, lC]
        refine tR (i := 9) (v := ?_) ?_ ?_; rotate_left
        ·
         intro w hSw; (try dsimp only at hSw); go_simp; try (with_reducible rfl)
        try simp only [Act.put, lA, lB, lC]
        refine wpAnyH_ready (rs := [10]) (by kernel_rfl) (by simp) ?_
        refine (AllReadyH.cons (o := _) (by simp only [hA, hB, hC]; rfl) (fun K hK => ?_) AllReadyH.nil)
        go_simp
        refine (HC.out (wr.drew) (slR_below tInt_law U2.out d.out) (slR_below tInt_law U3.out d.out) (slR_below tInt_law U4.out d.out) (slR_below tInt_law V2.out d.out) (slR_below tInt_law V3.out d.out) (slR_below tInt_law V4.out d.out)).mono ?_
        rintro e w5 ⟨rfl, c5⟩
        rw [← HBV.out]
        have d2 := Lib.hid (show Below wr.heap.size wr w5 from (below_drew (Below.refl wr.heap.size wr)).trans c5)
        replace B0 := Lib.hid ((c5.block w.heap.size (Array.getElem?_eq_some_iff.1 B0.out).1).trans B0.out)
        replace B1 := Lib.hid ((c5.block (w.heap.size + 1) (Array.getElem?_eq_some_iff.1 B1.out).1).trans B1.out)
        replace d := Lib.hid (d.out.trans (c5.mono d.out.size))
        clear c5
        obtain ⟨p_B0_0, p_B0_1, p_B0_2, p_B0_3, p_B0_4, p_B0_5, p_B0_6, p_B0_7⟩ := cls8 B0.out
        obtain ⟨p_B1_0, p_B1_1, p_B1_2, p_B1_3, p_B1_4, p_B1_5, p_B1_6, p_B1_7⟩ := cls8 B1.out
        have p_X0 := (d.out.cell (p := ⟨b, off + k * 5, none⟩) BL.out).trans X0.out
        have p_X1 := (d.out.cell (p := ⟨b, off + k * 5 + 1, none⟩) BL.out).trans X1.out
        have p_X2 := (d.out.cell (p := ⟨b, off + k * 5 + 2, none⟩) BL.out).trans X2.out
        have p_X3 := (d.out.cell (p := ⟨b, off + k * 5 + 3, none⟩) BL.out).trans X3.out
        have p_X4 := (d.out.cell (p := ⟨b, off + k * 5 + 4, none⟩) BL.out).trans X4.out
        have p_Y0 := (d.out.cell (p := ⟨b2, off2 + k * 5, none⟩) BL2.out).trans Y0.out
        have p_Y1 := (d.out.cell (p := ⟨b2, off2 + k * 5 + 1, none⟩) BL2.out).trans Y1.out
        have p_Y2 := (d.out.cell (p := ⟨b2, off2 + k * 5 + 2, none⟩) BL2.out).trans Y2.out
        have p_Y3 := (d.out.cell (p := ⟨b2, off2 + k * 5 + 3, none⟩) BL2.out).trans Y3.out
        have p_Y4 := (d.out.cell (p := ⟨b2, off2 + k * 5 + 4, none⟩) BL2.out).trans Y4.out
        refine hK.out _ _ ⟨p_B0_0, p_B0_1, p_B0_2, p_B0_3, p_B0_4, p_B0_5, p_B0_6, p_B0_7, p_B1_0, p_B1_1, p_B1_2, p_B1_3, p_B1_4, p_B1_5, p_B1_6, p_B1_7, p_X0, p_X1, p_X2, p_X3, p_X4, p_Y0, p_Y1, p_Y2, p_Y3, p_Y4⟩ (fun hHeld => ?_)
        clear p_B0_0 p_B0_1 p_B0_2 p_B0_3 p_B0_4 p_B0_5 p_B0_6 p_B0_7 p_B1_0 p_B1_1 p_B1_2 p_B1_3 p_B1_4 p_B1_5 p_B1_6 p_B1_7 p_X0 p_X1 p_X2 p_X3 p_X4 p_Y0 p_Y1 p_Y2 p_Y3 p_Y4
        clear hK K
        try simp only [Act.put, lA, lB, lC]
        refine tR (i := 11) (v := ?_) ?_ ?_; rotate_left
        ·
         intro w hSw; (try dsimp only at hSw); go_simp; try (with_reducible rfl)
        try simp only [Act.put, lA, lB, lC]
        refine wpAnyH_done (by kernel_rfl) ?_ _
        clear hHeld
        go_wp2
        go_roundw
        case rel => exact ⟨k + 1, by omega, by go_num, HA, cw.out.trans (d2.out.mono cw.out.size)⟩
        case measure => simp [intOf]; omega
       | false =>
        have HF : Hid (decide ((((ss, now), cu, os, qs, ds, ls, st) : EngD) = ((tt, now2), cu2, ot, qt, dt, lt, st2)) = false) := Lib.hid (decide_eq_false (show ¬ ((((ss, now), cu, os, qs, ds, ls, st) : EngD) = ((tt, now2), cu2, ot, qt, dt, lt, st2)) from fun g => HNO.out rfl (congrArg (fun z : EngD => z.2.2.2.2.2.1) g)))
        clear HST HNO
        obtain ⟨p_B0_0, p_B0_1, p_B0_2, p_B0_3, p_B0_4, p_B0_5, p_B0_6, p_B0_7⟩ := cls8 B0.out
        obtain ⟨p_B1_0, p_B1_1, p_B1_2, p_B1_3, p_B1_4, p_B1_5, p_B1_6, p_B1_7⟩ := cls8 B1.out
        have p_X0 := (d.out.cell (p := ⟨b, off + k * 5, none⟩) BL.out).trans X0.out
        have p_X1 := (d.out.cell (p := ⟨b, off + k * 5 + 1, none⟩) BL.out).trans X1.out
        have p_X2 := (d.out.cell (p := ⟨b, off + k * 5 + 2, none⟩) BL.out).trans X2.out
        have p_X3 := (d.out.cell (p := ⟨b, off + k * 5 + 3, none⟩) BL.out).trans X3.out
        have p_X4 := (d.out.cell (p := ⟨b, off + k * 5 + 4, none⟩) BL.out).trans X4.out
        have p_Y0 := (d.out.cell (p := ⟨b2, off2 + k * 5, none⟩) BL2.out).trans Y0.out
        have p_Y1 := (d.out.cell (p := ⟨b2, off2 + k * 5 + 1, none⟩) BL2.out).trans Y1.out
        have p_Y2 := (d.out.cell (p := ⟨b2, off2 + k * 5 + 2, none⟩) BL2.out).trans Y2.out
        have p_Y3 := (d.out.cell (p := ⟨b2, off2 + k * 5 + 3, none⟩) BL2.out).trans Y3.out
        have p_Y4 := (d.out.cell (p := ⟨b2, off2 + k * 5 + 4, none⟩) BL2.out).trans Y4.out
        refine wp_region_held_drew (S := fun w' => w'.cell? ⟨w.heap.size, 0, none⟩ = some (Value.slice s1 ss.length sc) ∧ w'.cell? ⟨w.heap.size, 1, none⟩ = some (Value.int .i64 now) ∧ w'.cell? ⟨w.heap.size, 2, none⟩ = some (Value.int .i64 cu) ∧ w'.cell? ⟨w.heap.size, 3, none⟩ = some (Value.slice o1 os.length oc) ∧ w'.cell? ⟨w.heap.size, 4, none⟩ = some (Value.slice l1 qs.length lc) ∧ w'.cell? ⟨w.heap.size, 5, none⟩ = some (Value.slice f1 ds.length fc) ∧ w'.cell? ⟨w.heap.size, 6, none⟩ = some (Value.slice (some ⟨b, off, none⟩) ls.length kc) ∧ w'.cell? ⟨w.heap.size, 7, none⟩ = some (Value.int .i64 st) ∧ w'.cell? ⟨(w.heap.size + 1), 0, none⟩ = some (Value.slice s2 tt.length tc) ∧ w'.cell? ⟨(w.heap.size + 1), 1, none⟩ = some (Value.int .i64 now2) ∧ w'.cell? ⟨(w.heap.size + 1), 2, none⟩ = some (Value.int .i64 cu2) ∧ w'.cell? ⟨(w.heap.size + 1), 3, none⟩ = some (Value.slice o2 ot.length oc2) ∧ w'.cell? ⟨(w.heap.size + 1), 4, none⟩ = some (Value.slice l2 qt.length lc2) ∧ w'.cell? ⟨(w.heap.size + 1), 5, none⟩ = some (Value.slice f2 dt.length fc2) ∧ w'.cell? ⟨(w.heap.size + 1), 6, none⟩ = some (Value.slice (some ⟨b2, off2, none⟩) lt.length kc2) ∧ w'.cell? ⟨(w.heap.size + 1), 7, none⟩ = some (Value.int .i64 st2) ∧ w'.cell? ⟨b, off + k * 5, none⟩ = some (Value.int .i64 a0) ∧ w'.cell? ⟨b, off + k * 5 + 1, none⟩ = some (Value.int .i64 a1) ∧ w'.cell? ⟨b, off + k * 5 + 2, none⟩ = some (Value.slice p2 x2.length c2) ∧ w'.cell? ⟨b, off + k * 5 + 3, none⟩ = some (Value.slice p3 x3.length c3) ∧ w'.cell? ⟨b, off + k * 5 + 4, none⟩ = some (Value.slice p4 x4.length c4) ∧ w'.cell? ⟨b2, off2 + k * 5, none⟩ = some (Value.int .i64 b0) ∧ w'.cell? ⟨b2, off2 + k * 5 + 1, none⟩ = some (Value.int .i64 b1) ∧ w'.cell? ⟨b2, off2 + k * 5 + 2, none⟩ = some (Value.slice r2 y2.length e2) ∧ w'.cell? ⟨b2, off2 + k * 5 + 3, none⟩ = some (Value.slice r3 y3.length e3) ∧ w'.cell? ⟨b2, off2 + k * 5 + 4, none⟩ = some (Value.slice r4 y4.length e4)) (by kernel_rfl) ⟨p_B0_0, p_B0_1, p_B0_2, p_B0_3, p_B0_4, p_B0_5, p_B0_6, p_B0_7, p_B1_0, p_B1_1, p_B1_2, p_B1_3, p_B1_4, p_B1_5, p_B1_6, p_B1_7, p_X0, p_X1, p_X2, p_X3, p_X4, p_Y0, p_Y1, p_Y2, p_Y3, p_Y4⟩ (fun hHeld => ?_)
        clear p_B0_0 p_B0_1 p_B0_2 p_B0_3 p_B0_4 p_B0_5 p_B0_6 p_B0_7 p_B1_0 p_B1_1 p_B1_2 p_B1_3 p_B1_4 p_B1_5 p_B1_6 p_B1_7 p_X0 p_X1 p_X2 p_X3 p_X4 p_Y0 p_Y1 p_Y2 p_Y3 p_Y4
        have cdr : Below wr.heap.size wr wr.drew := below_drew (Below.refl _ _)
        replace B0 := Lib.hid ((cdr.block w.heap.size (Array.getElem?_eq_some_iff.1 B0.out).1).trans B0.out)
        replace B1 := Lib.hid ((cdr.block (w.heap.size + 1) (Array.getElem?_eq_some_iff.1 B1.out).1).trans B1.out)
        replace d := Lib.hid (d.out.trans (cdr.mono d.out.size))
        clear cdr
        refine tR (i := 0) (v := ?_) ?_ ?_; rotate_left
        ·
         intro w hSw; (try dsimp only at hSw); go_simp; try (with_reducible rfl)
        try simp only [Act.put, lA, lB, lC]
        refine tR (i := 1) (v := ?_) ?_ ?_; rotate_left
        ·
         intro w hSw; (try dsimp only at hSw); go_simp; try (with_reducible rfl)
        try simp only [Act.put, lA, lB, lC]
        refine tR (i := 2) (v := ?_) ?_ ?_; rotate_left
        ·
         intro w hSw; (try dsimp only at hSw); go_simp; try (with_reducible rfl)
        try simp only [Act.put, lA, lB, lC]
        refine tR (i := 3) (v := ?_) ?_ ?_; rotate_left
        ·
         intro w hSw; (try dsimp only at hSw); go_simp; try (with_reducible rfl)
        try simp only [Act.put, lA, lB, lC]
        refine tR (i := 4) (v := ?_) ?_ ?_; rotate_left
        ·
         intro w hSw; (try dsimp only at hSw); go_simp; try (with_reducible rfl)
        try simp only [Act.put, lA, lB, lC]
        refine tR (i := 5) (v := ?_) ?_ ?_; rotate_left
        ·
         intro w hSw; (try dsimp only at hSw); go_simp; try (with_reducible rfl)
        try simp only [Act.put, lA, lB, lC]
        refine tR (i := 6) (v := ?_) ?_ ?_; rotate_left
        ·
         intro w hSw; (try dsimp only at hSw); go_simp; try (with_reducible rfl)
        try simp only [Act.put, lA, lB, lC]
        refine tR (i := 7) (v := ?_) ?_ ?_; rotate_left
        ·
         intro w hSw; (try dsimp only at hSw); go_simp; try (with_reducible rfl)
        try simp only [Act.put, lA, lB, lC]
        refine tR (i := 8) (v := ?_) ?_ ?_; rotate_left
        ·
         intro w hSw; (try dsimp only at hSw); go_simp; try (with_reducible rfl)
        try simp only [Act.put, lA, lB, lC]
        refine tR (i := 9) (v := ?_) ?_ ?_; rotate_left
        ·
         intro w hSw; (try dsimp only at hSw); go_simp; try (with_reducible rfl)
        try simp only [Act.put, lA, lB, lC]
        refine wpAnyH_ready (rs := [10]) (by kernel_rfl) (by simp) ?_
        refine (AllReadyH.cons (o := _) (by simp only [hA, hB, hC]; rfl) (fun K hK => ?_) AllReadyH.nil)
        go_simp
        refine (HC.out (wr.drew) (slR_below tInt_law U2.out d.out) (slR_below tInt_law U3.out d.out) (slR_below tInt_law U4.out d.out) (slR_below tInt_law V2.out d.out) (slR_below tInt_law V3.out d.out) (slR_below tInt_law V4.out d.out)).mono ?_
        rintro e w5 ⟨rfl, c5⟩
        rw [← HBV.out]
        have d2 := Lib.hid (show Below wr.heap.size wr w5 from (below_drew (Below.refl wr.heap.size wr)).trans c5)
        replace B0 := Lib.hid ((c5.block w.heap.size (Array.getElem?_eq_some_iff.1 B0.out).1).trans B0.out)
        replace B1 := Lib.hid ((c5.block (w.heap.size + 1) (Array.getElem?_eq_some_iff.1 B1.out).1).trans B1.out)
        replace d := Lib.hid (d.out.trans (c5.mono d.out.size))
        clear c5
        obtain ⟨p_B0_0, p_B0_1, p_B0_2, p_B0_3, p_B0_4, p_B0_5, p_B0_6, p_B0_7⟩ := cls8 B0.out
        obtain ⟨p_B1_0, p_B1_1, p_B1_2, p_B1_3, p_B1_4, p_B1_5, p_B1_6, p_B1_7⟩ := cls8 B1.out
        have p_X0 := (d.out.cell (p := ⟨b, off + k * 5, none⟩) BL.out).trans X0.out
        have p_X1 := (d.out.cell (p := ⟨b, off + k * 5 + 1, none⟩) BL.out).trans X1.out
        have p_X2 := (d.out.cell (p := ⟨b, off + k * 5 + 2, none⟩) BL.out).trans X2.out
        have p_X3 := (d.out.cell (p := ⟨b, off + k * 5 + 3, none⟩) BL.out).trans X3.out
        have p_X4 := (d.out.cell (p := ⟨b, off + k * 5 + 4, none⟩) BL.out).trans X4.out
        have p_Y0 := (d.out.cell (p := ⟨b2, off2 + k * 5, none⟩) BL2.out).trans Y0.out
        have p_Y1 := (d.out.cell (p := ⟨b2, off2 + k * 5 + 1, none⟩) BL2.out).trans Y1.out
        have p_Y2 := (d.out.cell (p := ⟨b2, off2 + k * 5 + 2, none⟩) BL2.out).trans Y2.out
        have p_Y3 := (d.out.cell (p := ⟨b2, off2 + k * 5 + 3, none⟩) BL2.out).trans Y3.out
        have p_Y4 := (d.out.cell (p := ⟨b2, off2 + k * 5 + 4, none⟩) BL2.out).trans Y4.out
        refine hK.out _ _ ⟨p_B0_0, p_B0_1, p_B0_2, p_B0_3, p_B0_4, p_B0_5, p_B0_6, p_B0_7, p_B1_0, p_B1_1, p_B1_2, p_B1_3, p_B1_4, p_B1_5, p_B1_6, p_B1_7, p_X0, p_X1, p_X2, p_X3, p_X4, p_Y0, p_Y1, p_Y2, p_Y3, p_Y4⟩ (fun hHeld => ?_)
        clear p_B0_0 p_B0_1 p_B0_2 p_B0_3 p_B0_4 p_B0_5 p_B0_6 p_B0_7 p_B1_0 p_B1_1 p_B1_2 p_B1_3 p_B1_4 p_B1_5 p_B1_6 p_B1_7 p_X0 p_X1 p_X2 p_X3 p_X4 p_Y0 p_Y1 p_Y2 p_Y3 p_Y4
        clear hK K
        try simp only [Act.put, lA, lB, lC]
        refine tR (i := 11) (v := ?_) ?_ ?_; rotate_left
        ·
         intro w hSw; (try dsimp only at hSw); go_simp; try (with_reducible rfl)
        try simp only [Act.put, lA, lB, lC]
        refine wpAnyH_done (by kernel_rfl) ?_ _
        clear hHeld
        go_wp2
        go_ret
        exact ⟨ret_b HF.out.symm, d.out⟩
      ·
       obtain rfl : k = ls.length := by omega
       have HEL := Lib.hid (list_eqs x0D HH4.out hno.out)
       clear hno
       have HT : Hid (decide ((((ss, now), cu, os, qs, ds, ls, st) : EngD) = ((tt, now2), cu2, ot, qt, dt, lt, st2)) = true) := Lib.hid (decide_eq_true (show (((ss, now), cu, os, qs, ds, ls, st) : EngD) = ((tt, now2), cu2, ot, qt, dt, lt, st2) by rw [HEA.out, HED.out, HEL.out, of_decide_eq_true HY0.out, HH0.out, of_decide_eq_true HH1.out, HH5.out]))
       obtain ⟨p_B0_0, p_B0_1, p_B0_2, p_B0_3, p_B0_4, p_B0_5, p_B0_6, p_B0_7⟩ := cls8 B0.out
       obtain ⟨p_B1_0, p_B1_1, p_B1_2, p_B1_3, p_B1_4, p_B1_5, p_B1_6, p_B1_7⟩ := cls8 B1.out
       go_wp2
       clear p_B0_0 p_B0_1 p_B0_2 p_B0_3 p_B0_4 p_B0_5 p_B0_6 p_B0_7 p_B1_0 p_B1_1 p_B1_2 p_B1_3 p_B1_4 p_B1_5 p_B1_6 p_B1_7
       go_ret
       exact ⟨ret_b HT.out.symm, d.out⟩
end Go.Proofs.Ytdhglmoanpkeoaa
