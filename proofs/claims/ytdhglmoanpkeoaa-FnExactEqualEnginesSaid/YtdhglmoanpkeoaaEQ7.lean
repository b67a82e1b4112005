/-
 Texts of the proof, merged: EngEq1.
-/
import Derived.Test.YtdhglmoanpkeoaaEQ1
import Derived.Test.YtdhglmoanpkeoaaEQ2
import Derived.Test.YtdhglmoanpkeoaaEQ5
import Derived.Test.YtdhglmoanpkeoaaEQ6
namespace Go.Proofs.Ytdhglmoanpkeoaa
open Go.RowKit
set_option linter.unusedVariables false
set_option linter.unusedSimpArgs false
theorem list_neq {α : Type} {xs ys : List α} (d : α) {k : Nat} (h : ¬ xs.getD k d = ys.getD k d) : ¬ xs = ys := fun e => h (by rw [e])
theorem list_eqs {α : Type} {xs ys : List α} (d : α) (hl : xs.length = ys.length) (h : ∀ j, j < xs.length → xs.getD j d = ys.getD j d) : xs = ys := by
 apply List.ext_getElem hl
 intro i h1 h2
 have := h i h1
 simpa [List.getD, h1, h2] using this
noncomputable instance decActD : DecidableEq ActD := fun _ _ => Classical.propDecidable _
noncomputable instance decFinD : DecidableEq FinD := fun _ _ => Classical.propDecidable _
theorem cond_at {w : World} {v : Value} {l : List CondD} (h : SlR tCond w v l) {k : Nat} (hk : k < l.length) :
  ∃ (b off cap : Nat), v = .slice (some ⟨b, off, none⟩) l.length cap ∧ b < w.heap.size ∧ w.cell? ⟨b, off + k * 3, none⟩ = some (.int .i64 (l.getD k (0, 0, 0)).1) ∧ w.cell? ⟨b, off + k * 3 + 1, none⟩ = some (.int .i64 (l.getD k (0, 0, 0)).2.1) ∧ w.cell? ⟨b, off + k * 3 + 2, none⟩ = some (.int .i64 (l.getD k (0, 0, 0)).2.2) := by
 obtain ⟨b, off, cap, cs, hv, hb, hc, hR⟩ := slR_at h hk
 change tCond.R w cs (l.getD k (0, 0, 0)) at hR
 generalize l.getD k (0, 0, 0) = r at *
 obtain ⟨x, y, z⟩ := r
 obtain rfl := tCond_R hR
 exact ⟨b, off, cap, hv, hb, hc 0 (by decide), hc 1 (by decide), hc 2 (by decide)⟩
theorem cond_ne {f l h f' l' h' : Int} (g : ¬ ((f, l, h) : CondD) = (f', l', h')) : (f == f' && l == l' && h == h') = false := by
 rw [← Bool.not_eq_true]
 intro q
 simp only [Bool.and_eq_true, beq_iff_eq] at q
 exact g (by rw [q.1.1, q.1.2, q.2])
theorem cond_eq (f l h : Int) : (f == f && l == l && h == h) = true := by simp
set_option maxHeartbeats 8000000 in
set_option maxRecDepth 100000 in
theorem equalConds (v u : Value) (xs ys : List CondD) (w : World) (h : SlR tCond w v xs) (g : SlR tCond w u ys) (hn : xs.length ≤ 1048576) (hm : ys.length ≤ 1048576) :
  Calls Try.prog 136 #[v, u] w (fun e w' => e = .returned (.bool (decide (xs = ys))) ∧ Below w.heap.size w w') := by
 obtain ⟨a, cap, rfl⟩ := slR_len h
 obtain ⟨a2, cap2', rfl⟩ := slR_len g
 have H := Lib.hid h
 have G := Lib.hid g
 clear h g
 by_cases hl : xs.length = ys.length
 rotate_left
 ·
  have HF := Lib.hid (decide_eq_false (show ¬ xs = ys from fun e => hl (by rw [e])))
  have hne : ((xs.length : Int) != (ys.length : Int)) = true := by rw [bne_iff_ne]; omega
  clear hl
  go_enter Try.func136, Try.ntmps136
  go_wp2
  go_ret
  exact ⟨ret_b HF.out.symm, Below.refl _ _⟩
 have HL := Lib.hid hl
 have hne : ((xs.length : Int) != (ys.length : Int)) = false := by rw [bne_eq_false_iff_eq]; omega
 have d : Hid (Below w.heap.size w w) := Lib.hid (Below.refl _ _)
 clear hl
 go_enter Try.func136, Try.ntmps136
 go_wp2
 clear hne
 go_loopw [13] (fun i wr => ∃ k : Nat, k ≤ xs.length ∧ i = .int .i64 k ∧ Hid (∀ j, j < k → xs.getD j (0, 0, 0) = ys.getD j (0, 0, 0)) ∧ Below w.heap.size w wr) (fun i _ => xs.length - (intOf i).toNat)
 case atStart => exact ⟨0, Nat.zero_le _, rfl, Lib.hid (fun j hj => absurd hj (Nat.not_lt_zero j)), Below.refl _ _⟩
 case round =>
  obtain ⟨k, hk, rfl, hno, c⟩ := hrel
  have cw := Lib.hid c
  replace d := Lib.hid (d.out.trans (c.mono d.out.size))
  clear c
  by_cases hlt : k < xs.length
  ·
   have hlt2 : k < ys.length := by have := HL.out; omega
   have i1 : (0 : Int) ≤ (k : Int) := by omega
   have i2 : (k : Int) < (xs.length : Int) := by omega
   have i3 : (k : Int) < (ys.length : Int) := by omega
   obtain ⟨b, off, cap', hv, hbl, ce0, ce1, ce2⟩ := cond_at H.out hlt
   simp only [Value.slice.injEq] at hv
   obtain ⟨rfl, _, rfl⟩ := hv
   obtain ⟨b2, off2, cap2, hv, hbl2, cg0, cg1, cg2⟩ := cond_at G.out hlt2
   simp only [Value.slice.injEq] at hv
   obtain ⟨rfl, _, rfl⟩ := hv
   have BL := Lib.hid hbl; have BL2 := Lib.hid hbl2
   clear hbl hbl2
   clear hlt hlt2
   go_wp2
   by_cases he : xs.getD k (0, 0, 0) = ys.getD k (0, 0, 0)
   ·
    have HA : Hid (∀ j, j < k + 1 → xs.getD j (0, 0, 0) = ys.getD j (0, 0, 0)) := Lib.hid (fun j hj => by
     by_cases e : j = k
     ·
      rw [e]; exact he
     ·
      exact hno.out j (by omega))
    rw [← he] at cg0 cg1 cg2
    clear he hno
    generalize xs.getD k (0, 0, 0) = x at *
    obtain ⟨k0, k1, k2⟩ := x
    dsimp only at *
    have C0 := Lib.hid ce0; have C1 := Lib.hid ce1; have C2 := Lib.hid ce2; have D0 := Lib.hid cg0; have D1 := Lib.hid cg1; have D2 := Lib.hid cg2
    clear ce0 ce1 ce2 cg0 cg1 cg2
    have hcc := cond_eq k0 k1 k2
    have p_C0 := (d.out.cell (p := ⟨b, off + k * 3, none⟩) BL.out).trans C0.out
    have p_C1 := (d.out.cell (p := ⟨b, off + k * 3 + 1, none⟩) BL.out).trans C1.out
    have p_C2 := (d.out.cell (p := ⟨b, off + k * 3 + 2, none⟩) BL.out).trans C2.out
    have p_D0 := (d.out.cell (p := ⟨b2, off2 + k * 3, none⟩) BL2.out).trans D0.out
    have p_D1 := (d.out.cell (p := ⟨b2, off2 + k * 3 + 1, none⟩) BL2.out).trans D1.out
    have p_D2 := (d.out.cell (p := ⟨b2, off2 + k * 3 + 2, none⟩) BL2.out).trans D2.out
    refine wp_region_held_drew (S := fun w' => w'.cell? ⟨b, off + k * 3, none⟩ = some (Value.int .i64 k0) ∧ w'.cell? ⟨b, off + k * 3 + 1, none⟩ = some (Value.int .i64 k1) ∧ w'.cell? ⟨b, off + k * 3 + 2, none⟩ = some (Value.int .i64 k2) ∧ w'.cell? ⟨b2, off2 + k * 3, none⟩ = some (Value.int .i64 k0) ∧ w'.cell? ⟨b2, off2 + k * 3 + 1, none⟩ = some (Value.int .i64 k1) ∧ w'.cell? ⟨b2, off2 + k * 3 + 2, none⟩ = some (Value.int .i64 k2)) (by kernel_rfl) ⟨p_C0, p_C1, p_C2, p_D0, p_D1, p_D2⟩ (fun hHeld => ?_)
    clear p_C0 p_C1 p_C2 p_D0 p_D1 p_D2
    have cdr : Below wr.heap.size wr wr.drew := below_drew (Below.refl _ _)
    replace d := Lib.hid (d.out.trans (cdr.mono d.out.size))
    clear cdr
    refine tR (i := 0) (v := ?_) ?_ ?_; rotate_left
    ·
     intro w hSw; (try dsimp only at hSw); go_simp; try (with_reducible rfl)
    try simp only [Act.put, lA, lB, lC]
    refine tR (i := 1) (v := ?_) ?_ ?_; rotate_left
    ·
     intro w hSw; (try dsimp only at hSw); go_simp; try (with_reducible rfl)
    try simp only [Act.put, lA, lB, lC]
    refine tR (i := 2) (v := ?_) ?_ ?_; rotate_left
    ·
     intro w hSw; (try dsimp only at hSw); go_simp; try (with_reducible rfl)
    try simp only [Act.put, lA, lB, lC]
    refine tR (i := 3) (v := ?_) ?_ ?_; rotate_left
    ·
     intro w hSw; (try dsimp only at hSw); go_simp; try (with_reducible rfl)
    try simp only [Act.put, lA, lB, lC]
    refine tR (i := 4) (v := ?_) ?_ ?_; rotate_left
    ·
     intro w hSw; (try dsimp only at hSw); go_simp; try (with_reducible rfl)
    try simp only [Act.put, lA, lB, lC]
    refine tR (i := 5) (v := ?_) ?_ ?_; rotate_left
    ·
     intro w hSw; (try dsimp only at hSw); go_simp; try (with_reducible rfl)
    try simp only [Act.put, lA, lB, lC]
    refine tR (i := 6) (v := ?_) ?_ ?_; rotate_left
    ·
     intro w hSw; (try dsimp only at hSw); go_simp; try (with_reducible rfl)
    try simp only [Act.put, lA, lB, lC]
    refine tR (i := 7) (v := ?_) ?_ ?_; rotate_left
    ·
     intro w hSw; (try dsimp only at hSw); go_simp; try (with_reducible rfl)
    try simp only [Act.put, lA, lB, lC]
    refine tR (i := 8) (v := .bool false) ?_ ?_
    ·
     intro w hSw; (try dsimp only at hSw); go_simp; all_goals first | (with_reducible rfl) | (rw [hcc]; done) | (simpa using hcc) | (simp [hcc]; done) | (simp; omega)
    try simp only [Act.put, lA, lB, lC]
    refine wpAnyH_done (by kernel_rfl) ?_ _
    clear hHeld
    go_wp2
    go_roundw
    case rel => exact ⟨k + 1, by omega, by go_num, HA, below_dn cw.out 1⟩
    case measure => simp [intOf]; omega
   ·
    have HNE := Lib.hid (list_neq (xs := xs) (ys := ys) (0, 0, 0) he)
    clear hno
    generalize xs.getD k (0, 0, 0) = x at *
    generalize ys.getD k (0, 0, 0) = y at *
    obtain ⟨k0, k1, k2⟩ := x
    obtain ⟨l0, l1, l2⟩ := y
    dsimp only at *
    have hcc := cond_ne he
    have C0 := Lib.hid ce0; have C1 := Lib.hid ce1; have C2 := Lib.hid ce2; have D0 := Lib.hid cg0; have D1 := Lib.hid cg1; have D2 := Lib.hid cg2
    clear ce0 ce1 ce2 cg0 cg1 cg2 he
    have p_C0 := (d.out.cell (p := ⟨b, off + k * 3, none⟩) BL.out).trans C0.out
    have p_C1 := (d.out.cell (p := ⟨b, off + k * 3 + 1, none⟩) BL.out).trans C1.out
    have p_C2 := (d.out.cell (p := ⟨b, off + k * 3 + 2, none⟩) BL.out).trans C2.out
    have p_D0 := (d.out.cell (p := ⟨b2, off2 + k * 3, none⟩) BL2.out).trans D0.out
    have p_D1 := (d.out.cell (p := ⟨b2, off2 + k * 3 + 1, none⟩) BL2.out).trans D1.out
    have p_D2 := (d.out.cell (p := ⟨b2, off2 + k * 3 + 2, none⟩) BL2.out).trans D2.out
    refine wp_region_held_drew (S := fun w' => w'.cell? ⟨b, off + k * 3, none⟩ = some (Value.int .i64 k0) ∧ w'.cell? ⟨b, off + k * 3 + 1, none⟩ = some (Value.int .i64 k1) ∧ w'.cell? ⟨b, off + k * 3 + 2, none⟩ = some (Value.int .i64 k2) ∧ w'.cell? ⟨b2, off2 + k * 3, none⟩ = some (Value.int .i64 l0) ∧ w'.cell? ⟨b2, off2 + k * 3 + 1, none⟩ = some (Value.int .i64 l1) ∧ w'.cell? ⟨b2, off2 + k * 3 + 2, none⟩ = some (Value.int .i64 l2)) (by kernel_rfl) ⟨p_C0, p_C1, p_C2, p_D0, p_D1, p_D2⟩ (fun hHeld => ?_)
    clear p_C0 p_C1 p_C2 p_D0 p_D1 p_D2
    have cdr : Below wr.heap.size wr wr.drew := below_drew (Below.refl _ _)
    replace d := Lib.hid (d.out.trans (cdr.mono d.out.size))
    clear cdr
    refine tR (i := 0) (v := ?_) ?_ ?_; rotate_left
    ·
     intro w hSw; (try dsimp only at hSw); go_simp; try (with_reducible rfl)
    try simp only [Act.put, lA, lB, lC]
    refine tR (i := 1) (v := ?_) ?_ ?_; rotate_left
    ·
     intro w hSw; (try dsimp only at hSw); go_simp; try (with_reducible rfl)
    try simp only [Act.put, lA, lB, lC]
    refine tR (i := 2) (v := ?_) ?_ ?_; rotate_left
    ·
     intro w hSw; (try dsimp only at hSw); go_simp; try (with_reducible rfl)
    try simp only [Act.put, lA, lB, lC]
    refine tR (i := 3) (v := ?_) ?_ ?_; rotate_left
    ·
     intro w hSw; (try dsimp only at hSw); go_simp; try (with_reducible rfl)
    try simp only [Act.put, lA, lB, lC]
    refine tR (i := 4) (v := ?_) ?_ ?_; rotate_left
    ·
     intro w hSw; (try dsimp only at hSw); go_simp; try (with_reducible rfl)
    try simp only [Act.put, lA, lB, lC]
    refine tR (i := 5) (v := ?_) ?_ ?_; rotate_left
    ·
     intro w hSw; (try dsimp only at hSw); go_simp; try (with_reducible rfl)
    try simp only [Act.put, lA, lB, lC]
    refine tR (i := 6) (v := ?_) ?_ ?_; rotate_left
    ·
     intro w hSw; (try dsimp only at hSw); go_simp; try (with_reducible rfl)
    try simp only [Act.put, lA, lB, lC]
    refine tR (i := 7) (v := ?_) ?_ ?_; rotate_left
    ·
     intro w hSw; (try dsimp only at hSw); go_simp; try (with_reducible rfl)
    try simp only [Act.put, lA, lB, lC]
    refine tR (i := 8) (v := .bool true) ?_ ?_
    ·
     intro w hSw; (try dsimp only at hSw); go_simp; all_goals first | (with_reducible rfl) | (rw [hcc]; done) | (simpa using hcc) | (simp [hcc]; done) | (simp; omega)
    try simp only [Act.put, lA, lB, lC]
    refine wpAnyH_done (by kernel_rfl) ?_ _
    clear hHeld
    go_wp2
    go_ret
    exact ⟨ret_b (decide_eq_false HNE.out).symm, d.out⟩
  ·
   obtain rfl : k = xs.length := by omega
   have HT := Lib.hid (list_eqs (0, 0, 0) HL.out hno.out)
   clear hno
   go_wp2
   go_ret
   exact ⟨ret_b (decide_eq_true HT.out).symm, d.out⟩
set_option maxHeartbeats 8000000 in
set_option maxRecDepth 100000 in
theorem implQueryEq (a0 a1 b0 b1 : Int) (v2 v3 u2 u3 : Value) (x2 y2 : List CondD) (x3 y3 : List Int) (w : World) (h2 : SlR tCond w v2 x2) (h3 : SlR tInt w v3 x3) (g2 : SlR tCond w u2 y2) (g3 : SlR tInt w u3 y3) (s2 : zL tCond x2 ≤ 1048576) (s3 : zL tInt x3 ≤ 1048576) (t2 : zL tCond y2 ≤ 1048576) (t3 : zL tInt y3 ≤ 1048576) :
  Calls Try.prog 115 #[.agg #[.int .i64 a0, .int .i64 a1, v2, v3], .agg #[.int .i64 b0, .int .i64 b1, u2, u3]] w (fun e w' => e = .returned (.bool (decide (((a0, a1, x2, x3) : QD) = (b0, b1, y2, y3)))) ∧ Below w.heap.size w w') := by
 obtain ⟨p2, c2, rfl⟩ := slR_len h2
 obtain ⟨r2, e2, rfl⟩ := slR_len g2
 have H2 := Lib.hid h2; have G2 := Lib.hid g2; have S2 := Lib.hid s2; have T2 := Lib.hid t2; have n2 := zL_len s2; have m2 := zL_len t2
 obtain ⟨p3, c3, rfl⟩ := slR_len h3
 obtain ⟨r3, e3, rfl⟩ := slR_len g3
 have H3 := Lib.hid h3; have G3 := Lib.hid g3; have S3 := Lib.hid s3; have T3 := Lib.hid t3; have n3 := zL_len s3; have m3 := zL_len t3
 clear h2 g2 s2 t2 h3 g3 s3 t3
 have d := Lib.hid (show Below w.heap.size w ((w.alloc (.cells #[.int .i64 a0, .int .i64 a1, .slice p2 x2.length c2, .slice p3 x3.length c3] 90)).alloc (.cells #[.int .i64 b0, .int .i64 b1, .slice r2 y2.length e2, .slice r3 y3.length e3] 90)) from (((Below.refl _ w).alloc (Nat.le_refl _) _).alloc (by simp) _))
 have B0 : Hid (((w.alloc (.cells #[.int .i64 a0, .int .i64 a1, .slice p2 x2.length c2, .slice p3 x3.length c3] 90)).alloc (.cells #[.int .i64 b0, .int .i64 b1, .slice r2 y2.length e2, .slice r3 y3.length e3] 90)).heap[w.heap.size]? = some (.cells #[.int .i64 a0, .int .i64 a1, .slice p2 x2.length c2, .slice p3 x3.length c3] 90 (0, 0))) := Lib.hid (by
  rw [Below.heap_alloc _ _ _ (by simp)]
  exact heap_alloc_new w _)
 have B1 : Hid (((w.alloc (.cells #[.int .i64 a0, .int .i64 a1, .slice p2 x2.length c2, .slice p3 x3.length c3] 90)).alloc (.cells #[.int .i64 b0, .int .i64 b1, .slice r2 y2.length e2, .slice r3 y3.length e3] 90)).heap[(w.heap.size + 1)]? = some (.cells #[.int .i64 b0, .int .i64 b1, .slice r2 y2.length e2, .slice r3 y3.length e3] 90 (0, 0))) := Lib.hid (by
  have := heap_alloc_new (w.alloc (.cells #[.int .i64 a0, .int .i64 a1, .slice p2 x2.length c2, .slice p3 x3.length c3] 90)) (.cells #[.int .i64 b0, .int .i64 b1, .slice r2 y2.length e2, .slice r3 y3.length e3] 90)
  simpa only [World.size_alloc] using this)
 have YW : Hid (w.heap.size + 2 ≤ ((w.alloc (.cells #[.int .i64 a0, .int .i64 a1, .slice p2 x2.length c2, .slice p3 x3.length c3] 90)).alloc (.cells #[.int .i64 b0, .int .i64 b1, .slice r2 y2.length e2, .slice r3 y3.length e3] 90)).heap.size) := Lib.hid (by simp [World.size_alloc])
 by_cases hz0 : a0 = b0
 rotate_left
 ·
  have HF : Hid (decide (((a0, a1, x2, x3) : QD) = (b0, b1, y2, y3)) = false) := Lib.hid (decide_eq_false (fun g => hz0 (congrArg (fun z : QD => z.1) g)))
  rw [HF.out]
  have z0a : (a0 == b0) = false := by rw [beq_eq_false_iff_ne]; exact hz0
  have z0b : (a0 != b0) = true := by rw [bne_iff_ne]; exact hz0
  clear hz0
  go_enter Try.func115, Try.ntmps115
  go_wp2
  go_ret
  exact ⟨rfl, d.out⟩
 have z0a : (a0 == b0) = true := by rw [beq_iff_eq]; exact hz0
 have z0b : (a0 != b0) = false := by rw [bne_eq_false_iff_eq]; exact hz0
 have HZ0 := Lib.hid hz0
 clear hz0
 by_cases hz1 : a1 = b1
 rotate_left
 ·
  have HF : Hid (decide (((a0, a1, x2, x3) : QD) = (b0, b1, y2, y3)) = false) := Lib.hid (decide_eq_false (fun g => hz1 (congrArg (fun z : QD => z.2.1) g)))
  rw [HF.out]
  have z1a : (a1 == b1) = false := by rw [beq_eq_false_iff_ne]; exact hz1
  have z1b : (a1 != b1) = true := by rw [bne_iff_ne]; exact hz1
  clear hz1
  go_enter Try.func115, Try.ntmps115
  go_wp2
  go_ret
  exact ⟨rfl, d.out⟩
 have z1a : (a1 == b1) = true := by rw [beq_iff_eq]; exact hz1
 have z1b : (a1 != b1) = false := by rw [bne_eq_false_iff_eq]; exact hz1
 have HZ1 := Lib.hid hz1
 clear hz1
 go_enter Try.func115, Try.ntmps115
 go_wp2_with fail
 generalize ((w.alloc (.cells #[.int .i64 a0, .int .i64 a1, .slice p2 x2.length c2, .slice p3 x3.length c3] 90)).alloc (.cells #[.int .i64 b0, .int .i64 b1, .slice r2 y2.length e2, .slice r3 y3.length e3] 90)) = W at *
 clear z0a z0b z1a z1b
 refine (equalConds (.slice p2 x2.length c2) (.slice r2 y2.length e2) x2 y2 W (slR_below tCond_law H2.out d.out) (slR_below tCond_law G2.out d.out) n2 m2).mono ?_
 rintro e W1 ⟨rfl, c⟩
 replace B0 := Lib.hid ((c.block w.heap.size (Array.getElem?_eq_some_iff.1 B0.out).1).trans B0.out)
 replace B1 := Lib.hid ((c.block (w.heap.size + 1) (Array.getElem?_eq_some_iff.1 B1.out).1).trans B1.out)
 replace d := Lib.hid (d.out.trans (c.mono d.out.size))
 have Z_W1 := Lib.hid (show W.heap.size ≤ W1.heap.size from c.size)
 clear c
 rcases Bool.eq_false_or_eq_true (decide (x2 = y2)) with hy0 | hy0
 rotate_left
 ·
  rw [hy0]
  have HF := Lib.hid (decide_eq_false (show ¬ (((a0, a1, x2, x3) : QD) = (b0, b1, y2, y3)) from fun g => of_decide_eq_false hy0 (congrArg (fun z : QD => z.2.2.1) g)))
  clear hy0
  obtain ⟨p_B0_0, p_B0_1, p_B0_2, p_B0_3⟩ := cls4 B0.out
  obtain ⟨p_B1_0, p_B1_1, p_B1_2, p_B1_3⟩ := cls4 B1.out
  go_wp2
  clear p_B0_0 p_B0_1 p_B0_2 p_B0_3 p_B1_0 p_B1_1 p_B1_2 p_B1_3
  go_ret
  exact ⟨ret_b HF.out.symm, d.out⟩
 rw [hy0]
 have HY0 := Lib.hid hy0
 clear hy0
 obtain ⟨p_B0_0, p_B0_1, p_B0_2, p_B0_3⟩ := cls4 B0.out
 obtain ⟨p_B1_0, p_B1_1, p_B1_2, p_B1_3⟩ := cls4 B1.out
 go_wp2_with fail
 clear p_B0_0 p_B0_1 p_B0_2 p_B0_3 p_B1_0 p_B1_1 p_B1_2 p_B1_3
 refine (equalInts_any (.slice p3 x3.length c3) (.slice r3 y3.length e3) x3 y3 W1 (slR_ints (slR_below tInt_law H3.out d.out)) (slR_ints (slR_below tInt_law G3.out d.out)) n3 m3).mono ?_
 rintro e W2 ⟨rfl, c⟩
 replace B0 := Lib.hid ((c.block w.heap.size (Array.getElem?_eq_some_iff.1 B0.out).1).trans B0.out)
 replace B1 := Lib.hid ((c.block (w.heap.size + 1) (Array.getElem?_eq_some_iff.1 B1.out).1).trans B1.out)
 replace d := Lib.hid (d.out.trans (c.mono d.out.size))
 have Z_W2 := Lib.hid (show W1.heap.size ≤ W2.heap.size from c.size)
 clear c
 rcases Bool.eq_false_or_eq_true (decide (x3 = y3)) with hh0 | hh0
 rotate_left
 ·
  rw [hh0]
  have HF := Lib.hid (decide_eq_false (show ¬ (((a0, a1, x2, x3) : QD) = (b0, b1, y2, y3)) from fun g => of_decide_eq_false hh0 (congrArg (fun z : QD => z.2.2.2) g)))
  clear hh0
  obtain ⟨p_B0_0, p_B0_1, p_B0_2, p_B0_3⟩ := cls4 B0.out
  obtain ⟨p_B1_0, p_B1_1, p_B1_2, p_B1_3⟩ := cls4 B1.out
  go_wp2
  clear p_B0_0 p_B0_1 p_B0_2 p_B0_3 p_B1_0 p_B1_1 p_B1_2 p_B1_3
  go_ret
  exact ⟨ret_b HF.out.symm, d.out⟩
 rw [hh0]
 have HH0 := Lib.hid hh0
 clear hh0
 have HT : Hid (decide (((a0, a1, x2, x3) : QD) = (b0, b1, y2, y3)) = true) := Lib.hid (decide_eq_true (by rw [HZ0.out, HZ1.out, of_decide_eq_true HY0.out, of_decide_eq_true HH0.out]))
 obtain ⟨p_B0_0, p_B0_1, p_B0_2, p_B0_3⟩ := cls4 B0.out
 obtain ⟨p_B1_0, p_B1_1, p_B1_2, p_B1_3⟩ := cls4 B1.out
 go_wp2
 clear p_B0_0 p_B0_1 p_B0_2 p_B0_3 p_B1_0 p_B1_1 p_B1_2 p_B1_3
 go_ret
 exact ⟨ret_b HT.out.symm, d.out⟩
set_option maxHeartbeats 8000000 in
set_option maxRecDepth 100000 in
theorem specQueryEq (a0 a1 b0 b1 : Int) (v2 v3 u2 u3 : Value) (x2 y2 : List CondD) (x3 y3 : List Int) (w : World) (h2 : SlR tCond w v2 x2) (h3 : SlR tInt w v3 x3) (g2 : SlR tCond w u2 y2) (g3 : SlR tInt w u3 y3) (s2 : zL tCond x2 ≤ 1048576) (s3 : zL tInt x3 ≤ 1048576) (t2 : zL tCond y2 ≤ 1048576) (t3 : zL tInt y3 ≤ 1048576) :
  Calls Try.prog 67 #[.agg #[.int .i64 a0, .int .i64 a1, v2, v3], .agg #[.int .i64 b0, .int .i64 b1, u2, u3]] w (fun e w' => e = .returned (.bool (decide (((a0, a1, x2, x3) : QD) = (b0, b1, y2, y3)))) ∧ Below w.heap.size w w') := by
 obtain ⟨p2, c2, rfl⟩ := slR_len h2
 obtain ⟨r2, e2, rfl⟩ := slR_len g2
 have H2 := Lib.hid h2; have G2 := Lib.hid g2; have S2 := Lib.hid s2; have T2 := Lib.hid t2; have n2 := zL_len s2; have m2 := zL_len t2
 obtain ⟨p3, c3, rfl⟩ := slR_len h3
 obtain ⟨r3, e3, rfl⟩ := slR_len g3
 have H3 := Lib.hid h3; have G3 := Lib.hid g3; have S3 := Lib.hid s3; have T3 := Lib.hid t3; have n3 := zL_len s3; have m3 := zL_len t3
 clear h2 g2 s2 t2 h3 g3 s3 t3
 have d := Lib.hid (show Below w.heap.size w ((w.alloc (.cells #[.int .i64 a0, .int .i64 a1, .slice p2 x2.length c2, .slice p3 x3.length c3] 90)).alloc (.cells #[.int .i64 b0, .int .i64 b1, .slice r2 y2.length e2, .slice r3 y3.length e3] 90)) from (((Below.refl _ w).alloc (Nat.le_refl _) _).alloc (by simp) _))
 have B0 : Hid (((w.alloc (.cells #[.int .i64 a0, .int .i64 a1, .slice p2 x2.length c2, .slice p3 x3.length c3] 90)).alloc (.cells #[.int .i64 b0, .int .i64 b1, .slice r2 y2.length e2, .slice r3 y3.length e3] 90)).heap[w.heap.size]? = some (.cells #[.int .i64 a0, .int .i64 a1, .slice p2 x2.length c2, .slice p3 x3.length c3] 90 (0, 0))) := Lib.hid (by
  rw [Below.heap_alloc _ _ _ (by simp)]
  exact heap_alloc_new w _)
 have B1 : Hid (((w.alloc (.cells #[.int .i64 a0, .int .i64 a1, .slice p2 x2.length c2, .slice p3 x3.length c3] 90)).alloc (.cells #[.int .i64 b0, .int .i64 b1, .slice r2 y2.length e2, .slice r3 y3.length e3] 90)).heap[(w.heap.size + 1)]? = some (.cells #[.int .i64 b0, .int .i64 b1, .slice r2 y2.length e2, .slice r3 y3.length e3] 90 (0, 0))) := Lib.hid (by
  have := heap_alloc_new (w.alloc (.cells #[.int .i64 a0, .int .i64 a1, .slice p2 x2.length c2, .slice p3 x3.length c3] 90)) (.cells #[.int .i64 b0, .int .i64 b1, .slice r2 y2.length e2, .slice r3 y3.length e3] 90)
  simpa only [World.size_alloc] using this)
 have YW : Hid (w.heap.size + 2 ≤ ((w.alloc (.cells #[.int .i64 a0, .int .i64 a1, .slice p2 x2.length c2, .slice p3 x3.length c3] 90)).alloc (.cells #[.int .i64 b0, .int .i64 b1, .slice r2 y2.length e2, .slice r3 y3.length e3] 90)).heap.size) := Lib.hid (by simp [World.size_alloc])
 by_cases hz0 : a0 = b0
 rotate_left
 ·
  have HF : Hid (decide (((a0, a1, x2, x3) : QD) = (b0, b1, y2, y3)) = false) := Lib.hid (decide_eq_false (fun g => hz0 (congrArg (fun z : QD => z.1) g)))
  rw [HF.out]
  have z0a : (a0 == b0) = false := by rw [beq_eq_false_iff_ne]; exact hz0
  have z0b : (a0 != b0) = true := by rw [bne_iff_ne]; exact hz0
  clear hz0
  go_enter Try.func67, Try.ntmps67
  go_wp2
  go_ret
  exact ⟨rfl, d.out⟩
 have z0a : (a0 == b0) = true := by rw [beq_iff_eq]; exact hz0
 have z0b : (a0 != b0) = false := by rw [bne_eq_false_iff_eq]; exact hz0
 have HZ0 := Lib.hid hz0
 clear hz0
 by_cases hz1 : a1 = b1
 rotate_left
 ·
  have HF : Hid (decide (((a0, a1, x2, x3) : QD) = (b0, b1, y2, y3)) = false) := Lib.hid (decide_eq_false (fun g => hz1 (congrArg (fun z : QD => z.2.1) g)))
  rw [HF.out]
  have z1a : (a1 == b1) = false := by rw [beq_eq_false_iff_ne]; exact hz1
  have z1b : (a1 != b1) = true := by rw [bne_iff_ne]; exact hz1
  clear hz1
  go_enter Try.func67, Try.ntmps67
  go_wp2
  go_ret
  exact ⟨rfl, d.out⟩
 have z1a : (a1 == b1) = true := by rw [beq_iff_eq]; exact hz1
 have z1b : (a1 != b1) = false := by rw [bne_eq_false_iff_eq]; exact hz1
 have HZ1 := Lib.hid hz1
 clear hz1
 by_cases hz2 : x2.length = y2.length
 rotate_left
 ·
  have HF : Hid (decide (((a0, a1, x2, x3) : QD) = (b0, b1, y2, y3)) = false) := Lib.hid (decide_eq_false (fun g => hz2 (by have q := congrArg (fun z : QD => z.2.2.1) g; simp only at q; rw [q])))
  rw [HF.out]
  have z2b : ((x2.length : Int) != (y2.length : Int)) = true := by rw [bne_iff_ne]; omega
  clear hz2
  go_enter Try.func67, Try.ntmps67
  go_wp2
  go_ret
  exact ⟨rfl, d.out⟩
 have z2b : ((x2.length : Int) != (y2.length : Int)) = false := by rw [bne_eq_false_iff_eq]; omega
 have HZ2 := Lib.hid hz2
 clear hz2
 go_enter Try.func67, Try.ntmps67
 go_wp2_with fail
 generalize ((w.alloc (.cells #[.int .i64 a0, .int .i64 a1, .slice p2 x2.length c2, .slice p3 x3.length c3] 90)).alloc (.cells #[.int .i64 b0, .int .i64 b1, .slice r2 y2.length e2, .slice r3 y3.length e3] 90)) = W at *
 clear z0a z0b z1a z1b z2b
 refine (specInts (.slice p3 x3.length c3) (.slice r3 y3.length e3) x3 y3 W (slR_ints (slR_below tInt_law H3.out d.out)) (slR_ints (slR_below tInt_law G3.out d.out)) n3 m3).mono ?_
 rintro e W1 ⟨rfl, c⟩
 replace B0 := Lib.hid ((c.block w.heap.size (Array.getElem?_eq_some_iff.1 B0.out).1).trans B0.out)
 replace B1 := Lib.hid ((c.block (w.heap.size + 1) (Array.getElem?_eq_some_iff.1 B1.out).1).trans B1.out)
 replace d := Lib.hid (d.out.trans (c.mono d.out.size))
 have Z_W1 := Lib.hid (show W.heap.size ≤ W1.heap.size from c.size)
 clear c
 rcases Bool.eq_false_or_eq_true (decide (x3 = y3)) with hy0 | hy0
 rotate_left
 ·
  rw [hy0]
  have HF := Lib.hid (decide_eq_false (show ¬ (((a0, a1, x2, x3) : QD) = (b0, b1, y2, y3)) from fun g => of_decide_eq_false hy0 (congrArg (fun z : QD => z.2.2.2) g)))
  clear hy0
  obtain ⟨p_B0_0, p_B0_1, p_B0_2, p_B0_3⟩ := cls4 B0.out
  obtain ⟨p_B1_0, p_B1_1, p_B1_2, p_B1_3⟩ := cls4 B1.out
  go_wp2
  clear p_B0_0 p_B0_1 p_B0_2 p_B0_3 p_B1_0 p_B1_1 p_B1_2 p_B1_3
  go_ret
  exact ⟨ret_b HF.out.symm, d.out⟩
 rw [hy0]
 have HY0 := Lib.hid hy0
 clear hy0
 obtain ⟨p_B0_0, p_B0_1, p_B0_2, p_B0_3⟩ := cls4 B0.out
 obtain ⟨p_B1_0, p_B1_1, p_B1_2, p_B1_3⟩ := cls4 B1.out
 go_wp2
 clear p_B0_0 p_B0_1 p_B0_2 p_B0_3 p_B1_0 p_B1_1 p_B1_2 p_B1_3
 go_loopw [5] (fun i wr => ∃ k : Nat, k ≤ x2.length ∧ i = .int .i64 k ∧ Hid (∀ j, j < k → x2.getD j (0, 0, 0) = y2.getD j (0, 0, 0)) ∧ Below W1.heap.size W1 wr) (fun i _ => x2.length - (intOf i).toNat)
 case atStart => exact ⟨0, Nat.zero_le _, rfl, Lib.hid (fun j hj => absurd hj (Nat.not_lt_zero j)), Below.refl _ _⟩
 case round =>
  obtain ⟨k, hk, rfl, hno, c⟩ := hrel
  have cw := Lib.hid c
  replace B0 := Lib.hid ((c.block w.heap.size (Array.getElem?_eq_some_iff.1 B0.out).1).trans B0.out)
  replace d := Lib.hid (d.out.trans (c.mono d.out.size))
  clear c
  replace B1 := Lib.hid ((cw.out.block (w.heap.size + 1) (Array.getElem?_eq_some_iff.1 B1.out).1).trans B1.out)
  by_cases hlt : k < x2.length
  ·
   have hlt2 : k < y2.length := by have := HZ2.out; omega
   have i1 : (0 : Int) ≤ (k : Int) := by omega
   have i2 : (k : Int) < (x2.length : Int) := by omega
   have i3 : (k : Int) < (y2.length : Int) := by omega
   obtain ⟨b, off, cap', hv, hbl, ce0, ce1, ce2⟩ := cond_at H2.out hlt
   simp only [Value.slice.injEq] at hv
   obtain ⟨rfl, _, rfl⟩ := hv
   obtain ⟨b2, off2, cap2, hv, hbl2, cg0, cg1, cg2⟩ := cond_at G2.out hlt2
   simp only [Value.slice.injEq] at hv
   obtain ⟨rfl, _, rfl⟩ := hv
   have BL := Lib.hid hbl; have BL2 := Lib.hid hbl2
   clear hbl hbl2
   clear hlt hlt2
   obtain ⟨p_B0_0, p_B0_1, p_B0_2, p_B0_3⟩ := cls4 B0.out
   obtain ⟨p_B1_0, p_B1_1, p_B1_2, p_B1_3⟩ := cls4 B1.out
   go_wp2
   clear p_B0_0 p_B0_1 p_B0_2 p_B0_3 p_B1_0 p_B1_1 p_B1_2 p_B1_3
   by_cases he : x2.getD k (0, 0, 0) = y2.getD k (0, 0, 0)
   ·
    have HA : Hid (∀ j, j < k + 1 → x2.getD j (0, 0, 0) = y2.getD j (0, 0, 0)) := Lib.hid (fun j hj => by
     by_cases e : j = k
     ·
      rw [e]; exact he
     ·
      exact hno.out j (by omega))
    rw [← he] at cg0 cg1 cg2
    clear he hno
    generalize x2.getD k (0, 0, 0) = x at *
    obtain ⟨k0, k1, k2⟩ := x
    dsimp only at *
    have C0 := Lib.hid ce0; have C1 := Lib.hid ce1; have C2 := Lib.hid ce2; have D0 := Lib.hid cg0; have D1 := Lib.hid cg1; have D2 := Lib.hid cg2
    clear ce0 ce1 ce2 cg0 cg1 cg2
    have hcc := cond_eq k0 k1 k2
    obtain ⟨p_B0_0, p_B0_1, p_B0_2, p_B0_3⟩ := cls4 B0.out
    obtain ⟨p_B1_0, p_B1_1, p_B1_2, p_B1_3⟩ := cls4 B1.out
    have p_C0 := (d.out.cell (p := ⟨b, off + k * 3, none⟩) BL.out).trans C0.out
    have p_C1 := (d.out.cell (p := ⟨b, off + k * 3 + 1, none⟩) BL.out).trans C1.out
    have p_C2 := (d.out.cell (p := ⟨b, off + k * 3 + 2, none⟩) BL.out).trans C2.out
    have p_D0 := (d.out.cell (p := ⟨b2, off2 + k * 3, none⟩) BL2.out).trans D0.out
    have p_D1 := (d.out.cell (p := ⟨b2, off2 + k * 3 + 1, none⟩) BL2.out).trans D1.out
    have p_D2 := (d.out.cell (p := ⟨b2, off2 + k * 3 + 2, none⟩) BL2.out).trans D2.out
    refine wp_region_held_drew (S := fun w' => w'.cell? ⟨w.heap.size, 0, none⟩ = some (Value.int .i64 a0) ∧ w'.cell? ⟨w.heap.size, 1, none⟩ = some (Value.int .i64 a1) ∧ w'.cell? ⟨w.heap.size, 2, none⟩ = some (Value.slice (some ⟨b, off, none⟩) x2.length c2) ∧ w'.cell? ⟨w.heap.size, 3, none⟩ = some (Value.slice p3 x3.length c3) ∧ w'.cell? ⟨(w.heap.size + 1), 0, none⟩ = some (Value.int .i64 b0) ∧ w'.cell? ⟨(w.heap.size + 1), 1, none⟩ = some (Value.int .i64 b1) ∧ w'.cell? ⟨(w.heap.size + 1), 2, none⟩ = some (Value.slice (some ⟨b2, off2, none⟩) y2.length e2) ∧ w'.cell? ⟨(w.heap.size + 1), 3, none⟩ = some (Value.slice r3 y3.length e3) ∧ w'.cell? ⟨b, off + k * 3, none⟩ = some (Value.int .i64 k0) ∧ w'.cell? ⟨b, off + k * 3 + 1, none⟩ = some (Value.int .i64 k1) ∧ w'.cell? ⟨b, off + k * 3 + 2, none⟩ = some (Value.int .i64 k2) ∧ w'.cell? ⟨b2, off2 + k * 3, none⟩ = some (Value.int .i64 k0) ∧ w'.cell? ⟨b2, off2 + k * 3 + 1, none⟩ = some (Value.int .i64 k1) ∧ w'.cell? ⟨b2, off2 + k * 3 + 2, none⟩ = some (Value.int .i64 k2)) (by kernel_rfl) ⟨p_B0_0, p_B0_1, p_B0_2, p_B0_3, p_B1_0, p_B1_1, p_B1_2, p_B1_3, p_C0, p_C1, p_C2, p_D0, p_D1, p_D2⟩ (fun hHeld => ?_)
    clear p_B0_0 p_B0_1 p_B0_2 p_B0_3 p_B1_0 p_B1_1 p_B1_2 p_B1_3 p_C0 p_C1 p_C2 p_D0 p_D1 p_D2
    have cdr : Below wr.heap.size wr wr.drew := below_drew (Below.refl _ _)
    replace B0 := Lib.hid ((cdr.block w.heap.size (Array.getElem?_eq_some_iff.1 B0.out).1).trans B0.out)
    replace B1 := Lib.hid ((cdr.block (w.heap.size + 1) (Array.getElem?_eq_some_iff.1 B1.out).1).trans B1.out)
    replace d := Lib.hid (d.out.trans (cdr.mono d.out.size))
    clear cdr
    refine tR (i := 0) (v := ?_) ?_ ?_; rotate_left
    ·
     intro w hSw; (try dsimp only at hSw); go_simp; try (with_reducible rfl)
    try simp only [Act.put, lA, lB, lC]
    refine tR (i := 1) (v := ?_) ?_ ?_; rotate_left
    ·
     intro w hSw; (try dsimp only at hSw); go_simp; try (with_reducible rfl)
    try simp only [Act.put, lA, lB, lC]
    refine tR (i := 2) (v := ?_) ?_ ?_; rotate_left
    ·
     intro w hSw; (try dsimp only at hSw); go_simp; try (with_reducible rfl)
    try simp only [Act.put, lA, lB, lC]
    refine tR (i := 3) (v := ?_) ?_ ?_; rotate_left
    ·
     intro w hSw; (try dsimp only at hSw); go_simp; try (with_reducible rfl)
    try simp only [Act.put, lA, lB, lC]
    refine tR (i := 4) (v := ?_) ?_ ?_; rotate_left
    ·
     intro w hSw; (try dsimp only at hSw); go_simp; try (with_reducible rfl)
    try simp only [Act.put, lA, lB, lC]
    refine tR (i := 5) (v := ?_) ?_ ?_; rotate_left
    ·
     intro w hSw; (try dsimp only at hSw); go_simp; try (with_reducible rfl)
    try simp only [Act.put, lA, lB, lC]
    refine tR (i := 6) (v := ?_) ?_ ?_; rotate_left
    ·
     intro w hSw; (try dsimp only at hSw); go_simp; try (with_reducible rfl)
    try simp only [Act.put, lA, lB, lC]
    refine tR (i := 7) (v := ?_) ?_ ?_; rotate_left
    ·
     intro w hSw; (try dsimp only at hSw); go_simp; try (with_reducible rfl)
    try simp only [Act.put, lA, lB, lC]
    refine tR (i := 8) (v := ?_) ?_ ?_; rotate_left
    ·
     intro w hSw; (try dsimp only at hSw); go_simp; try (with_reducible rfl)
    try simp only [Act.put, lA, lB, lC]
    refine tR (i := 9) (v := ?_) ?_ ?_; rotate_left
    ·
     intro w hSw; (try dsimp only at hSw); go_simp; try (with_reducible rfl)
    try simp only [Act.put, lA, lB, lC]
    refine tR (i := 10) (v := .bool false) ?_ ?_
    ·
     intro w hSw; (try dsimp only at hSw); go_simp; all_goals first | (with_reducible rfl) | (rw [hcc]; done) | (simpa using hcc) | (simp [hcc]; done) | (simp; omega)
    try simp only [Act.put, lA, lB, lC]
    refine wpAnyH_done (by kernel_rfl) ?_ _
    clear hHeld
    go_wp2
    go_roundw
    case rel => exact ⟨k + 1, by omega, by go_num, HA, below_dn cw.out 1⟩
    case measure => simp [intOf]; omega
   ·
    have HNE := Lib.hid (list_neq (xs := x2) (ys := y2) (0, 0, 0) he)
    clear hno
    generalize x2.getD k (0, 0, 0) = x at *
    generalize y2.getD k (0, 0, 0) = y at *
    obtain ⟨k0, k1, k2⟩ := x
    obtain ⟨l0, l1, l2⟩ := y
    dsimp only at *
    have hcc := cond_ne he
    have C0 := Lib.hid ce0; have C1 := Lib.hid ce1; have C2 := Lib.hid ce2; have D0 := Lib.hid cg0; have D1 := Lib.hid cg1; have D2 := Lib.hid cg2
    clear ce0 ce1 ce2 cg0 cg1 cg2 he
    obtain ⟨p_B0_0, p_B0_1, p_B0_2, p_B0_3⟩ := cls4 B0.out
    obtain ⟨p_B1_0, p_B1_1, p_B1_2, p_B1_3⟩ := cls4 B1.out
    have p_C0 := (d.out.cell (p := ⟨b, off + k * 3, none⟩) BL.out).trans C0.out
    have p_C1 := (d.out.cell (p := ⟨b, off + k * 3 + 1, none⟩) BL.out).trans C1.out
    have p_C2 := (d.out.cell (p := ⟨b, off + k * 3 + 2, none⟩) BL.out).trans C2.out
    have p_D0 := (d.out.cell (p := ⟨b2, off2 + k * 3, none⟩) BL2.out).trans D0.out
    have p_D1 := (d.out.cell (p := ⟨b2, off2 + k * 3 + 1, none⟩) BL2.out).trans D1.out
    have p_D2 := (d.out.cell (p := ⟨b2, off2 + k * 3 + 2, none⟩) BL2.out).trans D2.out
    refine wp_region_held_drew (S := fun w' => w'.cell? ⟨w.heap.size, 0, none⟩ = some (Value.int .i64 a0) ∧ w'.cell? ⟨w.heap.size, 1, none⟩ = some (Value.int .i64 a1) ∧ w'.cell? ⟨w.heap.size, 2, none⟩ = some (Value.slice (some ⟨b, off, none⟩) x2.length c2) ∧ w'.cell? ⟨w.heap.size, 3, none⟩ = some (Value.slice p3 x3.length c3) ∧ w'.cell? ⟨(w.heap.size + 1), 0, none⟩ = some (Value.int .i64 b0) ∧ w'.cell? ⟨(w.heap.size + 1), 1, none⟩ = some (Value.int .i64 b1) ∧ w'.cell? ⟨(w.heap.size + 1), 2, none⟩ = some (Value.slice (some ⟨b2, off2, none⟩) y2.length e2) ∧ w'.cell? ⟨(w.heap.size + 1), 3, none⟩ = some (Value.slice r3 y3.length e3) ∧ w'.cell? ⟨b, off + k * 3, none⟩ = some (Value.int .i64 k0) ∧ w'.cell? ⟨b, off + k * 3 + 1, none⟩ = some (Value.int .i64 k1) ∧ w'.cell? ⟨b, off + k * 3 + 2, none⟩ = some (Value.int .i64 k2) ∧ w'.cell? ⟨b2, off2 + k * 3, none⟩ = some (Value.int .i64 l0) ∧ w'.cell? ⟨b2, off2 + k * 3 + 1, none⟩ = some (Value.int .i64 l1) ∧ w'.cell? ⟨b2, off2 + k * 3 + 2, none⟩ = some (Value.int .i64 l2)) (by kernel_rfl) ⟨p_B0_0, p_B0_1, p_B0_2, p_B0_3, p_B1_0, p_B1_1, p_B1_2, p_B1_3, p_C0, p_C1, p_C2, p_D0, p_D1, p_D2⟩ (fun hHeld => ?_)
    clear p_B0_0 p_B0_1 p_B0_2 p_B0_3 p_B1_0 p_B1_1 p_B1_2 p_B1_3 p_C0 p_C1 p_C2 p_D0 p_D1 p_D2
    have cdr : Below wr.heap.size wr wr.drew := below_drew (Below.refl _ _)
    replace B0 := Lib.hid ((cdr.block w.heap.size (Array.getElem?_eq_some_iff.1 B0.out).1).trans B0.out)
    replace B1 := Lib.hid ((cdr.block (w.heap.size + 1) (Array.getElem?_eq_some_iff.1 B1.out).1).trans B1.out)
    replace d := Lib.hid (d.out.trans (cdr.mono d.out.size))
    clear cdr
    refine tR (i := 0) (v := ?_) ?_ ?_; rotate_left
    ·
     intro w hSw; (try dsimp only at hSw); go_simp; try (with_reducible rfl)
    try simp only [Act.put, lA, lB, lC]
    refine tR (i := 1) (v := ?_) ?_ ?_; rotate_left
    ·
     intro w hSw; (try dsimp only at hSw); go_simp; try (with_reducible rfl)
    try simp only [Act.put, lA, lB, lC]
    refine tR (i := 2) (v := ?_) ?_ ?_; rotate_left
    ·
     intro w hSw; (try dsimp only at hSw); go_simp; try (with_reducible rfl)
    try simp only [Act.put, lA, lB, lC]
    refine tR (i := 3) (v := ?_) ?_ ?_; rotate_left
    ·
     intro w hSw; (try dsimp only at hSw); go_simp; try (with_reducible rfl)
    try simp only [Act.put, lA, lB, lC]
    refine tR (i := 4) (v := ?_) ?_ ?_; rotate_left
    ·
     intro w hSw; (try dsimp only at hSw); go_simp; try (with_reducible rfl)
    try simp only [Act.put, lA, lB, lC]
    refine tR (i := 5) (v := ?_) ?_ ?_; rotate_left
    ·
     intro w hSw; (try dsimp only at hSw); go_simp; try (with_reducible rfl)
    try simp only [Act.put, lA, lB, lC]
    refine tR (i := 6) (v := ?_) ?_ ?_; rotate_left
    ·
     intro w hSw; (try dsimp only at hSw); go_simp; try (with_reducible rfl)
    try simp only [Act.put, lA, lB, lC]
    refine tR (i := 7) (v := ?_) ?_ ?_; rotate_left
    ·
     intro w hSw; (try dsimp only at hSw); go_simp; try (with_reducible rfl)
    try simp only [Act.put, lA, lB, lC]
    refine tR (i := 8) (v := ?_) ?_ ?_; rotate_left
    ·
     intro w hSw; (try dsimp only at hSw); go_simp; try (with_reducible rfl)
    try simp only [Act.put, lA, lB, lC]
    refine tR (i := 9) (v := ?_) ?_ ?_; rotate_left
    ·
     intro w hSw; (try dsimp only at hSw); go_simp; try (with_reducible rfl)
    try simp only [Act.put, lA, lB, lC]
    refine tR (i := 10) (v := .bool true) ?_ ?_
    ·
     intro w hSw; (try dsimp only at hSw); go_simp; all_goals first | (with_reducible rfl) | (rw [hcc]; done) | (simpa using hcc) | (simp [hcc]; done) | (simp; omega)
    try simp only [Act.put, lA, lB, lC]
    refine wpAnyH_done (by kernel_rfl) ?_ _
    clear hHeld
    go_wp2
    go_ret
    exact ⟨ret_b (decide_eq_false (fun g => HNE.out (congrArg (fun z : QD => z.2.2.1) g))).symm, d.out⟩
  ·
   obtain rfl : k = x2.length := by omega
   have HE := Lib.hid (list_eqs (0, 0, 0) HZ2.out hno.out)
   clear hno
   have HT : Hid (decide (((a0, a1, x2, x3) : QD) = (b0, b1, y2, y3)) = true) := Lib.hid (decide_eq_true (by rw [HE.out, HZ0.out, HZ1.out, of_decide_eq_true HY0.out]))
   obtain ⟨p_B0_0, p_B0_1, p_B0_2, p_B0_3⟩ := cls4 B0.out
   obtain ⟨p_B1_0, p_B1_1, p_B1_2, p_B1_3⟩ := cls4 B1.out
   go_wp2
   clear p_B0_0 p_B0_1 p_B0_2 p_B0_3 p_B1_0 p_B1_1 p_B1_2 p_B1_3
   go_ret
   exact ⟨ret_b HT.out.symm, d.out⟩
set_option maxHeartbeats 16000000 in
set_option maxRecDepth 100000 in
theorem specActiveEq (a0 a1 a4 a6 a7 a8 b0 b1 b4 b6 b7 b8 : Int) (v2 v3 v5 v9 u2 u3 u5 u9 : Value) (x2 y2 : List CondD) (x3 y3 : List Int) (x5 y5 : List Int) (x9 y9 : List RowD) (w : World) (h2 : SlR tCond w v2 x2) (h3 : SlR tInt w v3 x3) (h5 : SlR tInt w v5 x5) (h9 : SlR tRow w v9 x9) (g2 : SlR tCond w u2 y2) (g3 : SlR tInt w u3 y3) (g5 : SlR tInt w u5 y5) (g9 : SlR tRow w u9 y9) (s2 : zL tCond x2 ≤ 1048576) (s3 : zL tInt x3 ≤ 1048576) (s5 : zL tInt x5 ≤ 1048576) (s9 : zL tRow x9 ≤ 1048576) (t2 : zL tCond y2 ≤ 1048576) (t3 : zL tInt y3 ≤ 1048576) (t5 : zL tInt y5 ≤ 1048576) (t9 : zL tRow y9 ≤ 1048576) :
  Calls Try.prog 66 #[.agg #[.int .i64 a0, .int .i64 a1, v2, v3, .int .i64 a4, v5, .int .i64 a6, .int .i64 a7, .int .i64 a8, v9], .agg #[.int .i64 b0, .int .i64 b1, u2, u3, .int .i64 b4, u5, .int .i64 b6, .int .i64 b7, .int .i64 b8, u9]] w (fun e w' => e = .returned (.bool (decide ((((a0, a1, x2, x3), a4, x5, a6, a7, a8, x9) : ActD) = ((b0, b1, y2, y3), b4, y5, b6, b7, b8, y9)))) ∧ Below w.heap.size w w') := by
 obtain ⟨p2, c2, rfl⟩ := slR_len h2
 obtain ⟨r2, e2, rfl⟩ := slR_len g2
 have H2 := Lib.hid h2; have G2 := Lib.hid g2; have S2 := Lib.hid s2; have T2 := Lib.hid t2; have n2 := zL_len s2; have m2 := zL_len t2
 obtain ⟨p3, c3, rfl⟩ := slR_len h3
 obtain ⟨r3, e3, rfl⟩ := slR_len g3
 have H3 := Lib.hid h3; have G3 := Lib.hid g3; have S3 := Lib.hid s3; have T3 := Lib.hid t3; have n3 := zL_len s3; have m3 := zL_len t3
 obtain ⟨p5, c5, rfl⟩ := slR_len h5
 obtain ⟨r5, e5, rfl⟩ := slR_len g5
 have H5 := Lib.hid h5; have G5 := Lib.hid g5; have S5 := Lib.hid s5; have T5 := Lib.hid t5; have n5 := zL_len s5; have m5 := zL_len t5
 obtain ⟨p9, c9, rfl⟩ := slR_len h9
 obtain ⟨r9, e9, rfl⟩ := slR_len g9
 have H9 := Lib.hid h9; have G9 := Lib.hid g9; have S9 := Lib.hid s9; have T9 := Lib.hid t9; have n9 := zL_len s9; have m9 := zL_len t9
 clear h2 g2 s2 t2 h3 g3 s3 t3 h5 g5 s5 t5 h9 g9 s9 t9
 have d := Lib.hid (show Below w.heap.size w ((w.alloc (.cells #[.int .i64 a0, .int .i64 a1, .slice p2 x2.length c2, .slice p3 x3.length c3, .int .i64 a4, .slice p5 x5.length c5, .int .i64 a6, .int .i64 a7, .int .i64 a8, .slice p9 x9.length c9] 92)).alloc (.cells #[.int .i64 b0, .int .i64 b1, .slice r2 y2.length e2, .slice r3 y3.length e3, .int .i64 b4, .slice r5 y5.length e5, .int .i64 b6, .int .i64 b7, .int .i64 b8, .slice r9 y9.length e9] 92)) from (((Below.refl _ w).alloc (Nat.le_refl _) _).alloc (by simp) _))
 have B0 : Hid (((w.alloc (.cells #[.int .i64 a0, .int .i64 a1, .slice p2 x2.length c2, .slice p3 x3.length c3, .int .i64 a4, .slice p5 x5.length c5, .int .i64 a6, .int .i64 a7, .int .i64 a8, .slice p9 x9.length c9] 92)).alloc (.cells #[.int .i64 b0, .int .i64 b1, .slice r2 y2.length e2, .slice r3 y3.length e3, .int .i64 b4, .slice r5 y5.length e5, .int .i64 b6, .int .i64 b7, .int .i64 b8, .slice r9 y9.length e9] 92)).heap[w.heap.size]? = some (.cells #[.int .i64 a0, .int .i64 a1, .slice p2 x2.length c2, .slice p3 x3.length c3, .int .i64 a4, .slice p5 x5.length c5, .int .i64 a6, .int .i64 a7, .int .i64 a8, .slice p9 x9.length c9] 92 (0, 0))) := Lib.hid (by
  rw [Below.heap_alloc _ _ _ (by simp)]
  exact heap_alloc_new w _)
 have B1 : Hid (((w.alloc (.cells #[.int .i64 a0, .int .i64 a1, .slice p2 x2.length c2, .slice p3 x3.length c3, .int .i64 a4, .slice p5 x5.length c5, .int .i64 a6, .int .i64 a7, .int .i64 a8, .slice p9 x9.length c9] 92)).alloc (.cells #[.int .i64 b0, .int .i64 b1, .slice r2 y2.length e2, .slice r3 y3.length e3, .int .i64 b4, .slice r5 y5.length e5, .int .i64 b6, .int .i64 b7, .int .i64 b8, .slice r9 y9.length e9] 92)).heap[(w.heap.size + 1)]? = some (.cells #[.int .i64 b0, .int .i64 b1, .slice r2 y2.length e2, .slice r3 y3.length e3, .int .i64 b4, .slice r5 y5.length e5, .int .i64 b6, .int .i64 b7, .int .i64 b8, .slice r9 y9.length e9] 92 (0, 0))) := Lib.hid (by
  have := heap_alloc_new (w.alloc (.cells #[.int .i64 a0, .int .i64 a1, .slice p2 x2.length c2, .slice p3 x3.length c3, .int .i64 a4, .slice p5 x5.length c5, .int .i64 a6, .int .i64 a7, .int .i64 a8, .slice p9 x9.length c9] 92)) (.cells #[.int .i64 b0, .int .i64 b1, .slice r2 y2.length e2, .slice r3 y3.length e3, .int .i64 b4, .slice r5 y5.length e5, .int .i64 b6, .int .i64 b7, .int .i64 b8, .slice r9 y9.length e9] 92)
  simpa only [World.size_alloc] using this)
 have YW : Hid (w.heap.size + 2 ≤ ((w.alloc (.cells #[.int .i64 a0, .int .i64 a1, .slice p2 x2.length c2, .slice p3 x3.length c3, .int .i64 a4, .slice p5 x5.length c5, .int .i64 a6, .int .i64 a7, .int .i64 a8, .slice p9 x9.length c9] 92)).alloc (.cells #[.int .i64 b0, .int .i64 b1, .slice r2 y2.length e2, .slice r3 y3.length e3, .int .i64 b4, .slice r5 y5.length e5, .int .i64 b6, .int .i64 b7, .int .i64 b8, .slice r9 y9.length e9] 92)).heap.size) := Lib.hid (by simp [World.size_alloc])
 go_enter Try.func66, Try.ntmps66
 go_wp2_with fail
 generalize ((w.alloc (.cells #[.int .i64 a0, .int .i64 a1, .slice p2 x2.length c2, .slice p3 x3.length c3, .int .i64 a4, .slice p5 x5.length c5, .int .i64 a6, .int .i64 a7, .int .i64 a8, .slice p9 x9.length c9] 92)).alloc (.cells #[.int .i64 b0, .int .i64 b1, .slice r2 y2.length e2, .slice r3 y3.length e3, .int .i64 b4, .slice r5 y5.length e5, .int .i64 b6, .int .i64 b7, .int .i64 b8, .slice r9 y9.length e9] 92)) = W at *
 refine (specQueryEq a0 a1 b0 b1 (.slice p2 x2.length c2) (.slice p3 x3.length c3) (.slice r2 y2.length e2) (.slice r3 y3.length e3) x2 y2 x3 y3 W (slR_below tCond_law H2.out d.out) (slR_below tInt_law H3.out d.out) (slR_below tCond_law G2.out d.out) (slR_below tInt_law G3.out d.out) S2.out S3.out T2.out T3.out).mono ?_
 rintro e W1 ⟨rfl, c⟩
 replace B0 := Lib.hid ((c.block w.heap.size (Array.getElem?_eq_some_iff.1 B0.out).1).trans B0.out)
 replace B1 := Lib.hid ((c.block (w.heap.size + 1) (Array.getElem?_eq_some_iff.1 B1.out).1).trans B1.out)
 replace d := Lib.hid (d.out.trans (c.mono d.out.size))
 have Z_W1 := Lib.hid (show W.heap.size ≤ W1.heap.size from c.size)
 clear c
 rcases Bool.eq_false_or_eq_true (decide (((a0, a1, x2, x3) : QD) = (b0, b1, y2, y3))) with hy0 | hy0
 rotate_left
 ·
  rw [hy0]
  have HF := Lib.hid (decide_eq_false (show ¬ ((((a0, a1, x2, x3), a4, x5, a6, a7, a8, x9) : ActD) = ((b0, b1, y2, y3), b4, y5, b6, b7, b8, y9)) from fun g => of_decide_eq_false hy0 (congrArg (fun z : ActD => z.1) g)))
  clear hy0
  obtain ⟨p_B0_0, p_B0_1, p_B0_2, p_B0_3, p_B0_4, p_B0_5, p_B0_6, p_B0_7, p_B0_8, p_B0_9⟩ := cls10 B0.out
  obtain ⟨p_B1_0, p_B1_1, p_B1_2, p_B1_3, p_B1_4, p_B1_5, p_B1_6, p_B1_7, p_B1_8, p_B1_9⟩ := cls10 B1.out
  go_wp2
  clear p_B0_0 p_B0_1 p_B0_2 p_B0_3 p_B0_4 p_B0_5 p_B0_6 p_B0_7 p_B0_8 p_B0_9 p_B1_0 p_B1_1 p_B1_2 p_B1_3 p_B1_4 p_B1_5 p_B1_6 p_B1_7 p_B1_8 p_B1_9
  go_ret
  exact ⟨ret_b HF.out.symm, d.out⟩
 rw [hy0]
 have HY0 := Lib.hid hy0
 clear hy0
 by_cases hh0 : a4 = b4
 rotate_left
 ·
  have HF := Lib.hid (decide_eq_false (show ¬ ((((a0, a1, x2, x3), a4, x5, a6, a7, a8, x9) : ActD) = ((b0, b1, y2, y3), b4, y5, b6, b7, b8, y9)) from fun g => hh0 (congrArg (fun z : ActD => z.2.1) g)))
  have f0a : (a4 == b4) = false := by rw [beq_eq_false_iff_ne]; exact hh0
  have f0b : (a4 != b4) = true := by rw [bne_iff_ne]; exact hh0
  clear hh0
  obtain ⟨p_B0_0, p_B0_1, p_B0_2, p_B0_3, p_B0_4, p_B0_5, p_B0_6, p_B0_7, p_B0_8, p_B0_9⟩ := cls10 B0.out
  obtain ⟨p_B1_0, p_B1_1, p_B1_2, p_B1_3, p_B1_4, p_B1_5, p_B1_6, p_B1_7, p_B1_8, p_B1_9⟩ := cls10 B1.out
  go_wp2
  clear p_B0_0 p_B0_1 p_B0_2 p_B0_3 p_B0_4 p_B0_5 p_B0_6 p_B0_7 p_B0_8 p_B0_9 p_B1_0 p_B1_1 p_B1_2 p_B1_3 p_B1_4 p_B1_5 p_B1_6 p_B1_7 p_B1_8 p_B1_9
  go_ret
  exact ⟨ret_b HF.out.symm, d.out⟩
 have f0a : (a4 == b4) = true := by rw [beq_iff_eq]; exact hh0
 have f0b : (a4 != b4) = false := by rw [bne_eq_false_iff_eq]; exact hh0
 have HH0 := Lib.hid hh0
 clear hh0
 obtain ⟨p_B0_0, p_B0_1, p_B0_2, p_B0_3, p_B0_4, p_B0_5, p_B0_6, p_B0_7, p_B0_8, p_B0_9⟩ := cls10 B0.out
 obtain ⟨p_B1_0, p_B1_1, p_B1_2, p_B1_3, p_B1_4, p_B1_5, p_B1_6, p_B1_7, p_B1_8, p_B1_9⟩ := cls10 B1.out
 go_wp2_with fail
 clear p_B0_0 p_B0_1 p_B0_2 p_B0_3 p_B0_4 p_B0_5 p_B0_6 p_B0_7 p_B0_8 p_B0_9 p_B1_0 p_B1_1 p_B1_2 p_B1_3 p_B1_4 p_B1_5 p_B1_6 p_B1_7 p_B1_8 p_B1_9 f0a f0b
 refine (specInts (.slice p5 x5.length c5) (.slice r5 y5.length e5) x5 y5 W1 (slR_ints (slR_below tInt_law H5.out d.out)) (slR_ints (slR_below tInt_law G5.out d.out)) n5 m5).mono ?_
 rintro e W2 ⟨rfl, c⟩
 replace B0 := Lib.hid ((c.block w.heap.size (Array.getElem?_eq_some_iff.1 B0.out).1).trans B0.out)
 replace B1 := Lib.hid ((c.block (w.heap.size + 1) (Array.getElem?_eq_some_iff.1 B1.out).1).trans B1.out)
 replace d := Lib.hid (d.out.trans (c.mono d.out.size))
 have Z_W2 := Lib.hid (show W1.heap.size ≤ W2.heap.size from c.size)
 clear c
 rcases Bool.eq_false_or_eq_true (decide (x5 = y5)) with hh1 | hh1
 rotate_left
 ·
  rw [hh1]
  have HF := Lib.hid (decide_eq_false (show ¬ ((((a0, a1, x2, x3), a4, x5, a6, a7, a8, x9) : ActD) = ((b0, b1, y2, y3), b4, y5, b6, b7, b8, y9)) from fun g => of_decide_eq_false hh1 (congrArg (fun z : ActD => z.2.2.1) g)))
  clear hh1
  obtain ⟨p_B0_0, p_B0_1, p_B0_2, p_B0_3, p_B0_4, p_B0_5, p_B0_6, p_B0_7, p_B0_8, p_B0_9⟩ := cls10 B0.out
  obtain ⟨p_B1_0, p_B1_1, p_B1_2, p_B1_3, p_B1_4, p_B1_5, p_B1_6, p_B1_7, p_B1_8, p_B1_9⟩ := cls10 B1.out
  go_wp2
  clear p_B0_0 p_B0_1 p_B0_2 p_B0_3 p_B0_4 p_B0_5 p_B0_6 p_B0_7 p_B0_8 p_B0_9 p_B1_0 p_B1_1 p_B1_2 p_B1_3 p_B1_4 p_B1_5 p_B1_6 p_B1_7 p_B1_8 p_B1_9
  go_ret
  exact ⟨ret_b HF.out.symm, d.out⟩
 rw [hh1]
 have HH1 := Lib.hid hh1
 clear hh1
 by_cases hh2 : a6 = b6
 rotate_left
 ·
  have HF := Lib.hid (decide_eq_false (show ¬ ((((a0, a1, x2, x3), a4, x5, a6, a7, a8, x9) : ActD) = ((b0, b1, y2, y3), b4, y5, b6, b7, b8, y9)) from fun g => hh2 (congrArg (fun z : ActD => z.2.2.2.1) g)))
  have f2a : (a6 == b6) = false := by rw [beq_eq_false_iff_ne]; exact hh2
  have f2b : (a6 != b6) = true := by rw [bne_iff_ne]; exact hh2
  clear hh2
  obtain ⟨p_B0_0, p_B0_1, p_B0_2, p_B0_3, p_B0_4, p_B0_5, p_B0_6, p_B0_7, p_B0_8, p_B0_9⟩ := cls10 B0.out
  obtain ⟨p_B1_0, p_B1_1, p_B1_2, p_B1_3, p_B1_4, p_B1_5, p_B1_6, p_B1_7, p_B1_8, p_B1_9⟩ := cls10 B1.out
  go_wp2
  clear p_B0_0 p_B0_1 p_B0_2 p_B0_3 p_B0_4 p_B0_5 p_B0_6 p_B0_7 p_B0_8 p_B0_9 p_B1_0 p_B1_1 p_B1_2 p_B1_3 p_B1_4 p_B1_5 p_B1_6 p_B1_7 p_B1_8 p_B1_9
  go_ret
  exact ⟨ret_b HF.out.symm, d.out⟩
 have f2a : (a6 == b6) = true := by rw [beq_iff_eq]; exact hh2
 have f2b : (a6 != b6) = false := by rw [bne_eq_false_iff_eq]; exact hh2
 have HH2 := Lib.hid hh2
 clear hh2
 by_cases hh3 : a7 = b7
 rotate_left
 ·
  have HF := Lib.hid (decide_eq_false (show ¬ ((((a0, a1, x2, x3), a4, x5, a6, a7, a8, x9) : ActD) = ((b0, b1, y2, y3), b4, y5, b6, b7, b8, y9)) from fun g => hh3 (congrArg (fun z : ActD => z.2.2.2.2.1) g)))
  have f3a : (a7 == b7) = false := by rw [beq_eq_false_iff_ne]; exact hh3
  have f3b : (a7 != b7) = true := by rw [bne_iff_ne]; exact hh3
  clear hh3
  obtain ⟨p_B0_0, p_B0_1, p_B0_2, p_B0_3, p_B0_4, p_B0_5, p_B0_6, p_B0_7, p_B0_8, p_B0_9⟩ := cls10 B0.out
  obtain ⟨p_B1_0, p_B1_1, p_B1_2, p_B1_3, p_B1_4, p_B1_5, p_B1_6, p_B1_7, p_B1_8, p_B1_9⟩ := cls10 B1.out
  go_wp2
  clear p_B0_0 p_B0_1 p_B0_2 p_B0_3 p_B0_4 p_B0_5 p_B0_6 p_B0_7 p_B0_8 p_B0_9 p_B1_0 p_B1_1 p_B1_2 p_B1_3 p_B1_4 p_B1_5 p_B1_6 p_B1_7 p_B1_8 p_B1_9
  go_ret
  exact ⟨ret_b HF.out.symm, d.out⟩
 have f3a : (a7 == b7) = true := by rw [beq_iff_eq]; exact hh3
 have f3b : (a7 != b7) = false := by rw [bne_eq_false_iff_eq]; exact hh3
 have HH3 := Lib.hid hh3
 clear hh3
 by_cases hh4 : a8 = b8
 rotate_left
 ·
  have HF := Lib.hid (decide_eq_false (show ¬ ((((a0, a1, x2, x3), a4, x5, a6, a7, a8, x9) : ActD) = ((b0, b1, y2, y3), b4, y5, b6, b7, b8, y9)) from fun g => hh4 (congrArg (fun z : ActD => z.2.2.2.2.2.1) g)))
  have f4a : (a8 == b8) = false := by rw [beq_eq_false_iff_ne]; exact hh4
  have f4b : (a8 != b8) = true := by rw [bne_iff_ne]; exact hh4
  clear hh4
  obtain ⟨p_B0_0, p_B0_1, p_B0_2, p_B0_3, p_B0_4, p_B0_5, p_B0_6, p_B0_7, p_B0_8, p_B0_9⟩ := cls10 B0.out
  obtain ⟨p_B1_0, p_B1_1, p_B1_2, p_B1_3, p_B1_4, p_B1_5, p_B1_6, p_B1_7, p_B1_8, p_B1_9⟩ := cls10 B1.out
  go_wp2
  clear p_B0_0 p_B0_1 p_B0_2 p_B0_3 p_B0_4 p_B0_5 p_B0_6 p_B0_7 p_B0_8 p_B0_9 p_B1_0 p_B1_1 p_B1_2 p_B1_3 p_B1_4 p_B1_5 p_B1_6 p_B1_7 p_B1_8 p_B1_9
  go_ret
  exact ⟨ret_b HF.out.symm, d.out⟩
 have f4a : (a8 == b8) = true := by rw [beq_iff_eq]; exact hh4
 have f4b : (a8 != b8) = false := by rw [bne_eq_false_iff_eq]; exact hh4
 have HH4 := Lib.hid hh4
 clear hh4
 obtain ⟨p_B0_0, p_B0_1, p_B0_2, p_B0_3, p_B0_4, p_B0_5, p_B0_6, p_B0_7, p_B0_8, p_B0_9⟩ := cls10 B0.out
 obtain ⟨p_B1_0, p_B1_1, p_B1_2, p_B1_3, p_B1_4, p_B1_5, p_B1_6, p_B1_7, p_B1_8, p_B1_9⟩ := cls10 B1.out
 go_wp2_with fail
 clear p_B0_0 p_B0_1 p_B0_2 p_B0_3 p_B0_4 p_B0_5 p_B0_6 p_B0_7 p_B0_8 p_B0_9 p_B1_0 p_B1_1 p_B1_2 p_B1_3 p_B1_4 p_B1_5 p_B1_6 p_B1_7 p_B1_8 p_B1_9 f2a f2b f3a f3b f4a f4b
 refine (specEqRows (.slice p9 x9.length c9) (.slice r9 y9.length e9) x9 y9 W2 (slR_rows (slR_below tRow_law H9.out d.out)) (slR_rows (slR_below tRow_law G9.out d.out)) (by rw [← zL_rows]; exact S9.out) (by rw [← zL_rows]; exact T9.out)).mono ?_
 rintro e W3 ⟨rfl, c⟩
 replace B0 := Lib.hid ((c.block w.heap.size (Array.getElem?_eq_some_iff.1 B0.out).1).trans B0.out)
 replace B1 := Lib.hid ((c.block (w.heap.size + 1) (Array.getElem?_eq_some_iff.1 B1.out).1).trans B1.out)
 replace d := Lib.hid (d.out.trans (c.mono d.out.size))
 have Z_W3 := Lib.hid (show W2.heap.size ≤ W3.heap.size from c.size)
 clear c
 rcases Bool.eq_false_or_eq_true (decide (x9 = y9)) with hh5 | hh5
 rotate_left
 ·
  rw [hh5]
  have HF := Lib.hid (decide_eq_false (show ¬ ((((a0, a1, x2, x3), a4, x5, a6, a7, a8, x9) : ActD) = ((b0, b1, y2, y3), b4, y5, b6, b7, b8, y9)) from fun g => of_decide_eq_false hh5 (congrArg (fun z : ActD => z.2.2.2.2.2.2) g)))
  clear hh5
  obtain ⟨p_B0_0, p_B0_1, p_B0_2, p_B0_3, p_B0_4, p_B0_5, p_B0_6, p_B0_7, p_B0_8, p_B0_9⟩ := cls10 B0.out
  obtain ⟨p_B1_0, p_B1_1, p_B1_2, p_B1_3, p_B1_4, p_B1_5, p_B1_6, p_B1_7, p_B1_8, p_B1_9⟩ := cls10 B1.out
  go_wp2
  clear p_B0_0 p_B0_1 p_B0_2 p_B0_3 p_B0_4 p_B0_5 p_B0_6 p_B0_7 p_B0_8 p_B0_9 p_B1_0 p_B1_1 p_B1_2 p_B1_3 p_B1_4 p_B1_5 p_B1_6 p_B1_7 p_B1_8 p_B1_9
  go_ret
  exact ⟨ret_b HF.out.symm, d.out⟩
 rw [hh5]
 have HH5 := Lib.hid hh5
 clear hh5
 have HT : Hid (decide ((((a0, a1, x2, x3), a4, x5, a6, a7, a8, x9) : ActD) = ((b0, b1, y2, y3), b4, y5, b6, b7, b8, y9)) = true) := Lib.hid (decide_eq_true (by rw [of_decide_eq_true HY0.out, HH0.out, of_decide_eq_true HH1.out, HH2.out, HH3.out, HH4.out, of_decide_eq_true HH5.out]))
 obtain ⟨p_B0_0, p_B0_1, p_B0_2, p_B0_3, p_B0_4, p_B0_5, p_B0_6, p_B0_7, p_B0_8, p_B0_9⟩ := cls10 B0.out
 obtain ⟨p_B1_0, p_B1_1, p_B1_2, p_B1_3, p_B1_4, p_B1_5, p_B1_6, p_B1_7, p_B1_8, p_B1_9⟩ := cls10 B1.out
 go_wp2
 clear p_B0_0 p_B0_1 p_B0_2 p_B0_3 p_B0_4 p_B0_5 p_B0_6 p_B0_7 p_B0_8 p_B0_9 p_B1_0 p_B1_1 p_B1_2 p_B1_3 p_B1_4 p_B1_5 p_B1_6 p_B1_7 p_B1_8 p_B1_9
 go_ret
 exact ⟨ret_b HT.out.symm, d.out⟩
set_option maxHeartbeats 16000000 in
set_option maxRecDepth 100000 in
theorem implActiveEq (a0 a1 a4 a6 a7 a8 b0 b1 b4 b6 b7 b8 : Int) (v2 v3 v5 v9 u2 u3 u5 u9 : Value) (x2 y2 : List CondD) (x3 y3 : List Int) (x5 y5 : List Int) (x9 y9 : List RowD) (w : World) (h2 : SlR tCond w v2 x2) (h3 : SlR tInt w v3 x3) (h5 : SlR tInt w v5 x5) (h9 : SlR tRow w v9 x9) (g2 : SlR tCond w u2 y2) (g3 : SlR tInt w u3 y3) (g5 : SlR tInt w u5 y5) (g9 : SlR tRow w u9 y9) (s2 : zL tCond x2 ≤ 1048576) (s3 : zL tInt x3 ≤ 1048576) (s5 : zL tInt x5 ≤ 1048576) (s9 : zL tRow x9 ≤ 1048576) (t2 : zL tCond y2 ≤ 1048576) (t3 : zL tInt y3 ≤ 1048576) (t5 : zL tInt y5 ≤ 1048576) (t9 : zL tRow y9 ≤ 1048576) :
  Calls Try.prog 73 #[.agg #[.int .i64 a0, .int .i64 a1, v2, v3, .int .i64 a4, v5, .int .i64 a6, .int .i64 a7, .int .i64 a8, v9], .agg #[.int .i64 b0, .int .i64 b1, u2, u3, .int .i64 b4, u5, .int .i64 b6, .int .i64 b7, .int .i64 b8, u9]] w (fun e w' => e = .returned (.bool (decide ((((a0, a1, x2, x3), a4, x5, a6, a7, a8, x9) : ActD) = ((b0, b1, y2, y3), b4, y5, b6, b7, b8, y9)))) ∧ Below w.heap.size w w') := by
 obtain ⟨p2, c2, rfl⟩ := slR_len h2
 obtain ⟨r2, e2, rfl⟩ := slR_len g2
 have H2 := Lib.hid h2; have G2 := Lib.hid g2; have S2 := Lib.hid s2; have T2 := Lib.hid t2; have n2 := zL_len s2; have m2 := zL_len t2
 obtain ⟨p3, c3, rfl⟩ := slR_len h3
 obtain ⟨r3, e3, rfl⟩ := slR_len g3
 have H3 := Lib.hid h3; have G3 := Lib.hid g3; have S3 := Lib.hid s3; have T3 := Lib.hid t3; have n3 := zL_len s3; have m3 := zL_len t3
 obtain ⟨p5, c5, rfl⟩ := slR_len h5
 obtain ⟨r5, e5, rfl⟩ := slR_len g5
 have H5 := Lib.hid h5; have G5 := Lib.hid g5; have S5 := Lib.hid s5; have T5 := Lib.hid t5; have n5 := zL_len s5; have m5 := zL_len t5
 obtain ⟨p9, c9, rfl⟩ := slR_len h9
 obtain ⟨r9, e9, rfl⟩ := slR_len g9
 have H9 := Lib.hid h9; have G9 := Lib.hid g9; have S9 := Lib.hid s9; have T9 := Lib.hid t9; have n9 := zL_len s9; have m9 := zL_len t9
 clear h2 g2 s2 t2 h3 g3 s3 t3 h5 g5 s5 t5 h9 g9 s9 t9
 have d := Lib.hid (show Below w.heap.size w ((w.alloc (.cells #[.int .i64 a0, .int .i64 a1, .slice p2 x2.length c2, .slice p3 x3.length c3, .int .i64 a4, .slice p5 x5.length c5, .int .i64 a6, .int .i64 a7, .int .i64 a8, .slice p9 x9.length c9] 92)).alloc (.cells #[.int .i64 b0, .int .i64 b1, .slice r2 y2.length e2, .slice r3 y3.length e3, .int .i64 b4, .slice r5 y5.length e5, .int .i64 b6, .int .i64 b7, .int .i64 b8, .slice r9 y9.length e9] 92)) from (((Below.refl _ w).alloc (Nat.le_refl _) _).alloc (by simp) _))
 have B0 : Hid (((w.alloc (.cells #[.int .i64 a0, .int .i64 a1, .slice p2 x2.length c2, .slice p3 x3.length c3, .int .i64 a4, .slice p5 x5.length c5, .int .i64 a6, .int .i64 a7, .int .i64 a8, .slice p9 x9.length c9] 92)).alloc (.cells #[.int .i64 b0, .int .i64 b1, .slice r2 y2.length e2, .slice r3 y3.length e3, .int .i64 b4, .slice r5 y5.length e5, .int .i64 b6, .int .i64 b7, .int .i64 b8, .slice r9 y9.length e9] 92)).heap[w.heap.size]? = some (.cells #[.int .i64 a0, .int .i64 a1, .slice p2 x2.length c2, .slice p3 x3.length c3, .int .i64 a4, .slice p5 x5.length c5, .int .i64 a6, .int .i64 a7, .int .i64 a8, .slice p9 x9.length c9] 92 (0, 0))) := Lib.hid (by
  rw [Below.heap_alloc _ _ _ (by simp)]
  exact heap_alloc_new w _)
 have B1 : Hid (((w.alloc (.cells #[.int .i64 a0, .int .i64 a1, .slice p2 x2.length c2, .slice p3 x3.length c3, .int .i64 a4, .slice p5 x5.length c5, .int .i64 a6, .int .i64 a7, .int .i64 a8, .slice p9 x9.length c9] 92)).alloc (.cells #[.int .i64 b0, .int .i64 b1, .slice r2 y2.length e2, .slice r3 y3.length e3, .int .i64 b4, .slice r5 y5.length e5, .int .i64 b6, .int .i64 b7, .int .i64 b8, .slice r9 y9.length e9] 92)).heap[(w.heap.size + 1)]? = some (.cells #[.int .i64 b0, .int .i64 b1, .slice r2 y2.length e2, .slice r3 y3.length e3, .int .i64 b4, .slice r5 y5.length e5, .int .i64 b6, .int .i64 b7, .int .i64 b8, .slice r9 y9.length e9] 92 (0, 0))) := Lib.hid (by
  have := heap_alloc_new (w.alloc (.cells #[.int .i64 a0, .int .i64 a1, .slice p2 x2.length c2, .slice p3 x3.length c3, .int .i64 a4, .slice p5 x5.length c5, .int .i64 a6, .int .i64 a7, .int .i64 a8, .slice p9 x9.length c9] 92)) (.cells #[.int .i64 b0, .int .i64 b1, .slice r2 y2.length e2, .slice r3 y3.length e3, .int .i64 b4, .slice r5 y5.length e5, .int .i64 b6, .int .i64 b7, .int .i64 b8, .slice r9 y9.length e9] 92)
  simpa only [World.size_alloc] using this)
 have YW : Hid (w.heap.size + 2 ≤ ((w.alloc (.cells #[.int .i64 a0, .int .i64 a1, .slice p2 x2.length c2, .slice p3 x3.length c3, .int .i64 a4, .slice p5 x5.length c5, .int .i64 a6, .int .i64 a7, .int .i64 a8, .slice p9 x9.length c9] 92)).alloc (.cells #[.int .i64 b0, .int .i64 b1, .slice r2 y2.length e2, .slice r3 y3.length e3, .int .i64 b4, .slice r5 y5.length e5, .int .i64 b6, .int .i64 b7, .int .i64 b8, .slice r9 y9.length e9] 92)).heap.size) := Lib.hid (by simp [World.size_alloc])
 go_enter Try.func73, Try.ntmps73
 go_wp2_with fail
 generalize ((w.alloc (.cells #[.int .i64 a0, .int .i64 a1, .slice p2 x2.length c2, .slice p3 x3.length c3, .int .i64 a4, .slice p5 x5.length c5, .int .i64 a6, .int .i64 a7, .int .i64 a8, .slice p9 x9.length c9] 92)).alloc (.cells #[.int .i64 b0, .int .i64 b1, .slice r2 y2.length e2, .slice r3 y3.length e3, .int .i64 b4, .slice r5 y5.length e5, .int .i64 b6, .int .i64 b7, .int .i64 b8, .slice r9 y9.length e9] 92)) = W at *
 refine (implQueryEq a0 a1 b0 b1 (.slice p2 x2.length c2) (.slice p3 x3.length c3) (.slice r2 y2.length e2) (.slice r3 y3.length e3) x2 y2 x3 y3 W (slR_below tCond_law H2.out d.out) (slR_below tInt_law H3.out d.out) (slR_below tCond_law G2.out d.out) (slR_below tInt_law G3.out d.out) S2.out S3.out T2.out T3.out).mono ?_
 rintro e W1 ⟨rfl, c⟩
 replace B0 := Lib.hid ((c.block w.heap.size (Array.getElem?_eq_some_iff.1 B0.out).1).trans B0.out)
 replace B1 := Lib.hid ((c.block (w.heap.size + 1) (Array.getElem?_eq_some_iff.1 B1.out).1).trans B1.out)
 replace d := Lib.hid (d.out.trans (c.mono d.out.size))
 have Z_W1 := Lib.hid (show W.heap.size ≤ W1.heap.size from c.size)
 clear c
 rcases Bool.eq_false_or_eq_true (decide (((a0, a1, x2, x3) : QD) = (b0, b1, y2, y3))) with hy0 | hy0
 rotate_left
 ·
  rw [hy0]
  have HF := Lib.hid (decide_eq_false (show ¬ ((((a0, a1, x2, x3), a4, x5, a6, a7, a8, x9) : ActD) = ((b0, b1, y2, y3), b4, y5, b6, b7, b8, y9)) from fun g => of_decide_eq_false hy0 (congrArg (fun z : ActD => z.1) g)))
  clear hy0
  obtain ⟨p_B0_0, p_B0_1, p_B0_2, p_B0_3, p_B0_4, p_B0_5, p_B0_6, p_B0_7, p_B0_8, p_B0_9⟩ := cls10 B0.out
  obtain ⟨p_B1_0, p_B1_1, p_B1_2, p_B1_3, p_B1_4, p_B1_5, p_B1_6, p_B1_7, p_B1_8, p_B1_9⟩ := cls10 B1.out
  go_wp2
  clear p_B0_0 p_B0_1 p_B0_2 p_B0_3 p_B0_4 p_B0_5 p_B0_6 p_B0_7 p_B0_8 p_B0_9 p_B1_0 p_B1_1 p_B1_2 p_B1_3 p_B1_4 p_B1_5 p_B1_6 p_B1_7 p_B1_8 p_B1_9
  go_ret
  exact ⟨ret_b HF.out.symm, d.out⟩
 rw [hy0]
 have HY0 := Lib.hid hy0
 clear hy0
 by_cases hh0 : a4 = b4
 rotate_left
 ·
  have HF := Lib.hid (decide_eq_false (show ¬ ((((a0, a1, x2, x3), a4, x5, a6, a7, a8, x9) : ActD) = ((b0, b1, y2, y3), b4, y5, b6, b7, b8, y9)) from fun g => hh0 (congrArg (fun z : ActD => z.2.1) g)))
  have f0a : (a4 == b4) = false := by rw [beq_eq_false_iff_ne]; exact hh0
  have f0b : (a4 != b4) = true := by rw [bne_iff_ne]; exact hh0
  clear hh0
  obtain ⟨p_B0_0, p_B0_1, p_B0_2, p_B0_3, p_B0_4, p_B0_5, p_B0_6, p_B0_7, p_B0_8, p_B0_9⟩ := cls10 B0.out
  obtain ⟨p_B1_0, p_B1_1, p_B1_2, p_B1_3, p_B1_4, p_B1_5, p_B1_6, p_B1_7, p_B1_8, p_B1_9⟩ := cls10 B1.out
  go_wp2
  clear p_B0_0 p_B0_1 p_B0_2 p_B0_3 p_B0_4 p_B0_5 p_B0_6 p_B0_7 p_B0_8 p_B0_9 p_B1_0 p_B1_1 p_B1_2 p_B1_3 p_B1_4 p_B1_5 p_B1_6 p_B1_7 p_B1_8 p_B1_9
  go_ret
  exact ⟨ret_b HF.out.symm, d.out⟩
 have f0a : (a4 == b4) = true := by rw [beq_iff_eq]; exact hh0
 have f0b : (a4 != b4) = false := by rw [bne_eq_false_iff_eq]; exact hh0
 have HH0 := Lib.hid hh0
 clear hh0
 obtain ⟨p_B0_0, p_B0_1, p_B0_2, p_B0_3, p_B0_4, p_B0_5, p_B0_6, p_B0_7, p_B0_8, p_B0_9⟩ := cls10 B0.out
 obtain ⟨p_B1_0, p_B1_1, p_B1_2, p_B1_3, p_B1_4, p_B1_5, p_B1_6, p_B1_7, p_B1_8, p_B1_9⟩ := cls10 B1.out
 go_wp2_with fail
 clear p_B0_0 p_B0_1 p_B0_2 p_B0_3 p_B0_4 p_B0_5 p_B0_6 p_B0_7 p_B0_8 p_B0_9 p_B1_0 p_B1_1 p_B1_2 p_B1_3 p_B1_4 p_B1_5 p_B1_6 p_B1_7 p_B1_8 p_B1_9 f0a f0b
 refine (equalInts_any (.slice p5 x5.length c5) (.slice r5 y5.length e5) x5 y5 W1 (slR_ints (slR_below tInt_law H5.out d.out)) (slR_ints (slR_below tInt_law G5.out d.out)) n5 m5).mono ?_
 rintro e W2 ⟨rfl, c⟩
 replace B0 := Lib.hid ((c.block w.heap.size (Array.getElem?_eq_some_iff.1 B0.out).1).trans B0.out)
 replace B1 := Lib.hid ((c.block (w.heap.size + 1) (Array.getElem?_eq_some_iff.1 B1.out).1).trans B1.out)
 replace d := Lib.hid (d.out.trans (c.mono d.out.size))
 have Z_W2 := Lib.hid (show W1.heap.size ≤ W2.heap.size from c.size)
 clear c
 rcases Bool.eq_false_or_eq_true (decide (x5 = y5)) with hh1 | hh1
 rotate_left
 ·
  rw [hh1]
  have HF := Lib.hid (decide_eq_false (show ¬ ((((a0, a1, x2, x3), a4, x5, a6, a7, a8, x9) : ActD) = ((b0, b1, y2, y3), b4, y5, b6, b7, b8, y9)) from fun g => of_decide_eq_false hh1 (congrArg (fun z : ActD => z.2.2.1) g)))
  clear hh1
  obtain ⟨p_B0_0, p_B0_1, p_B0_2, p_B0_3, p_B0_4, p_B0_5, p_B0_6, p_B0_7, p_B0_8, p_B0_9⟩ := cls10 B0.out
  obtain ⟨p_B1_0, p_B1_1, p_B1_2, p_B1_3, p_B1_4, p_B1_5, p_B1_6, p_B1_7, p_B1_8, p_B1_9⟩ := cls10 B1.out
  go_wp2
  clear p_B0_0 p_B0_1 p_B0_2 p_B0_3 p_B0_4 p_B0_5 p_B0_6 p_B0_7 p_B0_8 p_B0_9 p_B1_0 p_B1_1 p_B1_2 p_B1_3 p_B1_4 p_B1_5 p_B1_6 p_B1_7 p_B1_8 p_B1_9
  go_ret
  exact ⟨ret_b HF.out.symm, d.out⟩
 rw [hh1]
 have HH1 := Lib.hid hh1
 clear hh1
 by_cases hh2 : a6 = b6
 rotate_left
 ·
  have HF := Lib.hid (decide_eq_false (show ¬ ((((a0, a1, x2, x3), a4, x5, a6, a7, a8, x9) : ActD) = ((b0, b1, y2, y3), b4, y5, b6, b7, b8, y9)) from fun g => hh2 (congrArg (fun z : ActD => z.2.2.2.1) g)))
  have f2a : (a6 == b6) = false := by rw [beq_eq_false_iff_ne]; exact hh2
  have f2b : (a6 != b6) = true := by rw [bne_iff_ne]; exact hh2
  clear hh2
  obtain ⟨p_B0_0, p_B0_1, p_B0_2, p_B0_3, p_B0_4, p_B0_5, p_B0_6, p_B0_7, p_B0_8, p_B0_9⟩ := cls10 B0.out
  obtain ⟨p_B1_0, p_B1_1, p_B1_2, p_B1_3, p_B1_4, p_B1_5, p_B1_6, p_B1_7, p_B1_8, p_B1_9⟩ := cls10 B1.out
  go_wp2
  clear p_B0_0 p_B0_1 p_B0_2 p_B0_3 p_B0_4 p_B0_5 p_B0_6 p_B0_7 p_B0_8 p_B0_9 p_B1_0 p_B1_1 p_B1_2 p_B1_3 p_B1_4 p_B1_5 p_B1_6 p_B1_7 p_B1_8 p_B1_9
  go_ret
  exact ⟨ret_b HF.out.symm, d.out⟩
 have f2a : (a6 == b6) = true := by rw [beq_iff_eq]; exact hh2
 have f2b : (a6 != b6) = false := by rw [bne_eq_false_iff_eq]; exact hh2
 have HH2 := Lib.hid hh2
 clear hh2
 by_cases hh3 : a7 = b7
 rotate_left
 ·
  have HF := Lib.hid (decide_eq_false (show ¬ ((((a0, a1, x2, x3), a4, x5, a6, a7, a8, x9) : ActD) = ((b0, b1, y2, y3), b4, y5, b6, b7, b8, y9)) from fun g => hh3 (congrArg (fun z : ActD => z.2.2.2.2.1) g)))
  have f3a : (a7 == b7) = false := by rw [beq_eq_false_iff_ne]; exact hh3
  have f3b : (a7 != b7) = true := by rw [bne_iff_ne]; exact hh3
  clear hh3
  obtain ⟨p_B0_0, p_B0_1, p_B0_2, p_B0_3, p_B0_4, p_B0_5, p_B0_6, p_B0_7, p_B0_8, p_B0_9⟩ := cls10 B0.out
  obtain ⟨p_B1_0, p_B1_1, p_B1_2, p_B1_3, p_B1_4, p_B1_5, p_B1_6, p_B1_7, p_B1_8, p_B1_9⟩ := cls10 B1.out
  go_wp2
  clear p_B0_0 p_B0_1 p_B0_2 p_B0_3 p_B0_4 p_B0_5 p_B0_6 p_B0_7 p_B0_8 p_B0_9 p_B1_0 p_B1_1 p_B1_2 p_B1_3 p_B1_4 p_B1_5 p_B1_6 p_B1_7 p_B1_8 p_B1_9
  go_ret
  exact ⟨ret_b HF.out.symm, d.out⟩
 have f3a : (a7 == b7) = true := by rw [beq_iff_eq]; exact hh3
 have f3b : (a7 != b7) = false := by rw [bne_eq_false_iff_eq]; exact hh3
 have HH3 := Lib.hid hh3
 clear hh3
 by_cases hh4 : a8 = b8
 rotate_left
 ·
  have HF := Lib.hid (decide_eq_false (show ¬ ((((a0, a1, x2, x3), a4, x5, a6, a7, a8, x9) : ActD) = ((b0, b1, y2, y3), b4, y5, b6, b7, b8, y9)) from fun g => hh4 (congrArg (fun z : ActD => z.2.2.2.2.2.1) g)))
  have f4a : (a8 == b8) = false := by rw [beq_eq_false_iff_ne]; exact hh4
  have f4b : (a8 != b8) = true := by rw [bne_iff_ne]; exact hh4
  clear hh4
  obtain ⟨p_B0_0, p_B0_1, p_B0_2, p_B0_3, p_B0_4, p_B0_5, p_B0_6, p_B0_7, p_B0_8, p_B0_9⟩ := cls10 B0.out
  obtain ⟨p_B1_0, p_B1_1, p_B1_2, p_B1_3, p_B1_4, p_B1_5, p_B1_6, p_B1_7, p_B1_8, p_B1_9⟩ := cls10 B1.out
  go_wp2
  clear p_B0_0 p_B0_1 p_B0_2 p_B0_3 p_B0_4 p_B0_5 p_B0_6 p_B0_7 p_B0_8 p_B0_9 p_B1_0 p_B1_1 p_B1_2 p_B1_3 p_B1_4 p_B1_5 p_B1_6 p_B1_7 p_B1_8 p_B1_9
  go_ret
  exact ⟨ret_b HF.out.symm, d.out⟩
 have f4a : (a8 == b8) = true := by rw [beq_iff_eq]; exact hh4
 have f4b : (a8 != b8) = false := by rw [bne_eq_false_iff_eq]; exact hh4
 have HH4 := Lib.hid hh4
 clear hh4
 obtain ⟨p_B0_0, p_B0_1, p_B0_2, p_B0_3, p_B0_4, p_B0_5, p_B0_6, p_B0_7, p_B0_8, p_B0_9⟩ := cls10 B0.out
 obtain ⟨p_B1_0, p_B1_1, p_B1_2, p_B1_3, p_B1_4, p_B1_5, p_B1_6, p_B1_7, p_B1_8, p_B1_9⟩ := cls10 B1.out
 go_wp2_with fail
 clear p_B0_0 p_B0_1 p_B0_2 p_B0_3 p_B0_4 p_B0_5 p_B0_6 p_B0_7 p_B0_8 p_B0_9 p_B1_0 p_B1_1 p_B1_2 p_B1_3 p_B1_4 p_B1_5 p_B1_6 p_B1_7 p_B1_8 p_B1_9 f2a f2b f3a f3b f4a f4b
 refine (implEqualRows (.slice p9 x9.length c9) (.slice r9 y9.length e9) x9 y9 W2 (slR_rows (slR_below tRow_law H9.out d.out)) (slR_rows (slR_below tRow_law G9.out d.out)) (by rw [← zL_rows]; exact S9.out) (by rw [← zL_rows]; exact T9.out)).mono ?_
 rintro e W3 ⟨rfl, c⟩
 replace B0 := Lib.hid ((c.block w.heap.size (Array.getElem?_eq_some_iff.1 B0.out).1).trans B0.out)
 replace B1 := Lib.hid ((c.block (w.heap.size + 1) (Array.getElem?_eq_some_iff.1 B1.out).1).trans B1.out)
 replace d := Lib.hid (d.out.trans (c.mono d.out.size))
 have Z_W3 := Lib.hid (show W2.heap.size ≤ W3.heap.size from c.size)
 clear c
 rcases Bool.eq_false_or_eq_true (decide (x9 = y9)) with hh5 | hh5
 rotate_left
 ·
  rw [hh5]
  have HF := Lib.hid (decide_eq_false (show ¬ ((((a0, a1, x2, x3), a4, x5, a6, a7, a8, x9) : ActD) = ((b0, b1, y2, y3), b4, y5, b6, b7, b8, y9)) from fun g => of_decide_eq_false hh5 (congrArg (fun z : ActD => z.2.2.2.2.2.2) g)))
  clear hh5
  obtain ⟨p_B0_0, p_B0_1, p_B0_2, p_B0_3, p_B0_4, p_B0_5, p_B0_6, p_B0_7, p_B0_8, p_B0_9⟩ := cls10 B0.out
  obtain ⟨p_B1_0, p_B1_1, p_B1_2, p_B1_3, p_B1_4, p_B1_5, p_B1_6, p_B1_7, p_B1_8, p_B1_9⟩ := cls10 B1.out
  go_wp2
  clear p_B0_0 p_B0_1 p_B0_2 p_B0_3 p_B0_4 p_B0_5 p_B0_6 p_B0_7 p_B0_8 p_B0_9 p_B1_0 p_B1_1 p_B1_2 p_B1_3 p_B1_4 p_B1_5 p_B1_6 p_B1_7 p_B1_8 p_B1_9
  go_ret
  exact ⟨ret_b HF.out.symm, d.out⟩
 rw [hh5]
 have HH5 := Lib.hid hh5
 clear hh5
 have HT : Hid (decide ((((a0, a1, x2, x3), a4, x5, a6, a7, a8, x9) : ActD) = ((b0, b1, y2, y3), b4, y5, b6, b7, b8, y9)) = true) := Lib.hid (decide_eq_true (by rw [of_decide_eq_true HY0.out, HH0.out, of_decide_eq_true HH1.out, HH2.out, HH3.out, HH4.out, of_decide_eq_true HH5.out]))
 obtain ⟨p_B0_0, p_B0_1, p_B0_2, p_B0_3, p_B0_4, p_B0_5, p_B0_6, p_B0_7, p_B0_8, p_B0_9⟩ := cls10 B0.out
 obtain ⟨p_B1_0, p_B1_1, p_B1_2, p_B1_3, p_B1_4, p_B1_5, p_B1_6, p_B1_7, p_B1_8, p_B1_9⟩ := cls10 B1.out
 go_wp2
 clear p_B0_0 p_B0_1 p_B0_2 p_B0_3 p_B0_4 p_B0_5 p_B0_6 p_B0_7 p_B0_8 p_B0_9 p_B1_0 p_B1_1 p_B1_2 p_B1_3 p_B1_4 p_B1_5 p_B1_6 p_B1_7 p_B1_8 p_B1_9
 go_ret
 exact ⟨ret_b HT.out.symm, d.out⟩
set_option maxHeartbeats 16000000 in
set_option maxRecDepth 100000 in
theorem implFinishedEq (a0 a1 a4 a5 b0 b1 b4 b5 : Int) (v2 v3 v6 u2 u3 u6 : Value) (x2 y2 : List CondD) (x3 y3 : List Int) (x6 y6 : List RowD) (w : World) (h2 : SlR tCond w v2 x2) (h3 : SlR tInt w v3 x3) (h6 : SlR tRow w v6 x6) (g2 : SlR tCond w u2 y2) (g3 : SlR tInt w u3 y3) (g6 : SlR tRow w u6 y6) (s2 : zL tCond x2 ≤ 1048576) (s3 : zL tInt x3 ≤ 1048576) (s6 : zL tRow x6 ≤ 1048576) (t2 : zL tCond y2 ≤ 1048576) (t3 : zL tInt y3 ≤ 1048576) (t6 : zL tRow y6 ≤ 1048576) :
  Calls Try.prog 75 #[.agg #[.int .i64 a0, .int .i64 a1, v2, v3, .int .i64 a4, .int .i64 a5, v6], .agg #[.int .i64 b0, .int .i64 b1, u2, u3, .int .i64 b4, .int .i64 b5, u6]] w (fun e w' => e = .returned (.bool (decide ((((a0, a1, x2, x3), a4, a5, x6) : FinD) = ((b0, b1, y2, y3), b4, b5, y6)))) ∧ Below w.heap.size w w') := by
 obtain ⟨p2, c2, rfl⟩ := slR_len h2
 obtain ⟨r2, e2, rfl⟩ := slR_len g2
 have H2 := Lib.hid h2; have G2 := Lib.hid g2; have S2 := Lib.hid s2; have T2 := Lib.hid t2; have n2 := zL_len s2; have m2 := zL_len t2
 obtain ⟨p3, c3, rfl⟩ := slR_len h3
 obtain ⟨r3, e3, rfl⟩ := slR_len g3
 have H3 := Lib.hid h3; have G3 := Lib.hid g3; have S3 := Lib.hid s3; have T3 := Lib.hid t3; have n3 := zL_len s3; have m3 := zL_len t3
 obtain ⟨p6, c6, rfl⟩ := slR_len h6
 obtain ⟨r6, e6, rfl⟩ := slR_len g6
 have H6 := Lib.hid h6; have G6 := Lib.hid g6; have S6 := Lib.hid s6; have T6 := Lib.hid t6; have n6 := zL_len s6; have m6 := zL_len t6
 clear h2 g2 s2 t2 h3 g3 s3 t3 h6 g6 s6 t6
 have d := Lib.hid (show Below w.heap.size w ((w.alloc (.cells #[.int .i64 a0, .int .i64 a1, .slice p2 x2.length c2, .slice p3 x3.length c3, .int .i64 a4, .int .i64 a5, .slice p6 x6.length c6] 101)).alloc (.cells #[.int .i64 b0, .int .i64 b1, .slice r2 y2.length e2, .slice r3 y3.length e3, .int .i64 b4, .int .i64 b5, .slice r6 y6.length e6] 101)) from (((Below.refl _ w).alloc (Nat.le_refl _) _).alloc (by simp) _))
 have B0 : Hid (((w.alloc (.cells #[.int .i64 a0, .int .i64 a1, .slice p2 x2.length c2, .slice p3 x3.length c3, .int .i64 a4, .int .i64 a5, .slice p6 x6.length c6] 101)).alloc (.cells #[.int .i64 b0, .int .i64 b1, .slice r2 y2.length e2, .slice r3 y3.length e3, .int .i64 b4, .int .i64 b5, .slice r6 y6.length e6] 101)).heap[w.heap.size]? = some (.cells #[.int .i64 a0, .int .i64 a1, .slice p2 x2.length c2, .slice p3 x3.length c3, .int .i64 a4, .int .i64 a5, .slice p6 x6.length c6] 101 (0, 0))) := Lib.hid (by
  rw [Below.heap_alloc _ _ _ (by simp)]
  exact heap_alloc_new w _)
 have B1 : Hid (((w.alloc (.cells #[.int .i64 a0, .int .i64 a1, .slice p2 x2.length c2, .slice p3 x3.length c3, .int .i64 a4, .int .i64 a5, .slice p6 x6.length c6] 101)).alloc (.cells #[.int .i64 b0, .int .i64 b1, .slice r2 y2.length e2, .slice r3 y3.length e3, .int .i64 b4, .int .i64 b5, .slice r6 y6.length e6] 101)).heap[(w.heap.size + 1)]? = some (.cells #[.int .i64 b0, .int .i64 b1, .slice r2 y2.length e2, .slice r3 y3.length e3, .int .i64 b4, .int .i64 b5, .slice r6 y6.length e6] 101 (0, 0))) := Lib.hid (by
  have := heap_alloc_new (w.alloc (.cells #[.int .i64 a0, .int .i64 a1, .slice p2 x2.length c2, .slice p3 x3.length c3, .int .i64 a4, .int .i64 a5, .slice p6 x6.length c6] 101)) (.cells #[.int .i64 b0, .int .i64 b1, .slice r2 y2.length e2, .slice r3 y3.length e3, .int .i64 b4, .int .i64 b5, .slice r6 y6.length e6] 101)
  simpa only [World.size_alloc] using this)
 have YW : Hid (w.heap.size + 2 ≤ ((w.alloc (.cells #[.int .i64 a0, .int .i64 a1, .slice p2 x2.length c2, .slice p3 x3.length c3, .int .i64 a4, .int .i64 a5, .slice p6 x6.length c6] 101)).alloc (.cells #[.int .i64 b0, .int .i64 b1, .slice r2 y2.length e2, .slice r3 y3.length e3, .int .i64 b4, .int .i64 b5, .slice r6 y6.length e6] 101)).heap.size) := Lib.hid (by simp [World.size_alloc])
 go_enter Try.func75, Try.ntmps75
 go_wp2_with fail
 generalize ((w.alloc (.cells #[.int .i64 a0, .int .i64 a1, .slice p2 x2.length c2, .slice p3 x3.length c3, .int .i64 a4, .int .i64 a5, .slice p6 x6.length c6] 101)).alloc (.cells #[.int .i64 b0, .int .i64 b1, .slice r2 y2.length e2, .slice r3 y3.length e3, .int .i64 b4, .int .i64 b5, .slice r6 y6.length e6] 101)) = W at *
 refine (implQueryEq a0 a1 b0 b1 (.slice p2 x2.length c2) (.slice p3 x3.length c3) (.slice r2 y2.length e2) (.slice r3 y3.length e3) x2 y2 x3 y3 W (slR_below tCond_law H2.out d.out) (slR_below tInt_law H3.out d.out) (slR_below tCond_law G2.out d.out) (slR_below tInt_law G3.out d.out) S2.out S3.out T2.out T3.out).mono ?_
 rintro e W1 ⟨rfl, c⟩
 replace B0 := Lib.hid ((c.block w.heap.size (Array.getElem?_eq_some_iff.1 B0.out).1).trans B0.out)
 replace B1 := Lib.hid ((c.block (w.heap.size + 1) (Array.getElem?_eq_some_iff.1 B1.out).1).trans B1.out)
 replace d := Lib.hid (d.out.trans (c.mono d.out.size))
 have Z_W1 := Lib.hid (show W.heap.size ≤ W1.heap.size from c.size)
 clear c
 rcases Bool.eq_false_or_eq_true (decide (((a0, a1, x2, x3) : QD) = (b0, b1, y2, y3))) with hy0 | hy0
 rotate_left
 ·
  rw [hy0]
  have HF := Lib.hid (decide_eq_false (show ¬ ((((a0, a1, x2, x3), a4, a5, x6) : FinD) = ((b0, b1, y2, y3), b4, b5, y6)) from fun g => of_decide_eq_false hy0 (congrArg (fun z : FinD => z.1) g)))
  clear hy0
  obtain ⟨p_B0_0, p_B0_1, p_B0_2, p_B0_3, p_B0_4, p_B0_5, p_B0_6⟩ := cls7 B0.out
  obtain ⟨p_B1_0, p_B1_1, p_B1_2, p_B1_3, p_B1_4, p_B1_5, p_B1_6⟩ := cls7 B1.out
  go_wp2
  clear p_B0_0 p_B0_1 p_B0_2 p_B0_3 p_B0_4 p_B0_5 p_B0_6 p_B1_0 p_B1_1 p_B1_2 p_B1_3 p_B1_4 p_B1_5 p_B1_6
  go_ret
  exact ⟨ret_b HF.out.symm, d.out⟩
 rw [hy0]
 have HY0 := Lib.hid hy0
 clear hy0
 by_cases hh0 : a4 = b4
 rotate_left
 ·
  have HF := Lib.hid (decide_eq_false (show ¬ ((((a0, a1, x2, x3), a4, a5, x6) : FinD) = ((b0, b1, y2, y3), b4, b5, y6)) from fun g => hh0 (congrArg (fun z : FinD => z.2.1) g)))
  have f0a : (a4 == b4) = false := by rw [beq_eq_false_iff_ne]; exact hh0
  have f0b : (a4 != b4) = true := by rw [bne_iff_ne]; exact hh0
  clear hh0
  obtain ⟨p_B0_0, p_B0_1, p_B0_2, p_B0_3, p_B0_4, p_B0_5, p_B0_6⟩ := cls7 B0.out
  obtain ⟨p_B1_0, p_B1_1, p_B1_2, p_B1_3, p_B1_4, p_B1_5, p_B1_6⟩ := cls7 B1.out
  go_wp2
  clear p_B0_0 p_B0_1 p_B0_2 p_B0_3 p_B0_4 p_B0_5 p_B0_6 p_B1_0 p_B1_1 p_B1_2 p_B1_3 p_B1_4 p_B1_5 p_B1_6
  go_ret
  exact ⟨ret_b HF.out.symm, d.out⟩
 have f0a : (a4 == b4) = true := by rw [beq_iff_eq]; exact hh0
 have f0b : (a4 != b4) = false := by rw [bne_eq_false_iff_eq]; exact hh0
 have HH0 := Lib.hid hh0
 clear hh0
 by_cases hh1 : a5 = b5
 rotate_left
 ·
  have HF := Lib.hid (decide_eq_false (show ¬ ((((a0, a1, x2, x3), a4, a5, x6) : FinD) = ((b0, b1, y2, y3), b4, b5, y6)) from fun g => hh1 (congrArg (fun z : FinD => z.2.2.1) g)))
  have f1a : (a5 == b5) = false := by rw [beq_eq_false_iff_ne]; exact hh1
  have f1b : (a5 != b5) = true := by rw [bne_iff_ne]; exact hh1
  clear hh1
  obtain ⟨p_B0_0, p_B0_1, p_B0_2, p_B0_3, p_B0_4, p_B0_5, p_B0_6⟩ := cls7 B0.out
  obtain ⟨p_B1_0, p_B1_1, p_B1_2, p_B1_3, p_B1_4, p_B1_5, p_B1_6⟩ := cls7 B1.out
  go_wp2
  clear p_B0_0 p_B0_1 p_B0_2 p_B0_3 p_B0_4 p_B0_5 p_B0_6 p_B1_0 p_B1_1 p_B1_2 p_B1_3 p_B1_4 p_B1_5 p_B1_6
  go_ret
  exact ⟨ret_b HF.out.symm, d.out⟩
 have f1a : (a5 == b5) = true := by rw [beq_iff_eq]; exact hh1
 have f1b : (a5 != b5) = false := by rw [bne_eq_false_iff_eq]; exact hh1
 have HH1 := Lib.hid hh1
 clear hh1
 obtain ⟨p_B0_0, p_B0_1, p_B0_2, p_B0_3, p_B0_4, p_B0_5, p_B0_6⟩ := cls7 B0.out
 obtain ⟨p_B1_0, p_B1_1, p_B1_2, p_B1_3, p_B1_4, p_B1_5, p_B1_6⟩ := cls7 B1.out
 go_wp2_with fail
 clear p_B0_0 p_B0_1 p_B0_2 p_B0_3 p_B0_4 p_B0_5 p_B0_6 p_B1_0 p_B1_1 p_B1_2 p_B1_3 p_B1_4 p_B1_5 p_B1_6 f0a f0b f1a f1b
 refine (implEqualRows (.slice p6 x6.length c6) (.slice r6 y6.length e6) x6 y6 W1 (slR_rows (slR_below tRow_law H6.out d.out)) (slR_rows (slR_below tRow_law G6.out d.out)) (by rw [← zL_rows]; exact S6.out) (by rw [← zL_rows]; exact T6.out)).mono ?_
 rintro e W2 ⟨rfl, c⟩
 replace B0 := Lib.hid ((c.block w.heap.size (Array.getElem?_eq_some_iff.1 B0.out).1).trans B0.out)
 replace B1 := Lib.hid ((c.block (w.heap.size + 1) (Array.getElem?_eq_some_iff.1 B1.out).1).trans B1.out)
 replace d := Lib.hid (d.out.trans (c.mono d.out.size))
 have Z_W2 := Lib.hid (show W1.heap.size ≤ W2.heap.size from c.size)
 clear c
 rcases Bool.eq_false_or_eq_true (decide (x6 = y6)) with hh2 | hh2
 rotate_left
 ·
  rw [hh2]
  have HF := Lib.hid (decide_eq_false (show ¬ ((((a0, a1, x2, x3), a4, a5, x6) : FinD) = ((b0, b1, y2, y3), b4, b5, y6)) from fun g => of_decide_eq_false hh2 (congrArg (fun z : FinD => z.2.2.2) g)))
  clear hh2
  obtain ⟨p_B0_0, p_B0_1, p_B0_2, p_B0_3, p_B0_4, p_B0_5, p_B0_6⟩ := cls7 B0.out
  obtain ⟨p_B1_0, p_B1_1, p_B1_2, p_B1_3, p_B1_4, p_B1_5, p_B1_6⟩ := cls7 B1.out
  go_wp2
  clear p_B0_0 p_B0_1 p_B0_2 p_B0_3 p_B0_4 p_B0_5 p_B0_6 p_B1_0 p_B1_1 p_B1_2 p_B1_3 p_B1_4 p_B1_5 p_B1_6
  go_ret
  exact ⟨ret_b HF.out.symm, d.out⟩
 rw [hh2]
 have HH2 := Lib.hid hh2
 clear hh2
 have HT : Hid (decide ((((a0, a1, x2, x3), a4, a5, x6) : FinD) = ((b0, b1, y2, y3), b4, b5, y6)) = true) := Lib.hid (decide_eq_true (by rw [of_decide_eq_true HY0.out, HH0.out, HH1.out, of_decide_eq_true HH2.out]))
 obtain ⟨p_B0_0, p_B0_1, p_B0_2, p_B0_3, p_B0_4, p_B0_5, p_B0_6⟩ := cls7 B0.out
 obtain ⟨p_B1_0, p_B1_1, p_B1_2, p_B1_3, p_B1_4, p_B1_5, p_B1_6⟩ := cls7 B1.out
 go_wp2
 clear p_B0_0 p_B0_1 p_B0_2 p_B0_3 p_B0_4 p_B0_5 p_B0_6 p_B1_0 p_B1_1 p_B1_2 p_B1_3 p_B1_4 p_B1_5 p_B1_6
 go_ret
 exact ⟨ret_b HT.out.symm, d.out⟩
set_option maxHeartbeats 16000000 in
set_option maxRecDepth 100000 in
theorem specChargeEq (a0 a1 b0 b1 : Int) (v2 v3 v4 u2 u3 u4 : Value) (x2 y2 : List Int) (x3 y3 : List Int) (x4 y4 : List Int) (w : World) (h2 : SlR tInt w v2 x2) (h3 : SlR tInt w v3 x3) (h4 : SlR tInt w v4 x4) (g2 : SlR tInt w u2 y2) (g3 : SlR tInt w u3 y3) (g4 : SlR tInt w u4 y4) (s2 : zL tInt x2 ≤ 1048576) (s3 : zL tInt x3 ≤ 1048576) (s4 : zL tInt x4 ≤ 1048576) (t2 : zL tInt y2 ≤ 1048576) (t3 : zL tInt y3 ≤ 1048576) (t4 : zL tInt y4 ≤ 1048576) :
  Calls Try.prog 69 #[.agg #[.int .i64 a0, .int .i64 a1, v2, v3, v4], .agg #[.int .i64 b0, .int .i64 b1, u2, u3, u4]] w (fun e w' => e = .returned (.bool (decide (((a0, a1, x2, x3, x4) : ChargeD) = (b0, b1, y2, y3, y4)))) ∧ Below w.heap.size w w') := by
 obtain ⟨p2, c2, rfl⟩ := slR_len h2
 obtain ⟨r2, e2, rfl⟩ := slR_len g2
 have H2 := Lib.hid h2; have G2 := Lib.hid g2; have S2 := Lib.hid s2; have T2 := Lib.hid t2; have n2 := zL_len s2; have m2 := zL_len t2
 obtain ⟨p3, c3, rfl⟩ := slR_len h3
 obtain ⟨r3, e3, rfl⟩ := slR_len g3
 have H3 := Lib.hid h3; have G3 := Lib.hid g3; have S3 := Lib.hid s3; have T3 := Lib.hid t3; have n3 := zL_len s3; have m3 := zL_len t3
 obtain ⟨p4, c4, rfl⟩ := slR_len h4
 obtain ⟨r4, e4, rfl⟩ := slR_len g4
 have H4 := Lib.hid h4; have G4 := Lib.hid g4; have S4 := Lib.hid s4; have T4 := Lib.hid t4; have n4 := zL_len s4; have m4 := zL_len t4
 clear h2 g2 s2 t2 h3 g3 s3 t3 h4 g4 s4 t4
 have d := Lib.hid (show Below w.heap.size w ((w.alloc (.cells #[.int .i64 a0, .int .i64 a1, .slice p2 x2.length c2, .slice p3 x3.length c3, .slice p4 x4.length c4] 105)).alloc (.cells #[.int .i64 b0, .int .i64 b1, .slice r2 y2.length e2, .slice r3 y3.length e3, .slice r4 y4.length e4] 105)) from (((Below.refl _ w).alloc (Nat.le_refl _) _).alloc (by simp) _))
 have B0 : Hid (((w.alloc (.cells #[.int .i64 a0, .int .i64 a1, .slice p2 x2.length c2, .slice p3 x3.length c3, .slice p4 x4.length c4] 105)).alloc (.cells #[.int .i64 b0, .int .i64 b1, .slice r2 y2.length e2, .slice r3 y3.length e3, .slice r4 y4.length e4] 105)).heap[w.heap.size]? = some (.cells #[.int .i64 a0, .int .i64 a1, .slice p2 x2.length c2, .slice p3 x3.length c3, .slice p4 x4.length c4] 105 (0, 0))) := Lib.hid (by
  rw [Below.heap_alloc _ _ _ (by simp)]
  exact heap_alloc_new w _)
 have B1 : Hid (((w.alloc (.cells #[.int .i64 a0, .int .i64 a1, .slice p2 x2.length c2, .slice p3 x3.length c3, .slice p4 x4.length c4] 105)).alloc (.cells #[.int .i64 b0, .int .i64 b1, .slice r2 y2.length e2, .slice r3 y3.length e3, .slice r4 y4.length e4] 105)).heap[(w.heap.size + 1)]? = some (.cells #[.int .i64 b0, .int .i64 b1, .slice r2 y2.length e2, .slice r3 y3.length e3, .slice r4 y4.length e4] 105 (0, 0))) := Lib.hid (by
  have := heap_alloc_new (w.alloc (.cells #[.int .i64 a0, .int .i64 a1, .slice p2 x2.length c2, .slice p3 x3.length c3, .slice p4 x4.length c4] 105)) (.cells #[.int .i64 b0, .int .i64 b1, .slice r2 y2.length e2, .slice r3 y3.length e3, .slice r4 y4.length e4] 105)
  simpa only [World.size_alloc] using this)
 have YW : Hid (w.heap.size + 2 ≤ ((w.alloc (.cells #[.int .i64 a0, .int .i64 a1, .slice p2 x2.length c2, .slice p3 x3.length c3, .slice p4 x4.length c4] 105)).alloc (.cells #[.int .i64 b0, .int .i64 b1, .slice r2 y2.length e2, .slice r3 y3.length e3, .slice r4 y4.length e4] 105)).heap.size) := Lib.hid (by simp [World.size_alloc])
 by_cases hz0 : a0 = b0
 rotate_left
 ·
  have HF : Hid (decide (((a0, a1, x2, x3, x4) : ChargeD) = (b0, b1, y2, y3, y4)) = false) := Lib.hid (decide_eq_false (fun g => hz0 (congrArg (fun z : ChargeD => z.1) g)))
  rw [HF.out]
  have z0a : (a0 == b0) = false := by rw [beq_eq_false_iff_ne]; exact hz0
  have z0b : (a0 != b0) = true := by rw [bne_iff_ne]; exact hz0
  clear hz0
  go_enter Try.func69, Try.ntmps69
  go_wp2
  go_ret
  exact ⟨rfl, d.out⟩
 have z0a : (a0 == b0) = true := by rw [beq_iff_eq]; exact hz0
 have z0b : (a0 != b0) = false := by rw [bne_eq_false_iff_eq]; exact hz0
 have HZ0 := Lib.hid hz0
 clear hz0
 by_cases hz1 : a1 = b1
 rotate_left
 ·
  have HF : Hid (decide (((a0, a1, x2, x3, x4) : ChargeD) = (b0, b1, y2, y3, y4)) = false) := Lib.hid (decide_eq_false (fun g => hz1 (congrArg (fun z : ChargeD => z.2.1) g)))
  rw [HF.out]
  have z1a : (a1 == b1) = false := by rw [beq_eq_false_iff_ne]; exact hz1
  have z1b : (a1 != b1) = true := by rw [bne_iff_ne]; exact hz1
  clear hz1
  go_enter Try.func69, Try.ntmps69
  go_wp2
  go_ret
  exact ⟨rfl, d.out⟩
 have z1a : (a1 == b1) = true := by rw [beq_iff_eq]; exact hz1
 have z1b : (a1 != b1) = false := by rw [bne_eq_false_iff_eq]; exact hz1
 have HZ1 := Lib.hid hz1
 clear hz1
 go_enter Try.func69, Try.ntmps69
 go_wp2_with fail
 generalize ((w.alloc (.cells #[.int .i64 a0, .int .i64 a1, .slice p2 x2.length c2, .slice p3 x3.length c3, .slice p4 x4.length c4] 105)).alloc (.cells #[.int .i64 b0, .int .i64 b1, .slice r2 y2.length e2, .slice r3 y3.length e3, .slice r4 y4.length e4] 105)) = W at *
 clear z0a z0b z1a z1b
 refine (specInts (.slice p2 x2.length c2) (.slice r2 y2.length e2) x2 y2 W (slR_ints (slR_below tInt_law H2.out d.out)) (slR_ints (slR_below tInt_law G2.out d.out)) n2 m2).mono ?_
 rintro e W1 ⟨rfl, c⟩
 replace B0 := Lib.hid ((c.block w.heap.size (Array.getElem?_eq_some_iff.1 B0.out).1).trans B0.out)
 replace B1 := Lib.hid ((c.block (w.heap.size + 1) (Array.getElem?_eq_some_iff.1 B1.out).1).trans B1.out)
 replace d := Lib.hid (d.out.trans (c.mono d.out.size))
 have Z_W1 := Lib.hid (show W.heap.size ≤ W1.heap.size from c.size)
 clear c
 rcases Bool.eq_false_or_eq_true (decide (x2 = y2)) with hy0 | hy0
 rotate_left
 ·
  rw [hy0]
  have HF := Lib.hid (decide_eq_false (show ¬ (((a0, a1, x2, x3, x4) : ChargeD) = (b0, b1, y2, y3, y4)) from fun g => of_decide_eq_false hy0 (congrArg (fun z : ChargeD => z.2.2.1) g)))
  clear hy0
  obtain ⟨p_B0_0, p_B0_1, p_B0_2, p_B0_3, p_B0_4⟩ := cls5 B0.out
  obtain ⟨p_B1_0, p_B1_1, p_B1_2, p_B1_3, p_B1_4⟩ := cls5 B1.out
  go_wp2
  clear p_B0_0 p_B0_1 p_B0_2 p_B0_3 p_B0_4 p_B1_0 p_B1_1 p_B1_2 p_B1_3 p_B1_4
  go_ret
  exact ⟨ret_b HF.out.symm, d.out⟩
 rw [hy0]
 have HY0 := Lib.hid hy0
 clear hy0
 obtain ⟨p_B0_0, p_B0_1, p_B0_2, p_B0_3, p_B0_4⟩ := cls5 B0.out
 obtain ⟨p_B1_0, p_B1_1, p_B1_2, p_B1_3, p_B1_4⟩ := cls5 B1.out
 go_wp2_with fail
 clear p_B0_0 p_B0_1 p_B0_2 p_B0_3 p_B0_4 p_B1_0 p_B1_1 p_B1_2 p_B1_3 p_B1_4
 refine (specInts (.slice p3 x3.length c3) (.slice r3 y3.length e3) x3 y3 W1 (slR_ints (slR_below tInt_law H3.out d.out)) (slR_ints (slR_below tInt_law G3.out d.out)) n3 m3).mono ?_
 rintro e W2 ⟨rfl, c⟩
 replace B0 := Lib.hid ((c.block w.heap.size (Array.getElem?_eq_some_iff.1 B0.out).1).trans B0.out)
 replace B1 := Lib.hid ((c.block (w.heap.size + 1) (Array.getElem?_eq_some_iff.1 B1.out).1).trans B1.out)
 replace d := Lib.hid (d.out.trans (c.mono d.out.size))
 have Z_W2 := Lib.hid (show W1.heap.size ≤ W2.heap.size from c.size)
 clear c
 rcases Bool.eq_false_or_eq_true (decide (x3 = y3)) with hh0 | hh0
 rotate_left
 ·
  rw [hh0]
  have HF := Lib.hid (decide_eq_false (show ¬ (((a0, a1, x2, x3, x4) : ChargeD) = (b0, b1, y2, y3, y4)) from fun g => of_decide_eq_false hh0 (congrArg (fun z : ChargeD => z.2.2.2.1) g)))
  clear hh0
  obtain ⟨p_B0_0, p_B0_1, p_B0_2, p_B0_3, p_B0_4⟩ := cls5 B0.out
  obtain ⟨p_B1_0, p_B1_1, p_B1_2, p_B1_3, p_B1_4⟩ := cls5 B1.out
  go_wp2
  clear p_B0_0 p_B0_1 p_B0_2 p_B0_3 p_B0_4 p_B1_0 p_B1_1 p_B1_2 p_B1_3 p_B1_4
  go_ret
  exact ⟨ret_b HF.out.symm, d.out⟩
 rw [hh0]
 have HH0 := Lib.hid hh0
 clear hh0
 obtain ⟨p_B0_0, p_B0_1, p_B0_2, p_B0_3, p_B0_4⟩ := cls5 B0.out
 obtain ⟨p_B1_0, p_B1_1, p_B1_2, p_B1_3, p_B1_4⟩ := cls5 B1.out
 go_wp2_with fail
 clear p_B0_0 p_B0_1 p_B0_2 p_B0_3 p_B0_4 p_B1_0 p_B1_1 p_B1_2 p_B1_3 p_B1_4
 refine (specInts (.slice p4 x4.length c4) (.slice r4 y4.length e4) x4 y4 W2 (slR_ints (slR_below tInt_law H4.out d.out)) (slR_ints (slR_below tInt_law G4.out d.out)) n4 m4).mono ?_
 rintro e W3 ⟨rfl, c⟩
 replace B0 := Lib.hid ((c.block w.heap.size (Array.getElem?_eq_some_iff.1 B0.out).1).trans B0.out)
 replace B1 := Lib.hid ((c.block (w.heap.size + 1) (Array.getElem?_eq_some_iff.1 B1.out).1).trans B1.out)
 replace d := Lib.hid (d.out.trans (c.mono d.out.size))
 have Z_W3 := Lib.hid (show W2.heap.size ≤ W3.heap.size from c.size)
 clear c
 rcases Bool.eq_false_or_eq_true (decide (x4 = y4)) with hh1 | hh1
 rotate_left
 ·
  rw [hh1]
  have HF := Lib.hid (decide_eq_false (show ¬ (((a0, a1, x2, x3, x4) : ChargeD) = (b0, b1, y2, y3, y4)) from fun g => of_decide_eq_false hh1 (congrArg (fun z : ChargeD => z.2.2.2.2) g)))
  clear hh1
  obtain ⟨p_B0_0, p_B0_1, p_B0_2, p_B0_3, p_B0_4⟩ := cls5 B0.out
  obtain ⟨p_B1_0, p_B1_1, p_B1_2, p_B1_3, p_B1_4⟩ := cls5 B1.out
  go_wp2
  clear p_B0_0 p_B0_1 p_B0_2 p_B0_3 p_B0_4 p_B1_0 p_B1_1 p_B1_2 p_B1_3 p_B1_4
  go_ret
  exact ⟨ret_b HF.out.symm, d.out⟩
 rw [hh1]
 have HH1 := Lib.hid hh1
 clear hh1
 have HT : Hid (decide (((a0, a1, x2, x3, x4) : ChargeD) = (b0, b1, y2, y3, y4)) = true) := Lib.hid (decide_eq_true (by rw [HZ0.out, HZ1.out, of_decide_eq_true HY0.out, of_decide_eq_true HH0.out, of_decide_eq_true HH1.out]))
 obtain ⟨p_B0_0, p_B0_1, p_B0_2, p_B0_3, p_B0_4⟩ := cls5 B0.out
 obtain ⟨p_B1_0, p_B1_1, p_B1_2, p_B1_3, p_B1_4⟩ := cls5 B1.out
 go_wp2
 clear p_B0_0 p_B0_1 p_B0_2 p_B0_3 p_B0_4 p_B1_0 p_B1_1 p_B1_2 p_B1_3 p_B1_4
 go_ret
 exact ⟨ret_b HT.out.symm, d.out⟩
set_option maxHeartbeats 16000000 in
set_option maxRecDepth 100000 in
theorem implChargeEq (a0 a1 b0 b1 : Int) (v2 v3 v4 u2 u3 u4 : Value) (x2 y2 : List Int) (x3 y3 : List Int) (x4 y4 : List Int) (w : World) (h2 : SlR tInt w v2 x2) (h3 : SlR tInt w v3 x3) (h4 : SlR tInt w v4 x4) (g2 : SlR tInt w u2 y2) (g3 : SlR tInt w u3 y3) (g4 : SlR tInt w u4 y4) (s2 : zL tInt x2 ≤ 1048576) (s3 : zL tInt x3 ≤ 1048576) (s4 : zL tInt x4 ≤ 1048576) (t2 : zL tInt y2 ≤ 1048576) (t3 : zL tInt y3 ≤ 1048576) (t4 : zL tInt y4 ≤ 1048576) :
  Calls Try.prog 77 #[.agg #[.int .i64 a0, .int .i64 a1, v2, v3, v4], .agg #[.int .i64 b0, .int .i64 b1, u2, u3, u4]] w (fun e w' => e = .returned (.bool (decide (((a0, a1, x2, x3, x4) : ChargeD) = (b0, b1, y2, y3, y4)))) ∧ Below w.heap.size w w') := by
 obtain ⟨p2, c2, rfl⟩ := slR_len h2
 obtain ⟨r2, e2, rfl⟩ := slR_len g2
 have H2 := Lib.hid h2; have G2 := Lib.hid g2; have S2 := Lib.hid s2; have T2 := Lib.hid t2; have n2 := zL_len s2; have m2 := zL_len t2
 obtain ⟨p3, c3, rfl⟩ := slR_len h3
 obtain ⟨r3, e3, rfl⟩ := slR_len g3
 have H3 := Lib.hid h3; have G3 := Lib.hid g3; have S3 := Lib.hid s3; have T3 := Lib.hid t3; have n3 := zL_len s3; have m3 := zL_len t3
 obtain ⟨p4, c4, rfl⟩ := slR_len h4
 obtain ⟨r4, e4, rfl⟩ := slR_len g4
 have H4 := Lib.hid h4; have G4 := Lib.hid g4; have S4 := Lib.hid s4; have T4 := Lib.hid t4; have n4 := zL_len s4; have m4 := zL_len t4
 clear h2 g2 s2 t2 h3 g3 s3 t3 h4 g4 s4 t4
 have d := Lib.hid (show Below w.heap.size w ((w.alloc (.cells #[.int .i64 a0, .int .i64 a1, .slice p2 x2.length c2, .slice p3 x3.length c3, .slice p4 x4.length c4] 105)).alloc (.cells #[.int .i64 b0, .int .i64 b1, .slice r2 y2.length e2, .slice r3 y3.length e3, .slice r4 y4.length e4] 105)) from (((Below.refl _ w).alloc (Nat.le_refl _) _).alloc (by simp) _))
 have B0 : Hid (((w.alloc (.cells #[.int .i64 a0, .int .i64 a1, .slice p2 x2.length c2, .slice p3 x3.length c3, .slice p4 x4.length c4] 105)).alloc (.cells #[.int .i64 b0, .int .i64 b1, .slice r2 y2.length e2, .slice r3 y3.length e3, .slice r4 y4.length e4] 105)).heap[w.heap.size]? = some (.cells #[.int .i64 a0, .int .i64 a1, .slice p2 x2.length c2, .slice p3 x3.length c3, .slice p4 x4.length c4] 105 (0, 0))) := Lib.hid (by
  rw [Below.heap_alloc _ _ _ (by simp)]
  exact heap_alloc_new w _)
 have B1 : Hid (((w.alloc (.cells #[.int .i64 a0, .int .i64 a1, .slice p2 x2.length c2, .slice p3 x3.length c3, .slice p4 x4.length c4] 105)).alloc (.cells #[.int .i64 b0, .int .i64 b1, .slice r2 y2.length e2, .slice r3 y3.length e3, .slice r4 y4.length e4] 105)).heap[(w.heap.size + 1)]? = some (.cells #[.int .i64 b0, .int .i64 b1, .slice r2 y2.length e2, .slice r3 y3.length e3, .slice r4 y4.length e4] 105 (0, 0))) := Lib.hid (by
  have := heap_alloc_new (w.alloc (.cells #[.int .i64 a0, .int .i64 a1, .slice p2 x2.length c2, .slice p3 x3.length c3, .slice p4 x4.length c4] 105)) (.cells #[.int .i64 b0, .int .i64 b1, .slice r2 y2.length e2, .slice r3 y3.length e3, .slice r4 y4.length e4] 105)
  simpa only [World.size_alloc] using this)
 have YW : Hid (w.heap.size + 2 ≤ ((w.alloc (.cells #[.int .i64 a0, .int .i64 a1, .slice p2 x2.length c2, .slice p3 x3.length c3, .slice p4 x4.length c4] 105)).alloc (.cells #[.int .i64 b0, .int .i64 b1, .slice r2 y2.length e2, .slice r3 y3.length e3, .slice r4 y4.length e4] 105)).heap.size) := Lib.hid (by simp [World.size_alloc])
 by_cases hz0 : a0 = b0
 rotate_left
 ·
  have HF : Hid (decide (((a0, a1, x2, x3, x4) : ChargeD) = (b0, b1, y2, y3, y4)) = false) := Lib.hid (decide_eq_false (fun g => hz0 (congrArg (fun z : ChargeD => z.1) g)))
  rw [HF.out]
  have z0a : (a0 == b0) = false := by rw [beq_eq_false_iff_ne]; exact hz0
  have z0b : (a0 != b0) = true := by rw [bne_iff_ne]; exact hz0
  clear hz0
  go_enter Try.func77, Try.ntmps77
  go_wp2
  go_ret
  exact ⟨rfl, d.out⟩
 have z0a : (a0 == b0) = true := by rw [beq_iff_eq]; exact hz0
 have z0b : (a0 != b0) = false := by rw [bne_eq_false_iff_eq]; exact hz0
 have HZ0 := Lib.hid hz0
 clear hz0
 by_cases hz1 : a1 = b1
 rotate_left
 ·
  have HF : Hid (decide (((a0, a1, x2, x3, x4) : ChargeD) = (b0, b1, y2, y3, y4)) = false) := Lib.hid (decide_eq_false (fun g => hz1 (congrArg (fun z : ChargeD => z.2.1) g)))
  rw [HF.out]
  have z1a : (a1 == b1) = false := by rw [beq_eq_false_iff_ne]; exact hz1
  have z1b : (a1 != b1) = true := by rw [bne_iff_ne]; exact hz1
  clear hz1
  go_enter Try.func77, Try.ntmps77
  go_wp2
  go_ret
  exact ⟨rfl, d.out⟩
 have z1a : (a1 == b1) = true := by rw [beq_iff_eq]; exact hz1
 have z1b : (a1 != b1) = false := by rw [bne_eq_false_iff_eq]; exact hz1
 have HZ1 := Lib.hid hz1
 clear hz1
 go_enter Try.func77, Try.ntmps77
 go_wp2_with fail
 generalize ((w.alloc (.cells #[.int .i64 a0, .int .i64 a1, .slice p2 x2.length c2, .slice p3 x3.length c3, .slice p4 x4.length c4] 105)).alloc (.cells #[.int .i64 b0, .int .i64 b1, .slice r2 y2.length e2, .slice r3 y3.length e3, .slice r4 y4.length e4] 105)) = W at *
 clear z0a z0b z1a z1b
 refine (equalInts_any (.slice p2 x2.length c2) (.slice r2 y2.length e2) x2 y2 W (slR_ints (slR_below tInt_law H2.out d.out)) (slR_ints (slR_below tInt_law G2.out d.out)) n2 m2).mono ?_
 rintro e W1 ⟨rfl, c⟩
 replace B0 := Lib.hid ((c.block w.heap.size (Array.getElem?_eq_some_iff.1 B0.out).1).trans B0.out)
 replace B1 := Lib.hid ((c.block (w.heap.size + 1) (Array.getElem?_eq_some_iff.1 B1.out).1).trans B1.out)
 replace d := Lib.hid (d.out.trans (c.mono d.out.size))
 have Z_W1 := Lib.hid (show W.heap.size ≤ W1.heap.size from c.size)
 clear c
 rcases Bool.eq_false_or_eq_true (decide (x2 = y2)) with hy0 | hy0
 rotate_left
 ·
  rw [hy0]
  have HF := Lib.hid (decide_eq_false (show ¬ (((a0, a1, x2, x3, x4) : ChargeD) = (b0, b1, y2, y3, y4)) from fun g => of_decide_eq_false hy0 (congrArg (fun z : ChargeD => z.2.2.1) g)))
  clear hy0
  obtain ⟨p_B0_0, p_B0_1, p_B0_2, p_B0_3, p_B0_4⟩ := cls5 B0.out
  obtain ⟨p_B1_0, p_B1_1, p_B1_2, p_B1_3, p_B1_4⟩ := cls5 B1.out
  go_wp2
  clear p_B0_0 p_B0_1 p_B0_2 p_B0_3 p_B0_4 p_B1_0 p_B1_1 p_B1_2 p_B1_3 p_B1_4
  go_ret
  exact ⟨ret_b HF.out.symm, d.out⟩
 rw [hy0]
 have HY0 := Lib.hid hy0
 clear hy0
 obtain ⟨p_B0_0, p_B0_1, p_B0_2, p_B0_3, p_B0_4⟩ := cls5 B0.out
 obtain ⟨p_B1_0, p_B1_1, p_B1_2, p_B1_3, p_B1_4⟩ := cls5 B1.out
 go_wp2_with fail
 clear p_B0_0 p_B0_1 p_B0_2 p_B0_3 p_B0_4 p_B1_0 p_B1_1 p_B1_2 p_B1_3 p_B1_4
 refine (equalInts_any (.slice p3 x3.length c3) (.slice r3 y3.length e3) x3 y3 W1 (slR_ints (slR_below tInt_law H3.out d.out)) (slR_ints (slR_below tInt_law G3.out d.out)) n3 m3).mono ?_
 rintro e W2 ⟨rfl, c⟩
 replace B0 := Lib.hid ((c.block w.heap.size (Array.getElem?_eq_some_iff.1 B0.out).1).trans B0.out)
 replace B1 := Lib.hid ((c.block (w.heap.size + 1) (Array.getElem?_eq_some_iff.1 B1.out).1).trans B1.out)
 replace d := Lib.hid (d.out.trans (c.mono d.out.size))
 have Z_W2 := Lib.hid (show W1.heap.size ≤ W2.heap.size from c.size)
 clear c
 rcases Bool.eq_false_or_eq_true (decide (x3 = y3)) with hh0 | hh0
 rotate_left
 ·
  rw [hh0]
  have HF := Lib.hid (decide_eq_false (show ¬ (((a0, a1, x2, x3, x4) : ChargeD) = (b0, b1, y2, y3, y4)) from fun g => of_decide_eq_false hh0 (congrArg (fun z : ChargeD => z.2.2.2.1) g)))
  clear hh0
  obtain ⟨p_B0_0, p_B0_1, p_B0_2, p_B0_3, p_B0_4⟩ := cls5 B0.out
  obtain ⟨p_B1_0, p_B1_1, p_B1_2, p_B1_3, p_B1_4⟩ := cls5 B1.out
  go_wp2
  clear p_B0_0 p_B0_1 p_B0_2 p_B0_3 p_B0_4 p_B1_0 p_B1_1 p_B1_2 p_B1_3 p_B1_4
  go_ret
  exact ⟨ret_b HF.out.symm, d.out⟩
 rw [hh0]
 have HH0 := Lib.hid hh0
 clear hh0
 obtain ⟨p_B0_0, p_B0_1, p_B0_2, p_B0_3, p_B0_4⟩ := cls5 B0.out
 obtain ⟨p_B1_0, p_B1_1, p_B1_2, p_B1_3, p_B1_4⟩ := cls5 B1.out
 go_wp2_with fail
 clear p_B0_0 p_B0_1 p_B0_2 p_B0_3 p_B0_4 p_B1_0 p_B1_1 p_B1_2 p_B1_3 p_B1_4
 refine (equalInts_any (.slice p4 x4.length c4) (.slice r4 y4.length e4) x4 y4 W2 (slR_ints (slR_below tInt_law H4.out d.out)) (slR_ints (slR_below tInt_law G4.out d.out)) n4 m4).mono ?_
 rintro e W3 ⟨rfl, c⟩
 replace B0 := Lib.hid ((c.block w.heap.size (Array.getElem?_eq_some_iff.1 B0.out).1).trans B0.out)
 replace B1 := Lib.hid ((c.block (w.heap.size + 1) (Array.getElem?_eq_some_iff.1 B1.out).1).trans B1.out)
 replace d := Lib.hid (d.out.trans (c.mono d.out.size))
 have Z_W3 := Lib.hid (show W2.heap.size ≤ W3.heap.size from c.size)
 clear c
 rcases Bool.eq_false_or_eq_true (decide (x4 = y4)) with hh1 | hh1
 rotate_left
 ·
  rw [hh1]
  have HF := Lib.hid (decide_eq_false (show ¬ (((a0, a1, x2, x3, x4) : ChargeD) = (b0, b1, y2, y3, y4)) from fun g => of_decide_eq_false hh1 (congrArg (fun z : ChargeD => z.2.2.2.2) g)))
  clear hh1
  obtain ⟨p_B0_0, p_B0_1, p_B0_2, p_B0_3, p_B0_4⟩ := cls5 B0.out
  obtain ⟨p_B1_0, p_B1_1, p_B1_2, p_B1_3, p_B1_4⟩ := cls5 B1.out
  go_wp2
  clear p_B0_0 p_B0_1 p_B0_2 p_B0_3 p_B0_4 p_B1_0 p_B1_1 p_B1_2 p_B1_3 p_B1_4
  go_ret
  exact ⟨ret_b HF.out.symm, d.out⟩
 rw [hh1]
 have HH1 := Lib.hid hh1
 clear hh1
 have HT : Hid (decide (((a0, a1, x2, x3, x4) : ChargeD) = (b0, b1, y2, y3, y4)) = true) := Lib.hid (decide_eq_true (by rw [HZ0.out, HZ1.out, of_decide_eq_true HY0.out, of_decide_eq_true HH0.out, of_decide_eq_true HH1.out]))
 obtain ⟨p_B0_0, p_B0_1, p_B0_2, p_B0_3, p_B0_4⟩ := cls5 B0.out
 obtain ⟨p_B1_0, p_B1_1, p_B1_2, p_B1_3, p_B1_4⟩ := cls5 B1.out
 go_wp2
 clear p_B0_0 p_B0_1 p_B0_2 p_B0_3 p_B0_4 p_B1_0 p_B1_1 p_B1_2 p_B1_3 p_B1_4
 go_ret
 exact ⟨ret_b HT.out.symm, d.out⟩
end Go.Proofs.Ytdhglmoanpkeoaa
