/-
 Texts of the proof, merged: VerSpec6, VerP8.
-/
import Derived.Test.YtdhglmoanpkeoaaEQ1
import Derived.Test.YtdhglmoanpkeoaaEQ2
import Derived.Test.YtdhglmoanpkeoaaEQ6
import Derived.Test.YtdhglmoanpkeoaaEQ8
namespace Go.Proofs.Ytdhglmoanpkeoaa
open Go.RowKit
set_option linter.unusedVariables false
set_option linter.unusedSimpArgs false
theorem segs_ne_at {l m : List (List VerD)} {k : Nat} (h : ¬ l.getD k [] = m.getD k []) : ¬ l = m := fun e => h (by rw [e])
theorem segs_eq_all {l m : List (List VerD)} (hl : l.length = m.length) (h : ∀ j, j < l.length → l.getD j [] = m.getD j []) : l = m := by
 apply List.ext_getElem hl
 intro i h1 h2
 have := h i h1
 simpa [List.getD, h1, h2] using this
set_option maxHeartbeats 8000000 in
set_option maxRecDepth 100000 in
theorem specEqualStores (sv tv : Value) (ss tt : List (List VerD)) (now now2 : Int) (w : World) (h : SlR tVersionS w sv ss) (g : SlR tVersionS w tv tt) (hs : zL tVersionS ss ≤ 1048576) (ht : zL tVersionS tt ≤ 1048576) :
  Calls Try.prog 64 #[.agg #[sv, .int .i64 now], .agg #[tv, .int .i64 now2]] w (fun e w' => e = .returned (.bool (decide ((ss, now) = (tt, now2)))) ∧ Below w.heap.size w w') := by
 have hlen := zL_len hs
 have hlen2 := zL_len ht
 obtain ⟨a, cap, rfl⟩ := slR_len h
 obtain ⟨a2, cap2, rfl⟩ := slR_len g
 have d0 := Lib.hid (show Below w.heap.size w ((w.alloc (.cells #[.slice a ss.length cap, .int .i64 now] 30)).alloc (.cells #[.slice a2 tt.length cap2, .int .i64 now2] 30)) from ((Below.refl _ _).alloc (Nat.le_refl _) _).alloc (by simp) _)
 have B1 : Hid (((w.alloc (.cells #[.slice a ss.length cap, .int .i64 now] 30)).alloc (.cells #[.slice a2 tt.length cap2, .int .i64 now2] 30)).heap[w.heap.size + 1]? = some (.cells #[.slice a2 tt.length cap2, .int .i64 now2] 30 (0, 0))) := Lib.hid (by
  have := heap_alloc_new (w.alloc (.cells #[.slice a ss.length cap, .int .i64 now] 30)) (.cells #[.slice a2 tt.length cap2, .int .i64 now2] 30)
  simpa only [World.size_alloc] using this)
 have B0 : Hid (((w.alloc (.cells #[.slice a ss.length cap, .int .i64 now] 30)).alloc (.cells #[.slice a2 tt.length cap2, .int .i64 now2] 30)).heap[w.heap.size]? = some (.cells #[.slice a ss.length cap, .int .i64 now] 30 (0, 0))) := Lib.hid (by
  rw [Below.heap_alloc _ _ _ (by simp)]
  exact heap_alloc_new w _)
 have Y1 : Hid (w.heap.size + 1 < ((w.alloc (.cells #[.slice a ss.length cap, .int .i64 now] 30)).alloc (.cells #[.slice a2 tt.length cap2, .int .i64 now2] 30)).heap.size) := Lib.hid (by simp [World.size_alloc])
 have HS := Lib.hid hs
 have HT := Lib.hid ht
 have H := Lib.hid (slR_below tVersionS_law h d0.out)
 have G := Lib.hid (slR_below tVersionS_law g d0.out)
 clear h g hs ht
 by_cases hl : ss.length = tt.length
 rotate_left
 ·
  have HF := Lib.hid (decide_eq_false (show ¬ (ss, now) = (tt, now2) from fun e => hl (by rw [(Prod.mk.inj e).1])))
  have hne : ((ss.length : Int) != (tt.length : Int)) = true := by rw [bne_iff_ne]; omega
  clear hl
  rw [HF.out]
  go_enter Try.func64, Try.ntmps64
  go_wp2
  go_ret
  exact ⟨rfl, d0.out⟩
 have HL := Lib.hid hl
 have hne : ((ss.length : Int) != (tt.length : Int)) = false := by rw [hl]; simp
 by_cases hn : now = now2
 rotate_left
 ·
  have HF := Lib.hid (decide_eq_false (show ¬ (ss, now) = (tt, now2) from fun e => hn (Prod.mk.inj e).2))
  have hne2 : (now != now2) = true := by simp [hn]
  clear hl hn
  rw [HF.out]
  go_enter Try.func64, Try.ntmps64
  go_wp2
  go_ret
  exact ⟨rfl, d0.out⟩
 subst hn
 have hne2 : (now != now) = false := by simp
 have HD : Hid (decide ((ss, now) = (tt, now)) = decide (ss = tt)) := Lib.hid (by simp)
 rw [HD.out]
 clear hl HD
 go_enter Try.func64, Try.ntmps64
 go_wp2
 clear hne hne2
 generalize ((w.alloc (.cells #[.slice a ss.length cap, .int .i64 now] 30)).alloc (.cells #[.slice a2 tt.length cap2, .int .i64 now] 30)) = W at *
 have q0 := (cell_of_row W _ 0 _ _ _ B0.out).trans (show _ = some (Value.slice a ss.length cap) from rfl)
 have q1 := (cell_of_row W _ 0 _ _ _ B1.out).trans (show _ = some (Value.slice a2 tt.length cap2) from rfl)
 have Q0 := Lib.hid q0
 have Q1 := Lib.hid q1
 clear q0 q1 B0 B1
 go_loopw [5] (fun i wr => ∃ k : Nat, k ≤ ss.length ∧ i = .int .i64 k ∧ Hid (∀ j, j < k → ss.getD j [] = tt.getD j []) ∧ Below W.heap.size W wr) (fun i _ => ss.length - (intOf i).toNat)
 case atStart => exact ⟨0, Nat.zero_le _, rfl, Lib.hid (fun j hj => by omega), Below.refl _ _⟩
 case round =>
  obtain ⟨k, hk, rfl, hall, hbel⟩ := hrel
  have p0 := (hbel.cell (p := ⟨w.heap.size, 0, none⟩) (Nat.lt_of_succ_lt Y1.out)).trans Q0.out
  by_cases hlt : k < ss.length
  ·
   have hlt2 : k < tt.length := by have := HL.out; omega
   have i1 : (0 : Int) ≤ (k : Int) := by omega
   have i2 : (k : Int) < (ss.length : Int) := by omega
   have i3 : (k : Int) < (tt.length : Int) := by omega
   obtain ⟨b, off, cap', cs, hv, hbl, hcs, hR⟩ := slR_at H.out hlt
   simp only [Value.slice.injEq] at hv
   obtain ⟨rfl, _, rfl⟩ := hv
   obtain ⟨u, rfl, hU⟩ := hR
   obtain ⟨b2, off2, cap2', cs2, hv, hbl2, hcs2, hR2⟩ := slR_at G.out hlt2
   simp only [Value.slice.injEq] at hv
   obtain ⟨rfl, _, rfl⟩ := hv
   obtain ⟨u2, rfl, hU2⟩ := hR2
   have pe : W.cell? ⟨b, off + k, none⟩ = some u := by have := hcs 0 Nat.one_pos; rw [show tVersionS.n = 1 from rfl, Nat.mul_one, Nat.add_zero] at this; exact this
   have pe2 : W.cell? ⟨b2, off2 + k, none⟩ = some u2 := by have := hcs2 0 Nat.one_pos; rw [show tVersionS.n = 1 from rfl, Nat.mul_one, Nat.add_zero] at this; exact this
   have hz1 := Nat.le_trans (zL_seg hlt) HS.out
   have hz2 := Nat.le_trans (zL_seg hlt2) HT.out
   have HNE := Lib.hid (fun e => decide_eq_false (segs_ne_at (l := ss) (m := tt) (k := k) e))
   have HALL : Hid (ss.getD k [] = tt.getD k [] → ∀ j, j < k + 1 → ss.getD j [] = tt.getD j []) := Lib.hid (fun he j hj => by
    by_cases e : j = k
    ·
     exact e ▸ he
    ·
     exact hall.out j (by omega))
   change SlR tVersion W u (ss.getD k []) at hU
   change SlR tVersion W u2 (tt.getD k []) at hU2
   clear hall hcs hcs2
   generalize ss.getD k [] = l at *
   generalize tt.getD k [] = m at *
   obtain ⟨ua, uc, rfl⟩ := slR_len hU
   obtain ⟨ua2, uc2, rfl⟩ := slR_len hU2
   have HU := Lib.hid hU
   have HU2 := Lib.hid hU2
   have PE := Lib.hid pe
   have PE2 := Lib.hid pe2
   have HBL := Lib.hid hbl
   have HBL2 := Lib.hid hbl2
   have d := Lib.hid hbel
   have HC := Lib.hid (fun W' h g => specL7Same (.slice ua l.length uc) (.slice ua2 m.length uc2) l m W' h g hz1 hz2)
   clear hU hU2 pe pe2 hbl hbl2 hbel hz1 hz2
   by_cases hx : l = m
   ·
    have HA := Lib.hid (HALL.out hx)
    rw [decide_eq_true hx] at HC
    clear hx HNE HALL
    go_wp2
    clear p0
    have p_Q0 := (d.out.cell (p := ⟨w.heap.size, 0, none⟩) (Nat.lt_of_succ_lt Y1.out)).trans Q0.out
    have p_Q1 := (d.out.cell (p := ⟨w.heap.size + 1, 0, none⟩) Y1.out).trans Q1.out
    have p_PE := (d.out.cell (p := ⟨b, off + k, none⟩) HBL.out).trans PE.out
    have p_PE2 := (d.out.cell (p := ⟨b2, off2 + k, none⟩) HBL2.out).trans PE2.out
    refine wp_region_held_drew (S := fun w' => w'.cell? ⟨w.heap.size, 0, none⟩ = some (Value.slice (some ⟨b, off, none⟩) ss.length cap) ∧ w'.cell? ⟨w.heap.size + 1, 0, none⟩ = some (Value.slice (some ⟨b2, off2, none⟩) tt.length cap2) ∧ w'.cell? ⟨b, off + k, none⟩ = some (Value.slice ua l.length uc) ∧ w'.cell? ⟨b2, off2 + k, none⟩ = some (Value.slice ua2 m.length uc2)) (by kernel_rfl) ⟨p_Q0, p_Q1, p_PE, p_PE2⟩ (fun hHeld => ?_)
    clear p_Q0 p_Q1 p_PE p_PE2
    have cdr : Below wr.heap.size wr wr.drew := below_drew (Below.refl _ _)
    replace d := Lib.hid (d.out.trans (cdr.mono d.out.size))
    clear cdr
    refine tR (i := 0) (v := ?_) ?_ ?_; rotate_left
    ·
     intro w hSw; (try dsimp only at hSw); go_simp; try (with_reducible rfl)
    try simp only [Act.put, lA, lB, lC]
    refine tR (i := 1) (v := ?_) ?_ ?_; rotate_left
    ·
     intro w hSw; (try dsimp only at hSw); go_simp; try (with_reducible rfl)
    try simp only [Act.put, lA, lB, lC]
    refine tR (i := 2) (v := ?_) ?_ ?_; rotate_left
    ·
     intro w hSw; (try dsimp only at hSw); go_simp; try (with_reducible rfl)
    try simp only [Act.put, lA, lB, lC]
    refine tR (i := 3) (v := ?_) ?_ ?_; rotate_left
    ·
     intro w hSw; (try dsimp only at hSw); go_simp; try (with_reducible rfl)
    try simp only [Act.put, lA, lB, lC]
    refine tR (i := 4) (v := ?_) ?_ ?_; rotate_left
    ·
     intro w hSw; (try dsimp only at hSw); go_simp; try (with_reducible rfl)
    try simp only [Act.put, lA, lB, lC]
    refine tR (i := 5) (v := ?_) ?_ ?_; rotate_left
    ·
     intro w hSw; (try dsimp only at hSw); go_simp; try (with_reducible rfl)
    try simp only [Act.put, lA, lB, lC]
    refine tR (i := 6) (v := ?_) ?_ ?_; rotate_left
    ·
     intro w hSw; (try dsimp only at hSw); go_simp; try (with_reducible rfl)
    try simp only [Act.put, lA, lB, lC]
    refine tR (i := 7) (v := ?_) ?_ ?_; rotate_left
    ·
     intro w hSw; (try dsimp only at hSw); go_simp; try (with_reducible rfl)
    try simp only [Act.put, lA, lB, lC]
    refine tR (i := 8) (v := ?_) ?_ ?_; rotate_left
    ·
     intro w hSw; (try dsimp only at hSw); go_simp; try (with_reducible rfl)
    try simp only [Act.put, lA, lB, lC]
    refine tR (i := 9) (v := ?_) ?_ ?_; rotate_left
    ·
     intro w hSw; (try dsimp only at hSw); go_simp; try (with_reducible rfl)
    try simp only [Act.put, lA, lB, lC]
    refine wpAnyH_ready (rs := [10]) (by kernel_rfl) (by simp) ?_
    refine (AllReadyH.cons (o := _) (by simp only [hA, hB, hC]; rfl) (fun K hK => ?_) AllReadyH.nil)
    go_simp
    refine (HC.out (wr.drew) (slR_below tVersion_law HU.out d.out) (slR_below tVersion_law HU2.out d.out)).mono ?_
    rintro e w5 ⟨rfl, c5⟩
    replace d := Lib.hid (d.out.trans (c5.mono d.out.size))
    have Z_w5 := Lib.hid (show wr.heap.size ≤ w5.heap.size from c5.size)
    clear c5
    have p_Q0 := (d.out.cell (p := ⟨w.heap.size, 0, none⟩) (Nat.lt_of_succ_lt Y1.out)).trans Q0.out
    have p_Q1 := (d.out.cell (p := ⟨w.heap.size + 1, 0, none⟩) Y1.out).trans Q1.out
    have p_PE := (d.out.cell (p := ⟨b, off + k, none⟩) HBL.out).trans PE.out
    have p_PE2 := (d.out.cell (p := ⟨b2, off2 + k, none⟩) HBL2.out).trans PE2.out
    refine hK.out _ _ ⟨p_Q0, p_Q1, p_PE, p_PE2⟩ (fun hHeld => ?_)
    clear p_Q0 p_Q1 p_PE p_PE2
    clear hK K
    try simp only [Act.put, lA, lB, lC]
    refine tR (i := 11) (v := ?_) ?_ ?_; rotate_left
    ·
     intro w hSw; (try dsimp only at hSw); go_simp; try (with_reducible rfl)
    try simp only [Act.put, lA, lB, lC]
    refine wpAnyH_done (by kernel_rfl) ?_ _
    clear hHeld
    go_wp2
    go_roundw
    case rel => exact ⟨k + 1, by omega, by go_num, HA, d.out⟩
    case measure => simp [intOf]; omega
   ·
    have HF := Lib.hid (HNE.out hx)
    rw [decide_eq_false hx] at HC
    clear hx HNE HALL
    go_wp2
    clear p0
    have p_Q0 := (d.out.cell (p := ⟨w.heap.size, 0, none⟩) (Nat.lt_of_succ_lt Y1.out)).trans Q0.out
    have p_Q1 := (d.out.cell (p := ⟨w.heap.size + 1, 0, none⟩) Y1.out).trans Q1.out
    have p_PE := (d.out.cell (p := ⟨b, off + k, none⟩) HBL.out).trans PE.out
    have p_PE2 := (d.out.cell (p := ⟨b2, off2 + k, none⟩) HBL2.out).trans PE2.out
    refine wp_region_held_drew (S := fun w' => w'.cell? ⟨w.heap.size, 0, none⟩ = some (Value.slice (some ⟨b, off, none⟩) ss.length cap) ∧ w'.cell? ⟨w.heap.size + 1, 0, none⟩ = some (Value.slice (some ⟨b2, off2, none⟩) tt.length cap2) ∧ w'.cell? ⟨b, off + k, none⟩ = some (Value.slice ua l.length uc) ∧ w'.cell? ⟨b2, off2 + k, none⟩ = some (Value.slice ua2 m.length uc2)) (by kernel_rfl) ⟨p_Q0, p_Q1, p_PE, p_PE2⟩ (fun hHeld => ?_)
    clear p_Q0 p_Q1 p_PE p_PE2
    have cdr : Below wr.heap.size wr wr.drew := below_drew (Below.refl _ _)
    replace d := Lib.hid (d.out.trans (cdr.mono d.out.size))
    clear cdr
    refine tR (i := 0) (v := ?_) ?_ ?_; rotate_left
    ·
     intro w hSw; (try dsimp only at hSw); go_simp; try (with_reducible rfl)
    try simp only [Act.put, lA, lB, lC]
    refine tR (i := 1) (v := ?_) ?_ ?_; rotate_left
    ·
     intro w hSw; (try dsimp only at hSw); go_simp; try (with_reducible rfl)
    try simp only [Act.put, lA, lB, lC]
    refine tR (i := 2) (v := ?_) ?_ ?_; rotate_left
    ·
     intro w hSw; (try dsimp only at hSw); go_simp; try (with_reducible rfl)
    try simp only [Act.put, lA, lB, lC]
    refine tR (i := 3) (v := ?_) ?_ ?_; rotate_left
    ·
     intro w hSw; (try dsimp only at hSw); go_simp; try (with_reducible rfl)
    try simp only [Act.put, lA, lB, lC]
    refine tR (i := 4) (v := ?_) ?_ ?_; rotate_left
    ·
     intro w hSw; (try dsimp only at hSw); go_simp; try (with_reducible rfl)
    try simp only [Act.put, lA, lB, lC]
    refine tR (i := 5) (v := ?_) ?_ ?_; rotate_left
    ·
     intro w hSw; (try dsimp only at hSw); go_simp; try (with_reducible rfl)
    try simp only [Act.put, lA, lB, lC]
    refine tR (i := 6) (v := ?_) ?_ ?_; rotate_left
    ·
     intro w hSw; (try dsimp only at hSw); go_simp; try (with_reducible rfl)
    try simp only [Act.put, lA, lB, lC]
    refine tR (i := 7) (v := ?_) ?_ ?_; rotate_left
    ·
     intro w hSw; (try dsimp only at hSw); go_simp; try (with_reducible rfl)
    try simp only [Act.put, lA, lB, lC]
    refine tR (i := 8) (v := ?_) ?_ ?_; rotate_left
    ·
     intro w hSw; (try dsimp only at hSw); go_simp; try (with_reducible rfl)
    try simp only [Act.put, lA, lB, lC]
    refine tR (i := 9) (v := ?_) ?_ ?_; rotate_left
    ·
     intro w hSw; (try dsimp only at hSw); go_simp; try (with_reducible rfl)
    try simp only [Act.put, lA, lB, lC]
    refine wpAnyH_ready (rs := [10]) (by kernel_rfl) (by simp) ?_
    refine (AllReadyH.cons (o := _) (by simp only [hA, hB, hC]; rfl) (fun K hK => ?_) AllReadyH.nil)
    go_simp
    refine (HC.out (wr.drew) (slR_below tVersion_law HU.out d.out) (slR_below tVersion_law HU2.out d.out)).mono ?_
    rintro e w5 ⟨rfl, c5⟩
    replace d := Lib.hid (d.out.trans (c5.mono d.out.size))
    have Z_w5 := Lib.hid (show wr.heap.size ≤ w5.heap.size from c5.size)
    clear c5
    have p_Q0 := (d.out.cell (p := ⟨w.heap.size, 0, none⟩) (Nat.lt_of_succ_lt Y1.out)).trans Q0.out
    have p_Q1 := (d.out.cell (p := ⟨w.heap.size + 1, 0, none⟩) Y1.out).trans Q1.out
    have p_PE := (d.out.cell (p := ⟨b, off + k, none⟩) HBL.out).trans PE.out
    have p_PE2 := (d.out.cell (p := ⟨b2, off2 + k, none⟩) HBL2.out).trans PE2.out
    refine hK.out _ _ ⟨p_Q0, p_Q1, p_PE, p_PE2⟩ (fun hHeld => ?_)
    clear p_Q0 p_Q1 p_PE p_PE2
    clear hK K
    try simp only [Act.put, lA, lB, lC]
    refine tR (i := 11) (v := ?_) ?_ ?_; rotate_left
    ·
     intro w hSw; (try dsimp only at hSw); go_simp; try (with_reducible rfl)
    try simp only [Act.put, lA, lB, lC]
    refine wpAnyH_done (by kernel_rfl) ?_ _
    clear hHeld
    go_wp2
    go_ret
    exact ⟨ret_b HF.out.symm, d0.out.trans (d.out.mono d0.out.size)⟩
  ·
   obtain rfl : k = ss.length := by omega
   have HE := Lib.hid (decide_eq_true (segs_eq_all HL.out hall.out))
   have HB := Lib.hid hbel
   clear hall hbel
   go_wp2
   go_ret
   exact ⟨ret_b HE.out.symm, d0.out.trans (HB.out.mono d0.out.size)⟩
set_option maxHeartbeats 8000000 in
set_option maxRecDepth 100000 in
theorem equalVersion_any (id id2 born born2 died died2 : Int) (v u : Value) (xs ys : List Int) (w : World) (h : Ints w v xs) (g : Ints w u ys) (hn : xs.length ≤ 1048576) (hm : ys.length ≤ 1048576) :
  Calls Try.prog 135 #[.agg #[.int .i64 id, v, .int .i64 born, .int .i64 died], .agg #[.int .i64 id2, u, .int .i64 born2, .int .i64 died2]] w fun e w' => e = .returned (.bool (decide (((id, xs, born, died) : VerD) = (id2, ys, born2, died2)))) ∧ Below w.heap.size w w' := by
 obtain ⟨xa, xc, rfl⟩ := ints_len h
 obtain ⟨ya, yc, rfl⟩ := ints_len g
 have HER := Lib.hid (fun W h g => equalRow_any id id2 (.slice xa xs.length xc) (.slice ya ys.length yc) xs ys W h g hn hm)
 have HR1 := Lib.hid (verRow_any id born died xa xs.length xc)
 have HR2 := Lib.hid (verRow_any id2 born2 died2 ya ys.length yc)
 have d := Lib.hid (show Below w.heap.size w ((w.alloc (.cells #[.int .i64 id, .slice xa xs.length xc, .int .i64 born, .int .i64 died] 115)).alloc (.cells #[.int .i64 id2, .slice ya ys.length yc, .int .i64 born2, .int .i64 died2] 115)) from ((Below.refl _ _).alloc (Nat.le_refl _) _).alloc (by simp) _)
 have B1 : Hid (((w.alloc (.cells #[.int .i64 id, .slice xa xs.length xc, .int .i64 born, .int .i64 died] 115)).alloc (.cells #[.int .i64 id2, .slice ya ys.length yc, .int .i64 born2, .int .i64 died2] 115)).heap[w.heap.size + 1]? = some (.cells #[.int .i64 id2, .slice ya ys.length yc, .int .i64 born2, .int .i64 died2] 115 (0, 0))) := Lib.hid (by
  have := heap_alloc_new (w.alloc (.cells #[.int .i64 id, .slice xa xs.length xc, .int .i64 born, .int .i64 died] 115)) (.cells #[.int .i64 id2, .slice ya ys.length yc, .int .i64 born2, .int .i64 died2] 115)
  simpa only [World.size_alloc] using this)
 have B0 : Hid (((w.alloc (.cells #[.int .i64 id, .slice xa xs.length xc, .int .i64 born, .int .i64 died] 115)).alloc (.cells #[.int .i64 id2, .slice ya ys.length yc, .int .i64 born2, .int .i64 died2] 115)).heap[w.heap.size]? = some (.cells #[.int .i64 id, .slice xa xs.length xc, .int .i64 born, .int .i64 died] 115 (0, 0))) := Lib.hid (by
  rw [Below.heap_alloc _ _ _ (by simp)]
  exact heap_alloc_new w _)
 have HX := Lib.hid h
 have HY := Lib.hid g
 clear h g hn hm
 by_cases q2 : born = born2
 rotate_left
 ·
  have e1 : (born == born2) = false := by simp [q2]
  have HD : Hid (decide (((id, xs, born, died) : VerD) = (id2, ys, born2, died2)) = false) := Lib.hid (decide_eq_false (fun e => q2 (Prod.mk.inj (Prod.mk.inj (Prod.mk.inj e).2).2).1))
  rw [HD.out]
  clear q2
  go_enter Try.func135, Try.ntmps135
  go_wp2
  generalize ((w.alloc (.cells #[.int .i64 id, .slice xa xs.length xc, .int .i64 born, .int .i64 died] 115)).alloc (.cells #[.int .i64 id2, .slice ya ys.length yc, .int .i64 born2, .int .i64 died2] 115)) = W at *
  obtain ⟨p_B0_0, p_B0_1, p_B0_2, p_B0_3⟩ := cls4 B0.out
  obtain ⟨p_B1_0, p_B1_1, p_B1_2, p_B1_3⟩ := cls4 B1.out
  refine wp_region_held_drew (S := fun w' => w'.cell? ⟨w.heap.size, 0, none⟩ = some (Value.int .i64 id) ∧ w'.cell? ⟨w.heap.size, 1, none⟩ = some (Value.slice xa xs.length xc) ∧ w'.cell? ⟨w.heap.size, 2, none⟩ = some (Value.int .i64 born) ∧ w'.cell? ⟨w.heap.size, 3, none⟩ = some (Value.int .i64 died) ∧ w'.cell? ⟨(w.heap.size + 1), 0, none⟩ = some (Value.int .i64 id2) ∧ w'.cell? ⟨(w.heap.size + 1), 1, none⟩ = some (Value.slice ya ys.length yc) ∧ w'.cell? ⟨(w.heap.size + 1), 2, none⟩ = some (Value.int .i64 born2) ∧ w'.cell? ⟨(w.heap.size + 1), 3, none⟩ = some (Value.int .i64 died2)) (by kernel_rfl) ⟨p_B0_0, p_B0_1, p_B0_2, p_B0_3, p_B1_0, p_B1_1, p_B1_2, p_B1_3⟩ (fun hHeld => ?_)
  clear p_B0_0 p_B0_1 p_B0_2 p_B0_3 p_B1_0 p_B1_1 p_B1_2 p_B1_3
  have cdr : Below W.heap.size W W.drew := below_drew (Below.refl _ _)
  replace B0 := Lib.hid ((cdr.block w.heap.size (Array.getElem?_eq_some_iff.1 B0.out).1).trans B0.out)
  replace B1 := Lib.hid ((cdr.block (w.heap.size + 1) (Array.getElem?_eq_some_iff.1 B1.out).1).trans B1.out)
  replace d := Lib.hid (d.out.trans (cdr.mono d.out.size))
  clear cdr
  refine tR (i := 0) (v := ?_) ?_ ?_; rotate_left
  ·
   intro w hSw; (try dsimp only at hSw); go_simp; try (with_reducible rfl)
  try simp only [Act.put, lA, lB, lC]
  refine tR (i := 1) (v := ?_) ?_ ?_; rotate_left
  ·
   intro w hSw; (try dsimp only at hSw); go_simp; try (with_reducible rfl)
  try simp only [Act.put, lA, lB, lC]
  refine tR (i := 2) (v := ?_) ?_ ?_; rotate_left
  ·
   intro w hSw; (try dsimp only at hSw); go_simp; try (with_reducible rfl)
  try simp only [Act.put, lA, lB, lC]
  refine tR (i := 3) (v := ?_) ?_ ?_; rotate_left
  ·
   intro w hSw; (try dsimp only at hSw); go_simp; try (with_reducible rfl)
  try simp only [Act.put, lA, lB, lC]
  refine tR (i := 4) (v := .bool false) ?_ ?_
  ·
   intro w hSw; (try dsimp only at hSw); go_simp; all_goals first | (with_reducible rfl) | (rw [e1]; done) | (simpa using e1) | (simp [e1]; done) | (simp; omega)
  try simp only [Act.put, lA, lB, lC]
  refine tR (i := 5) (v := ?_) ?_ ?_; rotate_left
  ·
   intro w hSw; (try dsimp only at hSw); go_simp; try (with_reducible rfl)
  try simp only [Act.put, lA, lB, lC]
  refine tO (i := 6) ?_
  try simp only [Act.put, lA, lB, lC]
  refine tO (i := 7) ?_
  try simp only [Act.put, lA, lB, lC]
  refine tO (i := 8) ?_
  try simp only [Act.put, lA, lB, lC]
  refine tO (i := 9) ?_
  try simp only [Act.put, lA, lB, lC]
  refine tO (i := 10) ?_
  try simp only [Act.put, lA, lB, lC]
  refine tR (i := 11) (v := ?_) ?_ ?_; rotate_left
  ·
   intro w hSw; (try dsimp only at hSw); go_simp; try (with_reducible rfl)
  try simp only [Act.put, lA, lB, lC]
  refine tR (i := 12) (v := ?_) ?_ ?_; rotate_left
  ·
   intro w hSw; (try dsimp only at hSw); go_simp; try (with_reducible rfl)
  try simp only [Act.put, lA, lB, lC]
  refine tO (i := 13) ?_
  try simp only [Act.put, lA, lB, lC]
  refine tO (i := 14) ?_
  try simp only [Act.put, lA, lB, lC]
  refine tO (i := 15) ?_
  try simp only [Act.put, lA, lB, lC]
  refine tO (i := 16) ?_
  try simp only [Act.put, lA, lB, lC]
  refine tO (i := 17) ?_
  try simp only [Act.put, lA, lB, lC]
  refine tR (i := 18) (v := ?_) ?_ ?_; rotate_left
  ·
   intro w hSw; (try dsimp only at hSw); go_simp; try (with_reducible rfl)
  try simp only [Act.put, lA, lB, lC]
  refine tR (i := 19) (v := ?_) ?_ ?_; rotate_left
  ·
   intro w hSw; (try dsimp only at hSw); go_simp; try (with_reducible rfl)
  try simp only [Act.put, lA, lB, lC]
  refine wpAnyH_done (by kernel_rfl) ?_ _
  clear hHeld
  go_wp2
  go_ret
  exact ⟨rfl, d.out⟩
 have e1 : (born == born2) = true := by simp [q2]
 have Q2 := Lib.hid q2
 clear q2
 by_cases q3 : died = died2
 rotate_left
 ·
  have e2 : (died == died2) = false := by simp [q3]
  have HD : Hid (decide (((id, xs, born, died) : VerD) = (id2, ys, born2, died2)) = false) := Lib.hid (decide_eq_false (fun e => q3 (Prod.mk.inj (Prod.mk.inj (Prod.mk.inj e).2).2).2))
  rw [HD.out]
  clear q3
  go_enter Try.func135, Try.ntmps135
  go_wp2
  generalize ((w.alloc (.cells #[.int .i64 id, .slice xa xs.length xc, .int .i64 born, .int .i64 died] 115)).alloc (.cells #[.int .i64 id2, .slice ya ys.length yc, .int .i64 born2, .int .i64 died2] 115)) = W at *
  obtain ⟨p_B0_0, p_B0_1, p_B0_2, p_B0_3⟩ := cls4 B0.out
  obtain ⟨p_B1_0, p_B1_1, p_B1_2, p_B1_3⟩ := cls4 B1.out
  refine wp_region_held_drew (S := fun w' => w'.cell? ⟨w.heap.size, 0, none⟩ = some (Value.int .i64 id) ∧ w'.cell? ⟨w.heap.size, 1, none⟩ = some (Value.slice xa xs.length xc) ∧ w'.cell? ⟨w.heap.size, 2, none⟩ = some (Value.int .i64 born) ∧ w'.cell? ⟨w.heap.size, 3, none⟩ = some (Value.int .i64 died) ∧ w'.cell? ⟨(w.heap.size + 1), 0, none⟩ = some (Value.int .i64 id2) ∧ w'.cell? ⟨(w.heap.size + 1), 1, none⟩ = some (Value.slice ya ys.length yc) ∧ w'.cell? ⟨(w.heap.size + 1), 2, none⟩ = some (Value.int .i64 born2) ∧ w'.cell? ⟨(w.heap.size + 1), 3, none⟩ = some (Value.int .i64 died2)) (by kernel_rfl) ⟨p_B0_0, p_B0_1, p_B0_2, p_B0_3, p_B1_0, p_B1_1, p_B1_2, p_B1_3⟩ (fun hHeld => ?_)
  clear p_B0_0 p_B0_1 p_B0_2 p_B0_3 p_B1_0 p_B1_1 p_B1_2 p_B1_3
  have cdr : Below W.heap.size W W.drew := below_drew (Below.refl _ _)
  replace B0 := Lib.hid ((cdr.block w.heap.size (Array.getElem?_eq_some_iff.1 B0.out).1).trans B0.out)
  replace B1 := Lib.hid ((cdr.block (w.heap.size + 1) (Array.getElem?_eq_some_iff.1 B1.out).1).trans B1.out)
  replace d := Lib.hid (d.out.trans (cdr.mono d.out.size))
  clear cdr
  refine tR (i := 0) (v := ?_) ?_ ?_; rotate_left
  ·
   intro w hSw; (try dsimp only at hSw); go_simp; try (with_reducible rfl)
  try simp only [Act.put, lA, lB, lC]
  refine tR (i := 1) (v := ?_) ?_ ?_; rotate_left
  ·
   intro w hSw; (try dsimp only at hSw); go_simp; try (with_reducible rfl)
  try simp only [Act.put, lA, lB, lC]
  refine tR (i := 2) (v := ?_) ?_ ?_; rotate_left
  ·
   intro w hSw; (try dsimp only at hSw); go_simp; try (with_reducible rfl)
  try simp only [Act.put, lA, lB, lC]
  refine tR (i := 3) (v := ?_) ?_ ?_; rotate_left
  ·
   intro w hSw; (try dsimp only at hSw); go_simp; try (with_reducible rfl)
  try simp only [Act.put, lA, lB, lC]
  refine tR (i := 4) (v := .bool true) ?_ ?_
  ·
   intro w hSw; (try dsimp only at hSw); go_simp; all_goals first | (with_reducible rfl) | (rw [e1]; done) | (simpa using e1) | (simp [e1]; done) | (simp; omega)
  try simp only [Act.put, lA, lB, lC]
  refine tR (i := 5) (v := ?_) ?_ ?_; rotate_left
  ·
   intro w hSw; (try dsimp only at hSw); go_simp; try (with_reducible rfl)
  try simp only [Act.put, lA, lB, lC]
  refine tR (i := 6) (v := ?_) ?_ ?_; rotate_left
  ·
   intro w hSw; (try dsimp only at hSw); go_simp; try (with_reducible rfl)
  try simp only [Act.put, lA, lB, lC]
  refine tR (i := 7) (v := ?_) ?_ ?_; rotate_left
  ·
   intro w hSw; (try dsimp only at hSw); go_simp; try (with_reducible rfl)
  try simp only [Act.put, lA, lB, lC]
  refine tR (i := 8) (v := ?_) ?_ ?_; rotate_left
  ·
   intro w hSw; (try dsimp only at hSw); go_simp; try (with_reducible rfl)
  try simp only [Act.put, lA, lB, lC]
  refine tR (i := 9) (v := ?_) ?_ ?_; rotate_left
  ·
   intro w hSw; (try dsimp only at hSw); go_simp; try (with_reducible rfl)
  try simp only [Act.put, lA, lB, lC]
  refine tR (i := 10) (v := .bool false) ?_ ?_
  ·
   intro w hSw; (try dsimp only at hSw); go_simp; all_goals first | (with_reducible rfl) | (rw [e2]; done) | (simpa using e2) | (simp [e2]; done) | (simp; omega)
  try simp only [Act.put, lA, lB, lC]
  refine tR (i := 11) (v := ?_) ?_ ?_; rotate_left
  ·
   intro w hSw; (try dsimp only at hSw); go_simp; try (with_reducible rfl)
  try simp only [Act.put, lA, lB, lC]
  refine tR (i := 12) (v := ?_) ?_ ?_; rotate_left
  ·
   intro w hSw; (try dsimp only at hSw); go_simp; try (with_reducible rfl)
  try simp only [Act.put, lA, lB, lC]
  refine tO (i := 13) ?_
  try simp only [Act.put, lA, lB, lC]
  refine tO (i := 14) ?_
  try simp only [Act.put, lA, lB, lC]
  refine tO (i := 15) ?_
  try simp only [Act.put, lA, lB, lC]
  refine tO (i := 16) ?_
  try simp only [Act.put, lA, lB, lC]
  refine tO (i := 17) ?_
  try simp only [Act.put, lA, lB, lC]
  refine tR (i := 18) (v := ?_) ?_ ?_; rotate_left
  ·
   intro w hSw; (try dsimp only at hSw); go_simp; try (with_reducible rfl)
  try simp only [Act.put, lA, lB, lC]
  refine tR (i := 19) (v := ?_) ?_ ?_; rotate_left
  ·
   intro w hSw; (try dsimp only at hSw); go_simp; try (with_reducible rfl)
  try simp only [Act.put, lA, lB, lC]
  refine wpAnyH_done (by kernel_rfl) ?_ _
  clear hHeld
  go_wp2
  go_ret
  exact ⟨rfl, d.out⟩
 have e2 : (died == died2) = true := by simp [q3]
 have HD : Hid (decide (((id, xs, born, died) : VerD) = (id2, ys, born2, died2)) = decide (((id, xs) : RowD) = (id2, ys))) := Lib.hid (by
  have := Q2.out
  subst this; subst q3
  simp)
 rw [HD.out]
 generalize decide (((id, xs) : RowD) = (id2, ys)) = r at *
 clear q3
 go_enter Try.func135, Try.ntmps135
 go_wp2
 generalize ((w.alloc (.cells #[.int .i64 id, .slice xa xs.length xc, .int .i64 born, .int .i64 died] 115)).alloc (.cells #[.int .i64 id2, .slice ya ys.length yc, .int .i64 born2, .int .i64 died2] 115)) = W at *
 obtain ⟨p_B0_0, p_B0_1, p_B0_2, p_B0_3⟩ := cls4 B0.out
 obtain ⟨p_B1_0, p_B1_1, p_B1_2, p_B1_3⟩ := cls4 B1.out
 refine wp_region_held_drew (S := fun w' => w'.cell? ⟨w.heap.size, 0, none⟩ = some (Value.int .i64 id) ∧ w'.cell? ⟨w.heap.size, 1, none⟩ = some (Value.slice xa xs.length xc) ∧ w'.cell? ⟨w.heap.size, 2, none⟩ = some (Value.int .i64 born) ∧ w'.cell? ⟨w.heap.size, 3, none⟩ = some (Value.int .i64 died) ∧ w'.cell? ⟨(w.heap.size + 1), 0, none⟩ = some (Value.int .i64 id2) ∧ w'.cell? ⟨(w.heap.size + 1), 1, none⟩ = some (Value.slice ya ys.length yc) ∧ w'.cell? ⟨(w.heap.size + 1), 2, none⟩ = some (Value.int .i64 born2) ∧ w'.cell? ⟨(w.heap.size + 1), 3, none⟩ = some (Value.int .i64 died2)) (by kernel_rfl) ⟨p_B0_0, p_B0_1, p_B0_2, p_B0_3, p_B1_0, p_B1_1, p_B1_2, p_B1_3⟩ (fun hHeld => ?_)
 clear p_B0_0 p_B0_1 p_B0_2 p_B0_3 p_B1_0 p_B1_1 p_B1_2 p_B1_3
 have cdr : Below W.heap.size W W.drew := below_drew (Below.refl _ _)
 replace B0 := Lib.hid ((cdr.block w.heap.size (Array.getElem?_eq_some_iff.1 B0.out).1).trans B0.out)
 replace B1 := Lib.hid ((cdr.block (w.heap.size + 1) (Array.getElem?_eq_some_iff.1 B1.out).1).trans B1.out)
 replace d := Lib.hid (d.out.trans (cdr.mono d.out.size))
 clear cdr
 refine tR (i := 0) (v := ?_) ?_ ?_; rotate_left
 ·
  intro w hSw; (try dsimp only at hSw); go_simp; try (with_reducible rfl)
 try simp only [Act.put, lA, lB, lC]
 refine tR (i := 1) (v := ?_) ?_ ?_; rotate_left
 ·
  intro w hSw; (try dsimp only at hSw); go_simp; try (with_reducible rfl)
 try simp only [Act.put, lA, lB, lC]
 refine tR (i := 2) (v := ?_) ?_ ?_; rotate_left
 ·
  intro w hSw; (try dsimp only at hSw); go_simp; try (with_reducible rfl)
 try simp only [Act.put, lA, lB, lC]
 refine tR (i := 3) (v := ?_) ?_ ?_; rotate_left
 ·
  intro w hSw; (try dsimp only at hSw); go_simp; try (with_reducible rfl)
 try simp only [Act.put, lA, lB, lC]
 refine tR (i := 4) (v := .bool true) ?_ ?_
 ·
  intro w hSw; (try dsimp only at hSw); go_simp; all_goals first | (with_reducible rfl) | (rw [e1]; done) | (simpa using e1) | (simp [e1]; done) | (simp; omega)
 try simp only [Act.put, lA, lB, lC]
 refine tR (i := 5) (v := ?_) ?_ ?_; rotate_left
 ·
  intro w hSw; (try dsimp only at hSw); go_simp; try (with_reducible rfl)
 try simp only [Act.put, lA, lB, lC]
 refine tR (i := 6) (v := ?_) ?_ ?_; rotate_left
 ·
  intro w hSw; (try dsimp only at hSw); go_simp; try (with_reducible rfl)
 try simp only [Act.put, lA, lB, lC]
 refine tR (i := 7) (v := ?_) ?_ ?_; rotate_left
 ·
  intro w hSw; (try dsimp only at hSw); go_simp; try (with_reducible rfl)
 try simp only [Act.put, lA, lB, lC]
 refine tR (i := 8) (v := ?_) ?_ ?_; rotate_left
 ·
  intro w hSw; (try dsimp only at hSw); go_simp; try (with_reducible rfl)
 try simp only [Act.put, lA, lB, lC]
 refine tR (i := 9) (v := ?_) ?_ ?_; rotate_left
 ·
  intro w hSw; (try dsimp only at hSw); go_simp; try (with_reducible rfl)
 try simp only [Act.put, lA, lB, lC]
 refine tR (i := 10) (v := .bool true) ?_ ?_
 ·
  intro w hSw; (try dsimp only at hSw); go_simp; all_goals first | (with_reducible rfl) | (rw [e2]; done) | (simpa using e2) | (simp [e2]; done) | (simp; omega)
 try simp only [Act.put, lA, lB, lC]
 refine tR (i := 11) (v := ?_) ?_ ?_; rotate_left
 ·
  intro w hSw; (try dsimp only at hSw); go_simp; try (with_reducible rfl)
 try simp only [Act.put, lA, lB, lC]
 refine tR (i := 12) (v := ?_) ?_ ?_; rotate_left
 ·
  intro w hSw; (try dsimp only at hSw); go_simp; try (with_reducible rfl)
 try simp only [Act.put, lA, lB, lC]
 refine tR (i := 13) (v := ?_) ?_ ?_; rotate_left
 ·
  intro w hSw; (try dsimp only at hSw); go_simp; try (with_reducible rfl)
 try simp only [Act.put, lA, lB, lC]
 refine tR (i := 15) (v := ?_) ?_ ?_; rotate_left
 ·
  intro w hSw; (try dsimp only at hSw); go_simp; try (with_reducible rfl)
 try simp only [Act.put, lA, lB, lC]
 refine wpAnyH_ready (rs := [14]) (by kernel_rfl) (by simp) ?_
 refine (AllReadyH.cons (o := _) (by simp only [hA, hB, hC]; rfl) (fun K hK => ?_) AllReadyH.nil)
 go_simp
 refine (HR1.out (W.drew)).mono ?_
 rintro e w5 ⟨rfl, c5⟩
 replace B0 := Lib.hid ((c5.block w.heap.size (Array.getElem?_eq_some_iff.1 B0.out).1).trans B0.out)
 replace B1 := Lib.hid ((c5.block (w.heap.size + 1) (Array.getElem?_eq_some_iff.1 B1.out).1).trans B1.out)
 replace d := Lib.hid (d.out.trans (c5.mono d.out.size))
 have Z_w5 := Lib.hid (show W.heap.size ≤ w5.heap.size from c5.size)
 clear c5
 obtain ⟨p_B0_0, p_B0_1, p_B0_2, p_B0_3⟩ := cls4 B0.out
 obtain ⟨p_B1_0, p_B1_1, p_B1_2, p_B1_3⟩ := cls4 B1.out
 refine hK.out _ _ ⟨p_B0_0, p_B0_1, p_B0_2, p_B0_3, p_B1_0, p_B1_1, p_B1_2, p_B1_3⟩ (fun hHeld => ?_)
 clear p_B0_0 p_B0_1 p_B0_2 p_B0_3 p_B1_0 p_B1_1 p_B1_2 p_B1_3
 clear hK K
 try simp only [Act.put, lA, lB, lC]
 refine wpAnyH_ready (rs := [16]) (by kernel_rfl) (by simp) ?_
 refine (AllReadyH.cons (o := _) (by simp only [hA, hB, hC]; rfl) (fun K hK => ?_) AllReadyH.nil)
 go_simp
 refine (HR2.out w5).mono ?_
 rintro e w6 ⟨rfl, c6⟩
 replace B0 := Lib.hid ((c6.block w.heap.size (Array.getElem?_eq_some_iff.1 B0.out).1).trans B0.out)
 replace B1 := Lib.hid ((c6.block (w.heap.size + 1) (Array.getElem?_eq_some_iff.1 B1.out).1).trans B1.out)
 replace d := Lib.hid (d.out.trans (c6.mono d.out.size))
 have Z_w6 := Lib.hid (show w5.heap.size ≤ w6.heap.size from c6.size)
 clear c6
 obtain ⟨p_B0_0, p_B0_1, p_B0_2, p_B0_3⟩ := cls4 B0.out
 obtain ⟨p_B1_0, p_B1_1, p_B1_2, p_B1_3⟩ := cls4 B1.out
 refine hK.out _ _ ⟨p_B0_0, p_B0_1, p_B0_2, p_B0_3, p_B1_0, p_B1_1, p_B1_2, p_B1_3⟩ (fun hHeld => ?_)
 clear p_B0_0 p_B0_1 p_B0_2 p_B0_3 p_B1_0 p_B1_1 p_B1_2 p_B1_3
 clear hK K
 try simp only [Act.put, lA, lB, lC]
 refine wpAnyH_ready (rs := [17]) (by kernel_rfl) (by simp) ?_
 refine (AllReadyH.cons (o := _) (by simp only [hA, hB, hC]; rfl) (fun K hK => ?_) AllReadyH.nil)
 go_simp
 refine (HER.out w6 (ints_below HX.out d.out) (ints_below HY.out d.out)).mono ?_
 rintro e w7 ⟨rfl, c7⟩
 replace B0 := Lib.hid ((c7.block w.heap.size (Array.getElem?_eq_some_iff.1 B0.out).1).trans B0.out)
 replace B1 := Lib.hid ((c7.block (w.heap.size + 1) (Array.getElem?_eq_some_iff.1 B1.out).1).trans B1.out)
 replace d := Lib.hid (d.out.trans (c7.mono d.out.size))
 have Z_w7 := Lib.hid (show w6.heap.size ≤ w7.heap.size from c7.size)
 clear c7
 obtain ⟨p_B0_0, p_B0_1, p_B0_2, p_B0_3⟩ := cls4 B0.out
 obtain ⟨p_B1_0, p_B1_1, p_B1_2, p_B1_3⟩ := cls4 B1.out
 refine hK.out _ _ ⟨p_B0_0, p_B0_1, p_B0_2, p_B0_3, p_B1_0, p_B1_1, p_B1_2, p_B1_3⟩ (fun hHeld => ?_)
 clear p_B0_0 p_B0_1 p_B0_2 p_B0_3 p_B1_0 p_B1_1 p_B1_2 p_B1_3
 clear hK K
 try simp only [Act.put, lA, lB, lC]
 refine tR (i := 18) (v := ?_) ?_ ?_; rotate_left
 ·
  intro w hSw; (try dsimp only at hSw); go_simp; try (with_reducible rfl)
 try simp only [Act.put, lA, lB, lC]
 refine tR (i := 19) (v := ?_) ?_ ?_; rotate_left
 ·
  intro w hSw; (try dsimp only at hSw); go_simp; try (with_reducible rfl)
 try simp only [Act.put, lA, lB, lC]
 refine wpAnyH_done (by kernel_rfl) ?_ _
 clear hHeld
 go_wp2
 go_ret
 exact ⟨rfl, d.out⟩
set_option maxHeartbeats 8000000 in
set_option maxRecDepth 100000 in
theorem equalVers_any (v u : Value) (l m : List VerD) (w : World) (h : SlR tVersion w v l) (g : SlR tVersion w u m) (hs : zL tVersion l ≤ 1048576) (ht : zL tVersion m ≤ 1048576) :
  Calls Try.prog 134 #[v, u, .func (.func 135) #[] #[]] w fun e w' => e = .returned (.bool (decide (l = m))) ∧ Below w.heap.size w w' := by
 have H := Lib.hid h
 have G := Lib.hid g
 have HS := Lib.hid hs
 have HT := Lib.hid ht
 have hlen := zL_len hs
 have hlen2 := zL_len ht
 obtain ⟨a, cap, rfl⟩ := slR_len h
 obtain ⟨a2, cap2, rfl⟩ := slR_len g
 clear h g hs ht
 by_cases hl : l.length = m.length
 ·
  have HL := Lib.hid hl
  have hne : ((l.length : Int) != (m.length : Int)) = false := by rw [hl]; simp
  clear hl
  go_enter Try.func134, Try.ntmps134
  go_wp2
  clear hne
  go_loopw [17] (fun i wr => ∃ k : Nat, k ≤ l.length ∧ i = .int .i64 k ∧ Hid (∀ j, j < k → l.getD j v0D = m.getD j v0D) ∧ Below w.heap.size w wr) (fun i _ => l.length - (intOf i).toNat)
  case atStart => exact ⟨0, Nat.zero_le _, rfl, Lib.hid (fun j hj => by omega), Below.refl _ _⟩
  case round =>
   obtain ⟨k, hk, rfl, hall, hbel⟩ := hrel
   by_cases hlt : k < l.length
   ·
    have hlt2 : k < m.length := by have := HL.out; omega
    obtain ⟨b, off, cap', xa, xc, hv, hbl, c0, c1, c2, c3, hx⟩ := verR_at (slR_below tVersion_law H.out hbel) hlt
    simp only [Value.slice.injEq] at hv
    obtain ⟨rfl, _, rfl⟩ := hv
    obtain ⟨b2, off2, cap2', ya, yc, hv, hbl2, y0, y1, y2, y3, hy⟩ := verR_at (slR_below tVersion_law G.out hbel) hlt2
    simp only [Value.slice.injEq] at hv
    obtain ⟨rfl, _, rfl⟩ := hv
    have hxl := ver_len HS.out hlt
    have hyl := ver_len HT.out hlt2
    have i1 : (0 : Int) ≤ (k : Int) := by omega
    have i2 : (k : Int) < (l.length : Int) := by omega
    have i3 : (k : Int) < (m.length : Int) := by omega
    have HNE := Lib.hid (fun e => decide_eq_false (vers_ne_at (l := l) (m := m) (k := k) e))
    have HALL : Hid (l.getD k v0D = m.getD k v0D → ∀ j, j < k + 1 → l.getD j v0D = m.getD j v0D) := Lib.hid (fun he j hj => by
     by_cases e : j = k
     ·
      exact e ▸ he
     ·
      exact hall.out j (by omega))
    clear hall
    generalize l.getD k v0D = r at *
    generalize m.getD k v0D = q at *
    obtain ⟨id, xs, born, died⟩ := r
    obtain ⟨id2, ys, born2, died2⟩ := q
    simp only at c0 c1 c2 c3 y0 y1 y2 y3 hxl hyl
    have HX : Hid (Ints wr (.slice xa xs.length xc) xs) := Lib.hid hx
    have HY : Hid (Ints wr (.slice ya ys.length yc) ys) := Lib.hid hy
    have HSM := Lib.hid (fun w h g => equalVersion_any id id2 born born2 died died2 (.slice xa xs.length xc) (.slice ya ys.length yc) xs ys w h g hxl hyl)
    have bb := Lib.hid (((Below.refl wr.heap.size wr).alloc (Nat.le_refl _) (.cells #[.int .i64 id, .slice xa xs.length xc, .int .i64 born, .int .i64 died] 115)).alloc (by simp) (.cells #[.int .i64 id2, .slice ya ys.length yc, .int .i64 born2, .int .i64 died2] 115))
    have z0 := (((Below.refl wr.heap.size wr).alloc (Nat.le_refl _) (.cells #[.int .i64 id, .slice xa xs.length xc, .int .i64 born, .int .i64 died] 115)).cell (p := ⟨b2, off2 + k * 4, none⟩) hbl2).trans y0
    have z1 := (((Below.refl wr.heap.size wr).alloc (Nat.le_refl _) (.cells #[.int .i64 id, .slice xa xs.length xc, .int .i64 born, .int .i64 died] 115)).cell (p := ⟨b2, off2 + k * 4 + 1, none⟩) hbl2).trans y1
    have z2 := (((Below.refl wr.heap.size wr).alloc (Nat.le_refl _) (.cells #[.int .i64 id, .slice xa xs.length xc, .int .i64 born, .int .i64 died] 115)).cell (p := ⟨b2, off2 + k * 4 + 2, none⟩) hbl2).trans y2
    have z3 := (((Below.refl wr.heap.size wr).alloc (Nat.le_refl _) (.cells #[.int .i64 id, .slice xa xs.length xc, .int .i64 born, .int .i64 died] 115)).cell (p := ⟨b2, off2 + k * 4 + 3, none⟩) hbl2).trans y3
    have HB := Lib.hid hbel
    clear hx hy hxl hyl hbel
    by_cases he : ((id, xs, born, died) : VerD) = (id2, ys, born2, died2)
    ·
     have HA := Lib.hid (HALL.out he)
     rw [decide_eq_true he] at HSM
     clear he HNE HALL
     go_wp2_with fail
     refine (HSM.out _ (ints_below HX.out bb.out) (ints_below HY.out bb.out)).mono ?_
     rintro e w8 ⟨rfl, b9⟩
     have b11 := HB.out.trans ((bb.out.trans (b9.mono bb.out.size)).mono HB.out.size)
     clear b9 bb z0 z1 z2 z3 c0 c1 c2 c3 y0 y1 y2 y3
     go_wp2
     go_roundw
     case rel => exact ⟨k + 1, by omega, by go_num, HA, b11⟩
     case measure => simp [intOf]; omega
    ·
     have HF := Lib.hid (HNE.out he)
     rw [decide_eq_false he] at HSM
     clear he HNE HALL
     go_wp2_with fail
     refine (HSM.out _ (ints_below HX.out bb.out) (ints_below HY.out bb.out)).mono ?_
     rintro e w8 ⟨rfl, b9⟩
     have b11 := HB.out.trans ((bb.out.trans (b9.mono bb.out.size)).mono HB.out.size)
     clear b9 bb z0 z1 z2 z3 c0 c1 c2 c3 y0 y1 y2 y3
     go_wp2
     go_ret
     exact ⟨ret_b HF.out.symm, b11⟩
   ·
    obtain rfl : k = l.length := by omega
    have HE := Lib.hid (decide_eq_true (vers_eq_all HL.out hall.out))
    clear hall
    go_wp2
    go_ret
    exact ⟨ret_b HE.out.symm, hbel⟩
 ·
  have HF := Lib.hid (decide_eq_false (show ¬ l = m from fun e => hl (by rw [e])))
  have hne : ((l.length : Int) != (m.length : Int)) = true := by rw [bne_iff_ne]; omega
  clear hl
  go_enter Try.func134, Try.ntmps134
  go_wp2
  go_ret
  exact ⟨ret_b HF.out.symm, Below.refl _ _⟩
set_option maxHeartbeats 8000000 in
set_option maxRecDepth 100000 in
theorem equalVersions_any (v u : Value) (l m : List VerD) (w : World) (h : SlR tVersion w v l) (g : SlR tVersion w u m) (hs : zL tVersion l ≤ 1048576) (ht : zL tVersion m ≤ 1048576) :
  Calls Try.prog 114 #[v, u] w fun e w' => e = .returned (.bool (decide (l = m))) ∧ Below w.heap.size w w' := by
 have HC := Lib.hid (equalVers_any v u l m w h g hs ht)
 clear h g hs ht
 generalize decide (l = m) = r at *
 go_enter Try.func114, Try.ntmps114
 go_wp2_with fail
 refine HC.out.mono ?_
 rintro e w1 ⟨rfl, b1⟩
 go_wp2
 go_ret
 exact ⟨rfl, b1⟩
set_option maxHeartbeats 8000000 in
set_option maxRecDepth 100000 in
theorem equalSegs_any (v u : Value) (l m : List (List VerD)) (w : World) (h : SlR tVersionS w v l) (g : SlR tVersionS w u m) (hs : zL tVersionS l ≤ 1048576) (ht : zL tVersionS m ≤ 1048576) :
  Calls Try.prog 113 #[v, u, .func (.func 114) #[] #[]] w fun e w' => e = .returned (.bool (decide (l = m))) ∧ Below w.heap.size w w' := by
 have H := Lib.hid h
 have G := Lib.hid g
 have HS := Lib.hid hs
 have HT := Lib.hid ht
 have hlen := zL_len hs
 have hlen2 := zL_len ht
 obtain ⟨a, cap, rfl⟩ := slR_len h
 obtain ⟨a2, cap2, rfl⟩ := slR_len g
 clear h g hs ht
 by_cases hl : l.length = m.length
 ·
  have HL := Lib.hid hl
  have hne : ((l.length : Int) != (m.length : Int)) = false := by rw [hl]; simp
  clear hl
  go_enter Try.func113, Try.ntmps113
  go_wp2
  clear hne
  go_loopw [17] (fun i wr => ∃ k : Nat, k ≤ l.length ∧ i = .int .i64 k ∧ Hid (∀ j, j < k → l.getD j [] = m.getD j []) ∧ Below w.heap.size w wr) (fun i _ => l.length - (intOf i).toNat)
  case atStart => exact ⟨0, Nat.zero_le _, rfl, Lib.hid (fun j hj => by omega), Below.refl _ _⟩
  case round =>
   obtain ⟨k, hk, rfl, hall, hbel⟩ := hrel
   by_cases hlt : k < l.length
   ·
    have hlt2 : k < m.length := by have := HL.out; omega
    obtain ⟨b, off, cap', cs, hv, hbl, hcs, hR⟩ := slR_at (slR_below tVersionS_law H.out hbel) hlt
    simp only [Value.slice.injEq] at hv
    obtain ⟨rfl, _, rfl⟩ := hv
    obtain ⟨u1, rfl, hU⟩ := hR
    obtain ⟨b2, off2, cap2', cs2, hv, hbl2, hcs2, hR2⟩ := slR_at (slR_below tVersionS_law G.out hbel) hlt2
    simp only [Value.slice.injEq] at hv
    obtain ⟨rfl, _, rfl⟩ := hv
    obtain ⟨u2, rfl, hU2⟩ := hR2
    have pe : wr.cell? ⟨b, off + k, none⟩ = some u1 := by have := hcs 0 Nat.one_pos; rw [show tVersionS.n = 1 from rfl, Nat.mul_one, Nat.add_zero] at this; exact this
    have pe2 : wr.cell? ⟨b2, off2 + k, none⟩ = some u2 := by have := hcs2 0 Nat.one_pos; rw [show tVersionS.n = 1 from rfl, Nat.mul_one, Nat.add_zero] at this; exact this
    have hz1 := Nat.le_trans (zL_seg hlt) HS.out
    have hz2 := Nat.le_trans (zL_seg hlt2) HT.out
    have i1 : (0 : Int) ≤ (k : Int) := by omega
    have i2 : (k : Int) < (l.length : Int) := by omega
    have i3 : (k : Int) < (m.length : Int) := by omega
    have HNE := Lib.hid (fun e => decide_eq_false (segs_ne_at (l := l) (m := m) (k := k) e))
    have HALL : Hid (l.getD k [] = m.getD k [] → ∀ j, j < k + 1 → l.getD j [] = m.getD j []) := Lib.hid (fun he j hj => by
     by_cases e : j = k
     ·
      exact e ▸ he
     ·
      exact hall.out j (by omega))
    change SlR tVersion wr u1 (l.getD k []) at hU
    change SlR tVersion wr u2 (m.getD k []) at hU2
    clear hall hcs hcs2
    generalize l.getD k [] = r at *
    generalize m.getD k [] = q at *
    have HSM := Lib.hid (equalVersions_any u1 u2 r q wr hU hU2 hz1 hz2)
    have HB := Lib.hid hbel
    obtain ⟨ua, uc, rfl⟩ := slR_len hU
    obtain ⟨ua2, uc2, rfl⟩ := slR_len hU2
    clear hU hU2 hz1 hz2 hbel
    by_cases he : r = q
    ·
     have HA := Lib.hid (HALL.out he)
     rw [decide_eq_true he] at HSM
     clear he HNE HALL
     go_wp2_with fail
     refine HSM.out.mono ?_
     rintro e w8 ⟨rfl, b9⟩
     have b11 := HB.out.trans (b9.mono HB.out.size)
     clear b9 pe pe2
     go_wp2
     go_roundw
     case rel => exact ⟨k + 1, by omega, by go_num, HA, b11⟩
     case measure => simp [intOf]; omega
    ·
     have HF := Lib.hid (HNE.out he)
     rw [decide_eq_false he] at HSM
     clear he HNE HALL
     go_wp2_with fail
     refine HSM.out.mono ?_
     rintro e w8 ⟨rfl, b9⟩
     have b11 := HB.out.trans (b9.mono HB.out.size)
     clear b9 pe pe2
     go_wp2
     go_ret
     exact ⟨ret_b HF.out.symm, b11⟩
   ·
    obtain rfl : k = l.length := by omega
    have HE := Lib.hid (decide_eq_true (segs_eq_all HL.out hall.out))
    clear hall
    go_wp2
    go_ret
    exact ⟨ret_b HE.out.symm, hbel⟩
 ·
  have HF := Lib.hid (decide_eq_false (show ¬ l = m from fun e => hl (by rw [e])))
  have hne : ((l.length : Int) != (m.length : Int)) = true := by rw [bne_iff_ne]; omega
  clear hl
  go_enter Try.func113, Try.ntmps113
  go_wp2
  go_ret
  exact ⟨ret_b HF.out.symm, Below.refl _ _⟩
set_option maxHeartbeats 8000000 in
set_option maxRecDepth 100000 in
theorem implEqualStores (sv tv : Value) (ss tt : List (List VerD)) (now now2 : Int) (w : World) (h : SlR tVersionS w sv ss) (g : SlR tVersionS w tv tt) (hs : zL tVersionS ss ≤ 1048576) (ht : zL tVersionS tt ≤ 1048576) :
  Calls Try.prog 70 #[.agg #[sv, .int .i64 now], .agg #[tv, .int .i64 now2]] w (fun e w' => e = .returned (.bool (decide ((ss, now) = (tt, now2)))) ∧ Below w.heap.size w w') := by
 obtain ⟨a, cap, rfl⟩ := slR_len h
 obtain ⟨a2, cap2, rfl⟩ := slR_len g
 have d0 := Lib.hid (show Below w.heap.size w ((w.alloc (.cells #[.slice a ss.length cap, .int .i64 now] 30)).alloc (.cells #[.slice a2 tt.length cap2, .int .i64 now2] 30)) from ((Below.refl _ _).alloc (Nat.le_refl _) _).alloc (by simp) _)
 have HC := Lib.hid (fun W h g => equalSegs_any (.slice a ss.length cap) (.slice a2 tt.length cap2) ss tt W h g hs ht)
 have H := Lib.hid (slR_below tVersionS_law h d0.out)
 have G := Lib.hid (slR_below tVersionS_law g d0.out)
 clear h g hs ht
 by_cases hn : now = now2
 rotate_left
 ·
  have HF := Lib.hid (decide_eq_false (show ¬ (ss, now) = (tt, now2) from fun e => hn (Prod.mk.inj e).2))
  have hne2 : (now == now2) = false := by simp [hn]
  clear hn
  rw [HF.out]
  go_enter Try.func70, Try.ntmps70
  go_wp2
  go_ret
  exact ⟨rfl, d0.out⟩
 have hne2 : (now == now2) = true := by simp [hn]
 have HD : Hid (decide ((ss, now) = (tt, now2)) = decide (ss = tt)) := Lib.hid (by subst hn; simp)
 rw [HD.out]
 generalize decide (ss = tt) = r at *
 clear hn HD
 go_enter Try.func70, Try.ntmps70
 go_wp2_with fail
 generalize ((w.alloc (.cells #[.slice a ss.length cap, .int .i64 now] 30)).alloc (.cells #[.slice a2 tt.length cap2, .int .i64 now2] 30)) = W at *
 refine (HC.out W H.out G.out).mono ?_
 rintro e w1 ⟨rfl, b1⟩
 have D1 := d0.out.trans (b1.mono d0.out.size)
 go_wp2
 go_ret
 exact ⟨rfl, D1⟩
end Go.Proofs.Ytdhglmoanpkeoaa
