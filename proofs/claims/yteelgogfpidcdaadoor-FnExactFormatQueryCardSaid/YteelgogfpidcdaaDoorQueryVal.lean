/-
  A query by value: number, tenant, conditions, fields; the helpers of the laws on one query.
-/
import Derived.Test.YteelgogfpidcdaaDoorCondSpec
import Derived.Test.YteelgogfpidcdaaDoorRowEq
namespace Go.Proofs.YteelgogfpidcdaaDoor
open Go.RowKit
set_option linter.unusedVariables false
set_option linter.unusedSimpArgs false
abbrev qV (id tn : Int) (cv ov : Value) : Value := .agg #[.int .i64 id, .int .i64 tn, cv, ov]
theorem szCond_yes (a : Option Addr) (cap n : Nat) (k : Int) (w : World) (h : (n : Int) ≤ k) (hk : k ≤ 1048576) :
    Calls Tryd.prog 50 #[.slice a n cap, .int .i64 k] w fun e w' => e = .returned (.int .i64 (k - (n : Int))) ∧ w' = w := by
  have h0 : ¬ k - (n : Int) < 0 := by omega
  go_enter Tryd.func50, Tryd.ntmps50
  go_wp2
  go_ret
  exact ⟨rfl, rfl⟩
theorem szCond_no (a : Option Addr) (cap n : Nat) (k : Int) (w : World) (h : k < (n : Int)) (hk : 0 ≤ k) (hn : (n : Int) ≤ 9223372036854775807) :
    Calls Tryd.prog 50 #[.slice a n cap, .int .i64 k] w fun e w' => e = .returned (.int .i64 (-1)) ∧ w' = w := by
  have h0 : k - (n : Int) < 0 := by omega
  go_enter Tryd.func50, Tryd.ntmps50
  go_wp2
  go_ret
  exact ⟨rfl, rfl⟩
set_option maxRecDepth 100000 in
theorem szQuery_yes (id tn : Int) (a b : Option Addr) (cap cap2 n m : Nat) (k : Int) (w : World) (h : (n : Int) + (m : Int) ≤ k) (hk : k ≤ 1048576) :
    Calls Tryd.prog 20 #[qV id tn (.slice a n cap) (.slice b m cap2), .int .i64 k] w fun e w' => e = .returned (.int .i64 (k - (n : Int) - (m : Int))) ∧ Below w.heap.size w w' := by
  have H1 := Lib.hid (fun w => szCond_yes a cap n k w (by omega) hk)
  have H2 := Lib.hid (fun w => szInt_yes b cap2 m (k - (n : Int)) w (by omega) (by omega))
  have h0 : ¬ k - (n : Int) < 0 := by omega
  have h1 : ¬ k - (n : Int) - (m : Int) < 0 := by omega
  have hb : Below w.heap.size w (w.alloc (.cells #[.int .i64 id, .int .i64 tn, .slice a n cap, .slice b m cap2] 41)) := (Below.refl _ w).alloc (Nat.le_refl _) _
  go_enter Tryd.func20, Tryd.ntmps20
  go_wp2_with fail
  refine (H1.out _).mono ?_
  rintro e w1 ⟨rfl, rfl⟩
  go_wp2_with fail
  refine (H2.out _).mono ?_
  rintro e w1 ⟨rfl, rfl⟩
  go_wp2
  go_ret
  exact ⟨rfl, hb⟩
set_option maxRecDepth 100000 in
theorem szQuery_no (id tn : Int) (a b : Option Addr) (cap cap2 n m : Nat) (k : Int) (w : World) (h : k < (n : Int) + (m : Int)) (k0 : 0 ≤ k) (hk : k ≤ 1048576) (hn : (n : Int) ≤ 9223372036854775807) (hm : (m : Int) ≤ 9223372036854775807) :
    Calls Tryd.prog 20 #[qV id tn (.slice a n cap) (.slice b m cap2), .int .i64 k] w fun e w' => e = .returned (.int .i64 (-1)) ∧ Below w.heap.size w w' := by
  have hb : Below w.heap.size w (w.alloc (.cells #[.int .i64 id, .int .i64 tn, .slice a n cap, .slice b m cap2] 41)) := (Below.refl _ w).alloc (Nat.le_refl _) _
  by_cases hc : k < (n : Int)
  · have H1 := Lib.hid (fun w => szCond_no a cap n k w hc k0 hn)
    clear h k0 hk hn hm hc
    go_enter Tryd.func20, Tryd.ntmps20
    go_wp2_with fail
    refine (H1.out _).mono ?_
    rintro e w1 ⟨rfl, rfl⟩
    go_wp2
    go_ret
    exact ⟨rfl, hb⟩
  · have H1 := Lib.hid (fun w => szCond_yes a cap n k w (by omega) hk)
    have H2 := Lib.hid (fun w => szInt_no b cap2 m (k - (n : Int)) w (by omega) (by omega) hm)
    have h0 : ¬ k - (n : Int) < 0 := by omega
    clear h k0 hn hm hc
    go_enter Tryd.func20, Tryd.ntmps20
    go_wp2_with fail
    refine (H1.out _).mono ?_
    rintro e w1 ⟨rfl, rfl⟩
    go_wp2_with fail
    refine (H2.out _).mono ?_
    rintro e w1 ⟨rfl, rfl⟩
    go_wp2
    go_ret
    exact ⟨rfl, hb⟩
theorem conds_copied (cs : List CondD) (k : Nat) (h : k < cs.length) : (cs.take k ++ List.replicate (cs.length - k) (0, 0, 0)).set k (cs.getD k (0, 0, 0)) = cs.take (k + 1) ++ List.replicate (cs.length - (k + 1)) (0, 0, 0) := by
  have hk : (cs.take k).length = k := by rw [List.length_take]; omega
  rw [List.set_append_right _ _ (by omega), hk, Nat.sub_self, show cs.length - k = (cs.length - (k + 1)) + 1 by omega, List.replicate_succ, List.set_cons_zero, List.take_succ_eq_append_getElem h, List.append_assoc]
  simp [List.getD, h]
set_option maxHeartbeats 4000000 in
set_option maxRecDepth 100000 in
theorem toCondS_any (v : Value) (cs : List CondD) (w : World) (h : CondsR w v cs) (hn : cs.length ≤ 1048576) :
    Calls Tryd.prog 53 #[v] w fun e w' => ∃ u, e = .returned u ∧ OwnsC w' w.heap.size u cs ∧ Below w.heap.size w w' := by
  obtain ⟨i0, hi, hz0, hz1, hz2⟩ := info_parts Tryd.infoCond
  have HI := Lib.hid hi; have HZ0 := Lib.hid hz0; have HZ1 := Lib.hid hz1; have HZ2 := Lib.hid hz2
  clear hi hz0 hz1 hz2
  have H := Lib.hid h
  obtain ⟨a, cap, rfl⟩ := condsR_len h
  clear h
  go_enter Tryd.func53, Tryd.ntmps53
  go_wp2_with (at_make; refine wpList_make_full _ rfl (.tmp 6) (.tmp 6) 44 rfl w.heap.size 79 i0 (.agg #[.int .i64 0, .int .i64 0, .int .i64 0]) 3 Tryd.underlying44 HI.out HZ0.out HZ1.out _ _ _ _ cs.length rfl rfl rfl rfl (by rw [HZ2.out]; omega) (by unfold maxLen; omega) (Nat.le_refl _) ?_)
  intro w1 hown0 hg0
  have hown1 := ownsC_made hown0
  have hbel1 := (Below.refl w.heap.size w).grown hg0 (Nat.le_refl _) (fun k hk => by cases hk)
  clear hown0 hg0
  go_wp2
  go_loopw [4] (fun i wr => ∃ k : Nat, k ≤ cs.length ∧ i = .int .i64 k ∧ OwnsC wr w.heap.size (.slice (some ⟨w.heap.size, 0, none⟩) cs.length cs.length) (cs.take k ++ List.replicate (cs.length - k) (0, 0, 0)) ∧ Below w.heap.size w wr) (fun i _ => cs.length - (intOf i).toNat)
  case atStart => exact ⟨0, Nat.zero_le _, rfl, by simpa using hown1, hbel1⟩
  case round =>
    obtain ⟨k, hk, rfl, hown, hbel⟩ := hrel
    by_cases hlt : k < cs.length
    · obtain ⟨b, off, cap', hv, hbl, hc1, hc2, hc3⟩ := condsR_at (condsR_below H.out hbel) hlt
      simp only [Value.slice.injEq] at hv
      obtain ⟨rfl, _, rfl⟩ := hv
      have HSET := Lib.hid (conds_copied cs k hlt)
      have HKL : Hid (k < (cs.take k ++ List.replicate (cs.length - k) ((0, 0, 0) : CondD)).length) := Lib.hid (by simp; omega)
      have i1 : (0 : Int) ≤ (k : Int) := by omega
      have i2 : (k : Int) < (cs.length : Int) := by omega
      clear hown1 hbel1
      generalize cs.getD k (0, 0, 0) = c at *
      obtain ⟨f, l, hh⟩ := c
      simp only at hc1 hc2 hc3
      generalize cs.take k ++ List.replicate (cs.length - k) ((0, 0, 0) : CondD) = us at *
      go_wp2_with fail
      refine (toCond_any f l hh _).mono ?_
      rintro e w2 ⟨rfl, b2⟩
      have ho := ownsC_below hown b2
      have hst := Lib.hid (ownsC_store ho HKL.out (f, l, hh))
      rw [HSET.out] at hst
      have b3 := hbel.trans (b2.mono hbel.size)
      have B3 := ((b3.setCell (p := ⟨w.heap.size, k * 3, none⟩) (Nat.le_refl _) (.int .i64 f)).setCell (p := ⟨w.heap.size, k * 3 + 1, none⟩) (Nat.le_refl _) (.int .i64 l)).setCell (p := ⟨w.heap.size, k * 3 + 2, none⟩) (Nat.le_refl _) (.int .i64 hh)
      obtain ⟨⟨x0, q0⟩, ⟨x1, q1⟩, ⟨x2, q2⟩, f0, f1, f2⟩ := ownsC_cells ho HKL.out
      clear hown hbel b2 ho hc1 hc2 hc3
      go_wp2
      go_roundw
      case rel => exact ⟨k + 1, by omega, by go_num, hst.out, B3⟩
      case measure => simp [intOf]; omega
    · obtain rfl : k = cs.length := by omega
      have HE : Hid (cs.take cs.length ++ List.replicate (cs.length - cs.length) ((0, 0, 0) : CondD) = cs) := Lib.hid (by simp)
      rw [HE.out] at hown
      go_wp2
      go_ret
      exact ⟨_, rfl, hown, hbel⟩
/-- A query in new memory. -/
def FreshQ (w : World) (id tn : Int) (cs : List CondD) (os : List Int) (e : Ending) (w' : World) : Prop :=
  ∃ cv ov, e = .returned (qV id tn cv ov) ∧ OwnsC w' w.heap.size cv cs ∧ OwnsN w' w.heap.size ov os ∧ (∀ b, cv.ownBlock = some b → ov.ownBlock ≠ some b) ∧ Below w.heap.size w w'
set_option maxHeartbeats 8000000 in
set_option maxRecDepth 100000 in
theorem toQuery_any (id tn : Int) (cv ov : Value) (cs : List CondD) (os : List Int) (w : World) (h : CondsR w cv cs) (hn : cs.length ≤ 1048576) (g : Ints w ov os) (hm : os.length ≤ 1048576) :
    Calls Tryd.prog 22 #[qV id tn cv ov] w (FreshQ w id tn cs os) := by
  have H := Lib.hid h
  have HN := Lib.hid hn
  have G := Lib.hid g
  have HM := Lib.hid hm
  clear h hn g hm
  go_enter Tryd.func22, Tryd.ntmps22
  go_wp2_with fail
  have hh : Below w.heap.size w (((w.alloc (.cells #[.int .i64 id, .int .i64 tn, cv, ov] 41)).alloc (.cells #[.int .i64 0, .int .i64 0, .slice none 0 0, .slice none 0 0] 46)).alloc (.cells #[.int .i64 id, .int .i64 tn, .slice none 0 0, .slice none 0 0] 46)) := (((Below.refl _ w).alloc (Nat.le_refl _) _).alloc (by simp) _).alloc (by simp; omega) _
  have g2 : (((w.alloc (.cells #[.int .i64 id, .int .i64 tn, cv, ov] 41)).alloc (.cells #[.int .i64 0, .int .i64 0, .slice none 0 0, .slice none 0 0] 46)).alloc (.cells #[.int .i64 id, .int .i64 tn, .slice none 0 0, .slice none 0 0] 46)).heap[w.heap.size + 1 + 1]? = some (.cells #[.int .i64 id, .int .i64 tn, .slice none 0 0, .slice none 0 0] 46 (0, 0)) := by
    have := heap_alloc_new ((w.alloc (.cells #[.int .i64 id, .int .i64 tn, cv, ov] 41)).alloc (.cells #[.int .i64 0, .int .i64 0, .slice none 0 0, .slice none 0 0] 46)) (.cells #[.int .i64 id, .int .i64 tn, .slice none 0 0, .slice none 0 0] 46)
    simpa only [World.size_alloc] using this
  have g1 : (((w.alloc (.cells #[.int .i64 id, .int .i64 tn, cv, ov] 41)).alloc (.cells #[.int .i64 0, .int .i64 0, .slice none 0 0, .slice none 0 0] 46)).alloc (.cells #[.int .i64 id, .int .i64 tn, .slice none 0 0, .slice none 0 0] 46)).heap[w.heap.size + 1]? = some (.cells #[.int .i64 0, .int .i64 0, .slice none 0 0, .slice none 0 0] 46 (0, 0)) := by
    have := heap_alloc_new (w.alloc (.cells #[.int .i64 id, .int .i64 tn, cv, ov] 41)) (.cells #[.int .i64 0, .int .i64 0, .slice none 0 0, .slice none 0 0] 46)
    rw [Below.heap_alloc _ _ _ (by simp)]
    simpa only [World.size_alloc] using this
  have g0 : (((w.alloc (.cells #[.int .i64 id, .int .i64 tn, cv, ov] 41)).alloc (.cells #[.int .i64 0, .int .i64 0, .slice none 0 0, .slice none 0 0] 46)).alloc (.cells #[.int .i64 id, .int .i64 tn, .slice none 0 0, .slice none 0 0] 46)).heap[w.heap.size]? = some (.cells #[.int .i64 id, .int .i64 tn, cv, ov] 41 (0, 0)) := by
    rw [Below.heap_alloc _ _ _ (by simp; omega), Below.heap_alloc _ _ _ (by simp)]
    exact heap_alloc_new w _
  have hs : (((w.alloc (.cells #[.int .i64 id, .int .i64 tn, cv, ov] 41)).alloc (.cells #[.int .i64 0, .int .i64 0, .slice none 0 0, .slice none 0 0] 46)).alloc (.cells #[.int .i64 id, .int .i64 tn, .slice none 0 0, .slice none 0 0] 46)).heap.size = w.heap.size + 3 := by simp [World.size_alloc]
  generalize (((w.alloc (.cells #[.int .i64 id, .int .i64 tn, cv, ov] 41)).alloc (.cells #[.int .i64 0, .int .i64 0, .slice none 0 0, .slice none 0 0] 46)).alloc (.cells #[.int .i64 id, .int .i64 tn, .slice none 0 0, .slice none 0 0] 46)) = W at *
  refine (toCondS_any cv cs W (condsR_below H.out hh) HN.out).mono ?_
  rintro e w1 ⟨u, rfl, o1, b1⟩
  obtain ⟨ua, ucap, rfl⟩ := ownsC_len o1
  have k0 := (b1.block w.heap.size (by omega)).trans g0
  have k1 := (b1.block (w.heap.size + 1) (by omega)).trans g1
  have k2 := (b1.block (w.heap.size + 1 + 1) (by omega)).trans g2
  have B1 := hh.trans (b1.mono (by omega))
  have hz : W.heap.size ≤ w1.heap.size := b1.size
  clear g0 g1 g2 hh b1
  have c22 := (cell_of_row w1 _ 2 _ _ _ k2).trans (show _ = some (Value.slice none 0 0) from rfl)
  have f22 := frozen_of_row w1 _ 2 _ _ k2
  have p3 := (cell_of_row w1 _ 3 _ _ _ k0).trans (show _ = some ov from rfl)
  have hne1 : ¬ w.heap.size = w.heap.size + 1 + 1 := by omega
  have p3b : (w1.setCell ⟨w.heap.size + 1 + 1, 2, none⟩ (.slice ua cs.length ucap)).cell? ⟨w.heap.size, 3, none⟩ = some ov := by
    have m := (heap_setCell_other w1 ⟨w.heap.size + 1 + 1, 2, none⟩ w.heap.size (.slice ua cs.length ucap) (by simp <;> omega)).trans k0
    exact (cell_of_row _ _ 3 _ _ _ m).trans rfl
  go_wp2_with fail
  have m0 := (heap_setCell_other w1 ⟨w.heap.size + 1 + 1, 2, none⟩ w.heap.size (.slice ua cs.length ucap) (by simp <;> omega)).trans k0
  have m1 := (heap_setCell_other w1 ⟨w.heap.size + 1 + 1, 2, none⟩ (w.heap.size + 1) (.slice ua cs.length ucap) (by simp)).trans k1
  have m2 := heap_setCell_same w1 (w.heap.size + 1 + 1) 2 _ _ (.slice ua cs.length ucap) k2
  have o2 := ownsC_low o1 (b := w.heap.size + 1 + 1) (by omega) 2 (.slice ua cs.length ucap)
  have B2 := B1.setCell (p := ⟨w.heap.size + 1 + 1, 2, none⟩) (by simp; omega) (.slice ua cs.length ucap)
  have hz2 : W.heap.size ≤ (w1.setCell ⟨w.heap.size + 1 + 1, 2, none⟩ (.slice ua cs.length ucap)).heap.size := by simpa [World.setCell] using hz
  clear k0 k1 k2 o1 B1 c22 f22 p3 p3b hz
  generalize w1.setCell ⟨w.heap.size + 1 + 1, 2, none⟩ (.slice ua cs.length ucap) = W2 at *
  refine (toIntS_any ov os W2 (ints_below G.out B2) HM.out).mono ?_
  rintro e w3 ⟨x, rfl, o3, b3⟩
  obtain ⟨xa, xcap, rfl⟩ := ints_len (ownsN_ints o3)
  have k1 := (b3.block (w.heap.size + 1) (by omega)).trans m1
  have k2 := (b3.block (w.heap.size + 1 + 1) (by omega)).trans m2
  have B3 := B2.trans (b3.mono B2.size)
  have oc := ownsC_below o2 b3
  have hdis : ∀ b, (Value.slice ua cs.length ucap).ownBlock = some b → (Value.slice xa os.length xcap).ownBlock ≠ some b := fun b h1 h2 => by have := (o2.lt b h1).2; have := (o3.lt b h2).1; omega
  clear m0 m1 m2 o2 B2 b3
  replace k2 : w3.heap[w.heap.size + 1 + 1]? = some (.cells #[.int .i64 id, .int .i64 tn, .slice ua cs.length ucap, .slice none 0 0] 46 (0, 0)) := by simpa using k2
  have c20 := (cell_of_row w3 _ 0 _ _ _ k2).trans (show _ = some (Value.int .i64 id) from rfl)
  have c21 := (cell_of_row w3 _ 1 _ _ _ k2).trans (show _ = some (Value.int .i64 tn) from rfl)
  have c22 := (cell_of_row w3 _ 2 _ _ _ k2).trans (show _ = some (Value.slice ua cs.length ucap) from rfl)
  have c23 := (cell_of_row w3 _ 3 _ _ _ k2).trans (show _ = some (Value.slice none 0 0) from rfl)
  have c10 := (cell_of_row w3 _ 0 _ _ _ k1).trans (show _ = some (Value.int .i64 0) from rfl)
  have f10 := frozen_of_row w3 _ 0 _ _ k1
  have c11 := (cell_of_row w3 _ 1 _ _ _ k1).trans (show _ = some (Value.int .i64 0) from rfl)
  have f11 := frozen_of_row w3 _ 1 _ _ k1
  have c12 := (cell_of_row w3 _ 2 _ _ _ k1).trans (show _ = some (Value.slice none 0 0) from rfl)
  have f12 := frozen_of_row w3 _ 2 _ _ k1
  have c13 := (cell_of_row w3 _ 3 _ _ _ k1).trans (show _ = some (Value.slice none 0 0) from rfl)
  have f13 := frozen_of_row w3 _ 3 _ _ k1
  have f23 := frozen_of_row w3 _ 3 _ _ k2
  go_wp2
  have n1 := (heap_setCell_other w3 ⟨w.heap.size + 1 + 1, 3, none⟩ (w.heap.size + 1) (.slice xa os.length xcap) (by simp)).trans k1
  have r0 := heap_setCell_same _ (w.heap.size + 1) 0 _ _ (.int .i64 id) n1
  have r1 := heap_setCell_same _ (w.heap.size + 1) 1 _ _ (.int .i64 tn) r0
  have r2 := heap_setCell_same _ (w.heap.size + 1) 2 _ _ (.slice ua cs.length ucap) r1
  have r3 := heap_setCell_same _ (w.heap.size + 1) 3 _ _ (.slice xa os.length xcap) r2
  have oc4 := (ownsC_low (ownsC_low (ownsC_low (ownsC_low (ownsC_low oc (b := w.heap.size + 1 + 1) (by omega) 3 (.slice xa os.length xcap)) (b := w.heap.size + 1) (by omega) 0 (.int .i64 id)) (b := w.heap.size + 1) (by omega) 1 (.int .i64 tn)) (b := w.heap.size + 1) (by omega) 2 (.slice ua cs.length ucap)) (b := w.heap.size + 1) (by omega) 3 (.slice xa os.length xcap))
  have on4 := (ownsN_low (ownsN_low (ownsN_low (ownsN_low (ownsN_low o3 (b := w.heap.size + 1 + 1) (by omega) 3 (.slice xa os.length xcap)) (b := w.heap.size + 1) (by omega) 0 (.int .i64 id)) (b := w.heap.size + 1) (by omega) 1 (.int .i64 tn)) (b := w.heap.size + 1) (by omega) 2 (.slice ua cs.length ucap)) (b := w.heap.size + 1) (by omega) 3 (.slice xa os.length xcap))
  have B4 := (((((B3.setCell (p := ⟨w.heap.size + 1 + 1, 3, none⟩) (by simp; omega) (.slice xa os.length xcap)).setCell (p := ⟨w.heap.size + 1, 0, none⟩) (by simp) (.int .i64 id)).setCell (p := ⟨w.heap.size + 1, 1, none⟩) (by simp) (.int .i64 tn)).setCell (p := ⟨w.heap.size + 1, 2, none⟩) (by simp) (.slice ua cs.length ucap)).setCell (p := ⟨w.heap.size + 1, 3, none⟩) (by simp) (.slice xa os.length xcap))
  have e0 := cell_of_row _ _ 0 _ _ _ r3
  have e1 := cell_of_row _ _ 1 _ _ _ r3
  have e2 := cell_of_row _ _ 2 _ _ _ r3
  have e3 := cell_of_row _ _ 3 _ _ _ r3
  simp at e0 e1 e2 e3
  refine bodyPost_ret (v := qV id tn (.slice ua cs.length ucap) (.slice xa os.length xcap)) ?_ rfl ?_
  · simp [results, Tryd.f22, go_sem, e0, e1, e2, e3]
  · exact ⟨_, _, rfl, ownsC_up oc4 (by omega), ownsN_up on4 (by omega), hdis, B4⟩
set_option maxHeartbeats 4000000 in
set_option maxRecDepth 100000 in
theorem eqCondS_same (v u : Value) (cs : List CondD) (w : World) (h : CondsR w v cs) (g : CondsR w u cs) (hn : cs.length ≤ 1048576) :
    Calls Tryd.prog 59 #[v, u] w fun e w' => e = .returned (.bool true) ∧ Below w.heap.size w w' := by
  have H := Lib.hid h
  have G := Lib.hid g
  obtain ⟨a, cap, rfl⟩ := condsR_len h
  obtain ⟨a2, cap2, rfl⟩ := condsR_len g
  clear h g
  go_enter Tryd.func59, Tryd.ntmps59
  go_wp2
  go_loopw [5] (fun i wr => ∃ k : Nat, k ≤ cs.length ∧ i = .int .i64 k ∧ Below w.heap.size w wr) (fun i _ => cs.length - (intOf i).toNat)
  case atStart => exact ⟨0, Nat.zero_le _, rfl, Below.refl _ _⟩
  case round =>
    obtain ⟨k, hk, rfl, hbel⟩ := hrel
    by_cases hlt : k < cs.length
    · obtain ⟨b, off, cap', hv, hbl, hc1, hc2, hc3⟩ := condsR_at (condsR_below H.out hbel) hlt
      simp only [Value.slice.injEq] at hv
      obtain ⟨rfl, _, rfl⟩ := hv
      obtain ⟨b2, off2, cap2', hv2, hbl2, hd1, hd2, hd3⟩ := condsR_at (condsR_below G.out hbel) hlt
      simp only [Value.slice.injEq] at hv2
      obtain ⟨rfl, _, rfl⟩ := hv2
      have i1 : (0 : Int) ≤ (k : Int) := by omega
      have i2 : (k : Int) < (cs.length : Int) := by omega
      generalize cs.getD k (0, 0, 0) = c at *
      obtain ⟨f, l, hh⟩ := c
      simp only at hc1 hc2 hc3 hd1 hd2 hd3
      go_wp2
      go_region_with (first | (go_at_call 91; refine (eqCond_same f l hh _).mono ?_; rintro e w8 ⟨rfl, b9⟩; have b10 : Below wr.heap.size wr w8 := ⟨b9.os, b9.tape, b9.output, b9.size, b9.block⟩))
      all_goals
        have b11 := hbel.trans (b10.mono hbel.size)
        go_wp2
        go_roundw
        case rel => exact ⟨k + 1, by omega, by go_num, b11⟩
        case measure => simp [intOf]; omega
    · go_wp2
      go_ret
      exact ⟨rfl, hbel⟩
set_option maxHeartbeats 4000000 in
set_option maxRecDepth 100000 in
theorem eqQuery_same (id tn : Int) (cv cu ov ou : Value) (cs : List CondD) (os : List Int) (w : World) (h : CondsR w cv cs) (h' : CondsR w cu cs) (g : Ints w ov os) (g' : Ints w ou os) (hn : cs.length ≤ 1048576) (hm : os.length ≤ 1048576) :
    Calls Tryd.prog 24 #[qV id tn cv ov, qV id tn cu ou] w fun e w' => e = .returned (.bool true) ∧ Below w.heap.size w w' := by
  have H1 := Lib.hid (fun w h h' => eqCondS_same cv cu cs w h h' hn)
  have H2 := Lib.hid (fun w h h' => eqIntS_same ov ou os w h h' hm)
  have A1 := Lib.hid h; have A2 := Lib.hid h'; have A3 := Lib.hid g; have A4 := Lib.hid g'
  clear h h' g g' hn hm
  have e1 : (id != id) = false := by simp
  have e2 : (tn != tn) = false := by simp
  go_enter Tryd.func24, Tryd.ntmps24
  go_wp2_with fail
  have hb : Below w.heap.size w ((w.alloc (.cells #[.int .i64 id, .int .i64 tn, cv, ov] 46)).alloc (.cells #[.int .i64 id, .int .i64 tn, cu, ou] 46)) := ((Below.refl _ w).alloc (Nat.le_refl _) _).alloc (by simp) _
  have g1 : ((w.alloc (.cells #[.int .i64 id, .int .i64 tn, cv, ov] 46)).alloc (.cells #[.int .i64 id, .int .i64 tn, cu, ou] 46)).heap[w.heap.size + 1]? = some (.cells #[.int .i64 id, .int .i64 tn, cu, ou] 46 (0, 0)) := by
    have := heap_alloc_new (w.alloc (.cells #[.int .i64 id, .int .i64 tn, cv, ov] 46)) (.cells #[.int .i64 id, .int .i64 tn, cu, ou] 46)
    simpa only [World.size_alloc] using this
  have g0 : ((w.alloc (.cells #[.int .i64 id, .int .i64 tn, cv, ov] 46)).alloc (.cells #[.int .i64 id, .int .i64 tn, cu, ou] 46)).heap[w.heap.size]? = some (.cells #[.int .i64 id, .int .i64 tn, cv, ov] 46 (0, 0)) := by
    rw [Below.heap_alloc _ _ _ (by simp)]
    exact heap_alloc_new w _
  have hs : w.heap.size + 1 < ((w.alloc (.cells #[.int .i64 id, .int .i64 tn, cv, ov] 46)).alloc (.cells #[.int .i64 id, .int .i64 tn, cu, ou] 46)).heap.size := by simp
  generalize ((w.alloc (.cells #[.int .i64 id, .int .i64 tn, cv, ov] 46)).alloc (.cells #[.int .i64 id, .int .i64 tn, cu, ou] 46)) = W at *
  refine (H1.out _ (condsR_below A1.out hb) (condsR_below A2.out hb)).mono ?_
  rintro e w1 ⟨rfl, b1⟩
  have k0 := (b1.block w.heap.size (by omega)).trans g0
  have k1 := (b1.block (w.heap.size + 1) hs).trans g1
  have c1 := hb.trans (b1.mono hb.size)
  have p3 := (cell_of_row w1 _ 3 _ _ _ k0).trans (show _ = some ov from rfl)
  have q3 := (cell_of_row w1 _ 3 _ _ _ k1).trans (show _ = some ou from rfl)
  clear k0 k1 g0 g1 hs hb b1
  go_wp2_with fail
  refine (H2.out _ (ints_below A3.out c1) (ints_below A4.out c1)).mono ?_
  rintro e w2 ⟨rfl, b2⟩
  have c2 := c1.trans (b2.mono c1.size)
  clear b2 c1 p3 q3
  go_wp2
  go_ret
  exact ⟨rfl, c2⟩
end Go.Proofs.YteelgogfpidcdaaDoor
