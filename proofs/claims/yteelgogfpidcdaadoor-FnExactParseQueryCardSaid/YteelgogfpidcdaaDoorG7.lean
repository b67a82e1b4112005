/-
  Texts of the proof, merged: QueryIsP, RowMark.
-/
import Derived.Test.YteelgogfpidcdaaDoorG6
namespace Go.Proofs.YteelgogfpidcdaaDoor
open Go.RowKit
set_option linter.unusedVariables false
set_option linter.unusedSimpArgs false
theorem box_cells4 {W w : World} {t : TypeId} {x y z u : Value} {b : Nat} (h : W.heap[b]? = some (.cells #[x, y, z, u] t (0, 0))) (hb : Below W.heap.size W w) :
    w.cell? ⟨b, 0, none⟩ = some x ∧ w.cell? ⟨b, 1, none⟩ = some y ∧ w.cell? ⟨b, 2, none⟩ = some z ∧ w.cell? ⟨b, 3, none⟩ = some u := by
  have hlt := (Array.getElem?_eq_some_iff.1 h).1
  have h' := (hb.block b hlt).trans h
  exact ⟨(cell_of_row w b 0 _ _ _ h').trans rfl, (cell_of_row w b 1 _ _ _ h').trans rfl, (cell_of_row w b 2 _ _ _ h').trans rfl, (cell_of_row w b 3 _ _ _ h').trans rfl⟩
theorem isField_yes (n : Int) (w : World) (h1 : 0 ≤ n) (h2 : n < 3) : Calls Tryd.prog 31 #[.int .i64 n] w fun e w' => e = .returned (.bool true) ∧ w' = w := by
  go_enter Tryd.func31, Tryd.ntmps31
  go_wp2
  go_ret
  exact ⟨rfl, rfl⟩
theorem isField_no (n : Int) (w : World) (h : ¬ (0 ≤ n ∧ n < 3)) : Calls Tryd.prog 31 #[.int .i64 n] w fun e w' => e = .returned (.bool false) ∧ w' = w := by
  by_cases h1 : 0 ≤ n
  · have h2 : ¬ n < 3 := fun g => h ⟨h1, g⟩
    clear h
    go_enter Tryd.func31, Tryd.ntmps31
    go_wp2
    go_ret
    exact ⟨rfl, rfl⟩
  · clear h
    go_enter Tryd.func31, Tryd.ntmps31
    go_wp2
    go_ret
    exact ⟨rfl, rfl⟩
theorem isTenant_yes (n : Int) (w : World) (h1 : 0 ≤ n) (h2 : n < 4) : Calls Tryd.prog 98 #[.int .i64 n] w fun e w' => e = .returned (.bool true) ∧ w' = w := by
  go_enter Tryd.func98, Tryd.ntmps98
  go_wp2
  go_ret
  exact ⟨rfl, rfl⟩
theorem isTenant_no (n : Int) (w : World) (h : ¬ (0 ≤ n ∧ n < 4)) : Calls Tryd.prog 98 #[.int .i64 n] w fun e w' => e = .returned (.bool false) ∧ w' = w := by
  by_cases h1 : 0 ≤ n
  · have h2 : ¬ n < 4 := fun g => h ⟨h1, g⟩
    clear h
    go_enter Tryd.func98, Tryd.ntmps98
    go_wp2
    go_ret
    exact ⟨rfl, rfl⟩
  · clear h
    go_enter Tryd.func98, Tryd.ntmps98
    go_wp2
    go_ret
    exact ⟨rfl, rfl⟩
theorem isQNum_yes (n : Int) (w : World) (h1 : 0 ≤ n) (h2 : n < 24) : Calls Tryd.prog 97 #[.int .i64 n] w fun e w' => e = .returned (.bool true) ∧ w' = w := by
  go_enter Tryd.func97, Tryd.ntmps97
  go_wp2
  go_ret
  exact ⟨rfl, rfl⟩
theorem isQNum_no (n : Int) (w : World) (h : ¬ (0 ≤ n ∧ n < 24)) : Calls Tryd.prog 97 #[.int .i64 n] w fun e w' => e = .returned (.bool false) ∧ w' = w := by
  by_cases h1 : 0 ≤ n
  · have h2 : ¬ n < 24 := fun g => h ⟨h1, g⟩
    clear h
    go_enter Tryd.func97, Tryd.ntmps97
    go_wp2
    go_ret
    exact ⟨rfl, rfl⟩
  · clear h
    go_enter Tryd.func97, Tryd.ntmps97
    go_wp2
    go_ret
    exact ⟨rfl, rfl⟩
/-- Can a field have the values from l to h? -/
theorem isFieldRange_is (l h : Int) (w : World) : Calls Tryd.prog 79 #[.int .i64 l, .int .i64 h] w fun e w' => e = .returned (.bool (decide (0 ≤ l ∧ l ≤ h) && decide (h ≤ 99))) ∧ w' = w := by
  obtain ⟨r, hr⟩ : ∃ r, (decide (0 ≤ l ∧ l ≤ h) && decide (h ≤ 99)) = r := ⟨_, rfl⟩
  rw [hr]
  by_cases h2 : 0 ≤ l
  · by_cases h3 : l ≤ h
    · by_cases h4 : h ≤ 99
      · have HX := trivial
        have HT : Hid (r = true) := Lib.hid (by rw [← hr, decide_eq_true (And.intro h2 h3), decide_eq_true h4]; rfl)
        clear HX hr
        go_enter Tryd.func79, Tryd.ntmps79
        go_wp2
        go_ret
        exact ⟨ret_b HT.out.symm, rfl⟩
      · have HX := trivial
        have HT : Hid (r = false) := Lib.hid (by rw [← hr, decide_eq_false h4, Bool.and_false])
        clear HX hr
        go_enter Tryd.func79, Tryd.ntmps79
        go_wp2
        go_ret
        exact ⟨ret_b HT.out.symm, rfl⟩
    · have HX := trivial
      have HT : Hid (r = false) := Lib.hid (by rw [← hr, decide_eq_false (fun g => h3 g.2), Bool.false_and])
      clear HX hr
      go_enter Tryd.func79, Tryd.ntmps79
      go_wp2
      go_ret
      exact ⟨ret_b HT.out.symm, rfl⟩
  · have HX := trivial
    have HT : Hid (r = false) := Lib.hid (by rw [← hr, decide_eq_false (fun g => h2 g.1), Bool.false_and])
    clear HX hr
    go_enter Tryd.func79, Tryd.ntmps79
    go_wp2
    go_ret
    exact ⟨ret_b HT.out.symm, rfl⟩
set_option maxHeartbeats 4000000 in
set_option maxRecDepth 100000 in
theorem implIsCond (f l h : Int) (w : World) : Calls Tryd.prog 117 #[condV f l h] w fun e w' => e = .returned (.bool (condB (f, l, h))) ∧ Below w.heap.size w w' := by
  have hb : Below w.heap.size w (w.alloc (.cells #[.int .i64 f, .int .i64 l, .int .i64 h] 79)) := (Below.refl _ w).alloc (Nat.le_refl _) _
  by_cases h1 : 0 ≤ f ∧ f < 3
  · have H1 := Lib.hid (fun w => isField_yes f w h1.1 h1.2)
    have H2 := Lib.hid (fun w => isFieldRange_is l h w)
    have HE : Hid (condB (f, l, h) = (decide (0 ≤ l ∧ l ≤ h) && decide (h ≤ 99))) := Lib.hid (by unfold condB; rw [decide_eq_true (by omega : 0 ≤ f ∧ f ≤ 2), Bool.true_and])
    clear h1
    generalize (decide (0 ≤ l ∧ l ≤ h) && decide (h ≤ 99)) = r at *
    go_enter Tryd.func117, Tryd.ntmps117
    go_wp2_with fail
    refine (H1.out _).mono ?_
    rintro e w1 ⟨rfl, rfl⟩
    go_wp2_with fail
    refine (H2.out _).mono ?_
    rintro e w1 ⟨rfl, rfl⟩
    go_wp2
    go_ret
    exact ⟨ret_b HE.out.symm, hb⟩
  · have H1 := Lib.hid (fun w => isField_no f w h1)
    have HT : Hid (condB (f, l, h) = false) := Lib.hid (by unfold condB; rw [decide_eq_false (by omega : ¬ (0 ≤ f ∧ f ≤ 2)), Bool.false_and])
    clear h1
    go_enter Tryd.func117, Tryd.ntmps117
    go_wp2_with fail
    refine (H1.out _).mono ?_
    rintro e w1 ⟨rfl, rfl⟩
    go_wp2
    go_ret
    exact ⟨ret_b HT.out.symm, hb⟩
/-- Are these the conditions of a query? -/
def condsV (cs : List CondD) : Bool := decide (cs.length ≤ 3) && condsB cs
theorem condsV_bad {cs : List CondD} {k : Nat} (hk : k < cs.length) (h : condB (cs.getD k c0D) = false ∨ (0 < k ∧ ¬ (cs.getD (k - 1) c0D).1 < (cs.getD k c0D).1)) : condsV cs = false := by
  unfold condsV; rw [condsB_bad hk h, Bool.and_false]
set_option maxHeartbeats 8000000 in
set_option maxRecDepth 100000 in
theorem areValid_any (v : Value) (cs : List CondD) (w : World) (h : CondsR w v cs) (hn : cs.length ≤ 1048576) :
    Calls Tryd.prog 99 #[v] w fun e w' => e = .returned (.bool (condsV cs)) ∧ Below w.heap.size w w' := by
  have H := Lib.hid h
  obtain ⟨a, cap, rfl⟩ := condsR_len h
  clear h
  by_cases hbig : 3 < cs.length
  · have HF : Hid (condsV cs = false) := Lib.hid (by unfold condsV; rw [decide_eq_false (by omega)]; simp)
    have i0 : (3 : Int) < (cs.length : Int) := by omega
    have hd : decide ((3 : Int) < (cs.length : Int)) = true := decide_eq_true i0
    have hdn : decide (3 < cs.length) = true := decide_eq_true hbig
    go_enter Tryd.func99, Tryd.ntmps99
    go_wp2
    go_ret
    exact ⟨ret_b HF.out.symm, Below.refl _ _⟩
  have HT : Hid (CondsTo cs cs.length → condsV cs = true) := Lib.hid (fun g => by unfold condsV; rw [decide_eq_true (by omega), condsB_all g]; rfl)
  have hd : decide ((3 : Int) < (cs.length : Int)) = false := decide_eq_false (by omega)
  have hdn : decide (3 < cs.length) = false := decide_eq_false hbig
  clear hbig
  go_enter Tryd.func99, Tryd.ntmps99
  go_wp2
  clear hd hdn
  go_loopw [10] (fun i wr => ∃ k : Nat, k ≤ cs.length ∧ i = .int .i64 k ∧ Hid (CondsTo cs k) ∧ Below w.heap.size w wr) (fun i _ => cs.length - (intOf i).toNat)
  case atStart => exact ⟨0, Nat.zero_le _, rfl, Lib.hid (fun i hi => by omega), Below.refl _ _⟩
  case round =>
    obtain ⟨k, hk, rfl, hall, hbel⟩ := hrel
    by_cases hlt : k < cs.length
    · have H1 := Lib.hid (condsR_below H.out hbel)
      obtain ⟨b, off, cap', hv, hbl, hc1, hc2, hc3⟩ := condsR_at H1.out hlt
      simp only [Value.slice.injEq] at hv
      obtain ⟨rfl, _, rfl⟩ := hv
      have HBAD := Lib.hid (condsV_bad (cs := cs) (k := k) hlt)
      have HSTEP := Lib.hid (condsTo_step hall.out)
      have HR0 : Hid (∀ w, Calls Tryd.prog 117 #[condV (cs.getD k c0D).1 (cs.getD k c0D).2.1 (cs.getD k c0D).2.2] w fun e w' => e = .returned (.bool (condB (cs.getD k c0D))) ∧ Below w.heap.size w w') := Lib.hid (fun w => implIsCond (cs.getD k c0D).1 (cs.getD k c0D).2.1 (cs.getD k c0D).2.2 w)
      have i1 : (0 : Int) ≤ (k : Int) := by omega
      have i2 : (k : Int) < (cs.length : Int) := by omega
      clear hall
      cases hrb : condB (cs.getD k c0D) with
      | false =>
        have HF := Lib.hid (HBAD.out (Or.inl hrb))
        have HR := Lib.hid (fun w => (HR0.out w))
        rw [hrb] at HR
        clear hrb HBAD HSTEP H1 HR0
        generalize (cs.getD k c0D).1 = cf at *
        generalize (cs.getD k c0D).2.1 = cl at *
        generalize (cs.getD k c0D).2.2 = ch at *
        go_wp2
        have hW : Below wr.heap.size wr (wr.alloc (.cells #[.int .i64 cf, .int .i64 cl, .int .i64 ch] 79)) := (Below.refl _ wr).alloc (Nat.le_refl _) _
        have g0 := heap_alloc_new wr (.cells #[.int .i64 cf, .int .i64 cl, .int .i64 ch] 79)
        have hlt2 : wr.heap.size < (wr.alloc (.cells #[.int .i64 cf, .int .i64 cl, .int .i64 ch] 79)).heap.size := by simp
        generalize wr.alloc (.cells #[.int .i64 cf, .int .i64 cl, .int .i64 ch] 79) = W at *
        have q0 := cell_of_row W _ 0 _ _ _ g0
        have q1 := cell_of_row W _ 1 _ _ _ g0
        have q2 := cell_of_row W _ 2 _ _ _ g0
        simp at q0 q1 q2
        refine wp_region_held_drew (S := fun w' => w'.cell? ⟨wr.heap.size, 0, none⟩ = some (.int .i64 cf) ∧ w'.cell? ⟨wr.heap.size, 1, none⟩ = some (.int .i64 cl) ∧ w'.cell? ⟨wr.heap.size, 2, none⟩ = some (.int .i64 ch)) (by kernel_rfl) ⟨q0, q1, q2⟩ (fun hHeld => ?_)
        refine take_runs (i := 0) (v := ?_) (by simp only [List.getElem?_toArray, List.getElem?_cons_succ, List.getElem?_cons_zero]; rfl) (by kernel_rfl) (by kernel_rfl) (by kernel_rfl) rfl (by exact fun _ _ _ h => h) (by rfl) ?_ (by assumption) ?_
        rotate_left
        · intro w hSw; (try dsimp only at hSw); go_simp; try (with_reducible rfl)
        try simp only [Act.put, List.setIfInBounds_toArray, List.set_cons_zero, List.set_cons_succ]
        refine wpAnyH_ready (rs := [1]) (by kernel_rfl) (by simp) ?_
        refine AllReadyH.cons (o := _) (by simp only [List.getElem?_toArray, List.getElem?_cons_succ, List.getElem?_cons_zero]; rfl) (fun K hK => ?_) AllReadyH.nil
        go_simp
        refine (HR.out _).mono ?_
        rintro e w8 ⟨rfl, b9⟩
        have b10 : Below W.heap.size W w8 := ⟨b9.os, b9.tape, b9.output, b9.size, b9.block⟩
        have s0 := (b10.cell (p := ⟨wr.heap.size, 0, none⟩) hlt2).trans q0
        have s1 := (b10.cell (p := ⟨wr.heap.size, 1, none⟩) hlt2).trans q1
        have s2 := (b10.cell (p := ⟨wr.heap.size, 2, none⟩) hlt2).trans q2
        refine hK.out _ _ ⟨s0, s1, s2⟩ (fun hHeld => ?_)
        clear hK K
        try simp only [Act.put, List.setIfInBounds_toArray, List.set_cons_zero, List.set_cons_succ]
        refine take_runs (i := 2) (v := ?_) (by simp only [List.getElem?_toArray, List.getElem?_cons_succ, List.getElem?_cons_zero]; rfl) (by kernel_rfl) (by kernel_rfl) (by kernel_rfl) rfl (by exact fun _ _ _ h => h) (by rfl) ?_ (by assumption) ?_
        rotate_left
        · intro w hSw; (try dsimp only at hSw); go_simp; try (with_reducible rfl)
        try simp only [Act.put, List.setIfInBounds_toArray, List.set_cons_zero, List.set_cons_succ]
        refine take_runs (i := 3) (v := ?_) (by simp only [List.getElem?_toArray, List.getElem?_cons_succ, List.getElem?_cons_zero]; rfl) (by kernel_rfl) (by kernel_rfl) (by kernel_rfl) rfl (by exact fun _ _ _ h => h) (by rfl) ?_ (by assumption) ?_
        rotate_left
        · intro w hSw; (try dsimp only at hSw); go_simp; try (with_reducible rfl)
        try simp only [Act.put, List.setIfInBounds_toArray, List.set_cons_zero, List.set_cons_succ]
        refine take_over (i := 4) (by simp only [List.getElem?_toArray, List.getElem?_cons_succ, List.getElem?_cons_zero]; rfl) (by kernel_rfl) (by kernel_rfl) (by kernel_rfl) rfl (by exact fun _ _ _ h => h) (by rfl) (by assumption) ?_
        try simp only [Act.put, List.setIfInBounds_toArray, List.set_cons_zero, List.set_cons_succ]
        refine take_over (i := 5) (by simp only [List.getElem?_toArray, List.getElem?_cons_succ, List.getElem?_cons_zero]; rfl) (by kernel_rfl) (by kernel_rfl) (by kernel_rfl) rfl (by exact fun _ _ _ h => h) (by rfl) (by assumption) ?_
        try simp only [Act.put, List.setIfInBounds_toArray, List.set_cons_zero, List.set_cons_succ]
        refine take_over (i := 6) (by simp only [List.getElem?_toArray, List.getElem?_cons_succ, List.getElem?_cons_zero]; rfl) (by kernel_rfl) (by kernel_rfl) (by kernel_rfl) rfl (by exact fun _ _ _ h => h) (by rfl) (by assumption) ?_
        try simp only [Act.put, List.setIfInBounds_toArray, List.set_cons_zero, List.set_cons_succ]
        refine take_over (i := 7) (by simp only [List.getElem?_toArray, List.getElem?_cons_succ, List.getElem?_cons_zero]; rfl) (by kernel_rfl) (by kernel_rfl) (by kernel_rfl) rfl (by exact fun _ _ _ h => h) (by rfl) (by assumption) ?_
        try simp only [Act.put, List.setIfInBounds_toArray, List.set_cons_zero, List.set_cons_succ]
        refine take_over (i := 8) (by simp only [List.getElem?_toArray, List.getElem?_cons_succ, List.getElem?_cons_zero]; rfl) (by kernel_rfl) (by kernel_rfl) (by kernel_rfl) rfl (by exact fun _ _ _ h => h) (by rfl) (by assumption) ?_
        try simp only [Act.put, List.setIfInBounds_toArray, List.set_cons_zero, List.set_cons_succ]
        refine take_over (i := 9) (by simp only [List.getElem?_toArray, List.getElem?_cons_succ, List.getElem?_cons_zero]; rfl) (by kernel_rfl) (by kernel_rfl) (by kernel_rfl) rfl (by exact fun _ _ _ h => h) (by rfl) (by assumption) ?_
        try simp only [Act.put, List.setIfInBounds_toArray, List.set_cons_zero, List.set_cons_succ]
        refine take_over (i := 10) (by simp only [List.getElem?_toArray, List.getElem?_cons_succ, List.getElem?_cons_zero]; rfl) (by kernel_rfl) (by kernel_rfl) (by kernel_rfl) rfl (by exact fun _ _ _ h => h) (by rfl) (by assumption) ?_
        try simp only [Act.put, List.setIfInBounds_toArray, List.set_cons_zero, List.set_cons_succ]
        refine take_over (i := 11) (by simp only [List.getElem?_toArray, List.getElem?_cons_succ, List.getElem?_cons_zero]; rfl) (by kernel_rfl) (by kernel_rfl) (by kernel_rfl) rfl (by exact fun _ _ _ h => h) (by rfl) (by assumption) ?_
        try simp only [Act.put, List.setIfInBounds_toArray, List.set_cons_zero, List.set_cons_succ]
        refine take_over (i := 12) (by simp only [List.getElem?_toArray, List.getElem?_cons_succ, List.getElem?_cons_zero]; rfl) (by kernel_rfl) (by kernel_rfl) (by kernel_rfl) rfl (by exact fun _ _ _ h => h) (by rfl) (by assumption) ?_
        try simp only [Act.put, List.setIfInBounds_toArray, List.set_cons_zero, List.set_cons_succ]
        refine take_over (i := 13) (by simp only [List.getElem?_toArray, List.getElem?_cons_succ, List.getElem?_cons_zero]; rfl) (by kernel_rfl) (by kernel_rfl) (by kernel_rfl) rfl (by exact fun _ _ _ h => h) (by rfl) (by assumption) ?_
        try simp only [Act.put, List.setIfInBounds_toArray, List.set_cons_zero, List.set_cons_succ]
        refine take_over (i := 14) (by simp only [List.getElem?_toArray, List.getElem?_cons_succ, List.getElem?_cons_zero]; rfl) (by kernel_rfl) (by kernel_rfl) (by kernel_rfl) rfl (by exact fun _ _ _ h => h) (by rfl) (by assumption) ?_
        try simp only [Act.put, List.setIfInBounds_toArray, List.set_cons_zero, List.set_cons_succ]
        refine take_over (i := 15) (by simp only [List.getElem?_toArray, List.getElem?_cons_succ, List.getElem?_cons_zero]; rfl) (by kernel_rfl) (by kernel_rfl) (by kernel_rfl) rfl (by exact fun _ _ _ h => h) (by rfl) (by assumption) ?_
        try simp only [Act.put, List.setIfInBounds_toArray, List.set_cons_zero, List.set_cons_succ]
        refine take_over (i := 16) (by simp only [List.getElem?_toArray, List.getElem?_cons_succ, List.getElem?_cons_zero]; rfl) (by kernel_rfl) (by kernel_rfl) (by kernel_rfl) rfl (by exact fun _ _ _ h => h) (by rfl) (by assumption) ?_
        try simp only [Act.put, List.setIfInBounds_toArray, List.set_cons_zero, List.set_cons_succ]
        refine take_runs (i := 17) (v := ?_) (by simp only [List.getElem?_toArray, List.getElem?_cons_succ, List.getElem?_cons_zero]; rfl) (by kernel_rfl) (by kernel_rfl) (by kernel_rfl) rfl (by exact fun _ _ _ h => h) (by rfl) ?_ (by assumption) ?_
        rotate_left
        · intro w hSw; (try dsimp only at hSw); go_simp; try (with_reducible rfl)
        try simp only [Act.put, List.setIfInBounds_toArray, List.set_cons_zero, List.set_cons_succ]
        refine wpAnyH_done (by kernel_rfl) ?_ _
        have b11 := hbel.trans ((hW.trans (b10.mono hW.size)).mono hbel.size)
        clear s0 s1 s2 hHeld b9 b10
        try clear s3
        go_wp2
        go_ret
        exact ⟨ret_b HF.out.symm, b11⟩
      | true =>
        have HR := Lib.hid (fun w => (HR0.out w))
        rw [hrb] at HR
        clear HR0
        by_cases hz : k = 0
        · have HA := Lib.hid (HSTEP.out hrb (fun g => absurd g (by omega)))
          have hg : decide ((0 : Int) < (k : Int)) = false := decide_eq_false (by omega)
          have hgn : decide (0 < k) = false := decide_eq_false (by omega)
          clear hrb HBAD HSTEP H1 hz
          generalize (cs.getD k c0D).1 = cf at *
          generalize (cs.getD k c0D).2.1 = cl at *
          generalize (cs.getD k c0D).2.2 = ch at *
          go_wp2
          have hW : Below wr.heap.size wr (wr.alloc (.cells #[.int .i64 cf, .int .i64 cl, .int .i64 ch] 79)) := (Below.refl _ wr).alloc (Nat.le_refl _) _
          have g0 := heap_alloc_new wr (.cells #[.int .i64 cf, .int .i64 cl, .int .i64 ch] 79)
          have hlt2 : wr.heap.size < (wr.alloc (.cells #[.int .i64 cf, .int .i64 cl, .int .i64 ch] 79)).heap.size := by simp
          generalize wr.alloc (.cells #[.int .i64 cf, .int .i64 cl, .int .i64 ch] 79) = W at *
          have q0 := cell_of_row W _ 0 _ _ _ g0
          have q1 := cell_of_row W _ 1 _ _ _ g0
          have q2 := cell_of_row W _ 2 _ _ _ g0
          simp at q0 q1 q2
          refine wp_region_held_drew (S := fun w' => w'.cell? ⟨wr.heap.size, 0, none⟩ = some (.int .i64 cf) ∧ w'.cell? ⟨wr.heap.size, 1, none⟩ = some (.int .i64 cl) ∧ w'.cell? ⟨wr.heap.size, 2, none⟩ = some (.int .i64 ch)) (by kernel_rfl) ⟨q0, q1, q2⟩ (fun hHeld => ?_)
          refine take_runs (i := 0) (v := ?_) (by simp only [List.getElem?_toArray, List.getElem?_cons_succ, List.getElem?_cons_zero]; rfl) (by kernel_rfl) (by kernel_rfl) (by kernel_rfl) rfl (by exact fun _ _ _ h => h) (by rfl) ?_ (by assumption) ?_
          rotate_left
          · intro w hSw; (try dsimp only at hSw); go_simp; try (with_reducible rfl)
          try simp only [Act.put, List.setIfInBounds_toArray, List.set_cons_zero, List.set_cons_succ]
          refine wpAnyH_ready (rs := [1]) (by kernel_rfl) (by simp) ?_
          refine AllReadyH.cons (o := _) (by simp only [List.getElem?_toArray, List.getElem?_cons_succ, List.getElem?_cons_zero]; rfl) (fun K hK => ?_) AllReadyH.nil
          go_simp
          refine (HR.out _).mono ?_
          rintro e w8 ⟨rfl, b9⟩
          have b10 : Below W.heap.size W w8 := ⟨b9.os, b9.tape, b9.output, b9.size, b9.block⟩
          have s0 := (b10.cell (p := ⟨wr.heap.size, 0, none⟩) hlt2).trans q0
          have s1 := (b10.cell (p := ⟨wr.heap.size, 1, none⟩) hlt2).trans q1
          have s2 := (b10.cell (p := ⟨wr.heap.size, 2, none⟩) hlt2).trans q2
          refine hK.out _ _ ⟨s0, s1, s2⟩ (fun hHeld => ?_)
          clear hK K
          try simp only [Act.put, List.setIfInBounds_toArray, List.set_cons_zero, List.set_cons_succ]
          refine take_runs (i := 2) (v := ?_) (by simp only [List.getElem?_toArray, List.getElem?_cons_succ, List.getElem?_cons_zero]; rfl) (by kernel_rfl) (by kernel_rfl) (by kernel_rfl) rfl (by exact fun _ _ _ h => h) (by rfl) ?_ (by assumption) ?_
          rotate_left
          · intro w hSw; (try dsimp only at hSw); go_simp; try (with_reducible rfl)
          try simp only [Act.put, List.setIfInBounds_toArray, List.set_cons_zero, List.set_cons_succ]
          refine take_runs (i := 3) (v := ?_) (by simp only [List.getElem?_toArray, List.getElem?_cons_succ, List.getElem?_cons_zero]; rfl) (by kernel_rfl) (by kernel_rfl) (by kernel_rfl) rfl (by exact fun _ _ _ h => h) (by rfl) ?_ (by assumption) ?_
          rotate_left
          · intro w hSw; (try dsimp only at hSw); go_simp; try (with_reducible rfl)
          try simp only [Act.put, List.setIfInBounds_toArray, List.set_cons_zero, List.set_cons_succ]
          refine take_runs (i := 4) (v := ?_) (by simp only [List.getElem?_toArray, List.getElem?_cons_succ, List.getElem?_cons_zero]; rfl) (by kernel_rfl) (by kernel_rfl) (by kernel_rfl) rfl (by exact fun _ _ _ h => h) (by rfl) ?_ (by assumption) ?_
          rotate_left
          · intro w hSw; (try dsimp only at hSw); go_simp; try (with_reducible rfl)
          try simp only [Act.put, List.setIfInBounds_toArray, List.set_cons_zero, List.set_cons_succ]
          refine take_runs (i := 5) (v := ?_) (by simp only [List.getElem?_toArray, List.getElem?_cons_succ, List.getElem?_cons_zero]; rfl) (by kernel_rfl) (by kernel_rfl) (by kernel_rfl) rfl (by exact fun _ _ _ h => h) (by rfl) ?_ (by assumption) ?_
          rotate_left
          · intro w hSw; (try dsimp only at hSw); go_simp; try (with_reducible rfl)
          try simp only [Act.put, List.setIfInBounds_toArray, List.set_cons_zero, List.set_cons_succ]
          refine take_runs (i := 6) (v := ?_) (by simp only [List.getElem?_toArray, List.getElem?_cons_succ, List.getElem?_cons_zero]; rfl) (by kernel_rfl) (by kernel_rfl) (by kernel_rfl) rfl (by exact fun _ _ _ h => h) (by rfl) ?_ (by assumption) ?_
          rotate_left
          · intro w hSw; (try dsimp only at hSw); go_simp; try (with_reducible rfl)
          try simp only [Act.put, List.setIfInBounds_toArray, List.set_cons_zero, List.set_cons_succ]
          refine take_over (i := 7) (by simp only [List.getElem?_toArray, List.getElem?_cons_succ, List.getElem?_cons_zero]; rfl) (by kernel_rfl) (by kernel_rfl) (by kernel_rfl) rfl (by exact fun _ _ _ h => h) (by rfl) (by assumption) ?_
          try simp only [Act.put, List.setIfInBounds_toArray, List.set_cons_zero, List.set_cons_succ]
          refine take_over (i := 8) (by simp only [List.getElem?_toArray, List.getElem?_cons_succ, List.getElem?_cons_zero]; rfl) (by kernel_rfl) (by kernel_rfl) (by kernel_rfl) rfl (by exact fun _ _ _ h => h) (by rfl) (by assumption) ?_
          try simp only [Act.put, List.setIfInBounds_toArray, List.set_cons_zero, List.set_cons_succ]
          refine take_over (i := 9) (by simp only [List.getElem?_toArray, List.getElem?_cons_succ, List.getElem?_cons_zero]; rfl) (by kernel_rfl) (by kernel_rfl) (by kernel_rfl) rfl (by exact fun _ _ _ h => h) (by rfl) (by assumption) ?_
          try simp only [Act.put, List.setIfInBounds_toArray, List.set_cons_zero, List.set_cons_succ]
          refine take_over (i := 10) (by simp only [List.getElem?_toArray, List.getElem?_cons_succ, List.getElem?_cons_zero]; rfl) (by kernel_rfl) (by kernel_rfl) (by kernel_rfl) rfl (by exact fun _ _ _ h => h) (by rfl) (by assumption) ?_
          try simp only [Act.put, List.setIfInBounds_toArray, List.set_cons_zero, List.set_cons_succ]
          refine take_over (i := 11) (by simp only [List.getElem?_toArray, List.getElem?_cons_succ, List.getElem?_cons_zero]; rfl) (by kernel_rfl) (by kernel_rfl) (by kernel_rfl) rfl (by exact fun _ _ _ h => h) (by rfl) (by assumption) ?_
          try simp only [Act.put, List.setIfInBounds_toArray, List.set_cons_zero, List.set_cons_succ]
          refine take_over (i := 12) (by simp only [List.getElem?_toArray, List.getElem?_cons_succ, List.getElem?_cons_zero]; rfl) (by kernel_rfl) (by kernel_rfl) (by kernel_rfl) rfl (by exact fun _ _ _ h => h) (by rfl) (by assumption) ?_
          try simp only [Act.put, List.setIfInBounds_toArray, List.set_cons_zero, List.set_cons_succ]
          refine take_over (i := 13) (by simp only [List.getElem?_toArray, List.getElem?_cons_succ, List.getElem?_cons_zero]; rfl) (by kernel_rfl) (by kernel_rfl) (by kernel_rfl) rfl (by exact fun _ _ _ h => h) (by rfl) (by assumption) ?_
          try simp only [Act.put, List.setIfInBounds_toArray, List.set_cons_zero, List.set_cons_succ]
          refine take_over (i := 14) (by simp only [List.getElem?_toArray, List.getElem?_cons_succ, List.getElem?_cons_zero]; rfl) (by kernel_rfl) (by kernel_rfl) (by kernel_rfl) rfl (by exact fun _ _ _ h => h) (by rfl) (by assumption) ?_
          try simp only [Act.put, List.setIfInBounds_toArray, List.set_cons_zero, List.set_cons_succ]
          refine take_over (i := 15) (by simp only [List.getElem?_toArray, List.getElem?_cons_succ, List.getElem?_cons_zero]; rfl) (by kernel_rfl) (by kernel_rfl) (by kernel_rfl) rfl (by exact fun _ _ _ h => h) (by rfl) (by assumption) ?_
          try simp only [Act.put, List.setIfInBounds_toArray, List.set_cons_zero, List.set_cons_succ]
          refine take_runs (i := 16) (v := ?_) (by simp only [List.getElem?_toArray, List.getElem?_cons_succ, List.getElem?_cons_zero]; rfl) (by kernel_rfl) (by kernel_rfl) (by kernel_rfl) rfl (by exact fun _ _ _ h => h) (by rfl) ?_ (by assumption) ?_
          rotate_left
          · intro w hSw; (try dsimp only at hSw); go_simp; try (with_reducible rfl)
          try simp only [Act.put, List.setIfInBounds_toArray, List.set_cons_zero, List.set_cons_succ]
          refine take_runs (i := 17) (v := ?_) (by simp only [List.getElem?_toArray, List.getElem?_cons_succ, List.getElem?_cons_zero]; rfl) (by kernel_rfl) (by kernel_rfl) (by kernel_rfl) rfl (by exact fun _ _ _ h => h) (by rfl) ?_ (by assumption) ?_
          rotate_left
          · intro w hSw; (try dsimp only at hSw); go_simp; try (with_reducible rfl)
          try simp only [Act.put, List.setIfInBounds_toArray, List.set_cons_zero, List.set_cons_succ]
          refine wpAnyH_done (by kernel_rfl) ?_ _
          have b11 := hbel.trans ((hW.trans (b10.mono hW.size)).mono hbel.size)
          clear s0 s1 s2 hHeld b9 b10
          try clear s3
          go_wp2
          go_roundw
          case rel => exact ⟨k + 1, by omega, by go_num, HA, b11⟩
          case measure => simp [intOf]; omega
        · obtain ⟨m, hkm⟩ : ∃ m, k = m + 1 := ⟨k - 1, by omega⟩
          have hml : m < cs.length := by omega
          obtain ⟨b', off', cap'', hv', _, hc0, _, _⟩ := condsR_at H1.out hml
          simp only [Value.slice.injEq, Option.some.injEq, Addr.mk.injEq] at hv'
          obtain ⟨⟨rfl, rfl, _⟩, _, rfl⟩ := hv'
          have hg : decide ((0 : Int) < (k : Int)) = true := decide_eq_true (by omega)
          have hgn : decide (0 < k) = true := decide_eq_true (by omega)
          have j1 : (0 : Int) ≤ (m : Int) := by omega
          have j2 : (m : Int) < (cs.length : Int) := by omega
          have hsub : IntKind.i64.wrap ((k : Int) - 1) = (m : Int) := by rw [IntWalk.i64_in _ (by omega)]; omega
          rw [show k - 1 = m by omega] at HBAD HSTEP
          by_cases hle : (cs.getD k c0D).1 ≤ (cs.getD m c0D).1
          · have HF := Lib.hid (HBAD.out (Or.inr ⟨by omega, by omega⟩))
            have hd := decide_eq_true hle
            clear hrb HBAD HSTEP H1 hz hle hkm
            generalize (cs.getD k c0D).1 = cf at *
            generalize (cs.getD k c0D).2.1 = cl at *
            generalize (cs.getD k c0D).2.2 = ch at *
            generalize (cs.getD m c0D).1 = fp at *
            go_wp2
            have hW : Below wr.heap.size wr (wr.alloc (.cells #[.int .i64 cf, .int .i64 cl, .int .i64 ch] 79)) := (Below.refl _ wr).alloc (Nat.le_refl _) _
            have g0 := heap_alloc_new wr (.cells #[.int .i64 cf, .int .i64 cl, .int .i64 ch] 79)
            have hlt2 : wr.heap.size < (wr.alloc (.cells #[.int .i64 cf, .int .i64 cl, .int .i64 ch] 79)).heap.size := by simp
            generalize wr.alloc (.cells #[.int .i64 cf, .int .i64 cl, .int .i64 ch] 79) = W at *
            have q0 := cell_of_row W _ 0 _ _ _ g0
            have q1 := cell_of_row W _ 1 _ _ _ g0
            have q2 := cell_of_row W _ 2 _ _ _ g0
            simp at q0 q1 q2
            have p0 := (hW.cell (p := ⟨b, off + m * 3, none⟩) hbl).trans hc0
            refine wp_region_held_drew (S := fun w' => w'.cell? ⟨wr.heap.size, 0, none⟩ = some (.int .i64 cf) ∧ w'.cell? ⟨wr.heap.size, 1, none⟩ = some (.int .i64 cl) ∧ w'.cell? ⟨wr.heap.size, 2, none⟩ = some (.int .i64 ch) ∧ w'.cell? ⟨b, off + m * 3, none⟩ = some (.int .i64 fp)) (by kernel_rfl) ⟨q0, q1, q2, p0⟩ (fun hHeld => ?_)
            refine take_runs (i := 0) (v := ?_) (by simp only [List.getElem?_toArray, List.getElem?_cons_succ, List.getElem?_cons_zero]; rfl) (by kernel_rfl) (by kernel_rfl) (by kernel_rfl) rfl (by exact fun _ _ _ h => h) (by rfl) ?_ (by assumption) ?_
            rotate_left
            · intro w hSw; (try dsimp only at hSw); go_simp; try (with_reducible rfl)
            try simp only [Act.put, List.setIfInBounds_toArray, List.set_cons_zero, List.set_cons_succ]
            refine wpAnyH_ready (rs := [1]) (by kernel_rfl) (by simp) ?_
            refine AllReadyH.cons (o := _) (by simp only [List.getElem?_toArray, List.getElem?_cons_succ, List.getElem?_cons_zero]; rfl) (fun K hK => ?_) AllReadyH.nil
            go_simp
            refine (HR.out _).mono ?_
            rintro e w8 ⟨rfl, b9⟩
            have b10 : Below W.heap.size W w8 := ⟨b9.os, b9.tape, b9.output, b9.size, b9.block⟩
            have s0 := (b10.cell (p := ⟨wr.heap.size, 0, none⟩) hlt2).trans q0
            have s1 := (b10.cell (p := ⟨wr.heap.size, 1, none⟩) hlt2).trans q1
            have s2 := (b10.cell (p := ⟨wr.heap.size, 2, none⟩) hlt2).trans q2
            have s3 := (b10.cell (p := ⟨b, off + m * 3, none⟩) (Nat.lt_of_lt_of_le hbl hW.size)).trans p0
            refine hK.out _ _ ⟨s0, s1, s2, s3⟩ (fun hHeld => ?_)
            clear hK K
            try simp only [Act.put, List.setIfInBounds_toArray, List.set_cons_zero, List.set_cons_succ]
            refine take_runs (i := 2) (v := ?_) (by simp only [List.getElem?_toArray, List.getElem?_cons_succ, List.getElem?_cons_zero]; rfl) (by kernel_rfl) (by kernel_rfl) (by kernel_rfl) rfl (by exact fun _ _ _ h => h) (by rfl) ?_ (by assumption) ?_
            rotate_left
            · intro w hSw; (try dsimp only at hSw); go_simp; try (with_reducible rfl)
            try simp only [Act.put, List.setIfInBounds_toArray, List.set_cons_zero, List.set_cons_succ]
            refine take_runs (i := 3) (v := ?_) (by simp only [List.getElem?_toArray, List.getElem?_cons_succ, List.getElem?_cons_zero]; rfl) (by kernel_rfl) (by kernel_rfl) (by kernel_rfl) rfl (by exact fun _ _ _ h => h) (by rfl) ?_ (by assumption) ?_
            rotate_left
            · intro w hSw; (try dsimp only at hSw); go_simp; try (with_reducible rfl)
            try simp only [Act.put, List.setIfInBounds_toArray, List.set_cons_zero, List.set_cons_succ]
            refine take_runs (i := 4) (v := ?_) (by simp only [List.getElem?_toArray, List.getElem?_cons_succ, List.getElem?_cons_zero]; rfl) (by kernel_rfl) (by kernel_rfl) (by kernel_rfl) rfl (by exact fun _ _ _ h => h) (by rfl) ?_ (by assumption) ?_
            rotate_left
            · intro w hSw; (try dsimp only at hSw); go_simp; try (with_reducible rfl)
            try simp only [Act.put, List.setIfInBounds_toArray, List.set_cons_zero, List.set_cons_succ]
            refine take_runs (i := 5) (v := ?_) (by simp only [List.getElem?_toArray, List.getElem?_cons_succ, List.getElem?_cons_zero]; rfl) (by kernel_rfl) (by kernel_rfl) (by kernel_rfl) rfl (by exact fun _ _ _ h => h) (by rfl) ?_ (by assumption) ?_
            rotate_left
            · intro w hSw; (try dsimp only at hSw); go_simp; try (with_reducible rfl)
            try simp only [Act.put, List.setIfInBounds_toArray, List.set_cons_zero, List.set_cons_succ]
            refine take_runs (i := 6) (v := ?_) (by simp only [List.getElem?_toArray, List.getElem?_cons_succ, List.getElem?_cons_zero]; rfl) (by kernel_rfl) (by kernel_rfl) (by kernel_rfl) rfl (by exact fun _ _ _ h => h) (by rfl) ?_ (by assumption) ?_
            rotate_left
            · intro w hSw; (try dsimp only at hSw); go_simp; try (with_reducible rfl)
            try simp only [Act.put, List.setIfInBounds_toArray, List.set_cons_zero, List.set_cons_succ]
            refine take_runs (i := 7) (v := ?_) (by simp only [List.getElem?_toArray, List.getElem?_cons_succ, List.getElem?_cons_zero]; rfl) (by kernel_rfl) (by kernel_rfl) (by kernel_rfl) rfl (by exact fun _ _ _ h => h) (by rfl) ?_ (by assumption) ?_
            rotate_left
            · intro w hSw; (try dsimp only at hSw); go_simp; try (with_reducible rfl)
            try simp only [Act.put, List.setIfInBounds_toArray, List.set_cons_zero, List.set_cons_succ]
            refine take_runs (i := 8) (v := ?_) (by simp only [List.getElem?_toArray, List.getElem?_cons_succ, List.getElem?_cons_zero]; rfl) (by kernel_rfl) (by kernel_rfl) (by kernel_rfl) rfl (by exact fun _ _ _ h => h) (by rfl) ?_ (by assumption) ?_
            rotate_left
            · intro w hSw; (try dsimp only at hSw); go_simp; try (with_reducible rfl)
            try simp only [Act.put, List.setIfInBounds_toArray, List.set_cons_zero, List.set_cons_succ]
            refine take_runs (i := 9) (v := ?_) (by simp only [List.getElem?_toArray, List.getElem?_cons_succ, List.getElem?_cons_zero]; rfl) (by kernel_rfl) (by kernel_rfl) (by kernel_rfl) rfl (by exact fun _ _ _ h => h) (by rfl) ?_ (by assumption) ?_
            rotate_left
            · intro w hSw; (try dsimp only at hSw); go_simp; try (with_reducible rfl)
            try simp only [Act.put, List.setIfInBounds_toArray, List.set_cons_zero, List.set_cons_succ]
            refine take_runs (i := 10) (v := ?_) (by simp only [List.getElem?_toArray, List.getElem?_cons_succ, List.getElem?_cons_zero]; rfl) (by kernel_rfl) (by kernel_rfl) (by kernel_rfl) rfl (by exact fun _ _ _ h => h) (by rfl) ?_ (by assumption) ?_
            rotate_left
            · intro w hSw; (try dsimp only at hSw); go_simp; try (with_reducible rfl)
            try simp only [Act.put, List.setIfInBounds_toArray, List.set_cons_zero, List.set_cons_succ]
            refine take_runs (i := 11) (v := ?_) (by simp only [List.getElem?_toArray, List.getElem?_cons_succ, List.getElem?_cons_zero]; rfl) (by kernel_rfl) (by kernel_rfl) (by kernel_rfl) rfl (by exact fun _ _ _ h => h) (by rfl) ?_ (by assumption) ?_
            rotate_left
            · intro w hSw; (try dsimp only at hSw); go_simp; try (with_reducible rfl)
            try simp only [Act.put, List.setIfInBounds_toArray, List.set_cons_zero, List.set_cons_succ]
            refine take_runs (i := 12) (v := ?_) (by simp only [List.getElem?_toArray, List.getElem?_cons_succ, List.getElem?_cons_zero]; rfl) (by kernel_rfl) (by kernel_rfl) (by kernel_rfl) rfl (by exact fun _ _ _ h => h) (by rfl) ?_ (by assumption) ?_
            rotate_left
            · intro w hSw; (try dsimp only at hSw); go_simp; try (with_reducible rfl)
            try simp only [Act.put, List.setIfInBounds_toArray, List.set_cons_zero, List.set_cons_succ]
            refine take_runs (i := 13) (v := ?_) (by simp only [List.getElem?_toArray, List.getElem?_cons_succ, List.getElem?_cons_zero]; rfl) (by kernel_rfl) (by kernel_rfl) (by kernel_rfl) rfl (by exact fun _ _ _ h => h) (by rfl) ?_ (by assumption) ?_
            rotate_left
            · intro w hSw; (try dsimp only at hSw); go_simp; try (with_reducible rfl)
            try simp only [Act.put, List.setIfInBounds_toArray, List.set_cons_zero, List.set_cons_succ]
            refine take_runs (i := 14) (v := ?_) (by simp only [List.getElem?_toArray, List.getElem?_cons_succ, List.getElem?_cons_zero]; rfl) (by kernel_rfl) (by kernel_rfl) (by kernel_rfl) rfl (by exact fun _ _ _ h => h) (by rfl) ?_ (by assumption) ?_
            rotate_left
            · intro w hSw; (try dsimp only at hSw); go_simp; try (with_reducible rfl)
            try simp only [Act.put, List.setIfInBounds_toArray, List.set_cons_zero, List.set_cons_succ]
            refine take_runs (i := 15) (v := ?_) (by simp only [List.getElem?_toArray, List.getElem?_cons_succ, List.getElem?_cons_zero]; rfl) (by kernel_rfl) (by kernel_rfl) (by kernel_rfl) rfl (by exact fun _ _ _ h => h) (by rfl) ?_ (by assumption) ?_
            rotate_left
            · intro w hSw; (try dsimp only at hSw); go_simp; try (with_reducible rfl)
            try simp only [Act.put, List.setIfInBounds_toArray, List.set_cons_zero, List.set_cons_succ]
            refine take_runs (i := 16) (v := ?_) (by simp only [List.getElem?_toArray, List.getElem?_cons_succ, List.getElem?_cons_zero]; rfl) (by kernel_rfl) (by kernel_rfl) (by kernel_rfl) rfl (by exact fun _ _ _ h => h) (by rfl) ?_ (by assumption) ?_
            rotate_left
            · intro w hSw; (try dsimp only at hSw); go_simp; try (with_reducible rfl)
            try simp only [Act.put, List.setIfInBounds_toArray, List.set_cons_zero, List.set_cons_succ]
            refine take_runs (i := 17) (v := ?_) (by simp only [List.getElem?_toArray, List.getElem?_cons_succ, List.getElem?_cons_zero]; rfl) (by kernel_rfl) (by kernel_rfl) (by kernel_rfl) rfl (by exact fun _ _ _ h => h) (by rfl) ?_ (by assumption) ?_
            rotate_left
            · intro w hSw; (try dsimp only at hSw); go_simp; try (with_reducible rfl)
            try simp only [Act.put, List.setIfInBounds_toArray, List.set_cons_zero, List.set_cons_succ]
            refine wpAnyH_done (by kernel_rfl) ?_ _
            have b11 := hbel.trans ((hW.trans (b10.mono hW.size)).mono hbel.size)
            clear s0 s1 s2 hHeld b9 b10
            try clear s3
            go_wp2
            go_ret
            exact ⟨ret_b HF.out.symm, b11⟩
          · have HA := Lib.hid (HSTEP.out hrb (fun _ => by omega))
            have hd := decide_eq_false hle
            clear hrb HBAD HSTEP H1 hz hle hkm
            generalize (cs.getD k c0D).1 = cf at *
            generalize (cs.getD k c0D).2.1 = cl at *
            generalize (cs.getD k c0D).2.2 = ch at *
            generalize (cs.getD m c0D).1 = fp at *
            go_wp2
            have hW : Below wr.heap.size wr (wr.alloc (.cells #[.int .i64 cf, .int .i64 cl, .int .i64 ch] 79)) := (Below.refl _ wr).alloc (Nat.le_refl _) _
            have g0 := heap_alloc_new wr (.cells #[.int .i64 cf, .int .i64 cl, .int .i64 ch] 79)
            have hlt2 : wr.heap.size < (wr.alloc (.cells #[.int .i64 cf, .int .i64 cl, .int .i64 ch] 79)).heap.size := by simp
            generalize wr.alloc (.cells #[.int .i64 cf, .int .i64 cl, .int .i64 ch] 79) = W at *
            have q0 := cell_of_row W _ 0 _ _ _ g0
            have q1 := cell_of_row W _ 1 _ _ _ g0
            have q2 := cell_of_row W _ 2 _ _ _ g0
            simp at q0 q1 q2
            have p0 := (hW.cell (p := ⟨b, off + m * 3, none⟩) hbl).trans hc0
            refine wp_region_held_drew (S := fun w' => w'.cell? ⟨wr.heap.size, 0, none⟩ = some (.int .i64 cf) ∧ w'.cell? ⟨wr.heap.size, 1, none⟩ = some (.int .i64 cl) ∧ w'.cell? ⟨wr.heap.size, 2, none⟩ = some (.int .i64 ch) ∧ w'.cell? ⟨b, off + m * 3, none⟩ = some (.int .i64 fp)) (by kernel_rfl) ⟨q0, q1, q2, p0⟩ (fun hHeld => ?_)
            refine take_runs (i := 0) (v := ?_) (by simp only [List.getElem?_toArray, List.getElem?_cons_succ, List.getElem?_cons_zero]; rfl) (by kernel_rfl) (by kernel_rfl) (by kernel_rfl) rfl (by exact fun _ _ _ h => h) (by rfl) ?_ (by assumption) ?_
            rotate_left
            · intro w hSw; (try dsimp only at hSw); go_simp; try (with_reducible rfl)
            try simp only [Act.put, List.setIfInBounds_toArray, List.set_cons_zero, List.set_cons_succ]
            refine wpAnyH_ready (rs := [1]) (by kernel_rfl) (by simp) ?_
            refine AllReadyH.cons (o := _) (by simp only [List.getElem?_toArray, List.getElem?_cons_succ, List.getElem?_cons_zero]; rfl) (fun K hK => ?_) AllReadyH.nil
            go_simp
            refine (HR.out _).mono ?_
            rintro e w8 ⟨rfl, b9⟩
            have b10 : Below W.heap.size W w8 := ⟨b9.os, b9.tape, b9.output, b9.size, b9.block⟩
            have s0 := (b10.cell (p := ⟨wr.heap.size, 0, none⟩) hlt2).trans q0
            have s1 := (b10.cell (p := ⟨wr.heap.size, 1, none⟩) hlt2).trans q1
            have s2 := (b10.cell (p := ⟨wr.heap.size, 2, none⟩) hlt2).trans q2
            have s3 := (b10.cell (p := ⟨b, off + m * 3, none⟩) (Nat.lt_of_lt_of_le hbl hW.size)).trans p0
            refine hK.out _ _ ⟨s0, s1, s2, s3⟩ (fun hHeld => ?_)
            clear hK K
            try simp only [Act.put, List.setIfInBounds_toArray, List.set_cons_zero, List.set_cons_succ]
            refine take_runs (i := 2) (v := ?_) (by simp only [List.getElem?_toArray, List.getElem?_cons_succ, List.getElem?_cons_zero]; rfl) (by kernel_rfl) (by kernel_rfl) (by kernel_rfl) rfl (by exact fun _ _ _ h => h) (by rfl) ?_ (by assumption) ?_
            rotate_left
            · intro w hSw; (try dsimp only at hSw); go_simp; try (with_reducible rfl)
            try simp only [Act.put, List.setIfInBounds_toArray, List.set_cons_zero, List.set_cons_succ]
            refine take_runs (i := 3) (v := ?_) (by simp only [List.getElem?_toArray, List.getElem?_cons_succ, List.getElem?_cons_zero]; rfl) (by kernel_rfl) (by kernel_rfl) (by kernel_rfl) rfl (by exact fun _ _ _ h => h) (by rfl) ?_ (by assumption) ?_
            rotate_left
            · intro w hSw; (try dsimp only at hSw); go_simp; try (with_reducible rfl)
            try simp only [Act.put, List.setIfInBounds_toArray, List.set_cons_zero, List.set_cons_succ]
            refine take_runs (i := 4) (v := ?_) (by simp only [List.getElem?_toArray, List.getElem?_cons_succ, List.getElem?_cons_zero]; rfl) (by kernel_rfl) (by kernel_rfl) (by kernel_rfl) rfl (by exact fun _ _ _ h => h) (by rfl) ?_ (by assumption) ?_
            rotate_left
            · intro w hSw; (try dsimp only at hSw); go_simp; try (with_reducible rfl)
            try simp only [Act.put, List.setIfInBounds_toArray, List.set_cons_zero, List.set_cons_succ]
            refine take_runs (i := 5) (v := ?_) (by simp only [List.getElem?_toArray, List.getElem?_cons_succ, List.getElem?_cons_zero]; rfl) (by kernel_rfl) (by kernel_rfl) (by kernel_rfl) rfl (by exact fun _ _ _ h => h) (by rfl) ?_ (by assumption) ?_
            rotate_left
            · intro w hSw; (try dsimp only at hSw); go_simp; try (with_reducible rfl)
            try simp only [Act.put, List.setIfInBounds_toArray, List.set_cons_zero, List.set_cons_succ]
            refine take_runs (i := 6) (v := ?_) (by simp only [List.getElem?_toArray, List.getElem?_cons_succ, List.getElem?_cons_zero]; rfl) (by kernel_rfl) (by kernel_rfl) (by kernel_rfl) rfl (by exact fun _ _ _ h => h) (by rfl) ?_ (by assumption) ?_
            rotate_left
            · intro w hSw; (try dsimp only at hSw); go_simp; try (with_reducible rfl)
            try simp only [Act.put, List.setIfInBounds_toArray, List.set_cons_zero, List.set_cons_succ]
            refine take_runs (i := 7) (v := ?_) (by simp only [List.getElem?_toArray, List.getElem?_cons_succ, List.getElem?_cons_zero]; rfl) (by kernel_rfl) (by kernel_rfl) (by kernel_rfl) rfl (by exact fun _ _ _ h => h) (by rfl) ?_ (by assumption) ?_
            rotate_left
            · intro w hSw; (try dsimp only at hSw); go_simp; try (with_reducible rfl)
            try simp only [Act.put, List.setIfInBounds_toArray, List.set_cons_zero, List.set_cons_succ]
            refine take_runs (i := 8) (v := ?_) (by simp only [List.getElem?_toArray, List.getElem?_cons_succ, List.getElem?_cons_zero]; rfl) (by kernel_rfl) (by kernel_rfl) (by kernel_rfl) rfl (by exact fun _ _ _ h => h) (by rfl) ?_ (by assumption) ?_
            rotate_left
            · intro w hSw; (try dsimp only at hSw); go_simp; try (with_reducible rfl)
            try simp only [Act.put, List.setIfInBounds_toArray, List.set_cons_zero, List.set_cons_succ]
            refine take_runs (i := 9) (v := ?_) (by simp only [List.getElem?_toArray, List.getElem?_cons_succ, List.getElem?_cons_zero]; rfl) (by kernel_rfl) (by kernel_rfl) (by kernel_rfl) rfl (by exact fun _ _ _ h => h) (by rfl) ?_ (by assumption) ?_
            rotate_left
            · intro w hSw; (try dsimp only at hSw); go_simp; try (with_reducible rfl)
            try simp only [Act.put, List.setIfInBounds_toArray, List.set_cons_zero, List.set_cons_succ]
            refine take_runs (i := 10) (v := ?_) (by simp only [List.getElem?_toArray, List.getElem?_cons_succ, List.getElem?_cons_zero]; rfl) (by kernel_rfl) (by kernel_rfl) (by kernel_rfl) rfl (by exact fun _ _ _ h => h) (by rfl) ?_ (by assumption) ?_
            rotate_left
            · intro w hSw; (try dsimp only at hSw); go_simp; try (with_reducible rfl)
            try simp only [Act.put, List.setIfInBounds_toArray, List.set_cons_zero, List.set_cons_succ]
            refine take_runs (i := 11) (v := ?_) (by simp only [List.getElem?_toArray, List.getElem?_cons_succ, List.getElem?_cons_zero]; rfl) (by kernel_rfl) (by kernel_rfl) (by kernel_rfl) rfl (by exact fun _ _ _ h => h) (by rfl) ?_ (by assumption) ?_
            rotate_left
            · intro w hSw; (try dsimp only at hSw); go_simp; try (with_reducible rfl)
            try simp only [Act.put, List.setIfInBounds_toArray, List.set_cons_zero, List.set_cons_succ]
            refine take_runs (i := 12) (v := ?_) (by simp only [List.getElem?_toArray, List.getElem?_cons_succ, List.getElem?_cons_zero]; rfl) (by kernel_rfl) (by kernel_rfl) (by kernel_rfl) rfl (by exact fun _ _ _ h => h) (by rfl) ?_ (by assumption) ?_
            rotate_left
            · intro w hSw; (try dsimp only at hSw); go_simp; try (with_reducible rfl)
            try simp only [Act.put, List.setIfInBounds_toArray, List.set_cons_zero, List.set_cons_succ]
            refine take_runs (i := 13) (v := ?_) (by simp only [List.getElem?_toArray, List.getElem?_cons_succ, List.getElem?_cons_zero]; rfl) (by kernel_rfl) (by kernel_rfl) (by kernel_rfl) rfl (by exact fun _ _ _ h => h) (by rfl) ?_ (by assumption) ?_
            rotate_left
            · intro w hSw; (try dsimp only at hSw); go_simp; try (with_reducible rfl)
            try simp only [Act.put, List.setIfInBounds_toArray, List.set_cons_zero, List.set_cons_succ]
            refine take_runs (i := 14) (v := ?_) (by simp only [List.getElem?_toArray, List.getElem?_cons_succ, List.getElem?_cons_zero]; rfl) (by kernel_rfl) (by kernel_rfl) (by kernel_rfl) rfl (by exact fun _ _ _ h => h) (by rfl) ?_ (by assumption) ?_
            rotate_left
            · intro w hSw; (try dsimp only at hSw); go_simp; try (with_reducible rfl)
            try simp only [Act.put, List.setIfInBounds_toArray, List.set_cons_zero, List.set_cons_succ]
            refine take_runs (i := 15) (v := ?_) (by simp only [List.getElem?_toArray, List.getElem?_cons_succ, List.getElem?_cons_zero]; rfl) (by kernel_rfl) (by kernel_rfl) (by kernel_rfl) rfl (by exact fun _ _ _ h => h) (by rfl) ?_ (by assumption) ?_
            rotate_left
            · intro w hSw; (try dsimp only at hSw); go_simp; try (with_reducible rfl)
            try simp only [Act.put, List.setIfInBounds_toArray, List.set_cons_zero, List.set_cons_succ]
            refine take_runs (i := 16) (v := ?_) (by simp only [List.getElem?_toArray, List.getElem?_cons_succ, List.getElem?_cons_zero]; rfl) (by kernel_rfl) (by kernel_rfl) (by kernel_rfl) rfl (by exact fun _ _ _ h => h) (by rfl) ?_ (by assumption) ?_
            rotate_left
            · intro w hSw; (try dsimp only at hSw); go_simp; try (with_reducible rfl)
            try simp only [Act.put, List.setIfInBounds_toArray, List.set_cons_zero, List.set_cons_succ]
            refine take_runs (i := 17) (v := ?_) (by simp only [List.getElem?_toArray, List.getElem?_cons_succ, List.getElem?_cons_zero]; rfl) (by kernel_rfl) (by kernel_rfl) (by kernel_rfl) rfl (by exact fun _ _ _ h => h) (by rfl) ?_ (by assumption) ?_
            rotate_left
            · intro w hSw; (try dsimp only at hSw); go_simp; try (with_reducible rfl)
            try simp only [Act.put, List.setIfInBounds_toArray, List.set_cons_zero, List.set_cons_succ]
            refine wpAnyH_done (by kernel_rfl) ?_ _
            have b11 := hbel.trans ((hW.trans (b10.mono hW.size)).mono hbel.size)
            clear s0 s1 s2 hHeld b9 b10
            try clear s3
            go_wp2
            go_roundw
            case rel => exact ⟨k + 1, by omega, by go_num, HA, b11⟩
            case measure => simp [intOf]; omega
    · obtain rfl : k = cs.length := by omega
      have HA := Lib.hid (HT.out hall.out)
      clear hall
      go_wp2
      go_ret
      exact ⟨ret_b HA.out.symm, hbel⟩
set_option maxHeartbeats 4000000 in
set_option maxRecDepth 100000 in
theorem isOut_any (v : Value) (os : List Int) (w : World) (h : Ints w v os) (hn : os.length ≤ 1048576) :
    Calls Tryd.prog 100 #[v] w fun e w' => e = .returned (.bool (fieldsB os)) ∧ Below w.heap.size w w' := by
  have H := Lib.hid h
  obtain ⟨a, cap, rfl⟩ := ints_len h
  clear h
  by_cases hl : os.length < 1
  · have HF : Hid (fieldsB os = false) := Lib.hid (by unfold fieldsB; rw [decide_eq_false (by omega : ¬ (1 ≤ os.length ∧ os.length ≤ 3)), Bool.and_false])
    have e0 : (os.length : Int) < 1 := by omega
    go_enter Tryd.func100, Tryd.ntmps100
    go_wp2
    go_ret
    exact ⟨ret_b HF.out.symm, Below.refl _ _⟩
  by_cases hg : 3 < os.length
  · have HF : Hid (fieldsB os = false) := Lib.hid (by unfold fieldsB; rw [decide_eq_false (by omega : ¬ (1 ≤ os.length ∧ os.length ≤ 3)), Bool.and_false])
    have e0 : ¬ (os.length : Int) < 1 := by omega
    have e1 : (3 : Int) < (os.length : Int) := by omega
    go_enter Tryd.func100, Tryd.ntmps100
    go_wp2
    go_ret
    exact ⟨ret_b HF.out.symm, Below.refl _ _⟩
  have HT : Hid ((∀ k, k < os.length → 0 ≤ os.getD k 0 ∧ os.getD k 0 ≤ 2) → fieldsB os = true) := Lib.hid (fun g => by rw [fieldsB_all g]; exact decide_eq_true (by omega))
  have e0 : ¬ (os.length : Int) < 1 := by omega
  have e1 : ¬ (3 : Int) < (os.length : Int) := by omega
  go_enter Tryd.func100, Tryd.ntmps100
  go_wp2
  clear e0 e1 hl hg
  go_loopw [15] (fun i wr => ∃ k : Nat, k ≤ os.length ∧ i = .int .i64 k ∧ Hid (∀ j, j < k → 0 ≤ os.getD j 0 ∧ os.getD j 0 ≤ 2) ∧ wr = w) (fun i _ => os.length - (intOf i).toNat)
  case atStart => exact ⟨0, Nat.zero_le _, rfl, Lib.hid (fun j hj => by omega), rfl⟩
  case round =>
    obtain ⟨k, hk, rfl, hall, rfl⟩ := hrel
    by_cases hlt : k < os.length
    · obtain ⟨b, off, cap', hv, hbl, hc⟩ := ints_cell H.out (by omega)
      simp only [Value.slice.injEq] at hv
      obtain ⟨rfl, _, rfl⟩ := hv
      have hcell := hc k hlt
      have i1 : (0 : Int) ≤ (k : Int) := by omega
      have i2 : (k : Int) < (os.length : Int) := by omega
      clear hc
      by_cases hi : 0 ≤ os.getD k 0 ∧ os.getD k 0 ≤ 2
      · have HA : Hid (∀ j, j < k + 1 → 0 ≤ os.getD j 0 ∧ os.getD j 0 ≤ 2) := Lib.hid (fun j hj => by
          by_cases e : j = k
          · subst e; exact hi
          · exact hall.out j (by omega))
        have HI := Lib.hid (fun w => isField_yes (os.getD k 0) w hi.1 (by omega))
        clear hi hall
        generalize os.getD k 0 = x at *
        go_wp2_with fail
        refine (HI.out _).mono ?_
        rintro e w1 ⟨rfl, rfl⟩
        go_wp2
        go_roundw
        case rel => exact ⟨k + 1, by omega, by go_num, HA, by simp⟩
        case measure => simp [intOf]; omega
      · have HF := Lib.hid (fieldsB_bad hlt hi)
        have HI := Lib.hid (fun w => isField_no (os.getD k 0) w (by omega))
        clear hi hall
        generalize os.getD k 0 = x at *
        go_wp2_with fail
        refine (HI.out _).mono ?_
        rintro e w1 ⟨rfl, rfl⟩
        go_wp2
        go_ret
        exact ⟨ret_b HF.out.symm, Below.refl _ _⟩
    · obtain rfl : k = os.length := by omega
      have HE := Lib.hid (HT.out hall.out)
      clear hall
      go_wp2
      go_ret
      exact ⟨ret_b HE.out.symm, Below.refl _ _⟩
set_option maxHeartbeats 4000000 in
set_option maxRecDepth 100000 in
theorem implIsQuery (id tn : Int) (cv ov : Value) (cs : List CondD) (os : List Int) (w : World) (h : CondsR w cv cs) (hn : cs.length ≤ 1048576) (g : Ints w ov os) (hm : os.length ≤ 1048576) :
    Calls Tryd.prog 67 #[qV id tn cv ov] w fun e w' => e = .returned (.bool (queryB id tn cs os)) ∧ Below w.heap.size w w' := by
  obtain ⟨va, vcap, rfl⟩ := condsR_len h
  obtain ⟨oa, ocap, rfl⟩ := ints_len g
  have hb0 : Below w.heap.size w (w.alloc (.cells #[.int .i64 id, .int .i64 tn, .slice va cs.length vcap, .slice oa os.length ocap] 46)) := (Below.refl _ w).alloc (Nat.le_refl _) _
  have HB0 := Lib.hid hb0
  have HG0 := Lib.hid (heap_alloc_new w (.cells #[.int .i64 id, .int .i64 tn, .slice va cs.length vcap, .slice oa os.length ocap] 46))
  have HH := Lib.hid (condsR_below h hb0)
  have HO := Lib.hid (ints_below g hb0)
  have HV := Lib.hid (fun w h => areValid_any (.slice va cs.length vcap) cs w h hn)
  have HU := Lib.hid (fun w h => isOut_any (.slice oa os.length ocap) os w h hm)
  clear h g hn hm hb0
  have HQ : Hid (queryB id tn cs os = (decide (0 ≤ id ∧ id < 24) && (decide (0 ≤ tn ∧ tn < 4) && (condsV cs && fieldsB os)))) := Lib.hid (by
    unfold queryB condsV
    rw [show decide (0 ≤ id ∧ id < 24) = decide (0 ≤ id ∧ id ≤ 23) by congr 1; apply propext; omega, show decide (0 ≤ tn ∧ tn < 4) = decide (0 ≤ tn ∧ tn ≤ 3) by congr 1; apply propext; omega]
    cases condsB cs <;> cases decide (0 ≤ id ∧ id ≤ 23) <;> cases decide (0 ≤ tn ∧ tn ≤ 3) <;> cases decide (cs.length ≤ 3) <;> cases fieldsB os <;> rfl)
  by_cases h1 : 0 ≤ id ∧ id < 24
  · have H1 := Lib.hid (fun w => isQNum_yes id w h1.1 h1.2)
    rw [decide_eq_true h1, Bool.true_and] at HQ
    clear h1
    by_cases h2 : 0 ≤ tn ∧ tn < 4
    · have H2 := Lib.hid (fun w => isTenant_yes tn w h2.1 h2.2)
      rw [decide_eq_true h2, Bool.true_and] at HQ
      clear h2
      cases h3 : condsV cs with
      | false =>
        have HT : Hid (queryB id tn cs os = false) := Lib.hid (by rw [HQ.out, h3, Bool.false_and])
        rw [h3] at HV
        clear h3 HQ
        go_enter Tryd.func67, Tryd.ntmps67
        go_wp2_with fail
        generalize w.alloc (.cells #[.int .i64 id, .int .i64 tn, .slice va cs.length vcap, .slice oa os.length ocap] 46) = W at *
        obtain ⟨p0, p1, p2, p3⟩ := box_cells4 HG0.out (Below.refl _ _)
        refine (H1.out _).mono ?_
        rintro e w1 ⟨rfl, rfl⟩
        go_wp2_with fail
        refine (H2.out _).mono ?_
        rintro e w2 ⟨rfl, rfl⟩
        go_wp2_with fail
        refine (HV.out _ HH.out).mono ?_
        rintro e w3 ⟨rfl, b3⟩
        have c3 := HB0.out.trans (b3.mono HB0.out.size)
        go_wp2
        go_ret
        exact ⟨ret_b HT.out.symm, c3⟩
      | true =>
        have HT : Hid (queryB id tn cs os = fieldsB os) := Lib.hid (by rw [HQ.out, h3, Bool.true_and])
        rw [h3] at HV
        clear h3 HQ
        generalize fieldsB os = r at *
        go_enter Tryd.func67, Tryd.ntmps67
        go_wp2_with fail
        generalize w.alloc (.cells #[.int .i64 id, .int .i64 tn, .slice va cs.length vcap, .slice oa os.length ocap] 46) = W at *
        obtain ⟨p0, p1, p2, p3⟩ := box_cells4 HG0.out (Below.refl _ _)
        refine (H1.out _).mono ?_
        rintro e w1 ⟨rfl, rfl⟩
        go_wp2_with fail
        refine (H2.out _).mono ?_
        rintro e w2 ⟨rfl, rfl⟩
        go_wp2_with fail
        refine (HV.out _ HH.out).mono ?_
        rintro e w3 ⟨rfl, b3⟩
        have c3 := HB0.out.trans (b3.mono HB0.out.size)
        clear p0 p1 p2 p3
        obtain ⟨p0, p1, p2, p3⟩ := box_cells4 HG0.out b3
        have I3 := Lib.hid (ints_below HO.out b3)
        clear b3
        go_wp2_with fail
        refine (HU.out _ I3.out).mono ?_
        rintro e w4 ⟨rfl, b4⟩
        have c4 := c3.trans (b4.mono c3.size)
        go_wp2
        go_ret
        exact ⟨ret_b HT.out.symm, c4⟩
    · have H2 := Lib.hid (fun w => isTenant_no tn w h2)
      have HT : Hid (queryB id tn cs os = false) := Lib.hid (by rw [HQ.out, decide_eq_false h2, Bool.false_and])
      clear h2 HQ
      go_enter Tryd.func67, Tryd.ntmps67
      go_wp2_with fail
      generalize w.alloc (.cells #[.int .i64 id, .int .i64 tn, .slice va cs.length vcap, .slice oa os.length ocap] 46) = W at *
      obtain ⟨p0, p1, p2, p3⟩ := box_cells4 HG0.out (Below.refl _ _)
      refine (H1.out _).mono ?_
      rintro e w1 ⟨rfl, rfl⟩
      go_wp2_with fail
      refine (H2.out _).mono ?_
      rintro e w2 ⟨rfl, rfl⟩
      go_wp2
      go_ret
      exact ⟨ret_b HT.out.symm, HB0.out⟩
  · have H1 := Lib.hid (fun w => isQNum_no id w h1)
    have HT : Hid (queryB id tn cs os = false) := Lib.hid (by rw [HQ.out, decide_eq_false h1, Bool.false_and])
    clear h1 HQ
    go_enter Tryd.func67, Tryd.ntmps67
    go_wp2_with fail
    generalize w.alloc (.cells #[.int .i64 id, .int .i64 tn, .slice va cs.length vcap, .slice oa os.length ocap] 46) = W at *
    obtain ⟨p0, p1, p2, p3⟩ := box_cells4 HG0.out (Below.refl _ _)
    refine (H1.out _).mono ?_
    rintro e w1 ⟨rfl, rfl⟩
    go_wp2
    go_ret
    exact ⟨ret_b HT.out.symm, HB0.out⟩
end Go.Proofs.YteelgogfpidcdaaDoor
namespace Go.Proofs.YteelgogfpidcdaaDoor
open Go.RowKit
set_option linter.unusedVariables false
/-- Only blocks from B up to hi have turned. -/
structure Only (B hi : Nat) (w w' : World) : Prop where
  os : w'.os = w.os
  tape : w'.tape = w.tape
  output : w'.output = w.output
  size : w.heap.size ≤ w'.heap.size
  block : ∀ k, k < w.heap.size → (k < B ∨ hi ≤ k) → w'.heap[k]? = w.heap[k]?
theorem Only.refl (B hi : Nat) (w : World) : Only B hi w w := ⟨rfl, rfl, rfl, Nat.le_refl _, fun _ _ _ => rfl⟩
theorem Only.trans {B hi : Nat} {a b c : World} (h : Only B hi a b) (k : Only B hi b c) : Only B hi a c :=
  ⟨k.os.trans h.os, k.tape.trans h.tape, k.output.trans h.output, Nat.le_trans h.size k.size, fun i hi' hn => (k.block i (Nat.lt_of_lt_of_le hi' h.size) hn).trans (h.block i hi' hn)⟩
theorem only_grown {B hi : Nat} {w w' : World} {row : Option Nat} (h : w.grownBy w' row) (hr : ∀ b, row = some b → B ≤ b ∧ b < hi) : Only B hi w w' :=
  ⟨h.os, h.tape, h.output, h.size, fun k hk hn => h.block k hk (fun e => by have := hr k e.symm; omega)⟩
theorem only_below {B hi C : Nat} {a w w' : World} (h : Below C a w) (k : Only B hi w w') (hC : C ≤ B) (hs : C ≤ w.heap.size) : Below C a w' :=
  h.trans ⟨k.os, k.tape, k.output, k.size, fun i hi' => k.block i (by omega) (Or.inl (by omega))⟩
/-- What reads in blocks below B reads so. -/
theorem rowsR_only {B hi : Nat} {W w w' : World} {v : Value} {rs : List RowD} (h : RowsR W v rs) (hb : Below W.heap.size W w) (k : Only B hi w w') (hB : W.heap.size ≤ B) : RowsR w' v rs :=
  rowsR_below h (only_below hb k hB hb.size)
/-- The mark of row j. -/
def mkAt (rs : List RowD) (k : Int) (j : Nat) : Int := k + (j : Int) + ((((rs.take j).map fun r => r.2.length).sum : Nat) : Int)
def mRow (rs : List RowD) (k : Int) (j : Nat) : RowD := (mkAt rs k j, marks (mkAt rs k j + 1) (rs.getD j (0, [])).2.length)
def markTo (rs : List RowD) (k : Int) (j : Nat) : List RowD := (List.range j).map (mRow rs k) ++ rs.drop j
def mRows (rs : List RowD) (k : Int) : List RowD := (List.range rs.length).map (mRow rs k)
theorem mkAt_zero (rs : List RowD) (k : Int) : mkAt rs k 0 = k := by simp [mkAt]
theorem mkAt_step {rs : List RowD} {k : Int} {j : Nat} (hj : j < rs.length) : mkAt rs k (j + 1) = mkAt rs k j + 1 + ((rs.getD j (0, [])).2.length : Int) := by
  unfold mkAt
  have e : rs.getD j (0, []) = rs[j] := by simp [List.getD, hj]
  rw [e, List.take_succ_eq_append_getElem hj, List.map_append, List.sum_append]
  simp; omega
theorem mkAt_range {rs : List RowD} {k : Int} {j : Nat} (hs : szL rs ≤ 1048576) (hj : j ≤ rs.length) : k ≤ mkAt rs k j ∧ mkAt rs k j ≤ k + 1048576 := by
  have h1 := szTo_le hj
  unfold szTo at h1
  unfold mkAt
  omega
theorem markTo_len {rs : List RowD} {k : Int} {j : Nat} (hj : j ≤ rs.length) : (markTo rs k j).length = rs.length := by simp [markTo]; omega
theorem markTo_at {rs : List RowD} {k : Int} {j : Nat} (hj : j < rs.length) : (markTo rs k j).getD j (0, []) = rs.getD j (0, []) := by
  unfold markTo
  simp only [List.getD]
  rw [List.getElem?_append_right (by simp), List.getElem?_drop]
  simp
theorem markTo_step {rs : List RowD} {k : Int} {j : Nat} (hj : j < rs.length) : (markTo rs k j).set j (mRow rs k j) = markTo rs k (j + 1) := by
  unfold markTo
  rw [List.set_append_right _ _ (by simp), List.drop_eq_getElem_cons hj, List.range_succ, List.map_append]
  simp only [List.length_map, List.length_range, Nat.sub_self, List.set_cons_zero, List.map_cons, List.map_nil, List.append_assoc, List.cons_append, List.nil_append]
theorem markTo_all (rs : List RowD) (k : Int) : markTo rs k rs.length = mRows rs k := by simp [markTo, mRows]
theorem markTo_zero (rs : List RowD) (k : Int) : markTo rs k 0 = rs := by simp [markTo]
end Go.Proofs.YteelgogfpidcdaaDoor
